import Derived.Test.YtnliphgjcaippaaGreatDoorHwaa
import Derived.Deep.MidRow
import Derived.Deep.Quiet
import Derived.Laws.StructEq
import Derived.Laws.IdiomCopy
import Derived.Laws.NewBlocks
import Derived.Test.YtnliphgjcaippaaGreatDoorHwab
import Derived.StillTailTactics
import Derived.Deep.WholeRow
import Derived.Laws.AppendOwn
import Derived.Laws.OwnMore
import Derived.Test.YtnliphgjcaippaaGreatDoorHwZ
namespace Go.Proofs.YtnliphgjcaippaaGreatDoor
open Go.RowKit
set_option maxRecDepth 100000
set_option linter.unusedVariables false
abbrev Blk := Vector UInt8 64
def ar : Blk := Vector.replicate 64 0
def cel (b : Blk) : List Value := b.toList.map fun u => .int .u8 (u.toNat : Int)
def blk (b : Blk) : Value := .agg (cel b).toArray
def byt (b : Blk) (j : Nat) : Int := bt b.toList j
theorem byt_get (b : Blk) {j : Nat} (h : j < 64) : byt b j = (b[j].toNat : Int) := by
  unfold byt
  rw [cU (by simpa using h)]
  simp
theorem aC (b : Blk) : (cel b).length = 64 := by simp [cel]
theorem cel_at (b : Blk) {j : Nat} (h : j < 64) : (cel b)[j]? = some (.int .u8 (byt b j)) := by
  rw [byt_get b h]
  simp [cel, h]
theorem cel_one (b : Blk) : ∀ v ∈ cel b, v.oneCell' = true := by
  intro v hv
  simp only [cel, List.mem_map] at hv
  obtain ⟨u, _, rfl⟩ := hv
  rfl
theorem blk_ext {a b : Blk} (h : ∀ j, j < 64 → byt a j = byt b j) : a = b := by
  apply Vector.ext
  intro i hi
  have := h i hi
  rw [byt_get a hi, byt_get b hi] at this
  exact UInt8.toNat_inj.1 (by omega)
theorem cells_blk (b : Blk) : (blk b).cells = (cel b).toArray := rfl
theorem infoB : (Tryz.prog.info? 58).map (fun i => (i.zero, i.size, i.bytes)) = some (some (blk ar), 64, 64) := by kernel_rfl
theorem undB : Tryz.prog.underlying 58 = some (.array 64 5) := Tryz.underlying58
theorem sizeB : (Tryz.prog.info? 58).map (·.size) = some 64 := by kernel_rfl
theorem guardB : Tryz.prog.eqGuardType Tryz.prog.depth 58 = false := by kernel_rfl
section
variable {w : World} {b off : Nat} {c : Blk}
theorem run_load (hc : w.rangeAt b off (cel c)) : (Instr.loadAt 58 (.pointer (some ⟨b, off, none⟩))).run Tryz.prog w = .ok (blk c) w :=
  run_loadAt_mid w b off 58 (cel c) _ hc undB rfl (by rw [aC]; exact sizeB)
theorem run_store (ht : w.there b off 64) : (Instr.storeAt 58 (.pointer (some ⟨b, off, none⟩)) (blk c)).run Tryz.prog w = .ok () (w.setCells b off (cel c)) := by
  have := run_storeAt_mid (P := Tryz.prog) w b off 58 (cel c).toArray (by simpa [aC] using ht) (by simpa [aC] using sizeB) (all_oneCell_toArray (cel_one c))
  simpa [blk] using this
theorem run_zeroB (w : World) : (zeroValue 58).run Tryz.prog w = .ok (blk ar) w := by
  have h := infoB
  cases hq : Tryz.prog.info? 58 with
  | none => rw [hq] at h; cases h
  | some i =>
    rw [hq] at h
    simp only [Option.map_some, Option.some.injEq, Prod.mk.injEq] at h
    simp [zeroValue, typeInfo, hq, h.1]
theorem run_newVar (w : World) (v : Value) : (newVar 58 v).run Tryz.prog w = .ok ⟨w.heap.size, 0, none⟩ (w.alloc (.cells v.cells 58)) := by
  simp [newVar, newRow]
theorem run_box (w : World) (c : Blk) : (Instr.box 58 (blk c)).run Tryz.prog w = .ok (.pointer (some ⟨w.heap.size, 0, none⟩)) (w.alloc (.cells (cel c).toArray 58)) := by
  simp [Instr.box, run_newVar, cells_blk]
theorem run_alloc (w : World) : (Instr.alloc 58 true (.tuple #[])).run Tryz.prog w = .ok (.pointer (some ⟨w.heap.size, 0, none⟩)) (w.alloc (.cells (cel ar).toArray 58)) := by
  simp only [Instr.alloc, Sem.run_bind, run_zeroB, Result.andThen_ok, run_newVar, Sem.run_pure, cells_blk]
end
theorem run_partB (w : World) (c : Blk) (i : Nat) (hi : i < 64) : (part 5 (cel c).toArray (i * 1)).run Tryz.prog w = .ok (.int .u8 (byt c i)) w := by
  have := cel_at c hi
  simp [part, this]
theorem run_eqB (w : World) (a b : Blk) (d : Nat) : (Op.equalIn (d + 2) 58 (blk a) (blk b)).run Tryz.prog w = .ok (decide (a = b)) w := by
  have he : ∀ x y : Int, (Op.equalIn (d + 1) 5 (.int .u8 x) (.int .u8 y)).run Tryz.prog w = .ok (x == y) w := fun x y => run_equalIn_int w d 5 .u8 .u8 x y Tryz.underlying5
  show (Op.equalIn ((d + 1) + 1) 58 (blk a) (blk b)).run Tryz.prog w = .ok (decide (a = b)) w
  generalize d + 1 = e at *
  have key : ∀ (l : List Nat), (∀ i ∈ l, i < 64) →
      ((forIn l ((none : Option Bool), ()) fun i r => do
        let x ← part 5 (cel a).toArray (i * 1)
        let y ← part 5 (cel b).toArray (i * 1)
        let z ← Op.equalIn e 5 x y
        if (!z) = true then pure (ForInStep.done (some false, ())) else pure (ForInStep.yield (none, ())) : Sem _)).run Tryz.prog w =
      .ok (if l.all (fun i => byt a i == byt b i) then (none, ()) else (some false, ())) w := by
    intro l
    induction l with
    | nil => intro _; simp
    | cons i l ih =>
      intro hl
      have hi := hl i (by simp)
      simp only [List.forIn_cons, Sem.run_bind, run_partB w a i hi, run_partB w b i hi, Result.andThen_ok, he]
      by_cases h : byt a i = byt b i
      · have hb : (byt a i == byt b i) = true := by simpa using h
        simp only [hb, Bool.not_true, Bool.false_eq_true, if_false, Sem.run_pure, Result.andThen_ok, List.all_cons, Bool.true_and]
        exact ih fun j hj => hl j (by simp [hj])
      · have hb : (byt a i == byt b i) = false := by simpa using h
        simp [hb]
  have hall : ((List.range' 0 64).all fun i => byt a i == byt b i) = decide (a = b) := by
    rw [Bool.eq_iff_iff, List.all_eq_true, decide_eq_true_iff]
    constructor
    · intro h
      exact blk_ext fun j hj => by simpa using h j (by simp [List.mem_range']; omega)
    · rintro rfl i _
      simp
  have hk := key (List.range' 0 64) (fun i hi => by simp [List.mem_range'] at hi; omega)
  rw [hall] at hk
  simp only [Op.equalIn, blk, Sem.run_bind, run_underlying undB, Result.andThen_ok, Tryz.sizeOf5, Std.Legacy.Range.forIn_eq_forIn_range']
  simp only [Std.Legacy.Range.size, Nat.sub_zero, Nat.add_sub_cancel, Nat.div_one]
  rw [hk]
  by_cases h : a = b
  · simp [h]
  · simp [h]
section
variable {ρ : Operand → Value} {o : Oper} {x y : Operand} {w : World} {b off : Nat} {c d : Blk}
theorem bj (ho : o.op = .load 58 x) (hx : ρ x = .pointer (some ⟨b, off, none⟩)) (hc : w.rangeAt b off (cel c)) : (execOp ρ o).run Tryz.prog w = .ok (.value (blk c)) w := by
  unfold execOp
  simp only [ho, hx, Sem.run_bind, run_load hc, Result.andThen_ok, Sem.run_pure]
theorem bh (ho : o.op = .store 58 x y) (hx : ρ x = .pointer (some ⟨b, off, none⟩)) (hy : ρ y = blk c) (ht : w.there b off 64) : (execOp ρ o).run Tryz.prog w = .ok .skip (w.setCells b off (cel c)) := by
  unfold execOp
  simp only [ho, hx, hy, Sem.run_bind, run_store ht, Result.andThen_ok, Sem.run_pure]
theorem exec_fill (ho : o.op = .store 58 x y) (hx : ρ x = .pointer (some ⟨w.heap.size, 0, none⟩)) (hy : ρ y = blk c) : (execOp ρ o).run Tryz.prog (w.alloc (.cells (cel d).toArray 58)) = .ok .skip (w.alloc (.cells (cel c).toArray 58)) := by
  have h := run_storeAt_new (P := Tryz.prog) w 58 (cel d).toArray (cel c).toArray (by simpa [aC] using sizeB) (by simp [aC]) (all_oneCell_toArray (cel_one c))
  unfold execOp
  simp only [ho, hx, hy, Sem.run_bind]
  unfold blk
  rw [h]
  simp
theorem bW (ho : o.op = .box 58 x) (hx : ρ x = blk c) : (execOp ρ o).run Tryz.prog w = .ok (.value (.pointer (some ⟨w.heap.size, 0, none⟩))) (w.alloc (.cells (cel c).toArray 58)) := by
  unfold execOp
  simp only [ho, hx, Sem.run_bind, run_box, Result.andThen_ok, Sem.run_pure]
theorem a4 (ho : o.op = .alloc 58) : (execOp ρ o).run Tryz.prog w = .ok (.value (.pointer (some ⟨w.heap.size, 0, none⟩))) (w.alloc (.cells (cel ar).toArray 58)) := by
  unfold execOp
  simp only [ho, Sem.run_bind, run_alloc, Result.andThen_ok, Sem.run_pure]
theorem run_guardB (op : BinOp) (x y : Operand) (c d : Blk) (w : World) : (eqGuard op 58 x y (blk c) (blk d)).run Tryz.prog w = .ok () w := run_eqGuard_agg w op _ x y _ _ guardB
theorem exec_eql {t : TypeId} (ho : o.op = .binOp .eql 58 x y t) (hx : ρ x = blk c) (hy : ρ y = blk d) : (execOp ρ o).run Tryz.prog w = .ok (.value (.bool (decide (c = d)))) w := by
  have h := run_eql_struct (P := Tryz.prog) w 58 (cel c).toArray (cel d).toArray
  have he := run_eqB w c d 9998
  unfold blk at he
  rw [he] at h
  unfold execOp
  simp only [ho, hx, hy, Sem.run_bind, run_guardB, Result.andThen_ok]
  unfold blk
  rw [h]
  simp
theorem exec_neq {t : TypeId} (ho : o.op = .binOp .neq 58 x y t) (hx : ρ x = blk c) (hy : ρ y = blk d) : (execOp ρ o).run Tryz.prog w = .ok (.value (.bool (!decide (c = d)))) w := by
  have h := run_neq_struct (P := Tryz.prog) w 58 (cel c).toArray (cel d).toArray
  have he := run_eqB w c d 9998
  unfold blk at he
  rw [he] at h
  unfold execOp
  simp only [ho, hx, hy, Sem.run_bind, run_guardB, Result.andThen_ok]
  unfold blk
  rw [h]
  simp
theorem run_build {parts : List (Nat × Value)} (h : Instr.fill (fun i => some (i * 1, 1)) (cel ar).toArray parts = some (cel c).toArray) (w : World) : (Instr.build 58 parts.toArray).run Tryz.prog w = .ok (blk c) w := by
  simp only [Instr.build, Sem.run_bind, run_zeroB, run_underlying undB, Result.andThen_ok, Tryz.sizeOf5, cells_blk, h, Sem.run_pure]
  rfl
theorem cg {parts : List (Nat × Operand)} (ho : o.op = .build 58 parts.toArray) (h : Instr.fill (fun i => some (i * 1, 1)) (cel ar).toArray (parts.map fun (i, x) => (i, ρ x)) = some (cel c).toArray) : (execOp ρ o).run Tryz.prog w = .ok (.value (blk c)) w := by
  unfold execOp
  simp only [ho, List.map_toArray, Sem.run_bind, run_build h, Result.andThen_ok, Sem.run_pure]
end
theorem dy {ρ : Operand → Value} {o : Oper} {x y : Operand} {w : World} {c : Blk} (ho : o.op = .store 58 x y) (hx : ρ x = .pointer (some ⟨w.heap.size, 0, none⟩)) (hy : ρ y = blk c) : (execOp ρ o).run Tryz.prog (w.alloc (.cells (cel ar).toArray 58)) = .ok .skip (w.alloc (.cells (cel c).toArray 58)) := exec_fill ho hx hy
theorem exec_eqlB {ρ : Operand → Value} {o : Oper} {x y : Operand} {w : World} {c d : Blk} {t : TypeId} (b : Bool) (ho : o.op = .binOp .eql 58 x y t) (hx : ρ x = blk c) (hy : ρ y = blk d) (h : decide (c = d) = b) : (execOp ρ o).run Tryz.prog w = .ok (.value (.bool b)) w := by
  subst h; exact exec_eql ho hx hy
theorem bU {fn : Func} {p u : Tmp} {c : Blk} (h : fn.results = #[.cell p 58, .tmp u]) (tmps : Array Value) (w : World) (b : Nat) (hp : tmps.getD p undef = .pointer (some ⟨b, 0, none⟩)) (hc : w.rangeAt b 0 (cel c)) :
    (results fn tmps).run Tryz.prog w = .ok (.tuple #[blk c, tmps.getD u undef]) w := by
  have hl : (loadVar 58 ⟨b, 0, none⟩).run Tryz.prog w = .ok (blk c) w := run_loadVar_mid w b 0 58 (cel c) _ hc undB rfl (by rw [aC]; exact sizeB)
  have hp' : tmps[p]?.getD undef = .pointer (some ⟨b, 0, none⟩) := by simpa using hp
  simp [results, h, hp', asAddr, hl]
section
variable {w w' : World} {B b o n : Nat} {cs : List Value} {c : Blk}
theorem dk (w : World) (c : Blk) (t : TypeId) : (w.alloc (.cells (cel c).toArray t)).there w.heap.size 0 64 := fun j hj => by
  rw [cell_of_row _ _ (0 + j) _ t (0, 0) (heap_alloc_new w _), frozen_of_row _ _ (0 + j) _ t (heap_alloc_new w _)]
  exact ⟨by simp [aC]; omega, rfl⟩
theorem there_row {g m : Nat} {t : TypeId} {f : Nat → Value} (h : w.rowIs g t m f) (ho : o + n ≤ m) : w.there g o n := fun j hj => by
  rw [h.cell (i := o + j) (by omega), h.frozen (o + j)]
  exact ⟨rfl, rfl⟩
end
structure Only (F : Nat → Prop) (w w' : World) : Prop where
  os : w'.os = w.os
  tape : w'.tape = w.tape
  output : w'.output = w.output
  size : w.heap.size ≤ w'.heap.size
  block : ∀ k, k < w.heap.size → ¬ F k → w'.heap[k]? = w.heap[k]?
section
variable {F G : Nat → Prop} {w w1 w2 a : World} {B : Nat}
theorem Only.refl (F : Nat → Prop) (w : World) : Only F w w := ⟨rfl, rfl, rfl, Nat.le_refl _, fun _ _ _ => rfl⟩
theorem Only.trans (h : Only F w w1) (k : Only G w1 w2) (hG : ∀ b, G b → F b ∨ w.heap.size ≤ b) : Only F w w2 :=
  ⟨k.os.trans h.os, k.tape.trans h.tape, k.output.trans h.output, Nat.le_trans h.size k.size, fun b hb hn =>
    (k.block b (Nat.lt_of_lt_of_le hb h.size) (fun hg => by rcases hG b hg with e | e; exact hn e; omega)).trans (h.block b hb hn)⟩
theorem Only.widen (h : Only F w w1) (hG : ∀ b, F b → G b) : Only G w w1 := ⟨h.os, h.tape, h.output, h.size, fun b hb hn => h.block b hb fun e => hn (hG b e)⟩
theorem Only.of_below (F : Nat → Prop) (h : Below w.heap.size w w1) : Only F w w1 := ⟨h.os, h.tape, h.output, h.size, fun b hb _ => h.block b hb⟩
theorem Only.below (h : Only F w w1) (hF : ∀ b, F b → B ≤ b) (hB : B ≤ w.heap.size) : Below B w w1 := ⟨h.os, h.tape, h.output, h.size, fun b hb => h.block b (by omega) fun e => by have := hF b e; omega⟩
theorem Only.then_below (h : Only F w w1) (k : Below w1.heap.size w1 w2) : Only F w w2 := h.trans (Only.of_below F k) fun _ hb => .inl hb
theorem Only.drew (h : Only F w w1) : Only F w w1.drew := ⟨h.os, h.tape, h.output, h.size, h.block⟩
theorem Only.alloc (h : Only F w w1) (o : Obj) : Only F w (w1.alloc o) := h.then_below ((Below.refl _ _).alloc (Nat.le_refl _) o)
theorem Only.setCell (h : Only F w w1) {p : Addr} (hp : F p.block ∨ w.heap.size ≤ p.block) (u : Value) : Only F w (w1.setCell p u) :=
  ⟨h.os, h.tape, h.output, by have := h.size; simpa [World.setCell] using this, fun b hb hn => (Below.heap_setCell w1 p u b (fun e => by subst e; rcases hp with e | e; exact hn e; omega)).trans (h.block b hb hn)⟩
theorem Only.grown {row : Option Nat} (h : Only F w w1) (hg : w1.grownBy w2 row) (hr : ∀ k, row = some k → F k ∨ w.heap.size ≤ k) : Only F w w2 :=
  ⟨hg.os.trans h.os, hg.tape.trans h.tape, hg.output.trans h.output, Nat.le_trans h.size hg.size, fun b hb hn =>
    (hg.block b (Nat.lt_of_lt_of_le hb h.size) (fun e => by rcases hr b e.symm with e | e; exact hn e; omega)).trans (h.block b hb hn)⟩
theorem Only.keep {o : Obj} {b : Nat} (h : Only F w w1) (hb : w.heap[b]? = some o) (hn : ¬ F b) : w1.heap[b]? = some o := (h.block b (Array.getElem?_eq_some_iff.1 hb).1 hn).trans hb
theorem Only.cell (h : Only F w w1) {p : Addr} (hp : p.block < w.heap.size) (hn : ¬ F p.block) : w1.cell? p = w.cell? p := World.cell?_of_block (w := w) (h.block _ hp hn)
end
def BlkE : Elt Blk where
  s := 116
  t := 58
  n := 64
  by_ := 64
  cel := cel
  d := ar
  z := blk ar
  pos := by omega
  small := by omega
  len := aC
  one := cel_one
  und := Tryz.underlying116
  info := infoB
  zc := by rw [cells_blk]; simp [aC]
def db (p : Int × Blk) : List Value := .int .i64 p.1 :: cel p.2
def pairV (n : Int) (b : Blk) : Value := .agg (.int .i64 n :: cel b).toArray
theorem cel65_length (p : Int × Blk) : (db p).length = 65 := by simp [db, aC]
theorem cel65_one (p : Int × Blk) : ∀ v ∈ db p, v.oneCell' = true := by
  intro v hv
  simp only [db, List.mem_cons] at hv
  rcases hv with rfl | hv
  · rfl
  · exact cel_one p.2 v hv
def pairE (s t : TypeId) (und : Tryz.prog.underlying s = some (.slice t)) (info : (Tryz.prog.info? t).map (fun i => (i.zero, i.size, i.bytes)) = some (some (pairV 0 ar), 65, 72)) : Elt (Int × Blk) where
  s := s
  t := t
  n := 65
  by_ := 72
  cel := db
  d := (0, ar)
  z := pairV 0 ar
  pos := by omega
  small := by omega
  len := cel65_length
  one := cel65_one
  und := und
  info := info
  zc := by show (Value.cells (.agg _)).size = 65; simp [Value.cells, aC]
theorem RdE.blk {w : World} {B n k : Nat} {A : Option Addr} {l : List Blk} (h : RdE BlkE w B A n l) (hk : k < n) : ∃ b off, A = some ⟨b, off, none⟩ ∧ b < B ∧ w.rangeAt b (off + k * 64) (cel (l.getD k ar)) := h.2 k hk
theorem Only.setCells {F : Nat → Prop} {w w1 : World} {b : Nat} (h : Only F w w1) (hb : F b ∨ w.heap.size ≤ b) : ∀ (vs : List Value) (o : Nat), Only F w (w1.setCells b o vs) := by
  intro vs
  induction vs generalizing w1 with
  | nil => intro o; exact h
  | cons v r ih => intro o; exact ih (h.setCell (p := ⟨b, o, none⟩) hb v) (o + 1)
theorem blk_laid {w : World} {b : Nat} {t : TypeId} {c d : Blk} (h : w.heap[b]? = some (.cells (cel c).toArray t (0, 0))) : (w.setCells b 0 (cel d)).heap[b]? = some (.cells (cel d).toArray t (0, 0)) := by
  have := heap_put b t [] (cel d) (cel c) [] w (by rw [aC, aC]) (by simpa using h)
  simpa using this
theorem blk_range {w : World} {b : Nat} {t : TypeId} {c : Blk} (h : w.heap[b]? = some (.cells (cel c).toArray t (0, 0))) : w.rangeAt b 0 (cel c) := fun j v hj => by
  rw [cell_of_row _ _ (0 + j) (cel c).toArray t (0, 0) h]
  simpa using hj
theorem da {w : World} {b : Nat} {t : TypeId} {c : Blk} (h : w.heap[b]? = some (.cells (cel c).toArray t (0, 0))) : w.there b 0 64 := fun j hj => by
  rw [cell_of_row _ _ (0 + j) _ t (0, 0) h, frozen_of_row _ _ (0 + j) _ t h]
  exact ⟨by simp [aC]; omega, rfl⟩
section
variable {P : Program} {ops : Array Oper} {Q : Exit → Act → World → Prop} {md : Region.Mode} {S : World → Prop} {z : Nat}
def di (P : Program) (md : Region.Mode) (ops : Array Oper) (Q : Exit → Act → World → Prop) (S : World → Prop) (z : Nat) : Nat → Array Bool → Act → World → Prop
  | 0, listed, a, w => Region.ready md ops listed = [] ∧ Q .normal a w
  | fuel + 1, listed, a, w =>
    (Region.ready md ops listed = [] → Q .normal a w) ∧
    ∀ i ∈ Region.ready md ops listed, wpOp P ops Q i (fun a' w' => (i ≠ z → S w') ∧ di P md ops Q S z fuel (listed.setIfInBounds i true) a' w') a w
theorem wpAny_of_Z : ∀ (fuel : Nat) (listed : Array Bool) (a : Act) (w : World), di P md ops Q S z fuel listed a w → wpAny P md ops Q fuel listed a w
  | 0, _, _, _, h => h
  | fuel + 1, _, _, _, h => ⟨h.1, fun i hi => wpOp_mono (fun a' w' h' => wpAny_of_Z fuel _ a' w' h'.2) (h.2 i hi)⟩
def waitsB (md : Region.Mode) (ops : Array Oper) (z i : Nat) : Bool := match ops[z]? with
  | some o => o.after.any fun e => Region.binds md e && decide (e.on = i)
  | none => false
theorem waits_spec {listed : Array Bool} {i : Nat} (h : waitsB md ops z i = true) (hi : listed.getD i false = false) : z ∉ Region.ready md ops listed := by
  intro hz
  obtain ⟨_, o, ho, hall⟩ := mem_ready.1 hz
  unfold waitsB at h
  rw [ho] at h
  simp only [Array.any_eq_true, Bool.and_eq_true, decide_eq_true_eq] at h
  obtain ⟨k, hk, hb, he⟩ := h
  have := hall _ (Array.getElem_mem hk) hb
  rw [he, hi] at this
  cases this
theorem un_of {listed : Array Bool} {i : Nat} (h : listed.getD i true = false) : listed.getD i false = false := by
  rcases Nat.lt_or_ge i listed.size with h' | h'
  · simpa [h'] using h
  · simp [Array.getElem?_eq_none h']
theorem wpAnyZ_first {i : Nat} {oi : Oper} {v : Value} (hi : ops[i]? = some oi) (hsel : ∀ (j : Nat) (o : Oper) cs b, ops[j]? = some o → o.op ≠ .select cs b)
    (hQ : ∀ c a w, Q (.panic c) (a.put oi.dst v) w → Q (.panic c) a w) (hiz : i ≠ z) (hwz : waitsB md ops z i = true) :
    ∀ (fuel : Nat) (listed : Array Bool) (a : Act) (w : World),
      (∀ j oj, ops[j]? = some oj → j ≠ i → listed.getD j true = false → (∀ e ∈ oj.after, Region.binds md e = true → e.on ≠ i) → oi.apart ops oj = true) →
      i ∈ Region.ready md ops listed → YieldsIf P ops S oi v a → S w →
      di P md ops Q S z fuel (listed.setIfInBounds i true) (a.put oi.dst v) w → di P md ops Q S z (fuel + 1) listed a w := by
  intro fuel
  induction fuel with
  | zero =>
    intro listed a w _ hr hy hS H
    refine ⟨fun h => (by rw [h] at hr; cases hr), fun j hj => ?_⟩
    by_cases hji : j = i
    · subst hji; exact hy.wpOp hi hS ⟨fun _ => hS, H⟩
    · have := ready_mono hj hji
      rw [H.1] at this
      cases this
  | succ fuel ih =>
    intro listed a w hfree hr hy hS H
    refine ⟨fun h => (by rw [h] at hr; cases hr), fun j hj => ?_⟩
    by_cases hji : j = i
    · subst hji; exact hy.wpOp hi hS ⟨fun _ => hS, H⟩
    · have h1 := H.2 j (ready_mono hj hji)
      obtain ⟨hjun, oj, hoj, hall⟩ := mem_ready.1 hj
      have hjz : j ≠ z := fun e => by
        subst e
        exact waits_spec hwz (un_of (mem_ready.1 hr).1) hj
      have hnot : ∀ e ∈ oj.after, Region.binds md e = true → e.on ≠ i := fun e he hb heq => by
        have h1 := hall e he hb
        rw [heq, un_of (mem_ready.1 hr).1] at h1
        cases h1
      have h2 := wpOp_putIf hoj (hfree j oj hoj hji hjun hnot) (fun cs b => hsel i oi cs b hi) (fun cs b => hsel j oj cs b hoj) hQ hy h1
      have hfree' : ∀ k ok, ops[k]? = some ok → k ≠ i → (listed.setIfInBounds j true).getD k true = false →
          (∀ e ∈ ok.after, Region.binds md e = true → e.on ≠ i) → oi.apart ops ok = true := fun k ok hk hki hun hno => by
        refine hfree k ok hk hki ?_ hno
        by_cases hjk : j = k
        · subst hjk; exact hjun
        · rw [getD_set_ne true hjk] at hun; exact hun
      refine wpOp_mono (fun a' w' h3 => ⟨h3.2.1, ih (listed.setIfInBounds j true) a' w' hfree' (ready_mono hr (Ne.symm hji)) h3.1 (h3.2.1 hjz) ?_⟩) h2
      rw [Array.setIfInBounds_comm _ _ hji]
      exact h3.2.2
theorem wpAnyZ_all {rs : List Nat} {fuel : Nat} {listed : Array Bool} {a : Act} {w : World} (hr : Region.ready md ops listed = rs) (hne : rs ≠ [])
    (h : ∀ i ∈ rs, wpOp P ops Q i (fun a' w' => (i ≠ z → S w') ∧ di P md ops Q S z fuel (listed.setIfInBounds i true) a' w') a w) : di P md ops Q S z (fuel + 1) listed a w :=
  ⟨fun h0 => absurd (hr ▸ h0) hne, hr ▸ h⟩
theorem wpAnyZ_done {listed : Array Bool} {a : Act} {w : World} (hr : Region.ready md ops listed = []) (h : Q .normal a w) :
    ∀ fuel, di P md ops Q S z fuel listed a w
  | 0 => ⟨hr, h⟩
  | _ + 1 => ⟨fun _ => h, by rw [hr]; simp⟩
theorem wp_region_last {id : Nat} {a : Act} {w : World} (S : World → Prop) (z : Nat) (hm : P.follows .mixedOrders = true)
    (h : di P .any ops Q S z ops.size (Array.replicate ops.size false) a w.drew) : (Code.region id ops true).wp P Q a w :=
  wp_region_any hm (wpAny_of_Z _ _ _ _ h)
end
section
variable {P : Program} {md : Region.Mode} {l : List Oper} {Q : Exit → Act → World → Prop} {S : World → Prop} {z fuel : Nat} {listed : Array Bool} {a : Act} {w w' : World} {o : Oper} {v : Value}
theorem dE (i : Nat) (hi : l[i]? = some o) (hs : Region.noSelect l.toArray = true) (hf : Region.free md l.toArray listed i = true) (hr : (Region.ready md l.toArray listed).contains i = true) (hiz : i ≠ z) (hwz : waitsB md l.toArray z i = true)
    (hw : Region.wanted o (yielded l.toArray a.tmps) = true) (h : ∀ w, S w → (execOp a.eval o).run P w = .ok (.value v) w) (hQ : ∀ c a w, Q (.panic c) (a.put o.dst v) w → Q (.panic c) a w) (hS : S w)
    (hk : di P md l.toArray Q S z fuel (listed.setIfInBounds i true) (a.put o.dst v) w) : di P md l.toArray Q S z (fuel + 1) listed a w :=
  wpAnyZ_first (by simpa using hi) (Region.noSelect_spec hs) hQ hiz hwz fuel listed a w (Region.free_spec (by simpa using hi) hf) (by simpa using hr) (.inl ⟨hw, h⟩) hS hk
theorem last_turn (i : Nat) (hi : l[i]? = some o) (hr : Region.ready md l.toArray listed = [i]) (hw : Region.wanted o (yielded l.toArray a.tmps) = true) (h : (execOp a.eval o).run P w = .ok (.value v) w')
    (hS : i ≠ z → S w') (hk : di P md l.toArray Q S z fuel (listed.setIfInBounds i true) (a.put o.dst v) w') : di P md l.toArray Q S z (fuel + 1) listed a w :=
  wpAnyZ_all hr (by simp) fun j hj => by
    obtain rfl : j = i := by simpa using hj
    unfold wpOp
    simp only [List.getElem?_toArray, hi, hw, if_true]
    refine .inl ?_
    unfold Oper.wp
    rw [h]
    exact ⟨hS, hk⟩
theorem last_nul (i : Nat) (hi : l[i]? = some o) (hr : Region.ready md l.toArray listed = [i]) (hw : Region.wanted o (yielded l.toArray a.tmps) = true) (h : (execOp a.eval o).run P w = .ok .skip w')
    (hS : i ≠ z → S w') (hk : di P md l.toArray Q S z fuel (listed.setIfInBounds i true) (a.put o.dst undef) w') : di P md l.toArray Q S z (fuel + 1) listed a w :=
  wpAnyZ_all hr (by simp) fun j hj => by
    obtain rfl : j = i := by simpa using hj
    unfold wpOp
    simp only [List.getElem?_toArray, hi, hw, if_true]
    refine .inl ?_
    unfold Oper.wp
    rw [h]
    exact ⟨hS, hk⟩
end
theorem underS : Tryz.prog.underlying 116 = some (.slice 58) := Tryz.underlying116
def flat (l : List Blk) : List Value := l.flatMap cel
theorem flat_cons (x : Blk) (l : List Blk) : flat (x :: l) = cel x ++ flat l := rfl
theorem flat_length (l : List Blk) : (flat l).length = l.length * 64 := by
  induction l with
  | nil => rfl
  | cons x l ih => rw [flat_cons, List.length_append, aC, ih, List.length_cons]; omega
theorem flat_at (l : List Blk) {k j : Nat} (hk : k < l.length) (hj : j < 64) : (flat l)[k * 64 + j]? = (cel (l.getD k ar))[j]? := by
  induction l generalizing k with
  | nil => simp at hk
  | cons x l ih =>
    rw [flat_cons]
    cases k with
    | zero => rw [Nat.zero_mul, Nat.zero_add, List.getElem?_append_left (by rw [aC]; exact hj)]; rfl
    | succ k =>
      rw [List.getElem?_append_right (by rw [aC]; omega), aC, show (k + 1) * 64 + j - 64 = k * 64 + j from by omega, ih (by simpa using hk)]
      rfl
section
variable {ρ : Operand → Value} {o : Oper} {x y : Operand} {w : World} {n : Nat}
theorem exec_make (ho : o.op = .makeSlice 116 x y) (hx : ρ x = .int .i64 (n : Int)) (hy : ρ y = .int .i64 (n : Int)) (hn : n ≤ 4398046511104) :
    (execOp ρ o).run Tryz.prog w = .ok (.value (.slice (some ⟨w.heap.size, 0, none⟩) n n)) (w.alloc (.cells (madeCells (cel ar).toArray (n * 64)) 58)) := by
  obtain ⟨i0, hi, hz0, hz1, hz2⟩ := info_parts infoB
  have hr := run_make (P := Tryz.prog) w 116 58 i0 (blk ar) underS hi hz0 .i64 .i64 n n (by omega) (Int.le_refl _) (by rw [hz2]; omega) (by omega)
  rw [hz1, cells_blk] at hr
  simp only [Int.toNat_natCast] at hr
  unfold execOp
  simp only [ho, hx, hy, Sem.run_bind, hr, Result.andThen_ok, Sem.run_pure]
end
theorem flat_zeros (n : Nat) : (flat (List.replicate n ar)).toArray = madeCells (cel ar).toArray (n * 64) := by
  apply Array.ext
  · rw [size_madeCells, List.size_toArray, flat_length, List.length_replicate]
  · intro j h1 h2
    rw [size_madeCells] at h2
    have hk : j / 64 < (List.replicate n ar).length := by rw [List.length_replicate]; omega
    have := flat_at (List.replicate n ar) hk (j := j % 64) (by omega)
    rw [show j / 64 * 64 + j % 64 = j from by omega] at this
    have hz : (List.replicate n ar).getD (j / 64) ar = ar := by
      rw [List.getD, List.getElem?_replicate]
      split <;> rfl
    rw [hz, cel_at ar (by omega)] at this
    have hc := cel_at ar (j := j % 64) (by omega)
    have e1 : (flat (List.replicate n ar)).toArray[j] = .int .u8 (byt ar (j % 64)) := by
      rw [List.getElem?_eq_getElem (by simpa using h1)] at this
      simpa using this
    have e2 : (madeCells (cel ar).toArray (n * 64))[j]'(by rw [size_madeCells]; exact h2) = .int .u8 (byt ar (j % 64)) := by
      have hj : j % 64 < (cel ar).length := by rw [aC]; omega
      rw [List.getElem?_eq_getElem hj] at hc
      simp only [madeCells, Array.getElem_map, Array.getElem_range, List.size_toArray, aC]
      rw [getElem!_pos (cel ar).toArray (j % 64) (by simpa using hj)]
      simpa using hc
    rw [e1, e2]
section
variable {α : Type} {E : Elt α} {w w' : World} {B p : Nat} {v : Value} {l : List α} {F : Nat → Prop}
theorem aY.only (h : aY E w B v l) (k : Only F w w') (hn : ∀ b, v.ownBlock = some b → ¬ F b) : aY E w' B v l := by
  refine ⟨h.1, ?_⟩
  rcases h.2 with hn' | ⟨g, cap, cur, rfl, hbg, hg, rest⟩
  · exact .inl hn'
  · exact .inr ⟨g, cap, cur, rfl, hbg, (k.block g (Array.getElem?_eq_some_iff.1 hg).1 (hn g rfl)).trans hg, rest⟩
theorem aY.own_lt (h : aY E w B v l) : ∀ b, v.ownBlock = some b → b < w.heap.size := by
  intro b hb
  rcases h.2 with ⟨rfl, _⟩ | ⟨g, cap, cur, rfl, _, hg, _⟩
  · simp [Value.ownBlock] at hb
  · simp [Value.ownBlock] at hb; subst hb; exact (Array.getElem?_eq_some_iff.1 hg).1
theorem aY.not_at (h : aY E w B v l) {cs : Array Value} {t : TypeId} {fr : Nat × Nat} (hp : w.heap[p]? = some (.cells cs t fr)) (ht : E.t ≠ t) : v.ownBlock ≠ some p := by
  intro e
  rcases h.2 with ⟨rfl, _⟩ | ⟨g, cap, cur, rfl, _, hg, _⟩
  · simp [Value.ownBlock] at e
  · simp [Value.ownBlock] at e
    subst e
    rw [hp] at hg
    simp at hg
    exact ht hg.2.1.symm
end
def foot (p : Nat) (vS vL : Value) (k : Nat) : Prop := k = p ∨ vS.ownBlock = some k ∨ vL.ownBlock = some k
def ch (S : List Blk) (g : Bool) (n : Int) : Int := if 0 ≤ n ∧ n < S.length then (if g = true then 9 else 0) else 2
theorem askE_out {S : List Blk} {n : Int} (g : Bool) (h : ¬(0 ≤ n ∧ n < S.length)) : ch S g n = 2 := by unfold ch; rw [if_neg h]
theorem askE_dead {S : List Blk} {n : Int} (h : 0 ≤ n ∧ n < S.length) : ch S true n = 9 := by unfold ch; rw [if_pos h]; rfl
theorem dH {S : List Blk} {n : Int} (h : 0 ≤ n ∧ n < S.length) : ch S false n = 0 := by unfold ch; rw [if_pos h]; rfl
def sureB (S : List Blk) (g : Bool) (n : Int) : Blk := if ch S g n = 0 then S.getD n.toNat ar else ar
theorem sureB_no {S : List Blk} {g : Bool} {n : Int} (h : ch S g n ≠ 0) : sureB S g n = ar := by unfold sureB; rw [if_neg h]
theorem sureB_ok {S : List Blk} {g : Bool} {k : Nat} (h : ch S g (k : Int) = 0) : sureB S g (k : Int) = S.getD k ar := by unfold sureB; rw [if_pos h]; rfl
theorem dL {S : List Blk} {g : Bool} {n : Int} : ch S g n = 2 ∨ ch S g n = 9 ∨ (ch S g n = 0 ∧ g = false ∧ ∃ k : Nat, n = k ∧ k < S.length) := by
  unfold ch
  split
  · rename_i h
    cases g
    · exact .inr (.inr ⟨rfl, rfl, n.toNat, by omega, by omega⟩)
    · exact .inr (.inl rfl)
  · exact .inl rfl
def lastW (L : List (Int × Blk)) (n : Int) (b : Blk) : Blk := L.foldl (fun b q => if q.1 = n then q.2 else b) b
theorem lastW_succ {L : List (Int × Blk)} {i : Nat} (n : Int) (b : Blk) (hi : i < L.length) : lastW (L.take (i + 1)) n b = if (L.getD i (0, ar)).1 = n then (L.getD i (0, ar)).2 else lastW (L.take i) n b := by
  rw [List.take_add_one, List.getD, List.getElem?_eq_getElem hi]
  simp only [lastW, Option.toList_some, List.foldl_append, List.foldl_cons, List.foldl_nil, Option.getD_some]
def readB (S : List Blk) (L : List (Int × Blk)) (g : Bool) (n : Int) : Blk := if ch S g n = 0 then lastW L n (S.getD n.toNat ar) else ar
theorem readB_no {S : List Blk} {L : List (Int × Blk)} {g : Bool} {n : Int} (h : ch S g n ≠ 0) : readB S L g n = ar := by unfold readB; rw [if_neg h]
theorem readB_ok {S : List Blk} {L : List (Int × Blk)} {g : Bool} {k : Nat} (h : ch S g (k : Int) = 0) : readB S L g (k : Int) = lastW L k (S.getD k ar) := by unfold readB; rw [if_pos h]; rfl
section
variable {w w' : World} {p : Nat} {vS vL : Value} {S : List Blk} {L : List (Int × Blk)} {g : Bool}
theorem only_set (w : World) (p i : Nat) (v : Value) : Only (fun b => b = p) w (w.setCell ⟨p, i, none⟩ v) := (Only.refl (fun b => b = p) w).setCell (p := ⟨p, i, none⟩) (.inl rfl) v
theorem ldB {a : Addr} {A : Option Addr} {n c : Nat} (h : w.cell? a = some (.slice A n c)) : (Instr.loadAt 116 (.pointer (some a))).run Tryz.prog w = .ok (.slice A n c) w := by simp [go_sem, h]
end
def wrL (S : List Blk) (L : List (Int × Blk)) (g : Bool) (n : Int) (b : Blk) : List (Int × Blk) := if ch S g n = 0 then L ++ [(n, b)] else L
theorem exec_index0 {α : Type} {E : Elt α} {ρ : Operand → Value} {o : Oper} {x y : Operand} {w : World} {b n c j : Nat} (ho : o.op = .indexAddr E.s x y) (hx : ρ x = .slice (some ⟨b, 0, none⟩) n c) (hy : ρ y = .int .i64 (j : Int)) (hj : j < n) : (execOp ρ o).run Tryz.prog w = .ok (.value (.pointer (some ⟨b, j * E.n, none⟩))) w := by
  have := exec_indexE (E := E) (ρ := ρ) (w := w) ho hx hy hj
  rwa [Nat.zero_add] at this
theorem aY.slice {α : Type} {E : Elt α} {w : World} {B n : Nat} {v : Value} {l : List α} (h : aY E w B v l) (hn : l.length = n) (hl : 0 < n) : ∃ g c, v = .slice (some ⟨g, 0, none⟩) n c := by
  subst hn
  rcases h.2 with ⟨_, h0⟩ | ⟨g, cap, cur, rfl, _⟩
  · omega
  · exact ⟨g, cap, rfl⟩
section
variable {w : World} {p b off gg n c k : Nat} {vL : Value} {S : List Blk} {L : List (Int × Blk)} {g : Bool}
theorem ldI {a : Addr} {x : Int} (h : w.cell? a = some (.int .i64 x)) : (Instr.loadAt 3 (.pointer (some a))).run Tryz.prog w = .ok (.int .i64 x) w := by simp [go_sem, h]
end
def flS (S : List Blk) (L : List (Int × Blk)) : List Blk := L.foldl (fun S q => S.set q.1.toNat q.2) S
theorem flS_len (S : List Blk) (L : List (Int × Blk)) : (flS S L).length = S.length := by
  unfold flS
  induction L generalizing S with
  | nil => rfl
  | cons q L ih => rw [List.foldl_cons, ih, List.length_set]
theorem flS_succ {S : List Blk} {L : List (Int × Blk)} {i : Nat} (hi : i < L.length) : flS S (L.take (i + 1)) = (flS S (L.take i)).set (L.getD i (0, ar)).1.toNat (L.getD i (0, ar)).2 := by
  rw [List.take_add_one, List.getD, List.getElem?_eq_getElem hi]
  simp only [flS, Option.toList_some, List.foldl_append, List.foldl_cons, List.foldl_nil, Option.getD_some]
def Fit (S : List Blk) (L : List (Int × Blk)) : Prop := ∀ q ∈ L, 0 ≤ q.1 ∧ q.1 < S.length
theorem Fit.at_ {S : List Blk} {L : List (Int × Blk)} (h : Fit S L) {i : Nat} (hi : i < L.length) : ∃ k : Nat, (L.getD i (0, ar)).1 = k ∧ k < S.length := by
  have := h _ (List.getElem_mem hi)
  refine ⟨(L.getD i (0, ar)).1.toNat, ?_, ?_⟩
  · simp only [List.getD, List.getElem?_eq_getElem hi, Option.getD_some]; omega
  · simp only [List.getD, List.getElem?_eq_getElem hi, Option.getD_some]; omega
theorem exec_ix0B {ρ : Operand → Value} {o : Oper} {x y : Operand} {w : World} {b n c j : Nat} (ho : o.op = .indexAddr 116 x y) (hx : ρ x = .slice (some ⟨b, 0, none⟩) n c) (hy : ρ y = .int .i64 (j : Int)) (hj : j < n) : (execOp ρ o).run Tryz.prog w = .ok (.value (.pointer (some ⟨b, j * 64, none⟩))) w := exec_index0 (E := BlkE) ho hx hy hj
def Grow (w : World) (F F' : Nat → Prop) : Prop := ∀ b, F' b → F b ∨ w.heap.size ≤ b
section
variable {w w' : World} {F G : Nat → Prop} {p : Nat} {S : List Blk} {L : List (Int × Blk)} {g : Bool}
theorem Grow.same (w : World) (F : Nat → Prop) : Grow w F F := fun _ h => .inl h
end
theorem Fit.nil (S : List Blk) : Fit S [] := fun q h => by cases h
theorem Fit.wr {S : List Blk} {L : List (Int × Blk)} (g : Bool) (n : Int) (b : Blk) (h : Fit S L) : Fit S (wrL S L g n b) := by
  unfold wrL
  split
  · rename_i he
    rcases dL (S := S) (g := g) (n := n) with h1 | h1 | ⟨_, rfl, k, rfl, hk⟩
    · omega
    · omega
    · intro q hq
      rcases List.mem_append.1 hq with hq | hq
      · exact h q hq
      · simp at hq; subst hq; exact ⟨by simp, by simpa using hk⟩
  · exact h
structure Dev where
  Dv : World → (Nat → Prop) → Nat → List Blk → List (Int × Blk) → Bool → Prop
  lt : ∀ {w F p S L g}, Dv w F p S L g → ∀ b, F b → b < w.heap.size
  only : ∀ {w w' F G p S L g}, Dv w F p S L g → Only G w w' → (∀ b, F b → ¬ G b) → Dv w' F p S L g
  fit : ∀ {w F p S L g}, Dv w F p S L g → Fit S L ∧ 1 ≤ S.length
  cap : ∀ {w F p S L g}, Dv w F p S L g → S.length ≤ 512
  new_ok : ∀ (k : Nat) (w : World), 1 ≤ k → k ≤ 512 → Calls Tryz.prog 32 #[.int .i64 k] w fun e w' => ∃ p F, e = .returned (.tuple #[.pointer (some ⟨p, 0, none⟩), .int .i64 0]) ∧ Dv w' F p (List.replicate k ar) [] false ∧ Below w.heap.size w w' ∧ ∀ b, F b → w.heap.size ≤ b
  new_no : ∀ (n : Int) (w : World), ¬(1 ≤ n ∧ n ≤ 512) → Calls Tryz.prog 32 #[.int .i64 n] w fun e w' => e = .returned (.tuple #[.pointer none, .int .i64 2]) ∧ Below w.heap.size w w'
  read : ∀ {w F p S L g} (n : Int), Dv w F p S L g → Calls Tryz.prog 102 #[.pointer (some ⟨p, 0, none⟩), .int .i64 n] w fun e w' => e = .returned (.tuple #[blk (readB S L g n), .int .i64 (ch S g n)]) ∧ Below w.heap.size w w'
  sure : ∀ {w F p S L g} (n : Int), Dv w F p S L g → Calls Tryz.prog 51 #[.pointer (some ⟨p, 0, none⟩), .int .i64 n] w fun e w' => e = .returned (.tuple #[blk (sureB S g n), .int .i64 (ch S g n)]) ∧ Below w.heap.size w w'
  write : ∀ {w F p S L g} (n : Int) (b : Blk), L.length < 1000000 → Dv w F p S L g → Calls Tryz.prog 105 #[.pointer (some ⟨p, 0, none⟩), .int .i64 n, blk b] w fun e w' => e = .returned (.int .i64 (ch S g n)) ∧ ∃ F', Dv w' F' p S (wrL S L g n b) g ∧ Only F w w' ∧ Grow w F F'
  flush : ∀ {w F p S L g}, Dv w F p S L g → Calls Tryz.prog 107 #[.pointer (some ⟨p, 0, none⟩)] w fun e w' => e = .returned (.int .i64 (if g = true then 9 else 0)) ∧ ∃ F', Dv w' F' p (if g = true then S else flS S L) (if g = true then L else []) g ∧ Only F w w' ∧ Grow w F F'
  fail : ∀ {w F p S L g}, Dv w F p S L g → Calls Tryz.prog 48 #[.pointer (some ⟨p, 0, none⟩)] w fun e w' => e = .returned (.int .i64 0) ∧ ∃ F', Dv w' F' p S [] true ∧ Only F w w' ∧ Grow w F F'
  dead : ∀ {w F p S L g}, Dv w F p S L g → Calls Tryz.prog 106 #[.pointer (some ⟨p, 0, none⟩)] w fun e w' => e = .returned (.bool g) ∧ Below w.heap.size w w'
  cx : ∀ {w F p S L g}, Dv w F p S L g → Calls Tryz.prog 113 #[.pointer (some ⟨p, 0, none⟩)] w fun e w' => e = .returned (.int .i64 (S.length : Int)) ∧ Below w.heap.size w w'
theorem Grow.above {w : World} {F F' : Nat → Prop} {B : Nat} (h : Grow w F F') (hF : ∀ b, F b → B ≤ b) (hB : B ≤ w.heap.size) : ∀ b, F' b → B ≤ b := fun b hb => by
  rcases h b hb with e | e
  · exact hF b e
  · omega
structure DevS where
  S : List Blk
  L : List (Int × Blk)
  g : Bool
structure BenS where
  ds : List DevS
  left : Nat
  bL : Bool
  steps : Nat
def bl : DevS := ⟨[], [], false⟩
def BenS.dev (M : BenS) (d : Int) : DevS := M.ds.getD d.toNat bl
theorem BenS.dev_nat (M : BenS) (k : Nat) : M.dev (k : Int) = M.ds.getD k bl := rfl
def hasE (M : BenS) (d : Int) : Int := if 0 ≤ d ∧ d < M.ds.length then 0 else 2
def litE (M : BenS) (d : Int) : Int := if M.bL = true then 8 else hasE M d
theorem hasE_is (M : BenS) (d : Int) : (hasE M d = 2 ∧ ¬(0 ≤ d ∧ d < M.ds.length)) ∨ (hasE M d = 0 ∧ ∃ k : Nat, d = k ∧ k < M.ds.length) := by
  unfold hasE
  by_cases h : 0 ≤ d ∧ d < M.ds.length
  · rw [if_pos h]; exact .inr ⟨rfl, d.toNat, by omega, by omega⟩
  · rw [if_neg h]; exact .inl ⟨rfl, h⟩
theorem hasE_ok {M : BenS} {k : Nat} (h : k < M.ds.length) : hasE M (k : Int) = 0 := by unfold hasE; rw [if_pos (by omega)]
theorem litE_dark {M : BenS} {d : Int} (h : M.bL = true) : litE M d = 8 := by unfold litE; rw [if_pos h]
theorem litE_light {M : BenS} {d : Int} (h : M.bL = false) : litE M d = hasE M d := by unfold litE; rw [if_neg (by rw [h]; decide)]
theorem dm (M : BenS) (d : Int) : (litE M d = 8 ∧ M.bL = true) ∨ (litE M d = 2 ∧ M.bL = false ∧ ¬(0 ≤ d ∧ d < M.ds.length)) ∨ (litE M d = 0 ∧ M.bL = false ∧ ∃ k : Nat, d = k ∧ k < M.ds.length) := by
  cases h : M.bL
  · rw [litE_light h]
    rcases hasE_is M d with ⟨e, h1⟩ | ⟨e, h1⟩
    · exact .inr (.inl ⟨e, rfl, h1⟩)
    · exact .inr (.inr ⟨e, rfl, h1⟩)
  · exact .inl ⟨litE_dark h, rfl⟩
theorem litE_ok {M : BenS} {k : Nat} (hd : M.bL = false) (h : k < M.ds.length) : litE M (k : Int) = 0 := by rw [litE_light hd, hasE_ok h]
def BenS.put (M : BenS) (k : Nat) (x : DevS) : BenS := { M with ds := M.ds.set k x }
def BenS.stepE (M : BenS) : Int := if M.left = 1 then 8 else 0
def BenS.done (M : BenS) : BenS := { M with left := M.left - 1, steps := M.steps + 1 }
def BenS.night (M : BenS) : BenS := { M with bL := true }
def bF (M : BenS) (d n : Int) : Int := if litE M d = 0 then ch (M.dev d).S (M.dev d).g n else litE M d
def rdB6 (M : BenS) (d n : Int) : Blk := if litE M d = 0 then readB (M.dev d).S (M.dev d).L (M.dev d).g n else ar
def suE6 (M : BenS) (d n : Int) : Int := if hasE M d = 0 then ch (M.dev d).S (M.dev d).g n else hasE M d
def suB6 (M : BenS) (d n : Int) : Blk := if hasE M d = 0 then sureB (M.dev d).S (M.dev d).g n else ar
def cG (M : BenS) (d n : Int) : Int := if bF M d n = 0 then M.stepE else bF M d n
def wrS6 (M : BenS) (d n : Int) (b : Blk) : BenS := if bF M d n = 0 then (if M.left = 1 then M.night else M.done.put d.toNat ⟨(M.dev d).S, wrL (M.dev d).S (M.dev d).L (M.dev d).g n b, (M.dev d).g⟩) else M
def flA6 (M : BenS) (d : Int) : Int := if litE M d = 0 then (if (M.dev d).g = true then 9 else 0) else litE M d
def flE6 (M : BenS) (d : Int) : Int := if flA6 M d = 0 then M.stepE else flA6 M d
def flS6 (M : BenS) (d : Int) : BenS := if flA6 M d = 0 then (if M.left = 1 then M.night else M.done.put d.toNat ⟨flS (M.dev d).S (M.dev d).L, [], (M.dev d).g⟩) else M
def faS6 (M : BenS) (d : Int) : BenS := if hasE M d = 0 then M.put d.toNat ⟨(M.dev d).S, [], true⟩ else M
def seN6 (M : BenS) (d : Int) : Int := if hasE M d = 0 then ((M.dev d).S.length : Int) else 0
def deG6 (M : BenS) (d : Int) : Bool := if hasE M d = 0 then (M.dev d).g else false
def dq (ks : List Int) : BenS := ⟨ks.map fun k => ⟨List.replicate k.toNat ar, [], false⟩, 0, false, 0⟩
def newOk (ks : List Int) : Prop := 1 ≤ ks.length ∧ ks.length ≤ 17 ∧ ∀ k ∈ ks, 1 ≤ k ∧ k ≤ 512
def Room (M : BenS) (k : Nat) : Prop := M.steps + k ≤ 1000000 ∧ M.left < 9223372036854775808 ∧ ∀ d ∈ M.ds, d.L.length + k ≤ 1000000
theorem getD_mem {α : Type} {l : List α} {k : Nat} {x : α} (h : k < l.length) : l.getD k x ∈ l := by
  rw [List.getD_eq_getElem?_getD, List.getElem?_eq_getElem h]; exact List.getElem_mem h
theorem Room.less {M : BenS} {k : Nat} (h : Room M (k + 1)) : Room M k := ⟨by have := h.1; omega, h.2.1, fun d hd => by have := h.2.2 d hd; omega⟩
theorem Room.at_ {M : BenS} {k i : Nat} (h : Room M (k + 1)) (hi : i < M.ds.length) : (M.ds.getD i bl).L.length < 1000000 := by have := h.2.2 _ (getD_mem (x := bl) hi); omega
theorem mem_set_or {α : Type} {l : List α} {k : Nat} {x y : α} (h : y ∈ l.set k x) : y ∈ l ∨ y = x := by
  rcases List.mem_or_eq_of_mem_set h with h | h
  · exact .inl h
  · exact .inr h
theorem Room.put {M : BenS} {k i : Nat} {x : DevS} (h : Room M k) (hx : x.L.length + k ≤ 1000000) : Room (M.put i x) k :=
  ⟨h.1, h.2.1, fun d hd => by
    rcases mem_set_or hd with e | e
    · exact h.2.2 d e
    · subst e; exact hx⟩
theorem Room.done {M : BenS} {k : Nat} (h : Room M (k + 1)) : Room M.done k := ⟨by have := h.1; show M.steps + 1 + k ≤ _; omega, by have := h.2.1; show M.left - 1 < _; omega, fun d hd => by have := h.2.2 d hd; omega⟩
theorem wrL_le (S : List Blk) (L : List (Int × Blk)) (g : Bool) (n : Int) (b : Blk) : (wrL S L g n b).length ≤ L.length + 1 := by
  unfold wrL; split
  · simp
  · omega
theorem room_wr {M : BenS} {k : Nat} (h : Room M (k + 1)) (d n : Int) (b : Blk) : Room (wrS6 M d n b) k := by
  unfold wrS6
  split
  · rename_i he
    split
    · exact h.less
    · have hh : ∃ i : Nat, d = i ∧ i < M.ds.length := by
        rcases dm M d with ⟨e, _⟩ | ⟨e, _⟩ | ⟨e, _, h⟩
        · unfold bF at he; rw [if_neg (by omega)] at he; omega
        · unfold bF at he; rw [if_neg (by omega)] at he; omega
        · exact h
      obtain ⟨i, rfl, hi⟩ := hh
      refine (h.done).put ?_
      have h1 := wrL_le (M.dev (i : Int)).S (M.dev (i : Int)).L (M.dev (i : Int)).g n b
      have h2 := h.2.2 _ (getD_mem (x := bl) hi)
      have h3 : (M.dev (i : Int)).L.length + (k + 1) ≤ 1000000 := h2
      show (wrL _ _ _ _ _).length + k ≤ _
      omega
  · exact h.less
theorem room_fl {M : BenS} {k : Nat} (h : Room M (k + 1)) (d : Int) : Room (flS6 M d) k := by
  unfold flS6
  split
  · split
    · exact h.less
    · exact (h.done).put (by have := h.1; show 0 + k ≤ _; omega)
  · exact h.less
structure DvK where
  Dv : World → (Nat → Prop) → Nat → List Blk → List (Int × Blk) → Bool → Prop
  lt : ∀ {w F p S L g}, Dv w F p S L g → ∀ b, F b → b < w.heap.size
  only : ∀ {w w' F G p S L g}, Dv w F p S L g → Only G w w' → (∀ b, F b → ¬ G b) → Dv w' F p S L g
structure Devs (K : DvK) (w : World) (Fs : Nat → Nat → Prop) (ps : List Nat) (ds : List DevS) : Prop where
  len : ps.length = ds.length
  at_ : ∀ i, i < ds.length → K.Dv w (Fs i) (ps.getD i 0) (ds.getD i bl).S (ds.getD i bl).L (ds.getD i bl).g
  off : ∀ i j, i < ds.length → j < ds.length → i ≠ j → ∀ b, Fs i b → ¬ Fs j b
def upF (Fs : Nat → Nat → Prop) (k : Nat) (F' : Nat → Prop) : Nat → Nat → Prop := fun i b => (i = k ∧ F' b) ∨ (i ≠ k ∧ Fs i b)
theorem upF_at (Fs : Nat → Nat → Prop) (k : Nat) (F' : Nat → Prop) : upF Fs k F' k = F' := by
  funext b; simp [upF]
theorem upF_off (Fs : Nat → Nat → Prop) {k i : Nat} (F' : Nat → Prop) (h : i ≠ k) : upF Fs k F' i = Fs i := by
  funext b; simp [upF, h]
theorem getD_set_at {α : Type} {l : List α} {k : Nat} {x d : α} (h : k < l.length) : (l.set k x).getD k d = x := by simp [List.getD, h]
theorem getD_set_off {α : Type} {l : List α} {k i : Nat} {x d : α} (h : i ≠ k) : (l.set k x).getD i d = l.getD i d := by simp [List.getD, List.getElem?_set_ne (Ne.symm h)]
section
variable {K : DvK} {w w' : World} {Fs : Nat → Nat → Prop} {ps : List Nat} {ds : List DevS} {G F' : Nat → Prop} {k : Nat}
theorem Devs.lt (h : Devs K w Fs ps ds) : ∀ i, i < ds.length → ∀ b, Fs i b → b < w.heap.size := fun i hi b hb => K.lt (h.at_ i hi) b hb
theorem Devs.only (h : Devs K w Fs ps ds) (k : Only G w w') (hn : ∀ i, i < ds.length → ∀ b, Fs i b → ¬ G b) : Devs K w' Fs ps ds :=
  ⟨h.len, fun i hi => K.only (h.at_ i hi) k (hn i hi), h.off⟩
theorem Devs.set (h : Devs K w Fs ps ds) (hk : k < ds.length) (ho : Only G w w') (hG : ∀ i, i < ds.length → i ≠ k → ∀ b, Fs i b → ¬ G b) (hg : Grow w (Fs k) F') {p : Nat} {d : DevS} (hd : K.Dv w' F' p d.S d.L d.g) : Devs K w' (upF Fs k F') (ps.set k p) (ds.set k d) := by
  have hnew : ∀ i, i < ds.length → i ≠ k → ∀ b, F' b → ¬ Fs i b := fun i hi hik b hb hf => by
    rcases hg b hb with e | e
    · exact h.off k i hk hi (Ne.symm hik) b e hf
    · have := h.lt i hi b hf; omega
  refine ⟨by rw [List.length_set, List.length_set]; exact h.len, fun i hi => ?_, fun i j hi hj hij b hb => ?_⟩
  · rw [List.length_set] at hi
    by_cases e : i = k
    · subst e
      rw [upF_at, getD_set_at hk, getD_set_at (by rw [h.len]; exact hk)]
      exact hd
    · rw [upF_off _ _ e, getD_set_off e, getD_set_off e]
      exact K.only (h.at_ i hi) ho (hG i hi e)
  · rw [List.length_set] at hi hj
    by_cases e : i = k
    · subst e
      rw [upF_at] at hb
      rw [upF_off _ _ (Ne.symm hij)]
      exact hnew j hj (Ne.symm hij) b hb
    · rw [upF_off _ _ e] at hb
      by_cases e' : j = k
      · subst e'
        rw [upF_at]
        exact fun hf => hnew i hi e b hf hb
      · rw [upF_off _ _ e']
        exact h.off i j hi hj hij b hb
theorem set_self {α : Type} {l : List α} {k : Nat} {d : α} (h : k < l.length) : l.set k (l.getD k d) = l := by
  rw [List.getD_eq_getElem?_getD, List.getElem?_eq_getElem h]
  exact List.set_getElem_self h
theorem Devs.turn (h : Devs K w Fs ps ds) (hk : k < ds.length) (ho : Only (Fs k) w w') (hg : Grow w (Fs k) F') {d : DevS} (hd : K.Dv w' F' (ps.getD k 0) d.S d.L d.g) : Devs K w' (upF Fs k F') ps (ds.set k d) := by
  have := h.set hk ho (fun i hi hik b hb hf => h.off i k hi hk hik b hb hf) hg hd
  rwa [set_self (by rw [h.len]; exact hk)] at this
theorem Devs.push (h : Devs K w Fs ps ds) (hb : Below w.heap.size w w') {p : Nat} {d : DevS} (hF : ∀ b, F' b → w.heap.size ≤ b) (hd : K.Dv w' F' p d.S d.L d.g) : Devs K w' (upF Fs ds.length F') (ps ++ [p]) (ds ++ [d]) := by
  have hlen := h.len
  refine ⟨by simp [h.len], fun i hi => ?_, fun i j hi hj hij b hb' => ?_⟩
  · rw [List.length_append, List.length_singleton] at hi
    by_cases e : i = ds.length
    · subst e
      rw [upF_at]
      have e1 : (ps ++ [p]).getD ds.length 0 = p := by simp [List.getD, ← hlen]
      have e2 : (ds ++ [d]).getD ds.length bl = d := by simp [List.getD]
      rw [e1, e2]
      exact hd
    · have hi' : i < ds.length := by omega
      rw [upF_off _ _ e]
      have e1 : (ps ++ [p]).getD i 0 = ps.getD i 0 := by simp [List.getD, List.getElem?_append_left (show i < ps.length by omega)]
      have e2 : (ds ++ [d]).getD i bl = ds.getD i bl := by simp [List.getD, List.getElem?_append_left hi']
      rw [e1, e2]
      exact K.only (h.at_ i hi') (Only.of_below (fun _ => False) hb) fun _ _ e => e
  · rw [List.length_append, List.length_singleton] at hi hj
    by_cases e : i = ds.length
    · subst e
      rw [upF_at] at hb'
      rw [upF_off _ _ (Ne.symm hij)]
      intro hf
      have := h.lt j (by omega) b hf
      have := hF b hb'
      omega
    · rw [upF_off _ _ e] at hb'
      have := h.lt i (by omega) b hb'
      by_cases e' : j = ds.length
      · subst e'
        rw [upF_at]
        intro hf
        have := hF b hf
        omega
      · rw [upF_off _ _ e']
        exact h.off i j (by omega) (by omega) hij b hb'
end
section
variable {α : Type} {E : Elt α} {ρ : Operand → Value} {o : Oper} {x y : Operand} {w : World} {b off : Nat} {a : α} {d : TypeDesc}
theorem size_infoE (E : Elt α) : (Tryz.prog.info? E.t).map (·.size) = some E.n := by
  obtain ⟨i0, hi, hz0, hz1, hz2⟩ := info_parts E.info
  rw [hi]; simp [hz1]
theorem exec_loadE (hu : Tryz.prog.underlying E.t = some d) (hd : d.isRow = true) (ho : o.op = .load E.t x) (hx : ρ x = .pointer (some ⟨b, off, none⟩)) (hc : w.rangeAt b off (E.cel a)) : (execOp ρ o).run Tryz.prog w = .ok (.value (.agg (E.cel a).toArray)) w :=
  aq ho hx (run_loadAt_mid w b off E.t (E.cel a) d hc hu hd (by rw [E.len]; exact size_infoE E))
theorem exec_allocE (ho : o.op = .alloc E.t) : (execOp ρ o).run Tryz.prog w = .ok (.value (.pointer (some ⟨w.heap.size, 0, none⟩))) (w.alloc (.cells E.z.cells E.t)) := by
  have hz := run_zeroE E w
  unfold execOp
  simp [ho, Instr.alloc, hz, newVar, newRow]
theorem exec_fillE (ho : o.op = .store E.t x y) (hx : ρ x = .pointer (some ⟨w.heap.size, 0, none⟩)) (hy : ρ y = .agg (E.cel a).toArray) : (execOp ρ o).run Tryz.prog (w.alloc (.cells E.z.cells E.t)) = .ok .skip (w.alloc (.cells (E.cel a).toArray E.t)) :=
  exec_st ho hx hy (run_storeAt_new (P := Tryz.prog) w E.t E.z.cells (E.cel a).toArray (by simpa [E.len] using size_infoE E) (by simpa [E.len] using E.zc) (all_oneCell_toArray (E.one a)))
end
section
variable {w : World} {q : Int × Blk} {t : TypeId}
theorem pair_new (w : World) (q : Int × Blk) (t : TypeId) : (w.alloc (.cells (db q).toArray t)).cell? ⟨w.heap.size, 0, none⟩ = some (.int .i64 q.1) ∧ (w.alloc (.cells (db q).toArray t)).rangeAt w.heap.size 1 (cel q.2) := by
  have h := cz w (db q) t
  refine ⟨h 0 _ rfl, fun j v hj => ?_⟩
  have := h (j + 1) v hj
  rwa [show 0 + (j + 1) = 1 + j from by omega] at this
theorem RdE.pairs {s t : TypeId} {und : Tryz.prog.underlying s = some (.slice t)} {info : (Tryz.prog.info? t).map (fun i => (i.zero, i.size, i.bytes)) = some (some (pairV 0 ar), 65, 72)} {B n k : Nat} {A : Option Addr} {l : List (Int × Blk)}
    (h : RdE (pairE s t und info) w B A n l) (hk : k < n) : ∃ b off, A = some ⟨b, off, none⟩ ∧ b < B ∧ w.rangeAt b (off + k * 65) (db (l.getD k (0, ar))) := h.2 k hk
end
end Go.Proofs.YtnliphgjcaippaaGreatDoor
