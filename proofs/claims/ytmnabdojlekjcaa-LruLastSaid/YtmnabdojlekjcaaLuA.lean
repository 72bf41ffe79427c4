/-
  A list of what was asked for last in memory, the program's: its object, its nodes, its map; what operations do with them.
-/
import Derived.Test.YtmnabdojlekjcaaLuM
import Derived.Test.YtmnabdojlekjcaaReg
import Derived.Test.YtmnabdojlekjcaaOnly
import Derived.Test.YtmnabdojlekjcaaCells
import Derived.Test.YtmnabdojlekjcaaTypA
import Derived.Test.YtmnabdojlekjcaaSkip
import Derived.Maps.OwnSet
import Derived.LaidEqlPtr
import Derived.Deep.DeepCutAuto
import Derived.Laws.EntriesVeiled
namespace Go.Proofs.Ytmnabdojlekjcaa
open Go.RowKit
open Go.Maps (Keyed)
set_option linter.unusedVariables false
set_option linter.unusedSimpArgs false
set_option maxRecDepth 100000

/-! ### What a call may turn, told by what lies there -/
/-- From w to w' nothing has turned but what lies from block B on and is of the kind I. -/
def Turn (I : Obj → Prop) (B : Nat) (w w' : World) : Prop := Only (fun b => B ≤ b ∧ ∀ o, w.heap[b]? = some o → I o) w w'
section
variable {I : Obj → Prop} {B : Nat} {w w1 w2 : World} {o : Obj} {b : Nat}
theorem Turn.refl (I : Obj → Prop) (B : Nat) (w : World) : Turn I B w w := Only.refl _ _
theorem Turn.size (h : Turn I B w w1) : w.heap.size ≤ w1.heap.size := Only.size h
theorem Turn.keep (h : Turn I B w w1) (hb : w.heap[b]? = some o) (hn : ¬ I o) : w1.heap[b]? = some o := Only.keep h hb fun e => hn (e.2 o hb)
theorem Turn.low (h : Turn I B w w1) (hb : w.heap[b]? = some o) (hn : b < B) : w1.heap[b]? = some o := Only.keep h hb fun e => by omega
theorem Turn.trans (h : Turn I B w w1) (k : Turn I B w1 w2) : Turn I B w w2 := by
  refine Only.trans h k fun b hb => ?_
  by_cases hl : b < w.heap.size
  · refine .inl ⟨hb.1, fun o ho => ?_⟩
    exact Classical.byContradiction fun hn => hn (hb.2 o (h.keep ho hn))
  · exact .inr (by omega)
theorem Turn.of_below (h : Below w.heap.size w w1) : Turn I B w w1 := Only.of_below _ h
theorem Turn.alloc (h : Turn I B w w1) (o : Obj) : Turn I B w (w1.alloc o) := Only.alloc h o
theorem Turn.drew (h : Turn I B w w1) : Turn I B w w1.drew := Only.drew h
theorem Turn.setCell (h : Turn I B w w1) {p : Addr} (hB : B ≤ p.block) (ho : w1.heap[p.block]? = some o) (hI : I o) (u : Value) : Turn I B w (w1.setCell p u) := by
  refine h.trans (Only.setCell (Only.refl _ _) (.inl ⟨hB, fun o' ho' => ?_⟩) u)
  rw [ho] at ho'
  cases ho'
  exact hI
theorem Turn.map {k : TypeId} (h : Turn I B w w1) (hB : B ≤ b) (hI : ∀ es c, I (.map es c)) (k : w1.mapTurned w2 b) : Turn I B w w2 := by
  have hg := k.grown
  obtain ⟨es, c, es', c', hb, e⟩ := k
  refine h.trans (Only.grown (Only.refl _ _) hg fun j hj => ?_)
  injection hj with hj
  subst hj
  refine .inl ⟨hB, fun o ho => ?_⟩
  rw [hb] at ho
  cases ho
  exact hI es c
theorem Turn.below {w0 : World} (h : Below B w0 w) (k : Turn I B w w1) (hB : B ≤ w.heap.size) : Below B w0 w1 := h.trans (Only.below k (fun b hb => hb.1) hB)
end

/-! ### A map from numbers to blocks -/
def ptO : Option Nat → Value
  | none => .pointer none
  | some b => .pointer (some ⟨b, 0, none⟩)
def ptD : Option Nat → DataW Unit
  | none => .nil
  | some b => .lit (.int .i64 (b : Int))
/-- How a pointer reads: nil, or a block. -/
def ptR : Value → Option (DataW Unit × List MemPlace)
  | .pointer none => some (.nil, [])
  | .pointer (some ⟨b, 0, none⟩) => some (.lit (.int .i64 (b : Int)), [])
  | _ => none
theorem ptR_of (m : Option Nat) : ptR (ptO m) = some (ptD m, []) := by cases m <;> rfl
theorem ptR_inv {v : Value} {m : Option Nat} {ps : List MemPlace} (h : ptR v = some (ptD m, ps)) : v = ptO m := by
  unfold ptR at h
  split at h
  · cases m with
    | none => rfl
    | some b => simp [ptD] at h
  · rename_i b
    cases m with
    | none => simp [ptD] at h
    | some b' =>
      simp [ptD] at h
      have : b = b' := by omega
      subst this; rfl
  · cases h
theorem keyedI : Keyed Try.prog 3 := Maps.int_keyed Try.underlying3
theorem keyI {k : Int} (hw : (Lit.int .i64 k).wf = true) : keyOf Try.prog 3 (.int .i64 k) = some (.int .i64 k) := Maps.keyOf_int_mk Try.underlying3 hw
theorem zeroP (w : World) : (zeroValue 46).run Try.prog w = .ok (.pointer none) w := by kernel_rfl
/-- Block b is a map of N entries, which tells M of each number. -/
def MapN (w : World) (b N : Nat) (M : Int → Option Nat) : Prop :=
  ∃ D : DataW Unit, w.ownsMap Try.prog 3 ptR b N D ∧ Maps.size D = N ∧ ∀ k, (Lit.int .i64 k).wf = true → D.atKey (.int .i64 k) .nil = ptD (M k) ∧ Maps.has D (.int .i64 k) = (M k).isSome
theorem own_size {w : World} {b n : Nat} {D : DataW Unit} (h : w.ownsMap Try.prog 3 ptR b n D) : w.ownsMap Try.prog 3 ptR b (Maps.size D) D := by
  obtain ⟨es, clock, hb, F, hs, rfl⟩ := h
  exact ⟨es, clock, hb, F, by simp [Maps.size, length_sorted], rfl⟩
section
variable {w w' : World} {b N : Nat} {M : Int → Option Nat} {k : Int}
theorem MapN.kept (h : MapN w b N M) (hk : ∀ es c, w.heap[b]? = some (.map es c) → w'.heap[b]? = some (.map es c)) : MapN w' b N M := by
  obtain ⟨D, ⟨es, c, hb, r⟩, h2⟩ := h
  exact ⟨D, ⟨es, c, hk es c hb, r⟩, h2⟩
theorem MapN.obj (h : MapN w b N M) : ∃ es c, w.heap[b]? = some (.map es c) := by
  obtain ⟨D, ⟨es, c, hb, r⟩, h2⟩ := h
  exact ⟨es, c, hb⟩
theorem MapN.made (w : World) : MapN (w.alloc (.map #[] 0)) w.heap.size 0 (fun _ => none) :=
  ⟨.map [], World.ownsMap_made _ _ _ _, rfl, fun k _ => ⟨rfl, rfl⟩⟩
theorem MapN.look (h : MapN w b N M) (hw : (Lit.int .i64 k).wf = true) : (Instr.lookup 47 (.map (some b)) (.int .i64 k) false).run Try.prog w = .ok (ptO (M k)) w := by
  obtain ⟨D, h1, _, h3⟩ := h
  obtain ⟨v, ps, hr, hv⟩ := h1.lookup keyedI Try.underlying47 (zeroP w) (zd := .nil) (zp := []) rfl (keyI hw)
  rw [(h3 k hw).1] at hv
  rw [hr, ptR_inv hv]
theorem MapN.len (h : MapN w b N M) (ty : TypeId) : (Builtin.len_ #[47] ty #[.map (some b)]).run Try.prog w = .ok (.int .i64 (N : Int)) w := by
  obtain ⟨D, h1, h2, _⟩ := h
  rw [h1.len Try.underlying47 ty, h2]
theorem lit_ne {j k : Int} (h : j ≠ k) : Lit.int .i64 j ≠ Lit.int .i64 k := fun e => h (by injection e)
theorem MapN.store (h : MapN w b N M) (hw : (Lit.int .i64 k).wf = true) (hn : M k = none) (hN : N < maxLen) (q : Nat) :
    ∃ w', (Instr.mapUpdate 47 (.map (some b)) (.int .i64 k) (.pointer (some ⟨q, 0, none⟩))).run Try.prog w = .ok () w' ∧ MapN w' b (N + 1) (fun j => if j = k then some q else M j) ∧ w.mapTurned w' b := by
  obtain ⟨D, h1, h2, h3⟩ := h
  obtain ⟨w', hr, ho, ht⟩ := h1.store keyedI Try.underlying47 hN (keyI hw) (ptR_of (some q))
  have hT := h1.tidy keyedI
  have hk : WideAt.IsKeyLit (Lit.int .i64 k) := keyedI.key (keyI hw)
  have hs : Maps.size (D.put (.int .i64 k) (ptD (some q))) = N + 1 := by
    rw [Maps.size_put hT, (h3 k hw).2, hn, h2]; rfl
  refine ⟨w', hr, ⟨_, by rw [← hs]; exact own_size ho, hs, fun j hj => ?_⟩, ht⟩
  by_cases e : j = k
  · subst e
    dsimp only
    rw [if_pos rfl, Maps.atKey_put_same hT.isMap hk, Maps.has_put_same hT.isMap hk]
    exact ⟨rfl, rfl⟩
  · dsimp only
    rw [if_neg e, Maps.atKey_put_other (lit_ne e), Maps.has_put_other (lit_ne e)]
    exact h3 j hj
theorem MapN.del (h : MapN w b (N + 1) M) (hw : (Lit.int .i64 k).wf = true) (hn : (M k).isSome = true) (ty : TypeId) :
    ∃ w', (Builtin.delete_ #[47, 3] ty #[.map (some b), .int .i64 k]).run Try.prog w = .ok (.tuple #[]) w' ∧ MapN w' b N (fun j => if j = k then none else M j) ∧ w.mapTurned w' b := by
  obtain ⟨D, h1, h2, h3⟩ := h
  obtain ⟨w', hr, ho, ht⟩ := h1.drop keyedI Try.underlying47 (keyI hw) ty
  have hT := h1.tidy keyedI
  have hs : Maps.size (D.del (.int .i64 k)) = N := by
    have := Maps.size_del (k := .int .i64 k) hT
    rw [(h3 k hw).2, hn, h2] at this
    simpa using this
  refine ⟨w', hr, ⟨_, by rw [← hs]; exact own_size ho, hs, fun j hj => ?_⟩, ht⟩
  by_cases e : j = k
  · subst e
    dsimp only
    rw [if_pos rfl, Maps.atKey_del_same, Maps.has_del_same]
    exact ⟨rfl, rfl⟩
  · dsimp only
    rw [if_neg e, Maps.atKey_del_other (lit_ne e), Maps.has_del_other (lit_ne e)]
    exact h3 j hj
end

/-! ### What operations do -/
section
variable {ρ : Operand → Value} {o : Oper} {x y z : Operand} {w w' : World} {t r te : TypeId} {b N : Nat} {M : Int → Option Nat} {p q s v : Value} {ad a1 a2 : Addr}
theorem exec_look (ho : o.op = .lookup t x y false) (hx : ρ x = p) (hy : ρ y = q) (h : (Instr.lookup t p q false).run Try.prog w = .ok v w) : (execOp ρ o).run Try.prog w = .ok (.value v) w := by
  unfold execOp
  simp only [ho, hx, hy, Sem.run_bind, h, Result.andThen_ok, Sem.run_pure]
theorem exec_mupd (ho : o.op = .mapUpdate t x y z) (hx : ρ x = p) (hy : ρ y = q) (hz : ρ z = s) (h : (Instr.mapUpdate t p q s).run Try.prog w = .ok () w') : (execOp ρ o).run Try.prog w = .ok .skip w' := by
  unfold execOp
  simp only [ho, hx, hy, hz, Sem.run_bind, h, Result.andThen_ok, Sem.run_pure]
theorem exec_mkmap (ho : o.op = .makeMap t none) : (execOp ρ o).run Try.prog w = .ok (.value (.map (some w.heap.size))) (w.alloc (.map #[] 0)) := by
  unfold execOp
  simp [ho, run_makeMap, Result.andThen]
theorem exec_lenM (ho : o.op = .call { callee := .builtin .len, args := #[x], argTypes := #[47] }) (hx : ρ x = .map (some b)) (h : MapN w b N M) : (execOp ρ o).run Try.prog w = .ok (.value (.int .i64 (N : Int))) w := by
  simp [execOp, ho, resolve, invoke, builtin, hx, h.len, Result.andThen]
theorem exec_del {t1 t2 : TypeId} (ho : o.op = .call { callee := .builtin .delete, args := #[x, y], argTypes := #[t1, t2] }) (hx : ρ x = p) (hy : ρ y = q) (h : (Builtin.delete_ #[t1, t2] o.type #[p, q]).run Try.prog w = .ok v w') : (execOp ρ o).run Try.prog w = .ok (.value v) w' := by
  simp [execOp, ho, resolve, invoke, builtin, hx, hy, h, Result.andThen]
theorem eqGuard_ptr (op : BinOp) (t : TypeId) (x y : Operand) (a b : Option Addr) : (eqGuard op t x y (.pointer a) (.pointer b)).run Try.prog w = .ok () w := by
  cases op <;> simp [eqGuard]
theorem exec_binP {op : BinOp} {m n : Option Addr} (ho : o.op = .binOp op t x y r) (hx : ρ x = .pointer m) (hy : ρ y = .pointer n) (h : (binOp op t (.pointer m) (.pointer n)).run Try.prog w = .ok v w) : (execOp ρ o).run Try.prog w = .ok (.value v) w := by
  unfold execOp
  simp only [ho, hx, hy, Sem.run_bind, eqGuard_ptr, h, Result.andThen_ok, Sem.run_pure]
theorem equalIn_ptr {te : TypeId} (hp : Try.prog.underlying t = some (.pointer te)) {j : TypeInfo} (hte : Try.prog.info? te = some j) (hsz : j.size ≠ 0) {ca cb : Array Value} {ta tb : TypeId} (ha : w.heap[a1.block]? = some (.cells ca ta (0, 0))) (hb : w.heap[a2.block]? = some (.cells cb tb (0, 0))) (d : Nat) :
    (Op.equalIn (d + 1) t (.pointer (some a1)) (.pointer (some a2))).run Try.prog w = .ok (decide (a1 = a2)) w := by
  by_cases h : a1 = a2
  · subst h
    simp [Op.equalIn, run_underlying hp, sizeOf, typeInfo, hte, run_sameAddr_same]
  · simp [Op.equalIn, run_underlying hp, sizeOf, typeInfo, hte, hsz, run_sameAddr_other w h ha hb, h]
theorem equalIn_nil {te : TypeId} (hp : Try.prog.underlying t = some (.pointer te)) (m : Option Addr) (d : Nat) : (Op.equalIn (d + 1) t (.pointer m) (.pointer none)).run Try.prog w = .ok (decide (m = none)) w := by
  cases m <;> simp [Op.equalIn, run_underlying hp]
theorem exec_eqNil {te : TypeId} {m : Option Addr} (c : Bool) (hp : Try.prog.underlying t = some (.pointer te)) (ho : o.op = .binOp .eql t x y r) (hx : ρ x = .pointer m) (hy : ρ y = .pointer none) (h : decide (m = none) = c) : (execOp ρ o).run Try.prog w = .ok (.value (.bool c)) w := by
  subst h
  refine exec_binP ho hx hy ?_
  simp only [binOp]
  simp [Op.equal, Op.maxDepth, equalIn_nil hp m 9999]
theorem exec_neNil {te : TypeId} {m : Option Addr} (c : Bool) (hp : Try.prog.underlying t = some (.pointer te)) (ho : o.op = .binOp .neq t x y r) (hx : ρ x = .pointer m) (hy : ρ y = .pointer none) (h : (!decide (m = none)) = c) : (execOp ρ o).run Try.prog w = .ok (.value (.bool c)) w := by
  subst h
  refine exec_binP ho hx hy ?_
  simp only [binOp]
  simp [Op.equal, Op.maxDepth, equalIn_nil hp m 9999]
theorem exec_nePt {te : TypeId} (c : Bool) (hp : Try.prog.underlying t = some (.pointer te)) {j : TypeInfo} (hte : Try.prog.info? te = some j) (hsz : j.size ≠ 0) (ho : o.op = .binOp .neq t x y r) (hx : ρ x = .pointer (some a1)) (hy : ρ y = .pointer (some a2))
    {ca cb : Array Value} {ta tb : TypeId} (ha : w.heap[a1.block]? = some (.cells ca ta (0, 0))) (hb : w.heap[a2.block]? = some (.cells cb tb (0, 0))) (h : (!decide (a1 = a2)) = c) : (execOp ρ o).run Try.prog w = .ok (.value (.bool c)) w := by
  subst h
  refine exec_binP ho hx hy ?_
  simp only [binOp]
  simp [Op.equal, Op.maxDepth, equalIn_ptr hp hte hsz ha hb 9999]
theorem ldNd {ad : Addr} {a : Option Addr} (h : w.cell? ad = some (.pointer a)) : (Instr.loadAt 46 (.pointer (some ad))).run Try.prog w = .ok (.pointer a) w := by simp [go_sem, h]
theorem ldMp {ad : Addr} {a : Option Nat} (h : w.cell? ad = some (.map a)) : (Instr.loadAt 47 (.pointer (some ad))).run Try.prog w = .ok (.map a) w := by simp [go_sem, h]
theorem ldBo {ad : Addr} {a : Bool} (h : w.cell? ad = some (.bool a)) : (Instr.loadAt 4 (.pointer (some ad))).run Try.prog w = .ok (.bool a) w := by simp [go_sem, h]
theorem stNd {ad : Addr} {u : Value} {a : Option Addr} (h : w.cell? ad = some u) (hf : w.frozen? ad = false) : (Instr.storeAt 46 (.pointer (some ad)) (.pointer a)).run Try.prog w = .ok () (w.setCell ad (.pointer a)) := by simp [go_sem, h, hf]
theorem stBo {ad : Addr} {u : Value} {a : Bool} (h : w.cell? ad = some u) (hf : w.frozen? ad = false) : (Instr.storeAt 4 (.pointer (some ad)) (.bool a)).run Try.prog w = .ok () (w.setCell ad (.bool a)) := by simp [go_sem, h, hf]
theorem faNd0 : (Instr.fieldAt 52 (.pointer (some ⟨b, 0, none⟩)) 0).run Try.prog w = .ok (.pointer (some ⟨b, 0, none⟩)) w := by kernel_rfl
theorem faNd1 : (Instr.fieldAt 52 (.pointer (some ⟨b, 0, none⟩)) 1).run Try.prog w = .ok (.pointer (some ⟨b, 1, none⟩)) w := by kernel_rfl
theorem faNd2 : (Instr.fieldAt 52 (.pointer (some ⟨b, 0, none⟩)) 2).run Try.prog w = .ok (.pointer (some ⟨b, 2, none⟩)) w := by kernel_rfl
theorem faNd3 : (Instr.fieldAt 52 (.pointer (some ⟨b, 0, none⟩)) 3).run Try.prog w = .ok (.pointer (some ⟨b, 3, none⟩)) w := by kernel_rfl
theorem faLs0 : (Instr.fieldAt 49 (.pointer (some ⟨b, 0, none⟩)) 0).run Try.prog w = .ok (.pointer (some ⟨b, 0, none⟩)) w := by kernel_rfl
theorem faLs1 : (Instr.fieldAt 49 (.pointer (some ⟨b, 0, none⟩)) 1).run Try.prog w = .ok (.pointer (some ⟨b, 1, none⟩)) w := by kernel_rfl
theorem faLs2 : (Instr.fieldAt 49 (.pointer (some ⟨b, 0, none⟩)) 2).run Try.prog w = .ok (.pointer (some ⟨b, 2, none⟩)) w := by kernel_rfl
end
theorem infNd : ∃ j, Try.prog.info? 52 = some j ∧ j.size ≠ 0 := by
  have h : (Try.prog.info? 52).map (·.size) = some 4 := by kernel_rfl
  cases hq : Try.prog.info? 52 with
  | none => rw [hq] at h; cases h
  | some j => rw [hq] at h; exact ⟨j, rfl, by simp at h; omega⟩

/-! ### Nodes -/
def nodC (x : Ky) (u v : Value) : List Value := [.int .i64 x.n, .bool x.pin, u, v]
def NodAt (w : World) (b : Nat) (x : Ky) (u v : Value) : Prop := w.heap[b]? = some (.cells (nodC x u v).toArray 52 (0, 0))
section
variable {w w' : World} {b q : Nat} {x : Ky} {u v : Value}
theorem NodAt.c0 (h : NodAt w b x u v) : w.cell? ⟨b, 0, none⟩ = some (.int .i64 x.n) := (rng_at h) 0 _ rfl
theorem NodAt.c1 (h : NodAt w b x u v) : w.cell? ⟨b, 1, none⟩ = some (.bool x.pin) := (rng_at h) 1 _ rfl
theorem NodAt.c2 (h : NodAt w b x u v) : w.cell? ⟨b, 2, none⟩ = some u := (rng_at h) 2 _ rfl
theorem NodAt.c3 (h : NodAt w b x u v) : w.cell? ⟨b, 3, none⟩ = some v := (rng_at h) 3 _ rfl
theorem NodAt.fz (h : NodAt w b x u v) (j : Nat) : w.frozen? ⟨b, j, none⟩ = false := frozen_of_row w b j _ _ h
theorem NodAt.s1 (h : NodAt w b x u v) (is : Bool) : NodAt (w.setCell ⟨b, 1, none⟩ (.bool is)) b ⟨x.n, is⟩ u v := by
  have := heap_setCell_same w b 1 _ _ (.bool is) h
  simpa [NodAt, nodC] using this
theorem NodAt.s2 (h : NodAt w b x u v) (s : Value) : NodAt (w.setCell ⟨b, 2, none⟩ s) b x s v := by
  have := heap_setCell_same w b 2 _ _ s h
  simpa [NodAt, nodC] using this
theorem NodAt.s3 (h : NodAt w b x u v) (s : Value) : NodAt (w.setCell ⟨b, 3, none⟩ s) b x u s := by
  have := heap_setCell_same w b 3 _ _ s h
  simpa [NodAt, nodC] using this
theorem NodAt.other (h : NodAt w b x u v) {p : Addr} (hp : b ≠ p.block) (s : Value) : NodAt (w.setCell p s) b x u v := by
  unfold NodAt
  rw [heap_setCell_other w p b s hp]
  exact h
end
def ptB (b : Nat) : Value := .pointer (some ⟨b, 0, none⟩)
/-- Nodes at the places of S: what each is, the one ahead of it, the one behind it. -/
def Lnk (w : World) (ky : Nat → Ky) (pv nx : Nat → Nat) (S : List Nat) : Prop := ∀ b ∈ S, NodAt w b (ky b) (ptB (pv b)) (ptB (nx b))
section
variable {w w' : World} {ky : Nat → Ky} {pv nx : Nat → Nat} {S S' : List Nat} {x y : Nat}
theorem Lnk.sub (h : Lnk w ky pv nx S) (hs : ∀ b ∈ S', b ∈ S) : Lnk w ky pv nx S' := fun b hb => h b (hs b hb)
theorem Lnk.s2 (h : Lnk w ky pv nx S) (y : Nat) (hx : x ∈ S) : Lnk (w.setCell ⟨x, 2, none⟩ (ptB y)) ky (put1 pv x y) nx S := fun b hb => by
  by_cases e : b = x
  · subst e; rw [put1_at]; exact (h b hb).s2 _
  · rw [put1_off _ _ e]; exact (h b hb).other e _
theorem Lnk.s3 (h : Lnk w ky pv nx S) (y : Nat) (hx : x ∈ S) : Lnk (w.setCell ⟨x, 3, none⟩ (ptB y)) ky pv (put1 nx x y) S := fun b hb => by
  by_cases e : b = x
  · subst e; rw [put1_at]; exact (h b hb).s3 _
  · rw [put1_off _ _ e]; exact (h b hb).other e _
theorem Lnk.s1 (h : Lnk w ky pv nx S) (is : Bool) (hx : x ∈ S) : Lnk (w.setCell ⟨x, 1, none⟩ (.bool is)) (put1 ky x ⟨(ky x).n, is⟩) pv nx S := fun b hb => by
  by_cases e : b = x
  · subst e; rw [put1_at]; exact (h b hb).s1 _
  · rw [put1_off _ _ e]; exact (h b hb).other e _
theorem Lnk.add (h : Lnk w ky pv nx S) (hx : NodAt w x (ky x) (ptB (pv x)) (ptB (nx x))) : Lnk w ky pv nx (x :: S) := fun b hb => by
  rcases List.mem_cons.1 hb with rfl | hb
  · exact hx
  · exact h b hb
theorem Lnk.keep (h : Lnk w ky pv nx S) (hk : ∀ (b : Nat) (cs : Array Value), w.heap[b]? = some (Obj.cells cs 52 (0, 0)) → w'.heap[b]? = some (Obj.cells cs 52 (0, 0))) : Lnk w' ky pv nx S := fun b hb => hk b _ (h b hb)
end

/-! ### The object -/
/-- Of the program's kind: a map, a node, a list. -/
def isPl : Obj → Prop
  | .map _ _ => True
  | .cells _ t _ => t = 52 ∨ t = 49
  | _ => False
abbrev TurnP := Turn isPl
structure PLu (w : World) (B p room : Nat) (E bm : Nat) (bs : List Nat) (ky : Nat → Ky) (pv nx : Nat → Nat) (M : Int → Option Nat) : Prop where
  at_ : w.heap[p]? = some (.cells #[.int .i64 (room : Int), ptB E, .map (some bm)] 49 (0, 0))
  lnk : Lnk w ky pv nx (E :: bs)
  seg : Seg pv nx E bs E
  one : (E :: bs).Nodup
  map : MapN w bm bs.length M
  hit : ∀ b ∈ bs, M (ky b).n = some b
  who : ∀ k b, (Lit.int .i64 k).wf = true → M k = some b → b ∈ bs ∧ (ky b).n = k
  low : B ≤ p ∧ B ≤ bm ∧ ∀ b ∈ E :: bs, B ≤ b
  ok : LOk room (bs.map ky)
  rm : 1 ≤ room ∧ room ≤ 64
/-- A list lies at p: it has the keys L. -/
def PL (w : World) (B p room : Nat) (L : List Ky) : Prop := ∃ E bm bs ky pv nx M, PLu w B p room E bm bs ky pv nx M ∧ bs.map ky = L
section
variable {w w' : World} {B p room E bm : Nat} {bs : List Nat} {ky : Nat → Ky} {pv nx : Nat → Nat} {M : Int → Option Nat} {L : List Ky}
theorem PLu.keep (h : PLu w B p room E bm bs ky pv nx M) (hk : ∀ (b : Nat) (o : Obj), w.heap[b]? = some o → isPl o → w'.heap[b]? = some o) : PLu w' B p room E bm bs ky pv nx M :=
  ⟨hk _ _ h.at_ (.inr rfl), h.lnk.keep fun b cs hb => hk b _ hb (.inl rfl), h.seg, h.one, h.map.kept fun es c hb => hk _ _ hb trivial, h.hit, h.who, h.low, h.ok, h.rm⟩
theorem PLu.c0 (h : PLu w B p room E bm bs ky pv nx M) : w.cell? ⟨p, 0, none⟩ = some (.int .i64 (room : Int)) := (cells3 h.at_).1
theorem PLu.c1 (h : PLu w B p room E bm bs ky pv nx M) : w.cell? ⟨p, 1, none⟩ = some (.pointer (some ⟨E, 0, none⟩)) := (cells3 h.at_).2.1
theorem PLu.c2 (h : PLu w B p room E bm bs ky pv nx M) : w.cell? ⟨p, 2, none⟩ = some (.map (some bm)) := (cells3 h.at_).2.2
theorem PL.keep (h : PL w B p room L) (hk : ∀ (b : Nat) (o : Obj), w.heap[b]? = some o → isPl o → w'.heap[b]? = some o) : PL w' B p room L := by
  obtain ⟨E, bm, bs, ky, pv, nx, M, h, e⟩ := h
  exact ⟨E, bm, bs, ky, pv, nx, M, h.keep hk, e⟩
theorem PL.below (h : PL w B p room L) (hb : Below w.heap.size w w') : PL w' B p room L := h.keep fun b o ho _ => blk_keep ho hb
theorem PL.other {I : Obj → Prop} {B' : Nat} (h : PL w B p room L) (hb : Turn I B' w w') (hI : ∀ o, isPl o → ¬ I o) : PL w' B p room L := h.keep fun b o ho hp => hb.keep ho (hI o hp)
theorem PL.ok (h : PL w B p room L) : LOk room L := by
  obtain ⟨E, bm, bs, ky, pv, nx, M, h, rfl⟩ := h
  exact h.ok
theorem PL.rm (h : PL w B p room L) : 1 ≤ room ∧ room ≤ 64 := by
  obtain ⟨E, bm, bs, ky, pv, nx, M, h, rfl⟩ := h
  exact h.rm
end
end Go.Proofs.Ytmnabdojlekjcaa
