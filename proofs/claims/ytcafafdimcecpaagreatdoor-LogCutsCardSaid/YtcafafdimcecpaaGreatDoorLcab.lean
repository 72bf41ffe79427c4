import Derived.Test.YtcafafdimcecpaaGreatDoorLcaa
import Derived.Deep.MidRow
import Derived.Deep.Quiet
import Derived.Laws.StructEq
import Derived.Laws.IdiomCopy
import Derived.Laws.NewBlocks
import Derived.Deep.WholeRow
import Derived.StillTailTactics
import Derived.Laws.AppendOwn
import Derived.Laws.OwnMore
import Derived.Test.YtcafafdimcecpaaGreatDoorLcZ
namespace Go.Proofs.YtcafafdimcecpaaGreatDoor
open Go.RowKit
set_option maxRecDepth 100000
set_option linter.unusedVariables false
theorem put_at (pre post : List Value) : ∀ (vs mid done : List Value), mid.length = vs.length →
    (vs.zipIdx done.length).foldl (fun cs (p : Value × Nat) => cs.setIfInBounds (pre.length + p.2) p.1) (pre ++ done ++ mid ++ post).toArray = (pre ++ done ++ vs ++ post).toArray
  | [], mid, done, h => by
    have : mid = [] := List.eq_nil_of_length_eq_zero h
    subst this
    simp
  | v :: vs, mid, done, h => by
    match mid, h with
    | m :: ms, h =>
      rw [List.zipIdx_cons, List.foldl_cons]
      have hset : (pre ++ done ++ m :: ms ++ post).toArray.setIfInBounds (pre.length + done.length) v = (pre ++ (done ++ [v]) ++ ms ++ post).toArray := by
        rw [List.setIfInBounds_toArray]
        congr 1
        rw [List.append_assoc (pre ++ done), List.set_append_right _ _ (by simp), List.length_append, Nat.sub_self]
        simp
      have := put_at pre post vs ms (done ++ [v]) (by simpa using h)
      rw [List.length_append, List.length_singleton] at this
      show (vs.zipIdx (done.length + 1)).foldl (fun cs (p : Value × Nat) => cs.setIfInBounds (pre.length + p.2) p.1) ((pre ++ done ++ m :: ms ++ post).toArray.setIfInBounds (pre.length + done.length) v) = _
      rw [hset, this]
      simp
theorem fill_one {place : Nat → Option (Nat × Nat)} {i off size : Nat} {v : Value} {pre mid post vs : List Value} {rest : List (Nat × Value)} (hp : place i = some (off, size)) (hv : v.cells = vs.toArray) (hs : vs.length = size) (ho : pre.length = off) (hm : mid.length = size) :
    Instr.fill place (pre ++ mid ++ post).toArray ((i, v) :: rest) = Instr.fill place (pre ++ vs ++ post).toArray rest := by
  subst hs ho
  have hw := put_at pre post vs mid [] hm
  simp only [List.append_nil, List.length_nil] at hw
  rw [Instr.fill, hp]
  have hc : (decide (v.cells.size ≠ vs.length) || decide (pre.length + v.cells.size > (pre ++ mid ++ post).toArray.size)) = false := by
    rw [hv]
    simp [hm]
  show (if (decide (v.cells.size ≠ vs.length) || decide (pre.length + v.cells.size > (pre ++ mid ++ post).toArray.size)) = true then none else _) = _
  rw [hc, if_neg (by simp), hv, ← Array.foldl_toList, Array.toList_zipIdx]
  show Instr.fill place (vs.zipIdx.foldl (fun cs (p : Value × Nat) => cs.setIfInBounds (pre.length + p.2) p.1) (pre ++ mid ++ post).toArray) rest = _
  rw [hw]
section
variable {α : Type} (E : Elt α)
theorem eh (w : World) : (sizeOf E.t).run Tryz.prog w = .ok E.n w := by
  obtain ⟨i0, hi, hz0, hz1, hz2⟩ := info_parts E.info
  simp [sizeOf, typeInfo, hi, hz1]
theorem run_zeroE (w : World) : (zeroValue E.t).run Tryz.prog w = .ok E.z w := by
  obtain ⟨i0, hi, hz0, hz1, hz2⟩ := info_parts E.info
  simp [zeroValue, typeInfo, hi, hz0]
end
section
variable {α : Type} {E : Elt α} {ρ : Operand → Value} {o : Oper} {x y : Operand} {w : World} {b off n c j : Nat} {v : Value} {a : α}
theorem add_mid (b off j : Nat) : (⟨b, off, none⟩ : Addr).add j = ⟨b, off + j, none⟩ := by unfold Addr.add; split <;> simp_all
theorem run_indexE (hj : j < n) : (Instr.indexAt E.s (.slice (some ⟨b, off, none⟩) n c) (.int .i64 (j : Int))).run Tryz.prog w = .ok (.pointer (some ⟨b, off + j * E.n, none⟩)) w := by
  have h := eh E w
  simp [Instr.indexAt, asIntOf, run_underlying E.und, add_mid, h, hj]
theorem a8 (ho : o.op = .indexAddr E.s x y) (hx : ρ x = .slice (some ⟨b, off, none⟩) n c) (hy : ρ y = .int .i64 (j : Int)) (hj : j < n) : (execOp ρ o).run Tryz.prog w = .ok (.value (.pointer (some ⟨b, off + j * E.n, none⟩))) w :=
  dS ho hx hy (run_indexE (E := E) hj)
theorem dc (ho : o.op = .buildSlice E.s 1 #[(0, x)]) (hx : ρ x = v) (hv : v.cells = (E.cel a).toArray) (hn : E.n ≤ 16777216) :
    (execOp ρ o).run Tryz.prog w = .ok (.value (.slice (some ⟨w.heap.size, 0, none⟩) 1 1)) (w.alloc (.cells (E.cel a).toArray E.t)) := by
  have hz := run_zeroE E w
  have hs := eh E w
  have hp := E.pos
  obtain ⟨zs, hzs⟩ : ∃ zs : List Value, (Array.range (1 * E.n)).map (E.z.cells[· % E.z.cells.size]!) = zs.toArray := ⟨_, (Array.toArray_toList).symm⟩
  have hzl : zs.length = E.n := by
    have := congrArg Array.size hzs
    simpa using this.symm
  have hf := fill_one (place := fun i => some (i * E.n, E.n)) (i := 0) (off := 0) (v := v) (pre := []) (mid := zs) (post := []) (vs := E.cel a) (rest := []) (by simp) hv (E.len a) rfl hzl
  simp only [List.nil_append, List.append_nil] at hf
  unfold execOp
  simp only [ho, Instr.buildSlice, Sem.run_bind, run_underlying E.und, Result.andThen_ok, hs]
  rw [if_neg (by omega), if_neg (by omega)]
  simp only [Sem.run_bind, hz, Result.andThen_ok, Sem.run_pure, hzs]
  simp [hx, hf, Instr.fill, newRow]
end
theorem fB {α : Type} {E : Elt α} {o : Oper} {a : Act} {w w' : World} {s x : Operand} {A : Option Addr} {m c : Nat} {v v' : Value} (ho : o.op = .call { callee := .builtin .append, args := #[s, x], argTypes := #[E.s, E.s] }) (hs : a.eval s = v) (hx : a.eval x = .slice A m c)
    (hrun : (Builtin.append_ #[E.s, E.s] o.type #[v, .slice A m c]).run Tryz.prog w = .ok v' w') : (execOp a.eval o).run Tryz.prog w = .ok (.value v') w' := by
  simp [execOp, ho, resolve, invoke, builtin, hs, hx, hrun, Result.andThen]
theorem er {α : Type} (E : Elt α) (w : World) (ty B N m c : Nat) (v : Value) (l l' : List α) (A : Option Addr) (hm : aA E w B v l) (hr : RdE E w N A m l') (hB : B ≤ w.heap.size) (hsum : l.length + m ≤ 34359738368) :
    ∃ v' w', (Builtin.append_ #[E.s, E.s] ty #[v, .slice A m c]).run Tryz.prog w = .ok v' w' ∧ aA E w' B v' (l ++ l') ∧ w.grownBy w' v.ownBlock ∧ ∀ x, v'.ownBlock = some x → v.ownBlock = some x ∨ w.heap.size ≤ x := by
  obtain ⟨v', w', h1, h2, h3⟩ := run_appE E w ty B N m c v l l' A hm hr hB hsum
  refine ⟨v', w', h1, h2, h3, ?_⟩
  have sure : ∀ v'' w'', (Builtin.append_ #[E.s, E.s] ty #[v, .slice A m c]).run Tryz.prog w = .ok v'' w'' → v' = v'' := fun v'' w'' e => by rw [h1] at e; injection e
  obtain ⟨i0, hi, hz0, hz1, hz2⟩ := info_parts E.info
  rcases hm.2 with ⟨rfl, h0⟩ | ⟨g, cap, cur, rfl, hbg, hg, hnc, hcm, hcs, htake⟩
  · have hm' : aA E w w.heap.size (.slice none 0 0) l := ⟨hm.1, .inl ⟨rfl, h0⟩⟩
    obtain ⟨v2, w2, g1, g2, g3⟩ := run_appE E w ty w.heap.size N m c _ l l' A hm' hr (Nat.le_refl _) hsum
    have e := sure _ _ g1
    subst e
    exact fun x hx => .inr (g2.lt_own x hx)
  · rcases A with _ | ad
    · have h0 : m = 0 := by
        rcases Nat.eq_zero_or_pos m with h | h
        · exact h
        · obtain ⟨b, off, e, _⟩ := hr.2 0 h
          cases e
      subst h0
      have e := sure (.slice (some ⟨g, 0, none⟩) l.length cap) w (by simp [Builtin.append_, run_underlying E.und, sizeOf, typeInfo, hi, Builtin.lenOf, Builtin.firstCells, hnc, storeCells])
      subst e
      exact fun x hx => .inl hx
    · by_cases hroom : l.length + m ≤ cap
      · have hfit : l.length * i0.size + (bj E l').length ≤ cur.size := by rw [bw, hr.1, hz1, hcs, ← Nat.add_mul]; exact Nat.mul_le_mul_right _ hroom
        have h := run_append_room (P := Tryz.prog) w E.s ty E.t i0 E.und hi g l.length cap cur hg ad m c (bj E l') (by rw [bw, hr.1, hz1]) (cells_of_rdE hr) (flatE_one E l') hroom hfit
        have e := sure _ _ h
        subst e
        exact fun x hx => .inl hx
      · have holds : ∀ j u, (bj E l)[j]? = some u → w.cell? ((⟨g, 0, none⟩ : Addr).add j) = some u := World.ownsRow.cells hm (g := g) rfl
        have hby : (l.length + m) * E.by_ ≤ 140737488355328 := Nat.le_trans (Nat.mul_le_mul hsum E.small) (by omega)
        have h := run_append_grow (P := Tryz.prog) w E.s ty E.t i0 E.z E.und hi hz0 ⟨g, 0, none⟩ l.length cap (bj E l) (by rw [hz1]; exact hm.1) holds ad m c (bj E l') (by rw [bw, hr.1, hz1]) (cells_of_rdE hr) (by omega) (by omega) (growslice_fits (by omega) (by rw [hz2]; exact hby))
        have e := sure _ _ h
        subst e
        exact fun x hx => .inr (by simp [Value.ownBlock] at hx; omega)
theorem wpList_appE_own {α : Type} (E : Elt α) {w : World} {ops : Array Oper} {rest : List Oper} {o : Oper} {a : Act} {Q : Exit → Act → World → Prop} (hgd : o.guard = none) (s x : Operand)
    (ho : o.op = .call { callee := .builtin .append, args := #[s, x], argTypes := #[E.s, E.s] })
    (B N m c : Nat) (v : Value) (l l' : List α) (A : Option Addr) (hs : a.eval s = v) (hx : a.eval x = .slice A m c) (hm : aA E w B v l) (hr : RdE E w N A m l') (hB : B ≤ w.heap.size) (hsum : l.length + m ≤ 34359738368)
    (h : ∀ v' w', aA E w' B v' (l ++ l') → w.grownBy w' v.ownBlock → (∀ x, v'.ownBlock = some x → v.ownBlock = some x ∨ w.heap.size ≤ x) → wpList Tryz.prog ops Q rest (a.put o.dst v') w') : wpList Tryz.prog ops Q (o :: rest) a w := by
  refine wpList_plain hgd fun K hK => ?_
  obtain ⟨v', w', hrun, h1, h2, h3⟩ := er E w o.type B N m c v l l' A hm hr hB hsum
  unfold Oper.wp
  simp [execOp, ho, resolve, invoke, builtin, hs, hx, hrun, Result.andThen]
  exact hK _ _ (h v' w' h1 h2 h3)
section
variable {α : Type} {E : Elt α} {w : World} {B g n cc k : Nat} {l : List α} {a : α}
theorem flatE_split {l : List α} {k : Nat} (hk : k < l.length) : bj E l = bj E (l.take k) ++ (E.cel (l.getD k E.d) ++ bj E (l.drop (k + 1))) := by
  have h1 : l = l.take k ++ (l.getD k E.d :: l.drop (k + 1)) := by
    rw [List.getD, List.getElem?_eq_getElem hk, Option.getD_some, List.getElem_cons_drop, List.take_append_drop]
  conv => lhs; rw [h1]
  rw [ft, dA]
theorem flatE_set {l : List α} {k : Nat} (hk : k < l.length) (a : α) : bj E (l.set k a) = bj E (l.take k) ++ (E.cel a ++ bj E (l.drop (k + 1))) := by
  have h2 : l.set k a = l.take k ++ (a :: l.drop (k + 1)) := List.set_eq_take_append_cons_drop.trans (by rw [if_pos hk])
  rw [h2, ft, dA]
theorem heap_put (g : Nat) (t : TypeId) (post : List Value) : ∀ (vs mid pre : List Value) (w : World), mid.length = vs.length → w.heap[g]? = some (.cells (pre ++ mid ++ post).toArray t (0, 0)) →
    (w.setCells g pre.length vs).heap[g]? = some (.cells (pre ++ vs ++ post).toArray t (0, 0))
  | [], mid, pre, w, h, hg => by
    have : mid = [] := List.eq_nil_of_length_eq_zero h
    subst this
    exact hg
  | v :: vs, mid, pre, w, h, hg => by
    match mid, h with
    | m :: ms, h =>
      rw [World.setCells]
      have h1 := heap_setCell_same w g pre.length _ t v hg
      have hset : (pre ++ m :: ms ++ post).toArray.setIfInBounds pre.length v = ((pre ++ [v]) ++ ms ++ post).toArray := by
        rw [List.setIfInBounds_toArray]
        congr 1
        rw [List.append_assoc, List.set_append_right _ _ (by simp), Nat.sub_self]
        simp
      rw [hset] at h1
      have := heap_put g t post vs ms (pre ++ [v]) _ (by simpa using h) h1
      rw [List.length_append, List.length_singleton] at this
      rw [this]
      simp
theorem aA.parts (h : aA E w B (.slice (some ⟨g, 0, none⟩) n cc) l) : l.length = n ∧ B ≤ g ∧ ∃ post, w.heap[g]? = some (.cells (bj E l ++ post).toArray E.t (0, 0)) ∧ n ≤ cc ∧ cc ≤ maxLen ∧ (bj E l ++ post).length = cc * E.n := by
  rcases h.2 with ⟨hv, _⟩ | ⟨g', cap, cur, hv, hbg, hg, h1, h2, h3, ht⟩
  · cases hv
  · injection hv with e1 e2 e3
    injection e1 with e1
    injection e1 with e1
    subst e1 e2 e3
    refine ⟨rfl, hbg, cur.toList.drop (l.length * E.n), ?_, h1, h2, ?_⟩
    · rw [← ht, List.take_append_drop, Array.toArray_toList]; exact hg
    · rw [← ht, List.take_append_drop, Array.length_toList, h3]
theorem aA.of_parts {post : List Value} (hl : l.length = n) (hB : B ≤ g) (hg : w.heap[g]? = some (.cells (bj E l ++ post).toArray E.t (0, 0))) (h1 : n ≤ cc) (h2 : cc ≤ maxLen) (h3 : (bj E l ++ post).length = cc * E.n) : aA E w B (.slice (some ⟨g, 0, none⟩) n cc) l := by
  subst hl
  refine ⟨bw E l, .inr ⟨g, cc, _, rfl, hB, hg, h1, h2, by simpa using h3, ?_⟩⟩
  rw [List.take_left' (bw E l)]
theorem aA.there (h : aA E w B (.slice (some ⟨g, 0, none⟩) n cc) l) (hk : k < n) {j m : Nat} (hj : j + m ≤ E.n) : w.there g (k * E.n + j) m := by
  obtain ⟨hl, _, post, hg, hn, _, h3⟩ := h.parts
  intro i hi
  refine ⟨?_, frozen_of_row w g _ _ _ hg⟩
  rw [cell_of_row w g _ _ _ (0, 0) hg]
  have : k * E.n + j + i < (bj E l ++ post).length := by
    have h4 := Nat.mul_le_mul_right E.n (Nat.le_trans hk hn)
    rw [Nat.succ_mul] at h4
    rw [h3]
    omega
  simp only [List.getElem?_toArray, List.getElem?_eq_getElem this, Option.isSome_some]
theorem aA.put (h : aA E w B (.slice (some ⟨g, 0, none⟩) n cc) l) (hk : k < n) {j : Nat} {vs : List Value} (a : α) (ha : E.cel a = (E.cel (l.getD k E.d)).take j ++ vs ++ (E.cel (l.getD k E.d)).drop (j + vs.length)) (hj : j + vs.length ≤ E.n) :
    aA E (w.setCells g (k * E.n + j) vs) B (.slice (some ⟨g, 0, none⟩) n cc) (l.set k a) := by
  obtain ⟨hl, hB, post, hg, h1, h2, h3⟩ := h.parts
  have hkl : k < l.length := by omega
  have hc : E.cel (l.getD k E.d) = (E.cel (l.getD k E.d)).take j ++ ((E.cel (l.getD k E.d)).drop j).take vs.length ++ (E.cel (l.getD k E.d)).drop (j + vs.length) := by
    rw [List.append_assoc, ← List.drop_drop, List.take_append_drop, List.take_append_drop]
  have hsp : bj E l ++ post = (bj E (l.take k) ++ (E.cel (l.getD k E.d)).take j) ++ ((E.cel (l.getD k E.d)).drop j).take vs.length ++ ((E.cel (l.getD k E.d)).drop (j + vs.length) ++ (bj E (l.drop (k + 1)) ++ post)) := by
    rw [flatE_split hkl]
    conv => lhs; rw [hc]
    simp only [List.append_assoc]
  rw [hsp] at hg
  have hmid : (((E.cel (l.getD k E.d)).drop j).take vs.length).length = vs.length := by rw [List.length_take, List.length_drop, E.len]; omega
  have := heap_put g E.t _ vs _ _ w hmid hg
  have hpl : (bj E (l.take k) ++ (E.cel (l.getD k E.d)).take j).length = k * E.n + j := by
    rw [List.length_append, bw, List.length_take, List.length_take, E.len, Nat.min_eq_left (by omega), Nat.min_eq_left (by omega)]
  rw [hpl] at this
  have hsp2 : bj E (l.set k a) ++ post = (bj E (l.take k) ++ (E.cel (l.getD k E.d)).take j) ++ vs ++ ((E.cel (l.getD k E.d)).drop (j + vs.length) ++ (bj E (l.drop (k + 1)) ++ post)) := by
    rw [flatE_set hkl, ha]
    simp only [List.append_assoc]
  rw [← hsp2] at this
  exact aA.of_parts (by rw [List.length_set, hl]) hB this h1 h2 (by rw [List.length_append, bw, List.length_set, ← bw E l, ← List.length_append, h3])
theorem aA.store (h : aA E w B (.slice (some ⟨g, 0, none⟩) n cc) l) (hk : k < n) (a : α) : aA E (w.setCells g (k * E.n) (E.cel a)) B (.slice (some ⟨g, 0, none⟩) n cc) (l.set k a) := by
  have := h.put hk (j := 0) (vs := E.cel a) a (by rw [List.take_zero, Nat.zero_add, List.drop_eq_nil_of_le (by rw [E.len, E.len]; exact Nat.le_refl _)]; simp) (by rw [E.len]; omega)
  simpa using this
end
abbrev Blk := Vector UInt8 64
def al : Blk := Vector.replicate 64 0
def cel (b : Blk) : List Value := b.toList.map fun u => .int .u8 (u.toNat : Int)
def blk (b : Blk) : Value := .agg (cel b).toArray
def byt (b : Blk) (j : Nat) : Int := bt b.toList j
theorem eR (b : Blk) {j : Nat} (h : j < 64) : byt b j = (b[j].toNat : Int) := by
  unfold byt
  rw [bt_get (by simpa using h)]
  simp
theorem ax (b : Blk) : (cel b).length = 64 := by simp [cel]
theorem dX (b : Blk) {j : Nat} (h : j < 64) : (cel b)[j]? = some (.int .u8 (byt b j)) := by
  rw [eR b h]
  simp [cel, h]
theorem cel_one (b : Blk) : ∀ v ∈ cel b, v.oneCell' = true := by
  intro v hv
  simp only [cel, List.mem_map] at hv
  obtain ⟨u, _, rfl⟩ := hv
  rfl
theorem blk_ext {a b : Blk} (h : ∀ j, j < 64 → byt a j = byt b j) : a = b := by
  apply Vector.ext
  intro i hi
  have := h i hi
  rw [eR a hi, eR b hi] at this
  exact UInt8.toNat_inj.1 (by omega)
theorem d9 (b : Blk) : (blk b).cells = (cel b).toArray := rfl
theorem infoB : (Tryz.prog.info? 65).map (fun i => (i.zero, i.size, i.bytes)) = some (some (blk al), 64, 64) := by kernel_rfl
theorem undB : Tryz.prog.underlying 65 = some (.array 64 5) := Tryz.underlying65
theorem sizeB : (Tryz.prog.info? 65).map (·.size) = some 64 := by kernel_rfl
theorem guardB : Tryz.prog.eqGuardType Tryz.prog.depth 65 = false := by kernel_rfl
section
variable {w : World} {b off : Nat} {c : Blk}
theorem run_load (hc : w.rangeAt b off (cel c)) : (Instr.loadAt 65 (.pointer (some ⟨b, off, none⟩))).run Tryz.prog w = .ok (blk c) w :=
  run_loadAt_mid w b off 65 (cel c) _ hc undB rfl (by rw [ax]; exact sizeB)
theorem run_store (ht : w.there b off 64) : (Instr.storeAt 65 (.pointer (some ⟨b, off, none⟩)) (blk c)).run Tryz.prog w = .ok () (w.setCells b off (cel c)) := by
  have := run_storeAt_mid (P := Tryz.prog) w b off 65 (cel c).toArray (by simpa [ax] using ht) (by simpa [ax] using sizeB) (all_oneCell_toArray (cel_one c))
  simpa [blk] using this
theorem run_zeroB (w : World) : (zeroValue 65).run Tryz.prog w = .ok (blk al) w := by
  have h := infoB
  cases hq : Tryz.prog.info? 65 with
  | none => rw [hq] at h; cases h
  | some i =>
    rw [hq] at h
    simp only [Option.map_some, Option.some.injEq, Prod.mk.injEq] at h
    simp [zeroValue, typeInfo, hq, h.1]
theorem run_newVar (w : World) (v : Value) : (newVar 65 v).run Tryz.prog w = .ok ⟨w.heap.size, 0, none⟩ (w.alloc (.cells v.cells 65)) := by
  simp [newVar, newRow]
theorem run_box (w : World) (c : Blk) : (Instr.box 65 (blk c)).run Tryz.prog w = .ok (.pointer (some ⟨w.heap.size, 0, none⟩)) (w.alloc (.cells (cel c).toArray 65)) := by
  simp [Instr.box, run_newVar, d9]
theorem run_alloc (w : World) : (Instr.alloc 65 true (.tuple #[])).run Tryz.prog w = .ok (.pointer (some ⟨w.heap.size, 0, none⟩)) (w.alloc (.cells (cel al).toArray 65)) := by
  simp only [Instr.alloc, Sem.run_bind, run_zeroB, Result.andThen_ok, run_newVar, Sem.run_pure, d9]
end
theorem run_partB (w : World) (c : Blk) (i : Nat) (hi : i < 64) : (part 5 (cel c).toArray (i * 1)).run Tryz.prog w = .ok (.int .u8 (byt c i)) w := by
  have := dX c hi
  simp [part, this]
theorem run_eqB (w : World) (a b : Blk) (d : Nat) : (Op.equalIn (d + 2) 65 (blk a) (blk b)).run Tryz.prog w = .ok (decide (a = b)) w := by
  have he : ∀ x y : Int, (Op.equalIn (d + 1) 5 (.int .u8 x) (.int .u8 y)).run Tryz.prog w = .ok (x == y) w := fun x y => run_equalIn_int w d 5 .u8 .u8 x y Tryz.underlying5
  show (Op.equalIn ((d + 1) + 1) 65 (blk a) (blk b)).run Tryz.prog w = .ok (decide (a = b)) w
  generalize d + 1 = e at *
  have key : ∀ (l : List Nat), (∀ i ∈ l, i < 64) →
      ((forIn l ((none : Option Bool), ()) fun i r => do
        let x ← part 5 (cel a).toArray (i * 1)
        let y ← part 5 (cel b).toArray (i * 1)
        let z ← Op.equalIn e 5 x y
        if (!z) = true then pure (ForInStep.done (some false, ())) else pure (ForInStep.yield (none, ())) : Sem _)).run Tryz.prog w =
      .ok (if l.all (fun i => byt a i == byt b i) then (none, ()) else (some false, ())) w := by
    intro l
    induction l with
    | nil => intro _; simp
    | cons i l ih =>
      intro hl
      have hi := hl i (by simp)
      simp only [List.forIn_cons, Sem.run_bind, run_partB w a i hi, run_partB w b i hi, Result.andThen_ok, he]
      by_cases h : byt a i = byt b i
      · have hb : (byt a i == byt b i) = true := by simpa using h
        simp only [hb, Bool.not_true, Bool.false_eq_true, if_false, Sem.run_pure, Result.andThen_ok, List.all_cons, Bool.true_and]
        exact ih fun j hj => hl j (by simp [hj])
      · have hb : (byt a i == byt b i) = false := by simpa using h
        simp [hb]
  have hall : ((List.range' 0 64).all fun i => byt a i == byt b i) = decide (a = b) := by
    rw [Bool.eq_iff_iff, List.all_eq_true, decide_eq_true_iff]
    constructor
    · intro h
      exact blk_ext fun j hj => by simpa using h j (by simp [List.mem_range']; omega)
    · rintro rfl i _
      simp
  have hk := key (List.range' 0 64) (fun i hi => by simp [List.mem_range'] at hi; omega)
  rw [hall] at hk
  simp only [Op.equalIn, blk, Sem.run_bind, run_underlying undB, Result.andThen_ok, Tryz.sizeOf5, Std.Legacy.Range.forIn_eq_forIn_range']
  simp only [Std.Legacy.Range.size, Nat.sub_zero, Nat.add_sub_cancel, Nat.div_one]
  rw [hk]
  by_cases h : a = b
  · simp [h]
  · simp [h]
def vals (l : List UInt8) : List Value := l.map fun u => .int .u8 (u.toNat : Int)
theorem bh (l : List UInt8) : (vals l).length = l.length := by simp [vals]
theorem vals_one (l : List UInt8) : ∀ v ∈ vals l, v.oneCell' = true := by
  intro v hv
  simp only [vals, List.mem_map] at hv
  obtain ⟨u, _, rfl⟩ := hv
  rfl
theorem vals_at {l : List UInt8} {j : Nat} (h : j < l.length) : (vals l)[j]? = some (.int .u8 (bt l j)) := by
  rw [bt_get h]
  simp [vals, h]
section
variable {w w' : World} {B b o n : Nat} {cs : List Value}
theorem cO (h : w.rangeAt b o cs) (hb : b < B) (hw : Below B w w') : w'.rangeAt b o cs := fun j v hj => by
  rw [hw.cell (p := ⟨b, o + j, none⟩) hb]; exact h j v hj
theorem aL (h : w.there b o n) (hb : b < B) (hw : Below B w w') : w'.there b o n := fun j hj => by
  rw [hw.cell (p := ⟨b, o + j, none⟩) hb, hw.frozen (p := ⟨b, o + j, none⟩) hb]; exact h j hj
theorem b7 (w : World) (cs : List Value) (t : TypeId) : (w.alloc (.cells cs.toArray t)).rangeAt w.heap.size 0 cs := fun j v hj => by
  rw [cell_of_row _ _ (0 + j) cs.toArray t (0, 0) (heap_alloc_new w _)]
  simpa using hj
theorem dO (b : Nat) : ∀ (vs : List Value) (o : Nat) (w : World) (k : Nat), k ≠ b → (w.setCells b o vs).heap[k]? = w.heap[k]?
  | [], _, _, _, _ => rfl
  | v :: r, o, w, k, h => by
    rw [World.setCells, dO b r (o + 1) _ k h]
    exact heap_setCell_other w ⟨b, o, none⟩ k v h
theorem eO (b : Nat) : ∀ (vs : List Value) (o : Nat) (w : World), (w.setCells b o vs).heap.size = w.heap.size ∧ (w.setCells b o vs).os = w.os ∧ (w.setCells b o vs).tape = w.tape ∧ (w.setCells b o vs).output = w.output
  | [], _, _ => ⟨rfl, rfl, rfl, rfl⟩
  | v :: r, o, w => by
    have h := eO b r (o + 1) (w.setCell ⟨b, o, none⟩ v)
    rw [World.setCells]
    refine ⟨h.1.trans ?_, h.2.1.trans rfl, h.2.2.1.trans rfl, h.2.2.2.trans rfl⟩
    simp [World.setCell]
theorem below_setCells {a : World} (h : Below B a w) {b o : Nat} (hb : B ≤ b) (vs : List Value) : Below B a (w.setCells b o vs) := by
  obtain ⟨h1, h2, h3, h4⟩ := eO b vs o w
  exact ⟨h2.trans h.os, h3.trans h.tape, h4.trans h.output, by rw [h1]; exact h.size, fun k hk => (dO b vs o w k (by omega)).trans (h.block k hk)⟩
end
section
variable {ρ : Operand → Value} {o : Oper} {x y : Operand} {w : World} {b off : Nat} {c d : Blk}
theorem aJ (ho : o.op = .load 65 x) (hx : ρ x = .pointer (some ⟨b, off, none⟩)) (hc : w.rangeAt b off (cel c)) : (execOp ρ o).run Tryz.prog w = .ok (.value (blk c)) w := by
  unfold execOp
  simp only [ho, hx, Sem.run_bind, run_load hc, Result.andThen_ok, Sem.run_pure]
theorem aH (ho : o.op = .store 65 x y) (hx : ρ x = .pointer (some ⟨b, off, none⟩)) (hy : ρ y = blk c) (ht : w.there b off 64) : (execOp ρ o).run Tryz.prog w = .ok .skip (w.setCells b off (cel c)) := by
  unfold execOp
  simp only [ho, hx, hy, Sem.run_bind, run_store ht, Result.andThen_ok, Sem.run_pure]
theorem exec_fill (ho : o.op = .store 65 x y) (hx : ρ x = .pointer (some ⟨w.heap.size, 0, none⟩)) (hy : ρ y = blk c) : (execOp ρ o).run Tryz.prog (w.alloc (.cells (cel d).toArray 65)) = .ok .skip (w.alloc (.cells (cel c).toArray 65)) := by
  have h := run_storeAt_new (P := Tryz.prog) w 65 (cel d).toArray (cel c).toArray (by simpa [ax] using sizeB) (by simp [ax]) (all_oneCell_toArray (cel_one c))
  unfold execOp
  simp only [ho, hx, hy, Sem.run_bind]
  unfold blk
  rw [h]
  simp
theorem bD (ho : o.op = .box 65 x) (hx : ρ x = blk c) : (execOp ρ o).run Tryz.prog w = .ok (.value (.pointer (some ⟨w.heap.size, 0, none⟩))) (w.alloc (.cells (cel c).toArray 65)) := by
  unfold execOp
  simp only [ho, hx, Sem.run_bind, run_box, Result.andThen_ok, Sem.run_pure]
theorem aK (ho : o.op = .alloc 65) : (execOp ρ o).run Tryz.prog w = .ok (.value (.pointer (some ⟨w.heap.size, 0, none⟩))) (w.alloc (.cells (cel al).toArray 65)) := by
  unfold execOp
  simp only [ho, Sem.run_bind, run_alloc, Result.andThen_ok, Sem.run_pure]
theorem run_guardB (op : BinOp) (x y : Operand) (c d : Blk) (w : World) : (eqGuard op 65 x y (blk c) (blk d)).run Tryz.prog w = .ok () w := run_eqGuard_agg w op _ x y _ _ guardB
theorem exec_neq {t : TypeId} (ho : o.op = .binOp .neq 65 x y t) (hx : ρ x = blk c) (hy : ρ y = blk d) : (execOp ρ o).run Tryz.prog w = .ok (.value (.bool (!decide (c = d)))) w := by
  have h := run_neq_struct (P := Tryz.prog) w 65 (cel c).toArray (cel d).toArray
  have he := run_eqB w c d 9998
  unfold blk at he
  rw [he] at h
  unfold execOp
  simp only [ho, hx, hy, Sem.run_bind, run_guardB, Result.andThen_ok]
  unfold blk
  rw [h]
  simp
theorem run_build {parts : List (Nat × Value)} (h : Instr.fill (fun i => some (i * 1, 1)) (cel al).toArray parts = some (cel c).toArray) (w : World) : (Instr.build 65 parts.toArray).run Tryz.prog w = .ok (blk c) w := by
  simp only [Instr.build, Sem.run_bind, run_zeroB, run_underlying undB, Result.andThen_ok, Tryz.sizeOf5, d9, h, Sem.run_pure]
  rfl
theorem bU {parts : List (Nat × Operand)} (ho : o.op = .build 65 parts.toArray) (h : Instr.fill (fun i => some (i * 1, 1)) (cel al).toArray (parts.map fun (i, x) => (i, ρ x)) = some (cel c).toArray) : (execOp ρ o).run Tryz.prog w = .ok (.value (blk c)) w := by
  unfold execOp
  simp only [ho, List.map_toArray, Sem.run_bind, run_build h, Result.andThen_ok, Sem.run_pure]
end
theorem fF {ρ : Operand → Value} {o : Oper} {x y : Operand} {w : World} {c : Blk} (ho : o.op = .store 65 x y) (hx : ρ x = .pointer (some ⟨w.heap.size, 0, none⟩)) (hy : ρ y = blk c) : (execOp ρ o).run Tryz.prog (w.alloc (.cells (cel al).toArray 65)) = .ok .skip (w.alloc (.cells (cel c).toArray 65)) := exec_fill ho hx hy
theorem res_blk {fn : Func} {p : Tmp} {c : Blk} (h : fn.results = #[.cell p 65]) (tmps : Array Value) (w : World) (b : Nat) (hp : tmps.getD p undef = .pointer (some ⟨b, 0, none⟩)) (hc : w.rangeAt b 0 (cel c)) :
    (results fn tmps).run Tryz.prog w = .ok (blk c) w := by
  have hl : (loadVar 65 ⟨b, 0, none⟩).run Tryz.prog w = .ok (blk c) w := run_loadVar_mid w b 0 65 (cel c) _ hc undB rfl (by rw [ax]; exact sizeB)
  have hp' : tmps[p]?.getD undef = .pointer (some ⟨b, 0, none⟩) := by simpa using hp
  simp [results, h, hp', asAddr, hl]
theorem bN {fn : Func} {p u : Tmp} {c : Blk} (h : fn.results = #[.cell p 65, .tmp u]) (tmps : Array Value) (w : World) (b : Nat) (hp : tmps.getD p undef = .pointer (some ⟨b, 0, none⟩)) (hc : w.rangeAt b 0 (cel c)) :
    (results fn tmps).run Tryz.prog w = .ok (.tuple #[blk c, tmps.getD u undef]) w := by
  have hl : (loadVar 65 ⟨b, 0, none⟩).run Tryz.prog w = .ok (blk c) w := run_loadVar_mid w b 0 65 (cel c) _ hc undB rfl (by rw [ax]; exact sizeB)
  have hp' : tmps[p]?.getD undef = .pointer (some ⟨b, 0, none⟩) := by simpa using hp
  simp [results, h, hp', asAddr, hl]
section
variable {w w' : World} {B b o n : Nat} {cs : List Value} {c : Blk}
theorem db (w : World) (c : Blk) (t : TypeId) : (w.alloc (.cells (cel c).toArray t)).there w.heap.size 0 64 := fun j hj => by
  rw [cell_of_row _ _ (0 + j) _ t (0, 0) (heap_alloc_new w _), frozen_of_row _ _ (0 + j) _ t (heap_alloc_new w _)]
  exact ⟨by simp [ax]; omega, rfl⟩
theorem there_row {g m : Nat} {t : TypeId} {f : Nat → Value} (h : w.rowIs g t m f) (ho : o + n ≤ m) : w.there g o n := fun j hj => by
  rw [h.cell (i := o + j) (by omega), h.frozen (o + j)]
  exact ⟨rfl, rfl⟩
theorem range_row {g m : Nat} {t : TypeId} {f : Nat → Int} (h : w.rowIs g t m (fun j => .int .u8 (f j))) (ho : o + 64 ≤ m) (hf : ∀ j, j < 64 → f (o + j) = byt c j) : w.rangeAt g o (cel c) := fun j v hj => by
  have hlt : j < 64 := by have := (List.getElem?_eq_some_iff.1 hj).1; rwa [ax] at this
  rw [h.cell (i := o + j) (by omega), ← hj, dX c hlt]
  show some (Value.int .u8 (f (o + j))) = _
  rw [hf j hlt]
theorem row_new (w : World) (c : Blk) (t : TypeId) : (w.alloc (.cells (cel c).toArray t)).rowIs w.heap.size t 64 (fun j => .int .u8 (byt c j)) := by
  have h := World.rowIs_alloc w (cel c).toArray t (fun j => .int .u8 (byt c j)) (fun i hi => by
    have : i < 64 := by simpa [ax] using hi
    simpa using dX c this)
  simpa [ax] using h
def lay (f : Nat → Int) (o : Nat) (c : Blk) : Nat → Int := fun j => if o ≤ j ∧ j < o + 64 then byt c (j - o) else f j
end
theorem cel_set (c : Blk) {r : Nat} (hr : r < 64) (u : UInt8) : (cel c).set r (.int .u8 (u.toNat : Int)) = cel (c.set r u) := by
  unfold cel
  rw [← List.map_set, Vector.toList_set]
structure Only (F : Nat → Prop) (w w' : World) : Prop where
  os : w'.os = w.os
  tape : w'.tape = w.tape
  output : w'.output = w.output
  size : w.heap.size ≤ w'.heap.size
  block : ∀ k, k < w.heap.size → ¬ F k → w'.heap[k]? = w.heap[k]?
section
variable {F G : Nat → Prop} {w w1 w2 a : World} {B : Nat}
theorem Only.refl (F : Nat → Prop) (w : World) : Only F w w := ⟨rfl, rfl, rfl, Nat.le_refl _, fun _ _ _ => rfl⟩
theorem Only.trans (h : Only F w w1) (k : Only G w1 w2) (hG : ∀ b, G b → F b ∨ w.heap.size ≤ b) : Only F w w2 :=
  ⟨k.os.trans h.os, k.tape.trans h.tape, k.output.trans h.output, Nat.le_trans h.size k.size, fun b hb hn =>
    (k.block b (Nat.lt_of_lt_of_le hb h.size) (fun hg => by rcases hG b hg with e | e; exact hn e; omega)).trans (h.block b hb hn)⟩
theorem Only.widen (h : Only F w w1) (hG : ∀ b, F b → G b) : Only G w w1 := ⟨h.os, h.tape, h.output, h.size, fun b hb hn => h.block b hb fun e => hn (hG b e)⟩
theorem Only.of_below (F : Nat → Prop) (h : Below w.heap.size w w1) : Only F w w1 := ⟨h.os, h.tape, h.output, h.size, fun b hb _ => h.block b hb⟩
theorem Only.below (h : Only F w w1) (hF : ∀ b, F b → B ≤ b) (hB : B ≤ w.heap.size) : Below B w w1 := ⟨h.os, h.tape, h.output, h.size, fun b hb => h.block b (by omega) fun e => by have := hF b e; omega⟩
theorem Only.cJ (h : Only F w w1) (k : Below w1.heap.size w1 w2) : Only F w w2 := h.trans (Only.of_below F k) fun _ hb => .inl hb
theorem Only.drew (h : Only F w w1) : Only F w w1.drew := ⟨h.os, h.tape, h.output, h.size, h.block⟩
theorem Only.alloc (h : Only F w w1) (o : Obj) : Only F w (w1.alloc o) := h.cJ ((Below.refl _ _).alloc (Nat.le_refl _) o)
theorem Only.setCell (h : Only F w w1) {p : Addr} (hp : F p.block ∨ w.heap.size ≤ p.block) (u : Value) : Only F w (w1.setCell p u) :=
  ⟨h.os, h.tape, h.output, by have := h.size; simpa [World.setCell] using this, fun b hb hn => (Below.heap_setCell w1 p u b (fun e => by subst e; rcases hp with e | e; exact hn e; omega)).trans (h.block b hb hn)⟩
theorem Only.grown {row : Option Nat} (h : Only F w w1) (hg : w1.grownBy w2 row) (hr : ∀ k, row = some k → F k ∨ w.heap.size ≤ k) : Only F w w2 :=
  ⟨hg.os.trans h.os, hg.tape.trans h.tape, hg.output.trans h.output, Nat.le_trans h.size hg.size, fun b hb hn =>
    (hg.block b (Nat.lt_of_lt_of_le hb h.size) (fun e => by rcases hr b e.symm with e | e; exact hn e; omega)).trans (h.block b hb hn)⟩
theorem Only.keep {o : Obj} {b : Nat} (h : Only F w w1) (hb : w.heap[b]? = some o) (hn : ¬ F b) : w1.heap[b]? = some o := (h.block b (Array.getElem?_eq_some_iff.1 hb).1 hn).trans hb
theorem Only.cell (h : Only F w w1) {p : Addr} (hp : p.block < w.heap.size) (hn : ¬ F p.block) : w1.cell? p = w.cell? p := World.cell?_of_block (w := w) (h.block _ hp hn)
end
theorem bK {w w' : World} {b : Nat} {o : Obj} (h : w.heap[b]? = some o) (hb : Below w.heap.size w w') : w'.heap[b]? = some o := (hb.block b (Array.getElem?_eq_some_iff.1 h).1).trans h
theorem blk_keep2 {w w' : World} {B b : Nat} {o : Obj} (h : w.heap[b]? = some o) (hB : b < B) (hb : Below B w w') : w'.heap[b]? = some o := (hb.block b hB).trans h
theorem bM {w : World} {b : Nat} {o : Obj} (h : w.heap[b]? = some o) (o' : Obj) : (w.alloc o').heap[b]? = some o := (Below.heap_alloc w o' b (Array.getElem?_eq_some_iff.1 h).1).trans h
theorem aV {w : World} {b : Nat} {o : Obj} (h : w.heap[b]? = some o) : b < w.heap.size := (Array.getElem?_eq_some_iff.1 h).1
section
variable {w : World} {b : Nat} {t : TypeId} {x y z : Value}
theorem cells3 (h : w.heap[b]? = some (.cells #[x, y, z] t (0, 0))) : w.cell? ⟨b, 0, none⟩ = some x ∧ w.cell? ⟨b, 1, none⟩ = some y ∧ w.cell? ⟨b, 2, none⟩ = some z := by
  refine ⟨?_, ?_, ?_⟩
  · rw [cell_of_row w b 0 _ t (0, 0) h]; rfl
  · rw [cell_of_row w b 1 _ t (0, 0) h]; rfl
  · rw [cell_of_row w b 2 _ t (0, 0) h]; rfl
end
theorem new1 (w : World) (cs : Array Value) (t : TypeId) : (w.alloc (.cells cs t)).heap[w.heap.size]? = some (.cells cs t) := heap_alloc_new w _
def BlkE : Elt Blk where
  s := 112
  t := 65
  n := 64
  by_ := 64
  cel := cel
  d := al
  z := blk al
  pos := by omega
  small := by omega
  len := ax
  one := cel_one
  und := Tryz.underlying112
  info := infoB
  zc := by rw [d9]; simp [ax]
def dC (p : Int × Blk) : List Value := .int .i64 p.1 :: cel p.2
def pairV (n : Int) (b : Blk) : Value := .agg (.int .i64 n :: cel b).toArray
theorem cel65_length (p : Int × Blk) : (dC p).length = 65 := by simp [dC, ax]
theorem cel65_one (p : Int × Blk) : ∀ v ∈ dC p, v.oneCell' = true := by
  intro v hv
  simp only [dC, List.mem_cons] at hv
  rcases hv with rfl | hv
  · rfl
  · exact cel_one p.2 v hv
def pairE (s t : TypeId) (und : Tryz.prog.underlying s = some (.slice t)) (info : (Tryz.prog.info? t).map (fun i => (i.zero, i.size, i.bytes)) = some (some (pairV 0 al), 65, 72)) : Elt (Int × Blk) where
  s := s
  t := t
  n := 65
  by_ := 72
  cel := dC
  d := (0, al)
  z := pairV 0 al
  pos := by omega
  small := by omega
  len := cel65_length
  one := cel65_one
  und := und
  info := info
  zc := by show (Value.cells (.agg _)).size = 65; simp [Value.cells, ax]
section
variable {s t : TypeId} {und : Tryz.prog.underlying s = some (.slice t)} {info : (Tryz.prog.info? t).map (fun i => (i.zero, i.size, i.bytes)) = some (some (pairV 0 al), 65, 72)} {w : World} {B n k : Nat} {A : Option Addr} {l : List (Int × Blk)}
theorem RdE.pair (h : RdE (pairE s t und info) w B A n l) (hk : k < n) : ∃ b off, A = some ⟨b, off, none⟩ ∧ b < B ∧ w.cell? ⟨b, off + k * 65, none⟩ = some (.int .i64 (l.getD k (0, al)).1) ∧ w.rangeAt b (off + k * 65 + 1) (cel (l.getD k (0, al)).2) := by
  obtain ⟨b, off, e, hb, hc⟩ := h.2 k hk
  refine ⟨b, off, e, hb, hc 0 _ rfl, fun j v hj => ?_⟩
  have := hc (j + 1) v hj
  rwa [show off + k * (pairE s t und info).n + (j + 1) = off + k * 65 + 1 + j from by show off + k * 65 + (j + 1) = _; omega] at this
end
theorem RdE.blk {w : World} {B n k : Nat} {A : Option Addr} {l : List Blk} (h : RdE BlkE w B A n l) (hk : k < n) : ∃ b off, A = some ⟨b, off, none⟩ ∧ b < B ∧ w.rangeAt b (off + k * 64) (cel (l.getD k al)) := h.2 k hk
theorem RdE.only {α : Type} {E : Elt α} {F : Nat → Prop} {w w' : World} {B n : Nat} {A : Option Addr} {l : List α} (h : RdE E w B A n l) (k : Only F w w') (hB : B ≤ w.heap.size) (hn : ∀ x, A = some x → 0 < n → ¬ F x.block) : RdE E w' B A n l :=
  ⟨h.1, fun j hj => by
    obtain ⟨b, off, e, hb, hc⟩ := h.2 j hj
    refine ⟨b, off, e, hb, fun i v hi => ?_⟩
    rw [k.cell (p := ⟨b, off + j * E.n + i, none⟩) (show b < w.heap.size by omega) (show ¬ F b from hn ⟨b, off, none⟩ e (by omega))]
    exact hc i v hi⟩
theorem Only.setCells {F : Nat → Prop} {w w1 : World} {b : Nat} (h : Only F w w1) (hb : F b ∨ w.heap.size ≤ b) : ∀ (vs : List Value) (o : Nat), Only F w (w1.setCells b o vs) := by
  intro vs
  induction vs generalizing w1 with
  | nil => intro o; exact h
  | cons v r ih => intro o; exact ih (h.setCell (p := ⟨b, o, none⟩) hb v) (o + 1)
theorem blk_laid {w : World} {b : Nat} {t : TypeId} {c d : Blk} (h : w.heap[b]? = some (.cells (cel c).toArray t (0, 0))) : (w.setCells b 0 (cel d)).heap[b]? = some (.cells (cel d).toArray t (0, 0)) := by
  have := heap_put b t [] (cel d) (cel c) [] w (by rw [ax, ax]) (by simpa using h)
  simpa using this
theorem blk_range {w : World} {b : Nat} {t : TypeId} {c : Blk} (h : w.heap[b]? = some (.cells (cel c).toArray t (0, 0))) : w.rangeAt b 0 (cel c) := fun j v hj => by
  rw [cell_of_row _ _ (0 + j) (cel c).toArray t (0, 0) h]
  simpa using hj
theorem blk_there {w : World} {b : Nat} {t : TypeId} {c : Blk} (h : w.heap[b]? = some (.cells (cel c).toArray t (0, 0))) : w.there b 0 64 := fun j hj => by
  rw [cell_of_row _ _ (0 + j) _ t (0, 0) h, frozen_of_row _ _ (0 + j) _ t h]
  exact ⟨by simp [ax]; omega, rfl⟩
section
variable {P : Program} {ops : Array Oper} {Q : Exit → Act → World → Prop} {md : Region.Mode} {S : World → Prop} {z : Nat}
def cm (P : Program) (md : Region.Mode) (ops : Array Oper) (Q : Exit → Act → World → Prop) (S : World → Prop) (z : Nat) : Nat → Array Bool → Act → World → Prop
  | 0, listed, a, w => Region.ready md ops listed = [] ∧ Q .normal a w
  | fuel + 1, listed, a, w =>
    (Region.ready md ops listed = [] → Q .normal a w) ∧
    ∀ i ∈ Region.ready md ops listed, wpOp P ops Q i (fun a' w' => (i ≠ z → S w') ∧ cm P md ops Q S z fuel (listed.setIfInBounds i true) a' w') a w
theorem wpAny_of_Z : ∀ (fuel : Nat) (listed : Array Bool) (a : Act) (w : World), cm P md ops Q S z fuel listed a w → wpAny P md ops Q fuel listed a w
  | 0, _, _, _, h => h
  | fuel + 1, _, _, _, h => ⟨h.1, fun i hi => wpOp_mono (fun a' w' h' => wpAny_of_Z fuel _ a' w' h'.2) (h.2 i hi)⟩
def waitsB (md : Region.Mode) (ops : Array Oper) (z i : Nat) : Bool := match ops[z]? with
  | some o => o.after.any fun e => Region.binds md e && decide (e.on = i)
  | none => false
theorem waits_spec {listed : Array Bool} {i : Nat} (h : waitsB md ops z i = true) (hi : listed.getD i false = false) : z ∉ Region.ready md ops listed := by
  intro hz
  obtain ⟨_, o, ho, hall⟩ := mem_ready.1 hz
  unfold waitsB at h
  rw [ho] at h
  simp only [Array.any_eq_true, Bool.and_eq_true, decide_eq_true_eq] at h
  obtain ⟨k, hk, hb, he⟩ := h
  have := hall _ (Array.getElem_mem hk) hb
  rw [he, hi] at this
  cases this
theorem un_of {listed : Array Bool} {i : Nat} (h : listed.getD i true = false) : listed.getD i false = false := by
  rcases Nat.lt_or_ge i listed.size with h' | h'
  · simpa [h'] using h
  · simp [Array.getElem?_eq_none h']
theorem wpAnyZ_first {i : Nat} {oi : Oper} {v : Value} (hi : ops[i]? = some oi) (hsel : ∀ (j : Nat) (o : Oper) cs b, ops[j]? = some o → o.op ≠ .select cs b)
    (hQ : ∀ c a w, Q (.panic c) (a.put oi.dst v) w → Q (.panic c) a w) (hiz : i ≠ z) (hwz : waitsB md ops z i = true) :
    ∀ (fuel : Nat) (listed : Array Bool) (a : Act) (w : World),
      (∀ j oj, ops[j]? = some oj → j ≠ i → listed.getD j true = false → (∀ e ∈ oj.after, Region.binds md e = true → e.on ≠ i) → oi.apart ops oj = true) →
      i ∈ Region.ready md ops listed → YieldsIf P ops S oi v a → S w →
      cm P md ops Q S z fuel (listed.setIfInBounds i true) (a.put oi.dst v) w → cm P md ops Q S z (fuel + 1) listed a w := by
  intro fuel
  induction fuel with
  | zero =>
    intro listed a w _ hr hy hS H
    refine ⟨fun h => (by rw [h] at hr; cases hr), fun j hj => ?_⟩
    by_cases hji : j = i
    · subst hji; exact hy.wpOp hi hS ⟨fun _ => hS, H⟩
    · have := ready_mono hj hji
      rw [H.1] at this
      cases this
  | succ fuel ih =>
    intro listed a w hfree hr hy hS H
    refine ⟨fun h => (by rw [h] at hr; cases hr), fun j hj => ?_⟩
    by_cases hji : j = i
    · subst hji; exact hy.wpOp hi hS ⟨fun _ => hS, H⟩
    · have h1 := H.2 j (ready_mono hj hji)
      obtain ⟨hjun, oj, hoj, hall⟩ := mem_ready.1 hj
      have hjz : j ≠ z := fun e => by
        subst e
        exact waits_spec hwz (un_of (mem_ready.1 hr).1) hj
      have hnot : ∀ e ∈ oj.after, Region.binds md e = true → e.on ≠ i := fun e he hb heq => by
        have h1 := hall e he hb
        rw [heq, un_of (mem_ready.1 hr).1] at h1
        cases h1
      have h2 := wpOp_putIf hoj (hfree j oj hoj hji hjun hnot) (fun cs b => hsel i oi cs b hi) (fun cs b => hsel j oj cs b hoj) hQ hy h1
      have hfree' : ∀ k ok, ops[k]? = some ok → k ≠ i → (listed.setIfInBounds j true).getD k true = false →
          (∀ e ∈ ok.after, Region.binds md e = true → e.on ≠ i) → oi.apart ops ok = true := fun k ok hk hki hun hno => by
        refine hfree k ok hk hki ?_ hno
        by_cases hjk : j = k
        · subst hjk; exact hjun
        · rw [getD_set_ne true hjk] at hun; exact hun
      refine wpOp_mono (fun a' w' h3 => ⟨h3.2.1, ih (listed.setIfInBounds j true) a' w' hfree' (ready_mono hr (Ne.symm hji)) h3.1 (h3.2.1 hjz) ?_⟩) h2
      rw [Array.setIfInBounds_comm _ _ hji]
      exact h3.2.2
theorem wpAnyZ_all {rs : List Nat} {fuel : Nat} {listed : Array Bool} {a : Act} {w : World} (hr : Region.ready md ops listed = rs) (hne : rs ≠ [])
    (h : ∀ i ∈ rs, wpOp P ops Q i (fun a' w' => (i ≠ z → S w') ∧ cm P md ops Q S z fuel (listed.setIfInBounds i true) a' w') a w) : cm P md ops Q S z (fuel + 1) listed a w :=
  ⟨fun h0 => absurd (hr ▸ h0) hne, hr ▸ h⟩
theorem b8 {listed : Array Bool} {a : Act} {w : World} (hr : Region.ready md ops listed = []) (h : Q .normal a w) :
    ∀ fuel, cm P md ops Q S z fuel listed a w
  | 0 => ⟨hr, h⟩
  | _ + 1 => ⟨fun _ => h, by rw [hr]; simp⟩
theorem bx {id : Nat} {a : Act} {w : World} (S : World → Prop) (z : Nat) (hm : P.follows .mixedOrders = true)
    (h : cm P .any ops Q S z ops.size (Array.replicate ops.size false) a w.drew) : (Code.region id ops true).wp P Q a w :=
  wp_region_any hm (wpAny_of_Z _ _ _ _ h)
end
section
variable {P : Program} {md : Region.Mode} {l : List Oper} {Q : Exit → Act → World → Prop} {S : World → Prop} {z fuel : Nat} {listed : Array Bool} {a : Act} {w w' : World} {o : Oper} {v : Value}
theorem ap (i : Nat) (hi : l[i]? = some o) (hs : Region.noSelect l.toArray = true) (hf : Region.free md l.toArray listed i = true) (hr : (Region.ready md l.toArray listed).contains i = true) (hiz : i ≠ z) (hwz : waitsB md l.toArray z i = true)
    (hw : Region.wanted o (yielded l.toArray a.tmps) = true) (h : ∀ w, S w → (execOp a.eval o).run P w = .ok (.value v) w) (hQ : ∀ c a w, Q (.panic c) (a.put o.dst v) w → Q (.panic c) a w) (hS : S w)
    (hk : cm P md l.toArray Q S z fuel (listed.setIfInBounds i true) (a.put o.dst v) w) : cm P md l.toArray Q S z (fuel + 1) listed a w :=
  wpAnyZ_first (by simpa using hi) (Region.noSelect_spec hs) hQ hiz hwz fuel listed a w (Region.free_spec (by simpa using hi) hf) (by simpa using hr) (.inl ⟨hw, h⟩) hS hk
theorem bl (i : Nat) (hi : l[i]? = some o) (hr : Region.ready md l.toArray listed = [i]) (hw : Region.wanted o (yielded l.toArray a.tmps) = true) (h : (execOp a.eval o).run P w = .ok (.value v) w')
    (hS : i ≠ z → S w') (hk : cm P md l.toArray Q S z fuel (listed.setIfInBounds i true) (a.put o.dst v) w') : cm P md l.toArray Q S z (fuel + 1) listed a w :=
  wpAnyZ_all hr (by simp) fun j hj => by
    obtain rfl : j = i := by simpa using hj
    unfold wpOp
    simp only [List.getElem?_toArray, hi, hw, if_true]
    refine .inl ?_
    unfold Oper.wp
    rw [h]
    exact ⟨hS, hk⟩
theorem dd (i : Nat) {f : FuncId} {vs : Array Value} (hi : l[i]? = some o) (hr : Region.ready md l.toArray listed = [i]) (hw : Region.wanted o (yielded l.toArray a.tmps) = true) (h : (execOp a.eval o).run P w = .ok (.enter f vs) w)
    (hc : Calls P f vs w fun e w' => ∃ v, e = .returned v ∧ (i ≠ z → S w') ∧ cm P md l.toArray Q S z fuel (listed.setIfInBounds i true) (a.put o.dst v) w') : cm P md l.toArray Q S z (fuel + 1) listed a w :=
  wpAnyZ_all hr (by simp) fun j hj => by
    obtain rfl : j = i := by simpa using hj
    unfold wpOp
    simp only [List.getElem?_toArray, hi, hw, if_true]
    refine .inl ?_
    unfold Oper.wp
    rw [h]
    exact hc.mono fun e w' ⟨v, he, hk⟩ => by subst he; exact hk
theorem ey (i : Nat) (hi : l[i]? = some o) (hr : Region.ready md l.toArray listed = [i]) (hw : Region.wanted o (yielded l.toArray a.tmps) = true) (h : (execOp a.eval o).run P w = .ok .skip w')
    (hS : i ≠ z → S w') (hk : cm P md l.toArray Q S z fuel (listed.setIfInBounds i true) (a.put o.dst undef) w') : cm P md l.toArray Q S z (fuel + 1) listed a w :=
  wpAnyZ_all hr (by simp) fun j hj => by
    obtain rfl : j = i := by simpa using hj
    unfold wpOp
    simp only [List.getElem?_toArray, hi, hw, if_true]
    refine .inl ?_
    unfold Oper.wp
    rw [h]
    exact ⟨hS, hk⟩
end
def dq : Elt Int where
  s := 36
  t := 3
  n := 1
  by_ := 8
  cel x := [.int .i64 x]
  d := 0
  z := .int .i64 0
  pos := by omega
  small := by omega
  len _ := rfl
  one x v hv := by simp at hv; subst hv; rfl
  und := Tryz.underlying36
  info := by kernel_rfl
  zc := rfl
theorem flat_ints (l : List Int) : bj dq l = l.map fun x => .int .i64 x := by
  induction l with
  | nil => rfl
  | cons x l ih => rw [dA, ih]; rfl
section
variable {w : World} {B n : Nat} {A : Option Addr} {l : List Int}
theorem RdE.int (h : RdE dq w B A n l) {k : Nat} (hk : k < n) : ∃ b off, A = some ⟨b, off, none⟩ ∧ b < B ∧ w.cell? ⟨b, off + k, none⟩ = some (.int .i64 (l.getD k 0)) := by
  obtain ⟨b, off, e, hb, hc⟩ := h.2 k hk
  refine ⟨b, off, e, hb, ?_⟩
  have h0 := hc 0 (.int .i64 (l.getD k 0)) rfl
  rwa [show off + k * dq.n + 0 = off + k from by show off + k * 1 + 0 = _; omega] at h0
end
theorem row_puti {w : World} {g c i : Nat} {f : Nat → Int} {e : TypeId} (h : w.rowIs g e c (fun j => .int .i64 (f j))) (x : Int) : (w.setCell ⟨g, i, none⟩ (.int .i64 x)).rowIs g e c (fun j => .int .i64 (upd f i x j)) :=
  (h.set i _).congr fun j _ => by
    unfold upd
    split
    · rfl
    · rfl
theorem made_ints {w : World} {g B n : Nat} {f : Nat → Int} {l : List Int} (h : w.rowIs g 3 n (fun j => .int .i64 (f j))) (hB : B ≤ g) (hl : l.length = n) (hf : ∀ j, j < n → f j = l.getD j 0) (hm : n ≤ maxLen) : aA dq w B (.slice (some ⟨g, 0, none⟩) n n) l := by
  obtain ⟨cur, hg, hn, hc⟩ := h
  refine aA.of_block (cs := cur) hg ?_ hB hl hm
  rw [flat_ints]
  apply List.ext_getElem?
  intro k
  by_cases hk : k < n
  · rw [Array.getElem?_toList, hc k hk, List.getElem?_map, List.getElem?_eq_getElem (by omega)]
    show some (Value.int .i64 (f k)) = _
    rw [hf k hk]
    simp [List.getD, List.getElem?_eq_getElem (show k < l.length by omega)]
  · rw [List.getElem?_eq_none (by simp; omega), List.getElem?_eq_none (by simp; omega)]
def RdB (w : World) (B : Nat) (A : Option Addr) (n : Nat) (l : List Blk) : Prop :=
  l.length = n ∧ ∀ k, k < n → ∃ b off, A = some ⟨b, off, none⟩ ∧ b < B ∧ w.rangeAt b (off + k * 64) (cel (l.getD k al))
section
variable {w w' : World} {B B' n : Nat} {A : Option Addr} {l : List Blk}
theorem RdB.nil (w : World) (B : Nat) (A : Option Addr) : RdB w B A 0 [] := ⟨rfl, fun k hk => absurd hk (by omega)⟩
theorem RdB.more (h : RdB w B A n l) (hB : B ≤ B') : RdB w B' A n l :=
  ⟨h.1, fun k hn => by
    obtain ⟨b, off, e, hb, hc⟩ := h.2 k hn
    exact ⟨b, off, e, by omega, hc⟩⟩
theorem RdB.below (h : RdB w B A n l) (hb : Below B w w') : RdB w' B A n l :=
  ⟨h.1, fun k hn => by
    obtain ⟨b, off, e, hlt, hc⟩ := h.2 k hn
    exact ⟨b, off, e, hlt, cO hc hlt hb⟩⟩
end
theorem underS : Tryz.prog.underlying 112 = some (.slice 65) := Tryz.underlying112
section
variable {ρ : Operand → Value} {o : Oper} {x y : Operand} {w : World} {b off n c j k : Nat} {A : Option Addr}
theorem dz (ho : o.op = .indexAddr 112 x y) (hx : ρ x = .slice (some ⟨b, off, none⟩) n c) (hy : ρ y = .int .i64 (j : Int)) (hj : j < n) : (execOp ρ o).run Tryz.prog w = .ok (.value (.pointer (some ⟨b, off + j * 64, none⟩))) w := by
  unfold execOp
  simp [ho, hx, hy, Instr.indexAt, asIntOf, run_underlying underS, Addr.add_mid]
  intro hh
  omega
def tailAt (A : Option Addr) (c k : Nat) : Option Addr := if c = k then A else A.map (fun x => x.add (k * 64))
theorem exec_tail (ho : o.op = .slice 112 x (some y) none none) (hx : ρ x = .slice A n c) (hy : ρ y = .int .i64 (k : Int)) (hk : k ≤ n) : (execOp ρ o).run Tryz.prog w = .ok (.value (.slice (tailAt A c k) (n - k) (c - k))) w := by
  unfold execOp tailAt
  simp [ho, hx, hy, Instr.sliceAt, Instr.slice, Instr.sliceBounds, Instr.sliceBound, asIntOf, run_underlying underS]
  intro hh
  omega
end
section
variable {w : World} {B n c k : Nat} {A : Option Addr} {l : List Blk}
theorem RdB.head (h : RdB w B A n l) (hk : k ≤ n) : RdB w B A k (l.take k) :=
  ⟨by rw [List.length_take, h.1]; omega, fun j hj => by
    obtain ⟨b, off, e, hb, hc⟩ := h.2 j (by omega)
    refine ⟨b, off, e, hb, ?_⟩
    rw [List.getD, List.getElem?_take_of_lt hj]
    exact hc⟩
end
def flat (l : List Blk) : List Value := l.flatMap cel
theorem fy (x : Blk) (l : List Blk) : flat (x :: l) = cel x ++ flat l := rfl
theorem flat_append (a b : List Blk) : flat (a ++ b) = flat a ++ flat b := by simp [flat]
theorem ej (l : List Blk) : (flat l).length = l.length * 64 := by
  induction l with
  | nil => rfl
  | cons x l ih => rw [fy, List.length_append, ax, ih, List.length_cons]; omega
theorem flat_at (l : List Blk) {k j : Nat} (hk : k < l.length) (hj : j < 64) : (flat l)[k * 64 + j]? = (cel (l.getD k al))[j]? := by
  induction l generalizing k with
  | nil => simp at hk
  | cons x l ih =>
    rw [fy]
    cases k with
    | zero => rw [Nat.zero_mul, Nat.zero_add, List.getElem?_append_left (by rw [ax]; exact hj)]; rfl
    | succ k =>
      rw [List.getElem?_append_right (by rw [ax]; omega), ax, show (k + 1) * 64 + j - 64 = k * 64 + j from by omega, ih (by simpa using hk)]
      rfl
theorem rdB_of {w : World} {g o B : Nat} {l : List Blk} (hg : g < B) (h : ∀ j v, (flat l)[j]? = some v → w.cell? ⟨g, o + j, none⟩ = some v) : RdB w B (some ⟨g, o, none⟩) l.length l :=
  ⟨rfl, fun k hk => ⟨g, o, rfl, hg, fun j v hj => by
    have hlt : j < 64 := by have := (List.getElem?_eq_some_iff.1 hj).1; rwa [ax] at this
    rw [show o + k * 64 + j = o + (k * 64 + j) from by omega]
    exact h _ v (by rw [flat_at l hk hlt]; exact hj)⟩⟩
def MadeB (w : World) (base : Nat) (v : Value) (l : List Blk) : Prop := w.ownsRow base 65 64 v l.length (flat l)
section
variable {w w' : World} {B B' n : Nat} {v : Value} {l : List Blk}
theorem MadeB.nil (w : World) (B : Nat) : MadeB w B (.slice none 0 0) [] := ⟨rfl, .inl ⟨rfl, rfl⟩⟩
theorem MadeB.form (h : MadeB w B v l) : ∃ A c, v = .slice A l.length c ∧ l.length ≤ c ∧ c ≤ maxLen := by
  rcases h.2 with ⟨rfl, h0⟩ | ⟨g, cap, cur, rfl, _, _, h1, h2, _⟩
  · exact ⟨none, 0, by rw [h0], by omega, by simp [maxLen]⟩
  · exact ⟨_, cap, rfl, h1, h2⟩
theorem MadeB.rd {A : Option Addr} {c : Nat} (h : MadeB w B (.slice A n c) l) : RdB w w.heap.size A n l := by
  rcases h.2 with ⟨hv, h0⟩ | ⟨g, cap, cur, hv, _, hg, _, _, _, ht⟩
  · have hl : l = [] := List.eq_nil_of_length_eq_zero h0
    subst hl
    injection hv with h1 h2 h3
    subst h2
    exact RdB.nil _ _ _
  · injection hv with h1 h2 h3
    subst h1 h2 h3
    refine rdB_of (Array.getElem?_eq_some_iff.1 hg).1 fun j u hu => ?_
    rw [cell_of_row w g (0 + j) cur 65 (0, 0) hg, Nat.zero_add]
    have hj : j < l.length * 64 := by have := (List.getElem?_eq_some_iff.1 hu).1; rwa [ej] at this
    rw [← ht, List.getElem?_take_of_lt hj] at hu
    simpa using hu
theorem MadeB.base (h : MadeB w B v l) (hb : B' ≤ B) : MadeB w B' v l := by
  refine ⟨h.1, ?_⟩
  rcases h.2 with hn | ⟨g, cap, cur, rfl, hbg, rest⟩
  · exact .inl hn
  · exact .inr ⟨g, cap, cur, rfl, Nat.le_trans hb hbg, rest⟩
theorem MadeB.open_ (h : MadeB w B v l) (hn : l.length = n) : ∃ A c, v = .slice A n c ∧ RdB w w.heap.size A n l ∧ n ≤ c ∧ c ≤ maxLen := by
  subst hn
  obtain ⟨A, c, rfl, h1, h2⟩ := h.form
  exact ⟨A, c, rfl, h.rd, h1, h2⟩
end
theorem write_at (pre post : List Value) : ∀ (vs mid done : List Value), mid.length = vs.length →
    (vs.zipIdx done.length).foldl (fun cs (p : Value × Nat) => cs.setIfInBounds (pre.length + p.2) p.1) (pre ++ done ++ mid ++ post).toArray = (pre ++ done ++ vs ++ post).toArray
  | [], mid, done, h => by
    have : mid = [] := List.eq_nil_of_length_eq_zero h
    subst this
    simp
  | v :: vs, mid, done, h => by
    match mid, h with
    | m :: ms, h =>
      rw [List.zipIdx_cons, List.foldl_cons]
      have hset : (pre ++ done ++ m :: ms ++ post).toArray.setIfInBounds (pre.length + done.length) v = (pre ++ (done ++ [v]) ++ ms ++ post).toArray := by
        rw [List.setIfInBounds_toArray]
        congr 1
        rw [List.append_assoc (pre ++ done), List.set_append_right _ _ (by simp), List.length_append, Nat.sub_self]
        simp
      have := write_at pre post vs ms (done ++ [v]) (by simpa using h)
      rw [List.length_append, List.length_singleton] at this
      show (vs.zipIdx (done.length + 1)).foldl (fun cs (p : Value × Nat) => cs.setIfInBounds (pre.length + p.2) p.1) ((pre ++ done ++ m :: ms ++ post).toArray.setIfInBounds (pre.length + done.length) v) = _
      rw [hset, this]
      simp
theorem fill_blocks : ∀ (bs : List Blk) (k : Nat) (pre rest : List Value), pre.length = k * 64 → rest.length = bs.length * 64 →
    Instr.fill (fun i => some (i * 64, 64)) (pre ++ rest).toArray ((bs.zipIdx k).map fun p => (p.2, blk p.1)) = some (pre ++ flat bs).toArray
  | [], k, pre, rest, hp, hr => by
    have : rest = [] := List.eq_nil_of_length_eq_zero (by simpa using hr)
    subst this
    simp [Instr.fill, flat]
  | b :: bs, k, pre, rest, hp, hr => by
    have hw := write_at pre (rest.drop 64) (cel b) (rest.take 64) [] (by rw [List.length_take, ax, hr, List.length_cons]; omega)
    simp only [List.append_nil, List.length_nil, List.append_assoc, List.take_append_drop] at hw
    have ih := fill_blocks bs (k + 1) (pre ++ cel b) (rest.drop 64) (by rw [List.length_append, hp, ax]; omega) (by rw [List.length_drop, hr, List.length_cons]; omega)
    rw [List.zipIdx_cons, List.map_cons, Instr.fill]
    have hc : (decide ((blk b).cells.size ≠ 64) || decide (k * 64 + (blk b).cells.size > (pre ++ rest).toArray.size)) = false := by
      rw [d9]
      simp [ax, hp, hr]
      omega
    show (if (decide ((blk b).cells.size ≠ 64) || decide (k * 64 + (blk b).cells.size > (pre ++ rest).toArray.size)) = true then none else _) = _
    rw [hc, if_neg (by simp), d9, ← Array.foldl_toList, Array.toList_zipIdx]
    rw [hp] at hw
    simp only [List.append_assoc] at ih
    rw [hw, ih, fy]
section
variable {ρ : Operand → Value} {o : Oper} {w : World} {n : Nat}
theorem exec_buildS {parts : List (Nat × Operand)} (bs : List Blk) (ho : o.op = .buildSlice 112 n parts.toArray) (h : parts.map (fun (i, x) => (i, ρ x)) = (bs.zipIdx 0).map fun p => (p.2, blk p.1)) (hn : bs.length = n) (h0 : 0 < n) (h1 : n ≤ 1000) :
    (execOp ρ o).run Tryz.prog w = .ok (.value (.slice (some ⟨w.heap.size, 0, none⟩) n n)) (w.alloc (.cells (flat bs).toArray 65)) := by
  subst hn
  have hz : ((Array.range (bs.length * 64)).map fun j => (blk al).cells[j % (blk al).cells.size]!).toList.length = bs.length * 64 := by simp
  have hf := fill_blocks bs 0 [] _ (by simp) hz
  simp only [List.nil_append, Array.toArray_toList] at hf
  have hs : (sizeOf 65).run Tryz.prog w = .ok 64 w := Tryz.sizeOf65 w
  unfold execOp
  simp only [ho, List.map_toArray, Instr.buildSlice, Sem.run_bind, run_underlying underS, Result.andThen_ok, hs]
  rw [if_neg (by omega), if_neg (by omega)]
  simp only [Sem.run_bind, run_zeroB, Result.andThen_ok, Sem.run_pure, h]
  rw [hf]
  simp [newRow]
end
end Go.Proofs.YtcafafdimcecpaaGreatDoor
