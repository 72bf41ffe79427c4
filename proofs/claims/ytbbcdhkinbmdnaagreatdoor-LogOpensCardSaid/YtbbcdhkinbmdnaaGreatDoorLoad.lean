import Derived.Test.YtbbcdhkinbmdnaaGreatDoorLoac
import Derived.Test.YtbbcdhkinbmdnaaGreatDoorLoab
import Derived.Test.YtbbcdhkinbmdnaaGreatDoorLoaa
import Derived.Deep.Slices
import Derived.Test.YtbbcdhkinbmdnaaGreatDoorLoZ
namespace Go.Proofs.YtbbcdhkinbmdnaaGreatDoor
open Go.RowKit
set_option maxRecDepth 100000
set_option linter.unusedVariables false
theorem put_at (pre post : List Value) : ∀ (vs mid done : List Value), mid.length = vs.length →
  (vs.zipIdx done.length).foldl (fun cs (p : Value × Nat) => cs.setIfInBounds (pre.length + p.2) p.1) (pre ++ done ++ mid ++ post).toArray = (pre ++ done ++ vs ++ post).toArray
 | [], mid, done, h => by
  have : mid = [] := List.eq_nil_of_length_eq_zero h
  subst this
  simp
 | v :: vs, mid, done, h => by
  match mid, h with
  | m :: ms, h =>
   rw [List.zipIdx_cons, List.foldl_cons]
   have hset : (pre ++ done ++ m :: ms ++ post).toArray.setIfInBounds (pre.length + done.length) v = (pre ++ (done ++ [v]) ++ ms ++ post).toArray := by
    rw [List.setIfInBounds_toArray]
    congr 1
    rw [List.append_assoc (pre ++ done), List.set_append_right _ _ (by simp), List.length_append, Nat.sub_self]
    simp
   have := put_at pre post vs ms (done ++ [v]) (by simpa using h)
   rw [List.length_append, List.length_singleton] at this
   show (vs.zipIdx (done.length + 1)).foldl (fun cs (p : Value × Nat) => cs.setIfInBounds (pre.length + p.2) p.1) ((pre ++ done ++ m :: ms ++ post).toArray.setIfInBounds (pre.length + done.length) v) = _
   rw [hset, this]
   simp
theorem fS {place : Nat → Option (Nat × Nat)} {i off size : Nat} {v : Value} {pre mid post vs : List Value} {rest : List (Nat × Value)} (hp : place i = some (off, size)) (hv : v.cells = vs.toArray) (hs : vs.length = size) (ho : pre.length = off) (hm : mid.length = size) :
  Instr.fill place (pre ++ mid ++ post).toArray ((i, v) :: rest) = Instr.fill place (pre ++ vs ++ post).toArray rest := by
 subst hs ho
 have hw := put_at pre post vs mid [] hm
 simp only [List.append_nil, List.length_nil] at hw
 rw [Instr.fill, hp]
 have hc : (decide (v.cells.size ≠ vs.length) || decide (pre.length + v.cells.size > (pre ++ mid ++ post).toArray.size)) = false := by
  rw [hv]
  simp [hm]
 show (if (decide (v.cells.size ≠ vs.length) || decide (pre.length + v.cells.size > (pre ++ mid ++ post).toArray.size)) = true then none else _) = _
 rw [hc, if_neg (by simp), hv, ← Array.foldl_toList, Array.toList_zipIdx]
 show Instr.fill place (vs.zipIdx.foldl (fun cs (p : Value × Nat) => cs.setIfInBounds (pre.length + p.2) p.1) (pre ++ mid ++ post).toArray) rest = _
 rw [hw]
section
variable {α : Type} (E : Elt α)
theorem eP (w : World) : (sizeOf E.t).run Tryz.prog w = .ok E.n w := by
 obtain ⟨i0, hi, hz0, hz1, hz2⟩ := info_parts E.info
 simp [sizeOf, typeInfo, hi, hz1]
theorem run_zeroE (w : World) : (zeroValue E.t).run Tryz.prog w = .ok E.z w := by
 obtain ⟨i0, hi, hz0, hz1, hz2⟩ := info_parts E.info
 simp [zeroValue, typeInfo, hi, hz0]
end
section
variable {α : Type} {E : Elt α} {ρ : Operand → Value} {o : Oper} {x y : Operand} {w : World} {b off n c j : Nat} {v : Value} {a : α}
theorem add_mid (b off j : Nat) : (⟨b, off, none⟩ : Addr).add j = ⟨b, off + j, none⟩ := by unfold Addr.add; split <;> simp_all
theorem run_indexE (hj : j < n) : (Instr.indexAt E.s (.slice (some ⟨b, off, none⟩) n c) (.int .i64 (j : Int))).run Tryz.prog w = .ok (.pointer (some ⟨b, off + j * E.n, none⟩)) w := by
 have h := eP E w
 simp [Instr.indexAt, asIntOf, run_underlying E.und, add_mid, h, hj]
theorem bQ (ho : o.op = .indexAddr E.s x y) (hx : ρ x = .slice (some ⟨b, off, none⟩) n c) (hy : ρ y = .int .i64 (j : Int)) (hj : j < n) : (execOp ρ o).run Tryz.prog w = .ok (.value (.pointer (some ⟨b, off + j * E.n, none⟩))) w :=
 dS ho hx hy (run_indexE (E := E) hj)
theorem du (ho : o.op = .buildSlice E.s 1 #[(0, x)]) (hx : ρ x = v) (hv : v.cells = (E.cel a).toArray) (hn : E.n ≤ 16777216) :
  (execOp ρ o).run Tryz.prog w = .ok (.value (.slice (some ⟨w.heap.size, 0, none⟩) 1 1)) (w.alloc (.cells (E.cel a).toArray E.t)) := by
 have hz := run_zeroE E w
 have hs := eP E w
 have hp := E.pos
 obtain ⟨zs, hzs⟩ : ∃ zs : List Value, (Array.range (1 * E.n)).map (E.z.cells[· % E.z.cells.size]!) = zs.toArray := ⟨_, (Array.toArray_toList).symm⟩
 have hzl : zs.length = E.n := by
  have := congrArg Array.size hzs
  simpa using this.symm
 have hf := fS (place := fun i => some (i * E.n, E.n)) (i := 0) (off := 0) (v := v) (pre := []) (mid := zs) (post := []) (vs := E.cel a) (rest := []) (by simp) hv (E.len a) rfl hzl
 simp only [List.nil_append, List.append_nil] at hf
 unfold execOp
 simp only [ho, Instr.buildSlice, Sem.run_bind, run_underlying E.und, Result.andThen_ok, hs]
 rw [if_neg (by omega), if_neg (by omega)]
 simp only [Sem.run_bind, hz, Result.andThen_ok, Sem.run_pure, hzs]
 simp [hx, hf, Instr.fill, newRow]
end
theorem fP {α : Type} {E : Elt α} {o : Oper} {a : Act} {w w' : World} {s x : Operand} {A : Option Addr} {m c : Nat} {v v' : Value} (ho : o.op = .call { callee := .builtin .append, args := #[s, x], argTypes := #[E.s, E.s] }) (hs : a.eval s = v) (hx : a.eval x = .slice A m c)
  (hrun : (Builtin.append_ #[E.s, E.s] o.type #[v, .slice A m c]).run Tryz.prog w = .ok v' w') : (execOp a.eval o).run Tryz.prog w = .ok (.value v') w' := by
 simp [execOp, ho, resolve, invoke, builtin, hs, hx, hrun, Result.andThen]
theorem eW {α : Type} (E : Elt α) (w : World) (ty B N m c : Nat) (v : Value) (l l' : List α) (A : Option Addr) (hm : aH E w B v l) (hr : RdE E w N A m l') (hB : B ≤ w.heap.size) (hsum : l.length + m ≤ 34359738368) :
  ∃ v' w', (Builtin.append_ #[E.s, E.s] ty #[v, .slice A m c]).run Tryz.prog w = .ok v' w' ∧ aH E w' B v' (l ++ l') ∧ w.grownBy w' v.ownBlock ∧ ∀ x, v'.ownBlock = some x → v.ownBlock = some x ∨ w.heap.size ≤ x := by
 obtain ⟨v', w', h1, h2, h3⟩ := run_appE E w ty B N m c v l l' A hm hr hB hsum
 refine ⟨v', w', h1, h2, h3, ?_⟩
 have sure : ∀ v'' w'', (Builtin.append_ #[E.s, E.s] ty #[v, .slice A m c]).run Tryz.prog w = .ok v'' w'' → v' = v'' := fun v'' w'' e => by rw [h1] at e; injection e
 obtain ⟨i0, hi, hz0, hz1, hz2⟩ := info_parts E.info
 rcases hm.2 with ⟨rfl, h0⟩ | ⟨g, cap, cur, rfl, hbg, hg, hnc, hcm, hcs, htake⟩
 ·have hm' : aH E w w.heap.size (.slice none 0 0) l := ⟨hm.1, .inl ⟨rfl, h0⟩⟩
  obtain ⟨v2, w2, g1, g2, g3⟩ := run_appE E w ty w.heap.size N m c _ l l' A hm' hr (Nat.le_refl _) hsum
  have e := sure _ _ g1
  subst e
  exact fun x hx => .inr (g2.lt_own x hx)
 ·rcases A with _ | ad
  ·have h0 : m = 0 := by
    rcases Nat.eq_zero_or_pos m with h | h
    ·exact h
    ·obtain ⟨b, off, e, _⟩ := hr.2 0 h
     cases e
   subst h0
   have e := sure (.slice (some ⟨g, 0, none⟩) l.length cap) w (by simp [Builtin.append_, run_underlying E.und, sizeOf, typeInfo, hi, Builtin.lenOf, Builtin.firstCells, hnc, storeCells])
   subst e
   exact fun x hx => .inl hx
  ·by_cases hroom : l.length + m ≤ cap
   ·have hfit : l.length * i0.size + (bC E l').length ≤ cur.size := by rw [bM, hr.1, hz1, hcs, ← Nat.add_mul]; exact Nat.mul_le_mul_right _ hroom
    have h := run_append_room (P := Tryz.prog) w E.s ty E.t i0 E.und hi g l.length cap cur hg ad m c (bC E l') (by rw [bM, hr.1, hz1]) (cells_of_rdE hr) (flatE_one E l') hroom hfit
    have e := sure _ _ h
    subst e
    exact fun x hx => .inl hx
   ·have holds : ∀ j u, (bC E l)[j]? = some u → w.cell? ((⟨g, 0, none⟩ : Addr).add j) = some u := World.ownsRow.cells hm (g := g) rfl
    have hby : (l.length + m) * E.by_ ≤ 140737488355328 := Nat.le_trans (Nat.mul_le_mul hsum E.small) (by omega)
    have h := run_append_grow (P := Tryz.prog) w E.s ty E.t i0 E.z E.und hi hz0 ⟨g, 0, none⟩ l.length cap (bC E l) (by rw [hz1]; exact hm.1) holds ad m c (bC E l') (by rw [bM, hr.1, hz1]) (cells_of_rdE hr) (by omega) (by omega) (growslice_fits (by omega) (by rw [hz2]; exact hby))
    have e := sure _ _ h
    subst e
    exact fun x hx => .inr (by simp [Value.ownBlock] at hx; omega)
theorem wpList_appE_own {α : Type} (E : Elt α) {w : World} {ops : Array Oper} {rest : List Oper} {o : Oper} {a : Act} {Q : Exit → Act → World → Prop} (hgd : o.guard = none) (s x : Operand)
  (ho : o.op = .call { callee := .builtin .append, args := #[s, x], argTypes := #[E.s, E.s] })
  (B N m c : Nat) (v : Value) (l l' : List α) (A : Option Addr) (hs : a.eval s = v) (hx : a.eval x = .slice A m c) (hm : aH E w B v l) (hr : RdE E w N A m l') (hB : B ≤ w.heap.size) (hsum : l.length + m ≤ 34359738368)
  (h : ∀ v' w', aH E w' B v' (l ++ l') → w.grownBy w' v.ownBlock → (∀ x, v'.ownBlock = some x → v.ownBlock = some x ∨ w.heap.size ≤ x) → wpList Tryz.prog ops Q rest (a.put o.dst v') w') : wpList Tryz.prog ops Q (o :: rest) a w := by
 refine wpList_plain hgd fun K hK => ?_
 obtain ⟨v', w', hrun, h1, h2, h3⟩ := eW E w o.type B N m c v l l' A hm hr hB hsum
 unfold Oper.wp
 simp [execOp, ho, resolve, invoke, builtin, hs, hx, hrun, Result.andThen]
 exact hK _ _ (h v' w' h1 h2 h3)
section
variable {α : Type} {E : Elt α} {w : World} {B g n cc k : Nat} {l : List α} {a : α}
theorem flatE_split {l : List α} {k : Nat} (hk : k < l.length) : bC E l = bC E (l.take k) ++ (E.cel (l.getD k E.d) ++ bC E (l.drop (k + 1))) := by
 have h1 : l = l.take k ++ (l.getD k E.d :: l.drop (k + 1)) := by
  rw [List.getD, List.getElem?_eq_getElem hk, Option.getD_some, List.getElem_cons_drop, List.take_append_drop]
 conv => lhs; rw [h1]
 rw [fI, d5]
theorem flatE_set {l : List α} {k : Nat} (hk : k < l.length) (a : α) : bC E (l.set k a) = bC E (l.take k) ++ (E.cel a ++ bC E (l.drop (k + 1))) := by
 have h2 : l.set k a = l.take k ++ (a :: l.drop (k + 1)) := List.set_eq_take_append_cons_drop.trans (by rw [if_pos hk])
 rw [h2, fI, d5]
theorem heap_put (g : Nat) (t : TypeId) (post : List Value) : ∀ (vs mid pre : List Value) (w : World), mid.length = vs.length → w.heap[g]? = some (.cells (pre ++ mid ++ post).toArray t (0, 0)) →
  (w.setCells g pre.length vs).heap[g]? = some (.cells (pre ++ vs ++ post).toArray t (0, 0))
 | [], mid, pre, w, h, hg => by
  have : mid = [] := List.eq_nil_of_length_eq_zero h
  subst this
  exact hg
 | v :: vs, mid, pre, w, h, hg => by
  match mid, h with
  | m :: ms, h =>
   rw [World.setCells]
   have h1 := heap_setCell_same w g pre.length _ t v hg
   have hset : (pre ++ m :: ms ++ post).toArray.setIfInBounds pre.length v = ((pre ++ [v]) ++ ms ++ post).toArray := by
    rw [List.setIfInBounds_toArray]
    congr 1
    rw [List.append_assoc, List.set_append_right _ _ (by simp), Nat.sub_self]
    simp
   rw [hset] at h1
   have := heap_put g t post vs ms (pre ++ [v]) _ (by simpa using h) h1
   rw [List.length_append, List.length_singleton] at this
   rw [this]
   simp
theorem aH.parts (h : aH E w B (.slice (some ⟨g, 0, none⟩) n cc) l) : l.length = n ∧ B ≤ g ∧ ∃ post, w.heap[g]? = some (.cells (bC E l ++ post).toArray E.t (0, 0)) ∧ n ≤ cc ∧ cc ≤ maxLen ∧ (bC E l ++ post).length = cc * E.n := by
 rcases h.2 with ⟨hv, _⟩ | ⟨g', cap, cur, hv, hbg, hg, h1, h2, h3, ht⟩
 ·cases hv
 ·injection hv with e1 e2 e3
  injection e1 with e1
  injection e1 with e1
  subst e1 e2 e3
  refine ⟨rfl, hbg, cur.toList.drop (l.length * E.n), ?_, h1, h2, ?_⟩
  ·rw [← ht, List.take_append_drop, Array.toArray_toList]; exact hg
  ·rw [← ht, List.take_append_drop, Array.length_toList, h3]
theorem aH.of_parts {post : List Value} (hl : l.length = n) (hB : B ≤ g) (hg : w.heap[g]? = some (.cells (bC E l ++ post).toArray E.t (0, 0))) (h1 : n ≤ cc) (h2 : cc ≤ maxLen) (h3 : (bC E l ++ post).length = cc * E.n) : aH E w B (.slice (some ⟨g, 0, none⟩) n cc) l := by
 subst hl
 refine ⟨bM E l, .inr ⟨g, cc, _, rfl, hB, hg, h1, h2, by simpa using h3, ?_⟩⟩
 rw [List.take_left' (bM E l)]
theorem aH.there (h : aH E w B (.slice (some ⟨g, 0, none⟩) n cc) l) (hk : k < n) {j m : Nat} (hj : j + m ≤ E.n) : w.there g (k * E.n + j) m := by
 obtain ⟨hl, _, post, hg, hn, _, h3⟩ := h.parts
 intro i hi
 refine ⟨?_, frozen_of_row w g _ _ _ hg⟩
 rw [cell_of_row w g _ _ _ (0, 0) hg]
 have : k * E.n + j + i < (bC E l ++ post).length := by
  have h4 := Nat.mul_le_mul_right E.n (Nat.le_trans hk hn)
  rw [Nat.succ_mul] at h4
  rw [h3]
  omega
 simp only [List.getElem?_toArray, List.getElem?_eq_getElem this, Option.isSome_some]
theorem aH.put (h : aH E w B (.slice (some ⟨g, 0, none⟩) n cc) l) (hk : k < n) {j : Nat} {vs : List Value} (a : α) (ha : E.cel a = (E.cel (l.getD k E.d)).take j ++ vs ++ (E.cel (l.getD k E.d)).drop (j + vs.length)) (hj : j + vs.length ≤ E.n) :
  aH E (w.setCells g (k * E.n + j) vs) B (.slice (some ⟨g, 0, none⟩) n cc) (l.set k a) := by
 obtain ⟨hl, hB, post, hg, h1, h2, h3⟩ := h.parts
 have hkl : k < l.length := by omega
 have hc : E.cel (l.getD k E.d) = (E.cel (l.getD k E.d)).take j ++ ((E.cel (l.getD k E.d)).drop j).take vs.length ++ (E.cel (l.getD k E.d)).drop (j + vs.length) := by
  rw [List.append_assoc, ← List.drop_drop, List.take_append_drop, List.take_append_drop]
 have hsp : bC E l ++ post = (bC E (l.take k) ++ (E.cel (l.getD k E.d)).take j) ++ ((E.cel (l.getD k E.d)).drop j).take vs.length ++ ((E.cel (l.getD k E.d)).drop (j + vs.length) ++ (bC E (l.drop (k + 1)) ++ post)) := by
  rw [flatE_split hkl]
  conv => lhs; rw [hc]
  simp only [List.append_assoc]
 rw [hsp] at hg
 have hmid : (((E.cel (l.getD k E.d)).drop j).take vs.length).length = vs.length := by rw [List.length_take, List.length_drop, E.len]; omega
 have := heap_put g E.t _ vs _ _ w hmid hg
 have hpl : (bC E (l.take k) ++ (E.cel (l.getD k E.d)).take j).length = k * E.n + j := by
  rw [List.length_append, bM, List.length_take, List.length_take, E.len, Nat.min_eq_left (by omega), Nat.min_eq_left (by omega)]
 rw [hpl] at this
 have hsp2 : bC E (l.set k a) ++ post = (bC E (l.take k) ++ (E.cel (l.getD k E.d)).take j) ++ vs ++ ((E.cel (l.getD k E.d)).drop (j + vs.length) ++ (bC E (l.drop (k + 1)) ++ post)) := by
  rw [flatE_set hkl, ha]
  simp only [List.append_assoc]
 rw [← hsp2] at this
 exact aH.of_parts (by rw [List.length_set, hl]) hB this h1 h2 (by rw [List.length_append, bM, List.length_set, ← bM E l, ← List.length_append, h3])
theorem aH.store (h : aH E w B (.slice (some ⟨g, 0, none⟩) n cc) l) (hk : k < n) (a : α) : aH E (w.setCells g (k * E.n) (E.cel a)) B (.slice (some ⟨g, 0, none⟩) n cc) (l.set k a) := by
 have := h.put hk (j := 0) (vs := E.cel a) a (by rw [List.take_zero, Nat.zero_add, List.drop_eq_nil_of_le (by rw [E.len, E.len]; exact Nat.le_refl _)]; simp) (by rw [E.len]; omega)
 simpa using this
end
theorem cj {w w' : World} {b : Nat} {o : Obj} (h : w.heap[b]? = some o) (hb : Below w.heap.size w w') : w'.heap[b]? = some o := (hb.block b (Array.getElem?_eq_some_iff.1 h).1).trans h
theorem eM {w w' : World} {B b : Nat} {o : Obj} (h : w.heap[b]? = some o) (hB : b < B) (hb : Below B w w') : w'.heap[b]? = some o := (hb.block b hB).trans h
theorem bU {w : World} {b : Nat} {o : Obj} (h : w.heap[b]? = some o) (o' : Obj) : (w.alloc o').heap[b]? = some o := (Below.heap_alloc w o' b (Array.getElem?_eq_some_iff.1 h).1).trans h
theorem aK {w : World} {b : Nat} {o : Obj} (h : w.heap[b]? = some o) : b < w.heap.size := (Array.getElem?_eq_some_iff.1 h).1
section
variable {w : World} {b : Nat} {t : TypeId} {x y z : Value}
theorem cells3 (h : w.heap[b]? = some (.cells #[x, y, z] t (0, 0))) : w.cell? ⟨b, 0, none⟩ = some x ∧ w.cell? ⟨b, 1, none⟩ = some y ∧ w.cell? ⟨b, 2, none⟩ = some z := by
 refine ⟨?_, ?_, ?_⟩
 ·rw [cell_of_row w b 0 _ t (0, 0) h]; rfl
 ·rw [cell_of_row w b 1 _ t (0, 0) h]; rfl
 ·rw [cell_of_row w b 2 _ t (0, 0) h]; rfl
end
theorem new1 (w : World) (cs : Array Value) (t : TypeId) : (w.alloc (.cells cs t)).heap[w.heap.size]? = some (.cells cs t) := heap_alloc_new w _
section
variable {ρ : Operand → Value} {o : Oper} {x y : Operand} {w : World} {t : TypeId} {old cs : Array Value}
theorem exec_fillT (hz : (Tryz.prog.info? t).map (·.size) = some cs.size) (he : old.size = cs.size) (h1 : cs.toList.all Value.oneCell' = true) (ho : o.op = .store t x y) (hx : ρ x = .pointer (some ⟨w.heap.size, 0, none⟩)) (hy : ρ y = .agg cs) :
  (execOp ρ o).run Tryz.prog (w.alloc (.cells old t)) = .ok .skip (w.alloc (.cells cs t)) := by
 have h := run_storeAt_new (P := Tryz.prog) w t old cs hz he (by simpa using h1)
 unfold execOp
 simp only [ho, hx, hy, Sem.run_bind, h, Result.andThen_ok, Sem.run_pure]
end
def arr (l : List UInt8) : Value := .agg (vals l).toArray
section
variable {ρ : Operand → Value} {o : Oper} {x y : Operand} {w : World} {b off : Nat} {t : TypeId} {cs ds : List Value} {d : TypeDesc}
theorem dJ (hu : Tryz.prog.underlying t = some d) (hd : d.isRow = true) (hz : (Tryz.prog.info? t).map (·.size) = some cs.length) (ho : o.op = .load t x) (hx : ρ x = .pointer (some ⟨b, off, none⟩)) (hc : w.rangeAt b off cs) :
  (execOp ρ o).run Tryz.prog w = .ok (.value (.agg cs.toArray)) w := au ho hx (run_loadAt_mid w b off t cs d hc hu hd hz)
theorem el (ho : o.op = .box t x) (hx : ρ x = .agg cs.toArray) : (execOp ρ o).run Tryz.prog w = .ok (.value (.pointer (some ⟨w.heap.size, 0, none⟩))) (w.alloc (.cells cs.toArray t)) := by
 unfold execOp
 simp [ho, hx, Instr.box, newVar, newRow, Value.cells]
theorem run_zeroT {v : Value} (h : (Tryz.prog.info? t).map (fun i => i.zero) = some (some v)) (w : World) : (zeroValue t).run Tryz.prog w = .ok v w := by
 cases hq : Tryz.prog.info? t with
 | none => rw [hq] at h; cases h
 | some i =>
  rw [hq] at h
  simp only [Option.map_some, Option.some.injEq] at h
  simp [zeroValue, typeInfo, hq, h]
theorem dQ (h : (Tryz.prog.info? t).map (fun i => i.zero) = some (some (.agg cs.toArray))) (ho : o.op = .alloc t) : (execOp ρ o).run Tryz.prog w = .ok (.value (.pointer (some ⟨w.heap.size, 0, none⟩))) (w.alloc (.cells cs.toArray t)) := by
 have hz := run_zeroT h w
 unfold execOp
 simp [ho, Instr.alloc, hz, newVar, newRow, Value.cells]
theorem exec_putT (hz : (Tryz.prog.info? t).map (·.size) = some cs.length) (h1 : ∀ v ∈ cs, v.oneCell' = true) (ho : o.op = .store t x y) (hx : ρ x = .pointer (some ⟨b, off, none⟩)) (hy : ρ y = .agg cs.toArray) (ht : w.there b off cs.length) :
  (execOp ρ o).run Tryz.prog w = .ok .skip (w.setCells b off cs) := by
 have h := run_storeAt_mid (P := Tryz.prog) w b off t cs.toArray (by simpa using ht) (by simpa using hz) (all_oneCell_toArray h1)
 refine fD ho hx hy ?_
 simpa using h
theorem eO (hz : (Tryz.prog.info? t).map (·.size) = some cs.length) (he : ds.length = cs.length) (h1 : ∀ v ∈ cs, v.oneCell' = true) (ho : o.op = .store t x y) (hx : ρ x = .pointer (some ⟨w.heap.size, 0, none⟩)) (hy : ρ y = .agg cs.toArray) :
  (execOp ρ o).run Tryz.prog (w.alloc (.cells ds.toArray t)) = .ok .skip (w.alloc (.cells cs.toArray t)) :=
 exec_fillT (by simpa using hz) (by simpa using he) (by simpa using h1) ho hx hy
theorem exec_bld0 {v : Value} (ho : o.op = .build t #[]) (h : (Instr.build t #[]).run Tryz.prog w = .ok v w) : (execOp ρ o).run Tryz.prog w = .ok (.value v) w := by
 unfold execOp
 simp only [ho, List.map_toArray, List.map_nil, Sem.run_bind, h, Result.andThen_ok, Sem.run_pure]
theorem exec_neT {r : TypeId} {xs ys : Array Value} {c : Bool} (hg : Tryz.prog.eqGuardType Tryz.prog.depth t = false) (he : (Op.equalIn 10000 t (.agg xs) (.agg ys)).run Tryz.prog w = .ok c w) (ho : o.op = .binOp .neq t x y r) (hx : ρ x = .agg xs) (hy : ρ y = .agg ys) :
  (execOp ρ o).run Tryz.prog w = .ok (.value (.bool (!c))) w := by
 have h := run_neq_struct (P := Tryz.prog) w t xs ys
 rw [he] at h
 unfold execOp
 simp only [ho, hx, hy, Sem.run_bind, run_eqGuard_agg w .neq t x y xs ys hg, Result.andThen_ok]
 rw [h]
 simp
end
section
variable {ρ : Operand → Value} {o : Oper} {x y : Operand} {w : World} {t r : TypeId} {k : IntKind} {a b : Int}
theorem bp (c : Bool) (ho : o.op = .binOp .gtr t x y r) (hx : ρ x = .int k a) (hy : ρ y = .int k b) (h : decide (b < a) = c) : (execOp ρ o).run Tryz.prog w = .ok (.value (.bool c)) w := by
 unfold execOp
 simp [ho, hx, hy, eqGuard, binOp, Op.intCmp, h]
theorem ce (c : Bool) (ho : o.op = .binOp .geq t x y r) (hx : ρ x = .int k a) (hy : ρ y = .int k b) (h : decide (b ≤ a) = c) : (execOp ρ o).run Tryz.prog w = .ok (.value (.bool c)) w := by
 unfold execOp
 simp [ho, hx, hy, eqGuard, binOp, Op.intCmp, h]
theorem di (c : Bool) (ho : o.op = .binOp .leq t x y r) (hx : ρ x = .int k a) (hy : ρ y = .int k b) (h : decide (a ≤ b) = c) : (execOp ρ o).run Tryz.prog w = .ok (.value (.bool c)) w := by
 unfold execOp
 simp [ho, hx, hy, eqGuard, binOp, Op.intCmp, h]
theorem aZ (c : Bool) (ho : o.op = .binOp .lss t x y r) (hx : ρ x = .int k a) (hy : ρ y = .int k b) (h : decide (a < b) = c) : (execOp ρ o).run Tryz.prog w = .ok (.value (.bool c)) w := by
 unfold execOp
 simp [ho, hx, hy, eqGuard, binOp, Op.intCmp, h]
theorem ldU8 {ad : Addr} {n : Int} (h : w.cell? ad = some (.int .u8 n)) : (Instr.loadAt 5 (.pointer (some ad))).run Tryz.prog w = .ok (.int .u8 n) w := by simp [go_sem, h]
end
theorem bj {w : World} {ad : Addr} {k : Int} (h : w.cell? ad = some (.int .i64 k)) : (Instr.loadAt 3 (.pointer (some ad))).run Tryz.prog w = .ok (.int .i64 k) w := by simp [go_sem, h]
theorem bL {w : World} {ad : Addr} {k : Int} (h : w.cell? ad = some (.int .u64 k)) : (Instr.loadAt 30 (.pointer (some ad))).run Tryz.prog w = .ok (.int .u64 k) w := by simp [go_sem, h]
theorem run_eqArr {t : TypeId} {n : Nat} (hu : Tryz.prog.underlying t = some (.array n 5)) (w : World) (a b : List UInt8) (ha : a.length = n) (hb : b.length = n) (d : Nat) : (Op.equalIn (d + 2) t (arr a) (arr b)).run Tryz.prog w = .ok (decide (a = b)) w := by
 have he : ∀ x y : Int, (Op.equalIn (d + 1) 5 (.int .u8 x) (.int .u8 y)).run Tryz.prog w = .ok (x == y) w := fun x y => run_equalIn_int w d 5 .u8 .u8 x y Tryz.underlying5
 have hp : ∀ (c : List UInt8) (i : Nat), i < c.length → (part 5 (vals c).toArray (i * 1)).run Tryz.prog w = .ok (.int .u8 (bt c i)) w := fun c i hi => by
  have := vals_at hi
  simp [part, this]
 show (Op.equalIn ((d + 1) + 1) t (arr a) (arr b)).run Tryz.prog w = .ok (decide (a = b)) w
 generalize d + 1 = e at *
 have key : ∀ (l : List Nat), (∀ i ∈ l, i < n) →
   ((forIn l ((none : Option Bool), ()) fun i r => do
    let x ← part 5 (vals a).toArray (i * 1)
    let y ← part 5 (vals b).toArray (i * 1)
    let z ← Op.equalIn e 5 x y
    if (!z) = true then pure (ForInStep.done (some false, ())) else pure (ForInStep.yield (none, ())) : Sem _)).run Tryz.prog w =
   .ok (if l.all (fun i => bt a i == bt b i) then (none, ()) else (some false, ())) w := by
  intro l
  induction l with
  | nil => intro _; simp
  | cons i l ih =>
   intro hl
   have hi := hl i (by simp)
   simp only [List.forIn_cons, Sem.run_bind, hp a i (by omega), hp b i (by omega), Result.andThen_ok, he]
   by_cases h : bt a i = bt b i
   ·have hb : (bt a i == bt b i) = true := by simpa using h
    simp only [hb, Bool.not_true, Bool.false_eq_true, if_false, Sem.run_pure, Result.andThen_ok, List.all_cons, Bool.true_and]
    exact ih fun j hj => hl j (by simp [hj])
   ·have hb : (bt a i == bt b i) = false := by simpa using h
    simp [hb]
 have hall : ((List.range' 0 n).all fun i => bt a i == bt b i) = decide (a = b) := by
  rw [Bool.eq_iff_iff, List.all_eq_true, decide_eq_true_iff]
  constructor
  ·intro h
   exact eC (by omega) fun j hj => by simpa using h j (by simp [List.mem_range']; omega)
  ·rintro rfl i _
   simp
 have hk := key (List.range' 0 n) (fun i hi => by simp [List.mem_range'] at hi; omega)
 rw [hall] at hk
 simp only [Op.equalIn, arr, Sem.run_bind, run_underlying hu, Result.andThen_ok, Tryz.sizeOf5, Std.Legacy.Range.forIn_eq_forIn_range']
 simp only [Std.Legacy.Range.size, Nat.sub_zero, Nat.add_sub_cancel, Nat.div_one]
 rw [hk]
 by_cases h : a = b
 ·simp [h]
 ·simp [h]
theorem eqF_step {d : Nat} {xs ys : Array Value} {nm tg pk : String} {t : TypeId} {off bo : Nat} {em : Bool} {fs : List Field} {w : World} {u v : Value} {r : Bool} (hn : nm ≠ "_") (h1 : (part t xs off).run Tryz.prog w = .ok u w) (h2 : (part t ys off).run Tryz.prog w = .ok v w)
  (h3 : (Op.equalIn d t u v).run Tryz.prog w = .ok r w) : (Op.eqFields d xs ys (⟨nm, t, off, em, tg, pk, bo⟩ :: fs)).run Tryz.prog w = if r then (Op.eqFields d xs ys fs).run Tryz.prog w else .ok false w := by
 cases r
 ·simp only [Op.eqFields, hn, ne_eq, not_false_eq_true, if_true, Sem.run_bind, h1, h2, h3, Result.andThen_ok, Bool.not_false, Sem.run_pure, Bool.false_eq_true, if_false]
 ·simp only [Op.eqFields, hn, ne_eq, not_false_eq_true, if_true, Sem.run_bind, h1, h2, h3, Result.andThen_ok, Bool.not_true, Bool.false_eq_true, if_false]
theorem eqF_nil {d : Nat} {xs ys : Array Value} {w : World} : (Op.eqFields d xs ys []).run Tryz.prog w = .ok true w := by simp [Op.eqFields]
theorem dt {w : World} {b : Nat} {t : TypeId} {cs : List Value} (h : w.heap[b]? = some (.cells cs.toArray t (0, 0))) : w.rangeAt b 0 cs := fun j v hj => by
 rw [cell_of_row w b (0 + j) _ t (0, 0) h, Nat.zero_add]
 simpa using hj
theorem rng_sub {w : World} {b o k : Nat} {cs ds es fs : List Value} (h : w.rangeAt b o cs) (e : cs = ds ++ (es ++ fs)) (hk : ds.length = k) : w.rangeAt b (o + k) es := fun j v hj => by
 subst e hk
 have := h (ds.length + j) v (by
  rw [List.getElem?_append_right (by omega), Nat.add_sub_cancel_left, List.getElem?_append_left (List.getElem?_eq_some_iff.1 hj).1]
  exact hj)
 rwa [← Nat.add_assoc] at this
theorem d7 {w : World} {b : Nat} {t : TypeId} {cs : List Value} (h : w.heap[b]? = some (.cells cs.toArray t (0, 0))) {o n : Nat} (hn : o + n ≤ cs.length) : w.there b o n := fun j hj => by
 rw [cell_of_row w b (o + j) _ t (0, 0) h, frozen_of_row w b (o + j) _ t h]
 exact ⟨by simp; omega, rfl⟩
theorem de {fn : Func} {p q u : Tmp} {t : TypeId} {cs : List Value} {d : TypeDesc} (h : fn.results = #[.tmp p, .cell q t, .tmp u]) (tmps : Array Value) (w : World) (b : Nat) (hq : tmps.getD q undef = .pointer (some ⟨b, 0, none⟩)) (hr : w.rangeAt b 0 cs) (hu : Tryz.prog.underlying t = some d) (hd : d.isRow = true) (hz : (Tryz.prog.info? t).map (·.size) = some cs.length) :
  (results fn tmps).run Tryz.prog w = .ok (.tuple #[tmps.getD p undef, .agg cs.toArray, tmps.getD u undef]) w := by
 have hl : (loadVar t ⟨b, 0, none⟩).run Tryz.prog w = .ok (.agg cs.toArray) w := run_loadVar_mid (P := Tryz.prog) w b 0 t cs d hr hu hd hz
 have hq' : tmps[q]?.getD undef = .pointer (some ⟨b, 0, none⟩) := by simpa using hq
 simp [results, h, hq', asAddr, hl]
theorem res_rng {fn : Func} {p : Tmp} {t : TypeId} {cs : List Value} {d : TypeDesc} (h0 : fn.results = #[.cell p t]) (tmps : Array Value) (w : World) (b : Nat) (hp : tmps.getD p undef = .pointer (some ⟨b, 0, none⟩)) (hr : w.rangeAt b 0 cs) (hu : Tryz.prog.underlying t = some d) (hd : d.isRow = true) (hz : (Tryz.prog.info? t).map (·.size) = some cs.length) :
  (results fn tmps).run Tryz.prog w = .ok (.agg cs.toArray) w := by
 have hl : (loadVar t ⟨b, 0, none⟩).run Tryz.prog w = .ok (.agg cs.toArray) w := run_loadVar_mid (P := Tryz.prog) w b 0 t cs d hr hu hd hz
 have hp' : tmps[p]?.getD undef = .pointer (some ⟨b, 0, none⟩) := by simpa using hp
 simp [results, h0, hp', asAddr, hl]
theorem grown_set (w : World) (b o : Nat) (y : Value) : w.grownBy (w.setCell ⟨b, o, none⟩ y) (some b) :=
 ⟨rfl, rfl, rfl, by simp [World.setCell], fun k hk hne => heap_setCell_other w ⟨b, o, none⟩ k y (fun e => hne (by rw [e]))⟩
theorem fm {w w' : World} {b k : Nat} {o : Obj} (h : w.heap[b]? = some o) (hg : w.grownBy w' (some k)) (hne : b ≠ k) : w'.heap[b]? = some o := (hg.block b (aK h) (fun e => hne (by injection e))).trans h
set_option linter.unusedSimpArgs false
def cK (s m : Int) : List Value := [.int .i64 s, .int .i64 m]
def plV (s m : Int) : Value := .agg (cK s m).toArray
def cG (c : Cl) : List Value := .int .i64 c.s :: .int .i64 c.m :: cel c.b
def clV (c : Cl) : Value := .agg (cG c).toArray
theorem ei (c : Cl) : (cG c).length = 66 := by simp [cG, aA]
theorem celC_one (c : Cl) : ∀ v ∈ cG c, v.oneCell' = true := by
 intro v hv
 simp only [cG, List.mem_cons] at hv
 rcases hv with rfl | rfl | hv
 ·rfl
 ·rfl
 ·exact cel_one c.b v hv
theorem celP_one (s m : Int) : ∀ v ∈ cK s m, v.oneCell' = true := by
 intro v hv
 simp only [cK, List.mem_cons, List.not_mem_nil, or_false] at hv
 rcases hv with rfl | rfl <;> rfl
theorem sizeC : (Tryz.prog.info? 110).map (·.size) = some 66 := by kernel_rfl
theorem sizeP : (Tryz.prog.info? 108).map (·.size) = some 2 := by kernel_rfl
theorem infoC : (Tryz.prog.info? 110).map (fun i => (i.zero, i.size, i.bytes)) = some (some (clV cC), 66, 80) := by kernel_rfl
theorem zeroC_info : (Tryz.prog.info? 110).map (fun i => i.zero) = some (some (.agg (cG cC).toArray)) := by kernel_rfl
theorem zeroP_info : (Tryz.prog.info? 108).map (fun i => i.zero) = some (some (.agg (cK 0 0).toArray)) := by kernel_rfl
def bY : Elt Cl where
 s := 52
 t := 110
 n := 66
 by_ := 80
 cel := cG
 d := cC
 z := clV cC
 pos := by omega
 small := by omega
 len := ei
 one := celC_one
 und := Tryz.underlying52
 info := infoC
 zc := by show (Value.cells (.agg _)).size = 66; simp [Value.cells, ei]
theorem RdE.cl {w : World} {B n k : Nat} {A : Option Addr} {l : List Cl} (h : RdE bY w B A n l) (hk : k < n) : ∃ b off, A = some ⟨b, off, none⟩ ∧ b < B ∧ w.rangeAt b (off + k * 66) (cG (l.getD k cC)) := h.2 k hk
section
variable {w : World} {b off : Nat} {c : Cl}
theorem cl_place (h : w.rangeAt b off (cG c)) : w.rangeAt b off (cK c.s c.m) := by
 have := rng_sub (ds := []) (es := cK c.s c.m) (fs := cel c.b) (k := 0) h rfl rfl
 rwa [Nat.add_zero] at this
theorem cl_blk (h : w.rangeAt b off (cG c)) : w.rangeAt b (off + 2) (cel c.b) := rng_sub (ds := cK c.s c.m) (es := cel c.b) (fs := []) (k := 2) h (by simp [cG, cK]) rfl
theorem ed {s m : Int} (h : w.rangeAt b off (cK s m)) : w.cell? ⟨b, off, none⟩ = some (.int .i64 s) ∧ w.cell? ⟨b, off + 1, none⟩ = some (.int .i64 m) := by
 have h0 := h 0 _ rfl
 rw [Nat.add_zero] at h0
 exact ⟨h0, h 1 _ rfl⟩
end
section
variable {ρ : Operand → Value} {o : Oper} {x y : Operand} {w : World} {b off : Nat} {c d : Cl} {s m s' m' : Int} {t : TypeId}
theorem exec_loadC (ho : o.op = .load 110 x) (hx : ρ x = .pointer (some ⟨b, off, none⟩)) (hc : w.rangeAt b off (cG c)) : (execOp ρ o).run Tryz.prog w = .ok (.value (clV c)) w :=
 dJ Tryz.underlying110 rfl (by rw [ei]; exact sizeC) ho hx hc
theorem dN (ho : o.op = .load 108 x) (hx : ρ x = .pointer (some ⟨b, off, none⟩)) (hc : w.rangeAt b off (cK s m)) : (execOp ρ o).run Tryz.prog w = .ok (.value (plV s m)) w :=
 dJ Tryz.underlying108 rfl sizeP ho hx hc
theorem exec_boxC (ho : o.op = .box 110 x) (hx : ρ x = clV c) : (execOp ρ o).run Tryz.prog w = .ok (.value (.pointer (some ⟨w.heap.size, 0, none⟩))) (w.alloc (.cells (cG c).toArray 110)) := el ho hx
theorem f9 (ho : o.op = .box 108 x) (hx : ρ x = plV s m) : (execOp ρ o).run Tryz.prog w = .ok (.value (.pointer (some ⟨w.heap.size, 0, none⟩))) (w.alloc (.cells (cK s m).toArray 108)) := el ho hx
theorem exec_allocC (ho : o.op = .alloc 110) : (execOp ρ o).run Tryz.prog w = .ok (.value (.pointer (some ⟨w.heap.size, 0, none⟩))) (w.alloc (.cells (cG cC).toArray 110)) := dQ zeroC_info ho
theorem ej (ho : o.op = .alloc 108) : (execOp ρ o).run Tryz.prog w = .ok (.value (.pointer (some ⟨w.heap.size, 0, none⟩))) (w.alloc (.cells (cK 0 0).toArray 108)) := dQ zeroP_info ho
theorem exec_fillC (ho : o.op = .store 110 x y) (hx : ρ x = .pointer (some ⟨w.heap.size, 0, none⟩)) (hy : ρ y = clV c) : (execOp ρ o).run Tryz.prog (w.alloc (.cells (cG d).toArray 110)) = .ok .skip (w.alloc (.cells (cG c).toArray 110)) :=
 eO (by rw [ei]; exact sizeC) (by rw [ei, ei]) (celC_one c) ho hx hy
theorem eQ (ho : o.op = .store 108 x y) (hx : ρ x = .pointer (some ⟨w.heap.size, 0, none⟩)) (hy : ρ y = plV s m) : (execOp ρ o).run Tryz.prog (w.alloc (.cells (cK s' m').toArray 108)) = .ok .skip (w.alloc (.cells (cK s m).toArray 108)) :=
 eO sizeP rfl (celP_one s m) ho hx hy
theorem faC0 : (Instr.fieldAt 110 (.pointer (some ⟨b, off, none⟩)) 0).run Tryz.prog w = .ok (.pointer (some ⟨b, off, none⟩)) w := by kernel_rfl
theorem faC1 : (Instr.fieldAt 110 (.pointer (some ⟨b, off, none⟩)) 1).run Tryz.prog w = .ok (.pointer (some ⟨b, off + 2, none⟩)) w := by kernel_rfl
theorem eI : (Instr.fieldAt 108 (.pointer (some ⟨b, off, none⟩)) 0).run Tryz.prog w = .ok (.pointer (some ⟨b, off, none⟩)) w := by kernel_rfl
theorem faPl1 : (Instr.fieldAt 108 (.pointer (some ⟨b, off, none⟩)) 1).run Tryz.prog w = .ok (.pointer (some ⟨b, off + 1, none⟩)) w := by kernel_rfl
end
theorem run_eqP (w : World) (s m s' m' : Int) (d : Nat) : (Op.equalIn (d + 2) 108 (plV s m) (plV s' m')).run Tryz.prog w = .ok (decide (s = s' ∧ m = m')) w := by
 have he : ∀ x y : Int, (Op.equalIn (d + 1) 3 (.int .i64 x) (.int .i64 y)).run Tryz.prog w = .ok (x == y) w := fun x y => run_equalIn_int w d 3 .i64 .i64 x y Tryz.underlying3
 unfold plV
 rw [show d + 2 = (d + 1) + 1 from rfl, run_equalIn_struct w (d + 1) 108 _ _ (by kernel_rfl) (by kernel_rfl)]
 simp only [Program.fieldsOf, Tryz.underlying108, Op.eqFields, cK]
 simp [part, he]
 by_cases h1 : s = s' <;> by_cases h2 : m = m' <;> simp [h1, h2]
theorem partC_0 (w : World) (c : Cl) : (part 108 (cG c).toArray 0).run Tryz.prog w = .ok (plV c.s c.m) w := by
 simp [part, plV, cG, cK]
theorem partC_1 (w : World) (c : Cl) : (part 29 (cG c).toArray 2).run Tryz.prog w = .ok (blk c.b) w := by
 have h : ((cG c).drop 2).take 64 = cel c.b := List.take_of_length_le (by simp [cG, aA])
 simp [part, blk, h]
theorem cl_ext {a b : Cl} (h1 : a.s = b.s ∧ a.m = b.m) (h2 : a.b = b.b) : a = b := by
 obtain ⟨s, m, x⟩ := a
 obtain ⟨s', m', x'⟩ := b
 obtain ⟨rfl, rfl⟩ := h1
 obtain rfl := h2
 rfl
theorem run_eqC (w : World) (a b : Cl) (d : Nat) : (Op.equalIn (d + 3) 110 (clV a) (clV b)).run Tryz.prog w = .ok (decide (a = b)) w := by
 have hb := run_eqB w a.b b.b d
 have hp := run_eqP w a.s a.m b.s b.m d
 unfold clV
 rw [show d + 3 = (d + 2) + 1 from rfl, run_equalIn_struct w (d + 2) 110 _ _ (by kernel_rfl) (by kernel_rfl)]
 simp only [Program.fieldsOf, Tryz.underlying110]
 rw [eqF_step ?_ (partC_0 w a) (partC_0 w b) hp]
 rotate_left
 ·simp
 rw [eqF_step ?_ (partC_1 w a) (partC_1 w b) hb]
 rotate_left
 ·simp
 rw [eqF_nil]
 clear hb hp
 by_cases k1 : a.s = b.s ∧ a.m = b.m
 ·by_cases k2 : a.b = b.b
  ·rw [decide_eq_true k1, decide_eq_true k2, decide_eq_true (cl_ext k1 k2)]
   simp
  ·rw [decide_eq_true k1, decide_eq_false k2, decide_eq_false (fun e : a = b => k2 (by rw [e]))]
   simp
 ·rw [decide_eq_false k1, decide_eq_false (fun e : a = b => k1 (by rw [e]; exact ⟨rfl, rfl⟩))]
  simp
theorem guardC : Tryz.prog.eqGuardType Tryz.prog.depth 110 = false := by kernel_rfl
section
variable {ρ : Operand → Value} {o : Oper} {x y : Operand} {w : World} {t : TypeId} {a b : Cl}
theorem exec_neC (c : Bool) (ho : o.op = .binOp .neq 110 x y t) (hx : ρ x = clV a) (hy : ρ y = clV b) (h : (!decide (a = b)) = c) : (execOp ρ o).run Tryz.prog w = .ok (.value (.bool c)) w := by
 subst h; exact exec_neT guardC (run_eqC w a b 9997) ho hx hy
end
section
variable {ρ : Operand → Value} {o : Oper} {x y : Operand} {w : World} {s m : Int} {b : Blk}
theorem run_bldPl (s m : Int) : (Instr.build 108 #[(0, .int .i64 s), (1, .int .i64 m)]).run Tryz.prog w = .ok (plV s m) w := by kernel_rfl
theorem exec_bldPl (ho : o.op = .build 108 #[(0, x), (1, y)]) (hx : ρ x = .int .i64 s) (hy : ρ y = .int .i64 m) : (execOp ρ o).run Tryz.prog w = .ok (.value (plV s m)) w := by
 have h := run_bldPl (w := w) s m
 unfold execOp
 simp only [ho, List.map_toArray, List.map_cons, List.map_nil, hx, hy, Sem.run_bind, h, Result.andThen_ok, Sem.run_pure]
theorem run_bldC (s m : Int) (b : Blk) : (Instr.build 110 #[(0, plV s m), (1, blk b)]).run Tryz.prog w = .ok (clV ⟨s, m, b⟩) w := by
 have hz := run_zeroT zeroC_info w
 have h1 := fS (place := fun i => (#[(0, 2), (2, 64)] : Array (Nat × Nat))[i]?) (i := 0) (off := 0) (size := 2) (v := plV s m) (pre := []) (mid := cK 0 0) (post := cel ap) (vs := cK s m) (rest := [(1, blk b)]) rfl rfl rfl rfl rfl
 have h2 := fS (place := fun i => (#[(0, 2), (2, 64)] : Array (Nat × Nat))[i]?) (i := 1) (off := 2) (size := 64) (v := blk b) (pre := cK s m) (mid := cel ap) (post := []) (vs := cel b) (rest := []) rfl rfl (aA b) rfl (aA ap)
 simp only [List.nil_append, List.append_nil] at h1 h2
 have h3 := h1.trans h2
 have hz' : (zeroValue 110).run Tryz.prog w = .ok (.agg (cK 0 0 ++ cel ap).toArray) w := hz
 have hc : (Value.agg (cK 0 0 ++ cel ap).toArray).cells = (cK 0 0 ++ cel ap).toArray := rfl
 simp only [Instr.build, Sem.run_bind, hz', run_underlying Tryz.underlying110, Result.andThen_ok, hc]
 refine Eq.trans (congrArg (fun r => Result.andThen r _) (?h : _ = Result.ok #[(0, 2), (2, 64)] w)) ?_
 case h => kernel_rfl
 simp only [Result.andThen_ok]
 have h4 : Instr.fill (fun i => (#[(0, 2), (2, 64)] : Array (Nat × Nat))[i]?) (cK s m ++ cel b).toArray [] = some (cK s m ++ cel b).toArray := by rw [Instr.fill]
 rw [h3.trans h4]
 rfl
theorem exec_bldC (ho : o.op = .build 110 #[(0, x), (1, y)]) (hx : ρ x = plV s m) (hy : ρ y = blk b) : (execOp ρ o).run Tryz.prog w = .ok (.value (clV ⟨s, m, b⟩)) w := by
 have h := run_bldC (w := w) s m b
 unfold execOp
 simp only [ho, List.map_toArray, List.map_cons, List.map_nil, hx, hy, Sem.run_bind, h, Result.andThen_ok, Sem.run_pure]
end
theorem rdC_new1 (w : World) (c : Cl) : RdE bY (w.alloc (.cells (cG c).toArray 110)) (w.heap.size + 1) (some ⟨w.heap.size, 0, none⟩) 1 [c] :=
 eF w (cG c).toArray 110 (by simp [bC]; rfl)
open Go.RowKit Go.ChangeShapes Go.WideShapes Go.ChangeAt Go.Deep
theorem cellsB : Tryz.prog.cellsOf 29 = 64 := by kernel_rfl
section
variable {H : Type} {enc : TypeId × Value → H} {W : World} {base : Nat} {v : Value} {d : DataW H} {p : List MemPlace}
theorem one_u8 {m : Nat} {x : Value} {y : DataW H × List MemPlace} (h : DataW.trod enc Tryz.prog W 0 (fun _ => true) true m 5 [x] = some y) : ∃ u : UInt8, x = .int .u8 (u.toNat : Int) := by
 obtain ⟨k, e, _, hw⟩ := DataW.trod_int Tryz.underlying5 h
 have hr : 0 ≤ k ∧ k ≤ 255 := bounds_u8 hw
 injection e with e
 refine ⟨UInt8.ofNat k.toNat, ?_⟩
 rw [e, UInt8.toNat_ofNat']
 congr 1
 omega
theorem cel_of_trod {fuel : Nat} {cs : List Value} {x : DataW H × List MemPlace} (h : DataW.trod enc Tryz.prog W 0 (fun _ => true) true fuel 29 cs = some x) : ∃ b : Blk, cs = cel b := by
 obtain ⟨xs, m, _, _, hlen, hn, hel⟩ := DataW.trod_array undB h
 rw [cellsB] at hlen
 rw [u8cells] at hel
 have hu : ∀ i : Fin 64, ∃ u : UInt8, cs[i.val]? = some (.int .u8 (u.toNat : Int)) := fun i => by
  have h1 := hel i.val i.isLt
  have hi : i.val < cs.length := by have := i.isLt; omega
  have hd : (cs.drop (i.val * 1)).take 1 = [cs[i.val]] := by
   rw [Nat.mul_one, List.drop_eq_getElem_cons hi]
   rfl
  have hx : i.val < xs.length := by have := i.isLt; omega
  rw [hd, List.getElem?_eq_getElem hx] at h1
  obtain ⟨u, hu⟩ := one_u8 h1
  exact ⟨u, by rw [List.getElem?_eq_getElem hi, hu]⟩
 obtain ⟨f, hf⟩ := Classical.axiomOfChoice hu
 refine ⟨Vector.ofFn f, ?_⟩
 apply List.ext_getElem?
 intro i
 by_cases hi : i < 64
 ·rw [hf ⟨i, hi⟩, cel_at _ hi, byt_get _ hi]
  simp
 ·rw [List.getElem?_eq_none (by omega), List.getElem?_eq_none (by rw [aA]; omega)]
end
theorem cellsI : Tryz.prog.cellsOf 3 = 1 := by kernel_rfl
theorem cellsU : Tryz.prog.cellsOf 30 = 1 := by kernel_rfl
section
variable {H : Type} {enc : TypeId × Value → H} {W : World} {base : Nat} {v : Value} {d : DataW H} {p : List MemPlace}
theorem at_int {m : Nat} {x : Value} {y : DataW H × List MemPlace} (h : DataW.trod enc Tryz.prog W 0 (fun _ => true) true m 3 [x] = some y) : ∃ k : Int, x = .int .i64 k := by
 obtain ⟨k, e, _, hw⟩ := DataW.trod_int Tryz.underlying3 h
 injection e with e
 exact ⟨k, e⟩
theorem at_u64 {m : Nat} {x : Value} {y : DataW H × List MemPlace} (h : DataW.trod enc Tryz.prog W 0 (fun _ => true) true m 30 [x] = some y) : ∃ k : Nat, x = .int .u64 (k : Int) ∧ k < 18446744073709551616 := by
 obtain ⟨k, e, _, hw⟩ := DataW.trod_int Tryz.underlying30 h
 have hr := bounds_u64 hw
 injection e with e
 obtain ⟨n, rfl⟩ := Int.eq_ofNat_of_zero_le hr.1
 exact ⟨n, e, by omega⟩
end
end Go.Proofs.YtbbcdhkinbmdnaaGreatDoor
