import Derived.Test.YtnliphgjcaippaaGreatDoorHwaa
import Derived.Deep.Slices
import Derived.Lib.SmallJoins
import Derived.Deep.WholeRow
import Derived.Test.YtnliphgjcaippaaGreatDoorHwZ
namespace Go.Proofs.YtnliphgjcaippaaGreatDoor
open Go.RowKit
set_option maxRecDepth 100000
set_option linter.unusedVariables false
theorem put_at (pre post : List Value) : ∀ (vs mid done : List Value), mid.length = vs.length →
    (vs.zipIdx done.length).foldl (fun cs (p : Value × Nat) => cs.setIfInBounds (pre.length + p.2) p.1) (pre ++ done ++ mid ++ post).toArray = (pre ++ done ++ vs ++ post).toArray
  | [], mid, done, h => by
    have : mid = [] := List.eq_nil_of_length_eq_zero h
    subst this
    simp
  | v :: vs, mid, done, h => by
    match mid, h with
    | m :: ms, h =>
      rw [List.zipIdx_cons, List.foldl_cons]
      have hset : (pre ++ done ++ m :: ms ++ post).toArray.setIfInBounds (pre.length + done.length) v = (pre ++ (done ++ [v]) ++ ms ++ post).toArray := by
        rw [List.setIfInBounds_toArray]
        congr 1
        rw [List.append_assoc (pre ++ done), List.set_append_right _ _ (by simp), List.length_append, Nat.sub_self]
        simp
      have := put_at pre post vs ms (done ++ [v]) (by simpa using h)
      rw [List.length_append, List.length_singleton] at this
      show (vs.zipIdx (done.length + 1)).foldl (fun cs (p : Value × Nat) => cs.setIfInBounds (pre.length + p.2) p.1) ((pre ++ done ++ m :: ms ++ post).toArray.setIfInBounds (pre.length + done.length) v) = _
      rw [hset, this]
      simp
theorem cm {place : Nat → Option (Nat × Nat)} {i off size : Nat} {v : Value} {pre mid post vs : List Value} {rest : List (Nat × Value)} (hp : place i = some (off, size)) (hv : v.cells = vs.toArray) (hs : vs.length = size) (ho : pre.length = off) (hm : mid.length = size) :
    Instr.fill place (pre ++ mid ++ post).toArray ((i, v) :: rest) = Instr.fill place (pre ++ vs ++ post).toArray rest := by
  subst hs ho
  have hw := put_at pre post vs mid [] hm
  simp only [List.append_nil, List.length_nil] at hw
  rw [Instr.fill, hp]
  have hc : (decide (v.cells.size ≠ vs.length) || decide (pre.length + v.cells.size > (pre ++ mid ++ post).toArray.size)) = false := by
    rw [hv]
    simp [hm]
  show (if (decide (v.cells.size ≠ vs.length) || decide (pre.length + v.cells.size > (pre ++ mid ++ post).toArray.size)) = true then none else _) = _
  rw [hc, if_neg (by simp), hv, ← Array.foldl_toList, Array.toList_zipIdx]
  show Instr.fill place (vs.zipIdx.foldl (fun cs (p : Value × Nat) => cs.setIfInBounds (pre.length + p.2) p.1) (pre ++ mid ++ post).toArray) rest = _
  rw [hw]
section
variable {α : Type} (E : Elt α)
theorem run_sizeE (w : World) : (sizeOf E.t).run Tryz.prog w = .ok E.n w := by
  obtain ⟨i0, hi, hz0, hz1, hz2⟩ := info_parts E.info
  simp [sizeOf, typeInfo, hi, hz1]
theorem run_zeroE (w : World) : (zeroValue E.t).run Tryz.prog w = .ok E.z w := by
  obtain ⟨i0, hi, hz0, hz1, hz2⟩ := info_parts E.info
  simp [zeroValue, typeInfo, hi, hz0]
end
section
variable {α : Type} {E : Elt α} {ρ : Operand → Value} {o : Oper} {x y : Operand} {w : World} {b off n c j : Nat} {v : Value} {a : α}
theorem add_mid (b off j : Nat) : (⟨b, off, none⟩ : Addr).add j = ⟨b, off + j, none⟩ := by unfold Addr.add; split <;> simp_all
theorem run_indexE (hj : j < n) : (Instr.indexAt E.s (.slice (some ⟨b, off, none⟩) n c) (.int .i64 (j : Int))).run Tryz.prog w = .ok (.pointer (some ⟨b, off + j * E.n, none⟩)) w := by
  have h := run_sizeE E w
  simp [Instr.indexAt, asIntOf, run_underlying E.und, add_mid, h, hj]
theorem exec_indexE (ho : o.op = .indexAddr E.s x y) (hx : ρ x = .slice (some ⟨b, off, none⟩) n c) (hy : ρ y = .int .i64 (j : Int)) (hj : j < n) : (execOp ρ o).run Tryz.prog w = .ok (.value (.pointer (some ⟨b, off + j * E.n, none⟩))) w :=
  bS ho hx hy (run_indexE (E := E) hj)
theorem exec_mk1E (ho : o.op = .buildSlice E.s 1 #[(0, x)]) (hx : ρ x = v) (hv : v.cells = (E.cel a).toArray) (hn : E.n ≤ 16777216) :
    (execOp ρ o).run Tryz.prog w = .ok (.value (.slice (some ⟨w.heap.size, 0, none⟩) 1 1)) (w.alloc (.cells (E.cel a).toArray E.t)) := by
  have hz := run_zeroE E w
  have hs := run_sizeE E w
  have hp := E.pos
  obtain ⟨zs, hzs⟩ : ∃ zs : List Value, (Array.range (1 * E.n)).map (E.z.cells[· % E.z.cells.size]!) = zs.toArray := ⟨_, (Array.toArray_toList).symm⟩
  have hzl : zs.length = E.n := by
    have := congrArg Array.size hzs
    simpa using this.symm
  have hf := cm (place := fun i => some (i * E.n, E.n)) (i := 0) (off := 0) (v := v) (pre := []) (mid := zs) (post := []) (vs := E.cel a) (rest := []) (by simp) hv (E.len a) rfl hzl
  simp only [List.nil_append, List.append_nil] at hf
  unfold execOp
  simp only [ho, Instr.buildSlice, Sem.run_bind, run_underlying E.und, Result.andThen_ok, hs]
  rw [if_neg (by omega), if_neg (by omega)]
  simp only [Sem.run_bind, hz, Result.andThen_ok, Sem.run_pure, hzs]
  simp [hx, hf, Instr.fill, newRow]
end
theorem exec_appE {α : Type} {E : Elt α} {o : Oper} {a : Act} {w w' : World} {s x : Operand} {A : Option Addr} {m c : Nat} {v v' : Value} (ho : o.op = .call { callee := .builtin .append, args := #[s, x], argTypes := #[E.s, E.s] }) (hs : a.eval s = v) (hx : a.eval x = .slice A m c)
    (hrun : (Builtin.append_ #[E.s, E.s] o.type #[v, .slice A m c]).run Tryz.prog w = .ok v' w') : (execOp a.eval o).run Tryz.prog w = .ok (.value v') w' := by
  simp [execOp, ho, resolve, invoke, builtin, hs, hx, hrun, Result.andThen]
theorem run_appE_own {α : Type} (E : Elt α) (w : World) (ty B N m c : Nat) (v : Value) (l l' : List α) (A : Option Addr) (hm : aY E w B v l) (hr : RdE E w N A m l') (hB : B ≤ w.heap.size) (hsum : l.length + m ≤ 34359738368) :
    ∃ v' w', (Builtin.append_ #[E.s, E.s] ty #[v, .slice A m c]).run Tryz.prog w = .ok v' w' ∧ aY E w' B v' (l ++ l') ∧ w.grownBy w' v.ownBlock ∧ ∀ x, v'.ownBlock = some x → v.ownBlock = some x ∨ w.heap.size ≤ x := by
  obtain ⟨v', w', h1, h2, h3⟩ := run_appE E w ty B N m c v l l' A hm hr hB hsum
  refine ⟨v', w', h1, h2, h3, ?_⟩
  have sure : ∀ v'' w'', (Builtin.append_ #[E.s, E.s] ty #[v, .slice A m c]).run Tryz.prog w = .ok v'' w'' → v' = v'' := fun v'' w'' e => by rw [h1] at e; injection e
  obtain ⟨i0, hi, hz0, hz1, hz2⟩ := info_parts E.info
  rcases hm.2 with ⟨rfl, h0⟩ | ⟨g, cap, cur, rfl, hbg, hg, hnc, hcm, hcs, htake⟩
  · have hm' : aY E w w.heap.size (.slice none 0 0) l := ⟨hm.1, .inl ⟨rfl, h0⟩⟩
    obtain ⟨v2, w2, g1, g2, g3⟩ := run_appE E w ty w.heap.size N m c _ l l' A hm' hr (Nat.le_refl _) hsum
    have e := sure _ _ g1
    subst e
    exact fun x hx => .inr (g2.lt_own x hx)
  · rcases A with _ | ad
    · have h0 : m = 0 := by
        rcases Nat.eq_zero_or_pos m with h | h
        · exact h
        · obtain ⟨b, off, e, _⟩ := hr.2 0 h
          cases e
      subst h0
      have e := sure (.slice (some ⟨g, 0, none⟩) l.length cap) w (by simp [Builtin.append_, run_underlying E.und, sizeOf, typeInfo, hi, Builtin.lenOf, Builtin.firstCells, hnc, storeCells])
      subst e
      exact fun x hx => .inl hx
    · by_cases hroom : l.length + m ≤ cap
      · have hfit : l.length * i0.size + (bN E l').length ≤ cur.size := by rw [bD, hr.1, hz1, hcs, ← Nat.add_mul]; exact Nat.mul_le_mul_right _ hroom
        have h := run_append_room (P := Tryz.prog) w E.s ty E.t i0 E.und hi g l.length cap cur hg ad m c (bN E l') (by rw [bD, hr.1, hz1]) (cells_of_rdE hr) (flatE_one E l') hroom hfit
        have e := sure _ _ h
        subst e
        exact fun x hx => .inl hx
      · have holds : ∀ j u, (bN E l)[j]? = some u → w.cell? ((⟨g, 0, none⟩ : Addr).add j) = some u := World.ownsRow.cells hm (g := g) rfl
        have hby : (l.length + m) * E.by_ ≤ 140737488355328 := Nat.le_trans (Nat.mul_le_mul hsum E.small) (by omega)
        have h := run_append_grow (P := Tryz.prog) w E.s ty E.t i0 E.z E.und hi hz0 ⟨g, 0, none⟩ l.length cap (bN E l) (by rw [hz1]; exact hm.1) holds ad m c (bN E l') (by rw [bD, hr.1, hz1]) (cells_of_rdE hr) (by omega) (by omega) (growslice_fits (by omega) (by rw [hz2]; exact hby))
        have e := sure _ _ h
        subst e
        exact fun x hx => .inr (by simp [Value.ownBlock] at hx; omega)
theorem wpList_appE_own {α : Type} (E : Elt α) {w : World} {ops : Array Oper} {rest : List Oper} {o : Oper} {a : Act} {Q : Exit → Act → World → Prop} (hgd : o.guard = none) (s x : Operand)
    (ho : o.op = .call { callee := .builtin .append, args := #[s, x], argTypes := #[E.s, E.s] })
    (B N m c : Nat) (v : Value) (l l' : List α) (A : Option Addr) (hs : a.eval s = v) (hx : a.eval x = .slice A m c) (hm : aY E w B v l) (hr : RdE E w N A m l') (hB : B ≤ w.heap.size) (hsum : l.length + m ≤ 34359738368)
    (h : ∀ v' w', aY E w' B v' (l ++ l') → w.grownBy w' v.ownBlock → (∀ x, v'.ownBlock = some x → v.ownBlock = some x ∨ w.heap.size ≤ x) → wpList Tryz.prog ops Q rest (a.put o.dst v') w') : wpList Tryz.prog ops Q (o :: rest) a w := by
  refine wpList_plain hgd fun K hK => ?_
  obtain ⟨v', w', hrun, h1, h2, h3⟩ := run_appE_own E w o.type B N m c v l l' A hm hr hB hsum
  unfold Oper.wp
  simp [execOp, ho, resolve, invoke, builtin, hs, hx, hrun, Result.andThen]
  exact hK _ _ (h v' w' h1 h2 h3)
section
variable {α : Type} {E : Elt α} {w : World} {B g n cc k : Nat} {l : List α} {a : α}
theorem flatE_split {l : List α} {k : Nat} (hk : k < l.length) : bN E l = bN E (l.take k) ++ (E.cel (l.getD k E.d) ++ bN E (l.drop (k + 1))) := by
  have h1 : l = l.take k ++ (l.getD k E.d :: l.drop (k + 1)) := by
    rw [List.getD, List.getElem?_eq_getElem hk, Option.getD_some, List.getElem_cons_drop, List.take_append_drop]
  conv => lhs; rw [h1]
  rw [flatE_append, dj]
theorem flatE_set {l : List α} {k : Nat} (hk : k < l.length) (a : α) : bN E (l.set k a) = bN E (l.take k) ++ (E.cel a ++ bN E (l.drop (k + 1))) := by
  have h2 : l.set k a = l.take k ++ (a :: l.drop (k + 1)) := List.set_eq_take_append_cons_drop.trans (by rw [if_pos hk])
  rw [h2, flatE_append, dj]
theorem heap_put (g : Nat) (t : TypeId) (post : List Value) : ∀ (vs mid pre : List Value) (w : World), mid.length = vs.length → w.heap[g]? = some (.cells (pre ++ mid ++ post).toArray t (0, 0)) →
    (w.setCells g pre.length vs).heap[g]? = some (.cells (pre ++ vs ++ post).toArray t (0, 0))
  | [], mid, pre, w, h, hg => by
    have : mid = [] := List.eq_nil_of_length_eq_zero h
    subst this
    exact hg
  | v :: vs, mid, pre, w, h, hg => by
    match mid, h with
    | m :: ms, h =>
      rw [World.setCells]
      have h1 := heap_setCell_same w g pre.length _ t v hg
      have hset : (pre ++ m :: ms ++ post).toArray.setIfInBounds pre.length v = ((pre ++ [v]) ++ ms ++ post).toArray := by
        rw [List.setIfInBounds_toArray]
        congr 1
        rw [List.append_assoc, List.set_append_right _ _ (by simp), Nat.sub_self]
        simp
      rw [hset] at h1
      have := heap_put g t post vs ms (pre ++ [v]) _ (by simpa using h) h1
      rw [List.length_append, List.length_singleton] at this
      rw [this]
      simp
theorem aY.parts (h : aY E w B (.slice (some ⟨g, 0, none⟩) n cc) l) : l.length = n ∧ B ≤ g ∧ ∃ post, w.heap[g]? = some (.cells (bN E l ++ post).toArray E.t (0, 0)) ∧ n ≤ cc ∧ cc ≤ maxLen ∧ (bN E l ++ post).length = cc * E.n := by
  rcases h.2 with ⟨hv, _⟩ | ⟨g', cap, cur, hv, hbg, hg, h1, h2, h3, ht⟩
  · cases hv
  · injection hv with e1 e2 e3
    injection e1 with e1
    injection e1 with e1
    subst e1 e2 e3
    refine ⟨rfl, hbg, cur.toList.drop (l.length * E.n), ?_, h1, h2, ?_⟩
    · rw [← ht, List.take_append_drop, Array.toArray_toList]; exact hg
    · rw [← ht, List.take_append_drop, Array.length_toList, h3]
theorem aY.of_parts {post : List Value} (hl : l.length = n) (hB : B ≤ g) (hg : w.heap[g]? = some (.cells (bN E l ++ post).toArray E.t (0, 0))) (h1 : n ≤ cc) (h2 : cc ≤ maxLen) (h3 : (bN E l ++ post).length = cc * E.n) : aY E w B (.slice (some ⟨g, 0, none⟩) n cc) l := by
  subst hl
  refine ⟨bD E l, .inr ⟨g, cc, _, rfl, hB, hg, h1, h2, by simpa using h3, ?_⟩⟩
  rw [List.take_left' (bD E l)]
theorem aY.there (h : aY E w B (.slice (some ⟨g, 0, none⟩) n cc) l) (hk : k < n) {j m : Nat} (hj : j + m ≤ E.n) : w.there g (k * E.n + j) m := by
  obtain ⟨hl, _, post, hg, hn, _, h3⟩ := h.parts
  intro i hi
  refine ⟨?_, frozen_of_row w g _ _ _ hg⟩
  rw [cell_of_row w g _ _ _ (0, 0) hg]
  have : k * E.n + j + i < (bN E l ++ post).length := by
    have h4 := Nat.mul_le_mul_right E.n (Nat.le_trans hk hn)
    rw [Nat.succ_mul] at h4
    rw [h3]
    omega
  simp only [List.getElem?_toArray, List.getElem?_eq_getElem this, Option.isSome_some]
theorem aY.put (h : aY E w B (.slice (some ⟨g, 0, none⟩) n cc) l) (hk : k < n) {j : Nat} {vs : List Value} (a : α) (ha : E.cel a = (E.cel (l.getD k E.d)).take j ++ vs ++ (E.cel (l.getD k E.d)).drop (j + vs.length)) (hj : j + vs.length ≤ E.n) :
    aY E (w.setCells g (k * E.n + j) vs) B (.slice (some ⟨g, 0, none⟩) n cc) (l.set k a) := by
  obtain ⟨hl, hB, post, hg, h1, h2, h3⟩ := h.parts
  have hkl : k < l.length := by omega
  have hc : E.cel (l.getD k E.d) = (E.cel (l.getD k E.d)).take j ++ ((E.cel (l.getD k E.d)).drop j).take vs.length ++ (E.cel (l.getD k E.d)).drop (j + vs.length) := by
    rw [List.append_assoc, ← List.drop_drop, List.take_append_drop, List.take_append_drop]
  have hsp : bN E l ++ post = (bN E (l.take k) ++ (E.cel (l.getD k E.d)).take j) ++ ((E.cel (l.getD k E.d)).drop j).take vs.length ++ ((E.cel (l.getD k E.d)).drop (j + vs.length) ++ (bN E (l.drop (k + 1)) ++ post)) := by
    rw [flatE_split hkl]
    conv => lhs; rw [hc]
    simp only [List.append_assoc]
  rw [hsp] at hg
  have hmid : (((E.cel (l.getD k E.d)).drop j).take vs.length).length = vs.length := by rw [List.length_take, List.length_drop, E.len]; omega
  have := heap_put g E.t _ vs _ _ w hmid hg
  have hpl : (bN E (l.take k) ++ (E.cel (l.getD k E.d)).take j).length = k * E.n + j := by
    rw [List.length_append, bD, List.length_take, List.length_take, E.len, Nat.min_eq_left (by omega), Nat.min_eq_left (by omega)]
  rw [hpl] at this
  have hsp2 : bN E (l.set k a) ++ post = (bN E (l.take k) ++ (E.cel (l.getD k E.d)).take j) ++ vs ++ ((E.cel (l.getD k E.d)).drop (j + vs.length) ++ (bN E (l.drop (k + 1)) ++ post)) := by
    rw [flatE_set hkl, ha]
    simp only [List.append_assoc]
  rw [← hsp2] at this
  exact aY.of_parts (by rw [List.length_set, hl]) hB this h1 h2 (by rw [List.length_append, bD, List.length_set, ← bD E l, ← List.length_append, h3])
theorem aY.store (h : aY E w B (.slice (some ⟨g, 0, none⟩) n cc) l) (hk : k < n) (a : α) : aY E (w.setCells g (k * E.n) (E.cel a)) B (.slice (some ⟨g, 0, none⟩) n cc) (l.set k a) := by
  have := h.put hk (j := 0) (vs := E.cel a) a (by rw [List.take_zero, Nat.zero_add, List.drop_eq_nil_of_le (by rw [E.len, E.len]; exact Nat.le_refl _)]; simp) (by rw [E.len]; omega)
  simpa using this
end
open Go.RowKit Go.ChangeShapes Go.WideShapes Go.ChangeAt Go.Deep
section
variable {H : Type} {enc : TypeId × Value → H} {W : World} {base : Nat} {v : Value} {d : DataW H} {p : List MemPlace}
theorem elts_of_trod {α : Type} (E : Elt α) (Good : α → Prop) (hc : Tryz.prog.cellsOf E.t = E.n) {fuel : Nat} {cs : List Value} {x : DataW H × List MemPlace} (hf : DataW.trod enc Tryz.prog W 0 (fun _ => true) true fuel E.s cs = some x)
    (hE : ∀ (fuel : Nat) (cs : List Value) (x : DataW H × List MemPlace), DataW.trod enc Tryz.prog W 0 (fun _ => true) true fuel E.t cs = some x → ∃ a, cs = E.cel a ∧ Good a) :
    ∃ (A : Option Addr) (n c : Nat) (l : List α), cs = [.slice A n c] ∧ RdE E W W.heap.size A n l ∧ n ≤ c ∧ c ≤ maxLen ∧ ∀ k, k < n → Good (l.getD k E.d) := by
  rcases open_slice E.und hf with ⟨hcs, hx⟩ | ⟨a, len0, cap, m, n, D, Pl, hcs, hb, hl, hm, hmm, hx, hel⟩
  · exact ⟨none, 0, 0, [], hcs, RdE.nil _ _ _, by omega, by unfold maxLen; omega, fun k hk => absurd hk (by omega)⟩
  · simp only [if_true] at hmm
    subst hmm
    haveI : Inhabited α := ⟨E.d⟩
    obtain ⟨f, hf2⟩ := choose_lt (α := α) (p := fun i b => W.cells? 0 (a.add (i * E.n)) E.n = some (E.cel b) ∧ Good b) (n := m) (fun i hi => by
      obtain ⟨cs', h1, h2⟩ := hel i hi
      rw [hc] at h1
      obtain ⟨b, rfl, hg⟩ := hE _ _ _ h2
      exact ⟨b, h1, hg⟩)
    have hp := E.pos
    refine ⟨some a, len0, m, (List.range len0).map f, hcs, ⟨by simp, fun k hk => ?_⟩, hl, hm, fun k hk => ?_⟩
    · obtain ⟨b, off, spot⟩ := a
      have hzero : ∀ i, ∃ u, (E.cel (f i))[0]? = some u := fun i => ⟨_, List.getElem?_eq_getElem (by rw [E.len]; exact hp)⟩
      have hspot : spot = none := by
        obtain ⟨u, hu⟩ := hzero 0
        have h0 := (World.cells?_some (hf2 0 (by omega)).1).2.2 0 hp
        rw [hu] at h0
        have := World.cell?_spot h0
        simpa [Addr.add] using this
      subst hspot
      have hcc := World.cells?_some (hf2 k (by omega)).1
      refine ⟨b, off, rfl, ?_, fun j u hj => ?_⟩
      · obtain ⟨u, hu⟩ := hzero k
        have h0 := hcc.2.2 0 hp
        rw [hu, add_mid, add_mid] at h0
        exact World.block_lt_of_cell? W _ h0
      · have hlt : j < E.n := by have := (List.getElem?_eq_some_iff.1 hj).1; rwa [E.len] at this
        have h1 := hcc.2.2 j hlt
        rw [add_mid, add_mid] at h1
        rw [h1, ← hj]
        simp [List.getD, hk]
    · simpa [List.getD, hk] using (hf2 k (by omega)).2
theorem open_elts {α : Type} (E : Elt α) (Good : α → Prop) (hc : Tryz.prog.cellsOf E.t = E.n) (hv : Value.okWide Tryz.prog W .any base E.s v) (h : DataW.Trod enc Tryz.prog W 0 (fun _ => true) true E.s v d p)
    (hE : ∀ (fuel : Nat) (cs : List Value) (x : DataW H × List MemPlace), DataW.trod enc Tryz.prog W 0 (fun _ => true) true fuel E.t cs = some x → ∃ a, cs = E.cel a ∧ Good a) :
    ∃ (A : Option Addr) (n c : Nat) (l : List α), v = .slice A n c ∧ RdE E W W.heap.size A n l ∧ n ≤ c ∧ c ≤ maxLen ∧ ∀ k, k < n → Good (l.getD k E.d) := by
  obtain ⟨a0, len0, cap0, rfl⟩ := okWide_slice E.und hv
  obtain ⟨fuel, hf⟩ := h
  obtain ⟨A, n, c, l, hcs, rest⟩ := elts_of_trod E Good hc hf hE
  simp [Value.cells] at hcs
  obtain ⟨rfl, rfl, rfl⟩ := hcs
  exact ⟨_, _, _, l, rfl, rest⟩
theorem int_of_trod (fuel : Nat) (cs : List Value) (x : DataW H × List MemPlace) (h : DataW.trod enc Tryz.prog W 0 (fun _ => true) true fuel 3 cs = some x) : ∃ a : Int, cs = [.int .i64 a] ∧ (Lit.int .i64 a).wf = true := by
  obtain ⟨k, e, _, hw⟩ := DataW.trod_int Tryz.underlying3 h
  exact ⟨k, e, hw⟩
end
def IntE : Elt Int where
  s := 22
  t := 3
  n := 1
  by_ := 8
  cel x := [.int .i64 x]
  d := 0
  z := .int .i64 0
  pos := by omega
  small := by omega
  len _ := rfl
  one x v hv := by simp at hv; subst hv; rfl
  und := Tryz.underlying22
  info := by kernel_rfl
  zc := rfl
section
variable {w : World} {B n : Nat} {A : Option Addr} {l : List Int}
theorem RdE.int (h : RdE IntE w B A n l) {k : Nat} (hk : k < n) : ∃ b off, A = some ⟨b, off, none⟩ ∧ b < B ∧ w.cell? ⟨b, off + k, none⟩ = some (.int .i64 (l.getD k 0)) := by
  obtain ⟨b, off, e, hb, hc⟩ := h.2 k hk
  refine ⟨b, off, e, hb, ?_⟩
  have h0 := hc 0 (.int .i64 (l.getD k 0)) rfl
  rwa [show off + k * IntE.n + 0 = off + k from by show off + k * 1 + 0 = _; omega] at h0
end
section
variable {H : Type} {enc : TypeId × Value → H} {W : World} {base : Nat} {v : Value} {d : DataW H} {p : List MemPlace}
theorem open_numbers (hv : Value.okWide Tryz.prog W .any base 22 v) (h : DataW.Trod enc Tryz.prog W 0 (fun _ => true) true 22 v d p) :
    ∃ (A : Option Addr) (n c : Nat) (l : List Int), v = .slice A n c ∧ RdE IntE W W.heap.size A n l ∧ n ≤ c ∧ c ≤ maxLen := by
  obtain ⟨A, n, c, l, e, h1, h2, h3, _⟩ := open_elts IntE (fun a => (Lit.int .i64 a).wf = true) (by kernel_rfl) hv h (fun fuel cs x h => int_of_trod fuel cs x h)
  exact ⟨A, n, c, l, e, h1, h2, h3⟩
end
structure Ros where
  m : Int
  s : Int
  r : Int
  st : Vector UInt8 16
  cur : Int
  gone : Bool
deriving DecidableEq
def bi : Ros := ⟨0, 0, 0, Vector.replicate 16 0, 0, false⟩
def sta (x : Ros) (j : Nat) : Int := bt x.st.toList j
def healK (l : List UInt8) : Nat → Nat
  | 0 => 0
  | k + 1 => healK l k + (if bt l k = 2 then 1 else 0)
def bZ (x : Ros) : Nat := healK x.st.toList 16
theorem healK_le (l : List UInt8) (k : Nat) : healK l k ≤ k := by
  induction k with
  | zero => exact Nat.le_refl _
  | succ k ih => unfold healK; split <;> omega
def geoB (x : Ros) : Bool := decide (3 ≤ x.m ∧ x.m ≤ 16 ∧ 1 ≤ x.s ∧ x.s ≤ 64 ∧ 40 ≤ x.r ∧ x.r ≤ 256)
def staB (x : Ros) : Bool := (List.range 16).all fun j => decide (sta x j ≤ 2) && (!decide (x.m ≤ (j : Int)) || decide (sta x j = 0))
theorem staB_iff {x : Ros} : staB x = true ↔ ((∀ j, j < 16 → sta x j ≤ 2) ∧ (∀ j : Nat, j < 16 → x.m ≤ (j : Int) → sta x j = 0)) := by
  unfold staB
  simp only [List.all_eq_true, List.mem_range, Bool.and_eq_true, decide_eq_true_eq, Bool.or_eq_true, Bool.not_eq_true', decide_eq_false_iff_not]
  constructor
  · exact fun h => ⟨fun j hj => (h j hj).1, fun j hj hm => (h j hj).2.elim (fun h2 => absurd hm h2) id⟩
  · rintro ⟨h1, h2⟩ j hj
    refine ⟨h1 j hj, ?_⟩
    by_cases hm : x.m ≤ (j : Int)
    · exact .inr (h2 j hj hm)
    · exact .inl hm
def aH (x : Ros) : Bool := geoB x && staB x && decide (bZ x ≤ 1) && decide (0 ≤ x.cur ∧ x.cur < x.s ∧ (bZ x = 1 ∨ x.cur = 0))
theorem dn {x : Ros} (h : geoB x = true) : 3 ≤ x.m ∧ x.m ≤ 16 ∧ 1 ≤ x.s ∧ x.s ≤ 64 ∧ 40 ≤ x.r ∧ x.r ≤ 256 := of_decide_eq_true h
theorem of_staB {x : Ros} (h : staB x = true) : (∀ j, j < 16 → sta x j ≤ 2) ∧ (∀ j : Nat, j < 16 → x.m ≤ (j : Int) → sta x j = 0) := staB_iff.1 h
theorem cw {x : Ros} (h : aH x = true) : geoB x = true ∧ staB x = true ∧ bZ x ≤ 1 ∧ 0 ≤ x.cur ∧ x.cur < x.s ∧ (bZ x = 1 ∨ x.cur = 0) := by
  unfold aH at h
  simp only [Bool.and_eq_true, decide_eq_true_eq] at h
  exact ⟨h.1.1.1, h.1.1.2, h.1.2, h.2⟩
theorem fineB_of {x : Ros} (h : geoB x = true ∧ staB x = true ∧ bZ x ≤ 1 ∧ 0 ≤ x.cur ∧ x.cur < x.s ∧ (bZ x = 1 ∨ x.cur = 0)) : aH x = true := by
  unfold aH
  simp only [Bool.and_eq_true, decide_eq_true_eq]
  exact ⟨⟨⟨h.1, h.2.1⟩, h.2.2.1⟩, h.2.2.2⟩
theorem dY {x : Ros} : geoB x = true ↔ (3 ≤ x.m ∧ x.m ≤ 16 ∧ 1 ≤ x.s ∧ x.s ≤ 64 ∧ 40 ≤ x.r ∧ x.r ≤ 256) := by unfold geoB; rw [decide_eq_true_iff]
theorem geoB_not {x : Ros} : geoB x = false ↔ ¬(3 ≤ x.m ∧ x.m ≤ 16 ∧ 1 ≤ x.s ∧ x.s ≤ 64 ∧ 40 ≤ x.r ∧ x.r ≤ 256) := by unfold geoB; rw [decide_eq_false_iff_not]
theorem healK_succ (l : List UInt8) (k : Nat) : healK l (k + 1) = healK l k + (if bt l k = 2 then 1 else 0) := rfl
def curB (x : Ros) : Bool := if bZ x = 0 then decide (x.cur = 0) else decide (0 ≤ x.cur ∧ x.cur < x.s)
theorem fine_split (x : Ros) : aH x = (geoB x && ((staB x && decide (bZ x ≤ 1)) && curB x)) := by
  unfold aH curB
  by_cases hg : geoB x = true
  · have hs := (dY.1 hg).2.2.1
    rw [hg, Bool.true_and, Bool.true_and]
    cases staB x
    · rfl
    · by_cases hh : bZ x ≤ 1
      · rw [decide_eq_true hh]
        simp only [Bool.true_and]
        split
        · rw [decide_eq_decide]; omega
        · rw [decide_eq_decide]; omega
      · rw [decide_eq_false hh]; rfl
  · rw [Bool.eq_false_iff.2 hg]; rfl
theorem sta_no {x : Ros} {j : Nat} (hj : j < 16) (h : 2 < sta x j ∨ (x.m ≤ (j : Int) ∧ sta x j ≠ 0)) : aH x = false := by
  rw [Bool.eq_false_iff]
  intro hf
  obtain ⟨h1, h2⟩ := of_staB (cw hf).2.1
  rcases h with h | ⟨h, h'⟩
  · have := h1 j hj; omega
  · exact h' (h2 j hj h)
def ofSt (l : List UInt8) : Vector UInt8 16 := Vector.ofFn fun i => l.getD i.val 0
theorem toList_ofSt {l : List UInt8} (h : l.length = 16) : (ofSt l).toList = l := by
  refine dP (by simp [h]) fun k hk => ?_
  have hk' : k < 16 := by simpa using hk
  rw [cU hk, cU (l := l) (by omega)]
  simp [ofSt, List.getD, List.getElem?_eq_getElem (show k < l.length by omega)]
theorem ofSt_toList (v : Vector UInt8 16) : ofSt v.toList = v := by
  apply Vector.ext
  intro i hi
  simp [ofSt, List.getD]
theorem stL_length (v : Vector UInt8 16) : v.toList.length = 16 := by simp
theorem ros_ext {a b : Ros} (h1 : a.m = b.m ∧ a.s = b.s ∧ a.r = b.r) (h2 : a.st.toList = b.st.toList) (h3 : a.cur = b.cur) (h4 : a.gone = b.gone) : a = b := by
  obtain ⟨m, s, r, st, cur, gone⟩ := a
  obtain ⟨m', s', r', st', cur', gone'⟩ := b
  simp only at *
  obtain ⟨rfl, rfl, rfl⟩ := h1
  subst h3 h4
  have : st = st' := by rw [← ofSt_toList st, h2, ofSt_toList]
  rw [this]
def vals (l : List UInt8) : List Value := l.map fun u => .int .u8 (u.toNat : Int)
theorem aR (l : List UInt8) : (vals l).length = l.length := by simp [vals]
theorem vals_one (l : List UInt8) : ∀ v ∈ vals l, v.oneCell' = true := by
  intro v hv
  simp only [vals, List.mem_map] at hv
  obtain ⟨u, _, rfl⟩ := hv
  rfl
theorem vals_at {l : List UInt8} {j : Nat} (h : j < l.length) : (vals l)[j]? = some (.int .u8 (bt l j)) := by
  rw [cU h]
  simp [vals, h]
section
variable {w w' : World} {B b o n : Nat} {cs : List Value}
theorem dC (h : w.rangeAt b o cs) (hb : b < B) (hw : Below B w w') : w'.rangeAt b o cs := fun j v hj => by
  rw [hw.cell (p := ⟨b, o + j, none⟩) hb]; exact h j v hj
theorem bm (h : w.there b o n) (hb : b < B) (hw : Below B w w') : w'.there b o n := fun j hj => by
  rw [hw.cell (p := ⟨b, o + j, none⟩) hb, hw.frozen (p := ⟨b, o + j, none⟩) hb]; exact h j hj
theorem cz (w : World) (cs : List Value) (t : TypeId) : (w.alloc (.cells cs.toArray t)).rangeAt w.heap.size 0 cs := fun j v hj => by
  rw [cell_of_row _ _ (0 + j) cs.toArray t (0, 0) (heap_alloc_new w _)]
  simpa using hj
theorem dr (b : Nat) : ∀ (vs : List Value) (o : Nat) (w : World) (k : Nat), k ≠ b → (w.setCells b o vs).heap[k]? = w.heap[k]?
  | [], _, _, _, _ => rfl
  | v :: r, o, w, k, h => by
    rw [World.setCells, dr b r (o + 1) _ k h]
    exact heap_setCell_other w ⟨b, o, none⟩ k v h
theorem dz (b : Nat) : ∀ (vs : List Value) (o : Nat) (w : World), (w.setCells b o vs).heap.size = w.heap.size ∧ (w.setCells b o vs).os = w.os ∧ (w.setCells b o vs).tape = w.tape ∧ (w.setCells b o vs).output = w.output
  | [], _, _ => ⟨rfl, rfl, rfl, rfl⟩
  | v :: r, o, w => by
    have h := dz b r (o + 1) (w.setCell ⟨b, o, none⟩ v)
    rw [World.setCells]
    refine ⟨h.1.trans ?_, h.2.1.trans rfl, h.2.2.1.trans rfl, h.2.2.2.trans rfl⟩
    simp [World.setCell]
theorem below_setCells {a : World} (h : Below B a w) {b o : Nat} (hb : B ≤ b) (vs : List Value) : Below B a (w.setCells b o vs) := by
  obtain ⟨h1, h2, h3, h4⟩ := dz b vs o w
  exact ⟨h2.trans h.os, h3.trans h.tape, h4.trans h.output, by rw [h1]; exact h.size, fun k hk => (dr b vs o w k (by omega)).trans (h.block k hk)⟩
end
theorem wrap64_nat {n : Nat} (h : n < 9223372036854775808) : wrap64 (n : Int) = (n : Int) := by unfold wrap64; omega
theorem ap {w w' : World} {b : Nat} {o : Obj} (h : w.heap[b]? = some o) (hb : Below w.heap.size w w') : w'.heap[b]? = some o := (hb.block b (Array.getElem?_eq_some_iff.1 h).1).trans h
theorem blk_keep2 {w w' : World} {B b : Nat} {o : Obj} (h : w.heap[b]? = some o) (hB : b < B) (hb : Below B w w') : w'.heap[b]? = some o := (hb.block b hB).trans h
theorem bc {w : World} {b : Nat} {o : Obj} (h : w.heap[b]? = some o) (o' : Obj) : (w.alloc o').heap[b]? = some o := (Below.heap_alloc w o' b (Array.getElem?_eq_some_iff.1 h).1).trans h
theorem aJ {w : World} {b : Nat} {o : Obj} (h : w.heap[b]? = some o) : b < w.heap.size := (Array.getElem?_eq_some_iff.1 h).1
section
variable {w : World} {b : Nat} {t : TypeId} {x y z : Value}
theorem cells2 (h : w.heap[b]? = some (.cells #[x, y] t (0, 0))) : w.cell? ⟨b, 0, none⟩ = some x ∧ w.cell? ⟨b, 1, none⟩ = some y ∧ w.frozen? ⟨b, 0, none⟩ = false ∧ w.frozen? ⟨b, 1, none⟩ = false := by
  refine ⟨?_, ?_, frozen_of_row w b 0 _ t h, frozen_of_row w b 1 _ t h⟩
  · rw [cell_of_row w b 0 _ t (0, 0) h]; rfl
  · rw [cell_of_row w b 1 _ t (0, 0) h]; rfl
theorem cells3 (h : w.heap[b]? = some (.cells #[x, y, z] t (0, 0))) : w.cell? ⟨b, 0, none⟩ = some x ∧ w.cell? ⟨b, 1, none⟩ = some y ∧ w.cell? ⟨b, 2, none⟩ = some z := by
  refine ⟨?_, ?_, ?_⟩
  · rw [cell_of_row w b 0 _ t (0, 0) h]; rfl
  · rw [cell_of_row w b 1 _ t (0, 0) h]; rfl
  · rw [cell_of_row w b 2 _ t (0, 0) h]; rfl
end
theorem behind_gp {w w1 : World} {o o' : Obj} (hb : Below ((w.alloc o).alloc o').heap.size ((w.alloc o).alloc o') w1) (hf : (w.alloc o).heap[w.heap.size]? = some o) (hf' : ((w.alloc o).alloc o').heap[w.heap.size + 1]? = some o') :
    Hid (w1.heap[w.heap.size]? = some o) ∧ Hid (w1.heap[w.heap.size + 1]? = some o') ∧ w.heap.size + 1 < w1.heap.size ∧ Hid (Below w.heap.size w w1) :=
  ⟨Lib.hid (ap (bc hf o') hb), Lib.hid (ap hf' hb), aJ (ap hf' hb), Lib.hid ((((Below.refl w.heap.size w).alloc (Nat.le_refl _) _).alloc (by simp) _).trans (hb.mono (by simp; omega)))⟩
theorem new1 (w : World) (cs : Array Value) (t : TypeId) : (w.alloc (.cells cs t)).heap[w.heap.size]? = some (.cells cs t) := heap_alloc_new w _
theorem new2 (w : World) (o : Obj) (cs : Array Value) (t : TypeId) : ((w.alloc o).alloc (.cells cs t)).heap[w.heap.size + 1]? = some (.cells cs t) := by
  have := heap_alloc_new (w.alloc o) (.cells cs t)
  rwa [World.size_alloc] at this
section
variable {ρ : Operand → Value} {o : Oper} {x y : Operand} {w : World} {t : TypeId} {old cs : Array Value}
theorem exec_fillT (hz : (Tryz.prog.info? t).map (·.size) = some cs.size) (he : old.size = cs.size) (h1 : cs.toList.all Value.oneCell' = true) (ho : o.op = .store t x y) (hx : ρ x = .pointer (some ⟨w.heap.size, 0, none⟩)) (hy : ρ y = .agg cs) :
    (execOp ρ o).run Tryz.prog (w.alloc (.cells old t)) = .ok .skip (w.alloc (.cells cs t)) := by
  have h := run_storeAt_new (P := Tryz.prog) w t old cs hz he (by simpa using h1)
  unfold execOp
  simp only [ho, hx, hy, Sem.run_bind, h, Result.andThen_ok, Sem.run_pure]
end
def arr (l : List UInt8) : Value := .agg (vals l).toArray
section
variable {ρ : Operand → Value} {o : Oper} {x y : Operand} {w : World} {b off : Nat} {t : TypeId} {cs ds : List Value} {d : TypeDesc}
theorem bO (hu : Tryz.prog.underlying t = some d) (hd : d.isRow = true) (hz : (Tryz.prog.info? t).map (·.size) = some cs.length) (ho : o.op = .load t x) (hx : ρ x = .pointer (some ⟨b, off, none⟩)) (hc : w.rangeAt b off cs) :
    (execOp ρ o).run Tryz.prog w = .ok (.value (.agg cs.toArray)) w := aq ho hx (run_loadAt_mid w b off t cs d hc hu hd hz)
theorem cf (ho : o.op = .box t x) (hx : ρ x = .agg cs.toArray) : (execOp ρ o).run Tryz.prog w = .ok (.value (.pointer (some ⟨w.heap.size, 0, none⟩))) (w.alloc (.cells cs.toArray t)) := by
  unfold execOp
  simp [ho, hx, Instr.box, newVar, newRow, Value.cells]
theorem run_zeroT {v : Value} (h : (Tryz.prog.info? t).map (fun i => i.zero) = some (some v)) (w : World) : (zeroValue t).run Tryz.prog w = .ok v w := by
  cases hq : Tryz.prog.info? t with
  | none => rw [hq] at h; cases h
  | some i =>
    rw [hq] at h
    simp only [Option.map_some, Option.some.injEq] at h
    simp [zeroValue, typeInfo, hq, h]
theorem cT (h : (Tryz.prog.info? t).map (fun i => i.zero) = some (some (.agg cs.toArray))) (ho : o.op = .alloc t) : (execOp ρ o).run Tryz.prog w = .ok (.value (.pointer (some ⟨w.heap.size, 0, none⟩))) (w.alloc (.cells cs.toArray t)) := by
  have hz := run_zeroT h w
  unfold execOp
  simp [ho, Instr.alloc, hz, newVar, newRow, Value.cells]
theorem exec_putT (hz : (Tryz.prog.info? t).map (·.size) = some cs.length) (h1 : ∀ v ∈ cs, v.oneCell' = true) (ho : o.op = .store t x y) (hx : ρ x = .pointer (some ⟨b, off, none⟩)) (hy : ρ y = .agg cs.toArray) (ht : w.there b off cs.length) :
    (execOp ρ o).run Tryz.prog w = .ok .skip (w.setCells b off cs) := by
  have h := run_storeAt_mid (P := Tryz.prog) w b off t cs.toArray (by simpa using ht) (by simpa using hz) (all_oneCell_toArray h1)
  refine exec_st ho hx hy ?_
  simpa using h
theorem exec_filT (hz : (Tryz.prog.info? t).map (·.size) = some cs.length) (he : ds.length = cs.length) (h1 : ∀ v ∈ cs, v.oneCell' = true) (ho : o.op = .store t x y) (hx : ρ x = .pointer (some ⟨w.heap.size, 0, none⟩)) (hy : ρ y = .agg cs.toArray) :
    (execOp ρ o).run Tryz.prog (w.alloc (.cells ds.toArray t)) = .ok .skip (w.alloc (.cells cs.toArray t)) :=
  exec_fillT (by simpa using hz) (by simpa using he) (by simpa using h1) ho hx hy
theorem exec_bld0 {v : Value} (ho : o.op = .build t #[]) (h : (Instr.build t #[]).run Tryz.prog w = .ok v w) : (execOp ρ o).run Tryz.prog w = .ok (.value v) w := by
  unfold execOp
  simp only [ho, List.map_toArray, List.map_nil, Sem.run_bind, h, Result.andThen_ok, Sem.run_pure]
theorem exec_eqT {r : TypeId} {xs ys : Array Value} {c : Bool} (hg : Tryz.prog.eqGuardType Tryz.prog.depth t = false) (he : (Op.equalIn 10000 t (.agg xs) (.agg ys)).run Tryz.prog w = .ok c w) (ho : o.op = .binOp .eql t x y r) (hx : ρ x = .agg xs) (hy : ρ y = .agg ys) :
    (execOp ρ o).run Tryz.prog w = .ok (.value (.bool c)) w := by
  have h := run_eql_struct (P := Tryz.prog) w t xs ys
  rw [he] at h
  unfold execOp
  simp only [ho, hx, hy, Sem.run_bind, run_eqGuard_agg w .eql t x y xs ys hg, Result.andThen_ok]
  rw [h]
  simp
theorem exec_neT {r : TypeId} {xs ys : Array Value} {c : Bool} (hg : Tryz.prog.eqGuardType Tryz.prog.depth t = false) (he : (Op.equalIn 10000 t (.agg xs) (.agg ys)).run Tryz.prog w = .ok c w) (ho : o.op = .binOp .neq t x y r) (hx : ρ x = .agg xs) (hy : ρ y = .agg ys) :
    (execOp ρ o).run Tryz.prog w = .ok (.value (.bool (!c))) w := by
  have h := run_neq_struct (P := Tryz.prog) w t xs ys
  rw [he] at h
  unfold execOp
  simp only [ho, hx, hy, Sem.run_bind, run_eqGuard_agg w .neq t x y xs ys hg, Result.andThen_ok]
  rw [h]
  simp
end
section
variable {ρ : Operand → Value} {o : Oper} {x y : Operand} {w : World} {t r : TypeId} {k : IntKind} {a b : Int}
theorem cI (c : Bool) (ho : o.op = .binOp .gtr t x y r) (hx : ρ x = .int k a) (hy : ρ y = .int k b) (h : decide (b < a) = c) : (execOp ρ o).run Tryz.prog w = .ok (.value (.bool c)) w := by
  unfold execOp
  simp [ho, hx, hy, eqGuard, binOp, Op.intCmp, h]
theorem bn (c : Bool) (ho : o.op = .binOp .geq t x y r) (hx : ρ x = .int k a) (hy : ρ y = .int k b) (h : decide (b ≤ a) = c) : (execOp ρ o).run Tryz.prog w = .ok (.value (.bool c)) w := by
  unfold execOp
  simp [ho, hx, hy, eqGuard, binOp, Op.intCmp, h]
theorem dF (c : Bool) (ho : o.op = .binOp .leq t x y r) (hx : ρ x = .int k a) (hy : ρ y = .int k b) (h : decide (a ≤ b) = c) : (execOp ρ o).run Tryz.prog w = .ok (.value (.bool c)) w := by
  unfold execOp
  simp [ho, hx, hy, eqGuard, binOp, Op.intCmp, h]
theorem bk (c : Bool) (ho : o.op = .binOp .lss t x y r) (hx : ρ x = .int k a) (hy : ρ y = .int k b) (h : decide (a < b) = c) : (execOp ρ o).run Tryz.prog w = .ok (.value (.bool c)) w := by
  unfold execOp
  simp [ho, hx, hy, eqGuard, binOp, Op.intCmp, h]
theorem ldU8 {ad : Addr} {n : Int} (h : w.cell? ad = some (.int .u8 n)) : (Instr.loadAt 5 (.pointer (some ad))).run Tryz.prog w = .ok (.int .u8 n) w := by simp [go_sem, h]
end
theorem aV {w : World} {ad : Addr} {k : Int} (h : w.cell? ad = some (.int .i64 k)) : (Instr.loadAt 3 (.pointer (some ad))).run Tryz.prog w = .ok (.int .i64 k) w := by simp [go_sem, h]
theorem ldU64 {w : World} {ad : Addr} {k : Int} (h : w.cell? ad = some (.int .u64 k)) : (Instr.loadAt 23 (.pointer (some ad))).run Tryz.prog w = .ok (.int .u64 k) w := by simp [go_sem, h]
theorem run_eqArr {t : TypeId} {n : Nat} (hu : Tryz.prog.underlying t = some (.array n 5)) (w : World) (a b : List UInt8) (ha : a.length = n) (hb : b.length = n) (d : Nat) : (Op.equalIn (d + 2) t (arr a) (arr b)).run Tryz.prog w = .ok (decide (a = b)) w := by
  have he : ∀ x y : Int, (Op.equalIn (d + 1) 5 (.int .u8 x) (.int .u8 y)).run Tryz.prog w = .ok (x == y) w := fun x y => run_equalIn_int w d 5 .u8 .u8 x y Tryz.underlying5
  have hp : ∀ (c : List UInt8) (i : Nat), i < c.length → (part 5 (vals c).toArray (i * 1)).run Tryz.prog w = .ok (.int .u8 (bt c i)) w := fun c i hi => by
    have := vals_at hi
    simp [part, this]
  show (Op.equalIn ((d + 1) + 1) t (arr a) (arr b)).run Tryz.prog w = .ok (decide (a = b)) w
  generalize d + 1 = e at *
  have key : ∀ (l : List Nat), (∀ i ∈ l, i < n) →
      ((forIn l ((none : Option Bool), ()) fun i r => do
        let x ← part 5 (vals a).toArray (i * 1)
        let y ← part 5 (vals b).toArray (i * 1)
        let z ← Op.equalIn e 5 x y
        if (!z) = true then pure (ForInStep.done (some false, ())) else pure (ForInStep.yield (none, ())) : Sem _)).run Tryz.prog w =
      .ok (if l.all (fun i => bt a i == bt b i) then (none, ()) else (some false, ())) w := by
    intro l
    induction l with
    | nil => intro _; simp
    | cons i l ih =>
      intro hl
      have hi := hl i (by simp)
      simp only [List.forIn_cons, Sem.run_bind, hp a i (by omega), hp b i (by omega), Result.andThen_ok, he]
      by_cases h : bt a i = bt b i
      · have hb : (bt a i == bt b i) = true := by simpa using h
        simp only [hb, Bool.not_true, Bool.false_eq_true, if_false, Sem.run_pure, Result.andThen_ok, List.all_cons, Bool.true_and]
        exact ih fun j hj => hl j (by simp [hj])
      · have hb : (bt a i == bt b i) = false := by simpa using h
        simp [hb]
  have hall : ((List.range' 0 n).all fun i => bt a i == bt b i) = decide (a = b) := by
    rw [Bool.eq_iff_iff, List.all_eq_true, decide_eq_true_iff]
    constructor
    · intro h
      exact dP (by omega) fun j hj => by simpa using h j (by simp [List.mem_range']; omega)
    · rintro rfl i _
      simp
  have hk := key (List.range' 0 n) (fun i hi => by simp [List.mem_range'] at hi; omega)
  rw [hall] at hk
  simp only [Op.equalIn, arr, Sem.run_bind, run_underlying hu, Result.andThen_ok, Tryz.sizeOf5, Std.Legacy.Range.forIn_eq_forIn_range']
  simp only [Std.Legacy.Range.size, Nat.sub_zero, Nat.add_sub_cancel, Nat.div_one]
  rw [hk]
  by_cases h : a = b
  · simp [h]
  · simp [h]
theorem aU {w : World} {b : Nat} {t : TypeId} {cs : List Value} (h : w.heap[b]? = some (.cells cs.toArray t (0, 0))) : w.rangeAt b 0 cs := fun j v hj => by
  rw [cell_of_row w b (0 + j) _ t (0, 0) h, Nat.zero_add]
  simpa using hj
theorem dp {w : World} {b o k : Nat} {cs ds es fs : List Value} (h : w.rangeAt b o cs) (e : cs = ds ++ (es ++ fs)) (hk : ds.length = k) : w.rangeAt b (o + k) es := fun j v hj => by
  subst e hk
  have := h (ds.length + j) v (by
    rw [List.getElem?_append_right (by omega), Nat.add_sub_cancel_left, List.getElem?_append_left (List.getElem?_eq_some_iff.1 hj).1]
    exact hj)
  rwa [← Nat.add_assoc] at this
theorem cH {w : World} {b : Nat} {t : TypeId} {cs : List Value} (h : w.heap[b]? = some (.cells cs.toArray t (0, 0))) {o n : Nat} (hn : o + n ≤ cs.length) : w.there b o n := fun j hj => by
  rw [cell_of_row w b (o + j) _ t (0, 0) h, frozen_of_row w b (o + j) _ t h]
  exact ⟨by simp; omega, rfl⟩
theorem res_tri {fn : Func} {p q u : Tmp} {t : TypeId} {cs : List Value} {d : TypeDesc} (h : fn.results = #[.tmp p, .cell q t, .tmp u]) (tmps : Array Value) (w : World) (b : Nat) (hq : tmps.getD q undef = .pointer (some ⟨b, 0, none⟩)) (hr : w.rangeAt b 0 cs) (hu : Tryz.prog.underlying t = some d) (hd : d.isRow = true) (hz : (Tryz.prog.info? t).map (·.size) = some cs.length) :
    (results fn tmps).run Tryz.prog w = .ok (.tuple #[tmps.getD p undef, .agg cs.toArray, tmps.getD u undef]) w := by
  have hl : (loadVar t ⟨b, 0, none⟩).run Tryz.prog w = .ok (.agg cs.toArray) w := run_loadVar_mid (P := Tryz.prog) w b 0 t cs d hr hu hd hz
  have hq' : tmps[q]?.getD undef = .pointer (some ⟨b, 0, none⟩) := by simpa using hq
  simp [results, h, hq', asAddr, hl]
theorem res_rng {fn : Func} {p : Tmp} {t : TypeId} {cs : List Value} {d : TypeDesc} (h0 : fn.results = #[.cell p t]) (tmps : Array Value) (w : World) (b : Nat) (hp : tmps.getD p undef = .pointer (some ⟨b, 0, none⟩)) (hr : w.rangeAt b 0 cs) (hu : Tryz.prog.underlying t = some d) (hd : d.isRow = true) (hz : (Tryz.prog.info? t).map (·.size) = some cs.length) :
    (results fn tmps).run Tryz.prog w = .ok (.agg cs.toArray) w := by
  have hl : (loadVar t ⟨b, 0, none⟩).run Tryz.prog w = .ok (.agg cs.toArray) w := run_loadVar_mid (P := Tryz.prog) w b 0 t cs d hr hu hd hz
  have hp' : tmps[p]?.getD undef = .pointer (some ⟨b, 0, none⟩) := by simpa using hp
  simp [results, h0, hp', asAddr, hl]
theorem size_setCells (w : World) (b o : Nat) (vs : List Value) : (w.setCells b o vs).heap.size = w.heap.size := (dz b vs o w).1
theorem cell1 {w : World} {b : Nat} {t : TypeId} {x : Value} (h : w.heap[b]? = some (.cells #[x] t (0, 0))) : w.cell? ⟨b, 0, none⟩ = some x ∧ w.frozen? ⟨b, 0, none⟩ = false :=
  ⟨by rw [cell_of_row w b 0 _ t (0, 0) h]; rfl, frozen_of_row w b 0 _ t h⟩
theorem set1 {w : World} {b : Nat} {t : TypeId} {x : Value} (h : w.heap[b]? = some (.cells #[x] t (0, 0))) (y : Value) : (w.setCell ⟨b, 0, none⟩ y).heap[b]? = some (.cells #[y] t (0, 0)) := by
  have := heap_setCell_same w b 0 #[x] t y h
  simpa using this
theorem grown_set (w : World) (b o : Nat) (y : Value) : w.grownBy (w.setCell ⟨b, o, none⟩ y) (some b) :=
  ⟨rfl, rfl, rfl, by simp [World.setCell], fun k hk hne => heap_setCell_other w ⟨b, o, none⟩ k y (fun e => hne (by rw [e]))⟩
theorem br {w w' : World} {b k : Nat} {o : Obj} (h : w.heap[b]? = some o) (hg : w.grownBy w' (some k)) (hne : b ≠ k) : w'.heap[b]? = some o := (hg.block b (aJ h) (fun e => hne (by injection e))).trans h
def celG (x : Ros) : List Value := [.int .i64 x.m, .int .i64 x.s, .int .i64 x.r]
def aG (x : Ros) : List Value := .int .i64 x.m :: .int .i64 x.s :: .int .i64 x.r :: (vals x.st.toList ++ [.int .i64 x.cur, .bool x.gone])
def ros (x : Ros) : Value := .agg (aG x).toArray
def geo (x : Ros) : Value := .agg (celG x).toArray
theorem aW (x : Ros) : (aG x).length = 21 := by simp [aG, aR]
theorem celR_one (x : Ros) : ∀ v ∈ aG x, v.oneCell' = true := by
  intro v hv
  simp only [aG, List.mem_cons, List.mem_append, List.not_mem_nil, or_false] at hv
  rcases hv with rfl | rfl | rfl | hv | rfl | rfl
  · rfl
  · rfl
  · rfl
  · exact vals_one _ v hv
  · rfl
  · rfl
theorem sizeR : (Tryz.prog.info? 28).map (·.size) = some 21 := by kernel_rfl
theorem sizeG : (Tryz.prog.info? 25).map (·.size) = some 3 := by kernel_rfl
theorem size16 : (Tryz.prog.info? 26).map (·.size) = some 16 := by kernel_rfl
theorem zeroR_info : (Tryz.prog.info? 28).map (fun i => i.zero) = some (some (ros bi)) := by kernel_rfl
theorem zero16_info : (Tryz.prog.info? 26).map (fun i => i.zero) = some (some (arr (List.replicate 16 0))) := by kernel_rfl
section
variable {ρ : Operand → Value} {o : Oper} {x y : Operand} {w : World} {b off : Nat}
theorem aK {c : Ros} (ho : o.op = .load 28 x) (hx : ρ x = .pointer (some ⟨b, off, none⟩)) (hc : w.rangeAt b off (aG c)) : (execOp ρ o).run Tryz.prog w = .ok (.value (ros c)) w :=
  bO Tryz.underlying28 rfl (by rw [aW]; exact sizeR) ho hx hc
theorem cD {c : Ros} (ho : o.op = .load 25 x) (hx : ρ x = .pointer (some ⟨b, off, none⟩)) (hc : w.rangeAt b off (celG c)) : (execOp ρ o).run Tryz.prog w = .ok (.value (geo c)) w :=
  bO Tryz.underlying25 rfl sizeG ho hx hc
theorem cC {l : List UInt8} (hl : l.length = 16) (ho : o.op = .load 26 x) (hx : ρ x = .pointer (some ⟨b, off, none⟩)) (hc : w.rangeAt b off (vals l)) : (execOp ρ o).run Tryz.prog w = .ok (.value (arr l)) w :=
  bO Tryz.underlying26 rfl (by rw [aR, hl]; exact size16) ho hx hc
theorem aE {c : Ros} (ho : o.op = .box 28 x) (hx : ρ x = ros c) : (execOp ρ o).run Tryz.prog w = .ok (.value (.pointer (some ⟨w.heap.size, 0, none⟩))) (w.alloc (.cells (aG c).toArray 28)) := cf ho hx
theorem bP (ho : o.op = .alloc 28) : (execOp ρ o).run Tryz.prog w = .ok (.value (.pointer (some ⟨w.heap.size, 0, none⟩))) (w.alloc (.cells (aG bi).toArray 28)) := cT zeroR_info ho
theorem exec_alloc16 (ho : o.op = .alloc 26) : (execOp ρ o).run Tryz.prog w = .ok (.value (.pointer (some ⟨w.heap.size, 0, none⟩))) (w.alloc (.cells (vals (List.replicate 16 0)).toArray 26)) := cT zero16_info ho
theorem exec_fillR {c d : Ros} (ho : o.op = .store 28 x y) (hx : ρ x = .pointer (some ⟨w.heap.size, 0, none⟩)) (hy : ρ y = ros c) : (execOp ρ o).run Tryz.prog (w.alloc (.cells (aG d).toArray 28)) = .ok .skip (w.alloc (.cells (aG c).toArray 28)) :=
  exec_filT (by rw [aW]; exact sizeR) (by rw [aW, aW]) (celR_one c) ho hx hy
end
theorem celR_eq (x : Ros) : aG x = celG x ++ (vals x.st.toList ++ [.int .i64 x.cur, .bool x.gone]) := rfl
section
variable {ρ : Operand → Value} {o : Oper} {x y : Operand} {w : World} {t : TypeId}
theorem guard16 : Tryz.prog.eqGuardType Tryz.prog.depth 26 = false := by kernel_rfl
theorem exec_eq16 {a b : List UInt8} (c : Bool) (ha : a.length = 16) (hb : b.length = 16) (ho : o.op = .binOp .eql 26 x y t) (hx : ρ x = arr a) (hy : ρ y = arr b) (h : decide (a = b) = c) : (execOp ρ o).run Tryz.prog w = .ok (.value (.bool c)) w := by
  subst h; exact exec_eqT guard16 (run_eqArr Tryz.underlying26 w a b ha hb 9998) ho hx hy
theorem cJ {l : List UInt8} {j : Nat} (hl : l.length = 16) (hj : j < 16) (ho : o.op = .index 26 x y) (hx : ρ x = arr l) (hy : ρ y = .int .i64 (j : Int)) : (execOp ρ o).run Tryz.prog w = .ok (.value (.int .u8 (bt l j))) w := by
  have hp : (part 5 (vals l).toArray (j * 1)).run Tryz.prog w = .ok (.int .u8 (bt l j)) w := by
    have := vals_at (l := l) (j := j) (by omega)
    simp [part, this]
  have h : (Instr.index 26 (arr l) (.int .i64 (j : Int))).run Tryz.prog w = .ok (.int .u8 (bt l j)) w := by
    have e : (0 ≤ (j : Int) ∧ (j : Int) < 16) := by omega
    unfold arr
    simp [Instr.index, asIntOf, run_underlying Tryz.underlying26, Tryz.sizeOf5, hj]
    simpa using hp
  unfold execOp
  simp only [ho, hx, hy, Sem.run_bind, h, Result.andThen_ok, Sem.run_pure]
end
def bg (w : World) (b : Nat) (x : Ros) : Prop := w.heap[b]? = some (.cells (aG x).toArray 28 (0, 0))
section
variable {w w' : World} {b : Nat} {x : Ros}
theorem bg.range (h : bg w b x) : w.rangeAt b 0 (aG x) := aU h
theorem bg.geo (h : bg w b x) : w.rangeAt b 0 (celG x) := dp (cs := aG x) (ds := []) (k := 0) h.range rfl rfl
theorem bg.sts (h : bg w b x) : w.rangeAt b 3 (vals x.st.toList) := by
  have := dp (k := 3) h.range (celR_eq x) rfl
  rwa [Nat.zero_add] at this
theorem bg.cells (h : bg w b x) : w.cell? ⟨b, 0, none⟩ = some (.int .i64 x.m) ∧ w.cell? ⟨b, 1, none⟩ = some (.int .i64 x.s) ∧ w.cell? ⟨b, 2, none⟩ = some (.int .i64 x.r) ∧ w.cell? ⟨b, 19, none⟩ = some (.int .i64 x.cur) ∧ w.cell? ⟨b, 20, none⟩ = some (.bool x.gone) := by
  have hr := dp (k := 19) (ds := celG x ++ vals x.st.toList) (es := [.int .i64 x.cur, .bool x.gone]) (fs := []) h.range (by simp [celR_eq]) (by simp [celG, aR])
  exact ⟨h.range 0 _ rfl, h.range 1 _ rfl, h.range 2 _ rfl, hr 0 _ rfl, hr 1 _ rfl⟩
theorem bg.sta (h : bg w b x) {j : Nat} (hj : j < 16) : w.cell? ⟨b, 3 + j, none⟩ = some (.int .u8 (sta x j)) := h.sts j _ (vals_at (by simpa using hj))
theorem bg.below {B : Nat} (h : bg w b x) (hB : b < B) (hb : Below B w w') : bg w' b x := blk_keep2 h hB hb
theorem bg.new (w : World) (x : Ros) : bg (w.alloc (.cells (aG x).toArray 28)) w.heap.size x := heap_alloc_new w _
theorem bg.past (h : bg w b x) (o : Obj) : bg (w.alloc o) b x := bc h o
theorem bg.rd (h : bg w b x) {m : Nat} (hm : m ≤ 16) : Rd w w.heap.size (some ⟨b, 3, none⟩) m (x.st.toList.take m) :=
  ⟨by simp; omega, fun k hk => ⟨b, 3, rfl, aJ h, by
    rw [h.sta (j := k) (by omega)]
    unfold Proofs.YtnliphgjcaippaaGreatDoor.sta bt
    simp [List.getD, List.getElem?_take_of_lt hk]⟩⟩
end
theorem bQ (w : World) (x : Ros) : bg (w.alloc (.cells (aG x).toArray 28)) w.heap.size x ∧ Below w.heap.size w (w.alloc (.cells (aG x).toArray 28)) ∧ w.heap.size < (w.alloc (.cells (aG x).toArray 28)).heap.size :=
  ⟨bg.new w x, (Below.refl w.heap.size w).alloc (Nat.le_refl _) _, by simp only [World.size_alloc]; omega⟩
section
variable {w : World} {b off : Nat}
theorem cj : (Instr.fieldAt 28 (.pointer (some ⟨b, 0, none⟩)) 0).run Tryz.prog w = .ok (.pointer (some ⟨b, 0, none⟩)) w := by kernel_rfl
theorem faR1 : (Instr.fieldAt 28 (.pointer (some ⟨b, 0, none⟩)) 1).run Tryz.prog w = .ok (.pointer (some ⟨b, 3, none⟩)) w := by kernel_rfl
theorem faG0 : (Instr.fieldAt 25 (.pointer (some ⟨b, 0, none⟩)) 0).run Tryz.prog w = .ok (.pointer (some ⟨b, 0, none⟩)) w := by kernel_rfl
theorem ix16 {g off j : Nat} (hj : j < 16) : (Instr.indexAt 26 (.pointer (some ⟨g, off, none⟩)) (.int .i64 (j : Int))).run Tryz.prog w = .ok (.pointer (some ⟨g, off + j, none⟩)) w := by
  have e : (0 ≤ (j : Int) ∧ (j : Int) < 16) := by omega
  simp [Instr.indexAt, Instr.sureAddr, asIntOf, run_underlying Tryz.underlying26, Tryz.sizeOf5, Addr.add_mid, e, hj]
theorem faR2 {b : Nat} : (Instr.fieldAt 28 (.pointer (some ⟨b, 0, none⟩)) 2).run Tryz.prog w = .ok (.pointer (some ⟨b, 19, none⟩)) w := by kernel_rfl
theorem faG1 {b : Nat} : (Instr.fieldAt 25 (.pointer (some ⟨b, 0, none⟩)) 1).run Tryz.prog w = .ok (.pointer (some ⟨b, 1, none⟩)) w := by kernel_rfl
end
set_option linter.unusedSimpArgs false
theorem cellsI : Tryz.prog.cellsOf 3 = 1 := by kernel_rfl
theorem cellsBo : Tryz.prog.cellsOf 4 = 1 := by kernel_rfl
section
variable {H : Type} {enc : TypeId × Value → H} {W : World} {base : Nat} {v : Value} {d : DataW H} {p : List MemPlace}
theorem at_u8 {m : Nat} {x : Value} {y : DataW H × List MemPlace} (h : DataW.trod enc Tryz.prog W 0 (fun _ => true) true m 5 [x] = some y) : ∃ u : UInt8, x = .int .u8 (u.toNat : Int) := by
  obtain ⟨k, e, _, hw⟩ := DataW.trod_int Tryz.underlying5 h
  have hr : 0 ≤ k ∧ k ≤ 255 := bounds_u8 hw
  injection e with e
  refine ⟨UInt8.ofNat k.toNat, ?_⟩
  rw [e, UInt8.toNat_ofNat']
  congr 1
  omega
theorem at_int {m : Nat} {x : Value} {y : DataW H × List MemPlace} (h : DataW.trod enc Tryz.prog W 0 (fun _ => true) true m 3 [x] = some y) : ∃ k : Int, x = .int .i64 k := by
  obtain ⟨k, e, _, hw⟩ := DataW.trod_int Tryz.underlying3 h
  injection e with e
  exact ⟨k, e⟩
theorem at_bool {m : Nat} {x : Value} {y : DataW H × List MemPlace} (h : DataW.trod enc Tryz.prog W 0 (fun _ => true) true m 4 [x] = some y) : ∃ k : Bool, x = .bool k := by
  obtain ⟨k, e, _⟩ := DataW.trod_bool Tryz.underlying4 h
  injection e with e
  exact ⟨k, e⟩
end
theorem cellsRo : Tryz.prog.cellsOf 28 = 21 := by kernel_rfl
theorem cellsGe : Tryz.prog.cellsOf 25 = 3 := by kernel_rfl
theorem cells16 : Tryz.prog.cellsOf 26 = 16 := by kernel_rfl
section
variable {H : Type} {enc : TypeId × Value → H} {W : World} {base : Nat} {v : Value} {d : DataW H} {p : List MemPlace}
theorem at_16 {fuel : Nat} {cs : List Value} {x : DataW H × List MemPlace} (h : DataW.trod enc Tryz.prog W 0 (fun _ => true) true fuel 26 cs = some x) : ∃ v : Vector UInt8 16, cs = vals v.toList := by
  obtain ⟨xs, m, _, _, hlen, hn, hel⟩ := DataW.trod_array Tryz.underlying26 h
  rw [cells16] at hlen
  rw [u8cells] at hel
  have hu : ∀ i : Fin 16, ∃ u : UInt8, cs[i.val]? = some (.int .u8 (u.toNat : Int)) := fun i => by
    have h1 := hel i.val i.isLt
    have hi : i.val < cs.length := by have := i.isLt; omega
    have hd : (cs.drop (i.val * 1)).take 1 = [cs[i.val]] := by
      rw [Nat.mul_one, List.drop_eq_getElem_cons hi]
      rfl
    have hx : i.val < xs.length := by have := i.isLt; omega
    rw [hd, List.getElem?_eq_getElem hx] at h1
    obtain ⟨u, hu⟩ := at_u8 h1
    exact ⟨u, by rw [List.getElem?_eq_getElem hi, hu]⟩
  obtain ⟨f, hf⟩ := Classical.axiomOfChoice hu
  refine ⟨Vector.ofFn f, ?_⟩
  apply List.ext_getElem?
  intro i
  by_cases hi : i < 16
  · rw [hf ⟨i, hi⟩]
    simp [vals, hi]
  · rw [List.getElem?_eq_none (by omega), List.getElem?_eq_none (by rw [aR]; simp; omega)]
theorem at_geo {fuel : Nat} {cs : List Value} {x : DataW H × List MemPlace} (h : DataW.trod enc Tryz.prog W 0 (fun _ => true) true fuel 25 cs = some x) : ∃ m s r : Int, cs = [.int .i64 m, .int .i64 s, .int .i64 r] := by
  obtain ⟨xs, k, _, _, hlen, hn, hel⟩ := DataW.trod_struct Tryz.underlying25 h
  rw [cellsGe] at hlen
  have hn' : xs.length = 3 := hn
  match cs, hlen, xs, hn' with
  | [a, b, c], _, [y0, y1, y2], _ =>
    have e0 : DataW.trod enc Tryz.prog W 0 (fun _ => true) true k 3 ((List.drop 0 [a, b, c]).take (Tryz.prog.cellsOf 3)) = some y0 := hel 0 _ rfl
    rw [cellsI] at e0
    have e1 : DataW.trod enc Tryz.prog W 0 (fun _ => true) true k 3 ((List.drop 1 [a, b, c]).take (Tryz.prog.cellsOf 3)) = some y1 := hel 1 _ rfl
    rw [cellsI] at e1
    have e2 : DataW.trod enc Tryz.prog W 0 (fun _ => true) true k 3 ((List.drop 2 [a, b, c]).take (Tryz.prog.cellsOf 3)) = some y2 := hel 2 _ rfl
    rw [cellsI] at e2
    obtain ⟨m, rfl⟩ := at_int (show DataW.trod enc Tryz.prog W 0 (fun _ => true) true k 3 [a] = some y0 from e0)
    obtain ⟨s, rfl⟩ := at_int (show DataW.trod enc Tryz.prog W 0 (fun _ => true) true k 3 [b] = some y1 from e1)
    obtain ⟨r, rfl⟩ := at_int (show DataW.trod enc Tryz.prog W 0 (fun _ => true) true k 3 [c] = some y2 from e2)
    exact ⟨m, s, r, rfl⟩
theorem at_ros {fuel : Nat} {cs : List Value} {x : DataW H × List MemPlace} (h : DataW.trod enc Tryz.prog W 0 (fun _ => true) true fuel 28 cs = some x) : ∃ r : Ros, cs = aG r := by
  obtain ⟨xs, k, _, _, hlen, hn, hel⟩ := DataW.trod_struct Tryz.underlying28 h
  rw [cellsRo] at hlen
  have hn' : xs.length = 4 := hn
  match xs, hn' with
  | [y0, y1, y2, y3], _ =>
    have e0 : DataW.trod enc Tryz.prog W 0 (fun _ => true) true k 25 ((List.drop 0 cs).take (Tryz.prog.cellsOf 25)) = some y0 := hel 0 _ rfl
    rw [cellsGe] at e0
    have e1 : DataW.trod enc Tryz.prog W 0 (fun _ => true) true k 26 ((List.drop 3 cs).take (Tryz.prog.cellsOf 26)) = some y1 := hel 1 _ rfl
    rw [cells16] at e1
    have e2 : DataW.trod enc Tryz.prog W 0 (fun _ => true) true k 3 ((List.drop 19 cs).take (Tryz.prog.cellsOf 3)) = some y2 := hel 2 _ rfl
    rw [cellsI] at e2
    have e3 : DataW.trod enc Tryz.prog W 0 (fun _ => true) true k 4 ((List.drop 20 cs).take (Tryz.prog.cellsOf 4)) = some y3 := hel 3 _ rfl
    rw [cellsBo] at e3
    obtain ⟨m, s, r, hg⟩ := at_geo (show DataW.trod enc Tryz.prog W 0 (fun _ => true) true k 25 ((cs.drop 0).take 3) = some y0 from e0)
    obtain ⟨st, hst⟩ := at_16 (show DataW.trod enc Tryz.prog W 0 (fun _ => true) true k 26 ((cs.drop 3).take 16) = some y1 from e1)
    have d2 : (cs.drop 19).take 1 = [cs[19]'(by omega)] := by rw [List.drop_eq_getElem_cons (by omega)]; rfl
    have d3 : (cs.drop 20).take 1 = [cs[20]'(by omega)] := by rw [List.drop_eq_getElem_cons (by omega)]; rfl
    obtain ⟨cur, hcur⟩ := at_int (show DataW.trod enc Tryz.prog W 0 (fun _ => true) true k 3 [cs[19]'(by omega)] = some y2 from by rw [← d2]; exact e2)
    obtain ⟨gone, hgone⟩ := at_bool (show DataW.trod enc Tryz.prog W 0 (fun _ => true) true k 4 [cs[20]'(by omega)] = some y3 from by rw [← d3]; exact e3)
    refine ⟨⟨m, s, r, st, cur, gone⟩, ?_⟩
    have hsplit : cs = (cs.drop 0).take 3 ++ ((cs.drop 3).take 16 ++ [cs[19]'(by omega), cs[20]'(by omega)]) := by
      have h3 : cs.drop 19 = [cs[19]'(by omega), cs[20]'(by omega)] := by
        rw [List.drop_eq_getElem_cons (by omega), List.drop_eq_getElem_cons (by omega), List.drop_of_length_le (by omega)]
      rw [← h3, List.drop_zero]
      have h4 : (cs.drop 3).take 16 ++ cs.drop 19 = cs.drop 3 := by
        have := List.take_append_drop 16 (cs.drop 3)
        rwa [List.drop_drop] at this
      rw [h4, List.take_append_drop]
    rw [hsplit, hg, hst, hcur, hgone]
    rfl
theorem open_ros (hv : Value.okWide Tryz.prog W .any base 28 v) (h : DataW.Trod enc Tryz.prog W 0 (fun _ => true) true 28 v d p) : ∃ s : Ros, v = ros s := by
  obtain ⟨cs, rfl, _⟩ := okWide_struct Tryz.underlying28 hv
  obtain ⟨fuel, hf⟩ := h
  obtain ⟨s, hs⟩ := at_ros hf
  refine ⟨s, ?_⟩
  unfold ros
  rw [← hs]
  simp [Value.cells]
end
end Go.Proofs.YtnliphgjcaippaaGreatDoor
