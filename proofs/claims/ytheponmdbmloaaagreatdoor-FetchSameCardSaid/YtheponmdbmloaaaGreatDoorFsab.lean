import Derived.Test.YtheponmdbmloaaaGreatDoorFsaa
import Derived.Laws.AppendOwn
import Derived.Laws.OwnMore
import Derived.Test.YtheponmdbmloaaaGreatDoorFsZ
namespace Go.Proofs.YtheponmdbmloaaaGreatDoor
open Go.RowKit
set_option maxRecDepth 100000
set_option linter.unusedVariables false
structure Elt (α : Type) where
  s : TypeId
  t : TypeId
  n : Nat
  by_ : Nat
  cel : α → List Value
  d : α
  z : Value
  pos : 0 < n
  small : by_ ≤ 4096
  len : ∀ a, (cel a).length = n
  one : ∀ a, ∀ v ∈ cel a, v.oneCell' = true
  und : Tryz.prog.underlying s = some (.slice t)
  info : (Tryz.prog.info? t).map (fun i => (i.zero, i.size, i.bytes)) = some (some z, n, by_)
  zc : z.cells.size = n
section
variable {α : Type} (E : Elt α)
def bK (l : List α) : List Value := l.flatMap E.cel
theorem dd (x : α) (l : List α) : bK E (x :: l) = E.cel x ++ bK E l := rfl
theorem flatE_append (a b : List α) : bK E (a ++ b) = bK E a ++ bK E b := by simp [bK]
theorem bI (l : List α) : (bK E l).length = l.length * E.n := by
  induction l with
  | nil => simp [bK]
  | cons x l ih => rw [dd, List.length_append, E.len, ih, List.length_cons, Nat.add_mul]; omega
theorem flatE_at (l : List α) {k j : Nat} (hk : k < l.length) (hj : j < E.n) : (bK E l)[k * E.n + j]? = (E.cel (l.getD k E.d))[j]? := by
  induction l generalizing k with
  | nil => simp at hk
  | cons x l ih =>
    rw [dd]
    cases k with
    | zero => rw [Nat.zero_mul, Nat.zero_add, List.getElem?_append_left (by rw [E.len]; exact hj)]; rfl
    | succ k =>
      have e : (k + 1) * E.n + j - E.n = k * E.n + j := by rw [Nat.add_mul]; omega
      rw [List.getElem?_append_right (by rw [E.len, Nat.add_mul]; omega), E.len, e, ih (by simpa using hk)]
      rfl
theorem flatE_one (l : List α) : ∀ v ∈ bK E l, v.oneCell' = true := by
  intro v hv
  simp only [bK, List.mem_flatMap] at hv
  obtain ⟨b, _, hb⟩ := hv
  exact E.one b v hb
def RdE (w : World) (B : Nat) (A : Option Addr) (n : Nat) (l : List α) : Prop :=
  l.length = n ∧ ∀ k, k < n → ∃ b off, A = some ⟨b, off, none⟩ ∧ b < B ∧ w.rangeAt b (off + k * E.n) (E.cel (l.getD k E.d))
def aK (w : World) (base : Nat) (v : Value) (l : List α) : Prop := w.ownsRow base E.t E.n v l.length (bK E l)
end
section
variable {w w' : World} {b o B : Nat} {cs : List Value}
theorem rng_below (h : w.rangeAt b o cs) (hb : b < B) (hw : Below B w w') : w'.rangeAt b o cs := fun j v hj => by
  rw [hw.cell (p := ⟨b, o + j, none⟩) hb]; exact h j v hj
end
section
variable {α : Type} {E : Elt α} {w w' : World} {B B' n : Nat} {A : Option Addr} {l : List α} {v : Value}
theorem RdE.nil (w : World) (B : Nat) (A : Option Addr) : RdE E w B A 0 [] := ⟨rfl, fun k hk => absurd hk (by omega)⟩
theorem RdE.below (h : RdE E w B A n l) (hb : Below B w w') : RdE E w' B A n l :=
  ⟨h.1, fun k hn => by
    obtain ⟨b, off, e, hlt, hc⟩ := h.2 k hn
    exact ⟨b, off, e, hlt, rng_below hc hlt hb⟩⟩
theorem rdE_of {g o : Nat} (hg : g < B) (h : ∀ j v, (bK E l)[j]? = some v → w.cell? ⟨g, o + j, none⟩ = some v) : RdE E w B (some ⟨g, o, none⟩) l.length l :=
  ⟨rfl, fun k hk => ⟨g, o, rfl, hg, fun j v hj => by
    have hlt : j < E.n := by have := (List.getElem?_eq_some_iff.1 hj).1; rwa [E.len] at this
    rw [show o + k * E.n + j = o + (k * E.n + j) from by omega]
    exact h _ v (by rw [flatE_at E l hk hlt]; exact hj)⟩⟩
theorem rdE_block {g : Nat} {cs : Array Value} {t : TypeId} (hg : w.heap[g]? = some (.cells cs t (0, 0))) (h : cs.toList = bK E l) (hB : g < B) : RdE E w B (some ⟨g, 0, none⟩) l.length l :=
  rdE_of hB fun j v hj => by
    rw [cell_of_row _ _ (0 + j) cs t (0, 0) hg, Nat.zero_add, ← Array.getElem?_toList, h]
    exact hj
theorem rdE_new (w : World) (cs : Array Value) (t : TypeId) (h : cs.toList = bK E l) : RdE E (w.alloc (.cells cs t)) (w.heap.size + 1) (some ⟨w.heap.size, 0, none⟩) l.length l :=
  rdE_block (heap_alloc_new w _) h (by omega)
theorem cells_of_rdE {N : Nat} {ad : Addr} (h : RdE E w N (some ad) n l) : ∀ (j : Nat) (u : Value), (bK E l)[j]? = some u → w.cell? (ad.add j) = some u := by
  intro j u hu
  have hj : j < l.length * E.n := by have := (List.getElem?_eq_some_iff.1 hu).1; rwa [bI] at this
  have hk : j / E.n < l.length := Nat.div_lt_of_lt_mul (by rw [Nat.mul_comm]; exact hj)
  have hr : j % E.n < E.n := Nat.mod_lt _ E.pos
  have hd : j / E.n * E.n + j % E.n = j := Nat.div_add_mod' j E.n
  obtain ⟨b, off, e, _, hc⟩ := h.2 (j / E.n) (by have := h.1; omega)
  injection e with e
  subst e
  have hadd : (⟨b, off, none⟩ : Addr).add j = ⟨b, off + j, none⟩ := by unfold Addr.add; split <;> simp_all
  rw [hadd]
  have h2 := flatE_at E l hk (j := j % E.n) hr
  rw [hd, hu] at h2
  have h3 := hc (j % E.n) u h2.symm
  rwa [Nat.add_assoc, hd] at h3
theorem aK.nil (w : World) (B : Nat) : aK E w B (.slice none 0 0) [] := ⟨by simp [bK], .inl ⟨rfl, rfl⟩⟩
theorem aK.form (h : aK E w B v l) : ∃ A c, v = .slice A l.length c ∧ l.length ≤ c ∧ c ≤ maxLen := by
  rcases h.2 with ⟨rfl, h0⟩ | ⟨g, cap, cur, rfl, _, _, h1, h2, _⟩
  · exact ⟨none, 0, by rw [h0], by omega, by simp [maxLen]⟩
  · exact ⟨_, cap, rfl, h1, h2⟩
theorem aK.rd {c : Nat} (h : aK E w B (.slice A n c) l) : RdE E w w.heap.size A n l := by
  rcases h.2 with ⟨hv, h0⟩ | ⟨g, cap, cur, hv, _, hg, _, _, _, ht⟩
  · have hl : l = [] := List.eq_nil_of_length_eq_zero h0
    subst hl
    injection hv with h1 h2 h3
    subst h2
    exact RdE.nil _ _ _
  · injection hv with h1 h2 h3
    subst h1 h2 h3
    refine rdE_of (Array.getElem?_eq_some_iff.1 hg).1 fun j u hu => ?_
    rw [cell_of_row w g (0 + j) cur E.t (0, 0) hg, Nat.zero_add]
    have hj : j < l.length * E.n := by have := (List.getElem?_eq_some_iff.1 hu).1; rwa [bI] at this
    rw [← ht, List.getElem?_take_of_lt hj] at hu
    simpa using hu
theorem aK.below (h : aK E w B v l) (hb : Below w.heap.size w w') : aK E w' B v l := by
  refine ⟨h.1, ?_⟩
  rcases h.2 with hn | ⟨g, cap, cur, rfl, hbg, hg, rest⟩
  · exact .inl hn
  · exact .inr ⟨g, cap, cur, rfl, hbg, by rw [hb.block g (Array.getElem?_eq_some_iff.1 hg).1]; exact hg, rest⟩
theorem aK.base (h : aK E w B v l) (hb : B' ≤ B) : aK E w B' v l := by
  refine ⟨h.1, ?_⟩
  rcases h.2 with hn | ⟨g, cap, cur, rfl, hbg, rest⟩
  · exact .inl hn
  · exact .inr ⟨g, cap, cur, rfl, Nat.le_trans hb hbg, rest⟩
theorem aK.open_ (h : aK E w B v l) (hn : l.length = n) : ∃ A c, v = .slice A n c ∧ RdE E w w.heap.size A n l ∧ n ≤ c ∧ c ≤ maxLen := by
  subst hn
  obtain ⟨A, c, rfl, h1, h2⟩ := h.form
  exact ⟨A, c, rfl, h.rd, h1, h2⟩
theorem aK.lt_own (h : aK E w B v l) : ∀ k, v.ownBlock = some k → B ≤ k := by
  intro k hk
  rcases h.2 with ⟨rfl, _⟩ | ⟨g, cap, cur, rfl, hbg, _⟩
  · simp [Value.ownBlock] at hk
  · simp [Value.ownBlock] at hk; omega
theorem aK.of_block {g : Nat} {cs : Array Value} (hg : w.heap[g]? = some (.cells cs E.t (0, 0))) (h : cs.toList = bK E l) (hB : B ≤ g) (hl : l.length = n) (hm : n ≤ maxLen) : aK E w B (.slice (some ⟨g, 0, none⟩) n n) l := by
  subst hl
  have hsz : cs.size = l.length * E.n := by rw [← Array.length_toList, h, bI]
  refine ⟨bI E l, .inr ⟨g, l.length, cs, rfl, hB, hg, Nat.le_refl _, hm, hsz, ?_⟩⟩
  rw [h, List.take_of_length_le (by rw [bI]; exact Nat.le_refl _)]
end
theorem aK.other {α β : Type} {E : Elt α} {E' : Elt β} {w : World} {B B' : Nat} {v v' : Value} {l : List α} {l' : List β} (h : aK E w B v l) (h' : aK E' w B' v' l') (hne : E.t ≠ E'.t) : v.ownBlock = none ∨ v.ownBlock ≠ v'.ownBlock := by
  rcases h.2 with ⟨rfl, _⟩ | ⟨g, cap, cur, rfl, _, hg, _⟩
  · exact .inl rfl
  · rcases h'.2 with ⟨rfl, _⟩ | ⟨g', cap', cur', rfl, _, hg', _⟩
    · exact .inr (by simp [Value.ownBlock])
    · refine .inr fun e => ?_
      simp [Value.ownBlock] at e
      subst e
      rw [hg] at hg'
      simp at hg'
      exact hne hg'.2
theorem aK.kept {α : Type} {E : Elt α} {w w' : World} {B : Nat} {v : Value} {l : List α} {row : Option Nat} (h : aK E w B v l) (hg : w.grownBy w' row) (hne : v.ownBlock = none ∨ v.ownBlock ≠ row) : aK E w' B v l := World.ownsRow.kept h hg hne
theorem run_appEw {α : Type} (E : Elt α) (w : World) (ty B N m c : Nat) (v : Value) (l l' : List α) (A : Option Addr) (hm : aK E w B v l) (hr : RdE E w N A m l') (hB : B ≤ w.heap.size) (hml : l.length + m ≤ maxLen) (hby : (l.length + m) * E.by_ ≤ 140737488355328) :
    ∃ v' w', (Builtin.append_ #[E.s, E.s] ty #[v, .slice A m c]).run Tryz.prog w = .ok v' w' ∧ aK E w' B v' (l ++ l') ∧ w.grownBy w' v.ownBlock := by
  obtain ⟨i0, hi, hz0, hz1, hz2⟩ := info_parts E.info
  rcases A with _ | ad
  · have h0 : m = 0 := by
      rcases Nat.eq_zero_or_pos m with h | h
      · exact h
      · obtain ⟨b, off, e, _⟩ := hr.2 0 h
        cases e
    subst h0
    have hn : l' = [] := List.eq_nil_of_length_eq_zero hr.1
    subst hn
    refine ⟨v, w, ?_, by rw [List.append_nil]; exact hm, World.grownBy.refl w _⟩
    rcases hm.2 with ⟨rfl, _⟩ | ⟨g, cap, cur, rfl, _, _, hnc, _⟩
    · simp [Builtin.append_, run_underlying E.und, sizeOf, typeInfo, hi, Builtin.lenOf, Builtin.firstCells]
    · simp [Builtin.append_, run_underlying E.und, sizeOf, typeInfo, hi, Builtin.lenOf, Builtin.firstCells, hnc, storeCells]
  · obtain ⟨v', w', h1, h2, h3, _⟩ := run_append_own (P := Tryz.prog) w B E.s ty E.t i0 E.z E.n E.by_ E.und hi hz0 hz1 hz2 E.zc E.pos v l.length _ hm ad m c (bK E l')
      (by rw [bI, hr.1]) (cells_of_rdE hr) (flatE_one E l') hml hby hB
    refine ⟨v', w', h1, ?_, h3⟩
    unfold aK
    rw [flatE_append, List.length_append, hr.1]
    exact h2
theorem run_appE {α : Type} (E : Elt α) (w : World) (ty B N m c : Nat) (v : Value) (l l' : List α) (A : Option Addr) (hm : aK E w B v l) (hr : RdE E w N A m l') (hB : B ≤ w.heap.size) (hsum : l.length + m ≤ 34359738368) :
    ∃ v' w', (Builtin.append_ #[E.s, E.s] ty #[v, .slice A m c]).run Tryz.prog w = .ok v' w' ∧ aK E w' B v' (l ++ l') ∧ w.grownBy w' v.ownBlock :=
  run_appEw E w ty B N m c v l l' A hm hr hB (by unfold maxLen; omega) (Nat.le_trans (Nat.mul_le_mul hsum E.small) (by omega))
theorem put_at (pre post : List Value) : ∀ (vs mid done : List Value), mid.length = vs.length →
    (vs.zipIdx done.length).foldl (fun cs (p : Value × Nat) => cs.setIfInBounds (pre.length + p.2) p.1) (pre ++ done ++ mid ++ post).toArray = (pre ++ done ++ vs ++ post).toArray
  | [], mid, done, h => by
    have : mid = [] := List.eq_nil_of_length_eq_zero h
    subst this
    simp
  | v :: vs, mid, done, h => by
    match mid, h with
    | m :: ms, h =>
      rw [List.zipIdx_cons, List.foldl_cons]
      have hset : (pre ++ done ++ m :: ms ++ post).toArray.setIfInBounds (pre.length + done.length) v = (pre ++ (done ++ [v]) ++ ms ++ post).toArray := by
        rw [List.setIfInBounds_toArray]
        congr 1
        rw [List.append_assoc (pre ++ done), List.set_append_right _ _ (by simp), List.length_append, Nat.sub_self]
        simp
      have := put_at pre post vs ms (done ++ [v]) (by simpa using h)
      rw [List.length_append, List.length_singleton] at this
      show (vs.zipIdx (done.length + 1)).foldl (fun cs (p : Value × Nat) => cs.setIfInBounds (pre.length + p.2) p.1) ((pre ++ done ++ m :: ms ++ post).toArray.setIfInBounds (pre.length + done.length) v) = _
      rw [hset, this]
      simp
theorem cr {place : Nat → Option (Nat × Nat)} {i off size : Nat} {v : Value} {pre mid post vs : List Value} {rest : List (Nat × Value)} (hp : place i = some (off, size)) (hv : v.cells = vs.toArray) (hs : vs.length = size) (ho : pre.length = off) (hm : mid.length = size) :
    Instr.fill place (pre ++ mid ++ post).toArray ((i, v) :: rest) = Instr.fill place (pre ++ vs ++ post).toArray rest := by
  subst hs ho
  have hw := put_at pre post vs mid [] hm
  simp only [List.append_nil, List.length_nil] at hw
  rw [Instr.fill, hp]
  have hc : (decide (v.cells.size ≠ vs.length) || decide (pre.length + v.cells.size > (pre ++ mid ++ post).toArray.size)) = false := by
    rw [hv]
    simp [hm]
  show (if (decide (v.cells.size ≠ vs.length) || decide (pre.length + v.cells.size > (pre ++ mid ++ post).toArray.size)) = true then none else _) = _
  rw [hc, if_neg (by simp), hv, ← Array.foldl_toList, Array.toList_zipIdx]
  show Instr.fill place (vs.zipIdx.foldl (fun cs (p : Value × Nat) => cs.setIfInBounds (pre.length + p.2) p.1) (pre ++ mid ++ post).toArray) rest = _
  rw [hw]
section
variable {α : Type} (E : Elt α)
theorem run_sizeE (w : World) : (sizeOf E.t).run Tryz.prog w = .ok E.n w := by
  obtain ⟨i0, hi, hz0, hz1, hz2⟩ := info_parts E.info
  simp [sizeOf, typeInfo, hi, hz1]
theorem run_zeroE (w : World) : (zeroValue E.t).run Tryz.prog w = .ok E.z w := by
  obtain ⟨i0, hi, hz0, hz1, hz2⟩ := info_parts E.info
  simp [zeroValue, typeInfo, hi, hz0]
end
section
variable {α : Type} {E : Elt α} {ρ : Operand → Value} {o : Oper} {x y : Operand} {w : World} {b off n c j : Nat} {v : Value} {a : α}
theorem add_mid (b off j : Nat) : (⟨b, off, none⟩ : Addr).add j = ⟨b, off + j, none⟩ := by unfold Addr.add; split <;> simp_all
theorem run_indexE (hj : j < n) : (Instr.indexAt E.s (.slice (some ⟨b, off, none⟩) n c) (.int .i64 (j : Int))).run Tryz.prog w = .ok (.pointer (some ⟨b, off + j * E.n, none⟩)) w := by
  have h := run_sizeE E w
  simp [Instr.indexAt, asIntOf, run_underlying E.und, add_mid, h, hj]
theorem exec_indexE (ho : o.op = .indexAddr E.s x y) (hx : ρ x = .slice (some ⟨b, off, none⟩) n c) (hy : ρ y = .int .i64 (j : Int)) (hj : j < n) : (execOp ρ o).run Tryz.prog w = .ok (.value (.pointer (some ⟨b, off + j * E.n, none⟩))) w :=
  cd ho hx hy (run_indexE (E := E) hj)
theorem dO (ho : o.op = .buildSlice E.s 1 #[(0, x)]) (hx : ρ x = v) (hv : v.cells = (E.cel a).toArray) (hn : E.n ≤ 16777216) :
    (execOp ρ o).run Tryz.prog w = .ok (.value (.slice (some ⟨w.heap.size, 0, none⟩) 1 1)) (w.alloc (.cells (E.cel a).toArray E.t)) := by
  have hz := run_zeroE E w
  have hs := run_sizeE E w
  have hp := E.pos
  obtain ⟨zs, hzs⟩ : ∃ zs : List Value, (Array.range (1 * E.n)).map (E.z.cells[· % E.z.cells.size]!) = zs.toArray := ⟨_, (Array.toArray_toList).symm⟩
  have hzl : zs.length = E.n := by
    have := congrArg Array.size hzs
    simpa using this.symm
  have hf := cr (place := fun i => some (i * E.n, E.n)) (i := 0) (off := 0) (v := v) (pre := []) (mid := zs) (post := []) (vs := E.cel a) (rest := []) (by simp) hv (E.len a) rfl hzl
  simp only [List.nil_append, List.append_nil] at hf
  unfold execOp
  simp only [ho, Instr.buildSlice, Sem.run_bind, run_underlying E.und, Result.andThen_ok, hs]
  rw [if_neg (by omega), if_neg (by omega)]
  simp only [Sem.run_bind, hz, Result.andThen_ok, Sem.run_pure, hzs]
  simp [hx, hf, Instr.fill, newRow]
end
theorem exec_appE {α : Type} {E : Elt α} {o : Oper} {a : Act} {w w' : World} {s x : Operand} {A : Option Addr} {m c : Nat} {v v' : Value} (ho : o.op = .call { callee := .builtin .append, args := #[s, x], argTypes := #[E.s, E.s] }) (hs : a.eval s = v) (hx : a.eval x = .slice A m c)
    (hrun : (Builtin.append_ #[E.s, E.s] o.type #[v, .slice A m c]).run Tryz.prog w = .ok v' w') : (execOp a.eval o).run Tryz.prog w = .ok (.value v') w' := by
  simp [execOp, ho, resolve, invoke, builtin, hs, hx, hrun, Result.andThen]
theorem run_appE_own {α : Type} (E : Elt α) (w : World) (ty B N m c : Nat) (v : Value) (l l' : List α) (A : Option Addr) (hm : aK E w B v l) (hr : RdE E w N A m l') (hB : B ≤ w.heap.size) (hsum : l.length + m ≤ 34359738368) :
    ∃ v' w', (Builtin.append_ #[E.s, E.s] ty #[v, .slice A m c]).run Tryz.prog w = .ok v' w' ∧ aK E w' B v' (l ++ l') ∧ w.grownBy w' v.ownBlock ∧ ∀ x, v'.ownBlock = some x → v.ownBlock = some x ∨ w.heap.size ≤ x := by
  obtain ⟨v', w', h1, h2, h3⟩ := run_appE E w ty B N m c v l l' A hm hr hB hsum
  refine ⟨v', w', h1, h2, h3, ?_⟩
  have sure : ∀ v'' w'', (Builtin.append_ #[E.s, E.s] ty #[v, .slice A m c]).run Tryz.prog w = .ok v'' w'' → v' = v'' := fun v'' w'' e => by rw [h1] at e; injection e
  obtain ⟨i0, hi, hz0, hz1, hz2⟩ := info_parts E.info
  rcases hm.2 with ⟨rfl, h0⟩ | ⟨g, cap, cur, rfl, hbg, hg, hnc, hcm, hcs, htake⟩
  · have hm' : aK E w w.heap.size (.slice none 0 0) l := ⟨hm.1, .inl ⟨rfl, h0⟩⟩
    obtain ⟨v2, w2, g1, g2, g3⟩ := run_appE E w ty w.heap.size N m c _ l l' A hm' hr (Nat.le_refl _) hsum
    have e := sure _ _ g1
    subst e
    exact fun x hx => .inr (g2.lt_own x hx)
  · rcases A with _ | ad
    · have h0 : m = 0 := by
        rcases Nat.eq_zero_or_pos m with h | h
        · exact h
        · obtain ⟨b, off, e, _⟩ := hr.2 0 h
          cases e
      subst h0
      have e := sure (.slice (some ⟨g, 0, none⟩) l.length cap) w (by simp [Builtin.append_, run_underlying E.und, sizeOf, typeInfo, hi, Builtin.lenOf, Builtin.firstCells, hnc, storeCells])
      subst e
      exact fun x hx => .inl hx
    · by_cases hroom : l.length + m ≤ cap
      · have hfit : l.length * i0.size + (bK E l').length ≤ cur.size := by rw [bI, hr.1, hz1, hcs, ← Nat.add_mul]; exact Nat.mul_le_mul_right _ hroom
        have h := run_append_room (P := Tryz.prog) w E.s ty E.t i0 E.und hi g l.length cap cur hg ad m c (bK E l') (by rw [bI, hr.1, hz1]) (cells_of_rdE hr) (flatE_one E l') hroom hfit
        have e := sure _ _ h
        subst e
        exact fun x hx => .inl hx
      · have holds : ∀ j u, (bK E l)[j]? = some u → w.cell? ((⟨g, 0, none⟩ : Addr).add j) = some u := World.ownsRow.cells hm (g := g) rfl
        have hby : (l.length + m) * E.by_ ≤ 140737488355328 := Nat.le_trans (Nat.mul_le_mul hsum E.small) (by omega)
        have h := run_append_grow (P := Tryz.prog) w E.s ty E.t i0 E.z E.und hi hz0 ⟨g, 0, none⟩ l.length cap (bK E l) (by rw [hz1]; exact hm.1) holds ad m c (bK E l') (by rw [bI, hr.1, hz1]) (cells_of_rdE hr) (by omega) (by omega) (growslice_fits (by omega) (by rw [hz2]; exact hby))
        have e := sure _ _ h
        subst e
        exact fun x hx => .inr (by simp [Value.ownBlock] at hx; omega)
theorem wpList_appE_own {α : Type} (E : Elt α) {w : World} {ops : Array Oper} {rest : List Oper} {o : Oper} {a : Act} {Q : Exit → Act → World → Prop} (hgd : o.guard = none) (s x : Operand)
    (ho : o.op = .call { callee := .builtin .append, args := #[s, x], argTypes := #[E.s, E.s] })
    (B N m c : Nat) (v : Value) (l l' : List α) (A : Option Addr) (hs : a.eval s = v) (hx : a.eval x = .slice A m c) (hm : aK E w B v l) (hr : RdE E w N A m l') (hB : B ≤ w.heap.size) (hsum : l.length + m ≤ 34359738368)
    (h : ∀ v' w', aK E w' B v' (l ++ l') → w.grownBy w' v.ownBlock → (∀ x, v'.ownBlock = some x → v.ownBlock = some x ∨ w.heap.size ≤ x) → wpList Tryz.prog ops Q rest (a.put o.dst v') w') : wpList Tryz.prog ops Q (o :: rest) a w := by
  refine wpList_plain hgd fun K hK => ?_
  obtain ⟨v', w', hrun, h1, h2, h3⟩ := run_appE_own E w o.type B N m c v l l' A hm hr hB hsum
  unfold Oper.wp
  simp [execOp, ho, resolve, invoke, builtin, hs, hx, hrun, Result.andThen]
  exact hK _ _ (h v' w' h1 h2 h3)
section
variable {α : Type} {E : Elt α} {w : World} {B g n cc k : Nat} {l : List α} {a : α}
theorem flatE_split {l : List α} {k : Nat} (hk : k < l.length) : bK E l = bK E (l.take k) ++ (E.cel (l.getD k E.d) ++ bK E (l.drop (k + 1))) := by
  have h1 : l = l.take k ++ (l.getD k E.d :: l.drop (k + 1)) := by
    rw [List.getD, List.getElem?_eq_getElem hk, Option.getD_some, List.getElem_cons_drop, List.take_append_drop]
  conv => lhs; rw [h1]
  rw [flatE_append, dd]
theorem flatE_set {l : List α} {k : Nat} (hk : k < l.length) (a : α) : bK E (l.set k a) = bK E (l.take k) ++ (E.cel a ++ bK E (l.drop (k + 1))) := by
  have h2 : l.set k a = l.take k ++ (a :: l.drop (k + 1)) := List.set_eq_take_append_cons_drop.trans (by rw [if_pos hk])
  rw [h2, flatE_append, dd]
theorem heap_put (g : Nat) (t : TypeId) (post : List Value) : ∀ (vs mid pre : List Value) (w : World), mid.length = vs.length → w.heap[g]? = some (.cells (pre ++ mid ++ post).toArray t (0, 0)) →
    (w.setCells g pre.length vs).heap[g]? = some (.cells (pre ++ vs ++ post).toArray t (0, 0))
  | [], mid, pre, w, h, hg => by
    have : mid = [] := List.eq_nil_of_length_eq_zero h
    subst this
    exact hg
  | v :: vs, mid, pre, w, h, hg => by
    match mid, h with
    | m :: ms, h =>
      rw [World.setCells]
      have h1 := heap_setCell_same w g pre.length _ t v hg
      have hset : (pre ++ m :: ms ++ post).toArray.setIfInBounds pre.length v = ((pre ++ [v]) ++ ms ++ post).toArray := by
        rw [List.setIfInBounds_toArray]
        congr 1
        rw [List.append_assoc, List.set_append_right _ _ (by simp), Nat.sub_self]
        simp
      rw [hset] at h1
      have := heap_put g t post vs ms (pre ++ [v]) _ (by simpa using h) h1
      rw [List.length_append, List.length_singleton] at this
      rw [this]
      simp
theorem aK.parts (h : aK E w B (.slice (some ⟨g, 0, none⟩) n cc) l) : l.length = n ∧ B ≤ g ∧ ∃ post, w.heap[g]? = some (.cells (bK E l ++ post).toArray E.t (0, 0)) ∧ n ≤ cc ∧ cc ≤ maxLen ∧ (bK E l ++ post).length = cc * E.n := by
  rcases h.2 with ⟨hv, _⟩ | ⟨g', cap, cur, hv, hbg, hg, h1, h2, h3, ht⟩
  · cases hv
  · injection hv with e1 e2 e3
    injection e1 with e1
    injection e1 with e1
    subst e1 e2 e3
    refine ⟨rfl, hbg, cur.toList.drop (l.length * E.n), ?_, h1, h2, ?_⟩
    · rw [← ht, List.take_append_drop, Array.toArray_toList]; exact hg
    · rw [← ht, List.take_append_drop, Array.length_toList, h3]
theorem aK.of_parts {post : List Value} (hl : l.length = n) (hB : B ≤ g) (hg : w.heap[g]? = some (.cells (bK E l ++ post).toArray E.t (0, 0))) (h1 : n ≤ cc) (h2 : cc ≤ maxLen) (h3 : (bK E l ++ post).length = cc * E.n) : aK E w B (.slice (some ⟨g, 0, none⟩) n cc) l := by
  subst hl
  refine ⟨bI E l, .inr ⟨g, cc, _, rfl, hB, hg, h1, h2, by simpa using h3, ?_⟩⟩
  rw [List.take_left' (bI E l)]
theorem aK.there (h : aK E w B (.slice (some ⟨g, 0, none⟩) n cc) l) (hk : k < n) {j m : Nat} (hj : j + m ≤ E.n) : w.there g (k * E.n + j) m := by
  obtain ⟨hl, _, post, hg, hn, _, h3⟩ := h.parts
  intro i hi
  refine ⟨?_, frozen_of_row w g _ _ _ hg⟩
  rw [cell_of_row w g _ _ _ (0, 0) hg]
  have : k * E.n + j + i < (bK E l ++ post).length := by
    have h4 := Nat.mul_le_mul_right E.n (Nat.le_trans hk hn)
    rw [Nat.succ_mul] at h4
    rw [h3]
    omega
  simp only [List.getElem?_toArray, List.getElem?_eq_getElem this, Option.isSome_some]
theorem aK.put (h : aK E w B (.slice (some ⟨g, 0, none⟩) n cc) l) (hk : k < n) {j : Nat} {vs : List Value} (a : α) (ha : E.cel a = (E.cel (l.getD k E.d)).take j ++ vs ++ (E.cel (l.getD k E.d)).drop (j + vs.length)) (hj : j + vs.length ≤ E.n) :
    aK E (w.setCells g (k * E.n + j) vs) B (.slice (some ⟨g, 0, none⟩) n cc) (l.set k a) := by
  obtain ⟨hl, hB, post, hg, h1, h2, h3⟩ := h.parts
  have hkl : k < l.length := by omega
  have hc : E.cel (l.getD k E.d) = (E.cel (l.getD k E.d)).take j ++ ((E.cel (l.getD k E.d)).drop j).take vs.length ++ (E.cel (l.getD k E.d)).drop (j + vs.length) := by
    rw [List.append_assoc, ← List.drop_drop, List.take_append_drop, List.take_append_drop]
  have hsp : bK E l ++ post = (bK E (l.take k) ++ (E.cel (l.getD k E.d)).take j) ++ ((E.cel (l.getD k E.d)).drop j).take vs.length ++ ((E.cel (l.getD k E.d)).drop (j + vs.length) ++ (bK E (l.drop (k + 1)) ++ post)) := by
    rw [flatE_split hkl]
    conv => lhs; rw [hc]
    simp only [List.append_assoc]
  rw [hsp] at hg
  have hmid : (((E.cel (l.getD k E.d)).drop j).take vs.length).length = vs.length := by rw [List.length_take, List.length_drop, E.len]; omega
  have := heap_put g E.t _ vs _ _ w hmid hg
  have hpl : (bK E (l.take k) ++ (E.cel (l.getD k E.d)).take j).length = k * E.n + j := by
    rw [List.length_append, bI, List.length_take, List.length_take, E.len, Nat.min_eq_left (by omega), Nat.min_eq_left (by omega)]
  rw [hpl] at this
  have hsp2 : bK E (l.set k a) ++ post = (bK E (l.take k) ++ (E.cel (l.getD k E.d)).take j) ++ vs ++ ((E.cel (l.getD k E.d)).drop (j + vs.length) ++ (bK E (l.drop (k + 1)) ++ post)) := by
    rw [flatE_set hkl, ha]
    simp only [List.append_assoc]
  rw [← hsp2] at this
  exact aK.of_parts (by rw [List.length_set, hl]) hB this h1 h2 (by rw [List.length_append, bI, List.length_set, ← bI E l, ← List.length_append, h3])
theorem aK.store (h : aK E w B (.slice (some ⟨g, 0, none⟩) n cc) l) (hk : k < n) (a : α) : aK E (w.setCells g (k * E.n) (E.cel a)) B (.slice (some ⟨g, 0, none⟩) n cc) (l.set k a) := by
  have := h.put hk (j := 0) (vs := E.cel a) a (by rw [List.take_zero, Nat.zero_add, List.drop_eq_nil_of_le (by rw [E.len, E.len]; exact Nat.le_refl _)]; simp) (by rw [E.len]; omega)
  simpa using this
end
structure Only (F : Nat → Prop) (w w' : World) : Prop where
  os : w'.os = w.os
  tape : w'.tape = w.tape
  output : w'.output = w.output
  size : w.heap.size ≤ w'.heap.size
  block : ∀ k, k < w.heap.size → ¬ F k → w'.heap[k]? = w.heap[k]?
section
variable {F G : Nat → Prop} {w w1 w2 a : World} {B : Nat}
theorem Only.refl (F : Nat → Prop) (w : World) : Only F w w := ⟨rfl, rfl, rfl, Nat.le_refl _, fun _ _ _ => rfl⟩
theorem Only.trans (h : Only F w w1) (k : Only G w1 w2) (hG : ∀ b, G b → F b ∨ w.heap.size ≤ b) : Only F w w2 :=
  ⟨k.os.trans h.os, k.tape.trans h.tape, k.output.trans h.output, Nat.le_trans h.size k.size, fun b hb hn =>
    (k.block b (Nat.lt_of_lt_of_le hb h.size) (fun hg => by rcases hG b hg with e | e; exact hn e; omega)).trans (h.block b hb hn)⟩
theorem Only.widen (h : Only F w w1) (hG : ∀ b, F b → G b) : Only G w w1 := ⟨h.os, h.tape, h.output, h.size, fun b hb hn => h.block b hb fun e => hn (hG b e)⟩
theorem Only.of_below (F : Nat → Prop) (h : Below w.heap.size w w1) : Only F w w1 := ⟨h.os, h.tape, h.output, h.size, fun b hb _ => h.block b hb⟩
theorem Only.below (h : Only F w w1) (hF : ∀ b, F b → B ≤ b) (hB : B ≤ w.heap.size) : Below B w w1 := ⟨h.os, h.tape, h.output, h.size, fun b hb => h.block b (by omega) fun e => by have := hF b e; omega⟩
theorem Only.then_below (h : Only F w w1) (k : Below w1.heap.size w1 w2) : Only F w w2 := h.trans (Only.of_below F k) fun _ hb => .inl hb
theorem Only.drew (h : Only F w w1) : Only F w w1.drew := ⟨h.os, h.tape, h.output, h.size, h.block⟩
theorem Only.alloc (h : Only F w w1) (o : Obj) : Only F w (w1.alloc o) := h.then_below ((Below.refl _ _).alloc (Nat.le_refl _) o)
theorem Only.setCell (h : Only F w w1) {p : Addr} (hp : F p.block ∨ w.heap.size ≤ p.block) (u : Value) : Only F w (w1.setCell p u) :=
  ⟨h.os, h.tape, h.output, by have := h.size; simpa [World.setCell] using this, fun b hb hn => (Below.heap_setCell w1 p u b (fun e => by subst e; rcases hp with e | e; exact hn e; omega)).trans (h.block b hb hn)⟩
theorem Only.grown {row : Option Nat} (h : Only F w w1) (hg : w1.grownBy w2 row) (hr : ∀ k, row = some k → F k ∨ w.heap.size ≤ k) : Only F w w2 :=
  ⟨hg.os.trans h.os, hg.tape.trans h.tape, hg.output.trans h.output, Nat.le_trans h.size hg.size, fun b hb hn =>
    (hg.block b (Nat.lt_of_lt_of_le hb h.size) (fun e => by rcases hr b e.symm with e | e; exact hn e; omega)).trans (h.block b hb hn)⟩
theorem Only.keep {o : Obj} {b : Nat} (h : Only F w w1) (hb : w.heap[b]? = some o) (hn : ¬ F b) : w1.heap[b]? = some o := (h.block b (Array.getElem?_eq_some_iff.1 hb).1 hn).trans hb
theorem Only.cell (h : Only F w w1) {p : Addr} (hp : p.block < w.heap.size) (hn : ¬ F p.block) : w1.cell? p = w.cell? p := World.cell?_of_block (w := w) (h.block _ hp hn)
end
theorem wrap64_nat {n : Nat} (h : n < 9223372036854775808) : wrap64 (n : Int) = (n : Int) := by unfold wrap64; omega
theorem ao {w w' : World} {b : Nat} {o : Obj} (h : w.heap[b]? = some o) (hb : Below w.heap.size w w') : w'.heap[b]? = some o := (hb.block b (Array.getElem?_eq_some_iff.1 h).1).trans h
theorem blk_keep2 {w w' : World} {B b : Nat} {o : Obj} (h : w.heap[b]? = some o) (hB : b < B) (hb : Below B w w') : w'.heap[b]? = some o := (hb.block b hB).trans h
theorem aY {w : World} {b : Nat} {o : Obj} (h : w.heap[b]? = some o) (o' : Obj) : (w.alloc o').heap[b]? = some o := (Below.heap_alloc w o' b (Array.getElem?_eq_some_iff.1 h).1).trans h
theorem aH {w : World} {b : Nat} {o : Obj} (h : w.heap[b]? = some o) : b < w.heap.size := (Array.getElem?_eq_some_iff.1 h).1
section
variable {w : World} {b : Nat} {t : TypeId} {x y z : Value}
theorem cells2 (h : w.heap[b]? = some (.cells #[x, y] t (0, 0))) : w.cell? ⟨b, 0, none⟩ = some x ∧ w.cell? ⟨b, 1, none⟩ = some y ∧ w.frozen? ⟨b, 0, none⟩ = false ∧ w.frozen? ⟨b, 1, none⟩ = false := by
  refine ⟨?_, ?_, frozen_of_row w b 0 _ t h, frozen_of_row w b 1 _ t h⟩
  · rw [cell_of_row w b 0 _ t (0, 0) h]; rfl
  · rw [cell_of_row w b 1 _ t (0, 0) h]; rfl
theorem cells3 (h : w.heap[b]? = some (.cells #[x, y, z] t (0, 0))) : w.cell? ⟨b, 0, none⟩ = some x ∧ w.cell? ⟨b, 1, none⟩ = some y ∧ w.cell? ⟨b, 2, none⟩ = some z := by
  refine ⟨?_, ?_, ?_⟩
  · rw [cell_of_row w b 0 _ t (0, 0) h]; rfl
  · rw [cell_of_row w b 1 _ t (0, 0) h]; rfl
  · rw [cell_of_row w b 2 _ t (0, 0) h]; rfl
end
theorem behind_gp {w w1 : World} {o o' : Obj} (hb : Below ((w.alloc o).alloc o').heap.size ((w.alloc o).alloc o') w1) (hf : (w.alloc o).heap[w.heap.size]? = some o) (hf' : ((w.alloc o).alloc o').heap[w.heap.size + 1]? = some o') :
    Hid (w1.heap[w.heap.size]? = some o) ∧ Hid (w1.heap[w.heap.size + 1]? = some o') ∧ w.heap.size + 1 < w1.heap.size ∧ Hid (Below w.heap.size w w1) :=
  ⟨Lib.hid (ao (aY hf o') hb), Lib.hid (ao hf' hb), aH (ao hf' hb), Lib.hid ((((Below.refl w.heap.size w).alloc (Nat.le_refl _) _).alloc (by simp) _).trans (hb.mono (by simp; omega)))⟩
theorem new1 (w : World) (cs : Array Value) (t : TypeId) : (w.alloc (.cells cs t)).heap[w.heap.size]? = some (.cells cs t) := heap_alloc_new w _
theorem new2 (w : World) (o : Obj) (cs : Array Value) (t : TypeId) : ((w.alloc o).alloc (.cells cs t)).heap[w.heap.size + 1]? = some (.cells cs t) := by
  have := heap_alloc_new (w.alloc o) (.cells cs t)
  rwa [World.size_alloc] at this
def BlkE : Elt Blk where
  s := 22
  t := 38
  n := 64
  by_ := 64
  cel := cel
  d := al
  z := blk al
  pos := by omega
  small := by omega
  len := aw
  one := cel_one
  und := Tryz.underlying22
  info := infoB
  zc := by rw [cells_blk]; simp [aw]
def c9 (p : Int × Blk) : List Value := .int .i64 p.1 :: cel p.2
def pairV (n : Int) (b : Blk) : Value := .agg (.int .i64 n :: cel b).toArray
theorem cel65_length (p : Int × Blk) : (c9 p).length = 65 := by simp [c9, aw]
theorem cel65_one (p : Int × Blk) : ∀ v ∈ c9 p, v.oneCell' = true := by
  intro v hv
  simp only [c9, List.mem_cons] at hv
  rcases hv with rfl | hv
  · rfl
  · exact cel_one p.2 v hv
def pairE (s t : TypeId) (und : Tryz.prog.underlying s = some (.slice t)) (info : (Tryz.prog.info? t).map (fun i => (i.zero, i.size, i.bytes)) = some (some (pairV 0 al), 65, 72)) : Elt (Int × Blk) where
  s := s
  t := t
  n := 65
  by_ := 72
  cel := c9
  d := (0, al)
  z := pairV 0 al
  pos := by omega
  small := by omega
  len := cel65_length
  one := cel65_one
  und := und
  info := info
  zc := by show (Value.cells (.agg _)).size = 65; simp [Value.cells, aw]
theorem RdE.blk {w : World} {B n k : Nat} {A : Option Addr} {l : List Blk} (h : RdE BlkE w B A n l) (hk : k < n) : ∃ b off, A = some ⟨b, off, none⟩ ∧ b < B ∧ w.rangeAt b (off + k * 64) (cel (l.getD k al)) := h.2 k hk
theorem Only.setCells {F : Nat → Prop} {w w1 : World} {b : Nat} (h : Only F w w1) (hb : F b ∨ w.heap.size ≤ b) : ∀ (vs : List Value) (o : Nat), Only F w (w1.setCells b o vs) := by
  intro vs
  induction vs generalizing w1 with
  | nil => intro o; exact h
  | cons v r ih => intro o; exact ih (h.setCell (p := ⟨b, o, none⟩) hb v) (o + 1)
theorem blk_laid {w : World} {b : Nat} {t : TypeId} {c d : Blk} (h : w.heap[b]? = some (.cells (cel c).toArray t (0, 0))) : (w.setCells b 0 (cel d)).heap[b]? = some (.cells (cel d).toArray t (0, 0)) := by
  have := heap_put b t [] (cel d) (cel c) [] w (by rw [aw, aw]) (by simpa using h)
  simpa using this
theorem blk_range {w : World} {b : Nat} {t : TypeId} {c : Blk} (h : w.heap[b]? = some (.cells (cel c).toArray t (0, 0))) : w.rangeAt b 0 (cel c) := fun j v hj => by
  rw [cell_of_row _ _ (0 + j) (cel c).toArray t (0, 0) h]
  simpa using hj
theorem bU {w : World} {b : Nat} {t : TypeId} {c : Blk} (h : w.heap[b]? = some (.cells (cel c).toArray t (0, 0))) : w.there b 0 64 := fun j hj => by
  rw [cell_of_row _ _ (0 + j) _ t (0, 0) h, frozen_of_row _ _ (0 + j) _ t h]
  exact ⟨by simp [aw]; omega, rfl⟩
section
variable {P : Program} {ops : Array Oper} {Q : Exit → Act → World → Prop} {md : Region.Mode} {S : World → Prop} {z : Nat}
def de (P : Program) (md : Region.Mode) (ops : Array Oper) (Q : Exit → Act → World → Prop) (S : World → Prop) (z : Nat) : Nat → Array Bool → Act → World → Prop
  | 0, listed, a, w => Region.ready md ops listed = [] ∧ Q .normal a w
  | fuel + 1, listed, a, w =>
    (Region.ready md ops listed = [] → Q .normal a w) ∧
    ∀ i ∈ Region.ready md ops listed, wpOp P ops Q i (fun a' w' => (i ≠ z → S w') ∧ de P md ops Q S z fuel (listed.setIfInBounds i true) a' w') a w
theorem wpAny_of_Z : ∀ (fuel : Nat) (listed : Array Bool) (a : Act) (w : World), de P md ops Q S z fuel listed a w → wpAny P md ops Q fuel listed a w
  | 0, _, _, _, h => h
  | fuel + 1, _, _, _, h => ⟨h.1, fun i hi => wpOp_mono (fun a' w' h' => wpAny_of_Z fuel _ a' w' h'.2) (h.2 i hi)⟩
def waitsB (md : Region.Mode) (ops : Array Oper) (z i : Nat) : Bool := match ops[z]? with
  | some o => o.after.any fun e => Region.binds md e && decide (e.on = i)
  | none => false
theorem waits_spec {listed : Array Bool} {i : Nat} (h : waitsB md ops z i = true) (hi : listed.getD i false = false) : z ∉ Region.ready md ops listed := by
  intro hz
  obtain ⟨_, o, ho, hall⟩ := mem_ready.1 hz
  unfold waitsB at h
  rw [ho] at h
  simp only [Array.any_eq_true, Bool.and_eq_true, decide_eq_true_eq] at h
  obtain ⟨k, hk, hb, he⟩ := h
  have := hall _ (Array.getElem_mem hk) hb
  rw [he, hi] at this
  cases this
theorem un_of {listed : Array Bool} {i : Nat} (h : listed.getD i true = false) : listed.getD i false = false := by
  rcases Nat.lt_or_ge i listed.size with h' | h'
  · simpa [h'] using h
  · simp [Array.getElem?_eq_none h']
theorem wpAnyZ_first {i : Nat} {oi : Oper} {v : Value} (hi : ops[i]? = some oi) (hsel : ∀ (j : Nat) (o : Oper) cs b, ops[j]? = some o → o.op ≠ .select cs b)
    (hQ : ∀ c a w, Q (.panic c) (a.put oi.dst v) w → Q (.panic c) a w) (hiz : i ≠ z) (hwz : waitsB md ops z i = true) :
    ∀ (fuel : Nat) (listed : Array Bool) (a : Act) (w : World),
      (∀ j oj, ops[j]? = some oj → j ≠ i → listed.getD j true = false → (∀ e ∈ oj.after, Region.binds md e = true → e.on ≠ i) → oi.apart ops oj = true) →
      i ∈ Region.ready md ops listed → YieldsIf P ops S oi v a → S w →
      de P md ops Q S z fuel (listed.setIfInBounds i true) (a.put oi.dst v) w → de P md ops Q S z (fuel + 1) listed a w := by
  intro fuel
  induction fuel with
  | zero =>
    intro listed a w _ hr hy hS H
    refine ⟨fun h => (by rw [h] at hr; cases hr), fun j hj => ?_⟩
    by_cases hji : j = i
    · subst hji; exact hy.wpOp hi hS ⟨fun _ => hS, H⟩
    · have := ready_mono hj hji
      rw [H.1] at this
      cases this
  | succ fuel ih =>
    intro listed a w hfree hr hy hS H
    refine ⟨fun h => (by rw [h] at hr; cases hr), fun j hj => ?_⟩
    by_cases hji : j = i
    · subst hji; exact hy.wpOp hi hS ⟨fun _ => hS, H⟩
    · have h1 := H.2 j (ready_mono hj hji)
      obtain ⟨hjun, oj, hoj, hall⟩ := mem_ready.1 hj
      have hjz : j ≠ z := fun e => by
        subst e
        exact waits_spec hwz (un_of (mem_ready.1 hr).1) hj
      have hnot : ∀ e ∈ oj.after, Region.binds md e = true → e.on ≠ i := fun e he hb heq => by
        have h1 := hall e he hb
        rw [heq, un_of (mem_ready.1 hr).1] at h1
        cases h1
      have h2 := wpOp_putIf hoj (hfree j oj hoj hji hjun hnot) (fun cs b => hsel i oi cs b hi) (fun cs b => hsel j oj cs b hoj) hQ hy h1
      have hfree' : ∀ k ok, ops[k]? = some ok → k ≠ i → (listed.setIfInBounds j true).getD k true = false →
          (∀ e ∈ ok.after, Region.binds md e = true → e.on ≠ i) → oi.apart ops ok = true := fun k ok hk hki hun hno => by
        refine hfree k ok hk hki ?_ hno
        by_cases hjk : j = k
        · subst hjk; exact hjun
        · rw [getD_set_ne true hjk] at hun; exact hun
      refine wpOp_mono (fun a' w' h3 => ⟨h3.2.1, ih (listed.setIfInBounds j true) a' w' hfree' (ready_mono hr (Ne.symm hji)) h3.1 (h3.2.1 hjz) ?_⟩) h2
      rw [Array.setIfInBounds_comm _ _ hji]
      exact h3.2.2
theorem wpAnyZ_all {rs : List Nat} {fuel : Nat} {listed : Array Bool} {a : Act} {w : World} (hr : Region.ready md ops listed = rs) (hne : rs ≠ [])
    (h : ∀ i ∈ rs, wpOp P ops Q i (fun a' w' => (i ≠ z → S w') ∧ de P md ops Q S z fuel (listed.setIfInBounds i true) a' w') a w) : de P md ops Q S z (fuel + 1) listed a w :=
  ⟨fun h0 => absurd (hr ▸ h0) hne, hr ▸ h⟩
theorem wpAnyZ_done {listed : Array Bool} {a : Act} {w : World} (hr : Region.ready md ops listed = []) (h : Q .normal a w) :
    ∀ fuel, de P md ops Q S z fuel listed a w
  | 0 => ⟨hr, h⟩
  | _ + 1 => ⟨fun _ => h, by rw [hr]; simp⟩
theorem wp_region_last {id : Nat} {a : Act} {w : World} (S : World → Prop) (z : Nat) (hm : P.follows .mixedOrders = true)
    (h : de P .any ops Q S z ops.size (Array.replicate ops.size false) a w.drew) : (Code.region id ops true).wp P Q a w :=
  wp_region_any hm (wpAny_of_Z _ _ _ _ h)
end
section
variable {P : Program} {md : Region.Mode} {l : List Oper} {Q : Exit → Act → World → Prop} {S : World → Prop} {z fuel : Nat} {listed : Array Bool} {a : Act} {w w' : World} {o : Oper} {v : Value}
theorem dB (i : Nat) (hi : l[i]? = some o) (hs : Region.noSelect l.toArray = true) (hf : Region.free md l.toArray listed i = true) (hr : (Region.ready md l.toArray listed).contains i = true) (hiz : i ≠ z) (hwz : waitsB md l.toArray z i = true)
    (hw : Region.wanted o (yielded l.toArray a.tmps) = true) (h : ∀ w, S w → (execOp a.eval o).run P w = .ok (.value v) w) (hQ : ∀ c a w, Q (.panic c) (a.put o.dst v) w → Q (.panic c) a w) (hS : S w)
    (hk : de P md l.toArray Q S z fuel (listed.setIfInBounds i true) (a.put o.dst v) w) : de P md l.toArray Q S z (fuel + 1) listed a w :=
  wpAnyZ_first (by simpa using hi) (Region.noSelect_spec hs) hQ hiz hwz fuel listed a w (Region.free_spec (by simpa using hi) hf) (by simpa using hr) (.inl ⟨hw, h⟩) hS hk
theorem last_turn (i : Nat) (hi : l[i]? = some o) (hr : Region.ready md l.toArray listed = [i]) (hw : Region.wanted o (yielded l.toArray a.tmps) = true) (h : (execOp a.eval o).run P w = .ok (.value v) w')
    (hS : i ≠ z → S w') (hk : de P md l.toArray Q S z fuel (listed.setIfInBounds i true) (a.put o.dst v) w') : de P md l.toArray Q S z (fuel + 1) listed a w :=
  wpAnyZ_all hr (by simp) fun j hj => by
    obtain rfl : j = i := by simpa using hj
    unfold wpOp
    simp only [List.getElem?_toArray, hi, hw, if_true]
    refine .inl ?_
    unfold Oper.wp
    rw [h]
    exact ⟨hS, hk⟩
theorem last_nul (i : Nat) (hi : l[i]? = some o) (hr : Region.ready md l.toArray listed = [i]) (hw : Region.wanted o (yielded l.toArray a.tmps) = true) (h : (execOp a.eval o).run P w = .ok .skip w')
    (hS : i ≠ z → S w') (hk : de P md l.toArray Q S z fuel (listed.setIfInBounds i true) (a.put o.dst undef) w') : de P md l.toArray Q S z (fuel + 1) listed a w :=
  wpAnyZ_all hr (by simp) fun j hj => by
    obtain rfl : j = i := by simpa using hj
    unfold wpOp
    simp only [List.getElem?_toArray, hi, hw, if_true]
    refine .inl ?_
    unfold Oper.wp
    rw [h]
    exact ⟨hS, hk⟩
end
def IntE : Elt Int where
  s := 57
  t := 3
  n := 1
  by_ := 8
  cel x := [.int .i64 x]
  d := 0
  z := .int .i64 0
  pos := by omega
  small := by omega
  len _ := rfl
  one x v hv := by simp at hv; subst hv; rfl
  und := Tryz.underlying57
  info := by kernel_rfl
  zc := rfl
section
variable {w : World} {B n : Nat} {A : Option Addr} {l : List Int}
theorem RdE.int (h : RdE IntE w B A n l) {k : Nat} (hk : k < n) : ∃ b off, A = some ⟨b, off, none⟩ ∧ b < B ∧ w.cell? ⟨b, off + k, none⟩ = some (.int .i64 (l.getD k 0)) := by
  obtain ⟨b, off, e, hb, hc⟩ := h.2 k hk
  refine ⟨b, off, e, hb, ?_⟩
  have h0 := hc 0 (.int .i64 (l.getD k 0)) rfl
  rwa [show off + k * IntE.n + 0 = off + k from by show off + k * 1 + 0 = _; omega] at h0
end
def flat (l : List Blk) : List Value := l.flatMap cel
theorem flat_cons (x : Blk) (l : List Blk) : flat (x :: l) = cel x ++ flat l := rfl
theorem flat_append (a b : List Blk) : flat (a ++ b) = flat a ++ flat b := by simp [flat]
theorem flat_length (l : List Blk) : (flat l).length = l.length * 64 := by
  induction l with
  | nil => rfl
  | cons x l ih => rw [flat_cons, List.length_append, aw, ih, List.length_cons]; omega
theorem flat_at (l : List Blk) {k j : Nat} (hk : k < l.length) (hj : j < 64) : (flat l)[k * 64 + j]? = (cel (l.getD k al))[j]? := by
  induction l generalizing k with
  | nil => simp at hk
  | cons x l ih =>
    rw [flat_cons]
    cases k with
    | zero => rw [Nat.zero_mul, Nat.zero_add, List.getElem?_append_left (by rw [aw]; exact hj)]; rfl
    | succ k =>
      rw [List.getElem?_append_right (by rw [aw]; omega), aw, show (k + 1) * 64 + j - 64 = k * 64 + j from by omega, ih (by simpa using hk)]
      rfl
theorem rdB_of {w : World} {g o B : Nat} {l : List Blk} (hg : g < B) (h : ∀ j v, (flat l)[j]? = some v → w.cell? ⟨g, o + j, none⟩ = some v) : RdB w B (some ⟨g, o, none⟩) l.length l :=
  ⟨rfl, fun k hk => ⟨g, o, rfl, hg, fun j v hj => by
    have hlt : j < 64 := by have := (List.getElem?_eq_some_iff.1 hj).1; rwa [aw] at this
    rw [show o + k * 64 + j = o + (k * 64 + j) from by omega]
    exact h _ v (by rw [flat_at l hk hlt]; exact hj)⟩⟩
def bQ (w : World) (g : Nat) (bs : List Blk) : Prop := w.heap[g]? = some (.cells (flat bs).toArray 38 (0, 0))
theorem flat_split {bs : List Blk} {k : Nat} (hk : k < bs.length) : flat bs = flat (bs.take k) ++ (cel (bs.getD k al) ++ flat (bs.drop (k + 1))) := by
  have h1 : bs = bs.take k ++ (bs.getD k al :: bs.drop (k + 1)) := by
    rw [List.getD, List.getElem?_eq_getElem hk, Option.getD_some, List.getElem_cons_drop, List.take_append_drop]
  conv => lhs; rw [h1]
  rw [flat_append, flat_cons]
theorem flat_set {bs : List Blk} {k : Nat} (hk : k < bs.length) (c : Blk) : flat (bs.set k c) = flat (bs.take k) ++ (cel c ++ flat (bs.drop (k + 1))) := by
  have h2 : bs.set k c = bs.take k ++ (c :: bs.drop (k + 1)) := List.set_eq_take_append_cons_drop.trans (by rw [if_pos hk])
  rw [h2, flat_append, flat_cons]
theorem heap_write (g : Nat) (t : TypeId) (post : List Value) : ∀ (vs mid pre : List Value) (w : World), mid.length = vs.length → w.heap[g]? = some (.cells (pre ++ mid ++ post).toArray t (0, 0)) →
    (w.setCells g pre.length vs).heap[g]? = some (.cells (pre ++ vs ++ post).toArray t (0, 0))
  | [], mid, pre, w, h, hg => by
    have : mid = [] := List.eq_nil_of_length_eq_zero h
    subst this
    exact hg
  | v :: vs, mid, pre, w, h, hg => by
    match mid, h with
    | m :: ms, h =>
      rw [World.setCells]
      have h1 := heap_setCell_same w g pre.length _ t v hg
      have hset : (pre ++ m :: ms ++ post).toArray.setIfInBounds pre.length v = ((pre ++ [v]) ++ ms ++ post).toArray := by
        rw [List.setIfInBounds_toArray]
        congr 1
        rw [List.append_assoc, List.set_append_right _ _ (by simp), Nat.sub_self]
        simp
      rw [hset] at h1
      have := heap_write g t post vs ms (pre ++ [v]) _ (by simpa using h) h1
      rw [List.length_append, List.length_singleton] at this
      rw [this]
      simp
section
variable {w w' : World} {g k B : Nat} {bs : List Blk} {c : Blk}
theorem bQ.lt (h : bQ w g bs) : g < w.heap.size := (Array.getElem?_eq_some_iff.1 h).1
theorem bQ.of_block (h : bQ w g bs) (e : w'.heap[g]? = w.heap[g]?) : bQ w' g bs := e.trans h
theorem bQ.below (h : bQ w g bs) (hb : Below w.heap.size w w') : bQ w' g bs := h.of_block (hb.block g h.lt)
theorem bQ.store (h : bQ w g bs) (hk : k < bs.length) (c : Blk) : bQ (w.setCells g (k * 64) (cel c)) g (bs.set k c) := by
  unfold bQ at *
  rw [flat_split hk, ← List.append_assoc] at h
  have := heap_write g _ (flat (bs.drop (k + 1))) (cel c) _ _ w (by rw [aw, aw]) h
  rw [flat_length, List.length_take, Nat.min_eq_left (by omega)] at this
  rw [this, flat_set hk, List.append_assoc]
theorem bQ.cell (h : bQ w g bs) (j : Nat) : w.cell? ⟨g, j, none⟩ = (flat bs)[j]? := by
  rw [cell_of_row w g j _ _ (0, 0) h]
  simp
theorem bQ.frozen (h : bQ w g bs) (j : Nat) : w.frozen? ⟨g, j, none⟩ = false := frozen_of_row w g j _ _ h
theorem bQ.byteAt (h : bQ w g bs) (hk : k < bs.length) {r : Nat} (hr : r < 64) : w.cell? ⟨g, k * 64 + r, none⟩ = some (.int .u8 (byt (bs.getD k al) r)) := by
  rw [h.cell, flat_at bs hk hr, dq _ hr]
theorem bQ.there (h : bQ w g bs) (hk : k < bs.length) : w.there g (k * 64) 64 := fun j hj => ⟨by rw [h.byteAt hk hj]; rfl, h.frozen _⟩
theorem bQ.rd (h : bQ w g bs) (m : Nat) (hm : m ≤ bs.length) : RdB w w.heap.size (some ⟨g, 0, none⟩) m (bs.take m) := by
  have : RdB w w.heap.size (some ⟨g, 0, none⟩) bs.length bs := rdB_of h.lt fun j v hj => by rw [Nat.zero_add, h.cell]; exact hj
  exact this.head hm
end
section
variable {ρ : Operand → Value} {o : Oper} {x y : Operand} {w : World} {n : Nat}
theorem exec_make (ho : o.op = .makeSlice 22 x y) (hx : ρ x = .int .i64 (n : Int)) (hy : ρ y = .int .i64 (n : Int)) (hn : n ≤ 4398046511104) :
    (execOp ρ o).run Tryz.prog w = .ok (.value (.slice (some ⟨w.heap.size, 0, none⟩) n n)) (w.alloc (.cells (madeCells (cel al).toArray (n * 64)) 38)) := by
  obtain ⟨i0, hi, hz0, hz1, hz2⟩ := info_parts infoB
  have hr := run_make (P := Tryz.prog) w 22 38 i0 (blk al) underS hi hz0 .i64 .i64 n n (by omega) (Int.le_refl _) (by rw [hz2]; omega) (by omega)
  rw [hz1, cells_blk] at hr
  simp only [Int.toNat_natCast] at hr
  unfold execOp
  simp only [ho, hx, hy, Sem.run_bind, hr, Result.andThen_ok, Sem.run_pure]
end
theorem flat_zeros (n : Nat) : (flat (List.replicate n al)).toArray = madeCells (cel al).toArray (n * 64) := by
  apply Array.ext
  · rw [size_madeCells, List.size_toArray, flat_length, List.length_replicate]
  · intro j h1 h2
    rw [size_madeCells] at h2
    have hk : j / 64 < (List.replicate n al).length := by rw [List.length_replicate]; omega
    have := flat_at (List.replicate n al) hk (j := j % 64) (by omega)
    rw [show j / 64 * 64 + j % 64 = j from by omega] at this
    have hz : (List.replicate n al).getD (j / 64) al = al := by
      rw [List.getD, List.getElem?_replicate]
      split <;> rfl
    rw [hz, dq al (by omega)] at this
    have hc := dq al (j := j % 64) (by omega)
    have e1 : (flat (List.replicate n al)).toArray[j] = .int .u8 (byt al (j % 64)) := by
      rw [List.getElem?_eq_getElem (by simpa using h1)] at this
      simpa using this
    have e2 : (madeCells (cel al).toArray (n * 64))[j]'(by rw [size_madeCells]; exact h2) = .int .u8 (byt al (j % 64)) := by
      have hj : j % 64 < (cel al).length := by rw [aw]; omega
      rw [List.getElem?_eq_getElem hj] at hc
      simp only [madeCells, Array.getElem_map, Array.getElem_range, List.size_toArray, aw]
      rw [getElem!_pos (cel al).toArray (j % 64) (by simpa using hj)]
      simpa using hc
    rw [e1, e2]
theorem holdsB_made (w : World) (n : Nat) : bQ (w.alloc (.cells (madeCells (cel al).toArray (n * 64)) 38)) w.heap.size (List.replicate n al) := by
  unfold bQ
  rw [heap_alloc_new, flat_zeros]
def four_ (w : World) (a b c d : Blk) : World := (((w.alloc (.cells (cel a).toArray 38)).alloc (.cells (cel b).toArray 38)).alloc (.cells (cel c).toArray 38)).alloc (.cells (cel d).toArray 38)
theorem laid4 (w : World) (a b c d : Blk) : (four_ w a b c d).rangeAt w.heap.size 0 (cel a) ∧ (four_ w a b c d).rangeAt (w.heap.size + 1) 0 (cel b) ∧ (four_ w a b c d).there (w.heap.size + 1 + 1) 0 64 ∧
    (four_ w a b c d).rowIs (w.heap.size + 1 + 1 + 1) 38 64 (fun j => .int .u8 (byt d j)) ∧ Below w.heap.size w (four_ w a b c d) := by
  unfold four_
  have e1 := World.size_alloc (w := w) (o := Obj.cells (cel a).toArray 38)
  have e2 := World.size_alloc (w := (w.alloc (.cells (cel a).toArray 38))) (o := Obj.cells (cel b).toArray 38)
  have e3 := World.size_alloc (w := (w.alloc (.cells (cel a).toArray 38)).alloc (.cells (cel b).toArray 38)) (o := Obj.cells (cel c).toArray 38)
  refine ⟨World.rangeAt_alloc (World.rangeAt_alloc (World.rangeAt_alloc (bY w (cel a) _) _) _) _, ?_, ?_, ?_, ?_⟩
  · rw [← e1]; exact World.rangeAt_alloc (World.rangeAt_alloc (bY _ (cel b) _) _) _
  · rw [← e1, ← e2]; exact World.there_alloc (dl _ c _) _
  · rw [← e1, ← e2, ← e3]; exact row_new _ d _
  · exact ((((Below.refl _ w).alloc (Nat.le_refl _) _).alloc (by omega) _).alloc (by omega) _).alloc (by omega) _
section
variable {α : Type} {E : Elt α} {w w' : World} {B p : Nat} {v : Value} {l : List α} {F : Nat → Prop}
theorem aK.only (h : aK E w B v l) (k : Only F w w') (hn : ∀ b, v.ownBlock = some b → ¬ F b) : aK E w' B v l := by
  refine ⟨h.1, ?_⟩
  rcases h.2 with hn' | ⟨g, cap, cur, rfl, hbg, hg, rest⟩
  · exact .inl hn'
  · exact .inr ⟨g, cap, cur, rfl, hbg, (k.block g (Array.getElem?_eq_some_iff.1 hg).1 (hn g rfl)).trans hg, rest⟩
theorem aK.own_lt (h : aK E w B v l) : ∀ b, v.ownBlock = some b → b < w.heap.size := by
  intro b hb
  rcases h.2 with ⟨rfl, _⟩ | ⟨g, cap, cur, rfl, _, hg, _⟩
  · simp [Value.ownBlock] at hb
  · simp [Value.ownBlock] at hb; subst hb; exact (Array.getElem?_eq_some_iff.1 hg).1
theorem aK.not_at (h : aK E w B v l) {cs : Array Value} {t : TypeId} {fr : Nat × Nat} (hp : w.heap[p]? = some (.cells cs t fr)) (ht : E.t ≠ t) : v.ownBlock ≠ some p := by
  intro e
  rcases h.2 with ⟨rfl, _⟩ | ⟨g, cap, cur, rfl, _, hg, _⟩
  · simp [Value.ownBlock] at e
  · simp [Value.ownBlock] at e
    subst e
    rw [hp] at hg
    simp at hg
    exact ht hg.2.1.symm
end
def foot (p : Nat) (vS vL : Value) (k : Nat) : Prop := k = p ∨ vS.ownBlock = some k ∨ vL.ownBlock = some k
def cE (S : List Blk) (g : Bool) (n : Int) : Int := if 0 ≤ n ∧ n < S.length then (if g = true then 9 else 0) else 2
theorem askE_out {S : List Blk} {n : Int} (g : Bool) (h : ¬(0 ≤ n ∧ n < S.length)) : cE S g n = 2 := by unfold cE; rw [if_neg h]
theorem askE_dead {S : List Blk} {n : Int} (h : 0 ≤ n ∧ n < S.length) : cE S true n = 9 := by unfold cE; rw [if_pos h]; rfl
theorem askE_ok {S : List Blk} {n : Int} (h : 0 ≤ n ∧ n < S.length) : cE S false n = 0 := by unfold cE; rw [if_pos h]; rfl
def sureB (S : List Blk) (g : Bool) (n : Int) : Blk := if cE S g n = 0 then S.getD n.toNat al else al
theorem sureB_no {S : List Blk} {g : Bool} {n : Int} (h : cE S g n ≠ 0) : sureB S g n = al := by unfold sureB; rw [if_neg h]
theorem sureB_ok {S : List Blk} {g : Bool} {k : Nat} (h : cE S g (k : Int) = 0) : sureB S g (k : Int) = S.getD k al := by unfold sureB; rw [if_pos h]; rfl
theorem askE_is {S : List Blk} {g : Bool} {n : Int} : cE S g n = 2 ∨ cE S g n = 9 ∨ (cE S g n = 0 ∧ g = false ∧ ∃ k : Nat, n = k ∧ k < S.length) := by
  unfold cE
  split
  · rename_i h
    cases g
    · exact .inr (.inr ⟨rfl, rfl, n.toNat, by omega, by omega⟩)
    · exact .inr (.inl rfl)
  · exact .inl rfl
def lastW (L : List (Int × Blk)) (n : Int) (b : Blk) : Blk := L.foldl (fun b q => if q.1 = n then q.2 else b) b
theorem lastW_succ {L : List (Int × Blk)} {i : Nat} (n : Int) (b : Blk) (hi : i < L.length) : lastW (L.take (i + 1)) n b = if (L.getD i (0, al)).1 = n then (L.getD i (0, al)).2 else lastW (L.take i) n b := by
  rw [List.take_add_one, List.getD, List.getElem?_eq_getElem hi]
  simp only [lastW, Option.toList_some, List.foldl_append, List.foldl_cons, List.foldl_nil, Option.getD_some]
def readB (S : List Blk) (L : List (Int × Blk)) (g : Bool) (n : Int) : Blk := if cE S g n = 0 then lastW L n (S.getD n.toNat al) else al
theorem readB_no {S : List Blk} {L : List (Int × Blk)} {g : Bool} {n : Int} (h : cE S g n ≠ 0) : readB S L g n = al := by unfold readB; rw [if_neg h]
theorem readB_ok {S : List Blk} {L : List (Int × Blk)} {g : Bool} {k : Nat} (h : cE S g (k : Int) = 0) : readB S L g (k : Int) = lastW L k (S.getD k al) := by unfold readB; rw [if_pos h]; rfl
section
variable {w w' : World} {p : Nat} {vS vL : Value} {S : List Blk} {L : List (Int × Blk)} {g : Bool}
theorem only_set (w : World) (p i : Nat) (v : Value) : Only (fun b => b = p) w (w.setCell ⟨p, i, none⟩ v) := (Only.refl (fun b => b = p) w).setCell (p := ⟨p, i, none⟩) (.inl rfl) v
theorem ldB {a : Addr} {A : Option Addr} {n c : Nat} (h : w.cell? a = some (.slice A n c)) : (Instr.loadAt 22 (.pointer (some a))).run Tryz.prog w = .ok (.slice A n c) w := by simp [go_sem, h]
end
def wrL (S : List Blk) (L : List (Int × Blk)) (g : Bool) (n : Int) (b : Blk) : List (Int × Blk) := if cE S g n = 0 then L ++ [(n, b)] else L
theorem exec_index0 {α : Type} {E : Elt α} {ρ : Operand → Value} {o : Oper} {x y : Operand} {w : World} {b n c j : Nat} (ho : o.op = .indexAddr E.s x y) (hx : ρ x = .slice (some ⟨b, 0, none⟩) n c) (hy : ρ y = .int .i64 (j : Int)) (hj : j < n) : (execOp ρ o).run Tryz.prog w = .ok (.value (.pointer (some ⟨b, j * E.n, none⟩))) w := by
  have := exec_indexE (E := E) (ρ := ρ) (w := w) ho hx hy hj
  rwa [Nat.zero_add] at this
theorem aK.slice {α : Type} {E : Elt α} {w : World} {B n : Nat} {v : Value} {l : List α} (h : aK E w B v l) (hn : l.length = n) (hl : 0 < n) : ∃ g c, v = .slice (some ⟨g, 0, none⟩) n c := by
  subst hn
  rcases h.2 with ⟨_, h0⟩ | ⟨g, cap, cur, rfl, _⟩
  · omega
  · exact ⟨g, cap, rfl⟩
section
variable {w : World} {p b off gg n c k : Nat} {vL : Value} {S : List Blk} {L : List (Int × Blk)} {g : Bool}
theorem ldI {a : Addr} {x : Int} (h : w.cell? a = some (.int .i64 x)) : (Instr.loadAt 3 (.pointer (some a))).run Tryz.prog w = .ok (.int .i64 x) w := by simp [go_sem, h]
end
def flS (S : List Blk) (L : List (Int × Blk)) : List Blk := L.foldl (fun S q => S.set q.1.toNat q.2) S
theorem flS_len (S : List Blk) (L : List (Int × Blk)) : (flS S L).length = S.length := by
  unfold flS
  induction L generalizing S with
  | nil => rfl
  | cons q L ih => rw [List.foldl_cons, ih, List.length_set]
theorem flS_succ {S : List Blk} {L : List (Int × Blk)} {i : Nat} (hi : i < L.length) : flS S (L.take (i + 1)) = (flS S (L.take i)).set (L.getD i (0, al)).1.toNat (L.getD i (0, al)).2 := by
  rw [List.take_add_one, List.getD, List.getElem?_eq_getElem hi]
  simp only [flS, Option.toList_some, List.foldl_append, List.foldl_cons, List.foldl_nil, Option.getD_some]
def Fit (S : List Blk) (L : List (Int × Blk)) : Prop := ∀ q ∈ L, 0 ≤ q.1 ∧ q.1 < S.length
theorem Fit.at_ {S : List Blk} {L : List (Int × Blk)} (h : Fit S L) {i : Nat} (hi : i < L.length) : ∃ k : Nat, (L.getD i (0, al)).1 = k ∧ k < S.length := by
  have := h _ (List.getElem_mem hi)
  refine ⟨(L.getD i (0, al)).1.toNat, ?_, ?_⟩
  · simp only [List.getD, List.getElem?_eq_getElem hi, Option.getD_some]; omega
  · simp only [List.getD, List.getElem?_eq_getElem hi, Option.getD_some]; omega
theorem dM {ρ : Operand → Value} {o : Oper} {x y : Operand} {w : World} {b n c j : Nat} (ho : o.op = .indexAddr 22 x y) (hx : ρ x = .slice (some ⟨b, 0, none⟩) n c) (hy : ρ y = .int .i64 (j : Int)) (hj : j < n) : (execOp ρ o).run Tryz.prog w = .ok (.value (.pointer (some ⟨b, j * 64, none⟩))) w := exec_index0 (E := BlkE) ho hx hy hj
def Grow (w : World) (F F' : Nat → Prop) : Prop := ∀ b, F' b → F b ∨ w.heap.size ≤ b
section
variable {w w' : World} {F G : Nat → Prop} {p : Nat} {S : List Blk} {L : List (Int × Blk)} {g : Bool}
theorem Grow.same (w : World) (F : Nat → Prop) : Grow w F F := fun _ h => .inl h
end
theorem Fit.nil (S : List Blk) : Fit S [] := fun q h => by cases h
theorem Fit.wr {S : List Blk} {L : List (Int × Blk)} (g : Bool) (n : Int) (b : Blk) (h : Fit S L) : Fit S (wrL S L g n b) := by
  unfold wrL
  split
  · rename_i he
    rcases askE_is (S := S) (g := g) (n := n) with h1 | h1 | ⟨_, rfl, k, rfl, hk⟩
    · omega
    · omega
    · intro q hq
      rcases List.mem_append.1 hq with hq | hq
      · exact h q hq
      · simp at hq; subst hq; exact ⟨by simp, by simpa using hk⟩
  · exact h
end Go.Proofs.YtheponmdbmloaaaGreatDoor
