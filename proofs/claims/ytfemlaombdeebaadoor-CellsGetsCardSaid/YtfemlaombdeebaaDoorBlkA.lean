/-
  Rows of blocks: a literal's row, a row of the call's own, append, make.
-/
import Derived.Test.YtfemlaombdeebaaDoorBlkS
import Derived.Laws.AppendOwn
import Derived.Laws.OwnMore
namespace Go.Proofs.YtfemlaombdeebaaDoor
open Go.RowKit
set_option linter.unusedVariables false

/-- The cells of blocks, one behind the other. -/
def flat (l : List Blk) : List Value := l.flatMap cel
theorem flat_cons (x : Blk) (l : List Blk) : flat (x :: l) = cel x ++ flat l := rfl
theorem flat_append (a b : List Blk) : flat (a ++ b) = flat a ++ flat b := by simp [flat]
theorem flat_length (l : List Blk) : (flat l).length = l.length * 64 := by
  induction l with
  | nil => rfl
  | cons x l ih => rw [flat_cons, List.length_append, cel_length, ih, List.length_cons]; omega
theorem flat_at (l : List Blk) {k j : Nat} (hk : k < l.length) (hj : j < 64) : (flat l)[k * 64 + j]? = (cel (l.getD k zeroB))[j]? := by
  induction l generalizing k with
  | nil => simp at hk
  | cons x l ih =>
    rw [flat_cons]
    cases k with
    | zero => rw [Nat.zero_mul, Nat.zero_add, List.getElem?_append_left (by rw [cel_length]; exact hj)]; rfl
    | succ k =>
      rw [List.getElem?_append_right (by rw [cel_length]; omega), cel_length, show (k + 1) * 64 + j - 64 = k * 64 + j from by omega, ih (by simpa using hk)]
      rfl
theorem flat_one (l : List Blk) : ∀ v ∈ flat l, v.oneCell' = true := by
  intro v hv
  simp only [flat, List.mem_flatMap] at hv
  obtain ⟨b, _, hb⟩ := hv
  exact cel_one b v hb

/-- Cells that lie in a block from offset o on read as blocks. -/
theorem rdB_of {w : World} {g o B : Nat} {l : List Blk} (hg : g < B) (h : ∀ j v, (flat l)[j]? = some v → w.cell? ⟨g, o + j, none⟩ = some v) : RdB w B (some ⟨g, o, none⟩) l.length l :=
  ⟨rfl, fun k hk => ⟨g, o, rfl, hg, fun j v hj => by
    have hlt : j < 64 := by have := (List.getElem?_eq_some_iff.1 hj).1; rwa [cel_length] at this
    rw [show o + k * 64 + j = o + (k * 64 + j) from by omega]
    exact h _ v (by rw [flat_at l hk hlt]; exact hj)⟩⟩
theorem rdB_new (w : World) (l : List Blk) (t : TypeId) : RdB (w.alloc (.cells (flat l).toArray t)) (w.heap.size + 1) (some ⟨w.heap.size, 0, none⟩) l.length l :=
  rdB_of (by omega) fun j v hj => by
    rw [cell_of_row _ _ (0 + j) (flat l).toArray t (0, 0) (heap_alloc_new w _)]
    simpa using hj
theorem cells_of_rdB {w : World} {N n : Nat} {ad : Addr} {l : List Blk} (h : RdB w N (some ad) n l) : ∀ (j : Nat) (u : Value), (flat l)[j]? = some u → w.cell? (ad.add j) = some u := by
  intro j u hu
  have hj : j < l.length * 64 := by have := (List.getElem?_eq_some_iff.1 hu).1; rwa [flat_length] at this
  have hk : j / 64 < l.length := by omega
  obtain ⟨b, off, e, _, hc⟩ := h.2 (j / 64) (by have := h.1; omega)
  injection e with e
  subst e
  rw [Addr.add_mid]
  have h2 := flat_at l hk (j := j % 64) (by omega)
  rw [show j / 64 * 64 + j % 64 = j from by omega, hu] at h2
  have h3 := hc (j % 64) u h2.symm
  rwa [show off + j / 64 * 64 + j % 64 = off + j from by omega] at h3

/-! ### A row of the call's own -/
def MadeB (w : World) (base : Nat) (v : Value) (l : List Blk) : Prop := w.ownsRow base 38 64 v l.length (flat l)
section
variable {w w' : World} {B B' n : Nat} {v : Value} {l : List Blk}
theorem MadeB.nil (w : World) (B : Nat) : MadeB w B (.slice none 0 0) [] := ⟨rfl, .inl ⟨rfl, rfl⟩⟩
theorem MadeB.form (h : MadeB w B v l) : ∃ A c, v = .slice A l.length c ∧ l.length ≤ c ∧ c ≤ maxLen := by
  rcases h.2 with ⟨rfl, h0⟩ | ⟨g, cap, cur, rfl, _, _, h1, h2, _⟩
  · exact ⟨none, 0, by rw [h0], by omega, by simp [maxLen]⟩
  · exact ⟨_, cap, rfl, h1, h2⟩
theorem MadeB.rd {A : Option Addr} {c : Nat} (h : MadeB w B (.slice A n c) l) : RdB w w.heap.size A n l := by
  rcases h.2 with ⟨hv, h0⟩ | ⟨g, cap, cur, hv, _, hg, _, _, _, ht⟩
  · have hl : l = [] := List.eq_nil_of_length_eq_zero h0
    subst hl
    injection hv with h1 h2 h3
    subst h2
    exact RdB.nil _ _ _
  · injection hv with h1 h2 h3
    subst h1 h2 h3
    refine rdB_of (Array.getElem?_eq_some_iff.1 hg).1 fun j u hu => ?_
    rw [cell_of_row w g (0 + j) cur 38 (0, 0) hg, Nat.zero_add]
    have hj : j < l.length * 64 := by have := (List.getElem?_eq_some_iff.1 hu).1; rwa [flat_length] at this
    rw [← ht, List.getElem?_take_of_lt hj] at hu
    simpa using hu
theorem MadeB.below (h : MadeB w B v l) (hb : Below w.heap.size w w') : MadeB w' B v l := by
  refine ⟨h.1, ?_⟩
  rcases h.2 with hn | ⟨g, cap, cur, rfl, hbg, hg, rest⟩
  · exact .inl hn
  · exact .inr ⟨g, cap, cur, rfl, hbg, by rw [hb.block g (Array.getElem?_eq_some_iff.1 hg).1]; exact hg, rest⟩
theorem MadeB.base (h : MadeB w B v l) (hb : B' ≤ B) : MadeB w B' v l := by
  refine ⟨h.1, ?_⟩
  rcases h.2 with hn | ⟨g, cap, cur, rfl, hbg, rest⟩
  · exact .inl hn
  · exact .inr ⟨g, cap, cur, rfl, Nat.le_trans hb hbg, rest⟩
theorem MadeB.open_ (h : MadeB w B v l) (hn : l.length = n) : ∃ A c, v = .slice A n c ∧ RdB w w.heap.size A n l ∧ n ≤ c ∧ c ≤ maxLen := by
  subst hn
  obtain ⟨A, c, rfl, h1, h2⟩ := h.form
  exact ⟨A, c, rfl, h.rd, h1, h2⟩
end

theorem run_appB (w : World) (ty B N m c : Nat) (v : Value) (l l' : List Blk) (A : Option Addr) (hm : MadeB w B v l) (hr : RdB w N A m l') (hB : B ≤ w.heap.size) (hsum : l.length + m ≤ 2199023255552) :
    ∃ v' w', (Builtin.append_ #[22, 22] ty #[v, .slice A m c]).run Tryd.prog w = .ok v' w' ∧ MadeB w' B v' (l ++ l') ∧ w.grownBy w' v.ownBlock := by
  obtain ⟨i0, hi, hz0, hz1, hz2⟩ := info_parts infoB
  rcases A with _ | ad
  · have h0 : m = 0 := by
      rcases Nat.eq_zero_or_pos m with h | h
      · exact h
      · obtain ⟨b, off, e, _⟩ := hr.2 0 h
        cases e
    subst h0
    have hn : l' = [] := List.eq_nil_of_length_eq_zero hr.1
    subst hn
    refine ⟨v, w, ?_, by rw [List.append_nil]; exact hm, World.grownBy.refl w _⟩
    rcases hm.2 with ⟨rfl, _⟩ | ⟨g, cap, cur, rfl, _, _, hnc, _⟩
    · simp [Builtin.append_, run_underlying underS, sizeOf, typeInfo, hi, Builtin.lenOf, Builtin.firstCells]
    · simp [Builtin.append_, run_underlying underS, sizeOf, typeInfo, hi, Builtin.lenOf, Builtin.firstCells, hnc, storeCells]
  · obtain ⟨v', w', h1, h2, h3, _⟩ := run_append_own (P := Tryd.prog) w B 22 ty 38 i0 (blk zeroB) 64 64 underS hi hz0 hz1 hz2 (by rw [cells_blk]; simp [cel_length]) (by decide) v l.length _ hm ad m c (flat l')
      (by rw [flat_length, hr.1]) (cells_of_rdB hr) (flat_one l') (by unfold maxLen; omega) (by omega) hB
    refine ⟨v', w', h1, ?_, h3⟩
    unfold MadeB
    rw [flat_append, List.length_append, hr.1]
    exact h2

theorem wpList_appB {w : World} {ops : Array Oper} {rest : List Oper} {o : Oper} {a : Act} {Q : Exit → Act → World → Prop} (hgd : o.guard = none) (s x : Operand)
    (ho : o.op = .call { callee := .builtin .append, args := #[s, x], argTypes := #[22, 22] })
    (B N m c : Nat) (v : Value) (l l' : List Blk) (A : Option Addr) (hs : a.eval s = v) (hx : a.eval x = .slice A m c) (hm : MadeB w B v l) (hr : RdB w N A m l') (hB : B ≤ w.heap.size) (hsum : l.length + m ≤ 2199023255552)
    (h : ∀ v' w', MadeB w' B v' (l ++ l') → w.grownBy w' v.ownBlock → wpList Tryd.prog ops Q rest (a.put o.dst v') w') : wpList Tryd.prog ops Q (o :: rest) a w := by
  refine wpList_plain hgd fun K hK => ?_
  obtain ⟨v', w', hrun, h1, h2⟩ := run_appB w o.type B N m c v l l' A hm hr hB hsum
  unfold Oper.wp
  simp [execOp, ho, resolve, invoke, builtin, hs, hx, hrun, Result.andThen]
  exact hK _ _ (h v' w' h1 h2)

/-! ### A literal -/
theorem write_at (pre post : List Value) : ∀ (vs mid done : List Value), mid.length = vs.length →
    (vs.zipIdx done.length).foldl (fun cs (p : Value × Nat) => cs.setIfInBounds (pre.length + p.2) p.1) (pre ++ done ++ mid ++ post).toArray = (pre ++ done ++ vs ++ post).toArray
  | [], mid, done, h => by
    have : mid = [] := List.eq_nil_of_length_eq_zero h
    subst this
    simp
  | v :: vs, mid, done, h => by
    match mid, h with
    | m :: ms, h =>
      rw [List.zipIdx_cons, List.foldl_cons]
      have hset : (pre ++ done ++ m :: ms ++ post).toArray.setIfInBounds (pre.length + done.length) v = (pre ++ (done ++ [v]) ++ ms ++ post).toArray := by
        rw [List.setIfInBounds_toArray]
        congr 1
        rw [List.append_assoc (pre ++ done), List.set_append_right _ _ (by simp), List.length_append, Nat.sub_self]
        simp
      have := write_at pre post vs ms (done ++ [v]) (by simpa using h)
      rw [List.length_append, List.length_singleton] at this
      show (vs.zipIdx (done.length + 1)).foldl (fun cs (p : Value × Nat) => cs.setIfInBounds (pre.length + p.2) p.1) ((pre ++ done ++ m :: ms ++ post).toArray.setIfInBounds (pre.length + done.length) v) = _
      rw [hset, this]
      simp
theorem fill_blocks : ∀ (bs : List Blk) (k : Nat) (pre rest : List Value), pre.length = k * 64 → rest.length = bs.length * 64 →
    Instr.fill (fun i => some (i * 64, 64)) (pre ++ rest).toArray ((bs.zipIdx k).map fun p => (p.2, blk p.1)) = some (pre ++ flat bs).toArray
  | [], k, pre, rest, hp, hr => by
    have : rest = [] := List.eq_nil_of_length_eq_zero (by simpa using hr)
    subst this
    simp [Instr.fill, flat]
  | b :: bs, k, pre, rest, hp, hr => by
    have hw := write_at pre (rest.drop 64) (cel b) (rest.take 64) [] (by rw [List.length_take, cel_length, hr, List.length_cons]; omega)
    simp only [List.append_nil, List.length_nil, List.append_assoc, List.take_append_drop] at hw
    have ih := fill_blocks bs (k + 1) (pre ++ cel b) (rest.drop 64) (by rw [List.length_append, hp, cel_length]; omega) (by rw [List.length_drop, hr, List.length_cons]; omega)
    rw [List.zipIdx_cons, List.map_cons, Instr.fill]
    have hc : (decide ((blk b).cells.size ≠ 64) || decide (k * 64 + (blk b).cells.size > (pre ++ rest).toArray.size)) = false := by
      rw [cells_blk]
      simp [cel_length, hp, hr]
      omega
    show (if (decide ((blk b).cells.size ≠ 64) || decide (k * 64 + (blk b).cells.size > (pre ++ rest).toArray.size)) = true then none else _) = _
    rw [hc, if_neg (by simp), cells_blk, ← Array.foldl_toList, Array.toList_zipIdx]
    rw [hp] at hw
    simp only [List.append_assoc] at ih
    rw [hw, ih, flat_cons]
section
variable {ρ : Operand → Value} {o : Oper} {w : World} {n : Nat}
theorem exec_buildS {parts : List (Nat × Operand)} (bs : List Blk) (ho : o.op = .buildSlice 22 n parts.toArray) (h : parts.map (fun (i, x) => (i, ρ x)) = (bs.zipIdx 0).map fun p => (p.2, blk p.1)) (hn : bs.length = n) (h0 : 0 < n) (h1 : n ≤ 1000) :
    (execOp ρ o).run Tryd.prog w = .ok (.value (.slice (some ⟨w.heap.size, 0, none⟩) n n)) (w.alloc (.cells (flat bs).toArray 38)) := by
  subst hn
  have hz : ((Array.range (bs.length * 64)).map fun j => (blk zeroB).cells[j % (blk zeroB).cells.size]!).toList.length = bs.length * 64 := by simp
  have hf := fill_blocks bs 0 [] _ (by simp) hz
  simp only [List.nil_append, Array.toArray_toList] at hf
  have hs : (sizeOf 38).run Tryd.prog w = .ok 64 w := Tryd.sizeOf38 w
  unfold execOp
  simp only [ho, List.map_toArray, Instr.buildSlice, Sem.run_bind, run_underlying underS, Result.andThen_ok, hs]
  rw [if_neg (by omega), if_neg (by omega)]
  simp only [Sem.run_bind, run_zeroB, Result.andThen_ok, Sem.run_pure, h]
  rw [hf]
  simp [newRow]
end
end Go.Proofs.YtfemlaombdeebaaDoor
