/-
  The program's device: Read, what is there.
-/
import Derived.Test.YtokdmcikoaagmaaPdr
namespace Go.Proofs.Ytokdmcikoaagmaa
open Go.RowKit Go.Shelf
set_option linter.unusedVariables false

attribute [local go_sem] Oper.semAt_some

theorem lastW_none {L : List (Int × Blk)} {n : Int} {b : Blk} (h : ∀ q ∈ L, q.1 ≠ n) : lastW L n b = b := by
  unfold lastW
  induction L generalizing b with
  | nil => rfl
  | cons q L ih =>
    rw [List.foldl_cons, if_neg (h q (by simp)), ih fun q hq => h q (by simp [hq])]
theorem lastW_at {L : List (Int × Blk)} {n : Int} {b : Blk} {i : Nat} (hi : i < L.length) (h : (L.getD i (0, zeroB)).1 = n) (hb : ∀ j, i < j → j < L.length → (L.getD j (0, zeroB)).1 ≠ n) : lastW L n b = (L.getD i (0, zeroB)).2 := by
  have key : ∀ m, i + 1 + m ≤ L.length → lastW (L.take (i + 1 + m)) n b = (L.getD i (0, zeroB)).2 := by
    intro m
    induction m with
    | zero => intro _; rw [Nat.add_zero, lastW_succ n b hi, if_pos h]
    | succ m ih =>
      intro hm
      rw [← Nat.add_assoc, lastW_succ n b (by omega), if_neg (hb _ (by omega) (by omega))]
      exact ih (by omega)
  have := key (L.length - (i + 1)) (by omega)
  rwa [show i + 1 + (L.length - (i + 1)) = L.length from by omega, List.take_length] at this
def NoK (k : Int) (pre : List (Nat × (Int × Blk))) : Prop := ∀ x ∈ pre, x.2.1 ≠ k
/-- A round has found it: it lies in the results' cells. -/
def HitK (s : Nat) (k : Int) (pre : List (Nat × (Int × Blk))) (W : World) : Prop := ∃ ini last, pre = ini ++ [last] ∧ NoK k ini ∧ last.2.1 = k ∧ W.rangeAt (s + 1) 0 (cel last.2.2) ∧ W.cell? ⟨s + 1 + 1, 0, none⟩ = some (.int .i64 0)
theorem pair_at {w : World} {b : Nat} {q : Int × Blk} {t : TypeId} (h : w.heap[b]? = some (.cells (cel65 q).toArray t (0, 0))) : w.cell? ⟨b, 0, none⟩ = some (.int .i64 q.1) ∧ w.rangeAt b 1 (cel q.2) := by
  have hr : w.rangeAt b 0 (cel65 q) := fun j v hj => by
    rw [cell_of_row _ _ (0 + j) (cel65 q).toArray t (0, 0) h]
    simpa using hj
  refine ⟨hr 0 _ rfl, fun j v hj => ?_⟩
  have := hr (j + 1) v hj
  rwa [show 0 + (j + 1) = 1 + j from by omega] at this
theorem keeps_setCells (b : Nat) : ∀ (vs : List Value) (o : Nat) (w : World), KeepsOthers w (w.setCells b o vs)
  | [], _, w => KeepsOthers.refl w
  | v :: r, o, w => (KeepsOthers.setCell w ⟨b, o, none⟩ v).trans (keeps_setCells b r (o + 1) _)
set_option maxRecDepth 100000 in
set_option maxHeartbeats 4000000 in
theorem p_read_ok (p k : Nat) (vS vL : Value) (S : List Blk) (L : List (Int × Blk)) (w : World) (h : PD w p vS vL S L false) (hk : k < S.length) (hLl : L.length ≤ 1000000) :
    Calls Try.prog 15 #[.pointer (some ⟨p, 0, none⟩), .int .i64 k] w fun e w' => e = .returned (.tuple #[blk (readB S L false k), .int .i64 0]) ∧ Below w.heap.size w w' := by
  obtain ⟨gS, cS, rfl⟩ := h.alive.slice rfl (by omega)
  obtain ⟨hA, k0, k1, k2, hsz⟩ := rd3_facts w (k : Int)
  have h1 := h.below hA
  have HA := Lib.hid hA
  have HE := Lib.hid (askE_ok (S := S) (n := (k : Int)) (by omega))
  have HK0 := Lib.hid k0
  have HK1 := Lib.hid k1
  have HK2 := Lib.hid k2
  obtain ⟨c0, f0⟩ := one_cell k0
  obtain ⟨AL, cL, rfl, hl1, hl2⟩ := h1.L_.form
  obtain ⟨d0, d1, d2, d3⟩ := cells4 h1.at_
  clear hA k0 k1 k2
  refine (callsIn_wide (n := 3)).1 ?_
  refine callsIn_of_wp_marks Try.func15 rfl trivial ?_ rfl
  refine wpIn_wide.2 ?_
  simp only [Try.ntmps15, List.size_toArray, List.length_cons, List.length_nil, Nat.reduceAdd, Nat.reduceSub, Array.replicate_succ, Array.replicate_zero, List.push_toArray, List.append_toArray, List.nil_append, List.cons_append]
  unfold rd3 at *
  go_wp2_with (first | (refine wpList_val rfl (exec_alloc rfl) ?_) | fail)
  generalize ((w.alloc (.cells #[.int .i64 (k : Int)] 3)).alloc (.cells (cel zeroB).toArray 33)).alloc (.cells #[.int .i64 0] 24) = w3 at *
  refine (p_refusal p _ _ S L false k w3 h1).mono ?_
  rintro e w4 ⟨rfl, rfl⟩
  rw [HE.out]
  go_wp2_with fail
  refine (callsIn_wide.1 (backward_in Fence.wide 3 trivial rfl AL L.length cL w3)).mono ?_
  rintro e w4 ⟨rfl, rfl⟩
  go_wp2_with fail
  have hB0 := HA.out.alloc HA.out.size (.cells #[.slice AL L.length cL] 59)
  have hbox := new1 w3 #[.slice AL L.length cL] 59
  have h2 := h1.below ((Below.refl _ w3).alloc (Nat.le_refl _) (.cells #[.slice AL L.length cL] 59))
  have k0 := blk_past HK0.out (.cells #[.slice AL L.length cL] 59)
  have k1 := blk_past HK1.out (.cells #[.slice AL L.length cL] 59)
  have k2 := blk_past HK2.out (.cells #[.slice AL L.length cL] 59)
  have hsz0 := World.size_alloc w3 (.cells #[.slice AL L.length cL] 59)
  rw [hsz] at hbox hsz0
  generalize w3.alloc (.cells #[.slice AL L.length cL] 59) = W0 at *
  clear c0 f0 d0 d1 d2 d3 h1 HA HK0 HK1 HK2 hsz
  have HK0 := Lib.hid k0
  have HK1 := Lib.hid k1
  have HK2 := Lib.hid k2
  have HH2 := Lib.hid h2
  have HB0 := Lib.hid hB0
  have hpw : p < w.heap.size := h.lt p (.inl rfl)
  have HH := Lib.hid h
  refine (wpIn_wide (n := 3)).1 ?_
  refine wpIn_rangeFunc_ownH rfl (by omega) (gf := 40) (lb := #[.pointer (some ⟨w.heap.size + 1 + 1 + 1, 0, none⟩)]) rfl trivial (enters_of Try.func40 (by kernel_rfl) rfl)
    (back_stops Fence.wide 2 trivial rfl (by omega) (w.heap.size + 1 + 1 + 1) AL cL L hLl W0 (by omega) (one_cell hbox).1 h2.L_.rd) belowK_t (belowK_b (Nat.le_refl _)) (Below.refl _ _) (fun _ => rfl)
    (fun pre W => NoK (k : Int) pre ∧ Below W0.heap.size W0 W)
    (fun c pre W => (c = .ret ∧ HitK w.heap.size (k : Int) pre W) ∧ Below w.heap.size w W)
    (OwnFrom.and (ownFrom_pure _ _) (ownFrom_below (Nat.le_refl _) (Nat.le_refl _)))
    (fun c => OwnFrom.and (Own.from (fun s A B row hs hg hr => by obtain ⟨hc, ini, last, e1, e2, e3, e4, e5⟩ := hs; exact ⟨hc, ini, last, e1, e2, e3, fun j v hj => cell_kept (e4 j v hj) hg hr, cell_kept e5 hg hr⟩) _) (ownFrom_below (Nat.le_refl _) (by omega)))
    ⟨fun x hx => absurd hx (by simp), Below.refl _ _⟩
    (fun x a' W => ∃ Bx, W0.heap.size ≤ Bx ∧ W.heap[Bx]? = some (.cells (cel65 x.2).toArray LwE.t) ∧ a' = { tmps := #[.pointer (some ⟨p, 0, none⟩), .int .i64 (k : Int), undef, .pointer (some ⟨w.heap.size, 0, none⟩), .pointer (some ⟨w.heap.size + 1, 0, none⟩), .pointer (some ⟨w.heap.size + 1 + 1, 0, none⟩), .int .i64 0, undef, .pointer (some ⟨Bx, 0, none⟩), .pointer (some ⟨p, 0, none⟩), .int .i64 (k : Int), .int .i64 0, .int .i64 0, .bool false, undef, undef, .pointer (some ⟨p, 0, none⟩), .pointer (some ⟨p, 0, none⟩), .pointer (some ⟨p, 2, none⟩), .slice AL L.length cL, .func (.func 40) #[] #[.pointer (some ⟨w.heap.size + 1 + 1 + 1, 0, none⟩)], .int .i64 (x.1 : Int), .agg (cel65 x.2).toArray, undef, undef, undef, undef, undef, undef, undef, undef, undef, undef, undef, undef, undef], defers := [] })
    (fun x a' _ X Y row hs hg hr => by
      obtain ⟨Bx, e1, e2, e3⟩ := hs
      exact ⟨Bx, e1, (hg.block Bx (blk_lt e2) (fun e => by obtain ⟨_, o, ho, hc⟩ := hr Bx e.symm; rw [e2] at ho; cases ho; cases hc)).trans e2, e3⟩)
    ?assign ?body ?done ?stop
  case assign =>
    rintro l pre x W K ⟨hne, hb⟩ hK
    simp only [encW, List.zip_toArray, List.zip_cons_cons, List.zip_nil_right, List.foldl_toArray, List.foldl_cons, List.foldl_nil, List.setIfInBounds_toArray, List.set_cons_succ, List.set_cons_zero]
    refine wpIn_region_lit ?_
    refine wpListIn_val rfl rfl rfl (exec_allocW rfl) ?_
    refine wpListIn_nul rfl rfl rfl (exec_fillW (a := x.2) rfl rfl rfl) ?_
    refine wpListIn_nil ?_
    exact hK _ _ ((KeepsOthers.alloc _ _).from _) ((Below.refl _ W).alloc hb.size _) ⟨hne, hb.alloc hb.size _⟩ ⟨W.heap.size, hb.size, heap_alloc_new W _, rfl⟩
  case body =>
    rintro l pre x a' W hl _ ⟨hne, hb⟩ ⟨Bx, hBx, hbx, rfl⟩ hlt
    obtain ⟨i, q1, qb⟩ := x
    have hn : W.cell? ⟨w.heap.size, 0, none⟩ = some (.int .i64 (k : Int)) := (one_cell (blk_keep HK0.out hb)).1
    have hk1 := blk_keep HK1.out hb
    have hk2 := blk_keep HK2.out hb
    obtain ⟨hx1, hx2⟩ := pair_at hbx
    have HX2 := Lib.hid hx2
    have HT := Lib.hid (blk_there hk1)
    have hO : Only (fun b => b = w.heap.size + 1) W (W.setCells (w.heap.size + 1) 0 (cel qb)) := (Only.refl (fun b => b = w.heap.size + 1) W).setCells (.inl rfl) _ _
    have hk2' := hO.keep hk2 (by omega)
    obtain ⟨c2, f2⟩ := one_cell hk2'
    have HB := Lib.hid hb
    have HNE := Lib.hid hne
    have HK2' := Lib.hid hk2'
    clear hb hne hbx hx2 hk1 hk2 hO hk2'
    by_cases hq : q1 = (k : Int)
    · subst hq
      gi_wp2_with (first | (refine wpListIn_val rfl rfl rfl (exec_faddr rfl rfl faV0) ?_) | (refine wpListIn_val rfl rfl rfl (exec_faddr rfl rfl faV1) ?_) | (refine wpListIn_val rfl rfl rfl (exec_load rfl rfl HX2.out) ?_) | (refine wpListIn_nul rfl rfl rfl (exec_store rfl rfl rfl ?ht) ?_; (case ht => exact HT.out)) | fail)
      have hr1 : (W.setCells (w.heap.size + 1) 0 (cel qb)).rangeAt (w.heap.size + 1) 0 (cel qb) := World.rangeAt_setCells_same _ _ _ _ (by rw [cel_length]; exact HT.out)
      have hr2 := range_other (b' := w.heap.size + 1 + 1) (i := 0) hr1 (by omega)
      have hbw := HB0.out.trans (HB.out.mono (by omega))
      have hb2 := below_setCells hbw (show w.heap.size ≤ w.heap.size + 1 by omega) (o := 0) (cel qb)
      exact ⟨((keeps_setCells _ _ _ _).trans (KeepsOthers.setCell _ _ _)).from _, ⟨rfl, pre, (i, (k : Int), qb), rfl, HNE.out, rfl, hr2 _, World.cell?_setCell_same' _ _ _ (by rw [c2]; rfl)⟩, hb2.setCell (p := ⟨w.heap.size + 1 + 1, 0, none⟩) (by show _ ≤ w.heap.size + 1 + 1; omega) _⟩
    · have hq' : (q1 == (k : Int)) = false := by simpa using hq
      gi_wp2_with (first | (refine wpListIn_val rfl rfl rfl (exec_faddr rfl rfl faV0) ?_) | (refine wpListIn_val rfl rfl rfl (exec_faddr rfl rfl faV1) ?_) | fail)
      exact ⟨KeepsFrom.refl _ _, Below.refl _ _, fun y hy => (List.mem_append.1 hy).elim (HNE.out y) (fun e => by simp at e; subst e; exact hq), by have := HB.out; rwa [hsz0] at this⟩
  case done =>
    rintro D ys W hD rfl ⟨hne, hb⟩ hK
    have hrd : readB S L false (k : Int) = S.getD k zeroB := by
      rw [readB_ok HE.out]
      refine lastW_none fun q hq => ?_
      obtain ⟨j, hj, rfl⟩ := List.getElem_of_mem hq
      have := hne _ (cmd_mem L L.length j (by omega) hj)
      simpa [List.getD, List.getElem?_eq_getElem hj] using this
    have h3 := HH2.out.below hb
    obtain ⟨c0, c1, c2, c3⟩ := cells4 h3.at_
    have hn : W.cell? ⟨w.heap.size, 0, none⟩ = some (.int .i64 (k : Int)) := (one_cell (blk_keep HK0.out hb)).1
    obtain ⟨b, off, hbe, _, hr⟩ := h3.alive.rd.blk hk
    injection hbe with hbe
    injection hbe with hb1 hb2
    subst hb1 hb2
    rw [Nat.zero_add] at hr
    have HRD0 := hrd
    generalize S.getD k zeroB = x at *
    have HRD := Lib.hid HRD0
    clear HRD0
    have hk1 := blk_keep HK1.out hb
    have hk2 := blk_keep HK2.out hb
    have HT := Lib.hid (blk_there hk1)
    have hO : Only (fun b => b = w.heap.size + 1) W (W.setCells (w.heap.size + 1) 0 (cel x)) := (Only.refl (fun b => b = w.heap.size + 1) W).setCells (.inl rfl) _ _
    have hk2' := hO.keep hk2 (by omega)
    have HK2W := Lib.hid hk2
    have HA := Lib.hid c1
    have HN := Lib.hid hn
    have HR := Lib.hid hr
    have HB := Lib.hid hb
    have HKD := Lib.hid hK
    clear hrd h3 c0 c1 c2 c3 hn hr hk1 hk2 hO hk2' hne hb hK
    go_wp2_with fail
    refine wp_region_still_tail 7 (by kernel_rfl) (by kernel_rfl) ?_
    simp only [List.take_succ_cons, List.take_zero, List.drop_succ_cons, List.drop_zero]
    refine st_val rfl (exec_mv rfl (ev rfl)) ?_
    simp only [Act.put, List.setIfInBounds_toArray, List.set_cons_succ, List.set_cons_zero]
    refine st_val rfl (exec_nil rfl (ev rfl)) ?_
    simp only [Act.put, List.setIfInBounds_toArray, List.set_cons_succ, List.set_cons_zero]
    refine st_val rfl (exec_faddr rfl (ev rfl) faP1) ?_
    simp only [Act.put, List.setIfInBounds_toArray, List.set_cons_succ, List.set_cons_zero]
    refine st_val rfl (exec_ld rfl (ev rfl) (ldB HA.out)) ?_
    simp only [Act.put, List.setIfInBounds_toArray, List.set_cons_succ, List.set_cons_zero]
    refine st_val rfl (exec_ld rfl (ev rfl) (ldI HN.out)) ?_
    simp only [Act.put, List.setIfInBounds_toArray, List.set_cons_succ, List.set_cons_zero]
    refine st_val rfl (exec_ix0B rfl (ev rfl) (ev rfl) hk) ?_
    simp only [Act.put, List.setIfInBounds_toArray, List.set_cons_succ, List.set_cons_zero]
    refine st_val rfl (exec_load rfl (ev rfl) HR.out) ?_
    simp only [Act.put, List.setIfInBounds_toArray, List.set_cons_succ, List.set_cons_zero]
    refine wpStill_nil ?_
    change wpList _ _ _ _ _ W.drew
    have HTd : W.drew.there (w.heap.size + 1) 0 64 := HT.out
    have HTd' := Lib.hid HTd
    have hk2d : (W.drew.setCells (w.heap.size + 1) 0 (cel x)).heap[w.heap.size + 1 + 1]? = some (.cells #[.int .i64 0] 24) := (blk_setCells _ _ _ W.drew _ (by omega)).trans HK2W.out
    obtain ⟨c2, f2⟩ := one_cell hk2d
    have HKd := ((keeps_setCells (w.heap.size + 1) (cel x) 0 W.drew).trans (KeepsOthers.setCell _ ⟨w.heap.size + 1 + 1, 0, none⟩ (.int .i64 0))).same D _ HKD.out rfl
    have HKH := Lib.hid HKd
    have hr1 : (W.drew.setCells (w.heap.size + 1) 0 (cel x)).rangeAt (w.heap.size + 1) 0 (cel x) := World.rangeAt_setCells_same _ _ _ _ (by rw [cel_length]; exact HTd)
    have HR2 := Lib.hid (range_other (b' := w.heap.size + 1 + 1) (i := 0) hr1 (by omega) (.int .i64 0))
    have HE2 := Lib.hid (World.cell?_setCell_same' (W.drew.setCells (w.heap.size + 1) 0 (cel x)) ⟨w.heap.size + 1 + 1, 0, none⟩ (.int .i64 0) (by rw [c2]; rfl))
    have hbw := bd (HB0.out.trans (HB.out.mono (by omega)))
    have HB2 := Lib.hid ((below_setCells hbw (show w.heap.size ≤ w.heap.size + 1 by omega) (o := 0) (cel x)).setCell (p := ⟨w.heap.size + 1 + 1, 0, none⟩) (by show _ ≤ w.heap.size + 1 + 1; omega) (.int .i64 0))
    clear hk2d HKd hr1 hbw HTd
    go_wp2_with (first | (refine wpList_nul rfl (exec_store rfl rfl rfl ?ht) ?_; (case ht => exact HTd'.out)) | fail)
    refine ⟨by simp, .inl ⟨_, _, rfl, run_takeDeferred HKH.out, ?_⟩⟩
    refine ⟨.tuple #[blk x, .int .i64 0], res_blkc rfl _ _ _ _ rfl rfl (fun j v hj => cell_kept (HR2.out j v hj) (grownBy_putObj' _ D (.deferred none)) (fun r e => by cases e; exact ⟨_, HKH.out, rfl⟩)) (cell_kept HE2.out (grownBy_putObj' _ D (.deferred none)) (fun r e => by cases e; exact ⟨_, HKH.out, rfl⟩)), by rw [HRD.out], HB2.out.trans (belowK_b (w := w) (Nat.le_refl _) _ D _ _ (by omega) HKH.out rfl rfl)⟩
  case stop =>
    rintro D c pre W hD ⟨d, hd, rfl⟩ ⟨⟨rfl, ini, last, e1, e2, e3, e4, e5⟩, hb⟩ hK
    have hrd : readB S L false (k : Int) = last.2.2 := by
      rw [readB_ok HE.out]
      cases d with
      | zero => simp [cmd] at e1
      | succ d =>
        rw [cmd] at e1
        obtain ⟨e6, e7⟩ := List.append_inj' e1 rfl
        subst e6
        have e8 : (L.length - 1 - d, L.getD (L.length - 1 - d) (0, zeroB)) = last := by simpa using e7
        subst e8
        refine lastW_at (i := L.length - 1 - d) (by omega) e3 fun j h1 h2 => ?_
        exact e2 _ (cmd_mem L d j (by omega) h2)
    gi_wp2
    refine ⟨by simp, .inl ⟨_, _, rfl, run_takeDeferred hK, ?_⟩⟩
    refine ⟨.tuple #[blk last.2.2, .int .i64 0], res_blkc rfl _ _ _ _ rfl rfl (fun j v hj => cell_kept (e4 j v hj) (grownBy_putObj' _ D (.deferred none)) (fun r e => by cases e; exact ⟨_, hK, rfl⟩)) (cell_kept e5 (grownBy_putObj' _ D (.deferred none)) (fun r e => by cases e; exact ⟨_, hK, rfl⟩)), by rw [hrd], hb.trans (belowK_b (w := w) (Nat.le_refl _) W D _ _ (by omega) hK rfl rfl)⟩
end Go.Proofs.Ytokdmcikoaagmaa
