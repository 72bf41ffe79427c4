/-
  The program's device: Write.
-/
import Derived.Test.YtokdmcikoaagmaaPdw
namespace Go.Proofs.Ytokdmcikoaagmaa
open Go.RowKit
set_option linter.unusedVariables false

set_option maxHeartbeats 1000000 in
theorem p_write_no (p : Nat) (vS vL : Value) (S : List Blk) (L : List (Int × Blk)) (g : Bool) (n : Int) (b : Blk) (w : World) (h : PD w p vS vL S L g) (he0 : askE S g n ≠ 0) :
    Calls Try.prog 16 #[.pointer (some ⟨p, 0, none⟩), .int .i64 n, blk b] w fun e w' => e = .returned (.int .i64 (askE S g n)) ∧ Below w.heap.size w w' := by
  have hA := (Below.refl w.heap.size w).alloc (Nat.le_refl _) (.cells (cel b).toArray 33)
  have h1 := h.below hA
  have HA := Lib.hid hA
  clear hA
  have H0 := Lib.hid he0
  rcases askE_is (S := S) (g := g) (n := n) with he | he | ⟨he, _⟩
  rotate_right 1
  · exact absurd he he0
  all_goals
    have HE := Lib.hid he
    clear he he0
    go_enter Try.func16, Try.ntmps16
    go_wp2_with (first | (refine wpList_val rfl (exec_box rfl rfl) ?_) | fail)
    refine (p_refusal p vS vL S L g n _ h1).mono ?_
    rintro e w1 ⟨rfl, rfl⟩
    rw [HE.out]
    go_wp2_with fail
    go_ret
    exact ⟨ret_int HE.out.symm, HA.out⟩
set_option maxHeartbeats 1000000 in
theorem p_write_ok (p k : Nat) (vS vL : Value) (S : List Blk) (L : List (Int × Blk)) (b : Blk) (w : World) (h : PD w p vS vL S L false) (hk : k < S.length) (hL : L.length < 1000000) :
    Calls Try.prog 16 #[.pointer (some ⟨p, 0, none⟩), .int .i64 k, blk b] w fun e w' => e = .returned (.int .i64 0) ∧ ∃ vL', PD w' p vS vL' S (L ++ [((k : Int), b)]) false ∧ Only (foot p vS vL) w w' ∧ (∀ x, vL'.ownBlock = some x → vL.ownBlock = some x ∨ w.heap.size ≤ x) := by
  have hA := (Below.refl w.heap.size w).alloc (Nat.le_refl _) (.cells (cel b).toArray 33)
  have h1 := h.below hA
  have HA := Lib.hid hA
  have HE := Lib.hid (askE_ok (S := S) (n := (k : Int)) (by omega))
  have HB := Lib.hid (new1 w (cel b).toArray 33)
  clear hA
  obtain ⟨AL, cL, rfl, hl1, hl2⟩ := h1.L_.form
  go_enter Try.func16, Try.ntmps16
  go_wp2_with (first | (refine wpList_val rfl (exec_box rfl rfl) ?_) | fail)
  refine (p_refusal p vS _ S L false k _ h1).mono ?_
  rintro e w1 ⟨rfl, rfl⟩
  rw [HE.out]
  go_wp2_with fail
  generalize hy : w.heap.size = y at *
  generalize w.alloc (.cells (cel b).toArray 33) = w1 at *
  refine wp_region_last (fun w' => w'.heap[p]? = some (.cells #[.int .i64 (S.length : Int), vS, .slice AL L.length cL, .bool false] 61) ∧ w'.heap[y]? = some (.cells (cel b).toArray 33)) 12 (by kernel_rfl) ?_
  change wpAnyZ _ _ _ _ _ _ 13 _ _ w1.drew
  have hS : w1.drew.heap[p]? = some (.cells #[.int .i64 (S.length : Int), vS, .slice AL L.length cL, .bool false] 61) ∧ w1.drew.heap[y]? = some (.cells (cel b).toArray 33) := ⟨h1.at_, HB.out⟩
  refine last_val 0 rfl (by kernel_rfl) (by kernel_rfl) (by kernel_rfl) (by decide) (by kernel_rfl) rfl (fun w' hw => exec_mv rfl (ev rfl)) (fun _ _ _ h => h) hS ?_
  simp only [Act.put, List.setIfInBounds_toArray, List.set_cons_succ, List.set_cons_zero]
  refine last_val 1 rfl (by kernel_rfl) (by kernel_rfl) (by kernel_rfl) (by decide) (by kernel_rfl) rfl (fun w' hw => exec_mv rfl (ev rfl)) (fun _ _ _ h => h) hS ?_
  simp only [Act.put, List.setIfInBounds_toArray, List.set_cons_succ, List.set_cons_zero]
  refine last_val 2 rfl (by kernel_rfl) (by kernel_rfl) (by kernel_rfl) (by decide) (by kernel_rfl) rfl (fun w' hw => exec_nil rfl (ev rfl)) (fun _ _ _ h => h) hS ?_
  simp only [Act.put, List.setIfInBounds_toArray, List.set_cons_succ, List.set_cons_zero]
  refine last_val 3 rfl (by kernel_rfl) (by kernel_rfl) (by kernel_rfl) (by decide) (by kernel_rfl) rfl (fun w' hw => exec_faddr rfl (ev rfl) faP2) (fun _ _ _ h => h) hS ?_
  simp only [Act.put, List.setIfInBounds_toArray, List.set_cons_succ, List.set_cons_zero]
  refine last_val 4 rfl (by kernel_rfl) (by kernel_rfl) (by kernel_rfl) (by decide) (by kernel_rfl) rfl (fun w' hw => exec_ld rfl (ev rfl) (ldP (cells4 hw.1).2.2.1)) (fun _ _ _ h => h) hS ?_
  simp only [Act.put, List.setIfInBounds_toArray, List.set_cons_succ, List.set_cons_zero]
  refine last_val 5 rfl (by kernel_rfl) (by kernel_rfl) (by kernel_rfl) (by decide) (by kernel_rfl) rfl (fun w' hw => exec_mv rfl (ev rfl)) (fun _ _ _ h => h) hS ?_
  simp only [Act.put, List.setIfInBounds_toArray, List.set_cons_succ, List.set_cons_zero]
  refine last_val 6 rfl (by kernel_rfl) (by kernel_rfl) (by kernel_rfl) (by decide) (by kernel_rfl) rfl (fun w' hw => exec_load rfl (ev rfl) (blk_range hw.2)) (fun _ _ _ h => h) hS ?_
  simp only [Act.put, List.setIfInBounds_toArray, List.set_cons_succ, List.set_cons_zero]
  refine last_val 7 rfl (by kernel_rfl) (by kernel_rfl) (by kernel_rfl) (by decide) (by kernel_rfl) rfl (fun w' hw => exec_buildW rfl (ev rfl) (ev rfl)) (fun _ _ _ h => h) hS ?_
  simp only [Act.put, List.setIfInBounds_toArray, List.set_cons_succ, List.set_cons_zero]
  have hr : PD w1.drew p vS (.slice AL L.length cL) S L false := ⟨h1.at_, h1.one, h1.S_, h1.L_, h1.dead⟩
  have hS2 : PD (w1.drew.alloc (.cells (LwE.cel ((k : Int), b)).toArray LwE.t)) p vS (.slice AL L.length cL) S L false := hr.below ((Below.refl _ _).alloc (Nat.le_refl _) _)
  have hb2 := blk_past hS.2 (.cells (LwE.cel ((k : Int), b)).toArray LwE.t)
  have hnew : RdE LwE _ _ _ 1 _ := rdE_new (E := LwE) (l := [((k : Int), b)]) w1.drew (LwE.cel ((k : Int), b)).toArray LwE.t (by rw [flatE_cons]; simp [flatE])
  obtain ⟨v3, w3, hrun, hm3, hg3, ho3⟩ := run_appE_own LwE _ 59 0 _ 1 1 _ _ _ _ hS2.L_ hnew (Nat.zero_le _) (by omega)
  have hO2 : Only (foot p vS (.slice AL L.length cL)) w (w1.drew.alloc (.cells (LwE.cel ((k : Int), b)).toArray LwE.t)) := (Only.of_below _ (hy ▸ HA.out)).drew.alloc _
  have hO3 := hO2.grown hg3 (fun x hx => .inl (.inr (.inr hx)))
  have hp3 : w3.heap[p]? = some (.cells #[.int .i64 (S.length : Int), vS, .slice AL L.length cL, .bool false] 61) := (hg3.block p (blk_lt hS2.at_) (fun e => hS2.L_.not_at hS2.at_ (by decide) e.symm)).trans hS2.at_
  have hy3 : w3.heap[y]? = some (.cells (cel b).toArray 33) := (hg3.block y (blk_lt hb2) (fun e => hS2.L_.not_at hb2 (by decide) e.symm)).trans hb2
  have hSS3 := hS2.S_.kept hg3 (hS2.S_.other hS2.L_ (by decide))
  refine last_turn 8 rfl (by kernel_rfl) rfl (exec_mk1E (E := LwE) (a := ((k : Int), b)) rfl (ev rfl) (pairW_cells _ _) (by decide)) (fun _ => ⟨hS2.at_, hb2⟩) ?_
  simp only [Act.put, List.setIfInBounds_toArray, List.set_cons_succ, List.set_cons_zero]
  refine last_turn 9 rfl (by kernel_rfl) rfl (exec_appE (E := LwE) rfl (ev rfl) (ev rfl) hrun) (fun _ => ⟨hp3, hy3⟩) ?_
  simp only [Act.put, List.setIfInBounds_toArray, List.set_cons_succ, List.set_cons_zero]
  refine last_turn 10 rfl (by kernel_rfl) rfl (exec_nil rfl (ev rfl)) (fun _ => ⟨hp3, hy3⟩) ?_
  simp only [Act.put, List.setIfInBounds_toArray, List.set_cons_succ, List.set_cons_zero]
  refine last_turn 11 rfl (by kernel_rfl) rfl (exec_faddr rfl (ev rfl) faP2) (fun _ => ⟨hp3, hy3⟩) ?_
  simp only [Act.put, List.setIfInBounds_toArray, List.set_cons_succ, List.set_cons_zero]
  obtain ⟨A3, c3, rfl, _, _⟩ := hm3.form
  refine last_nul 12 rfl (by kernel_rfl) rfl (exec_st rfl (ev rfl) (ev rfl) (stP (cells4 hp3).2.2.1 (frozen_of_row _ _ _ _ _ hp3))) (fun e => absurd rfl e) ?_
  simp only [Act.put]
  refine wpAnyZ_done (by kernel_rfl) ?_ _
  go_wp2_with fail
  go_ret
  refine ⟨rfl, _, p_lay_L hp3 h1.one hSS3 hm3 (fun e => absurd e (by decide)), hO3.setCell (.inl (.inl rfl)) _, fun x hx => ?_⟩
  rcases ho3 x hx with e | e
  · exact .inl e
  · refine .inr (Nat.le_trans ?_ e)
    have := hO2.size
    omega
theorem p_write (p : Nat) (vS vL : Value) (S : List Blk) (L : List (Int × Blk)) (g : Bool) (n : Int) (b : Blk) (w : World) (h : PD w p vS vL S L g) (hL : L.length < 1000000) :
    Calls Try.prog 16 #[.pointer (some ⟨p, 0, none⟩), .int .i64 n, blk b] w fun e w' => e = .returned (.int .i64 (askE S g n)) ∧ ∃ vL', PD w' p vS vL' S (wrL S L g n b) g ∧ Only (foot p vS vL) w w' ∧ (∀ x, vL'.ownBlock = some x → vL.ownBlock = some x ∨ w.heap.size ≤ x) := by
  by_cases he : askE S g n = 0
  · rcases askE_is (S := S) (g := g) (n := n) with h1 | h1 | ⟨_, rfl, k, rfl, hk⟩
    · omega
    · omega
    · have e : wrL S L false k b = L ++ [((k : Int), b)] := by unfold wrL; rw [if_pos he]
      rw [e, he]
      exact p_write_ok p k vS vL S L b w h hk hL
  · have e : wrL S L g n b = L := by unfold wrL; rw [if_neg he]
    rw [e]
    exact (p_write_no p vS vL S L g n b w h he).mono fun e w' ⟨h1, h2⟩ => ⟨h1, vL, h.below h2, Only.of_below _ h2, fun x hx => .inl hx⟩
end Go.Proofs.Ytokdmcikoaagmaa
