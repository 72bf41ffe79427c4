/-
  The program's roster: is there such a member, such a stripe; how many are in a state; may a roster be. The document's.
-/
import Derived.Test.YtnckcafemdcaeaaRoM
import Derived.Test.YtnckcafemdcaeaaRgm
import Derived.Test.YtnckcafemdcaeaaRfi
namespace Go.Proofs.Ytnckcafemdcaeaa
open Go.RowKit
set_option linter.unusedVariables false
set_option linter.unusedSimpArgs false
set_option maxRecDepth 100000

set_option maxHeartbeats 1000000 in
theorem pmember (x : Ros) (m : Int) (w : World) : Calls Try.prog 34 #[ros x, .int .i64 m] w fun e w' => e = .returned (.bool (hasM x m)) ∧ Below w.heap.size w w' := by
  obtain ⟨h1, h2, h3⟩ := boxR_new w x
  have HR := Lib.hid h1
  have HB := Lib.hid h2
  have HC := Lib.hid h1.cells.1
  clear h1 h2 h3
  have HF : Hid (hasM x m = decide (0 ≤ m ∧ m < x.m)) := Lib.hid rfl
  go_enter Try.func34, Try.ntmps34
  go_upto_region 1 with (first | (refine wpList_valn rfl (exec_boxR rfl rfl) ?_) | fail)
  generalize w.alloc (.cells (celR x).toArray 26) = w1 at *
  generalize x.m = k at *
  by_cases h0 : 0 ≤ m
  · have H0 : Hid (decide ((0 : Int) ≤ m) = true) := Lib.hid (decide_eq_true h0)
    by_cases h1 : m < k
    · have H1 : Hid (decide (m < k) = true) := Lib.hid (decide_eq_true h1)
      have HE : Hid (hasM x m = true) := Lib.hid (by rw [HF.out, decide_eq_true ⟨h0, h1⟩])
      clear h0 h1
      refine wp_region_lit ?_
      refine wpList_valn rfl (exec_mv rfl (ev rfl)) ?_
      simp only [Act.put, List.setIfInBounds_toArray, List.set_cons_succ, List.set_cons_zero]
      refine wpList_valn (v := .bool true) rfl (exec_geq true rfl (ev rfl) evk H0.out) ?_
      simp only [Act.put, List.setIfInBounds_toArray, List.set_cons_succ, List.set_cons_zero]
      refine wpList_valn (v := .bool true) rfl (exec_mv rfl (ev rfl)) ?_
      simp only [Act.put, List.setIfInBounds_toArray, List.set_cons_succ, List.set_cons_zero]
      refine wpList_val (wanted_of rfl rfl rfl rfl) (exec_mv rfl (ev rfl)) ?_
      simp only [Act.put, List.setIfInBounds_toArray, List.set_cons_succ, List.set_cons_zero]
      refine wpList_val (wanted_of rfl rfl rfl rfl) (exec_faddr rfl (ev rfl) faR0) ?_
      simp only [Act.put, List.setIfInBounds_toArray, List.set_cons_succ, List.set_cons_zero]
      refine wpList_val (wanted_of rfl rfl rfl rfl) (exec_faddr rfl (ev rfl) faG0) ?_
      simp only [Act.put, List.setIfInBounds_toArray, List.set_cons_succ, List.set_cons_zero]
      refine wpList_val (wanted_of rfl rfl rfl rfl) (exec_ld rfl (ev rfl) (ldInt HC.out)) ?_
      simp only [Act.put, List.setIfInBounds_toArray, List.set_cons_succ, List.set_cons_zero]
      refine wpList_val (v := .bool true) (wanted_of rfl rfl rfl rfl) (exec_lss true rfl (ev rfl) (ev rfl) H1.out) ?_
      simp only [Act.put, List.setIfInBounds_toArray, List.set_cons_succ, List.set_cons_zero]
      refine wpList_valn (v := .bool true) rfl (exec_pt rfl (ev rfl) (ev rfl)) ?_
      simp only [Act.put, List.setIfInBounds_toArray, List.set_cons_succ, List.set_cons_zero]
      refine wpList_valn (v := .bool true) rfl (exec_as rfl (ev rfl)) ?_
      simp only [Act.put, List.setIfInBounds_toArray, List.set_cons_succ, List.set_cons_zero]
      refine wpList_nil ?_
      go_wp2_with fail
      go_ret
      exact ⟨ret_bool (by rw [HE.out]), HB.out⟩
    · have H1 : Hid (decide (m < k) = false) := Lib.hid (decide_eq_false h1)
      have HE : Hid (hasM x m = false) := Lib.hid (by rw [HF.out, decide_eq_false (fun e => h1 e.2)])
      clear h0 h1
      refine wp_region_lit ?_
      refine wpList_valn rfl (exec_mv rfl (ev rfl)) ?_
      simp only [Act.put, List.setIfInBounds_toArray, List.set_cons_succ, List.set_cons_zero]
      refine wpList_valn (v := .bool true) rfl (exec_geq true rfl (ev rfl) evk H0.out) ?_
      simp only [Act.put, List.setIfInBounds_toArray, List.set_cons_succ, List.set_cons_zero]
      refine wpList_valn (v := .bool true) rfl (exec_mv rfl (ev rfl)) ?_
      simp only [Act.put, List.setIfInBounds_toArray, List.set_cons_succ, List.set_cons_zero]
      refine wpList_val (wanted_of rfl rfl rfl rfl) (exec_mv rfl (ev rfl)) ?_
      simp only [Act.put, List.setIfInBounds_toArray, List.set_cons_succ, List.set_cons_zero]
      refine wpList_val (wanted_of rfl rfl rfl rfl) (exec_faddr rfl (ev rfl) faR0) ?_
      simp only [Act.put, List.setIfInBounds_toArray, List.set_cons_succ, List.set_cons_zero]
      refine wpList_val (wanted_of rfl rfl rfl rfl) (exec_faddr rfl (ev rfl) faG0) ?_
      simp only [Act.put, List.setIfInBounds_toArray, List.set_cons_succ, List.set_cons_zero]
      refine wpList_val (wanted_of rfl rfl rfl rfl) (exec_ld rfl (ev rfl) (ldInt HC.out)) ?_
      simp only [Act.put, List.setIfInBounds_toArray, List.set_cons_succ, List.set_cons_zero]
      refine wpList_val (v := .bool false) (wanted_of rfl rfl rfl rfl) (exec_lss false rfl (ev rfl) (ev rfl) H1.out) ?_
      simp only [Act.put, List.setIfInBounds_toArray, List.set_cons_succ, List.set_cons_zero]
      refine wpList_valn (v := .bool false) rfl (exec_pt rfl (ev rfl) (ev rfl)) ?_
      simp only [Act.put, List.setIfInBounds_toArray, List.set_cons_succ, List.set_cons_zero]
      refine wpList_valn (v := .bool false) rfl (exec_as rfl (ev rfl)) ?_
      simp only [Act.put, List.setIfInBounds_toArray, List.set_cons_succ, List.set_cons_zero]
      refine wpList_nil ?_
      go_wp2_with fail
      go_ret
      exact ⟨ret_bool (by rw [HE.out]), HB.out⟩
  · have H0 : Hid (decide ((0 : Int) ≤ m) = false) := Lib.hid (decide_eq_false h0)
    have HE : Hid (hasM x m = false) := Lib.hid (by rw [HF.out, decide_eq_false (fun e => h0 e.1)])
    clear h0
    refine wp_region_lit ?_
    refine wpList_valn rfl (exec_mv rfl (ev rfl)) ?_
    simp only [Act.put, List.setIfInBounds_toArray, List.set_cons_succ, List.set_cons_zero]
    refine wpList_valn (v := .bool false) rfl (exec_geq false rfl (ev rfl) evk H0.out) ?_
    simp only [Act.put, List.setIfInBounds_toArray, List.set_cons_succ, List.set_cons_zero]
    refine wpList_skips 5 (v := .bool false) rfl (exec_mv rfl (ev rfl)) (by kernel_rfl) ?_
    simp only [skipAct, List.take_succ_cons, List.take_zero, List.drop_succ_cons, List.drop_zero, Act.put, List.setIfInBounds_toArray, List.set_cons_succ, List.set_cons_zero]
    refine wpList_valn (v := .bool false) rfl (exec_pf rfl (ev rfl) evk) ?_
    simp only [Act.put, List.setIfInBounds_toArray, List.set_cons_succ, List.set_cons_zero]
    refine wpList_valn (v := .bool false) rfl (exec_as rfl (ev rfl)) ?_
    simp only [Act.put, List.setIfInBounds_toArray, List.set_cons_succ, List.set_cons_zero]
    refine wpList_nil ?_
    go_wp2_with fail
    go_ret
    exact ⟨ret_bool (by rw [HE.out]), HB.out⟩
set_option maxHeartbeats 1000000 in
theorem pstripe (x : Ros) (m : Int) (w : World) : Calls Try.prog 35 #[ros x, .int .i64 m] w fun e w' => e = .returned (.bool (hasC x m)) ∧ Below w.heap.size w w' := by
  obtain ⟨h1, h2, h3⟩ := boxR_new w x
  have HR := Lib.hid h1
  have HB := Lib.hid h2
  have HC := Lib.hid h1.cells.2.1
  clear h1 h2 h3
  have HF : Hid (hasC x m = decide (0 ≤ m ∧ m < x.s)) := Lib.hid rfl
  go_enter Try.func35, Try.ntmps35
  go_upto_region 1 with (first | (refine wpList_valn rfl (exec_boxR rfl rfl) ?_) | fail)
  generalize w.alloc (.cells (celR x).toArray 26) = w1 at *
  generalize x.s = k at *
  by_cases h0 : 0 ≤ m
  · have H0 : Hid (decide ((0 : Int) ≤ m) = true) := Lib.hid (decide_eq_true h0)
    by_cases h1 : m < k
    · have H1 : Hid (decide (m < k) = true) := Lib.hid (decide_eq_true h1)
      have HE : Hid (hasC x m = true) := Lib.hid (by rw [HF.out, decide_eq_true ⟨h0, h1⟩])
      clear h0 h1
      refine wp_region_lit ?_
      refine wpList_valn rfl (exec_mv rfl (ev rfl)) ?_
      simp only [Act.put, List.setIfInBounds_toArray, List.set_cons_succ, List.set_cons_zero]
      refine wpList_valn (v := .bool true) rfl (exec_geq true rfl (ev rfl) evk H0.out) ?_
      simp only [Act.put, List.setIfInBounds_toArray, List.set_cons_succ, List.set_cons_zero]
      refine wpList_valn (v := .bool true) rfl (exec_mv rfl (ev rfl)) ?_
      simp only [Act.put, List.setIfInBounds_toArray, List.set_cons_succ, List.set_cons_zero]
      refine wpList_val (wanted_of rfl rfl rfl rfl) (exec_mv rfl (ev rfl)) ?_
      simp only [Act.put, List.setIfInBounds_toArray, List.set_cons_succ, List.set_cons_zero]
      refine wpList_val (wanted_of rfl rfl rfl rfl) (exec_faddr rfl (ev rfl) faR0) ?_
      simp only [Act.put, List.setIfInBounds_toArray, List.set_cons_succ, List.set_cons_zero]
      refine wpList_val (wanted_of rfl rfl rfl rfl) (exec_faddr rfl (ev rfl) faG1) ?_
      simp only [Act.put, List.setIfInBounds_toArray, List.set_cons_succ, List.set_cons_zero]
      refine wpList_val (wanted_of rfl rfl rfl rfl) (exec_ld rfl (ev rfl) (ldInt HC.out)) ?_
      simp only [Act.put, List.setIfInBounds_toArray, List.set_cons_succ, List.set_cons_zero]
      refine wpList_val (v := .bool true) (wanted_of rfl rfl rfl rfl) (exec_lss true rfl (ev rfl) (ev rfl) H1.out) ?_
      simp only [Act.put, List.setIfInBounds_toArray, List.set_cons_succ, List.set_cons_zero]
      refine wpList_valn (v := .bool true) rfl (exec_pt rfl (ev rfl) (ev rfl)) ?_
      simp only [Act.put, List.setIfInBounds_toArray, List.set_cons_succ, List.set_cons_zero]
      refine wpList_valn (v := .bool true) rfl (exec_as rfl (ev rfl)) ?_
      simp only [Act.put, List.setIfInBounds_toArray, List.set_cons_succ, List.set_cons_zero]
      refine wpList_nil ?_
      go_wp2_with fail
      go_ret
      exact ⟨ret_bool (by rw [HE.out]), HB.out⟩
    · have H1 : Hid (decide (m < k) = false) := Lib.hid (decide_eq_false h1)
      have HE : Hid (hasC x m = false) := Lib.hid (by rw [HF.out, decide_eq_false (fun e => h1 e.2)])
      clear h0 h1
      refine wp_region_lit ?_
      refine wpList_valn rfl (exec_mv rfl (ev rfl)) ?_
      simp only [Act.put, List.setIfInBounds_toArray, List.set_cons_succ, List.set_cons_zero]
      refine wpList_valn (v := .bool true) rfl (exec_geq true rfl (ev rfl) evk H0.out) ?_
      simp only [Act.put, List.setIfInBounds_toArray, List.set_cons_succ, List.set_cons_zero]
      refine wpList_valn (v := .bool true) rfl (exec_mv rfl (ev rfl)) ?_
      simp only [Act.put, List.setIfInBounds_toArray, List.set_cons_succ, List.set_cons_zero]
      refine wpList_val (wanted_of rfl rfl rfl rfl) (exec_mv rfl (ev rfl)) ?_
      simp only [Act.put, List.setIfInBounds_toArray, List.set_cons_succ, List.set_cons_zero]
      refine wpList_val (wanted_of rfl rfl rfl rfl) (exec_faddr rfl (ev rfl) faR0) ?_
      simp only [Act.put, List.setIfInBounds_toArray, List.set_cons_succ, List.set_cons_zero]
      refine wpList_val (wanted_of rfl rfl rfl rfl) (exec_faddr rfl (ev rfl) faG1) ?_
      simp only [Act.put, List.setIfInBounds_toArray, List.set_cons_succ, List.set_cons_zero]
      refine wpList_val (wanted_of rfl rfl rfl rfl) (exec_ld rfl (ev rfl) (ldInt HC.out)) ?_
      simp only [Act.put, List.setIfInBounds_toArray, List.set_cons_succ, List.set_cons_zero]
      refine wpList_val (v := .bool false) (wanted_of rfl rfl rfl rfl) (exec_lss false rfl (ev rfl) (ev rfl) H1.out) ?_
      simp only [Act.put, List.setIfInBounds_toArray, List.set_cons_succ, List.set_cons_zero]
      refine wpList_valn (v := .bool false) rfl (exec_pt rfl (ev rfl) (ev rfl)) ?_
      simp only [Act.put, List.setIfInBounds_toArray, List.set_cons_succ, List.set_cons_zero]
      refine wpList_valn (v := .bool false) rfl (exec_as rfl (ev rfl)) ?_
      simp only [Act.put, List.setIfInBounds_toArray, List.set_cons_succ, List.set_cons_zero]
      refine wpList_nil ?_
      go_wp2_with fail
      go_ret
      exact ⟨ret_bool (by rw [HE.out]), HB.out⟩
  · have H0 : Hid (decide ((0 : Int) ≤ m) = false) := Lib.hid (decide_eq_false h0)
    have HE : Hid (hasC x m = false) := Lib.hid (by rw [HF.out, decide_eq_false (fun e => h0 e.1)])
    clear h0
    refine wp_region_lit ?_
    refine wpList_valn rfl (exec_mv rfl (ev rfl)) ?_
    simp only [Act.put, List.setIfInBounds_toArray, List.set_cons_succ, List.set_cons_zero]
    refine wpList_valn (v := .bool false) rfl (exec_geq false rfl (ev rfl) evk H0.out) ?_
    simp only [Act.put, List.setIfInBounds_toArray, List.set_cons_succ, List.set_cons_zero]
    refine wpList_skips 5 (v := .bool false) rfl (exec_mv rfl (ev rfl)) (by kernel_rfl) ?_
    simp only [skipAct, List.take_succ_cons, List.take_zero, List.drop_succ_cons, List.drop_zero, Act.put, List.setIfInBounds_toArray, List.set_cons_succ, List.set_cons_zero]
    refine wpList_valn (v := .bool false) rfl (exec_pf rfl (ev rfl) evk) ?_
    simp only [Act.put, List.setIfInBounds_toArray, List.set_cons_succ, List.set_cons_zero]
    refine wpList_valn (v := .bool false) rfl (exec_as rfl (ev rfl)) ?_
    simp only [Act.put, List.setIfInBounds_toArray, List.set_cons_succ, List.set_cons_zero]
    refine wpList_nil ?_
    go_wp2_with fail
    go_ret
    exact ⟨ret_bool (by rw [HE.out]), HB.out⟩
set_option maxHeartbeats 1000000 in
theorem rmember (x : Ros) (m : Int) (w : World) : Calls Try.prog 36 #[ros x, .int .i64 m] w fun e w' => e = .returned (.bool (hasM x m)) ∧ Below w.heap.size w w' := by
  obtain ⟨h1, h2, h3⟩ := boxR_new w x
  have HR := Lib.hid h1
  have HB := Lib.hid h2
  have HC := Lib.hid h1.cells.1
  clear h1 h2 h3
  have HF : Hid (hasM x m = decide (0 ≤ m ∧ m < x.m)) := Lib.hid rfl
  go_enter Try.func36, Try.ntmps36
  go_upto_region 1 with (first | (refine wpList_valn rfl (exec_boxR rfl rfl) ?_) | fail)
  generalize w.alloc (.cells (celR x).toArray 26) = w1 at *
  generalize x.m = k at *
  by_cases h0 : 0 ≤ m
  · have H0 : Hid (decide ((0 : Int) ≤ m) = true) := Lib.hid (decide_eq_true h0)
    by_cases h1 : m < k
    · have H1 : Hid (decide (m < k) = true) := Lib.hid (decide_eq_true h1)
      have HE : Hid (hasM x m = true) := Lib.hid (by rw [HF.out, decide_eq_true ⟨h0, h1⟩])
      clear h0 h1
      refine wp_region_lit ?_
      refine wpList_valn rfl (exec_mv rfl (ev rfl)) ?_
      simp only [Act.put, List.setIfInBounds_toArray, List.set_cons_succ, List.set_cons_zero]
      refine wpList_valn (v := .bool true) rfl (exec_geq true rfl (ev rfl) evk H0.out) ?_
      simp only [Act.put, List.setIfInBounds_toArray, List.set_cons_succ, List.set_cons_zero]
      refine wpList_valn (v := .bool true) rfl (exec_mv rfl (ev rfl)) ?_
      simp only [Act.put, List.setIfInBounds_toArray, List.set_cons_succ, List.set_cons_zero]
      refine wpList_val (wanted_of rfl rfl rfl rfl) (exec_mv rfl (ev rfl)) ?_
      simp only [Act.put, List.setIfInBounds_toArray, List.set_cons_succ, List.set_cons_zero]
      refine wpList_val (wanted_of rfl rfl rfl rfl) (exec_faddr rfl (ev rfl) faR0) ?_
      simp only [Act.put, List.setIfInBounds_toArray, List.set_cons_succ, List.set_cons_zero]
      refine wpList_val (wanted_of rfl rfl rfl rfl) (exec_faddr rfl (ev rfl) faG0) ?_
      simp only [Act.put, List.setIfInBounds_toArray, List.set_cons_succ, List.set_cons_zero]
      refine wpList_val (wanted_of rfl rfl rfl rfl) (exec_ld rfl (ev rfl) (ldInt HC.out)) ?_
      simp only [Act.put, List.setIfInBounds_toArray, List.set_cons_succ, List.set_cons_zero]
      refine wpList_val (v := .bool true) (wanted_of rfl rfl rfl rfl) (exec_lss true rfl (ev rfl) (ev rfl) H1.out) ?_
      simp only [Act.put, List.setIfInBounds_toArray, List.set_cons_succ, List.set_cons_zero]
      refine wpList_valn (v := .bool true) rfl (exec_pt rfl (ev rfl) (ev rfl)) ?_
      simp only [Act.put, List.setIfInBounds_toArray, List.set_cons_succ, List.set_cons_zero]
      refine wpList_valn (v := .bool true) rfl (exec_as rfl (ev rfl)) ?_
      simp only [Act.put, List.setIfInBounds_toArray, List.set_cons_succ, List.set_cons_zero]
      refine wpList_nil ?_
      go_wp2_with fail
      go_ret
      exact ⟨ret_bool (by rw [HE.out]), HB.out⟩
    · have H1 : Hid (decide (m < k) = false) := Lib.hid (decide_eq_false h1)
      have HE : Hid (hasM x m = false) := Lib.hid (by rw [HF.out, decide_eq_false (fun e => h1 e.2)])
      clear h0 h1
      refine wp_region_lit ?_
      refine wpList_valn rfl (exec_mv rfl (ev rfl)) ?_
      simp only [Act.put, List.setIfInBounds_toArray, List.set_cons_succ, List.set_cons_zero]
      refine wpList_valn (v := .bool true) rfl (exec_geq true rfl (ev rfl) evk H0.out) ?_
      simp only [Act.put, List.setIfInBounds_toArray, List.set_cons_succ, List.set_cons_zero]
      refine wpList_valn (v := .bool true) rfl (exec_mv rfl (ev rfl)) ?_
      simp only [Act.put, List.setIfInBounds_toArray, List.set_cons_succ, List.set_cons_zero]
      refine wpList_val (wanted_of rfl rfl rfl rfl) (exec_mv rfl (ev rfl)) ?_
      simp only [Act.put, List.setIfInBounds_toArray, List.set_cons_succ, List.set_cons_zero]
      refine wpList_val (wanted_of rfl rfl rfl rfl) (exec_faddr rfl (ev rfl) faR0) ?_
      simp only [Act.put, List.setIfInBounds_toArray, List.set_cons_succ, List.set_cons_zero]
      refine wpList_val (wanted_of rfl rfl rfl rfl) (exec_faddr rfl (ev rfl) faG0) ?_
      simp only [Act.put, List.setIfInBounds_toArray, List.set_cons_succ, List.set_cons_zero]
      refine wpList_val (wanted_of rfl rfl rfl rfl) (exec_ld rfl (ev rfl) (ldInt HC.out)) ?_
      simp only [Act.put, List.setIfInBounds_toArray, List.set_cons_succ, List.set_cons_zero]
      refine wpList_val (v := .bool false) (wanted_of rfl rfl rfl rfl) (exec_lss false rfl (ev rfl) (ev rfl) H1.out) ?_
      simp only [Act.put, List.setIfInBounds_toArray, List.set_cons_succ, List.set_cons_zero]
      refine wpList_valn (v := .bool false) rfl (exec_pt rfl (ev rfl) (ev rfl)) ?_
      simp only [Act.put, List.setIfInBounds_toArray, List.set_cons_succ, List.set_cons_zero]
      refine wpList_valn (v := .bool false) rfl (exec_as rfl (ev rfl)) ?_
      simp only [Act.put, List.setIfInBounds_toArray, List.set_cons_succ, List.set_cons_zero]
      refine wpList_nil ?_
      go_wp2_with fail
      go_ret
      exact ⟨ret_bool (by rw [HE.out]), HB.out⟩
  · have H0 : Hid (decide ((0 : Int) ≤ m) = false) := Lib.hid (decide_eq_false h0)
    have HE : Hid (hasM x m = false) := Lib.hid (by rw [HF.out, decide_eq_false (fun e => h0 e.1)])
    clear h0
    refine wp_region_lit ?_
    refine wpList_valn rfl (exec_mv rfl (ev rfl)) ?_
    simp only [Act.put, List.setIfInBounds_toArray, List.set_cons_succ, List.set_cons_zero]
    refine wpList_valn (v := .bool false) rfl (exec_geq false rfl (ev rfl) evk H0.out) ?_
    simp only [Act.put, List.setIfInBounds_toArray, List.set_cons_succ, List.set_cons_zero]
    refine wpList_skips 5 (v := .bool false) rfl (exec_mv rfl (ev rfl)) (by kernel_rfl) ?_
    simp only [skipAct, List.take_succ_cons, List.take_zero, List.drop_succ_cons, List.drop_zero, Act.put, List.setIfInBounds_toArray, List.set_cons_succ, List.set_cons_zero]
    refine wpList_valn (v := .bool false) rfl (exec_pf rfl (ev rfl) evk) ?_
    simp only [Act.put, List.setIfInBounds_toArray, List.set_cons_succ, List.set_cons_zero]
    refine wpList_valn (v := .bool false) rfl (exec_as rfl (ev rfl)) ?_
    simp only [Act.put, List.setIfInBounds_toArray, List.set_cons_succ, List.set_cons_zero]
    refine wpList_nil ?_
    go_wp2_with fail
    go_ret
    exact ⟨ret_bool (by rw [HE.out]), HB.out⟩
set_option maxHeartbeats 1000000 in
theorem pmany (x : Ros) (c : Int) (w : World) : Calls Try.prog 37 #[ros x, .int .u8 c] w fun e w' => e = .returned (.int .i64 (many x c : Nat)) ∧ Below w.heap.size w w' := by
  obtain ⟨h1, h2, h3⟩ := boxR_new w x
  have HR := Lib.hid h1
  have HB := Lib.hid h2
  clear h1 h2 h3
  have HL := Lib.hid (stL_length x.st)
  have HH := Lib.hid (many_def x c)
  go_enter Try.func37, Try.ntmps37
  go_wp2_with (first | (refine wpList_valn rfl (exec_boxR rfl rfl) ?_) | (refine wpList_valn rfl (exec_load16 HL.out rfl rfl ?_) ?_; (with_reducible exact HR.out.sts)) | fail)
  generalize w.alloc (.cells (celR x).toArray 26) = w1 at *
  generalize x.st.toList = l at *
  go_loop [5, 10] (fun n i => ∃ j : Nat, j ≤ 16 ∧ i = .int .i64 j ∧ n = .int .i64 (cntK l c j : Nat)) (fun _ i => 16 - (intOf i).toNat)
  case atStart => exact ⟨0, Nat.zero_le _, rfl, rfl⟩
  case round =>
    obtain ⟨j, hj, rfl, rfl⟩ := hrel
    by_cases hlt : j < 16
    · have hs := Lib.hid (cntK_succ l c j)
      have hle := cntK_le l c j
      generalize cntK l c j = n at *
      by_cases h2 : bt l j = c
      · rw [if_pos h2] at hs
        have hd : (bt l j == c) = true := by simpa using h2
        clear h2
        go_wp2_with (first | (refine wpList_valn rfl (exec_ix16 (l := l) (j := j) HL.out hlt rfl rfl rfl) ?_) | fail)
        go_round
        case rel => exact ⟨j + 1, by omega, by go_num, by rw [hs.out]; go_num⟩
        case measure => simp [intOf]; omega
      · rw [if_neg h2] at hs
        have hd : (bt l j == c) = false := by simpa using h2
        clear h2
        go_wp2_with (first | (refine wpList_valn rfl (exec_ix16 (l := l) (j := j) HL.out hlt rfl rfl rfl) ?_) | fail)
        go_round
        case rel => exact ⟨j + 1, by omega, by go_num, by rw [hs.out, Nat.add_zero]⟩
        case measure => simp [intOf]; omega
    · have e : j = 16 := by omega
      subst e
      go_wp2
      go_ret
      exact ⟨by rw [HH.out]; rfl, HB.out⟩
set_option maxHeartbeats 1000000 in
theorem pcursor (x : Ros) (w : World) : Calls Try.prog 33 #[ros x] w fun e w' => e = .returned (.bool (curB x)) ∧ Below w.heap.size w w' := by
  obtain ⟨h1, h2, h3⟩ := boxR_new w x
  have HR := Lib.hid h1
  have HB := Lib.hid h2
  have HZ := Lib.hid h3
  clear h1 h2 h3
  have HC : Hid (curB x = if many x 2 = 0 then decide (x.cur = 0) else hasC x x.cur) := Lib.hid (by rw [← heals_many]; rfl)
  go_enter Try.func33, Try.ntmps33
  go_wp2_with (first | (refine wpList_valn rfl (exec_boxR rfl rfl) ?_) | (refine wpList_valn rfl (exec_loadR (c := x) rfl rfl ?_) ?_; (with_reducible exact HR.out.range)) | fail)
  generalize w.alloc (.cells (celR x).toArray 26) = w1 at *
  refine (pmany x 2 w1).mono ?_
  rintro e w2 ⟨rfl, hb⟩
  have HR2 := Lib.hid (HR.out.below HZ.out hb)
  obtain ⟨c0, c1, c2, c3, c4⟩ := HR2.out.cells
  have HB2 := Lib.hid (HB.out.trans (hb.mono (Nat.le_of_lt HZ.out)))
  have HZ2 := Lib.hid (blk_lt HR2.out)
  clear hb
  by_cases h0 : many x 2 = 0
  · rw [if_pos h0] at HC
    rw [h0]
    go_wp2
    go_ret
    exact ⟨ret_bool (by rw [HC.out, Bool.eq_iff_iff]; simp), HB2.out⟩
  · rw [if_neg h0] at HC
    have hd : ((many x 2 : Int) == 0) = false := by simp; omega
    clear h0
    generalize many x 2 = n at *
    go_wp2_with (first | (refine wpList_valn rfl (exec_loadR (c := x) rfl rfl ?_) ?_; (with_reducible exact HR2.out.range)) | fail)
    refine (pstripe x x.cur w2).mono ?_
    rintro e w3 ⟨rfl, hb⟩
    have HB3 := Lib.hid (HB2.out.trans (hb.mono (Nat.le_of_lt HZ2.out)))
    clear hb
    go_wp2_with fail
    go_ret
    exact ⟨ret_bool (by rw [HC.out]), HB3.out⟩
theorem stm_ok {x : Ros} (h1 : ∀ k, k < 16 → sta x k ≤ 2) (h2 : ∀ k : Nat, k < 16 → sta x k ≠ 0 → hasM x (k : Int) = true) : staB x = true :=
  staB_iff.2 ⟨h1, fun k hk hm => Classical.byContradiction fun h0 => by have := of_hasM (h2 k hk h0); omega⟩
theorem stm_big {x : Ros} {k : Nat} (hk : k < 16) (h : 2 < sta x k) : staB x = false := Bool.eq_false_iff.2 fun hs => by have := (of_staB hs).1 k hk; omega
theorem stm_far {x : Ros} {k : Nat} (hk : k < 16) (h0 : sta x k ≠ 0) (h : hasM x (k : Int) = false) : staB x = false := Bool.eq_false_iff.2 fun hs => by
  have h1 := of_decide_eq_false h
  exact h0 ((of_staB hs).2 k hk (by omega))
set_option maxHeartbeats 2000000 in
theorem pmstates (x : Ros) (w : World) : Calls Try.prog 32 #[ros x] w fun e w' => e = .returned (.bool (staB x && decide (heals x ≤ 1))) ∧ Below w.heap.size w w' := by
  obtain ⟨h1, h2, h3⟩ := boxR_new w x
  have HR := Lib.hid h1
  have HB := Lib.hid h2
  have HZ := Lib.hid h3
  clear h1 h2 h3
  have HL := Lib.hid (stL_length x.st)
  have HOK : Hid ((∀ k, k < 16 → bt x.st.toList k ≤ 2) → (∀ k : Nat, k < 16 → bt x.st.toList k ≠ 0 → hasM x (k : Int) = true) → staB x = true) := Lib.hid stm_ok
  have HBIG : Hid (∀ k, k < 16 → 2 < bt x.st.toList k → staB x = false) := Lib.hid fun k => stm_big
  have HFAR : Hid (∀ k : Nat, k < 16 → bt x.st.toList k ≠ 0 → hasM x (k : Int) = false → staB x = false) := Lib.hid fun k => stm_far
  go_enter Try.func32, Try.ntmps32
  go_wp2_with (first | (refine wpList_valn rfl (exec_boxR rfl rfl) ?_) | (refine wpList_valn rfl (exec_load16 HL.out rfl rfl ?_) ?_; (with_reducible exact HR.out.sts)) | fail)
  generalize w.alloc (.cells (celR x).toArray 26) = w1 at *
  have hb0 := HB.out
  have hr0 := HR.out
  clear HB HR HZ
  go_loopw [7] (fun i wr => ∃ j : Nat, j ≤ 16 ∧ i = .int .i64 j ∧ Below w.heap.size w wr ∧ RosAt wr w.heap.size x ∧ (∀ k, k < j → bt x.st.toList k ≤ 2) ∧ (∀ k : Nat, k < j → bt x.st.toList k ≠ 0 → hasM x (k : Int) = true)) (fun i _ => 16 - (intOf i).toNat)
  case atStart => exact ⟨0, Nat.zero_le _, rfl, hb0, hr0, fun k hk => absurd hk (by omega), fun k hk => absurd hk (by omega)⟩
  case round =>
    clear hb0 hr0
    obtain ⟨j, hj, rfl, hb, hr, h1, h2⟩ := hrel
    have HB := Lib.hid hb
    have HR := Lib.hid hr
    have HZ := Lib.hid (blk_lt hr)
    have HA1 := Lib.hid h1
    have HA2 := Lib.hid h2
    clear hb hr h1 h2
    by_cases hlt : j < 16
    · have HS : Hid (bt x.st.toList j ≤ 2 → ∀ k, k < j + 1 → bt x.st.toList k ≤ 2) := Lib.hid fun hv k hk => by
        by_cases e : k = j
        · rw [e]; exact hv
        · exact HA1.out k (by omega)
      have HT : Hid ((bt x.st.toList j ≠ 0 → hasM x (j : Int) = true) → ∀ k : Nat, k < j + 1 → bt x.st.toList k ≠ 0 → hasM x (k : Int) = true) := Lib.hid fun hv k hk h0 => by
        by_cases e : k = j
        · rw [e] at h0 ⊢; exact hv h0
        · exact HA2.out k (by omega) h0
      have HLO := Lib.hid (bt_lo x.st.toList j)
      have HG := Lib.hid (HBIG.out j hlt)
      have HFR := Lib.hid (HFAR.out j hlt)
      clear HOK HBIG HFAR HA1 HA2
      obtain ⟨v, hv⟩ : ∃ v, bt x.st.toList j = v := ⟨_, rfl⟩
      rw [hv] at HS HT HLO HG HFR
      have HV := Lib.hid hv
      clear hv
      by_cases v0 : v = 0
      · have HN1 := Lib.hid (HS.out (by omega))
        have HN2 := Lib.hid (HT.out (fun h => absurd v0 h))
        have d0 : (v == 0) = true := by simpa using v0
        clear v0
        go_wp2_with (first | (refine wpList_valn rfl (exec_ix16 (l := x.st.toList) (j := j) HL.out hlt rfl rfl rfl) ?_; rw [HV.out]) | fail)
        go_roundw
        case rel => exact ⟨j + 1, by omega, by go_num, HB.out, HR.out, HN1.out, HN2.out⟩
        case measure => simp [intOf]; omega
      · by_cases vb : 2 < v
        · have HF := Lib.hid (HG.out vb)
          have d0 : (v == 0) = false := by simp; omega
          have d1 : (v == 1) = false := by simp; omega
          have d2 : (v == 2) = false := by simp; omega
          clear v0 vb
          go_wp2_with (first | (refine wpList_valn rfl (exec_ix16 (l := x.st.toList) (j := j) HL.out hlt rfl rfl rfl) ?_; rw [HV.out]) | fail)
          go_ret
          exact ⟨ret_bool (by rw [HF.out]; rfl), HB.out⟩
        · have HN1 := Lib.hid (HS.out (by omega))
          have HV0 := Lib.hid v0
          have d0 : (v == 0) = false := by simpa using v0
          obtain ⟨q, hq⟩ : ∃ q, hasM x (j : Int) = q := ⟨_, rfl⟩
          have HQ := Lib.hid hq
          rw [hq] at HT HFR
          clear hq
          have hv2 : v = 1 ∨ v = 2 := by have := HLO.out; omega
          rcases hv2 with e | e
          · have d1 : (v == 1) = true := by simpa using e
            clear e v0 vb
            go_wp2_with (first | (refine wpList_valn rfl (exec_ix16 (l := x.st.toList) (j := j) HL.out hlt rfl rfl rfl) ?_; rw [HV.out]) | (refine wpList_valn rfl (exec_loadR (c := x) rfl rfl ?_) ?_; (with_reducible exact HR.out.range)) | fail)
            refine (pmember x (j : Int) wr).mono ?_
            rintro e w3 ⟨rfl, hb⟩
            rw [HQ.out]
            have HB3 := Lib.hid (HB.out.trans (hb.mono (Nat.le_of_lt HZ.out)))
            have HR3 := Lib.hid (HR.out.below HZ.out hb)
            clear hb HR HB HZ
            cases q
            · have HF := Lib.hid (HFR.out HV0.out rfl)
              go_wp2_with fail
              go_ret
              exact ⟨ret_bool (by rw [HF.out]; rfl), HB3.out⟩
            · have HN2 := Lib.hid (HT.out (fun _ => rfl))
              go_wp2_with fail
              go_roundw
              case rel => exact ⟨j + 1, by omega, by go_num, HB3.out, HR3.out, HN1.out, HN2.out⟩
              case measure => simp [intOf]; omega
          · have d1 : (v == 1) = false := by simp; omega
            have d2 : (v == 2) = true := by simpa using e
            clear e v0 vb
            go_wp2_with (first | (refine wpList_valn rfl (exec_ix16 (l := x.st.toList) (j := j) HL.out hlt rfl rfl rfl) ?_; rw [HV.out]) | (refine wpList_valn rfl (exec_loadR (c := x) rfl rfl ?_) ?_; (with_reducible exact HR.out.range)) | fail)
            refine (pmember x (j : Int) wr).mono ?_
            rintro e w3 ⟨rfl, hb⟩
            rw [HQ.out]
            have HB3 := Lib.hid (HB.out.trans (hb.mono (Nat.le_of_lt HZ.out)))
            have HR3 := Lib.hid (HR.out.below HZ.out hb)
            clear hb HR HB HZ
            cases q
            · have HF := Lib.hid (HFR.out HV0.out rfl)
              go_wp2_with fail
              go_ret
              exact ⟨ret_bool (by rw [HF.out]; rfl), HB3.out⟩
            · have HN2 := Lib.hid (HT.out (fun _ => rfl))
              go_wp2_with fail
              go_roundw
              case rel => exact ⟨j + 1, by omega, by go_num, HB3.out, HR3.out, HN1.out, HN2.out⟩
              case measure => simp [intOf]; omega
    · have e : j = 16 := by omega
      subst e
      have HE := Lib.hid (HOK.out HA1.out HA2.out)
      clear HOK HBIG HFAR HA1 HA2 hlt hj
      go_wp2_with (first | (refine wpList_valn rfl (exec_loadR (c := x) rfl rfl ?_) ?_; (with_reducible exact HR.out.range)) | fail)
      refine (pmany x 2 wr).mono ?_
      rintro e w3 ⟨rfl, hb⟩
      have HB3 := Lib.hid (HB.out.trans (hb.mono (Nat.le_of_lt HZ.out)))
      clear hb
      have hm := Lib.hid (heals_many x)
      generalize many x 2 = n at *
      go_wp2
      go_ret
      exact ⟨ret_bool (by rw [HE.out, Bool.true_and, hm.out, decide_eq_decide]; omega), HB3.out⟩
set_option maxHeartbeats 2000000 in
theorem pmay (x : Ros) (w : World) : Calls Try.prog 9 #[ros x] w fun e w' => e = .returned (.bool (fineB x)) ∧ Below w.heap.size w w' := by
  have HF := Lib.hid (fine_split x)
  obtain ⟨h1, h2, h3⟩ := boxR_new w x
  have HR := Lib.hid h1
  have HB := Lib.hid h2
  have HZ := Lib.hid h3
  clear h1 h2 h3
  go_enter Try.func9, Try.ntmps9
  go_wp2_with (first | (refine wpList_valn rfl (exec_boxR rfl rfl) ?_) | (refine wpList_valn rfl (exec_loadG (c := x) rfl rfl ?_) ?_; (with_reducible exact HR.out.geo)) | fail)
  generalize w.alloc (.cells (celR x).toArray 26) = w1 at *
  refine (pgmay x w1).mono ?_
  rintro e w2 ⟨rfl, hb⟩
  have HR2 := Lib.hid (HR.out.below HZ.out hb)
  have HB2 := Lib.hid (HB.out.trans (hb.mono (Nat.le_of_lt HZ.out)))
  have HZ2 := Lib.hid (blk_lt HR2.out)
  clear hb HR HB HZ
  generalize geoB x = g at *
  cases g
  · go_wp2_with fail
    go_ret
    exact ⟨ret_bool (by rw [HF.out]; rfl), HB2.out⟩
  · go_wp2_with (first | (refine wpList_val (by rfl) (exec_loadR (c := x) rfl rfl ?_) ?_; (with_reducible exact HR2.out.range)) | fail)
    refine (pmstates x w2).mono ?_
    rintro e w3 ⟨rfl, hb⟩
    have HR3 := Lib.hid (HR2.out.below HZ2.out hb)
    have HB3 := Lib.hid (HB2.out.trans (hb.mono (Nat.le_of_lt HZ2.out)))
    have HZ3 := Lib.hid (blk_lt HR3.out)
    clear hb HR2 HB2 HZ2
    generalize (staB x && decide (heals x ≤ 1)) = p at *
    cases p
    · go_wp2_with fail
      go_ret
      exact ⟨ret_bool (by rw [HF.out]; rfl), HB3.out⟩
    · go_wp2_with (first | (refine wpList_val (by rfl) (exec_loadR (c := x) rfl rfl ?_) ?_; (with_reducible exact HR3.out.range)) | fail)
      refine (pcursor x w3).mono ?_
      rintro e w4 ⟨rfl, hb⟩
      have HB4 := Lib.hid (HB3.out.trans (hb.mono (Nat.le_of_lt HZ3.out)))
      clear hb
      generalize curB x = q at *
      go_wp2_with fail
      go_ret
      exact ⟨ret_bool (by rw [HF.out]; rfl), HB4.out⟩
set_option maxHeartbeats 1000000 in
theorem rmay (x : Ros) (w : World) : Calls Try.prog 10 #[ros x] w fun e w' => e = .returned (.bool (fineB x)) ∧ Below w.heap.size w w' := by
  obtain ⟨h1, h2, h3⟩ := boxR_new w x
  have HR := Lib.hid h1
  have HB := Lib.hid h2
  have HZ := Lib.hid h3
  clear h1 h2 h3
  go_enter Try.func10, Try.ntmps10
  go_wp2_with (first | (refine wpList_valn rfl (exec_boxR rfl rfl) ?_) | (refine wpList_valn rfl (exec_loadR (c := x) rfl rfl ?_) ?_; (with_reducible exact HR.out.range)) | fail)
  generalize w.alloc (.cells (celR x).toArray 26) = w1 at *
  refine (rfine x w1).mono ?_
  rintro e w2 ⟨rfl, hb⟩
  have HB2 := Lib.hid (HB.out.trans (hb.mono (Nat.le_of_lt HZ.out)))
  clear hb
  go_wp2_with fail
  go_ret
  exact ⟨rfl, HB2.out⟩

end Go.Proofs.Ytnckcafemdcaeaa
