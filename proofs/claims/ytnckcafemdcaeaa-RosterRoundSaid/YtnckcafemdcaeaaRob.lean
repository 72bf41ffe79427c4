/-
  What is asked of a roster: Has, Missing, Heals, State; the program's, the document's.
-/
import Derived.Test.YtnckcafemdcaeaaRoa
import Derived.Test.YtnckcafemdcaeaaRow
import Derived.Test.YtnckcafemdcaeaaSkip
import Derived.Test.YtnckcafemdcaeaaSkq
namespace Go.Proofs.Ytnckcafemdcaeaa
open Go.RowKit
set_option linter.unusedVariables false
set_option linter.unusedSimpArgs false
set_option maxRecDepth 100000

/-- A function's own roster in its first block. -/
structure OneR (w0 w : World) (x : Ros) : Prop where
  bel : Below w0.heap.size w0 w
  at0 : RosAt w w0.heap.size x
theorem OneR.new (w : World) (x : Ros) : OneR w (w.alloc (.cells (celR x).toArray 26)) x := ⟨(boxR_new w x).2.1, (boxR_new w x).1⟩
theorem OneR.call {w0 w w' : World} {x : Ros} (h : OneR w0 w x) (hb : Below w.heap.size w w') : OneR w0 w' x :=
  ⟨h.bel.trans (hb.mono h.bel.size), h.at0.below (blk_lt h.at0) hb⟩
theorem OneR.above {w0 w w' : World} {x : Ros} (h : OneR w0 w x) (hb : Below w.heap.size w w') : RosAt w' w0.heap.size x := h.at0.below (blk_lt h.at0) hb
section
variable {x : Ros} {m : Int} {c : Int} {b : Bool} (w : World)
theorem pmay_b (h : fineB x = b) : Calls Try.prog 9 #[ros x] w fun e w' => e = .returned (.bool b) ∧ Below w.heap.size w w' := by subst h; exact pmay x w
theorem rmay_b (h : fineB x = b) : Calls Try.prog 10 #[ros x] w fun e w' => e = .returned (.bool b) ∧ Below w.heap.size w w' := by subst h; exact rmay x w
theorem pmember_b (h : hasM x m = b) : Calls Try.prog 34 #[ros x, .int .i64 m] w fun e w' => e = .returned (.bool b) ∧ Below w.heap.size w w' := by subst h; exact pmember x m w
theorem pstripe_b (h : hasC x m = b) : Calls Try.prog 35 #[ros x, .int .i64 m] w fun e w' => e = .returned (.bool b) ∧ Below w.heap.size w w' := by subst h; exact pstripe x m w
theorem rmember_b (h : hasM x m = b) : Calls Try.prog 36 #[ros x, .int .i64 m] w fun e w' => e = .returned (.bool b) ∧ Below w.heap.size w w' := by subst h; exact rmember x m w
theorem pmany_n {n : Nat} (h : many x c = n) : Calls Try.prog 37 #[ros x, .int .u8 c] w fun e w' => e = .returned (.int .i64 (n : Nat)) ∧ Below w.heap.size w w' := by subst h; exact pmany x c w
end
set_option maxHeartbeats 1000000 in
theorem phas_0 {x : Ros} {m s : Int} (hf : fineB x = false) (w : World) : Calls Try.prog 11 #[ros x, .int .i64 m, .int .i64 s] w fun e w' => e = .returned (.bool false) ∧ Below w.heap.size w w' := by
  have HT1 := Lib.hid (OneR.new w x)
  have HF := Lib.hid hf
  clear hf
  go_enter Try.func11, Try.ntmps11
  go_upto_region 1 with (first | (refine wpList_valn rfl (exec_boxR rfl rfl) ?_) | fail)
  generalize w.alloc (.cells (celR x).toArray 26) = w1 at *
  refine wp_region_lit ?_
  refine wpList_valn rfl (exec_ldR rfl (ev rfl) (HT1.out.at0)) ?_
  simp only [Act.put, List.setIfInBounds_toArray, List.set_cons_succ, List.set_cons_zero]
  refine wpList_call rfl (exec_cl Try.call9 rfl (evc (ev rfl) evn)) ?_
  refine (pmay_b w1 HF.out).mono ?_
  rintro e w2 ⟨rfl, hb⟩
  have HT2 := Lib.hid (HT1.out.call hb)
  clear hb HT1
  refine ⟨_, rfl, ?_⟩
  simp only [Act.put, List.setIfInBounds_toArray, List.set_cons_succ, List.set_cons_zero]
  refine wpList_valn (v := .bool true) rfl (exec_not false rfl (ev rfl)) ?_
  simp only [Act.put, List.setIfInBounds_toArray, List.set_cons_succ, List.set_cons_zero]
  refine wpList_skips 4 (v := .bool true) rfl (exec_mv rfl (ev rfl)) (by kernel_rfl) ?_
  simp only [skipAct, List.take_succ_cons, List.take_zero, List.drop_succ_cons, List.drop_zero, Act.put, List.setIfInBounds_toArray, List.set_cons_succ, List.set_cons_zero]
  refine wpList_valn (v := .bool true) rfl (exec_pt rfl (ev rfl) evk) ?_
  simp only [Act.put, List.setIfInBounds_toArray, List.set_cons_succ, List.set_cons_zero]
  refine wpList_skips 4 (v := .bool true) rfl (exec_mv rfl (ev rfl)) (by kernel_rfl) ?_
  simp only [skipAct, List.take_succ_cons, List.take_zero, List.drop_succ_cons, List.drop_zero, Act.put, List.setIfInBounds_toArray, List.set_cons_succ, List.set_cons_zero]
  refine wpList_valn (v := .bool true) rfl (exec_pt rfl (ev rfl) evk) ?_
  simp only [Act.put, List.setIfInBounds_toArray, List.set_cons_succ, List.set_cons_zero]
  refine wpList_nil ?_
  go_upto_region 2 with fail
  refine wp_region_lit ?_
  refine wpList_valn (v := .bool false) rfl (exec_as rfl evk) ?_
  simp only [Act.put, List.setIfInBounds_toArray, List.set_cons_succ, List.set_cons_zero]
  refine wpList_nil ?_
  go_wp2_with fail
  go_ret
  exact ⟨rfl, HT2.out.bel⟩
set_option maxHeartbeats 1000000 in
theorem phas_1 {x : Ros} {m s : Int} (hf : fineB x = true) (hq : hasM x m = false) (w : World) : Calls Try.prog 11 #[ros x, .int .i64 m, .int .i64 s] w fun e w' => e = .returned (.bool false) ∧ Below w.heap.size w w' := by
  have HT1 := Lib.hid (OneR.new w x)
  have HF := Lib.hid hf
  have HQ := Lib.hid hq
  clear hf hq
  go_enter Try.func11, Try.ntmps11
  go_upto_region 1 with (first | (refine wpList_valn rfl (exec_boxR rfl rfl) ?_) | fail)
  generalize w.alloc (.cells (celR x).toArray 26) = w1 at *
  refine wp_region_lit ?_
  refine wpList_valn rfl (exec_ldR rfl (ev rfl) (HT1.out.at0)) ?_
  simp only [Act.put, List.setIfInBounds_toArray, List.set_cons_succ, List.set_cons_zero]
  refine wpList_call rfl (exec_cl Try.call9 rfl (evc (ev rfl) evn)) ?_
  refine (pmay_b w1 HF.out).mono ?_
  rintro e w2 ⟨rfl, hb⟩
  have HT2 := Lib.hid (HT1.out.call hb)
  clear hb HT1
  refine ⟨_, rfl, ?_⟩
  simp only [Act.put, List.setIfInBounds_toArray, List.set_cons_succ, List.set_cons_zero]
  refine wpList_valn (v := .bool false) rfl (exec_not true rfl (ev rfl)) ?_
  simp only [Act.put, List.setIfInBounds_toArray, List.set_cons_succ, List.set_cons_zero]
  refine wpList_valn (v := .bool false) rfl (exec_mv rfl (ev rfl)) ?_
  simp only [Act.put, List.setIfInBounds_toArray, List.set_cons_succ, List.set_cons_zero]
  refine wpList_val (wanted_of rfl rfl rfl rfl) (exec_ldR rfl (ev rfl) (HT2.out.at0)) ?_
  simp only [Act.put, List.setIfInBounds_toArray, List.set_cons_succ, List.set_cons_zero]
  refine wpList_val (wanted_of rfl rfl rfl rfl) (exec_mv rfl (ev rfl)) ?_
  simp only [Act.put, List.setIfInBounds_toArray, List.set_cons_succ, List.set_cons_zero]
  refine wpList_call (wanted_of rfl rfl rfl rfl) (exec_cl Try.call34 rfl (evc (ev rfl) (evc (ev rfl) evn))) ?_
  refine (pmember_b w2 HQ.out).mono ?_
  rintro e w3 ⟨rfl, hb⟩
  have HT3 := Lib.hid (HT2.out.call hb)
  clear hb HT2
  refine ⟨_, rfl, ?_⟩
  simp only [Act.put, List.setIfInBounds_toArray, List.set_cons_succ, List.set_cons_zero]
  refine wpList_val (v := .bool true) (wanted_of rfl rfl rfl rfl) (exec_not false rfl (ev rfl)) ?_
  simp only [Act.put, List.setIfInBounds_toArray, List.set_cons_succ, List.set_cons_zero]
  refine wpList_valn (v := .bool true) rfl (exec_pf rfl (ev rfl) (ev rfl)) ?_
  simp only [Act.put, List.setIfInBounds_toArray, List.set_cons_succ, List.set_cons_zero]
  refine wpList_skips 4 (v := .bool true) rfl (exec_mv rfl (ev rfl)) (by kernel_rfl) ?_
  simp only [skipAct, List.take_succ_cons, List.take_zero, List.drop_succ_cons, List.drop_zero, Act.put, List.setIfInBounds_toArray, List.set_cons_succ, List.set_cons_zero]
  refine wpList_valn (v := .bool true) rfl (exec_pt rfl (ev rfl) evk) ?_
  simp only [Act.put, List.setIfInBounds_toArray, List.set_cons_succ, List.set_cons_zero]
  refine wpList_nil ?_
  go_upto_region 2 with fail
  refine wp_region_lit ?_
  refine wpList_valn (v := .bool false) rfl (exec_as rfl evk) ?_
  simp only [Act.put, List.setIfInBounds_toArray, List.set_cons_succ, List.set_cons_zero]
  refine wpList_nil ?_
  go_wp2_with fail
  go_ret
  exact ⟨rfl, HT3.out.bel⟩
set_option maxHeartbeats 1000000 in
theorem phas_2 {x : Ros} {m s : Int} (hf : fineB x = true) (hq : hasM x m = true) (hc : hasC x s = false) (w : World) : Calls Try.prog 11 #[ros x, .int .i64 m, .int .i64 s] w fun e w' => e = .returned (.bool false) ∧ Below w.heap.size w w' := by
  have HT1 := Lib.hid (OneR.new w x)
  have HF := Lib.hid hf
  have HQ := Lib.hid hq
  have HC := Lib.hid hc
  clear hf hq hc
  go_enter Try.func11, Try.ntmps11
  go_upto_region 1 with (first | (refine wpList_valn rfl (exec_boxR rfl rfl) ?_) | fail)
  generalize w.alloc (.cells (celR x).toArray 26) = w1 at *
  refine wp_region_lit ?_
  refine wpList_valn rfl (exec_ldR rfl (ev rfl) (HT1.out.at0)) ?_
  simp only [Act.put, List.setIfInBounds_toArray, List.set_cons_succ, List.set_cons_zero]
  refine wpList_call rfl (exec_cl Try.call9 rfl (evc (ev rfl) evn)) ?_
  refine (pmay_b w1 HF.out).mono ?_
  rintro e w2 ⟨rfl, hb⟩
  have HT2 := Lib.hid (HT1.out.call hb)
  clear hb HT1
  refine ⟨_, rfl, ?_⟩
  simp only [Act.put, List.setIfInBounds_toArray, List.set_cons_succ, List.set_cons_zero]
  refine wpList_valn (v := .bool false) rfl (exec_not true rfl (ev rfl)) ?_
  simp only [Act.put, List.setIfInBounds_toArray, List.set_cons_succ, List.set_cons_zero]
  refine wpList_valn (v := .bool false) rfl (exec_mv rfl (ev rfl)) ?_
  simp only [Act.put, List.setIfInBounds_toArray, List.set_cons_succ, List.set_cons_zero]
  refine wpList_val (wanted_of rfl rfl rfl rfl) (exec_ldR rfl (ev rfl) (HT2.out.at0)) ?_
  simp only [Act.put, List.setIfInBounds_toArray, List.set_cons_succ, List.set_cons_zero]
  refine wpList_val (wanted_of rfl rfl rfl rfl) (exec_mv rfl (ev rfl)) ?_
  simp only [Act.put, List.setIfInBounds_toArray, List.set_cons_succ, List.set_cons_zero]
  refine wpList_call (wanted_of rfl rfl rfl rfl) (exec_cl Try.call34 rfl (evc (ev rfl) (evc (ev rfl) evn))) ?_
  refine (pmember_b w2 HQ.out).mono ?_
  rintro e w3 ⟨rfl, hb⟩
  have HT3 := Lib.hid (HT2.out.call hb)
  clear hb HT2
  refine ⟨_, rfl, ?_⟩
  simp only [Act.put, List.setIfInBounds_toArray, List.set_cons_succ, List.set_cons_zero]
  refine wpList_val (v := .bool false) (wanted_of rfl rfl rfl rfl) (exec_not true rfl (ev rfl)) ?_
  simp only [Act.put, List.setIfInBounds_toArray, List.set_cons_succ, List.set_cons_zero]
  refine wpList_valn (v := .bool false) rfl (exec_pf rfl (ev rfl) (ev rfl)) ?_
  simp only [Act.put, List.setIfInBounds_toArray, List.set_cons_succ, List.set_cons_zero]
  refine wpList_valn (v := .bool false) rfl (exec_mv rfl (ev rfl)) ?_
  simp only [Act.put, List.setIfInBounds_toArray, List.set_cons_succ, List.set_cons_zero]
  refine wpList_val (wanted_of rfl rfl rfl rfl) (exec_ldR rfl (ev rfl) (HT3.out.at0)) ?_
  simp only [Act.put, List.setIfInBounds_toArray, List.set_cons_succ, List.set_cons_zero]
  refine wpList_val (wanted_of rfl rfl rfl rfl) (exec_mv rfl (ev rfl)) ?_
  simp only [Act.put, List.setIfInBounds_toArray, List.set_cons_succ, List.set_cons_zero]
  refine wpList_call (wanted_of rfl rfl rfl rfl) (exec_cl Try.call35 rfl (evc (ev rfl) (evc (ev rfl) evn))) ?_
  refine (pstripe_b w3 HC.out).mono ?_
  rintro e w4 ⟨rfl, hb⟩
  have HT4 := Lib.hid (HT3.out.call hb)
  clear hb HT3
  refine ⟨_, rfl, ?_⟩
  simp only [Act.put, List.setIfInBounds_toArray, List.set_cons_succ, List.set_cons_zero]
  refine wpList_val (v := .bool true) (wanted_of rfl rfl rfl rfl) (exec_not false rfl (ev rfl)) ?_
  simp only [Act.put, List.setIfInBounds_toArray, List.set_cons_succ, List.set_cons_zero]
  refine wpList_valn (v := .bool true) rfl (exec_pf rfl (ev rfl) (ev rfl)) ?_
  simp only [Act.put, List.setIfInBounds_toArray, List.set_cons_succ, List.set_cons_zero]
  refine wpList_nil ?_
  go_upto_region 2 with fail
  refine wp_region_lit ?_
  refine wpList_valn (v := .bool false) rfl (exec_as rfl evk) ?_
  simp only [Act.put, List.setIfInBounds_toArray, List.set_cons_succ, List.set_cons_zero]
  refine wpList_nil ?_
  go_wp2_with fail
  go_ret
  exact ⟨rfl, HT4.out.bel⟩
set_option maxHeartbeats 1000000 in
theorem phas_3 {x : Ros} {j : Nat} {s : Int} (hj : j < 16) (hf : fineB x = true) (hq : hasM x (j : Int) = true) (hc : hasC x s = true) (h0 : (sta x j == 0) = true) (w : World) : Calls Try.prog 11 #[ros x, .int .i64 (j : Int), .int .i64 s] w fun e w' => e = .returned (.bool true) ∧ Below w.heap.size w w' := by
  have HT1 := Lib.hid (OneR.new w x)
  have HF := Lib.hid hf
  have HQ := Lib.hid hq
  have HC := Lib.hid hc
  have H0 := Lib.hid h0
  clear hf hq hc h0
  go_enter Try.func11, Try.ntmps11
  go_upto_region 1 with (first | (refine wpList_valn rfl (exec_boxR rfl rfl) ?_) | fail)
  generalize w.alloc (.cells (celR x).toArray 26) = w1 at *
  refine wp_region_lit ?_
  refine wpList_valn rfl (exec_ldR rfl (ev rfl) (HT1.out.at0)) ?_
  simp only [Act.put, List.setIfInBounds_toArray, List.set_cons_succ, List.set_cons_zero]
  refine wpList_call rfl (exec_cl Try.call9 rfl (evc (ev rfl) evn)) ?_
  refine (pmay_b w1 HF.out).mono ?_
  rintro e w2 ⟨rfl, hb⟩
  have HT2 := Lib.hid (HT1.out.call hb)
  clear hb HT1
  refine ⟨_, rfl, ?_⟩
  simp only [Act.put, List.setIfInBounds_toArray, List.set_cons_succ, List.set_cons_zero]
  refine wpList_valn (v := .bool false) rfl (exec_not true rfl (ev rfl)) ?_
  simp only [Act.put, List.setIfInBounds_toArray, List.set_cons_succ, List.set_cons_zero]
  refine wpList_valn (v := .bool false) rfl (exec_mv rfl (ev rfl)) ?_
  simp only [Act.put, List.setIfInBounds_toArray, List.set_cons_succ, List.set_cons_zero]
  refine wpList_val (wanted_of rfl rfl rfl rfl) (exec_ldR rfl (ev rfl) (HT2.out.at0)) ?_
  simp only [Act.put, List.setIfInBounds_toArray, List.set_cons_succ, List.set_cons_zero]
  refine wpList_val (wanted_of rfl rfl rfl rfl) (exec_mv rfl (ev rfl)) ?_
  simp only [Act.put, List.setIfInBounds_toArray, List.set_cons_succ, List.set_cons_zero]
  refine wpList_call (wanted_of rfl rfl rfl rfl) (exec_cl Try.call34 rfl (evc (ev rfl) (evc (ev rfl) evn))) ?_
  refine (pmember_b w2 HQ.out).mono ?_
  rintro e w3 ⟨rfl, hb⟩
  have HT3 := Lib.hid (HT2.out.call hb)
  clear hb HT2
  refine ⟨_, rfl, ?_⟩
  simp only [Act.put, List.setIfInBounds_toArray, List.set_cons_succ, List.set_cons_zero]
  refine wpList_val (v := .bool false) (wanted_of rfl rfl rfl rfl) (exec_not true rfl (ev rfl)) ?_
  simp only [Act.put, List.setIfInBounds_toArray, List.set_cons_succ, List.set_cons_zero]
  refine wpList_valn (v := .bool false) rfl (exec_pf rfl (ev rfl) (ev rfl)) ?_
  simp only [Act.put, List.setIfInBounds_toArray, List.set_cons_succ, List.set_cons_zero]
  refine wpList_valn (v := .bool false) rfl (exec_mv rfl (ev rfl)) ?_
  simp only [Act.put, List.setIfInBounds_toArray, List.set_cons_succ, List.set_cons_zero]
  refine wpList_val (wanted_of rfl rfl rfl rfl) (exec_ldR rfl (ev rfl) (HT3.out.at0)) ?_
  simp only [Act.put, List.setIfInBounds_toArray, List.set_cons_succ, List.set_cons_zero]
  refine wpList_val (wanted_of rfl rfl rfl rfl) (exec_mv rfl (ev rfl)) ?_
  simp only [Act.put, List.setIfInBounds_toArray, List.set_cons_succ, List.set_cons_zero]
  refine wpList_call (wanted_of rfl rfl rfl rfl) (exec_cl Try.call35 rfl (evc (ev rfl) (evc (ev rfl) evn))) ?_
  refine (pstripe_b w3 HC.out).mono ?_
  rintro e w4 ⟨rfl, hb⟩
  have HT4 := Lib.hid (HT3.out.call hb)
  clear hb HT3
  refine ⟨_, rfl, ?_⟩
  simp only [Act.put, List.setIfInBounds_toArray, List.set_cons_succ, List.set_cons_zero]
  refine wpList_val (v := .bool false) (wanted_of rfl rfl rfl rfl) (exec_not true rfl (ev rfl)) ?_
  simp only [Act.put, List.setIfInBounds_toArray, List.set_cons_succ, List.set_cons_zero]
  refine wpList_valn (v := .bool false) rfl (exec_pf rfl (ev rfl) (ev rfl)) ?_
  simp only [Act.put, List.setIfInBounds_toArray, List.set_cons_succ, List.set_cons_zero]
  refine wpList_nil ?_
  go_upto_region 3 with fail
  refine wp_region_lit ?_
  refine wpList_valn rfl (exec_mv rfl (ev rfl)) ?_
  simp only [Act.put, List.setIfInBounds_toArray, List.set_cons_succ, List.set_cons_zero]
  refine wpList_valn rfl (exec_faddr rfl (ev rfl) faR1) ?_
  simp only [Act.put, List.setIfInBounds_toArray, List.set_cons_succ, List.set_cons_zero]
  refine wpList_valn rfl (exec_ix rfl (ev rfl) (ev rfl) (ix16 hj)) ?_
  simp only [Act.put, List.setIfInBounds_toArray, List.set_cons_succ, List.set_cons_zero]
  refine wpList_valn rfl (exec_ld rfl (ev rfl) (ldU8 ((HT4.out.at0).sta hj))) ?_
  simp only [Act.put, List.setIfInBounds_toArray, List.set_cons_succ, List.set_cons_zero]
  refine wpList_nil ?_
  go_upto_region 4 with fail
  refine wp_region_lit ?_
  refine wpList_valn (v := .bool true) rfl (exec_eqInt true rfl (ev rfl) evk H0.out) ?_
  simp only [Act.put, List.setIfInBounds_toArray, List.set_cons_succ, List.set_cons_zero]
  refine wpList_valn (v := .bool true) rfl (exec_as rfl (ev rfl)) ?_
  simp only [Act.put, List.setIfInBounds_toArray, List.set_cons_succ, List.set_cons_zero]
  refine wpList_nil ?_
  go_upto_region 5 with fail
  refine wp_region_lit ?_
  refine wpList_valn (v := .bool true) rfl (exec_as rfl evk) ?_
  simp only [Act.put, List.setIfInBounds_toArray, List.set_cons_succ, List.set_cons_zero]
  refine wpList_nil ?_
  go_wp2_with fail
  go_ret
  exact ⟨rfl, HT4.out.bel⟩
set_option maxHeartbeats 1000000 in
theorem phas_4 {x : Ros} {j : Nat} {s : Int} (hj : j < 16) (hf : fineB x = true) (hq : hasM x (j : Int) = true) (hc : hasC x s = true) (h0 : (sta x j == 0) = false) (h2 : (sta x j == 2) = true) (hl : decide (s < x.cur) = true) (w : World) : Calls Try.prog 11 #[ros x, .int .i64 (j : Int), .int .i64 s] w fun e w' => e = .returned (.bool true) ∧ Below w.heap.size w w' := by
  have HT1 := Lib.hid (OneR.new w x)
  have HF := Lib.hid hf
  have HQ := Lib.hid hq
  have HC := Lib.hid hc
  have H0 := Lib.hid h0
  have H2 := Lib.hid h2
  have HL := Lib.hid hl
  clear hf hq hc h0 h2 hl
  go_enter Try.func11, Try.ntmps11
  go_upto_region 1 with (first | (refine wpList_valn rfl (exec_boxR rfl rfl) ?_) | fail)
  generalize w.alloc (.cells (celR x).toArray 26) = w1 at *
  refine wp_region_lit ?_
  refine wpList_valn rfl (exec_ldR rfl (ev rfl) (HT1.out.at0)) ?_
  simp only [Act.put, List.setIfInBounds_toArray, List.set_cons_succ, List.set_cons_zero]
  refine wpList_call rfl (exec_cl Try.call9 rfl (evc (ev rfl) evn)) ?_
  refine (pmay_b w1 HF.out).mono ?_
  rintro e w2 ⟨rfl, hb⟩
  have HT2 := Lib.hid (HT1.out.call hb)
  clear hb HT1
  refine ⟨_, rfl, ?_⟩
  simp only [Act.put, List.setIfInBounds_toArray, List.set_cons_succ, List.set_cons_zero]
  refine wpList_valn (v := .bool false) rfl (exec_not true rfl (ev rfl)) ?_
  simp only [Act.put, List.setIfInBounds_toArray, List.set_cons_succ, List.set_cons_zero]
  refine wpList_valn (v := .bool false) rfl (exec_mv rfl (ev rfl)) ?_
  simp only [Act.put, List.setIfInBounds_toArray, List.set_cons_succ, List.set_cons_zero]
  refine wpList_val (wanted_of rfl rfl rfl rfl) (exec_ldR rfl (ev rfl) (HT2.out.at0)) ?_
  simp only [Act.put, List.setIfInBounds_toArray, List.set_cons_succ, List.set_cons_zero]
  refine wpList_val (wanted_of rfl rfl rfl rfl) (exec_mv rfl (ev rfl)) ?_
  simp only [Act.put, List.setIfInBounds_toArray, List.set_cons_succ, List.set_cons_zero]
  refine wpList_call (wanted_of rfl rfl rfl rfl) (exec_cl Try.call34 rfl (evc (ev rfl) (evc (ev rfl) evn))) ?_
  refine (pmember_b w2 HQ.out).mono ?_
  rintro e w3 ⟨rfl, hb⟩
  have HT3 := Lib.hid (HT2.out.call hb)
  clear hb HT2
  refine ⟨_, rfl, ?_⟩
  simp only [Act.put, List.setIfInBounds_toArray, List.set_cons_succ, List.set_cons_zero]
  refine wpList_val (v := .bool false) (wanted_of rfl rfl rfl rfl) (exec_not true rfl (ev rfl)) ?_
  simp only [Act.put, List.setIfInBounds_toArray, List.set_cons_succ, List.set_cons_zero]
  refine wpList_valn (v := .bool false) rfl (exec_pf rfl (ev rfl) (ev rfl)) ?_
  simp only [Act.put, List.setIfInBounds_toArray, List.set_cons_succ, List.set_cons_zero]
  refine wpList_valn (v := .bool false) rfl (exec_mv rfl (ev rfl)) ?_
  simp only [Act.put, List.setIfInBounds_toArray, List.set_cons_succ, List.set_cons_zero]
  refine wpList_val (wanted_of rfl rfl rfl rfl) (exec_ldR rfl (ev rfl) (HT3.out.at0)) ?_
  simp only [Act.put, List.setIfInBounds_toArray, List.set_cons_succ, List.set_cons_zero]
  refine wpList_val (wanted_of rfl rfl rfl rfl) (exec_mv rfl (ev rfl)) ?_
  simp only [Act.put, List.setIfInBounds_toArray, List.set_cons_succ, List.set_cons_zero]
  refine wpList_call (wanted_of rfl rfl rfl rfl) (exec_cl Try.call35 rfl (evc (ev rfl) (evc (ev rfl) evn))) ?_
  refine (pstripe_b w3 HC.out).mono ?_
  rintro e w4 ⟨rfl, hb⟩
  have HT4 := Lib.hid (HT3.out.call hb)
  clear hb HT3
  refine ⟨_, rfl, ?_⟩
  simp only [Act.put, List.setIfInBounds_toArray, List.set_cons_succ, List.set_cons_zero]
  refine wpList_val (v := .bool false) (wanted_of rfl rfl rfl rfl) (exec_not true rfl (ev rfl)) ?_
  simp only [Act.put, List.setIfInBounds_toArray, List.set_cons_succ, List.set_cons_zero]
  refine wpList_valn (v := .bool false) rfl (exec_pf rfl (ev rfl) (ev rfl)) ?_
  simp only [Act.put, List.setIfInBounds_toArray, List.set_cons_succ, List.set_cons_zero]
  refine wpList_nil ?_
  go_upto_region 3 with fail
  refine wp_region_lit ?_
  refine wpList_valn rfl (exec_mv rfl (ev rfl)) ?_
  simp only [Act.put, List.setIfInBounds_toArray, List.set_cons_succ, List.set_cons_zero]
  refine wpList_valn rfl (exec_faddr rfl (ev rfl) faR1) ?_
  simp only [Act.put, List.setIfInBounds_toArray, List.set_cons_succ, List.set_cons_zero]
  refine wpList_valn rfl (exec_ix rfl (ev rfl) (ev rfl) (ix16 hj)) ?_
  simp only [Act.put, List.setIfInBounds_toArray, List.set_cons_succ, List.set_cons_zero]
  refine wpList_valn rfl (exec_ld rfl (ev rfl) (ldU8 ((HT4.out.at0).sta hj))) ?_
  simp only [Act.put, List.setIfInBounds_toArray, List.set_cons_succ, List.set_cons_zero]
  refine wpList_nil ?_
  go_upto_region 4 with fail
  refine wp_region_lit ?_
  refine wpList_valn (v := .bool false) rfl (exec_eqInt false rfl (ev rfl) evk H0.out) ?_
  simp only [Act.put, List.setIfInBounds_toArray, List.set_cons_succ, List.set_cons_zero]
  refine wpList_valn (v := .bool false) rfl (exec_as rfl (ev rfl)) ?_
  simp only [Act.put, List.setIfInBounds_toArray, List.set_cons_succ, List.set_cons_zero]
  refine wpList_nil ?_
  go_upto_region 6 with fail
  refine wp_region_lit ?_
  refine wpList_valn (v := .bool true) rfl (exec_eqInt true rfl (ev rfl) evk H2.out) ?_
  simp only [Act.put, List.setIfInBounds_toArray, List.set_cons_succ, List.set_cons_zero]
  refine wpList_valn (v := .bool true) rfl (exec_as rfl (ev rfl)) ?_
  simp only [Act.put, List.setIfInBounds_toArray, List.set_cons_succ, List.set_cons_zero]
  refine wpList_nil ?_
  go_upto_region 7 with fail
  refine wp_region_lit ?_
  refine wpList_valn rfl (exec_mv rfl (ev rfl)) ?_
  simp only [Act.put, List.setIfInBounds_toArray, List.set_cons_succ, List.set_cons_zero]
  refine wpList_valn rfl (exec_faddr rfl (ev rfl) faR2) ?_
  simp only [Act.put, List.setIfInBounds_toArray, List.set_cons_succ, List.set_cons_zero]
  refine wpList_valn rfl (exec_ld rfl (ev rfl) (ldInt (HT4.out.at0).cells.2.2.2.1)) ?_
  simp only [Act.put, List.setIfInBounds_toArray, List.set_cons_succ, List.set_cons_zero]
  refine wpList_valn (v := .bool true) rfl (exec_lss true rfl (ev rfl) (ev rfl) HL.out) ?_
  simp only [Act.put, List.setIfInBounds_toArray, List.set_cons_succ, List.set_cons_zero]
  refine wpList_valn (v := .bool true) rfl (exec_as rfl (ev rfl)) ?_
  simp only [Act.put, List.setIfInBounds_toArray, List.set_cons_succ, List.set_cons_zero]
  refine wpList_nil ?_
  go_wp2_with fail
  go_ret
  exact ⟨rfl, HT4.out.bel⟩
set_option maxHeartbeats 1000000 in
theorem phas_5 {x : Ros} {j : Nat} {s : Int} (hj : j < 16) (hf : fineB x = true) (hq : hasM x (j : Int) = true) (hc : hasC x s = true) (h0 : (sta x j == 0) = false) (h2 : (sta x j == 2) = true) (hl : decide (s < x.cur) = false) (w : World) : Calls Try.prog 11 #[ros x, .int .i64 (j : Int), .int .i64 s] w fun e w' => e = .returned (.bool false) ∧ Below w.heap.size w w' := by
  have HT1 := Lib.hid (OneR.new w x)
  have HF := Lib.hid hf
  have HQ := Lib.hid hq
  have HC := Lib.hid hc
  have H0 := Lib.hid h0
  have H2 := Lib.hid h2
  have HL := Lib.hid hl
  clear hf hq hc h0 h2 hl
  go_enter Try.func11, Try.ntmps11
  go_upto_region 1 with (first | (refine wpList_valn rfl (exec_boxR rfl rfl) ?_) | fail)
  generalize w.alloc (.cells (celR x).toArray 26) = w1 at *
  refine wp_region_lit ?_
  refine wpList_valn rfl (exec_ldR rfl (ev rfl) (HT1.out.at0)) ?_
  simp only [Act.put, List.setIfInBounds_toArray, List.set_cons_succ, List.set_cons_zero]
  refine wpList_call rfl (exec_cl Try.call9 rfl (evc (ev rfl) evn)) ?_
  refine (pmay_b w1 HF.out).mono ?_
  rintro e w2 ⟨rfl, hb⟩
  have HT2 := Lib.hid (HT1.out.call hb)
  clear hb HT1
  refine ⟨_, rfl, ?_⟩
  simp only [Act.put, List.setIfInBounds_toArray, List.set_cons_succ, List.set_cons_zero]
  refine wpList_valn (v := .bool false) rfl (exec_not true rfl (ev rfl)) ?_
  simp only [Act.put, List.setIfInBounds_toArray, List.set_cons_succ, List.set_cons_zero]
  refine wpList_valn (v := .bool false) rfl (exec_mv rfl (ev rfl)) ?_
  simp only [Act.put, List.setIfInBounds_toArray, List.set_cons_succ, List.set_cons_zero]
  refine wpList_val (wanted_of rfl rfl rfl rfl) (exec_ldR rfl (ev rfl) (HT2.out.at0)) ?_
  simp only [Act.put, List.setIfInBounds_toArray, List.set_cons_succ, List.set_cons_zero]
  refine wpList_val (wanted_of rfl rfl rfl rfl) (exec_mv rfl (ev rfl)) ?_
  simp only [Act.put, List.setIfInBounds_toArray, List.set_cons_succ, List.set_cons_zero]
  refine wpList_call (wanted_of rfl rfl rfl rfl) (exec_cl Try.call34 rfl (evc (ev rfl) (evc (ev rfl) evn))) ?_
  refine (pmember_b w2 HQ.out).mono ?_
  rintro e w3 ⟨rfl, hb⟩
  have HT3 := Lib.hid (HT2.out.call hb)
  clear hb HT2
  refine ⟨_, rfl, ?_⟩
  simp only [Act.put, List.setIfInBounds_toArray, List.set_cons_succ, List.set_cons_zero]
  refine wpList_val (v := .bool false) (wanted_of rfl rfl rfl rfl) (exec_not true rfl (ev rfl)) ?_
  simp only [Act.put, List.setIfInBounds_toArray, List.set_cons_succ, List.set_cons_zero]
  refine wpList_valn (v := .bool false) rfl (exec_pf rfl (ev rfl) (ev rfl)) ?_
  simp only [Act.put, List.setIfInBounds_toArray, List.set_cons_succ, List.set_cons_zero]
  refine wpList_valn (v := .bool false) rfl (exec_mv rfl (ev rfl)) ?_
  simp only [Act.put, List.setIfInBounds_toArray, List.set_cons_succ, List.set_cons_zero]
  refine wpList_val (wanted_of rfl rfl rfl rfl) (exec_ldR rfl (ev rfl) (HT3.out.at0)) ?_
  simp only [Act.put, List.setIfInBounds_toArray, List.set_cons_succ, List.set_cons_zero]
  refine wpList_val (wanted_of rfl rfl rfl rfl) (exec_mv rfl (ev rfl)) ?_
  simp only [Act.put, List.setIfInBounds_toArray, List.set_cons_succ, List.set_cons_zero]
  refine wpList_call (wanted_of rfl rfl rfl rfl) (exec_cl Try.call35 rfl (evc (ev rfl) (evc (ev rfl) evn))) ?_
  refine (pstripe_b w3 HC.out).mono ?_
  rintro e w4 ⟨rfl, hb⟩
  have HT4 := Lib.hid (HT3.out.call hb)
  clear hb HT3
  refine ⟨_, rfl, ?_⟩
  simp only [Act.put, List.setIfInBounds_toArray, List.set_cons_succ, List.set_cons_zero]
  refine wpList_val (v := .bool false) (wanted_of rfl rfl rfl rfl) (exec_not true rfl (ev rfl)) ?_
  simp only [Act.put, List.setIfInBounds_toArray, List.set_cons_succ, List.set_cons_zero]
  refine wpList_valn (v := .bool false) rfl (exec_pf rfl (ev rfl) (ev rfl)) ?_
  simp only [Act.put, List.setIfInBounds_toArray, List.set_cons_succ, List.set_cons_zero]
  refine wpList_nil ?_
  go_upto_region 3 with fail
  refine wp_region_lit ?_
  refine wpList_valn rfl (exec_mv rfl (ev rfl)) ?_
  simp only [Act.put, List.setIfInBounds_toArray, List.set_cons_succ, List.set_cons_zero]
  refine wpList_valn rfl (exec_faddr rfl (ev rfl) faR1) ?_
  simp only [Act.put, List.setIfInBounds_toArray, List.set_cons_succ, List.set_cons_zero]
  refine wpList_valn rfl (exec_ix rfl (ev rfl) (ev rfl) (ix16 hj)) ?_
  simp only [Act.put, List.setIfInBounds_toArray, List.set_cons_succ, List.set_cons_zero]
  refine wpList_valn rfl (exec_ld rfl (ev rfl) (ldU8 ((HT4.out.at0).sta hj))) ?_
  simp only [Act.put, List.setIfInBounds_toArray, List.set_cons_succ, List.set_cons_zero]
  refine wpList_nil ?_
  go_upto_region 4 with fail
  refine wp_region_lit ?_
  refine wpList_valn (v := .bool false) rfl (exec_eqInt false rfl (ev rfl) evk H0.out) ?_
  simp only [Act.put, List.setIfInBounds_toArray, List.set_cons_succ, List.set_cons_zero]
  refine wpList_valn (v := .bool false) rfl (exec_as rfl (ev rfl)) ?_
  simp only [Act.put, List.setIfInBounds_toArray, List.set_cons_succ, List.set_cons_zero]
  refine wpList_nil ?_
  go_upto_region 6 with fail
  refine wp_region_lit ?_
  refine wpList_valn (v := .bool true) rfl (exec_eqInt true rfl (ev rfl) evk H2.out) ?_
  simp only [Act.put, List.setIfInBounds_toArray, List.set_cons_succ, List.set_cons_zero]
  refine wpList_valn (v := .bool true) rfl (exec_as rfl (ev rfl)) ?_
  simp only [Act.put, List.setIfInBounds_toArray, List.set_cons_succ, List.set_cons_zero]
  refine wpList_nil ?_
  go_upto_region 7 with fail
  refine wp_region_lit ?_
  refine wpList_valn rfl (exec_mv rfl (ev rfl)) ?_
  simp only [Act.put, List.setIfInBounds_toArray, List.set_cons_succ, List.set_cons_zero]
  refine wpList_valn rfl (exec_faddr rfl (ev rfl) faR2) ?_
  simp only [Act.put, List.setIfInBounds_toArray, List.set_cons_succ, List.set_cons_zero]
  refine wpList_valn rfl (exec_ld rfl (ev rfl) (ldInt (HT4.out.at0).cells.2.2.2.1)) ?_
  simp only [Act.put, List.setIfInBounds_toArray, List.set_cons_succ, List.set_cons_zero]
  refine wpList_valn (v := .bool false) rfl (exec_lss false rfl (ev rfl) (ev rfl) HL.out) ?_
  simp only [Act.put, List.setIfInBounds_toArray, List.set_cons_succ, List.set_cons_zero]
  refine wpList_valn (v := .bool false) rfl (exec_as rfl (ev rfl)) ?_
  simp only [Act.put, List.setIfInBounds_toArray, List.set_cons_succ, List.set_cons_zero]
  refine wpList_nil ?_
  go_wp2_with fail
  go_ret
  exact ⟨rfl, HT4.out.bel⟩
set_option maxHeartbeats 1000000 in
theorem phas_6 {x : Ros} {j : Nat} {s : Int} (hj : j < 16) (hf : fineB x = true) (hq : hasM x (j : Int) = true) (hc : hasC x s = true) (h0 : (sta x j == 0) = false) (h2 : (sta x j == 2) = false) (w : World) : Calls Try.prog 11 #[ros x, .int .i64 (j : Int), .int .i64 s] w fun e w' => e = .returned (.bool false) ∧ Below w.heap.size w w' := by
  have HT1 := Lib.hid (OneR.new w x)
  have HF := Lib.hid hf
  have HQ := Lib.hid hq
  have HC := Lib.hid hc
  have H0 := Lib.hid h0
  have H2 := Lib.hid h2
  clear hf hq hc h0 h2
  go_enter Try.func11, Try.ntmps11
  go_upto_region 1 with (first | (refine wpList_valn rfl (exec_boxR rfl rfl) ?_) | fail)
  generalize w.alloc (.cells (celR x).toArray 26) = w1 at *
  refine wp_region_lit ?_
  refine wpList_valn rfl (exec_ldR rfl (ev rfl) (HT1.out.at0)) ?_
  simp only [Act.put, List.setIfInBounds_toArray, List.set_cons_succ, List.set_cons_zero]
  refine wpList_call rfl (exec_cl Try.call9 rfl (evc (ev rfl) evn)) ?_
  refine (pmay_b w1 HF.out).mono ?_
  rintro e w2 ⟨rfl, hb⟩
  have HT2 := Lib.hid (HT1.out.call hb)
  clear hb HT1
  refine ⟨_, rfl, ?_⟩
  simp only [Act.put, List.setIfInBounds_toArray, List.set_cons_succ, List.set_cons_zero]
  refine wpList_valn (v := .bool false) rfl (exec_not true rfl (ev rfl)) ?_
  simp only [Act.put, List.setIfInBounds_toArray, List.set_cons_succ, List.set_cons_zero]
  refine wpList_valn (v := .bool false) rfl (exec_mv rfl (ev rfl)) ?_
  simp only [Act.put, List.setIfInBounds_toArray, List.set_cons_succ, List.set_cons_zero]
  refine wpList_val (wanted_of rfl rfl rfl rfl) (exec_ldR rfl (ev rfl) (HT2.out.at0)) ?_
  simp only [Act.put, List.setIfInBounds_toArray, List.set_cons_succ, List.set_cons_zero]
  refine wpList_val (wanted_of rfl rfl rfl rfl) (exec_mv rfl (ev rfl)) ?_
  simp only [Act.put, List.setIfInBounds_toArray, List.set_cons_succ, List.set_cons_zero]
  refine wpList_call (wanted_of rfl rfl rfl rfl) (exec_cl Try.call34 rfl (evc (ev rfl) (evc (ev rfl) evn))) ?_
  refine (pmember_b w2 HQ.out).mono ?_
  rintro e w3 ⟨rfl, hb⟩
  have HT3 := Lib.hid (HT2.out.call hb)
  clear hb HT2
  refine ⟨_, rfl, ?_⟩
  simp only [Act.put, List.setIfInBounds_toArray, List.set_cons_succ, List.set_cons_zero]
  refine wpList_val (v := .bool false) (wanted_of rfl rfl rfl rfl) (exec_not true rfl (ev rfl)) ?_
  simp only [Act.put, List.setIfInBounds_toArray, List.set_cons_succ, List.set_cons_zero]
  refine wpList_valn (v := .bool false) rfl (exec_pf rfl (ev rfl) (ev rfl)) ?_
  simp only [Act.put, List.setIfInBounds_toArray, List.set_cons_succ, List.set_cons_zero]
  refine wpList_valn (v := .bool false) rfl (exec_mv rfl (ev rfl)) ?_
  simp only [Act.put, List.setIfInBounds_toArray, List.set_cons_succ, List.set_cons_zero]
  refine wpList_val (wanted_of rfl rfl rfl rfl) (exec_ldR rfl (ev rfl) (HT3.out.at0)) ?_
  simp only [Act.put, List.setIfInBounds_toArray, List.set_cons_succ, List.set_cons_zero]
  refine wpList_val (wanted_of rfl rfl rfl rfl) (exec_mv rfl (ev rfl)) ?_
  simp only [Act.put, List.setIfInBounds_toArray, List.set_cons_succ, List.set_cons_zero]
  refine wpList_call (wanted_of rfl rfl rfl rfl) (exec_cl Try.call35 rfl (evc (ev rfl) (evc (ev rfl) evn))) ?_
  refine (pstripe_b w3 HC.out).mono ?_
  rintro e w4 ⟨rfl, hb⟩
  have HT4 := Lib.hid (HT3.out.call hb)
  clear hb HT3
  refine ⟨_, rfl, ?_⟩
  simp only [Act.put, List.setIfInBounds_toArray, List.set_cons_succ, List.set_cons_zero]
  refine wpList_val (v := .bool false) (wanted_of rfl rfl rfl rfl) (exec_not true rfl (ev rfl)) ?_
  simp only [Act.put, List.setIfInBounds_toArray, List.set_cons_succ, List.set_cons_zero]
  refine wpList_valn (v := .bool false) rfl (exec_pf rfl (ev rfl) (ev rfl)) ?_
  simp only [Act.put, List.setIfInBounds_toArray, List.set_cons_succ, List.set_cons_zero]
  refine wpList_nil ?_
  go_upto_region 3 with fail
  refine wp_region_lit ?_
  refine wpList_valn rfl (exec_mv rfl (ev rfl)) ?_
  simp only [Act.put, List.setIfInBounds_toArray, List.set_cons_succ, List.set_cons_zero]
  refine wpList_valn rfl (exec_faddr rfl (ev rfl) faR1) ?_
  simp only [Act.put, List.setIfInBounds_toArray, List.set_cons_succ, List.set_cons_zero]
  refine wpList_valn rfl (exec_ix rfl (ev rfl) (ev rfl) (ix16 hj)) ?_
  simp only [Act.put, List.setIfInBounds_toArray, List.set_cons_succ, List.set_cons_zero]
  refine wpList_valn rfl (exec_ld rfl (ev rfl) (ldU8 ((HT4.out.at0).sta hj))) ?_
  simp only [Act.put, List.setIfInBounds_toArray, List.set_cons_succ, List.set_cons_zero]
  refine wpList_nil ?_
  go_upto_region 4 with fail
  refine wp_region_lit ?_
  refine wpList_valn (v := .bool false) rfl (exec_eqInt false rfl (ev rfl) evk H0.out) ?_
  simp only [Act.put, List.setIfInBounds_toArray, List.set_cons_succ, List.set_cons_zero]
  refine wpList_valn (v := .bool false) rfl (exec_as rfl (ev rfl)) ?_
  simp only [Act.put, List.setIfInBounds_toArray, List.set_cons_succ, List.set_cons_zero]
  refine wpList_nil ?_
  go_upto_region 6 with fail
  refine wp_region_lit ?_
  refine wpList_valn (v := .bool false) rfl (exec_eqInt false rfl (ev rfl) evk H2.out) ?_
  simp only [Act.put, List.setIfInBounds_toArray, List.set_cons_succ, List.set_cons_zero]
  refine wpList_valn (v := .bool false) rfl (exec_as rfl (ev rfl)) ?_
  simp only [Act.put, List.setIfInBounds_toArray, List.set_cons_succ, List.set_cons_zero]
  refine wpList_nil ?_
  go_upto_region 8 with fail
  refine wp_region_lit ?_
  refine wpList_valn (v := .bool false) rfl (exec_as rfl evk) ?_
  simp only [Act.put, List.setIfInBounds_toArray, List.set_cons_succ, List.set_cons_zero]
  refine wpList_nil ?_
  go_wp2_with fail
  go_ret
  exact ⟨rfl, HT4.out.bel⟩
set_option maxHeartbeats 1000000 in
theorem rhas_0 {x : Ros} {m s : Int} (hf : fineB x = false) (w : World) : Calls Try.prog 12 #[ros x, .int .i64 m, .int .i64 s] w fun e w' => e = .returned (.bool false) ∧ Below w.heap.size w w' := by
  have HT1 := Lib.hid (OneR.new w x)
  have HF := Lib.hid hf
  clear hf
  go_enter Try.func12, Try.ntmps12
  go_upto_region 1 with (first | (refine wpList_valn rfl (exec_boxR rfl rfl) ?_) | fail)
  generalize w.alloc (.cells (celR x).toArray 26) = w1 at *
  refine wp_region_lit ?_
  refine wpList_valn rfl (exec_ldR rfl (ev rfl) (HT1.out.at0)) ?_
  simp only [Act.put, List.setIfInBounds_toArray, List.set_cons_succ, List.set_cons_zero]
  refine wpList_call rfl (exec_cl Try.call10 rfl (evc (ev rfl) evn)) ?_
  refine (rmay_b w1 HF.out).mono ?_
  rintro e w2 ⟨rfl, hb⟩
  have HT2 := Lib.hid (HT1.out.call hb)
  clear hb HT1
  refine ⟨_, rfl, ?_⟩
  simp only [Act.put, List.setIfInBounds_toArray, List.set_cons_succ, List.set_cons_zero]
  refine wpList_valn (v := .bool true) rfl (exec_not false rfl (ev rfl)) ?_
  simp only [Act.put, List.setIfInBounds_toArray, List.set_cons_succ, List.set_cons_zero]
  refine wpList_skips 4 (v := .bool true) rfl (exec_mv rfl (ev rfl)) (by kernel_rfl) ?_
  simp only [skipAct, List.take_succ_cons, List.take_zero, List.drop_succ_cons, List.drop_zero, Act.put, List.setIfInBounds_toArray, List.set_cons_succ, List.set_cons_zero]
  refine wpList_valn (v := .bool true) rfl (exec_pt rfl (ev rfl) evk) ?_
  simp only [Act.put, List.setIfInBounds_toArray, List.set_cons_succ, List.set_cons_zero]
  refine wpList_skips 2 (v := .bool true) rfl (exec_mv rfl (ev rfl)) (by kernel_rfl) ?_
  simp only [skipAct, List.take_succ_cons, List.take_zero, List.drop_succ_cons, List.drop_zero, Act.put, List.setIfInBounds_toArray, List.set_cons_succ, List.set_cons_zero]
  refine wpList_valn (v := .bool true) rfl (exec_pt rfl (ev rfl) evk) ?_
  simp only [Act.put, List.setIfInBounds_toArray, List.set_cons_succ, List.set_cons_zero]
  refine wpList_skips 5 (v := .bool true) rfl (exec_mv rfl (ev rfl)) (by kernel_rfl) ?_
  simp only [skipAct, List.take_succ_cons, List.take_zero, List.drop_succ_cons, List.drop_zero, Act.put, List.setIfInBounds_toArray, List.set_cons_succ, List.set_cons_zero]
  refine wpList_valn (v := .bool true) rfl (exec_pt rfl (ev rfl) evk) ?_
  simp only [Act.put, List.setIfInBounds_toArray, List.set_cons_succ, List.set_cons_zero]
  refine wpList_nil ?_
  go_upto_region 2 with fail
  refine wp_region_lit ?_
  refine wpList_valn (v := .bool false) rfl (exec_as rfl evk) ?_
  simp only [Act.put, List.setIfInBounds_toArray, List.set_cons_succ, List.set_cons_zero]
  refine wpList_nil ?_
  go_wp2_with fail
  go_ret
  exact ⟨rfl, HT2.out.bel⟩
set_option maxHeartbeats 1000000 in
theorem rhas_1 {x : Ros} {m s : Int} (hf : fineB x = true) (hq : hasM x m = false) (w : World) : Calls Try.prog 12 #[ros x, .int .i64 m, .int .i64 s] w fun e w' => e = .returned (.bool false) ∧ Below w.heap.size w w' := by
  have HT1 := Lib.hid (OneR.new w x)
  have HF := Lib.hid hf
  have HQ := Lib.hid hq
  clear hf hq
  go_enter Try.func12, Try.ntmps12
  go_upto_region 1 with (first | (refine wpList_valn rfl (exec_boxR rfl rfl) ?_) | fail)
  generalize w.alloc (.cells (celR x).toArray 26) = w1 at *
  refine wp_region_lit ?_
  refine wpList_valn rfl (exec_ldR rfl (ev rfl) (HT1.out.at0)) ?_
  simp only [Act.put, List.setIfInBounds_toArray, List.set_cons_succ, List.set_cons_zero]
  refine wpList_call rfl (exec_cl Try.call10 rfl (evc (ev rfl) evn)) ?_
  refine (rmay_b w1 HF.out).mono ?_
  rintro e w2 ⟨rfl, hb⟩
  have HT2 := Lib.hid (HT1.out.call hb)
  clear hb HT1
  refine ⟨_, rfl, ?_⟩
  simp only [Act.put, List.setIfInBounds_toArray, List.set_cons_succ, List.set_cons_zero]
  refine wpList_valn (v := .bool false) rfl (exec_not true rfl (ev rfl)) ?_
  simp only [Act.put, List.setIfInBounds_toArray, List.set_cons_succ, List.set_cons_zero]
  refine wpList_valn (v := .bool false) rfl (exec_mv rfl (ev rfl)) ?_
  simp only [Act.put, List.setIfInBounds_toArray, List.set_cons_succ, List.set_cons_zero]
  refine wpList_val (wanted_of rfl rfl rfl rfl) (exec_ldR rfl (ev rfl) (HT2.out.at0)) ?_
  simp only [Act.put, List.setIfInBounds_toArray, List.set_cons_succ, List.set_cons_zero]
  refine wpList_val (wanted_of rfl rfl rfl rfl) (exec_mv rfl (ev rfl)) ?_
  simp only [Act.put, List.setIfInBounds_toArray, List.set_cons_succ, List.set_cons_zero]
  refine wpList_call (wanted_of rfl rfl rfl rfl) (exec_cl Try.call36 rfl (evc (ev rfl) (evc (ev rfl) evn))) ?_
  refine (rmember_b w2 HQ.out).mono ?_
  rintro e w3 ⟨rfl, hb⟩
  have HT3 := Lib.hid (HT2.out.call hb)
  clear hb HT2
  refine ⟨_, rfl, ?_⟩
  simp only [Act.put, List.setIfInBounds_toArray, List.set_cons_succ, List.set_cons_zero]
  refine wpList_val (v := .bool true) (wanted_of rfl rfl rfl rfl) (exec_not false rfl (ev rfl)) ?_
  simp only [Act.put, List.setIfInBounds_toArray, List.set_cons_succ, List.set_cons_zero]
  refine wpList_valn (v := .bool true) rfl (exec_pf rfl (ev rfl) (ev rfl)) ?_
  simp only [Act.put, List.setIfInBounds_toArray, List.set_cons_succ, List.set_cons_zero]
  refine wpList_skips 2 (v := .bool true) rfl (exec_mv rfl (ev rfl)) (by kernel_rfl) ?_
  simp only [skipAct, List.take_succ_cons, List.take_zero, List.drop_succ_cons, List.drop_zero, Act.put, List.setIfInBounds_toArray, List.set_cons_succ, List.set_cons_zero]
  refine wpList_valn (v := .bool true) rfl (exec_pt rfl (ev rfl) evk) ?_
  simp only [Act.put, List.setIfInBounds_toArray, List.set_cons_succ, List.set_cons_zero]
  refine wpList_skips 5 (v := .bool true) rfl (exec_mv rfl (ev rfl)) (by kernel_rfl) ?_
  simp only [skipAct, List.take_succ_cons, List.take_zero, List.drop_succ_cons, List.drop_zero, Act.put, List.setIfInBounds_toArray, List.set_cons_succ, List.set_cons_zero]
  refine wpList_valn (v := .bool true) rfl (exec_pt rfl (ev rfl) evk) ?_
  simp only [Act.put, List.setIfInBounds_toArray, List.set_cons_succ, List.set_cons_zero]
  refine wpList_nil ?_
  go_upto_region 2 with fail
  refine wp_region_lit ?_
  refine wpList_valn (v := .bool false) rfl (exec_as rfl evk) ?_
  simp only [Act.put, List.setIfInBounds_toArray, List.set_cons_succ, List.set_cons_zero]
  refine wpList_nil ?_
  go_wp2_with fail
  go_ret
  exact ⟨rfl, HT3.out.bel⟩
set_option maxHeartbeats 1000000 in
theorem rhas_2 {x : Ros} {m s : Int} (hf : fineB x = true) (hq : hasM x m = true) (ha : decide (s < 0) = true) (w : World) : Calls Try.prog 12 #[ros x, .int .i64 m, .int .i64 s] w fun e w' => e = .returned (.bool false) ∧ Below w.heap.size w w' := by
  have HT1 := Lib.hid (OneR.new w x)
  have HF := Lib.hid hf
  have HQ := Lib.hid hq
  have HA := Lib.hid ha
  clear hf hq ha
  go_enter Try.func12, Try.ntmps12
  go_upto_region 1 with (first | (refine wpList_valn rfl (exec_boxR rfl rfl) ?_) | fail)
  generalize w.alloc (.cells (celR x).toArray 26) = w1 at *
  refine wp_region_lit ?_
  refine wpList_valn rfl (exec_ldR rfl (ev rfl) (HT1.out.at0)) ?_
  simp only [Act.put, List.setIfInBounds_toArray, List.set_cons_succ, List.set_cons_zero]
  refine wpList_call rfl (exec_cl Try.call10 rfl (evc (ev rfl) evn)) ?_
  refine (rmay_b w1 HF.out).mono ?_
  rintro e w2 ⟨rfl, hb⟩
  have HT2 := Lib.hid (HT1.out.call hb)
  clear hb HT1
  refine ⟨_, rfl, ?_⟩
  simp only [Act.put, List.setIfInBounds_toArray, List.set_cons_succ, List.set_cons_zero]
  refine wpList_valn (v := .bool false) rfl (exec_not true rfl (ev rfl)) ?_
  simp only [Act.put, List.setIfInBounds_toArray, List.set_cons_succ, List.set_cons_zero]
  refine wpList_valn (v := .bool false) rfl (exec_mv rfl (ev rfl)) ?_
  simp only [Act.put, List.setIfInBounds_toArray, List.set_cons_succ, List.set_cons_zero]
  refine wpList_val (wanted_of rfl rfl rfl rfl) (exec_ldR rfl (ev rfl) (HT2.out.at0)) ?_
  simp only [Act.put, List.setIfInBounds_toArray, List.set_cons_succ, List.set_cons_zero]
  refine wpList_val (wanted_of rfl rfl rfl rfl) (exec_mv rfl (ev rfl)) ?_
  simp only [Act.put, List.setIfInBounds_toArray, List.set_cons_succ, List.set_cons_zero]
  refine wpList_call (wanted_of rfl rfl rfl rfl) (exec_cl Try.call36 rfl (evc (ev rfl) (evc (ev rfl) evn))) ?_
  refine (rmember_b w2 HQ.out).mono ?_
  rintro e w3 ⟨rfl, hb⟩
  have HT3 := Lib.hid (HT2.out.call hb)
  clear hb HT2
  refine ⟨_, rfl, ?_⟩
  simp only [Act.put, List.setIfInBounds_toArray, List.set_cons_succ, List.set_cons_zero]
  refine wpList_val (v := .bool false) (wanted_of rfl rfl rfl rfl) (exec_not true rfl (ev rfl)) ?_
  simp only [Act.put, List.setIfInBounds_toArray, List.set_cons_succ, List.set_cons_zero]
  refine wpList_valn (v := .bool false) rfl (exec_pf rfl (ev rfl) (ev rfl)) ?_
  simp only [Act.put, List.setIfInBounds_toArray, List.set_cons_succ, List.set_cons_zero]
  refine wpList_valn (v := .bool false) rfl (exec_mv rfl (ev rfl)) ?_
  simp only [Act.put, List.setIfInBounds_toArray, List.set_cons_succ, List.set_cons_zero]
  refine wpList_val (wanted_of rfl rfl rfl rfl) (exec_mv rfl (ev rfl)) ?_
  simp only [Act.put, List.setIfInBounds_toArray, List.set_cons_succ, List.set_cons_zero]
  refine wpList_val (v := .bool true) (wanted_of rfl rfl rfl rfl) (exec_lss true rfl (ev rfl) evk HA.out) ?_
  simp only [Act.put, List.setIfInBounds_toArray, List.set_cons_succ, List.set_cons_zero]
  refine wpList_valn (v := .bool true) rfl (exec_pf rfl (ev rfl) (ev rfl)) ?_
  simp only [Act.put, List.setIfInBounds_toArray, List.set_cons_succ, List.set_cons_zero]
  refine wpList_skips 5 (v := .bool true) rfl (exec_mv rfl (ev rfl)) (by kernel_rfl) ?_
  simp only [skipAct, List.take_succ_cons, List.take_zero, List.drop_succ_cons, List.drop_zero, Act.put, List.setIfInBounds_toArray, List.set_cons_succ, List.set_cons_zero]
  refine wpList_valn (v := .bool true) rfl (exec_pt rfl (ev rfl) evk) ?_
  simp only [Act.put, List.setIfInBounds_toArray, List.set_cons_succ, List.set_cons_zero]
  refine wpList_nil ?_
  go_upto_region 2 with fail
  refine wp_region_lit ?_
  refine wpList_valn (v := .bool false) rfl (exec_as rfl evk) ?_
  simp only [Act.put, List.setIfInBounds_toArray, List.set_cons_succ, List.set_cons_zero]
  refine wpList_nil ?_
  go_wp2_with fail
  go_ret
  exact ⟨rfl, HT3.out.bel⟩
set_option maxHeartbeats 1000000 in
theorem rhas_2b {x : Ros} {m s : Int} (hf : fineB x = true) (hq : hasM x m = true) (ha : decide (s < 0) = false) (hz : decide (x.s ≤ s) = true) (w : World) : Calls Try.prog 12 #[ros x, .int .i64 m, .int .i64 s] w fun e w' => e = .returned (.bool false) ∧ Below w.heap.size w w' := by
  have HT1 := Lib.hid (OneR.new w x)
  have HF := Lib.hid hf
  have HQ := Lib.hid hq
  have HA := Lib.hid ha
  have HZ := Lib.hid hz
  clear hf hq ha hz
  go_enter Try.func12, Try.ntmps12
  go_upto_region 1 with (first | (refine wpList_valn rfl (exec_boxR rfl rfl) ?_) | fail)
  generalize w.alloc (.cells (celR x).toArray 26) = w1 at *
  refine wp_region_lit ?_
  refine wpList_valn rfl (exec_ldR rfl (ev rfl) (HT1.out.at0)) ?_
  simp only [Act.put, List.setIfInBounds_toArray, List.set_cons_succ, List.set_cons_zero]
  refine wpList_call rfl (exec_cl Try.call10 rfl (evc (ev rfl) evn)) ?_
  refine (rmay_b w1 HF.out).mono ?_
  rintro e w2 ⟨rfl, hb⟩
  have HT2 := Lib.hid (HT1.out.call hb)
  clear hb HT1
  refine ⟨_, rfl, ?_⟩
  simp only [Act.put, List.setIfInBounds_toArray, List.set_cons_succ, List.set_cons_zero]
  refine wpList_valn (v := .bool false) rfl (exec_not true rfl (ev rfl)) ?_
  simp only [Act.put, List.setIfInBounds_toArray, List.set_cons_succ, List.set_cons_zero]
  refine wpList_valn (v := .bool false) rfl (exec_mv rfl (ev rfl)) ?_
  simp only [Act.put, List.setIfInBounds_toArray, List.set_cons_succ, List.set_cons_zero]
  refine wpList_val (wanted_of rfl rfl rfl rfl) (exec_ldR rfl (ev rfl) (HT2.out.at0)) ?_
  simp only [Act.put, List.setIfInBounds_toArray, List.set_cons_succ, List.set_cons_zero]
  refine wpList_val (wanted_of rfl rfl rfl rfl) (exec_mv rfl (ev rfl)) ?_
  simp only [Act.put, List.setIfInBounds_toArray, List.set_cons_succ, List.set_cons_zero]
  refine wpList_call (wanted_of rfl rfl rfl rfl) (exec_cl Try.call36 rfl (evc (ev rfl) (evc (ev rfl) evn))) ?_
  refine (rmember_b w2 HQ.out).mono ?_
  rintro e w3 ⟨rfl, hb⟩
  have HT3 := Lib.hid (HT2.out.call hb)
  clear hb HT2
  refine ⟨_, rfl, ?_⟩
  simp only [Act.put, List.setIfInBounds_toArray, List.set_cons_succ, List.set_cons_zero]
  refine wpList_val (v := .bool false) (wanted_of rfl rfl rfl rfl) (exec_not true rfl (ev rfl)) ?_
  simp only [Act.put, List.setIfInBounds_toArray, List.set_cons_succ, List.set_cons_zero]
  refine wpList_valn (v := .bool false) rfl (exec_pf rfl (ev rfl) (ev rfl)) ?_
  simp only [Act.put, List.setIfInBounds_toArray, List.set_cons_succ, List.set_cons_zero]
  refine wpList_valn (v := .bool false) rfl (exec_mv rfl (ev rfl)) ?_
  simp only [Act.put, List.setIfInBounds_toArray, List.set_cons_succ, List.set_cons_zero]
  refine wpList_val (wanted_of rfl rfl rfl rfl) (exec_mv rfl (ev rfl)) ?_
  simp only [Act.put, List.setIfInBounds_toArray, List.set_cons_succ, List.set_cons_zero]
  refine wpList_val (v := .bool false) (wanted_of rfl rfl rfl rfl) (exec_lss false rfl (ev rfl) evk HA.out) ?_
  simp only [Act.put, List.setIfInBounds_toArray, List.set_cons_succ, List.set_cons_zero]
  refine wpList_valn (v := .bool false) rfl (exec_pf rfl (ev rfl) (ev rfl)) ?_
  simp only [Act.put, List.setIfInBounds_toArray, List.set_cons_succ, List.set_cons_zero]
  refine wpList_valn (v := .bool false) rfl (exec_mv rfl (ev rfl)) ?_
  simp only [Act.put, List.setIfInBounds_toArray, List.set_cons_succ, List.set_cons_zero]
  refine wpList_val (wanted_of rfl rfl rfl rfl) (exec_mv rfl (ev rfl)) ?_
  simp only [Act.put, List.setIfInBounds_toArray, List.set_cons_succ, List.set_cons_zero]
  refine wpList_val (wanted_of rfl rfl rfl rfl) (exec_faddr rfl (ev rfl) faR0) ?_
  simp only [Act.put, List.setIfInBounds_toArray, List.set_cons_succ, List.set_cons_zero]
  refine wpList_val (wanted_of rfl rfl rfl rfl) (exec_faddr rfl (ev rfl) faG1) ?_
  simp only [Act.put, List.setIfInBounds_toArray, List.set_cons_succ, List.set_cons_zero]
  refine wpList_val (wanted_of rfl rfl rfl rfl) (exec_ld rfl (ev rfl) (ldInt (HT3.out.at0).cells.2.1)) ?_
  simp only [Act.put, List.setIfInBounds_toArray, List.set_cons_succ, List.set_cons_zero]
  refine wpList_val (v := .bool true) (wanted_of rfl rfl rfl rfl) (exec_geq true rfl (ev rfl) (ev rfl) HZ.out) ?_
  simp only [Act.put, List.setIfInBounds_toArray, List.set_cons_succ, List.set_cons_zero]
  refine wpList_valn (v := .bool true) rfl (exec_pf rfl (ev rfl) (ev rfl)) ?_
  simp only [Act.put, List.setIfInBounds_toArray, List.set_cons_succ, List.set_cons_zero]
  refine wpList_nil ?_
  go_upto_region 2 with fail
  refine wp_region_lit ?_
  refine wpList_valn (v := .bool false) rfl (exec_as rfl evk) ?_
  simp only [Act.put, List.setIfInBounds_toArray, List.set_cons_succ, List.set_cons_zero]
  refine wpList_nil ?_
  go_wp2_with fail
  go_ret
  exact ⟨rfl, HT3.out.bel⟩
set_option maxHeartbeats 1000000 in
theorem rhas_3 {x : Ros} {j : Nat} {s : Int} (hj : j < 16) (hf : fineB x = true) (hq : hasM x (j : Int) = true) (ha : decide (s < 0) = false) (hz : decide (x.s ≤ s) = false) (h0 : (sta x j == 0) = true) (w : World) : Calls Try.prog 12 #[ros x, .int .i64 (j : Int), .int .i64 s] w fun e w' => e = .returned (.bool true) ∧ Below w.heap.size w w' := by
  have HT1 := Lib.hid (OneR.new w x)
  have HF := Lib.hid hf
  have HQ := Lib.hid hq
  have HA := Lib.hid ha
  have HZ := Lib.hid hz
  have H0 := Lib.hid h0
  clear hf hq ha hz h0
  go_enter Try.func12, Try.ntmps12
  go_upto_region 1 with (first | (refine wpList_valn rfl (exec_boxR rfl rfl) ?_) | fail)
  generalize w.alloc (.cells (celR x).toArray 26) = w1 at *
  refine wp_region_lit ?_
  refine wpList_valn rfl (exec_ldR rfl (ev rfl) (HT1.out.at0)) ?_
  simp only [Act.put, List.setIfInBounds_toArray, List.set_cons_succ, List.set_cons_zero]
  refine wpList_call rfl (exec_cl Try.call10 rfl (evc (ev rfl) evn)) ?_
  refine (rmay_b w1 HF.out).mono ?_
  rintro e w2 ⟨rfl, hb⟩
  have HT2 := Lib.hid (HT1.out.call hb)
  clear hb HT1
  refine ⟨_, rfl, ?_⟩
  simp only [Act.put, List.setIfInBounds_toArray, List.set_cons_succ, List.set_cons_zero]
  refine wpList_valn (v := .bool false) rfl (exec_not true rfl (ev rfl)) ?_
  simp only [Act.put, List.setIfInBounds_toArray, List.set_cons_succ, List.set_cons_zero]
  refine wpList_valn (v := .bool false) rfl (exec_mv rfl (ev rfl)) ?_
  simp only [Act.put, List.setIfInBounds_toArray, List.set_cons_succ, List.set_cons_zero]
  refine wpList_val (wanted_of rfl rfl rfl rfl) (exec_ldR rfl (ev rfl) (HT2.out.at0)) ?_
  simp only [Act.put, List.setIfInBounds_toArray, List.set_cons_succ, List.set_cons_zero]
  refine wpList_val (wanted_of rfl rfl rfl rfl) (exec_mv rfl (ev rfl)) ?_
  simp only [Act.put, List.setIfInBounds_toArray, List.set_cons_succ, List.set_cons_zero]
  refine wpList_call (wanted_of rfl rfl rfl rfl) (exec_cl Try.call36 rfl (evc (ev rfl) (evc (ev rfl) evn))) ?_
  refine (rmember_b w2 HQ.out).mono ?_
  rintro e w3 ⟨rfl, hb⟩
  have HT3 := Lib.hid (HT2.out.call hb)
  clear hb HT2
  refine ⟨_, rfl, ?_⟩
  simp only [Act.put, List.setIfInBounds_toArray, List.set_cons_succ, List.set_cons_zero]
  refine wpList_val (v := .bool false) (wanted_of rfl rfl rfl rfl) (exec_not true rfl (ev rfl)) ?_
  simp only [Act.put, List.setIfInBounds_toArray, List.set_cons_succ, List.set_cons_zero]
  refine wpList_valn (v := .bool false) rfl (exec_pf rfl (ev rfl) (ev rfl)) ?_
  simp only [Act.put, List.setIfInBounds_toArray, List.set_cons_succ, List.set_cons_zero]
  refine wpList_valn (v := .bool false) rfl (exec_mv rfl (ev rfl)) ?_
  simp only [Act.put, List.setIfInBounds_toArray, List.set_cons_succ, List.set_cons_zero]
  refine wpList_val (wanted_of rfl rfl rfl rfl) (exec_mv rfl (ev rfl)) ?_
  simp only [Act.put, List.setIfInBounds_toArray, List.set_cons_succ, List.set_cons_zero]
  refine wpList_val (v := .bool false) (wanted_of rfl rfl rfl rfl) (exec_lss false rfl (ev rfl) evk HA.out) ?_
  simp only [Act.put, List.setIfInBounds_toArray, List.set_cons_succ, List.set_cons_zero]
  refine wpList_valn (v := .bool false) rfl (exec_pf rfl (ev rfl) (ev rfl)) ?_
  simp only [Act.put, List.setIfInBounds_toArray, List.set_cons_succ, List.set_cons_zero]
  refine wpList_valn (v := .bool false) rfl (exec_mv rfl (ev rfl)) ?_
  simp only [Act.put, List.setIfInBounds_toArray, List.set_cons_succ, List.set_cons_zero]
  refine wpList_val (wanted_of rfl rfl rfl rfl) (exec_mv rfl (ev rfl)) ?_
  simp only [Act.put, List.setIfInBounds_toArray, List.set_cons_succ, List.set_cons_zero]
  refine wpList_val (wanted_of rfl rfl rfl rfl) (exec_faddr rfl (ev rfl) faR0) ?_
  simp only [Act.put, List.setIfInBounds_toArray, List.set_cons_succ, List.set_cons_zero]
  refine wpList_val (wanted_of rfl rfl rfl rfl) (exec_faddr rfl (ev rfl) faG1) ?_
  simp only [Act.put, List.setIfInBounds_toArray, List.set_cons_succ, List.set_cons_zero]
  refine wpList_val (wanted_of rfl rfl rfl rfl) (exec_ld rfl (ev rfl) (ldInt (HT3.out.at0).cells.2.1)) ?_
  simp only [Act.put, List.setIfInBounds_toArray, List.set_cons_succ, List.set_cons_zero]
  refine wpList_val (v := .bool false) (wanted_of rfl rfl rfl rfl) (exec_geq false rfl (ev rfl) (ev rfl) HZ.out) ?_
  simp only [Act.put, List.setIfInBounds_toArray, List.set_cons_succ, List.set_cons_zero]
  refine wpList_valn (v := .bool false) rfl (exec_pf rfl (ev rfl) (ev rfl)) ?_
  simp only [Act.put, List.setIfInBounds_toArray, List.set_cons_succ, List.set_cons_zero]
  refine wpList_nil ?_
  go_upto_region 3 with fail
  refine wp_region_lit ?_
  refine wpList_valn rfl (exec_mv rfl (ev rfl)) ?_
  simp only [Act.put, List.setIfInBounds_toArray, List.set_cons_succ, List.set_cons_zero]
  refine wpList_valn rfl (exec_faddr rfl (ev rfl) faR1) ?_
  simp only [Act.put, List.setIfInBounds_toArray, List.set_cons_succ, List.set_cons_zero]
  refine wpList_valn rfl (exec_ix rfl (ev rfl) (ev rfl) (ix16 hj)) ?_
  simp only [Act.put, List.setIfInBounds_toArray, List.set_cons_succ, List.set_cons_zero]
  refine wpList_valn rfl (exec_ld rfl (ev rfl) (ldU8 ((HT3.out.at0).sta hj))) ?_
  simp only [Act.put, List.setIfInBounds_toArray, List.set_cons_succ, List.set_cons_zero]
  refine wpList_valn (v := .bool true) rfl (exec_eqInt true rfl (ev rfl) evk H0.out) ?_
  simp only [Act.put, List.setIfInBounds_toArray, List.set_cons_succ, List.set_cons_zero]
  refine wpList_skips 11 (v := .bool true) rfl (exec_mv rfl (ev rfl)) (by kernel_rfl) ?_
  simp only [skipAct, List.take_succ_cons, List.take_zero, List.drop_succ_cons, List.drop_zero, Act.put, List.setIfInBounds_toArray, List.set_cons_succ, List.set_cons_zero]
  refine wpList_valn (v := .bool true) rfl (exec_pt rfl (ev rfl) evk) ?_
  simp only [Act.put, List.setIfInBounds_toArray, List.set_cons_succ, List.set_cons_zero]
  refine wpList_valn (v := .bool true) rfl (exec_as rfl (ev rfl)) ?_
  simp only [Act.put, List.setIfInBounds_toArray, List.set_cons_succ, List.set_cons_zero]
  refine wpList_nil ?_
  go_wp2_with fail
  go_ret
  exact ⟨rfl, HT3.out.bel⟩
set_option maxHeartbeats 1000000 in
theorem rhas_4 {x : Ros} {j : Nat} {s : Int} (hj : j < 16) (hf : fineB x = true) (hq : hasM x (j : Int) = true) (ha : decide (s < 0) = false) (hz : decide (x.s ≤ s) = false) (h0 : (sta x j == 0) = false) (h2 : (sta x j == 2) = true) (hl : decide (s < x.cur) = true) (w : World) : Calls Try.prog 12 #[ros x, .int .i64 (j : Int), .int .i64 s] w fun e w' => e = .returned (.bool true) ∧ Below w.heap.size w w' := by
  have HT1 := Lib.hid (OneR.new w x)
  have HF := Lib.hid hf
  have HQ := Lib.hid hq
  have HA := Lib.hid ha
  have HZ := Lib.hid hz
  have H0 := Lib.hid h0
  have H2 := Lib.hid h2
  have HL := Lib.hid hl
  clear hf hq ha hz h0 h2 hl
  go_enter Try.func12, Try.ntmps12
  go_upto_region 1 with (first | (refine wpList_valn rfl (exec_boxR rfl rfl) ?_) | fail)
  generalize w.alloc (.cells (celR x).toArray 26) = w1 at *
  refine wp_region_lit ?_
  refine wpList_valn rfl (exec_ldR rfl (ev rfl) (HT1.out.at0)) ?_
  simp only [Act.put, List.setIfInBounds_toArray, List.set_cons_succ, List.set_cons_zero]
  refine wpList_call rfl (exec_cl Try.call10 rfl (evc (ev rfl) evn)) ?_
  refine (rmay_b w1 HF.out).mono ?_
  rintro e w2 ⟨rfl, hb⟩
  have HT2 := Lib.hid (HT1.out.call hb)
  clear hb HT1
  refine ⟨_, rfl, ?_⟩
  simp only [Act.put, List.setIfInBounds_toArray, List.set_cons_succ, List.set_cons_zero]
  refine wpList_valn (v := .bool false) rfl (exec_not true rfl (ev rfl)) ?_
  simp only [Act.put, List.setIfInBounds_toArray, List.set_cons_succ, List.set_cons_zero]
  refine wpList_valn (v := .bool false) rfl (exec_mv rfl (ev rfl)) ?_
  simp only [Act.put, List.setIfInBounds_toArray, List.set_cons_succ, List.set_cons_zero]
  refine wpList_val (wanted_of rfl rfl rfl rfl) (exec_ldR rfl (ev rfl) (HT2.out.at0)) ?_
  simp only [Act.put, List.setIfInBounds_toArray, List.set_cons_succ, List.set_cons_zero]
  refine wpList_val (wanted_of rfl rfl rfl rfl) (exec_mv rfl (ev rfl)) ?_
  simp only [Act.put, List.setIfInBounds_toArray, List.set_cons_succ, List.set_cons_zero]
  refine wpList_call (wanted_of rfl rfl rfl rfl) (exec_cl Try.call36 rfl (evc (ev rfl) (evc (ev rfl) evn))) ?_
  refine (rmember_b w2 HQ.out).mono ?_
  rintro e w3 ⟨rfl, hb⟩
  have HT3 := Lib.hid (HT2.out.call hb)
  clear hb HT2
  refine ⟨_, rfl, ?_⟩
  simp only [Act.put, List.setIfInBounds_toArray, List.set_cons_succ, List.set_cons_zero]
  refine wpList_val (v := .bool false) (wanted_of rfl rfl rfl rfl) (exec_not true rfl (ev rfl)) ?_
  simp only [Act.put, List.setIfInBounds_toArray, List.set_cons_succ, List.set_cons_zero]
  refine wpList_valn (v := .bool false) rfl (exec_pf rfl (ev rfl) (ev rfl)) ?_
  simp only [Act.put, List.setIfInBounds_toArray, List.set_cons_succ, List.set_cons_zero]
  refine wpList_valn (v := .bool false) rfl (exec_mv rfl (ev rfl)) ?_
  simp only [Act.put, List.setIfInBounds_toArray, List.set_cons_succ, List.set_cons_zero]
  refine wpList_val (wanted_of rfl rfl rfl rfl) (exec_mv rfl (ev rfl)) ?_
  simp only [Act.put, List.setIfInBounds_toArray, List.set_cons_succ, List.set_cons_zero]
  refine wpList_val (v := .bool false) (wanted_of rfl rfl rfl rfl) (exec_lss false rfl (ev rfl) evk HA.out) ?_
  simp only [Act.put, List.setIfInBounds_toArray, List.set_cons_succ, List.set_cons_zero]
  refine wpList_valn (v := .bool false) rfl (exec_pf rfl (ev rfl) (ev rfl)) ?_
  simp only [Act.put, List.setIfInBounds_toArray, List.set_cons_succ, List.set_cons_zero]
  refine wpList_valn (v := .bool false) rfl (exec_mv rfl (ev rfl)) ?_
  simp only [Act.put, List.setIfInBounds_toArray, List.set_cons_succ, List.set_cons_zero]
  refine wpList_val (wanted_of rfl rfl rfl rfl) (exec_mv rfl (ev rfl)) ?_
  simp only [Act.put, List.setIfInBounds_toArray, List.set_cons_succ, List.set_cons_zero]
  refine wpList_val (wanted_of rfl rfl rfl rfl) (exec_faddr rfl (ev rfl) faR0) ?_
  simp only [Act.put, List.setIfInBounds_toArray, List.set_cons_succ, List.set_cons_zero]
  refine wpList_val (wanted_of rfl rfl rfl rfl) (exec_faddr rfl (ev rfl) faG1) ?_
  simp only [Act.put, List.setIfInBounds_toArray, List.set_cons_succ, List.set_cons_zero]
  refine wpList_val (wanted_of rfl rfl rfl rfl) (exec_ld rfl (ev rfl) (ldInt (HT3.out.at0).cells.2.1)) ?_
  simp only [Act.put, List.setIfInBounds_toArray, List.set_cons_succ, List.set_cons_zero]
  refine wpList_val (v := .bool false) (wanted_of rfl rfl rfl rfl) (exec_geq false rfl (ev rfl) (ev rfl) HZ.out) ?_
  simp only [Act.put, List.setIfInBounds_toArray, List.set_cons_succ, List.set_cons_zero]
  refine wpList_valn (v := .bool false) rfl (exec_pf rfl (ev rfl) (ev rfl)) ?_
  simp only [Act.put, List.setIfInBounds_toArray, List.set_cons_succ, List.set_cons_zero]
  refine wpList_nil ?_
  go_upto_region 3 with fail
  refine wp_region_lit ?_
  refine wpList_valn rfl (exec_mv rfl (ev rfl)) ?_
  simp only [Act.put, List.setIfInBounds_toArray, List.set_cons_succ, List.set_cons_zero]
  refine wpList_valn rfl (exec_faddr rfl (ev rfl) faR1) ?_
  simp only [Act.put, List.setIfInBounds_toArray, List.set_cons_succ, List.set_cons_zero]
  refine wpList_valn rfl (exec_ix rfl (ev rfl) (ev rfl) (ix16 hj)) ?_
  simp only [Act.put, List.setIfInBounds_toArray, List.set_cons_succ, List.set_cons_zero]
  refine wpList_valn rfl (exec_ld rfl (ev rfl) (ldU8 ((HT3.out.at0).sta hj))) ?_
  simp only [Act.put, List.setIfInBounds_toArray, List.set_cons_succ, List.set_cons_zero]
  refine wpList_valn (v := .bool false) rfl (exec_eqInt false rfl (ev rfl) evk H0.out) ?_
  simp only [Act.put, List.setIfInBounds_toArray, List.set_cons_succ, List.set_cons_zero]
  refine wpList_valn (v := .bool false) rfl (exec_mv rfl (ev rfl)) ?_
  simp only [Act.put, List.setIfInBounds_toArray, List.set_cons_succ, List.set_cons_zero]
  refine wpList_val (wanted_of rfl rfl rfl rfl) (exec_mv rfl (ev rfl)) ?_
  simp only [Act.put, List.setIfInBounds_toArray, List.set_cons_succ, List.set_cons_zero]
  refine wpList_val (wanted_of rfl rfl rfl rfl) (exec_faddr rfl (ev rfl) faR1) ?_
  simp only [Act.put, List.setIfInBounds_toArray, List.set_cons_succ, List.set_cons_zero]
  refine wpList_val (wanted_of rfl rfl rfl rfl) (exec_ix rfl (ev rfl) (ev rfl) (ix16 hj)) ?_
  simp only [Act.put, List.setIfInBounds_toArray, List.set_cons_succ, List.set_cons_zero]
  refine wpList_val (wanted_of rfl rfl rfl rfl) (exec_ld rfl (ev rfl) (ldU8 ((HT3.out.at0).sta hj))) ?_
  simp only [Act.put, List.setIfInBounds_toArray, List.set_cons_succ, List.set_cons_zero]
  refine wpList_val (v := .bool true) (wanted_of rfl rfl rfl rfl) (exec_eqInt true rfl (ev rfl) evk H2.out) ?_
  simp only [Act.put, List.setIfInBounds_toArray, List.set_cons_succ, List.set_cons_zero]
  refine wpList_val (v := .bool true) (wanted_of rfl rfl rfl rfl) (exec_mv rfl (ev rfl)) ?_
  simp only [Act.put, List.setIfInBounds_toArray, List.set_cons_succ, List.set_cons_zero]
  refine wpList_val (wanted_of rfl rfl rfl rfl) (exec_mv rfl (ev rfl)) ?_
  simp only [Act.put, List.setIfInBounds_toArray, List.set_cons_succ, List.set_cons_zero]
  refine wpList_val (wanted_of rfl rfl rfl rfl) (exec_faddr rfl (ev rfl) faR2) ?_
  simp only [Act.put, List.setIfInBounds_toArray, List.set_cons_succ, List.set_cons_zero]
  refine wpList_val (wanted_of rfl rfl rfl rfl) (exec_ld rfl (ev rfl) (ldInt (HT3.out.at0).cells.2.2.2.1)) ?_
  simp only [Act.put, List.setIfInBounds_toArray, List.set_cons_succ, List.set_cons_zero]
  refine wpList_val (v := .bool true) (wanted_of rfl rfl rfl rfl) (exec_lss true rfl (ev rfl) (ev rfl) HL.out) ?_
  simp only [Act.put, List.setIfInBounds_toArray, List.set_cons_succ, List.set_cons_zero]
  refine wpList_val (v := .bool true) (wanted_of rfl rfl rfl rfl) (exec_pt rfl (ev rfl) (ev rfl)) ?_
  simp only [Act.put, List.setIfInBounds_toArray, List.set_cons_succ, List.set_cons_zero]
  refine wpList_valn (v := .bool true) rfl (exec_pf rfl (ev rfl) (ev rfl)) ?_
  simp only [Act.put, List.setIfInBounds_toArray, List.set_cons_succ, List.set_cons_zero]
  refine wpList_valn (v := .bool true) rfl (exec_as rfl (ev rfl)) ?_
  simp only [Act.put, List.setIfInBounds_toArray, List.set_cons_succ, List.set_cons_zero]
  refine wpList_nil ?_
  go_wp2_with fail
  go_ret
  exact ⟨rfl, HT3.out.bel⟩
set_option maxHeartbeats 1000000 in
theorem rhas_5 {x : Ros} {j : Nat} {s : Int} (hj : j < 16) (hf : fineB x = true) (hq : hasM x (j : Int) = true) (ha : decide (s < 0) = false) (hz : decide (x.s ≤ s) = false) (h0 : (sta x j == 0) = false) (h2 : (sta x j == 2) = true) (hl : decide (s < x.cur) = false) (w : World) : Calls Try.prog 12 #[ros x, .int .i64 (j : Int), .int .i64 s] w fun e w' => e = .returned (.bool false) ∧ Below w.heap.size w w' := by
  have HT1 := Lib.hid (OneR.new w x)
  have HF := Lib.hid hf
  have HQ := Lib.hid hq
  have HA := Lib.hid ha
  have HZ := Lib.hid hz
  have H0 := Lib.hid h0
  have H2 := Lib.hid h2
  have HL := Lib.hid hl
  clear hf hq ha hz h0 h2 hl
  go_enter Try.func12, Try.ntmps12
  go_upto_region 1 with (first | (refine wpList_valn rfl (exec_boxR rfl rfl) ?_) | fail)
  generalize w.alloc (.cells (celR x).toArray 26) = w1 at *
  refine wp_region_lit ?_
  refine wpList_valn rfl (exec_ldR rfl (ev rfl) (HT1.out.at0)) ?_
  simp only [Act.put, List.setIfInBounds_toArray, List.set_cons_succ, List.set_cons_zero]
  refine wpList_call rfl (exec_cl Try.call10 rfl (evc (ev rfl) evn)) ?_
  refine (rmay_b w1 HF.out).mono ?_
  rintro e w2 ⟨rfl, hb⟩
  have HT2 := Lib.hid (HT1.out.call hb)
  clear hb HT1
  refine ⟨_, rfl, ?_⟩
  simp only [Act.put, List.setIfInBounds_toArray, List.set_cons_succ, List.set_cons_zero]
  refine wpList_valn (v := .bool false) rfl (exec_not true rfl (ev rfl)) ?_
  simp only [Act.put, List.setIfInBounds_toArray, List.set_cons_succ, List.set_cons_zero]
  refine wpList_valn (v := .bool false) rfl (exec_mv rfl (ev rfl)) ?_
  simp only [Act.put, List.setIfInBounds_toArray, List.set_cons_succ, List.set_cons_zero]
  refine wpList_val (wanted_of rfl rfl rfl rfl) (exec_ldR rfl (ev rfl) (HT2.out.at0)) ?_
  simp only [Act.put, List.setIfInBounds_toArray, List.set_cons_succ, List.set_cons_zero]
  refine wpList_val (wanted_of rfl rfl rfl rfl) (exec_mv rfl (ev rfl)) ?_
  simp only [Act.put, List.setIfInBounds_toArray, List.set_cons_succ, List.set_cons_zero]
  refine wpList_call (wanted_of rfl rfl rfl rfl) (exec_cl Try.call36 rfl (evc (ev rfl) (evc (ev rfl) evn))) ?_
  refine (rmember_b w2 HQ.out).mono ?_
  rintro e w3 ⟨rfl, hb⟩
  have HT3 := Lib.hid (HT2.out.call hb)
  clear hb HT2
  refine ⟨_, rfl, ?_⟩
  simp only [Act.put, List.setIfInBounds_toArray, List.set_cons_succ, List.set_cons_zero]
  refine wpList_val (v := .bool false) (wanted_of rfl rfl rfl rfl) (exec_not true rfl (ev rfl)) ?_
  simp only [Act.put, List.setIfInBounds_toArray, List.set_cons_succ, List.set_cons_zero]
  refine wpList_valn (v := .bool false) rfl (exec_pf rfl (ev rfl) (ev rfl)) ?_
  simp only [Act.put, List.setIfInBounds_toArray, List.set_cons_succ, List.set_cons_zero]
  refine wpList_valn (v := .bool false) rfl (exec_mv rfl (ev rfl)) ?_
  simp only [Act.put, List.setIfInBounds_toArray, List.set_cons_succ, List.set_cons_zero]
  refine wpList_val (wanted_of rfl rfl rfl rfl) (exec_mv rfl (ev rfl)) ?_
  simp only [Act.put, List.setIfInBounds_toArray, List.set_cons_succ, List.set_cons_zero]
  refine wpList_val (v := .bool false) (wanted_of rfl rfl rfl rfl) (exec_lss false rfl (ev rfl) evk HA.out) ?_
  simp only [Act.put, List.setIfInBounds_toArray, List.set_cons_succ, List.set_cons_zero]
  refine wpList_valn (v := .bool false) rfl (exec_pf rfl (ev rfl) (ev rfl)) ?_
  simp only [Act.put, List.setIfInBounds_toArray, List.set_cons_succ, List.set_cons_zero]
  refine wpList_valn (v := .bool false) rfl (exec_mv rfl (ev rfl)) ?_
  simp only [Act.put, List.setIfInBounds_toArray, List.set_cons_succ, List.set_cons_zero]
  refine wpList_val (wanted_of rfl rfl rfl rfl) (exec_mv rfl (ev rfl)) ?_
  simp only [Act.put, List.setIfInBounds_toArray, List.set_cons_succ, List.set_cons_zero]
  refine wpList_val (wanted_of rfl rfl rfl rfl) (exec_faddr rfl (ev rfl) faR0) ?_
  simp only [Act.put, List.setIfInBounds_toArray, List.set_cons_succ, List.set_cons_zero]
  refine wpList_val (wanted_of rfl rfl rfl rfl) (exec_faddr rfl (ev rfl) faG1) ?_
  simp only [Act.put, List.setIfInBounds_toArray, List.set_cons_succ, List.set_cons_zero]
  refine wpList_val (wanted_of rfl rfl rfl rfl) (exec_ld rfl (ev rfl) (ldInt (HT3.out.at0).cells.2.1)) ?_
  simp only [Act.put, List.setIfInBounds_toArray, List.set_cons_succ, List.set_cons_zero]
  refine wpList_val (v := .bool false) (wanted_of rfl rfl rfl rfl) (exec_geq false rfl (ev rfl) (ev rfl) HZ.out) ?_
  simp only [Act.put, List.setIfInBounds_toArray, List.set_cons_succ, List.set_cons_zero]
  refine wpList_valn (v := .bool false) rfl (exec_pf rfl (ev rfl) (ev rfl)) ?_
  simp only [Act.put, List.setIfInBounds_toArray, List.set_cons_succ, List.set_cons_zero]
  refine wpList_nil ?_
  go_upto_region 3 with fail
  refine wp_region_lit ?_
  refine wpList_valn rfl (exec_mv rfl (ev rfl)) ?_
  simp only [Act.put, List.setIfInBounds_toArray, List.set_cons_succ, List.set_cons_zero]
  refine wpList_valn rfl (exec_faddr rfl (ev rfl) faR1) ?_
  simp only [Act.put, List.setIfInBounds_toArray, List.set_cons_succ, List.set_cons_zero]
  refine wpList_valn rfl (exec_ix rfl (ev rfl) (ev rfl) (ix16 hj)) ?_
  simp only [Act.put, List.setIfInBounds_toArray, List.set_cons_succ, List.set_cons_zero]
  refine wpList_valn rfl (exec_ld rfl (ev rfl) (ldU8 ((HT3.out.at0).sta hj))) ?_
  simp only [Act.put, List.setIfInBounds_toArray, List.set_cons_succ, List.set_cons_zero]
  refine wpList_valn (v := .bool false) rfl (exec_eqInt false rfl (ev rfl) evk H0.out) ?_
  simp only [Act.put, List.setIfInBounds_toArray, List.set_cons_succ, List.set_cons_zero]
  refine wpList_valn (v := .bool false) rfl (exec_mv rfl (ev rfl)) ?_
  simp only [Act.put, List.setIfInBounds_toArray, List.set_cons_succ, List.set_cons_zero]
  refine wpList_val (wanted_of rfl rfl rfl rfl) (exec_mv rfl (ev rfl)) ?_
  simp only [Act.put, List.setIfInBounds_toArray, List.set_cons_succ, List.set_cons_zero]
  refine wpList_val (wanted_of rfl rfl rfl rfl) (exec_faddr rfl (ev rfl) faR1) ?_
  simp only [Act.put, List.setIfInBounds_toArray, List.set_cons_succ, List.set_cons_zero]
  refine wpList_val (wanted_of rfl rfl rfl rfl) (exec_ix rfl (ev rfl) (ev rfl) (ix16 hj)) ?_
  simp only [Act.put, List.setIfInBounds_toArray, List.set_cons_succ, List.set_cons_zero]
  refine wpList_val (wanted_of rfl rfl rfl rfl) (exec_ld rfl (ev rfl) (ldU8 ((HT3.out.at0).sta hj))) ?_
  simp only [Act.put, List.setIfInBounds_toArray, List.set_cons_succ, List.set_cons_zero]
  refine wpList_val (v := .bool true) (wanted_of rfl rfl rfl rfl) (exec_eqInt true rfl (ev rfl) evk H2.out) ?_
  simp only [Act.put, List.setIfInBounds_toArray, List.set_cons_succ, List.set_cons_zero]
  refine wpList_val (v := .bool true) (wanted_of rfl rfl rfl rfl) (exec_mv rfl (ev rfl)) ?_
  simp only [Act.put, List.setIfInBounds_toArray, List.set_cons_succ, List.set_cons_zero]
  refine wpList_val (wanted_of rfl rfl rfl rfl) (exec_mv rfl (ev rfl)) ?_
  simp only [Act.put, List.setIfInBounds_toArray, List.set_cons_succ, List.set_cons_zero]
  refine wpList_val (wanted_of rfl rfl rfl rfl) (exec_faddr rfl (ev rfl) faR2) ?_
  simp only [Act.put, List.setIfInBounds_toArray, List.set_cons_succ, List.set_cons_zero]
  refine wpList_val (wanted_of rfl rfl rfl rfl) (exec_ld rfl (ev rfl) (ldInt (HT3.out.at0).cells.2.2.2.1)) ?_
  simp only [Act.put, List.setIfInBounds_toArray, List.set_cons_succ, List.set_cons_zero]
  refine wpList_val (v := .bool false) (wanted_of rfl rfl rfl rfl) (exec_lss false rfl (ev rfl) (ev rfl) HL.out) ?_
  simp only [Act.put, List.setIfInBounds_toArray, List.set_cons_succ, List.set_cons_zero]
  refine wpList_val (v := .bool false) (wanted_of rfl rfl rfl rfl) (exec_pt rfl (ev rfl) (ev rfl)) ?_
  simp only [Act.put, List.setIfInBounds_toArray, List.set_cons_succ, List.set_cons_zero]
  refine wpList_valn (v := .bool false) rfl (exec_pf rfl (ev rfl) (ev rfl)) ?_
  simp only [Act.put, List.setIfInBounds_toArray, List.set_cons_succ, List.set_cons_zero]
  refine wpList_valn (v := .bool false) rfl (exec_as rfl (ev rfl)) ?_
  simp only [Act.put, List.setIfInBounds_toArray, List.set_cons_succ, List.set_cons_zero]
  refine wpList_nil ?_
  go_wp2_with fail
  go_ret
  exact ⟨rfl, HT3.out.bel⟩
set_option maxHeartbeats 1000000 in
theorem rhas_6 {x : Ros} {j : Nat} {s : Int} (hj : j < 16) (hf : fineB x = true) (hq : hasM x (j : Int) = true) (ha : decide (s < 0) = false) (hz : decide (x.s ≤ s) = false) (h0 : (sta x j == 0) = false) (h2 : (sta x j == 2) = false) (w : World) : Calls Try.prog 12 #[ros x, .int .i64 (j : Int), .int .i64 s] w fun e w' => e = .returned (.bool false) ∧ Below w.heap.size w w' := by
  have HT1 := Lib.hid (OneR.new w x)
  have HF := Lib.hid hf
  have HQ := Lib.hid hq
  have HA := Lib.hid ha
  have HZ := Lib.hid hz
  have H0 := Lib.hid h0
  have H2 := Lib.hid h2
  clear hf hq ha hz h0 h2
  go_enter Try.func12, Try.ntmps12
  go_upto_region 1 with (first | (refine wpList_valn rfl (exec_boxR rfl rfl) ?_) | fail)
  generalize w.alloc (.cells (celR x).toArray 26) = w1 at *
  refine wp_region_lit ?_
  refine wpList_valn rfl (exec_ldR rfl (ev rfl) (HT1.out.at0)) ?_
  simp only [Act.put, List.setIfInBounds_toArray, List.set_cons_succ, List.set_cons_zero]
  refine wpList_call rfl (exec_cl Try.call10 rfl (evc (ev rfl) evn)) ?_
  refine (rmay_b w1 HF.out).mono ?_
  rintro e w2 ⟨rfl, hb⟩
  have HT2 := Lib.hid (HT1.out.call hb)
  clear hb HT1
  refine ⟨_, rfl, ?_⟩
  simp only [Act.put, List.setIfInBounds_toArray, List.set_cons_succ, List.set_cons_zero]
  refine wpList_valn (v := .bool false) rfl (exec_not true rfl (ev rfl)) ?_
  simp only [Act.put, List.setIfInBounds_toArray, List.set_cons_succ, List.set_cons_zero]
  refine wpList_valn (v := .bool false) rfl (exec_mv rfl (ev rfl)) ?_
  simp only [Act.put, List.setIfInBounds_toArray, List.set_cons_succ, List.set_cons_zero]
  refine wpList_val (wanted_of rfl rfl rfl rfl) (exec_ldR rfl (ev rfl) (HT2.out.at0)) ?_
  simp only [Act.put, List.setIfInBounds_toArray, List.set_cons_succ, List.set_cons_zero]
  refine wpList_val (wanted_of rfl rfl rfl rfl) (exec_mv rfl (ev rfl)) ?_
  simp only [Act.put, List.setIfInBounds_toArray, List.set_cons_succ, List.set_cons_zero]
  refine wpList_call (wanted_of rfl rfl rfl rfl) (exec_cl Try.call36 rfl (evc (ev rfl) (evc (ev rfl) evn))) ?_
  refine (rmember_b w2 HQ.out).mono ?_
  rintro e w3 ⟨rfl, hb⟩
  have HT3 := Lib.hid (HT2.out.call hb)
  clear hb HT2
  refine ⟨_, rfl, ?_⟩
  simp only [Act.put, List.setIfInBounds_toArray, List.set_cons_succ, List.set_cons_zero]
  refine wpList_val (v := .bool false) (wanted_of rfl rfl rfl rfl) (exec_not true rfl (ev rfl)) ?_
  simp only [Act.put, List.setIfInBounds_toArray, List.set_cons_succ, List.set_cons_zero]
  refine wpList_valn (v := .bool false) rfl (exec_pf rfl (ev rfl) (ev rfl)) ?_
  simp only [Act.put, List.setIfInBounds_toArray, List.set_cons_succ, List.set_cons_zero]
  refine wpList_valn (v := .bool false) rfl (exec_mv rfl (ev rfl)) ?_
  simp only [Act.put, List.setIfInBounds_toArray, List.set_cons_succ, List.set_cons_zero]
  refine wpList_val (wanted_of rfl rfl rfl rfl) (exec_mv rfl (ev rfl)) ?_
  simp only [Act.put, List.setIfInBounds_toArray, List.set_cons_succ, List.set_cons_zero]
  refine wpList_val (v := .bool false) (wanted_of rfl rfl rfl rfl) (exec_lss false rfl (ev rfl) evk HA.out) ?_
  simp only [Act.put, List.setIfInBounds_toArray, List.set_cons_succ, List.set_cons_zero]
  refine wpList_valn (v := .bool false) rfl (exec_pf rfl (ev rfl) (ev rfl)) ?_
  simp only [Act.put, List.setIfInBounds_toArray, List.set_cons_succ, List.set_cons_zero]
  refine wpList_valn (v := .bool false) rfl (exec_mv rfl (ev rfl)) ?_
  simp only [Act.put, List.setIfInBounds_toArray, List.set_cons_succ, List.set_cons_zero]
  refine wpList_val (wanted_of rfl rfl rfl rfl) (exec_mv rfl (ev rfl)) ?_
  simp only [Act.put, List.setIfInBounds_toArray, List.set_cons_succ, List.set_cons_zero]
  refine wpList_val (wanted_of rfl rfl rfl rfl) (exec_faddr rfl (ev rfl) faR0) ?_
  simp only [Act.put, List.setIfInBounds_toArray, List.set_cons_succ, List.set_cons_zero]
  refine wpList_val (wanted_of rfl rfl rfl rfl) (exec_faddr rfl (ev rfl) faG1) ?_
  simp only [Act.put, List.setIfInBounds_toArray, List.set_cons_succ, List.set_cons_zero]
  refine wpList_val (wanted_of rfl rfl rfl rfl) (exec_ld rfl (ev rfl) (ldInt (HT3.out.at0).cells.2.1)) ?_
  simp only [Act.put, List.setIfInBounds_toArray, List.set_cons_succ, List.set_cons_zero]
  refine wpList_val (v := .bool false) (wanted_of rfl rfl rfl rfl) (exec_geq false rfl (ev rfl) (ev rfl) HZ.out) ?_
  simp only [Act.put, List.setIfInBounds_toArray, List.set_cons_succ, List.set_cons_zero]
  refine wpList_valn (v := .bool false) rfl (exec_pf rfl (ev rfl) (ev rfl)) ?_
  simp only [Act.put, List.setIfInBounds_toArray, List.set_cons_succ, List.set_cons_zero]
  refine wpList_nil ?_
  go_upto_region 3 with fail
  refine wp_region_lit ?_
  refine wpList_valn rfl (exec_mv rfl (ev rfl)) ?_
  simp only [Act.put, List.setIfInBounds_toArray, List.set_cons_succ, List.set_cons_zero]
  refine wpList_valn rfl (exec_faddr rfl (ev rfl) faR1) ?_
  simp only [Act.put, List.setIfInBounds_toArray, List.set_cons_succ, List.set_cons_zero]
  refine wpList_valn rfl (exec_ix rfl (ev rfl) (ev rfl) (ix16 hj)) ?_
  simp only [Act.put, List.setIfInBounds_toArray, List.set_cons_succ, List.set_cons_zero]
  refine wpList_valn rfl (exec_ld rfl (ev rfl) (ldU8 ((HT3.out.at0).sta hj))) ?_
  simp only [Act.put, List.setIfInBounds_toArray, List.set_cons_succ, List.set_cons_zero]
  refine wpList_valn (v := .bool false) rfl (exec_eqInt false rfl (ev rfl) evk H0.out) ?_
  simp only [Act.put, List.setIfInBounds_toArray, List.set_cons_succ, List.set_cons_zero]
  refine wpList_valn (v := .bool false) rfl (exec_mv rfl (ev rfl)) ?_
  simp only [Act.put, List.setIfInBounds_toArray, List.set_cons_succ, List.set_cons_zero]
  refine wpList_val (wanted_of rfl rfl rfl rfl) (exec_mv rfl (ev rfl)) ?_
  simp only [Act.put, List.setIfInBounds_toArray, List.set_cons_succ, List.set_cons_zero]
  refine wpList_val (wanted_of rfl rfl rfl rfl) (exec_faddr rfl (ev rfl) faR1) ?_
  simp only [Act.put, List.setIfInBounds_toArray, List.set_cons_succ, List.set_cons_zero]
  refine wpList_val (wanted_of rfl rfl rfl rfl) (exec_ix rfl (ev rfl) (ev rfl) (ix16 hj)) ?_
  simp only [Act.put, List.setIfInBounds_toArray, List.set_cons_succ, List.set_cons_zero]
  refine wpList_val (wanted_of rfl rfl rfl rfl) (exec_ld rfl (ev rfl) (ldU8 ((HT3.out.at0).sta hj))) ?_
  simp only [Act.put, List.setIfInBounds_toArray, List.set_cons_succ, List.set_cons_zero]
  refine wpList_val (v := .bool false) (wanted_of rfl rfl rfl rfl) (exec_eqInt false rfl (ev rfl) evk H2.out) ?_
  simp only [Act.put, List.setIfInBounds_toArray, List.set_cons_succ, List.set_cons_zero]
  refine wpList_skips 4 (v := .bool false) (wanted_of rfl rfl rfl rfl) (exec_mv rfl (ev rfl)) (by kernel_rfl) ?_
  simp only [skipAct, List.take_succ_cons, List.take_zero, List.drop_succ_cons, List.drop_zero, Act.put, List.setIfInBounds_toArray, List.set_cons_succ, List.set_cons_zero]
  refine wpList_val (v := .bool false) (wanted_of rfl rfl rfl rfl) (exec_pf rfl (ev rfl) evk) ?_
  simp only [Act.put, List.setIfInBounds_toArray, List.set_cons_succ, List.set_cons_zero]
  refine wpList_valn (v := .bool false) rfl (exec_pf rfl (ev rfl) (ev rfl)) ?_
  simp only [Act.put, List.setIfInBounds_toArray, List.set_cons_succ, List.set_cons_zero]
  refine wpList_valn (v := .bool false) rfl (exec_as rfl (ev rfl)) ?_
  simp only [Act.put, List.setIfInBounds_toArray, List.set_cons_succ, List.set_cons_zero]
  refine wpList_nil ?_
  go_wp2_with fail
  go_ret
  exact ⟨rfl, HT3.out.bel⟩
theorem has_z {x : Ros} {j : Nat} {s : Int} (hf : fineB x = true) (hq : hasM x (j : Int) = true) (hc : hasC x s = true) : hasB x (j : Int) s = (decide (sta x j = 0) || (decide (sta x j = 2) && decide (s < x.cur))) := by
  unfold hasB
  rw [hf, hq, hc]
  rfl
theorem phas (x : Ros) (m s : Int) (w : World) : Calls Try.prog 11 #[ros x, .int .i64 m, .int .i64 s] w fun e w' => e = .returned (.bool (hasB x m s)) ∧ Below w.heap.size w w' := by
  cases hf : fineB x
  · rw [show hasB x m s = false from by unfold hasB; rw [hf]; rfl]; exact phas_0 hf w
  cases hq : hasM x m
  · rw [show hasB x m s = false from by unfold hasB; rw [hf, hq]; rfl]; exact phas_1 hf hq w
  cases hc : hasC x s
  · rw [show hasB x m s = false from by unfold hasB; rw [hf, hq, hc]; rfl]; exact phas_2 hf hq hc w
  have hm := of_hasM hq
  have hg := of_geoB (of_fineB hf).1
  obtain ⟨j, rfl⟩ := Int.eq_ofNat_of_zero_le hm.1
  have hj : j < 16 := by omega
  rw [has_z hf hq hc]
  by_cases h0 : sta x j = 0
  · rw [decide_eq_true h0]; exact phas_3 hj hf hq hc (by simpa using h0) w
  rw [decide_eq_false h0]
  by_cases h2 : sta x j = 2
  · rw [decide_eq_true h2]
    by_cases hl : s < x.cur
    · rw [decide_eq_true hl]; exact phas_4 hj hf hq hc (by simpa using h0) (by simpa using h2) (decide_eq_true hl) w
    · rw [decide_eq_false hl]; exact phas_5 hj hf hq hc (by simpa using h0) (by simpa using h2) (decide_eq_false hl) w
  · rw [decide_eq_false h2]; exact phas_6 hj hf hq hc (by simpa using h0) (by simpa using h2) w
theorem rhas (x : Ros) (m s : Int) (w : World) : Calls Try.prog 12 #[ros x, .int .i64 m, .int .i64 s] w fun e w' => e = .returned (.bool (hasB x m s)) ∧ Below w.heap.size w w' := by
  cases hf : fineB x
  · rw [show hasB x m s = false from by unfold hasB; rw [hf]; rfl]; exact rhas_0 hf w
  cases hq : hasM x m
  · rw [show hasB x m s = false from by unfold hasB; rw [hf, hq]; rfl]; exact rhas_1 hf hq w
  by_cases ha : s < 0
  · rw [show hasB x m s = false from by unfold hasB hasC; rw [hf, hq, decide_eq_false (by omega)]; rfl]; exact rhas_2 hf hq (decide_eq_true ha) w
  by_cases hz : x.s ≤ s
  · rw [show hasB x m s = false from by unfold hasB hasC; rw [hf, hq, decide_eq_false (by omega)]; rfl]; exact rhas_2b hf hq (decide_eq_false ha) (decide_eq_true hz) w
  have hc : hasC x s = true := decide_eq_true (by omega)
  have hm := of_hasM hq
  have hg := of_geoB (of_fineB hf).1
  obtain ⟨j, rfl⟩ := Int.eq_ofNat_of_zero_le hm.1
  have hj : j < 16 := by omega
  have ha := decide_eq_false ha
  have hz := decide_eq_false hz
  rw [has_z hf hq hc]
  by_cases h0 : sta x j = 0
  · rw [decide_eq_true h0]; exact rhas_3 hj hf hq ha hz (by simpa using h0) w
  rw [decide_eq_false h0]
  by_cases h2 : sta x j = 2
  · rw [decide_eq_true h2]
    by_cases hl : s < x.cur
    · rw [decide_eq_true hl]; exact rhas_4 hj hf hq ha hz (by simpa using h0) (by simpa using h2) (decide_eq_true hl) w
    · rw [decide_eq_false hl]; exact rhas_5 hj hf hq ha hz (by simpa using h0) (by simpa using h2) (decide_eq_false hl) w
  · rw [decide_eq_false h2]; exact rhas_6 hj hf hq ha hz (by simpa using h0) (by simpa using h2) w
end Go.Proofs.Ytnckcafemdcaeaa
