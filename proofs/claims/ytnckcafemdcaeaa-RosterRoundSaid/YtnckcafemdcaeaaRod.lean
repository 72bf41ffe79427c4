/-
  What becomes of a roster: New, Lose, Begin, Next, Gone; the program's, the document's.
-/
import Derived.Test.YtnckcafemdcaeaaRoc
import Derived.Test.YtnckcafemdcaeaaSkip
import Derived.Test.YtnckcafemdcaeaaSkq
namespace Go.Proofs.Ytnckcafemdcaeaa
open Go.RowKit
set_option linter.unusedVariables false
set_option linter.unusedSimpArgs false
set_option maxRecDepth 100000

section
variable (x : Ros) {j : Nat} (hj : j < 16)
include hj
theorem celR_set0 : (celR x).set (3 + j) (.int .u8 0) = celR (setS x j 0) := celR_set x hj 0
theorem celR_set1 : (celR x).set (3 + j) (.int .u8 1) = celR (setS x j 1) := celR_set x hj 1
theorem celR_set2 : (celR x).set (3 + j) (.int .u8 2) = celR (setS x j 2) := celR_set x hj 2
end
theorem pgmay_b {y : Ros} {b : Bool} (w : World) (h : geoB y = b) : Calls Try.prog 30 #[geo y] w fun e w' => e = .returned (.bool b) ∧ Below w.heap.size w w' := by subst h; exact pgmay y w
theorem rfine_b {y : Ros} {b : Bool} (w : World) (h : fineB y = b) : Calls Try.prog 31 #[ros y] w fun e w' => e = .returned (.bool b) ∧ Below w.heap.size w w' := by subst h; exact rfine y w
set_option maxHeartbeats 1000000 in
theorem pgone_0 {x : Ros} {g : Bool} (hf : fineB x = false) (w : World) : Calls Try.prog 25 #[ros x, .bool g] w fun e w' => e = .returned (.tuple #[ros (zeroR), .int .i64 2]) ∧ Below w.heap.size w w' := by
  have HT1 := Lib.hid (TwoR.new w x)
  have HF := Lib.hid hf
  clear hf
  go_enter Try.func25, Try.ntmps25
  go_upto_region 1 with (first | (refine wpList_valn rfl (exec_boxR rfl rfl) ?_) | (refine wpList_valn rfl (exec_allocR rfl) ?_) | fail)
  generalize (w.alloc (.cells (celR x).toArray 26)).alloc (.cells (celR zeroR).toArray 26) = w1 at *
  refine wp_region_lit ?_
  refine wpList_valn rfl (exec_ldR rfl (ev rfl) (HT1.out.at0)) ?_
  simp only [Act.put, List.setIfInBounds_toArray, List.set_cons_succ, List.set_cons_zero]
  refine wpList_call rfl (exec_cl Try.call9 rfl (evc (ev rfl) evn)) ?_
  refine (pmay_b w1 HF.out).mono ?_
  rintro e w2 ⟨rfl, hb⟩
  have HT2 := Lib.hid (HT1.out.call hb)
  clear hb HT1
  refine ⟨_, rfl, ?_⟩
  simp only [Act.put, List.setIfInBounds_toArray, List.set_cons_succ, List.set_cons_zero]
  refine wpList_valn (v := .bool true) rfl (exec_not false rfl (ev rfl)) ?_
  simp only [Act.put, List.setIfInBounds_toArray, List.set_cons_succ, List.set_cons_zero]
  refine wpList_nil ?_
  go_upto_region 2 with fail
  refine wp_region_lit ?_
  refine wpList_valn rfl (exec_bldR0 rfl) ?_
  simp only [Act.put, List.setIfInBounds_toArray, List.set_cons_succ, List.set_cons_zero]
  refine wpList_nuln rfl (exec_putR rfl (ev rfl) (ev rfl) HT2.out.at1) ?_
  simp only [Act.put, List.setIfInBounds_toArray, List.set_cons_succ, List.set_cons_zero]
  have HT3 := Lib.hid (HT2.out.put (zeroR))
  generalize putW w2 (w.heap.size + 1) (zeroR) = w3 at HT3 ⊢
  clear HT2
  refine wpList_valn rfl (exec_as rfl evk) ?_
  simp only [Act.put, List.setIfInBounds_toArray, List.set_cons_succ, List.set_cons_zero]
  refine wpList_nil ?_
  go_wp2_with fail
  exact bodyPost_ret (res_rt rfl _ _ _ rfl HT3.out.at1) rfl ⟨rfl, HT3.out.bel⟩
set_option maxHeartbeats 1000000 in
theorem pgone_1 {x : Ros} {g : Bool} (hf : fineB x = true) (w : World) : Calls Try.prog 25 #[ros x, .bool g] w fun e w' => e = .returned (.tuple #[ros (gonS x g), .int .i64 0]) ∧ Below w.heap.size w w' := by
  have HT1 := Lib.hid (TwoR.new w x)
  have HF := Lib.hid hf
  clear hf
  go_enter Try.func25, Try.ntmps25
  go_upto_region 1 with (first | (refine wpList_valn rfl (exec_boxR rfl rfl) ?_) | (refine wpList_valn rfl (exec_allocR rfl) ?_) | fail)
  generalize (w.alloc (.cells (celR x).toArray 26)).alloc (.cells (celR zeroR).toArray 26) = w1 at *
  refine wp_region_lit ?_
  refine wpList_valn rfl (exec_ldR rfl (ev rfl) (HT1.out.at0)) ?_
  simp only [Act.put, List.setIfInBounds_toArray, List.set_cons_succ, List.set_cons_zero]
  refine wpList_call rfl (exec_cl Try.call9 rfl (evc (ev rfl) evn)) ?_
  refine (pmay_b w1 HF.out).mono ?_
  rintro e w2 ⟨rfl, hb⟩
  have HT2 := Lib.hid (HT1.out.call hb)
  clear hb HT1
  refine ⟨_, rfl, ?_⟩
  simp only [Act.put, List.setIfInBounds_toArray, List.set_cons_succ, List.set_cons_zero]
  refine wpList_valn (v := .bool false) rfl (exec_not true rfl (ev rfl)) ?_
  simp only [Act.put, List.setIfInBounds_toArray, List.set_cons_succ, List.set_cons_zero]
  refine wpList_nil ?_
  go_upto_region 3 with fail
  refine wp_region_lit ?_
  refine wpList_valn rfl (exec_mv rfl (ev rfl)) ?_
  simp only [Act.put, List.setIfInBounds_toArray, List.set_cons_succ, List.set_cons_zero]
  refine wpList_valn rfl (exec_faddr rfl (ev rfl) faR3) ?_
  simp only [Act.put, List.setIfInBounds_toArray, List.set_cons_succ, List.set_cons_zero]
  refine wpList_nuln rfl (exec_stG rfl (ev rfl) (ev rfl) (HT2.out.at0.there (by omega))) ?_
  simp only [Act.put, List.setIfInBounds_toArray, List.set_cons_succ, List.set_cons_zero]
  have HT3 := Lib.hid (HT2.out.set (celR_gone _ (g)))
  generalize setW w2 w.heap.size (20) (.bool g) = w3 at HT3 ⊢
  clear HT2
  refine wpList_nil ?_
  go_upto_region 4 with fail
  refine wp_region_lit ?_
  refine wpList_valn rfl (exec_ldR rfl (ev rfl) (HT3.out.at0)) ?_
  simp only [Act.put, List.setIfInBounds_toArray, List.set_cons_succ, List.set_cons_zero]
  refine wpList_nuln rfl (exec_putR rfl (ev rfl) (ev rfl) HT3.out.at1) ?_
  simp only [Act.put, List.setIfInBounds_toArray, List.set_cons_succ, List.set_cons_zero]
  have HT4 := Lib.hid (HT3.out.put (gonS x g))
  generalize putW w3 (w.heap.size + 1) (gonS x g) = w4 at HT4 ⊢
  clear HT3
  refine wpList_valn rfl (exec_as rfl evk) ?_
  simp only [Act.put, List.setIfInBounds_toArray, List.set_cons_succ, List.set_cons_zero]
  refine wpList_nil ?_
  go_wp2_with fail
  exact bodyPost_ret (res_rt rfl _ _ _ rfl HT4.out.at1) rfl ⟨rfl, HT4.out.bel⟩
theorem pgone (x : Ros) (g : Bool) (w : World) : Calls Try.prog 25 #[ros x, .bool g] w fun e w' => e = .returned (.tuple #[ros (gonX x g), .int .i64 (gonE x : Nat)]) ∧ Below w.heap.size w w' := by
  unfold gonX gonE
  cases hf : fineB x
  · exact pgone_0 hf w
  · exact pgone_1 hf w
set_option maxHeartbeats 1000000 in
theorem rgone_0 {x : Ros} {g : Bool} (hf : fineB x = false) (w : World) : Calls Try.prog 26 #[ros x, .bool g] w fun e w' => e = .returned (.tuple #[ros (zeroR), .int .i64 2]) ∧ Below w.heap.size w w' := by
  have HT1 := Lib.hid (TwoR.new w x)
  have HF := Lib.hid hf
  clear hf
  go_enter Try.func26, Try.ntmps26
  go_upto_region 1 with (first | (refine wpList_valn rfl (exec_boxR rfl rfl) ?_) | (refine wpList_valn rfl (exec_allocR rfl) ?_) | fail)
  generalize (w.alloc (.cells (celR x).toArray 26)).alloc (.cells (celR zeroR).toArray 26) = w1 at *
  refine wp_region_lit ?_
  refine wpList_valn rfl (exec_ldR rfl (ev rfl) (HT1.out.at0)) ?_
  simp only [Act.put, List.setIfInBounds_toArray, List.set_cons_succ, List.set_cons_zero]
  refine wpList_call rfl (exec_cl Try.call10 rfl (evc (ev rfl) evn)) ?_
  refine (rmay_b w1 HF.out).mono ?_
  rintro e w2 ⟨rfl, hb⟩
  have HT2 := Lib.hid (HT1.out.call hb)
  clear hb HT1
  refine ⟨_, rfl, ?_⟩
  simp only [Act.put, List.setIfInBounds_toArray, List.set_cons_succ, List.set_cons_zero]
  refine wpList_valn (v := .bool true) rfl (exec_not false rfl (ev rfl)) ?_
  simp only [Act.put, List.setIfInBounds_toArray, List.set_cons_succ, List.set_cons_zero]
  refine wpList_nil ?_
  go_upto_region 2 with fail
  refine wp_region_lit ?_
  refine wpList_valn rfl (exec_bldR0 rfl) ?_
  simp only [Act.put, List.setIfInBounds_toArray, List.set_cons_succ, List.set_cons_zero]
  refine wpList_nuln rfl (exec_putR rfl (ev rfl) (ev rfl) HT2.out.at1) ?_
  simp only [Act.put, List.setIfInBounds_toArray, List.set_cons_succ, List.set_cons_zero]
  have HT3 := Lib.hid (HT2.out.put (zeroR))
  generalize putW w2 (w.heap.size + 1) (zeroR) = w3 at HT3 ⊢
  clear HT2
  refine wpList_valn rfl (exec_as rfl evk) ?_
  simp only [Act.put, List.setIfInBounds_toArray, List.set_cons_succ, List.set_cons_zero]
  refine wpList_nil ?_
  go_wp2_with fail
  exact bodyPost_ret (res_rt rfl _ _ _ rfl HT3.out.at1) rfl ⟨rfl, HT3.out.bel⟩
set_option maxHeartbeats 1000000 in
theorem rgone_1 {x : Ros} {g : Bool} (hf : fineB x = true) (w : World) : Calls Try.prog 26 #[ros x, .bool g] w fun e w' => e = .returned (.tuple #[ros (gonS x g), .int .i64 0]) ∧ Below w.heap.size w w' := by
  have HT1 := Lib.hid (TwoR.new w x)
  have HF := Lib.hid hf
  clear hf
  go_enter Try.func26, Try.ntmps26
  go_upto_region 1 with (first | (refine wpList_valn rfl (exec_boxR rfl rfl) ?_) | (refine wpList_valn rfl (exec_allocR rfl) ?_) | fail)
  generalize (w.alloc (.cells (celR x).toArray 26)).alloc (.cells (celR zeroR).toArray 26) = w1 at *
  refine wp_region_lit ?_
  refine wpList_valn rfl (exec_ldR rfl (ev rfl) (HT1.out.at0)) ?_
  simp only [Act.put, List.setIfInBounds_toArray, List.set_cons_succ, List.set_cons_zero]
  refine wpList_call rfl (exec_cl Try.call10 rfl (evc (ev rfl) evn)) ?_
  refine (rmay_b w1 HF.out).mono ?_
  rintro e w2 ⟨rfl, hb⟩
  have HT2 := Lib.hid (HT1.out.call hb)
  clear hb HT1
  refine ⟨_, rfl, ?_⟩
  simp only [Act.put, List.setIfInBounds_toArray, List.set_cons_succ, List.set_cons_zero]
  refine wpList_valn (v := .bool false) rfl (exec_not true rfl (ev rfl)) ?_
  simp only [Act.put, List.setIfInBounds_toArray, List.set_cons_succ, List.set_cons_zero]
  refine wpList_nil ?_
  go_upto_region 3 with fail
  refine wp_region_lit ?_
  refine wpList_valn rfl (exec_mv rfl (ev rfl)) ?_
  simp only [Act.put, List.setIfInBounds_toArray, List.set_cons_succ, List.set_cons_zero]
  refine wpList_valn rfl (exec_faddr rfl (ev rfl) faR3) ?_
  simp only [Act.put, List.setIfInBounds_toArray, List.set_cons_succ, List.set_cons_zero]
  refine wpList_nuln rfl (exec_stG rfl (ev rfl) (ev rfl) (HT2.out.at0.there (by omega))) ?_
  simp only [Act.put, List.setIfInBounds_toArray, List.set_cons_succ, List.set_cons_zero]
  have HT3 := Lib.hid (HT2.out.set (celR_gone _ (g)))
  generalize setW w2 w.heap.size (20) (.bool g) = w3 at HT3 ⊢
  clear HT2
  refine wpList_nil ?_
  go_upto_region 4 with fail
  refine wp_region_lit ?_
  refine wpList_valn rfl (exec_ldR rfl (ev rfl) (HT3.out.at0)) ?_
  simp only [Act.put, List.setIfInBounds_toArray, List.set_cons_succ, List.set_cons_zero]
  refine wpList_nuln rfl (exec_putR rfl (ev rfl) (ev rfl) HT3.out.at1) ?_
  simp only [Act.put, List.setIfInBounds_toArray, List.set_cons_succ, List.set_cons_zero]
  have HT4 := Lib.hid (HT3.out.put (gonS x g))
  generalize putW w3 (w.heap.size + 1) (gonS x g) = w4 at HT4 ⊢
  clear HT3
  refine wpList_valn rfl (exec_as rfl evk) ?_
  simp only [Act.put, List.setIfInBounds_toArray, List.set_cons_succ, List.set_cons_zero]
  refine wpList_nil ?_
  go_wp2_with fail
  exact bodyPost_ret (res_rt rfl _ _ _ rfl HT4.out.at1) rfl ⟨rfl, HT4.out.bel⟩
theorem rgone (x : Ros) (g : Bool) (w : World) : Calls Try.prog 26 #[ros x, .bool g] w fun e w' => e = .returned (.tuple #[ros (gonX x g), .int .i64 (gonE x : Nat)]) ∧ Below w.heap.size w w' := by
  unfold gonX gonE
  cases hf : fineB x
  · exact rgone_0 hf w
  · exact rgone_1 hf w
set_option maxHeartbeats 1000000 in
theorem plose_0 {x : Ros} {m : Int} (hf : fineB x = false) (w : World) : Calls Try.prog 19 #[ros x, .int .i64 m] w fun e w' => e = .returned (.tuple #[ros (x), .bool false]) ∧ Below w.heap.size w w' := by
  have HT1 := Lib.hid (TwoR.new w x)
  have HF := Lib.hid hf
  clear hf
  go_enter Try.func19, Try.ntmps19
  go_upto_region 1 with (first | (refine wpList_valn rfl (exec_boxR rfl rfl) ?_) | (refine wpList_valn rfl (exec_allocR rfl) ?_) | fail)
  generalize (w.alloc (.cells (celR x).toArray 26)).alloc (.cells (celR zeroR).toArray 26) = w1 at *
  refine wp_region_lit ?_
  refine wpList_valn rfl (exec_ldR rfl (ev rfl) (HT1.out.at0)) ?_
  simp only [Act.put, List.setIfInBounds_toArray, List.set_cons_succ, List.set_cons_zero]
  refine wpList_call rfl (exec_cl Try.call9 rfl (evc (ev rfl) evn)) ?_
  refine (pmay_b w1 HF.out).mono ?_
  rintro e w2 ⟨rfl, hb⟩
  have HT2 := Lib.hid (HT1.out.call hb)
  clear hb HT1
  refine ⟨_, rfl, ?_⟩
  simp only [Act.put, List.setIfInBounds_toArray, List.set_cons_succ, List.set_cons_zero]
  refine wpList_valn (v := .bool true) rfl (exec_not false rfl (ev rfl)) ?_
  simp only [Act.put, List.setIfInBounds_toArray, List.set_cons_succ, List.set_cons_zero]
  refine wpList_skips 4 (v := .bool true) rfl (exec_mv rfl (ev rfl)) (by kernel_rfl) ?_
  simp only [skipAct, List.take_succ_cons, List.take_zero, List.drop_succ_cons, List.drop_zero, Act.put, List.setIfInBounds_toArray, List.set_cons_succ, List.set_cons_zero]
  refine wpList_valn (v := .bool true) rfl (exec_pt rfl (ev rfl) evk) ?_
  simp only [Act.put, List.setIfInBounds_toArray, List.set_cons_succ, List.set_cons_zero]
  refine wpList_nil ?_
  go_upto_region 2 with fail
  refine wp_region_lit ?_
  refine wpList_valn rfl (exec_ldR rfl (ev rfl) (HT2.out.at0)) ?_
  simp only [Act.put, List.setIfInBounds_toArray, List.set_cons_succ, List.set_cons_zero]
  refine wpList_nuln rfl (exec_putR rfl (ev rfl) (ev rfl) HT2.out.at1) ?_
  simp only [Act.put, List.setIfInBounds_toArray, List.set_cons_succ, List.set_cons_zero]
  have HT3 := Lib.hid (HT2.out.put (x))
  generalize putW w2 (w.heap.size + 1) (x) = w3 at HT3 ⊢
  clear HT2
  refine wpList_valn (v := .bool false) rfl (exec_as rfl evk) ?_
  simp only [Act.put, List.setIfInBounds_toArray, List.set_cons_succ, List.set_cons_zero]
  refine wpList_nil ?_
  go_wp2_with fail
  exact bodyPost_ret (res_rt rfl _ _ _ rfl HT3.out.at1) rfl ⟨rfl, HT3.out.bel⟩
set_option maxHeartbeats 1000000 in
theorem plose_1 {x : Ros} {m : Int} (hf : fineB x = true) (hq : hasM x m = false) (w : World) : Calls Try.prog 19 #[ros x, .int .i64 m] w fun e w' => e = .returned (.tuple #[ros (x), .bool false]) ∧ Below w.heap.size w w' := by
  have HT1 := Lib.hid (TwoR.new w x)
  have HF := Lib.hid hf
  have HQ := Lib.hid hq
  clear hf hq
  go_enter Try.func19, Try.ntmps19
  go_upto_region 1 with (first | (refine wpList_valn rfl (exec_boxR rfl rfl) ?_) | (refine wpList_valn rfl (exec_allocR rfl) ?_) | fail)
  generalize (w.alloc (.cells (celR x).toArray 26)).alloc (.cells (celR zeroR).toArray 26) = w1 at *
  refine wp_region_lit ?_
  refine wpList_valn rfl (exec_ldR rfl (ev rfl) (HT1.out.at0)) ?_
  simp only [Act.put, List.setIfInBounds_toArray, List.set_cons_succ, List.set_cons_zero]
  refine wpList_call rfl (exec_cl Try.call9 rfl (evc (ev rfl) evn)) ?_
  refine (pmay_b w1 HF.out).mono ?_
  rintro e w2 ⟨rfl, hb⟩
  have HT2 := Lib.hid (HT1.out.call hb)
  clear hb HT1
  refine ⟨_, rfl, ?_⟩
  simp only [Act.put, List.setIfInBounds_toArray, List.set_cons_succ, List.set_cons_zero]
  refine wpList_valn (v := .bool false) rfl (exec_not true rfl (ev rfl)) ?_
  simp only [Act.put, List.setIfInBounds_toArray, List.set_cons_succ, List.set_cons_zero]
  refine wpList_valn (v := .bool false) rfl (exec_mv rfl (ev rfl)) ?_
  simp only [Act.put, List.setIfInBounds_toArray, List.set_cons_succ, List.set_cons_zero]
  refine wpList_val (wanted_of rfl rfl rfl rfl) (exec_ldR rfl (ev rfl) (HT2.out.at0)) ?_
  simp only [Act.put, List.setIfInBounds_toArray, List.set_cons_succ, List.set_cons_zero]
  refine wpList_val (wanted_of rfl rfl rfl rfl) (exec_mv rfl (ev rfl)) ?_
  simp only [Act.put, List.setIfInBounds_toArray, List.set_cons_succ, List.set_cons_zero]
  refine wpList_call (wanted_of rfl rfl rfl rfl) (exec_cl Try.call34 rfl (evc (ev rfl) (evc (ev rfl) evn))) ?_
  refine (pmember_b w2 HQ.out).mono ?_
  rintro e w3 ⟨rfl, hb⟩
  have HT3 := Lib.hid (HT2.out.call hb)
  clear hb HT2
  refine ⟨_, rfl, ?_⟩
  simp only [Act.put, List.setIfInBounds_toArray, List.set_cons_succ, List.set_cons_zero]
  refine wpList_val (v := .bool true) (wanted_of rfl rfl rfl rfl) (exec_not false rfl (ev rfl)) ?_
  simp only [Act.put, List.setIfInBounds_toArray, List.set_cons_succ, List.set_cons_zero]
  refine wpList_valn (v := .bool true) rfl (exec_pf rfl (ev rfl) (ev rfl)) ?_
  simp only [Act.put, List.setIfInBounds_toArray, List.set_cons_succ, List.set_cons_zero]
  refine wpList_nil ?_
  go_upto_region 2 with fail
  refine wp_region_lit ?_
  refine wpList_valn rfl (exec_ldR rfl (ev rfl) (HT3.out.at0)) ?_
  simp only [Act.put, List.setIfInBounds_toArray, List.set_cons_succ, List.set_cons_zero]
  refine wpList_nuln rfl (exec_putR rfl (ev rfl) (ev rfl) HT3.out.at1) ?_
  simp only [Act.put, List.setIfInBounds_toArray, List.set_cons_succ, List.set_cons_zero]
  have HT4 := Lib.hid (HT3.out.put (x))
  generalize putW w3 (w.heap.size + 1) (x) = w4 at HT4 ⊢
  clear HT3
  refine wpList_valn (v := .bool false) rfl (exec_as rfl evk) ?_
  simp only [Act.put, List.setIfInBounds_toArray, List.set_cons_succ, List.set_cons_zero]
  refine wpList_nil ?_
  go_wp2_with fail
  exact bodyPost_ret (res_rt rfl _ _ _ rfl HT4.out.at1) rfl ⟨rfl, HT4.out.bel⟩
set_option maxHeartbeats 1000000 in
theorem plose_2 {x : Ros} {j : Nat} (hj : j < 16) (hf : fineB x = true) (hq : hasM x (j : Int) = true) (h1 : (sta x j == 1) = true) (w : World) : Calls Try.prog 19 #[ros x, .int .i64 (j : Int)] w fun e w' => e = .returned (.tuple #[ros (x), .bool false]) ∧ Below w.heap.size w w' := by
  have HT1 := Lib.hid (TwoR.new w x)
  have HF := Lib.hid hf
  have HQ := Lib.hid hq
  have H1 := Lib.hid h1
  clear hf hq h1
  go_enter Try.func19, Try.ntmps19
  go_upto_region 1 with (first | (refine wpList_valn rfl (exec_boxR rfl rfl) ?_) | (refine wpList_valn rfl (exec_allocR rfl) ?_) | fail)
  generalize (w.alloc (.cells (celR x).toArray 26)).alloc (.cells (celR zeroR).toArray 26) = w1 at *
  refine wp_region_lit ?_
  refine wpList_valn rfl (exec_ldR rfl (ev rfl) (HT1.out.at0)) ?_
  simp only [Act.put, List.setIfInBounds_toArray, List.set_cons_succ, List.set_cons_zero]
  refine wpList_call rfl (exec_cl Try.call9 rfl (evc (ev rfl) evn)) ?_
  refine (pmay_b w1 HF.out).mono ?_
  rintro e w2 ⟨rfl, hb⟩
  have HT2 := Lib.hid (HT1.out.call hb)
  clear hb HT1
  refine ⟨_, rfl, ?_⟩
  simp only [Act.put, List.setIfInBounds_toArray, List.set_cons_succ, List.set_cons_zero]
  refine wpList_valn (v := .bool false) rfl (exec_not true rfl (ev rfl)) ?_
  simp only [Act.put, List.setIfInBounds_toArray, List.set_cons_succ, List.set_cons_zero]
  refine wpList_valn (v := .bool false) rfl (exec_mv rfl (ev rfl)) ?_
  simp only [Act.put, List.setIfInBounds_toArray, List.set_cons_succ, List.set_cons_zero]
  refine wpList_val (wanted_of rfl rfl rfl rfl) (exec_ldR rfl (ev rfl) (HT2.out.at0)) ?_
  simp only [Act.put, List.setIfInBounds_toArray, List.set_cons_succ, List.set_cons_zero]
  refine wpList_val (wanted_of rfl rfl rfl rfl) (exec_mv rfl (ev rfl)) ?_
  simp only [Act.put, List.setIfInBounds_toArray, List.set_cons_succ, List.set_cons_zero]
  refine wpList_call (wanted_of rfl rfl rfl rfl) (exec_cl Try.call34 rfl (evc (ev rfl) (evc (ev rfl) evn))) ?_
  refine (pmember_b w2 HQ.out).mono ?_
  rintro e w3 ⟨rfl, hb⟩
  have HT3 := Lib.hid (HT2.out.call hb)
  clear hb HT2
  refine ⟨_, rfl, ?_⟩
  simp only [Act.put, List.setIfInBounds_toArray, List.set_cons_succ, List.set_cons_zero]
  refine wpList_val (v := .bool false) (wanted_of rfl rfl rfl rfl) (exec_not true rfl (ev rfl)) ?_
  simp only [Act.put, List.setIfInBounds_toArray, List.set_cons_succ, List.set_cons_zero]
  refine wpList_valn (v := .bool false) rfl (exec_pf rfl (ev rfl) (ev rfl)) ?_
  simp only [Act.put, List.setIfInBounds_toArray, List.set_cons_succ, List.set_cons_zero]
  refine wpList_nil ?_
  go_upto_region 3 with fail
  refine wp_region_lit ?_
  refine wpList_valn rfl (exec_mv rfl (ev rfl)) ?_
  simp only [Act.put, List.setIfInBounds_toArray, List.set_cons_succ, List.set_cons_zero]
  refine wpList_valn rfl (exec_faddr rfl (ev rfl) faR1) ?_
  simp only [Act.put, List.setIfInBounds_toArray, List.set_cons_succ, List.set_cons_zero]
  refine wpList_valn rfl (exec_ix rfl (ev rfl) (ev rfl) (ix16 hj)) ?_
  simp only [Act.put, List.setIfInBounds_toArray, List.set_cons_succ, List.set_cons_zero]
  refine wpList_valn rfl (exec_ld rfl (ev rfl) (ldU8 ((HT3.out.at0).sta hj))) ?_
  simp only [Act.put, List.setIfInBounds_toArray, List.set_cons_succ, List.set_cons_zero]
  refine wpList_nil ?_
  go_upto_region 4 with fail
  refine wp_region_lit ?_
  refine wpList_valn (v := .bool true) rfl (exec_eqInt true rfl (ev rfl) evk H1.out) ?_
  simp only [Act.put, List.setIfInBounds_toArray, List.set_cons_succ, List.set_cons_zero]
  refine wpList_valn (v := .bool true) rfl (exec_as rfl (ev rfl)) ?_
  simp only [Act.put, List.setIfInBounds_toArray, List.set_cons_succ, List.set_cons_zero]
  refine wpList_nil ?_
  go_upto_region 5 with fail
  refine wp_region_lit ?_
  refine wpList_valn rfl (exec_ldR rfl (ev rfl) (HT3.out.at0)) ?_
  simp only [Act.put, List.setIfInBounds_toArray, List.set_cons_succ, List.set_cons_zero]
  refine wpList_nuln rfl (exec_putR rfl (ev rfl) (ev rfl) HT3.out.at1) ?_
  simp only [Act.put, List.setIfInBounds_toArray, List.set_cons_succ, List.set_cons_zero]
  have HT4 := Lib.hid (HT3.out.put (x))
  generalize putW w3 (w.heap.size + 1) (x) = w4 at HT4 ⊢
  clear HT3
  refine wpList_valn (v := .bool false) rfl (exec_as rfl evk) ?_
  simp only [Act.put, List.setIfInBounds_toArray, List.set_cons_succ, List.set_cons_zero]
  refine wpList_nil ?_
  go_wp2_with fail
  exact bodyPost_ret (res_rt rfl _ _ _ rfl HT4.out.at1) rfl ⟨rfl, HT4.out.bel⟩
set_option maxHeartbeats 1000000 in
theorem plose_3 {x : Ros} {j : Nat} (hj : j < 16) (hf : fineB x = true) (hq : hasM x (j : Int) = true) (h1 : (sta x j == 1) = false) (h2 : (sta x j == 2) = true) (w : World) : Calls Try.prog 19 #[ros x, .int .i64 (j : Int)] w fun e w' => e = .returned (.tuple #[ros (setS (curS x 0) j 1), .bool true]) ∧ Below w.heap.size w w' := by
  have HT1 := Lib.hid (TwoR.new w x)
  have HF := Lib.hid hf
  have HQ := Lib.hid hq
  have H1 := Lib.hid h1
  have H2 := Lib.hid h2
  clear hf hq h1 h2
  go_enter Try.func19, Try.ntmps19
  go_upto_region 1 with (first | (refine wpList_valn rfl (exec_boxR rfl rfl) ?_) | (refine wpList_valn rfl (exec_allocR rfl) ?_) | fail)
  generalize (w.alloc (.cells (celR x).toArray 26)).alloc (.cells (celR zeroR).toArray 26) = w1 at *
  refine wp_region_lit ?_
  refine wpList_valn rfl (exec_ldR rfl (ev rfl) (HT1.out.at0)) ?_
  simp only [Act.put, List.setIfInBounds_toArray, List.set_cons_succ, List.set_cons_zero]
  refine wpList_call rfl (exec_cl Try.call9 rfl (evc (ev rfl) evn)) ?_
  refine (pmay_b w1 HF.out).mono ?_
  rintro e w2 ⟨rfl, hb⟩
  have HT2 := Lib.hid (HT1.out.call hb)
  clear hb HT1
  refine ⟨_, rfl, ?_⟩
  simp only [Act.put, List.setIfInBounds_toArray, List.set_cons_succ, List.set_cons_zero]
  refine wpList_valn (v := .bool false) rfl (exec_not true rfl (ev rfl)) ?_
  simp only [Act.put, List.setIfInBounds_toArray, List.set_cons_succ, List.set_cons_zero]
  refine wpList_valn (v := .bool false) rfl (exec_mv rfl (ev rfl)) ?_
  simp only [Act.put, List.setIfInBounds_toArray, List.set_cons_succ, List.set_cons_zero]
  refine wpList_val (wanted_of rfl rfl rfl rfl) (exec_ldR rfl (ev rfl) (HT2.out.at0)) ?_
  simp only [Act.put, List.setIfInBounds_toArray, List.set_cons_succ, List.set_cons_zero]
  refine wpList_val (wanted_of rfl rfl rfl rfl) (exec_mv rfl (ev rfl)) ?_
  simp only [Act.put, List.setIfInBounds_toArray, List.set_cons_succ, List.set_cons_zero]
  refine wpList_call (wanted_of rfl rfl rfl rfl) (exec_cl Try.call34 rfl (evc (ev rfl) (evc (ev rfl) evn))) ?_
  refine (pmember_b w2 HQ.out).mono ?_
  rintro e w3 ⟨rfl, hb⟩
  have HT3 := Lib.hid (HT2.out.call hb)
  clear hb HT2
  refine ⟨_, rfl, ?_⟩
  simp only [Act.put, List.setIfInBounds_toArray, List.set_cons_succ, List.set_cons_zero]
  refine wpList_val (v := .bool false) (wanted_of rfl rfl rfl rfl) (exec_not true rfl (ev rfl)) ?_
  simp only [Act.put, List.setIfInBounds_toArray, List.set_cons_succ, List.set_cons_zero]
  refine wpList_valn (v := .bool false) rfl (exec_pf rfl (ev rfl) (ev rfl)) ?_
  simp only [Act.put, List.setIfInBounds_toArray, List.set_cons_succ, List.set_cons_zero]
  refine wpList_nil ?_
  go_upto_region 3 with fail
  refine wp_region_lit ?_
  refine wpList_valn rfl (exec_mv rfl (ev rfl)) ?_
  simp only [Act.put, List.setIfInBounds_toArray, List.set_cons_succ, List.set_cons_zero]
  refine wpList_valn rfl (exec_faddr rfl (ev rfl) faR1) ?_
  simp only [Act.put, List.setIfInBounds_toArray, List.set_cons_succ, List.set_cons_zero]
  refine wpList_valn rfl (exec_ix rfl (ev rfl) (ev rfl) (ix16 hj)) ?_
  simp only [Act.put, List.setIfInBounds_toArray, List.set_cons_succ, List.set_cons_zero]
  refine wpList_valn rfl (exec_ld rfl (ev rfl) (ldU8 ((HT3.out.at0).sta hj))) ?_
  simp only [Act.put, List.setIfInBounds_toArray, List.set_cons_succ, List.set_cons_zero]
  refine wpList_nil ?_
  go_upto_region 4 with fail
  refine wp_region_lit ?_
  refine wpList_valn (v := .bool false) rfl (exec_eqInt false rfl (ev rfl) evk H1.out) ?_
  simp only [Act.put, List.setIfInBounds_toArray, List.set_cons_succ, List.set_cons_zero]
  refine wpList_valn (v := .bool false) rfl (exec_as rfl (ev rfl)) ?_
  simp only [Act.put, List.setIfInBounds_toArray, List.set_cons_succ, List.set_cons_zero]
  refine wpList_nil ?_
  go_upto_region 6 with fail
  refine wp_region_lit ?_
  refine wpList_valn (v := .bool true) rfl (exec_eqInt true rfl (ev rfl) evk H2.out) ?_
  simp only [Act.put, List.setIfInBounds_toArray, List.set_cons_succ, List.set_cons_zero]
  refine wpList_valn (v := .bool true) rfl (exec_as rfl (ev rfl)) ?_
  simp only [Act.put, List.setIfInBounds_toArray, List.set_cons_succ, List.set_cons_zero]
  refine wpList_nil ?_
  go_upto_region 7 with fail
  refine wp_region_lit ?_
  refine wpList_valn rfl (exec_faddr rfl (ev rfl) faR2) ?_
  simp only [Act.put, List.setIfInBounds_toArray, List.set_cons_succ, List.set_cons_zero]
  refine wpList_nuln rfl (exec_stI rfl (ev rfl) evk (HT3.out.at0.there (by omega))) ?_
  simp only [Act.put, List.setIfInBounds_toArray, List.set_cons_succ, List.set_cons_zero]
  have HT4 := Lib.hid (HT3.out.set (celR_cur _ (0)))
  generalize setW w3 w.heap.size (19) (.int .i64 (0)) = w4 at HT4 ⊢
  clear HT3
  refine wpList_nil ?_
  go_upto_region 8 with fail
  refine wp_region_lit ?_
  refine wpList_valn rfl (exec_mv rfl (ev rfl)) ?_
  simp only [Act.put, List.setIfInBounds_toArray, List.set_cons_succ, List.set_cons_zero]
  refine wpList_valn rfl (exec_faddr rfl (ev rfl) faR1) ?_
  simp only [Act.put, List.setIfInBounds_toArray, List.set_cons_succ, List.set_cons_zero]
  refine wpList_valn rfl (exec_ix rfl (ev rfl) (ev rfl) (ix16 hj)) ?_
  simp only [Act.put, List.setIfInBounds_toArray, List.set_cons_succ, List.set_cons_zero]
  refine wpList_nuln rfl (exec_stS rfl (ev rfl) evk (HT4.out.at0.there (by omega))) ?_
  simp only [Act.put, List.setIfInBounds_toArray, List.set_cons_succ, List.set_cons_zero]
  have HT5 := Lib.hid (HT4.out.set (celR_set1 _ hj))
  generalize setW w4 w.heap.size (3 + j) (.int .u8 1) = w5 at HT5 ⊢
  clear HT4
  refine wpList_nil ?_
  go_upto_region 9 with fail
  refine wp_region_lit ?_
  refine wpList_valn rfl (exec_ldR rfl (ev rfl) (HT5.out.at0)) ?_
  simp only [Act.put, List.setIfInBounds_toArray, List.set_cons_succ, List.set_cons_zero]
  refine wpList_nuln rfl (exec_putR rfl (ev rfl) (ev rfl) HT5.out.at1) ?_
  simp only [Act.put, List.setIfInBounds_toArray, List.set_cons_succ, List.set_cons_zero]
  have HT6 := Lib.hid (HT5.out.put (setS (curS x 0) j 1))
  generalize putW w5 (w.heap.size + 1) (setS (curS x 0) j 1) = w6 at HT6 ⊢
  clear HT5
  refine wpList_valn (v := .bool true) rfl (exec_as rfl evk) ?_
  simp only [Act.put, List.setIfInBounds_toArray, List.set_cons_succ, List.set_cons_zero]
  refine wpList_nil ?_
  go_wp2_with fail
  exact bodyPost_ret (res_rt rfl _ _ _ rfl HT6.out.at1) rfl ⟨rfl, HT6.out.bel⟩
set_option maxHeartbeats 1000000 in
theorem plose_4 {x : Ros} {j : Nat} (hj : j < 16) (hf : fineB x = true) (hq : hasM x (j : Int) = true) (h1 : (sta x j == 1) = false) (h2 : (sta x j == 2) = false) (w : World) : Calls Try.prog 19 #[ros x, .int .i64 (j : Int)] w fun e w' => e = .returned (.tuple #[ros (setS x j 1), .bool true]) ∧ Below w.heap.size w w' := by
  have HT1 := Lib.hid (TwoR.new w x)
  have HF := Lib.hid hf
  have HQ := Lib.hid hq
  have H1 := Lib.hid h1
  have H2 := Lib.hid h2
  clear hf hq h1 h2
  go_enter Try.func19, Try.ntmps19
  go_upto_region 1 with (first | (refine wpList_valn rfl (exec_boxR rfl rfl) ?_) | (refine wpList_valn rfl (exec_allocR rfl) ?_) | fail)
  generalize (w.alloc (.cells (celR x).toArray 26)).alloc (.cells (celR zeroR).toArray 26) = w1 at *
  refine wp_region_lit ?_
  refine wpList_valn rfl (exec_ldR rfl (ev rfl) (HT1.out.at0)) ?_
  simp only [Act.put, List.setIfInBounds_toArray, List.set_cons_succ, List.set_cons_zero]
  refine wpList_call rfl (exec_cl Try.call9 rfl (evc (ev rfl) evn)) ?_
  refine (pmay_b w1 HF.out).mono ?_
  rintro e w2 ⟨rfl, hb⟩
  have HT2 := Lib.hid (HT1.out.call hb)
  clear hb HT1
  refine ⟨_, rfl, ?_⟩
  simp only [Act.put, List.setIfInBounds_toArray, List.set_cons_succ, List.set_cons_zero]
  refine wpList_valn (v := .bool false) rfl (exec_not true rfl (ev rfl)) ?_
  simp only [Act.put, List.setIfInBounds_toArray, List.set_cons_succ, List.set_cons_zero]
  refine wpList_valn (v := .bool false) rfl (exec_mv rfl (ev rfl)) ?_
  simp only [Act.put, List.setIfInBounds_toArray, List.set_cons_succ, List.set_cons_zero]
  refine wpList_val (wanted_of rfl rfl rfl rfl) (exec_ldR rfl (ev rfl) (HT2.out.at0)) ?_
  simp only [Act.put, List.setIfInBounds_toArray, List.set_cons_succ, List.set_cons_zero]
  refine wpList_val (wanted_of rfl rfl rfl rfl) (exec_mv rfl (ev rfl)) ?_
  simp only [Act.put, List.setIfInBounds_toArray, List.set_cons_succ, List.set_cons_zero]
  refine wpList_call (wanted_of rfl rfl rfl rfl) (exec_cl Try.call34 rfl (evc (ev rfl) (evc (ev rfl) evn))) ?_
  refine (pmember_b w2 HQ.out).mono ?_
  rintro e w3 ⟨rfl, hb⟩
  have HT3 := Lib.hid (HT2.out.call hb)
  clear hb HT2
  refine ⟨_, rfl, ?_⟩
  simp only [Act.put, List.setIfInBounds_toArray, List.set_cons_succ, List.set_cons_zero]
  refine wpList_val (v := .bool false) (wanted_of rfl rfl rfl rfl) (exec_not true rfl (ev rfl)) ?_
  simp only [Act.put, List.setIfInBounds_toArray, List.set_cons_succ, List.set_cons_zero]
  refine wpList_valn (v := .bool false) rfl (exec_pf rfl (ev rfl) (ev rfl)) ?_
  simp only [Act.put, List.setIfInBounds_toArray, List.set_cons_succ, List.set_cons_zero]
  refine wpList_nil ?_
  go_upto_region 3 with fail
  refine wp_region_lit ?_
  refine wpList_valn rfl (exec_mv rfl (ev rfl)) ?_
  simp only [Act.put, List.setIfInBounds_toArray, List.set_cons_succ, List.set_cons_zero]
  refine wpList_valn rfl (exec_faddr rfl (ev rfl) faR1) ?_
  simp only [Act.put, List.setIfInBounds_toArray, List.set_cons_succ, List.set_cons_zero]
  refine wpList_valn rfl (exec_ix rfl (ev rfl) (ev rfl) (ix16 hj)) ?_
  simp only [Act.put, List.setIfInBounds_toArray, List.set_cons_succ, List.set_cons_zero]
  refine wpList_valn rfl (exec_ld rfl (ev rfl) (ldU8 ((HT3.out.at0).sta hj))) ?_
  simp only [Act.put, List.setIfInBounds_toArray, List.set_cons_succ, List.set_cons_zero]
  refine wpList_nil ?_
  go_upto_region 4 with fail
  refine wp_region_lit ?_
  refine wpList_valn (v := .bool false) rfl (exec_eqInt false rfl (ev rfl) evk H1.out) ?_
  simp only [Act.put, List.setIfInBounds_toArray, List.set_cons_succ, List.set_cons_zero]
  refine wpList_valn (v := .bool false) rfl (exec_as rfl (ev rfl)) ?_
  simp only [Act.put, List.setIfInBounds_toArray, List.set_cons_succ, List.set_cons_zero]
  refine wpList_nil ?_
  go_upto_region 6 with fail
  refine wp_region_lit ?_
  refine wpList_valn (v := .bool false) rfl (exec_eqInt false rfl (ev rfl) evk H2.out) ?_
  simp only [Act.put, List.setIfInBounds_toArray, List.set_cons_succ, List.set_cons_zero]
  refine wpList_valn (v := .bool false) rfl (exec_as rfl (ev rfl)) ?_
  simp only [Act.put, List.setIfInBounds_toArray, List.set_cons_succ, List.set_cons_zero]
  refine wpList_nil ?_
  go_upto_region 8 with fail
  refine wp_region_lit ?_
  refine wpList_valn rfl (exec_mv rfl (ev rfl)) ?_
  simp only [Act.put, List.setIfInBounds_toArray, List.set_cons_succ, List.set_cons_zero]
  refine wpList_valn rfl (exec_faddr rfl (ev rfl) faR1) ?_
  simp only [Act.put, List.setIfInBounds_toArray, List.set_cons_succ, List.set_cons_zero]
  refine wpList_valn rfl (exec_ix rfl (ev rfl) (ev rfl) (ix16 hj)) ?_
  simp only [Act.put, List.setIfInBounds_toArray, List.set_cons_succ, List.set_cons_zero]
  refine wpList_nuln rfl (exec_stS rfl (ev rfl) evk (HT3.out.at0.there (by omega))) ?_
  simp only [Act.put, List.setIfInBounds_toArray, List.set_cons_succ, List.set_cons_zero]
  have HT4 := Lib.hid (HT3.out.set (celR_set1 _ hj))
  generalize setW w3 w.heap.size (3 + j) (.int .u8 1) = w4 at HT4 ⊢
  clear HT3
  refine wpList_nil ?_
  go_upto_region 9 with fail
  refine wp_region_lit ?_
  refine wpList_valn rfl (exec_ldR rfl (ev rfl) (HT4.out.at0)) ?_
  simp only [Act.put, List.setIfInBounds_toArray, List.set_cons_succ, List.set_cons_zero]
  refine wpList_nuln rfl (exec_putR rfl (ev rfl) (ev rfl) HT4.out.at1) ?_
  simp only [Act.put, List.setIfInBounds_toArray, List.set_cons_succ, List.set_cons_zero]
  have HT5 := Lib.hid (HT4.out.put (setS x j 1))
  generalize putW w4 (w.heap.size + 1) (setS x j 1) = w5 at HT5 ⊢
  clear HT4
  refine wpList_valn (v := .bool true) rfl (exec_as rfl evk) ?_
  simp only [Act.put, List.setIfInBounds_toArray, List.set_cons_succ, List.set_cons_zero]
  refine wpList_nil ?_
  go_wp2_with fail
  exact bodyPost_ret (res_rt rfl _ _ _ rfl HT5.out.at1) rfl ⟨rfl, HT5.out.bel⟩
set_option maxHeartbeats 1000000 in
theorem rlose_0 {x : Ros} {m : Int} (hf : fineB x = false) (w : World) : Calls Try.prog 20 #[ros x, .int .i64 m] w fun e w' => e = .returned (.tuple #[ros (x), .bool false]) ∧ Below w.heap.size w w' := by
  have HT1 := Lib.hid (TwoR.new w x)
  have HF := Lib.hid hf
  clear hf
  go_enter Try.func20, Try.ntmps20
  go_upto_region 1 with (first | (refine wpList_valn rfl (exec_boxR rfl rfl) ?_) | (refine wpList_valn rfl (exec_allocR rfl) ?_) | fail)
  generalize (w.alloc (.cells (celR x).toArray 26)).alloc (.cells (celR zeroR).toArray 26) = w1 at *
  refine wp_region_lit ?_
  refine wpList_valn rfl (exec_ldR rfl (ev rfl) (HT1.out.at0)) ?_
  simp only [Act.put, List.setIfInBounds_toArray, List.set_cons_succ, List.set_cons_zero]
  refine wpList_call rfl (exec_cl Try.call10 rfl (evc (ev rfl) evn)) ?_
  refine (rmay_b w1 HF.out).mono ?_
  rintro e w2 ⟨rfl, hb⟩
  have HT2 := Lib.hid (HT1.out.call hb)
  clear hb HT1
  refine ⟨_, rfl, ?_⟩
  simp only [Act.put, List.setIfInBounds_toArray, List.set_cons_succ, List.set_cons_zero]
  refine wpList_valn (v := .bool true) rfl (exec_not false rfl (ev rfl)) ?_
  simp only [Act.put, List.setIfInBounds_toArray, List.set_cons_succ, List.set_cons_zero]
  refine wpList_skips 4 (v := .bool true) rfl (exec_mv rfl (ev rfl)) (by kernel_rfl) ?_
  simp only [skipAct, List.take_succ_cons, List.take_zero, List.drop_succ_cons, List.drop_zero, Act.put, List.setIfInBounds_toArray, List.set_cons_succ, List.set_cons_zero]
  refine wpList_valn (v := .bool true) rfl (exec_pt rfl (ev rfl) evk) ?_
  simp only [Act.put, List.setIfInBounds_toArray, List.set_cons_succ, List.set_cons_zero]
  refine wpList_skips 5 (v := .bool true) rfl (exec_mv rfl (ev rfl)) (by kernel_rfl) ?_
  simp only [skipAct, List.take_succ_cons, List.take_zero, List.drop_succ_cons, List.drop_zero, Act.put, List.setIfInBounds_toArray, List.set_cons_succ, List.set_cons_zero]
  refine wpList_valn (v := .bool true) rfl (exec_pt rfl (ev rfl) evk) ?_
  simp only [Act.put, List.setIfInBounds_toArray, List.set_cons_succ, List.set_cons_zero]
  refine wpList_nil ?_
  go_upto_region 2 with fail
  refine wp_region_lit ?_
  refine wpList_valn rfl (exec_ldR rfl (ev rfl) (HT2.out.at0)) ?_
  simp only [Act.put, List.setIfInBounds_toArray, List.set_cons_succ, List.set_cons_zero]
  refine wpList_nuln rfl (exec_putR rfl (ev rfl) (ev rfl) HT2.out.at1) ?_
  simp only [Act.put, List.setIfInBounds_toArray, List.set_cons_succ, List.set_cons_zero]
  have HT3 := Lib.hid (HT2.out.put (x))
  generalize putW w2 (w.heap.size + 1) (x) = w3 at HT3 ⊢
  clear HT2
  refine wpList_valn (v := .bool false) rfl (exec_as rfl evk) ?_
  simp only [Act.put, List.setIfInBounds_toArray, List.set_cons_succ, List.set_cons_zero]
  refine wpList_nil ?_
  go_wp2_with fail
  exact bodyPost_ret (res_rt rfl _ _ _ rfl HT3.out.at1) rfl ⟨rfl, HT3.out.bel⟩
set_option maxHeartbeats 1000000 in
theorem rlose_1 {x : Ros} {m : Int} (hf : fineB x = true) (hq : hasM x m = false) (w : World) : Calls Try.prog 20 #[ros x, .int .i64 m] w fun e w' => e = .returned (.tuple #[ros (x), .bool false]) ∧ Below w.heap.size w w' := by
  have HT1 := Lib.hid (TwoR.new w x)
  have HF := Lib.hid hf
  have HQ := Lib.hid hq
  clear hf hq
  go_enter Try.func20, Try.ntmps20
  go_upto_region 1 with (first | (refine wpList_valn rfl (exec_boxR rfl rfl) ?_) | (refine wpList_valn rfl (exec_allocR rfl) ?_) | fail)
  generalize (w.alloc (.cells (celR x).toArray 26)).alloc (.cells (celR zeroR).toArray 26) = w1 at *
  refine wp_region_lit ?_
  refine wpList_valn rfl (exec_ldR rfl (ev rfl) (HT1.out.at0)) ?_
  simp only [Act.put, List.setIfInBounds_toArray, List.set_cons_succ, List.set_cons_zero]
  refine wpList_call rfl (exec_cl Try.call10 rfl (evc (ev rfl) evn)) ?_
  refine (rmay_b w1 HF.out).mono ?_
  rintro e w2 ⟨rfl, hb⟩
  have HT2 := Lib.hid (HT1.out.call hb)
  clear hb HT1
  refine ⟨_, rfl, ?_⟩
  simp only [Act.put, List.setIfInBounds_toArray, List.set_cons_succ, List.set_cons_zero]
  refine wpList_valn (v := .bool false) rfl (exec_not true rfl (ev rfl)) ?_
  simp only [Act.put, List.setIfInBounds_toArray, List.set_cons_succ, List.set_cons_zero]
  refine wpList_valn (v := .bool false) rfl (exec_mv rfl (ev rfl)) ?_
  simp only [Act.put, List.setIfInBounds_toArray, List.set_cons_succ, List.set_cons_zero]
  refine wpList_val (wanted_of rfl rfl rfl rfl) (exec_ldR rfl (ev rfl) (HT2.out.at0)) ?_
  simp only [Act.put, List.setIfInBounds_toArray, List.set_cons_succ, List.set_cons_zero]
  refine wpList_val (wanted_of rfl rfl rfl rfl) (exec_mv rfl (ev rfl)) ?_
  simp only [Act.put, List.setIfInBounds_toArray, List.set_cons_succ, List.set_cons_zero]
  refine wpList_call (wanted_of rfl rfl rfl rfl) (exec_cl Try.call36 rfl (evc (ev rfl) (evc (ev rfl) evn))) ?_
  refine (rmember_b w2 HQ.out).mono ?_
  rintro e w3 ⟨rfl, hb⟩
  have HT3 := Lib.hid (HT2.out.call hb)
  clear hb HT2
  refine ⟨_, rfl, ?_⟩
  simp only [Act.put, List.setIfInBounds_toArray, List.set_cons_succ, List.set_cons_zero]
  refine wpList_val (v := .bool true) (wanted_of rfl rfl rfl rfl) (exec_not false rfl (ev rfl)) ?_
  simp only [Act.put, List.setIfInBounds_toArray, List.set_cons_succ, List.set_cons_zero]
  refine wpList_valn (v := .bool true) rfl (exec_pf rfl (ev rfl) (ev rfl)) ?_
  simp only [Act.put, List.setIfInBounds_toArray, List.set_cons_succ, List.set_cons_zero]
  refine wpList_skips 5 (v := .bool true) rfl (exec_mv rfl (ev rfl)) (by kernel_rfl) ?_
  simp only [skipAct, List.take_succ_cons, List.take_zero, List.drop_succ_cons, List.drop_zero, Act.put, List.setIfInBounds_toArray, List.set_cons_succ, List.set_cons_zero]
  refine wpList_valn (v := .bool true) rfl (exec_pt rfl (ev rfl) evk) ?_
  simp only [Act.put, List.setIfInBounds_toArray, List.set_cons_succ, List.set_cons_zero]
  refine wpList_nil ?_
  go_upto_region 2 with fail
  refine wp_region_lit ?_
  refine wpList_valn rfl (exec_ldR rfl (ev rfl) (HT3.out.at0)) ?_
  simp only [Act.put, List.setIfInBounds_toArray, List.set_cons_succ, List.set_cons_zero]
  refine wpList_nuln rfl (exec_putR rfl (ev rfl) (ev rfl) HT3.out.at1) ?_
  simp only [Act.put, List.setIfInBounds_toArray, List.set_cons_succ, List.set_cons_zero]
  have HT4 := Lib.hid (HT3.out.put (x))
  generalize putW w3 (w.heap.size + 1) (x) = w4 at HT4 ⊢
  clear HT3
  refine wpList_valn (v := .bool false) rfl (exec_as rfl evk) ?_
  simp only [Act.put, List.setIfInBounds_toArray, List.set_cons_succ, List.set_cons_zero]
  refine wpList_nil ?_
  go_wp2_with fail
  exact bodyPost_ret (res_rt rfl _ _ _ rfl HT4.out.at1) rfl ⟨rfl, HT4.out.bel⟩
set_option maxHeartbeats 1000000 in
theorem rlose_2 {x : Ros} {j : Nat} (hj : j < 16) (hf : fineB x = true) (hq : hasM x (j : Int) = true) (h1 : (sta x j == 1) = true) (w : World) : Calls Try.prog 20 #[ros x, .int .i64 (j : Int)] w fun e w' => e = .returned (.tuple #[ros (x), .bool false]) ∧ Below w.heap.size w w' := by
  have HT1 := Lib.hid (TwoR.new w x)
  have HF := Lib.hid hf
  have HQ := Lib.hid hq
  have H1 := Lib.hid h1
  clear hf hq h1
  go_enter Try.func20, Try.ntmps20
  go_upto_region 1 with (first | (refine wpList_valn rfl (exec_boxR rfl rfl) ?_) | (refine wpList_valn rfl (exec_allocR rfl) ?_) | fail)
  generalize (w.alloc (.cells (celR x).toArray 26)).alloc (.cells (celR zeroR).toArray 26) = w1 at *
  refine wp_region_lit ?_
  refine wpList_valn rfl (exec_ldR rfl (ev rfl) (HT1.out.at0)) ?_
  simp only [Act.put, List.setIfInBounds_toArray, List.set_cons_succ, List.set_cons_zero]
  refine wpList_call rfl (exec_cl Try.call10 rfl (evc (ev rfl) evn)) ?_
  refine (rmay_b w1 HF.out).mono ?_
  rintro e w2 ⟨rfl, hb⟩
  have HT2 := Lib.hid (HT1.out.call hb)
  clear hb HT1
  refine ⟨_, rfl, ?_⟩
  simp only [Act.put, List.setIfInBounds_toArray, List.set_cons_succ, List.set_cons_zero]
  refine wpList_valn (v := .bool false) rfl (exec_not true rfl (ev rfl)) ?_
  simp only [Act.put, List.setIfInBounds_toArray, List.set_cons_succ, List.set_cons_zero]
  refine wpList_valn (v := .bool false) rfl (exec_mv rfl (ev rfl)) ?_
  simp only [Act.put, List.setIfInBounds_toArray, List.set_cons_succ, List.set_cons_zero]
  refine wpList_val (wanted_of rfl rfl rfl rfl) (exec_ldR rfl (ev rfl) (HT2.out.at0)) ?_
  simp only [Act.put, List.setIfInBounds_toArray, List.set_cons_succ, List.set_cons_zero]
  refine wpList_val (wanted_of rfl rfl rfl rfl) (exec_mv rfl (ev rfl)) ?_
  simp only [Act.put, List.setIfInBounds_toArray, List.set_cons_succ, List.set_cons_zero]
  refine wpList_call (wanted_of rfl rfl rfl rfl) (exec_cl Try.call36 rfl (evc (ev rfl) (evc (ev rfl) evn))) ?_
  refine (rmember_b w2 HQ.out).mono ?_
  rintro e w3 ⟨rfl, hb⟩
  have HT3 := Lib.hid (HT2.out.call hb)
  clear hb HT2
  refine ⟨_, rfl, ?_⟩
  simp only [Act.put, List.setIfInBounds_toArray, List.set_cons_succ, List.set_cons_zero]
  refine wpList_val (v := .bool false) (wanted_of rfl rfl rfl rfl) (exec_not true rfl (ev rfl)) ?_
  simp only [Act.put, List.setIfInBounds_toArray, List.set_cons_succ, List.set_cons_zero]
  refine wpList_valn (v := .bool false) rfl (exec_pf rfl (ev rfl) (ev rfl)) ?_
  simp only [Act.put, List.setIfInBounds_toArray, List.set_cons_succ, List.set_cons_zero]
  refine wpList_valn (v := .bool false) rfl (exec_mv rfl (ev rfl)) ?_
  simp only [Act.put, List.setIfInBounds_toArray, List.set_cons_succ, List.set_cons_zero]
  refine wpList_val (wanted_of rfl rfl rfl rfl) (exec_mv rfl (ev rfl)) ?_
  simp only [Act.put, List.setIfInBounds_toArray, List.set_cons_succ, List.set_cons_zero]
  refine wpList_val (wanted_of rfl rfl rfl rfl) (exec_faddr rfl (ev rfl) faR1) ?_
  simp only [Act.put, List.setIfInBounds_toArray, List.set_cons_succ, List.set_cons_zero]
  refine wpList_val (wanted_of rfl rfl rfl rfl) (exec_ix rfl (ev rfl) (ev rfl) (ix16 hj)) ?_
  simp only [Act.put, List.setIfInBounds_toArray, List.set_cons_succ, List.set_cons_zero]
  refine wpList_val (wanted_of rfl rfl rfl rfl) (exec_ld rfl (ev rfl) (ldU8 ((HT3.out.at0).sta hj))) ?_
  simp only [Act.put, List.setIfInBounds_toArray, List.set_cons_succ, List.set_cons_zero]
  refine wpList_val (v := .bool true) (wanted_of rfl rfl rfl rfl) (exec_eqInt true rfl (ev rfl) evk H1.out) ?_
  simp only [Act.put, List.setIfInBounds_toArray, List.set_cons_succ, List.set_cons_zero]
  refine wpList_valn (v := .bool true) rfl (exec_pf rfl (ev rfl) (ev rfl)) ?_
  simp only [Act.put, List.setIfInBounds_toArray, List.set_cons_succ, List.set_cons_zero]
  refine wpList_nil ?_
  go_upto_region 2 with fail
  refine wp_region_lit ?_
  refine wpList_valn rfl (exec_ldR rfl (ev rfl) (HT3.out.at0)) ?_
  simp only [Act.put, List.setIfInBounds_toArray, List.set_cons_succ, List.set_cons_zero]
  refine wpList_nuln rfl (exec_putR rfl (ev rfl) (ev rfl) HT3.out.at1) ?_
  simp only [Act.put, List.setIfInBounds_toArray, List.set_cons_succ, List.set_cons_zero]
  have HT4 := Lib.hid (HT3.out.put (x))
  generalize putW w3 (w.heap.size + 1) (x) = w4 at HT4 ⊢
  clear HT3
  refine wpList_valn (v := .bool false) rfl (exec_as rfl evk) ?_
  simp only [Act.put, List.setIfInBounds_toArray, List.set_cons_succ, List.set_cons_zero]
  refine wpList_nil ?_
  go_wp2_with fail
  exact bodyPost_ret (res_rt rfl _ _ _ rfl HT4.out.at1) rfl ⟨rfl, HT4.out.bel⟩
set_option maxHeartbeats 1000000 in
theorem rlose_3 {x : Ros} {j : Nat} (hj : j < 16) (hf : fineB x = true) (hq : hasM x (j : Int) = true) (h1 : (sta x j == 1) = false) (h2 : (sta x j == 2) = true) (w : World) : Calls Try.prog 20 #[ros x, .int .i64 (j : Int)] w fun e w' => e = .returned (.tuple #[ros (setS (curS x 0) j 1), .bool true]) ∧ Below w.heap.size w w' := by
  have HT1 := Lib.hid (TwoR.new w x)
  have HF := Lib.hid hf
  have HQ := Lib.hid hq
  have H1 := Lib.hid h1
  have H2 := Lib.hid h2
  clear hf hq h1 h2
  go_enter Try.func20, Try.ntmps20
  go_upto_region 1 with (first | (refine wpList_valn rfl (exec_boxR rfl rfl) ?_) | (refine wpList_valn rfl (exec_allocR rfl) ?_) | fail)
  generalize (w.alloc (.cells (celR x).toArray 26)).alloc (.cells (celR zeroR).toArray 26) = w1 at *
  refine wp_region_lit ?_
  refine wpList_valn rfl (exec_ldR rfl (ev rfl) (HT1.out.at0)) ?_
  simp only [Act.put, List.setIfInBounds_toArray, List.set_cons_succ, List.set_cons_zero]
  refine wpList_call rfl (exec_cl Try.call10 rfl (evc (ev rfl) evn)) ?_
  refine (rmay_b w1 HF.out).mono ?_
  rintro e w2 ⟨rfl, hb⟩
  have HT2 := Lib.hid (HT1.out.call hb)
  clear hb HT1
  refine ⟨_, rfl, ?_⟩
  simp only [Act.put, List.setIfInBounds_toArray, List.set_cons_succ, List.set_cons_zero]
  refine wpList_valn (v := .bool false) rfl (exec_not true rfl (ev rfl)) ?_
  simp only [Act.put, List.setIfInBounds_toArray, List.set_cons_succ, List.set_cons_zero]
  refine wpList_valn (v := .bool false) rfl (exec_mv rfl (ev rfl)) ?_
  simp only [Act.put, List.setIfInBounds_toArray, List.set_cons_succ, List.set_cons_zero]
  refine wpList_val (wanted_of rfl rfl rfl rfl) (exec_ldR rfl (ev rfl) (HT2.out.at0)) ?_
  simp only [Act.put, List.setIfInBounds_toArray, List.set_cons_succ, List.set_cons_zero]
  refine wpList_val (wanted_of rfl rfl rfl rfl) (exec_mv rfl (ev rfl)) ?_
  simp only [Act.put, List.setIfInBounds_toArray, List.set_cons_succ, List.set_cons_zero]
  refine wpList_call (wanted_of rfl rfl rfl rfl) (exec_cl Try.call36 rfl (evc (ev rfl) (evc (ev rfl) evn))) ?_
  refine (rmember_b w2 HQ.out).mono ?_
  rintro e w3 ⟨rfl, hb⟩
  have HT3 := Lib.hid (HT2.out.call hb)
  clear hb HT2
  refine ⟨_, rfl, ?_⟩
  simp only [Act.put, List.setIfInBounds_toArray, List.set_cons_succ, List.set_cons_zero]
  refine wpList_val (v := .bool false) (wanted_of rfl rfl rfl rfl) (exec_not true rfl (ev rfl)) ?_
  simp only [Act.put, List.setIfInBounds_toArray, List.set_cons_succ, List.set_cons_zero]
  refine wpList_valn (v := .bool false) rfl (exec_pf rfl (ev rfl) (ev rfl)) ?_
  simp only [Act.put, List.setIfInBounds_toArray, List.set_cons_succ, List.set_cons_zero]
  refine wpList_valn (v := .bool false) rfl (exec_mv rfl (ev rfl)) ?_
  simp only [Act.put, List.setIfInBounds_toArray, List.set_cons_succ, List.set_cons_zero]
  refine wpList_val (wanted_of rfl rfl rfl rfl) (exec_mv rfl (ev rfl)) ?_
  simp only [Act.put, List.setIfInBounds_toArray, List.set_cons_succ, List.set_cons_zero]
  refine wpList_val (wanted_of rfl rfl rfl rfl) (exec_faddr rfl (ev rfl) faR1) ?_
  simp only [Act.put, List.setIfInBounds_toArray, List.set_cons_succ, List.set_cons_zero]
  refine wpList_val (wanted_of rfl rfl rfl rfl) (exec_ix rfl (ev rfl) (ev rfl) (ix16 hj)) ?_
  simp only [Act.put, List.setIfInBounds_toArray, List.set_cons_succ, List.set_cons_zero]
  refine wpList_val (wanted_of rfl rfl rfl rfl) (exec_ld rfl (ev rfl) (ldU8 ((HT3.out.at0).sta hj))) ?_
  simp only [Act.put, List.setIfInBounds_toArray, List.set_cons_succ, List.set_cons_zero]
  refine wpList_val (v := .bool false) (wanted_of rfl rfl rfl rfl) (exec_eqInt false rfl (ev rfl) evk H1.out) ?_
  simp only [Act.put, List.setIfInBounds_toArray, List.set_cons_succ, List.set_cons_zero]
  refine wpList_valn (v := .bool false) rfl (exec_pf rfl (ev rfl) (ev rfl)) ?_
  simp only [Act.put, List.setIfInBounds_toArray, List.set_cons_succ, List.set_cons_zero]
  refine wpList_nil ?_
  go_upto_region 3 with fail
  refine wp_region_lit ?_
  refine wpList_valn rfl (exec_mv rfl (ev rfl)) ?_
  simp only [Act.put, List.setIfInBounds_toArray, List.set_cons_succ, List.set_cons_zero]
  refine wpList_valn rfl (exec_faddr rfl (ev rfl) faR1) ?_
  simp only [Act.put, List.setIfInBounds_toArray, List.set_cons_succ, List.set_cons_zero]
  refine wpList_valn rfl (exec_ix rfl (ev rfl) (ev rfl) (ix16 hj)) ?_
  simp only [Act.put, List.setIfInBounds_toArray, List.set_cons_succ, List.set_cons_zero]
  refine wpList_valn rfl (exec_ld rfl (ev rfl) (ldU8 ((HT3.out.at0).sta hj))) ?_
  simp only [Act.put, List.setIfInBounds_toArray, List.set_cons_succ, List.set_cons_zero]
  refine wpList_valn (v := .bool true) rfl (exec_eqInt true rfl (ev rfl) evk H2.out) ?_
  simp only [Act.put, List.setIfInBounds_toArray, List.set_cons_succ, List.set_cons_zero]
  refine wpList_nil ?_
  go_upto_region 4 with fail
  refine wp_region_lit ?_
  refine wpList_valn rfl (exec_faddr rfl (ev rfl) faR2) ?_
  simp only [Act.put, List.setIfInBounds_toArray, List.set_cons_succ, List.set_cons_zero]
  refine wpList_nuln rfl (exec_stI rfl (ev rfl) evk (HT3.out.at0.there (by omega))) ?_
  simp only [Act.put, List.setIfInBounds_toArray, List.set_cons_succ, List.set_cons_zero]
  have HT4 := Lib.hid (HT3.out.set (celR_cur _ (0)))
  generalize setW w3 w.heap.size (19) (.int .i64 (0)) = w4 at HT4 ⊢
  clear HT3
  refine wpList_nil ?_
  go_upto_region 5 with fail
  refine wp_region_lit ?_
  refine wpList_valn rfl (exec_mv rfl (ev rfl)) ?_
  simp only [Act.put, List.setIfInBounds_toArray, List.set_cons_succ, List.set_cons_zero]
  refine wpList_valn rfl (exec_faddr rfl (ev rfl) faR1) ?_
  simp only [Act.put, List.setIfInBounds_toArray, List.set_cons_succ, List.set_cons_zero]
  refine wpList_valn rfl (exec_ix rfl (ev rfl) (ev rfl) (ix16 hj)) ?_
  simp only [Act.put, List.setIfInBounds_toArray, List.set_cons_succ, List.set_cons_zero]
  refine wpList_nuln rfl (exec_stS rfl (ev rfl) evk (HT4.out.at0.there (by omega))) ?_
  simp only [Act.put, List.setIfInBounds_toArray, List.set_cons_succ, List.set_cons_zero]
  have HT5 := Lib.hid (HT4.out.set (celR_set1 _ hj))
  generalize setW w4 w.heap.size (3 + j) (.int .u8 1) = w5 at HT5 ⊢
  clear HT4
  refine wpList_nil ?_
  go_upto_region 6 with fail
  refine wp_region_lit ?_
  refine wpList_valn rfl (exec_ldR rfl (ev rfl) (HT5.out.at0)) ?_
  simp only [Act.put, List.setIfInBounds_toArray, List.set_cons_succ, List.set_cons_zero]
  refine wpList_nuln rfl (exec_putR rfl (ev rfl) (ev rfl) HT5.out.at1) ?_
  simp only [Act.put, List.setIfInBounds_toArray, List.set_cons_succ, List.set_cons_zero]
  have HT6 := Lib.hid (HT5.out.put (setS (curS x 0) j 1))
  generalize putW w5 (w.heap.size + 1) (setS (curS x 0) j 1) = w6 at HT6 ⊢
  clear HT5
  refine wpList_valn (v := .bool true) rfl (exec_as rfl evk) ?_
  simp only [Act.put, List.setIfInBounds_toArray, List.set_cons_succ, List.set_cons_zero]
  refine wpList_nil ?_
  go_wp2_with fail
  exact bodyPost_ret (res_rt rfl _ _ _ rfl HT6.out.at1) rfl ⟨rfl, HT6.out.bel⟩
set_option maxHeartbeats 1000000 in
theorem rlose_4 {x : Ros} {j : Nat} (hj : j < 16) (hf : fineB x = true) (hq : hasM x (j : Int) = true) (h1 : (sta x j == 1) = false) (h2 : (sta x j == 2) = false) (w : World) : Calls Try.prog 20 #[ros x, .int .i64 (j : Int)] w fun e w' => e = .returned (.tuple #[ros (setS x j 1), .bool true]) ∧ Below w.heap.size w w' := by
  have HT1 := Lib.hid (TwoR.new w x)
  have HF := Lib.hid hf
  have HQ := Lib.hid hq
  have H1 := Lib.hid h1
  have H2 := Lib.hid h2
  clear hf hq h1 h2
  go_enter Try.func20, Try.ntmps20
  go_upto_region 1 with (first | (refine wpList_valn rfl (exec_boxR rfl rfl) ?_) | (refine wpList_valn rfl (exec_allocR rfl) ?_) | fail)
  generalize (w.alloc (.cells (celR x).toArray 26)).alloc (.cells (celR zeroR).toArray 26) = w1 at *
  refine wp_region_lit ?_
  refine wpList_valn rfl (exec_ldR rfl (ev rfl) (HT1.out.at0)) ?_
  simp only [Act.put, List.setIfInBounds_toArray, List.set_cons_succ, List.set_cons_zero]
  refine wpList_call rfl (exec_cl Try.call10 rfl (evc (ev rfl) evn)) ?_
  refine (rmay_b w1 HF.out).mono ?_
  rintro e w2 ⟨rfl, hb⟩
  have HT2 := Lib.hid (HT1.out.call hb)
  clear hb HT1
  refine ⟨_, rfl, ?_⟩
  simp only [Act.put, List.setIfInBounds_toArray, List.set_cons_succ, List.set_cons_zero]
  refine wpList_valn (v := .bool false) rfl (exec_not true rfl (ev rfl)) ?_
  simp only [Act.put, List.setIfInBounds_toArray, List.set_cons_succ, List.set_cons_zero]
  refine wpList_valn (v := .bool false) rfl (exec_mv rfl (ev rfl)) ?_
  simp only [Act.put, List.setIfInBounds_toArray, List.set_cons_succ, List.set_cons_zero]
  refine wpList_val (wanted_of rfl rfl rfl rfl) (exec_ldR rfl (ev rfl) (HT2.out.at0)) ?_
  simp only [Act.put, List.setIfInBounds_toArray, List.set_cons_succ, List.set_cons_zero]
  refine wpList_val (wanted_of rfl rfl rfl rfl) (exec_mv rfl (ev rfl)) ?_
  simp only [Act.put, List.setIfInBounds_toArray, List.set_cons_succ, List.set_cons_zero]
  refine wpList_call (wanted_of rfl rfl rfl rfl) (exec_cl Try.call36 rfl (evc (ev rfl) (evc (ev rfl) evn))) ?_
  refine (rmember_b w2 HQ.out).mono ?_
  rintro e w3 ⟨rfl, hb⟩
  have HT3 := Lib.hid (HT2.out.call hb)
  clear hb HT2
  refine ⟨_, rfl, ?_⟩
  simp only [Act.put, List.setIfInBounds_toArray, List.set_cons_succ, List.set_cons_zero]
  refine wpList_val (v := .bool false) (wanted_of rfl rfl rfl rfl) (exec_not true rfl (ev rfl)) ?_
  simp only [Act.put, List.setIfInBounds_toArray, List.set_cons_succ, List.set_cons_zero]
  refine wpList_valn (v := .bool false) rfl (exec_pf rfl (ev rfl) (ev rfl)) ?_
  simp only [Act.put, List.setIfInBounds_toArray, List.set_cons_succ, List.set_cons_zero]
  refine wpList_valn (v := .bool false) rfl (exec_mv rfl (ev rfl)) ?_
  simp only [Act.put, List.setIfInBounds_toArray, List.set_cons_succ, List.set_cons_zero]
  refine wpList_val (wanted_of rfl rfl rfl rfl) (exec_mv rfl (ev rfl)) ?_
  simp only [Act.put, List.setIfInBounds_toArray, List.set_cons_succ, List.set_cons_zero]
  refine wpList_val (wanted_of rfl rfl rfl rfl) (exec_faddr rfl (ev rfl) faR1) ?_
  simp only [Act.put, List.setIfInBounds_toArray, List.set_cons_succ, List.set_cons_zero]
  refine wpList_val (wanted_of rfl rfl rfl rfl) (exec_ix rfl (ev rfl) (ev rfl) (ix16 hj)) ?_
  simp only [Act.put, List.setIfInBounds_toArray, List.set_cons_succ, List.set_cons_zero]
  refine wpList_val (wanted_of rfl rfl rfl rfl) (exec_ld rfl (ev rfl) (ldU8 ((HT3.out.at0).sta hj))) ?_
  simp only [Act.put, List.setIfInBounds_toArray, List.set_cons_succ, List.set_cons_zero]
  refine wpList_val (v := .bool false) (wanted_of rfl rfl rfl rfl) (exec_eqInt false rfl (ev rfl) evk H1.out) ?_
  simp only [Act.put, List.setIfInBounds_toArray, List.set_cons_succ, List.set_cons_zero]
  refine wpList_valn (v := .bool false) rfl (exec_pf rfl (ev rfl) (ev rfl)) ?_
  simp only [Act.put, List.setIfInBounds_toArray, List.set_cons_succ, List.set_cons_zero]
  refine wpList_nil ?_
  go_upto_region 3 with fail
  refine wp_region_lit ?_
  refine wpList_valn rfl (exec_mv rfl (ev rfl)) ?_
  simp only [Act.put, List.setIfInBounds_toArray, List.set_cons_succ, List.set_cons_zero]
  refine wpList_valn rfl (exec_faddr rfl (ev rfl) faR1) ?_
  simp only [Act.put, List.setIfInBounds_toArray, List.set_cons_succ, List.set_cons_zero]
  refine wpList_valn rfl (exec_ix rfl (ev rfl) (ev rfl) (ix16 hj)) ?_
  simp only [Act.put, List.setIfInBounds_toArray, List.set_cons_succ, List.set_cons_zero]
  refine wpList_valn rfl (exec_ld rfl (ev rfl) (ldU8 ((HT3.out.at0).sta hj))) ?_
  simp only [Act.put, List.setIfInBounds_toArray, List.set_cons_succ, List.set_cons_zero]
  refine wpList_valn (v := .bool false) rfl (exec_eqInt false rfl (ev rfl) evk H2.out) ?_
  simp only [Act.put, List.setIfInBounds_toArray, List.set_cons_succ, List.set_cons_zero]
  refine wpList_nil ?_
  go_upto_region 5 with fail
  refine wp_region_lit ?_
  refine wpList_valn rfl (exec_mv rfl (ev rfl)) ?_
  simp only [Act.put, List.setIfInBounds_toArray, List.set_cons_succ, List.set_cons_zero]
  refine wpList_valn rfl (exec_faddr rfl (ev rfl) faR1) ?_
  simp only [Act.put, List.setIfInBounds_toArray, List.set_cons_succ, List.set_cons_zero]
  refine wpList_valn rfl (exec_ix rfl (ev rfl) (ev rfl) (ix16 hj)) ?_
  simp only [Act.put, List.setIfInBounds_toArray, List.set_cons_succ, List.set_cons_zero]
  refine wpList_nuln rfl (exec_stS rfl (ev rfl) evk (HT3.out.at0.there (by omega))) ?_
  simp only [Act.put, List.setIfInBounds_toArray, List.set_cons_succ, List.set_cons_zero]
  have HT4 := Lib.hid (HT3.out.set (celR_set1 _ hj))
  generalize setW w3 w.heap.size (3 + j) (.int .u8 1) = w4 at HT4 ⊢
  clear HT3
  refine wpList_nil ?_
  go_upto_region 6 with fail
  refine wp_region_lit ?_
  refine wpList_valn rfl (exec_ldR rfl (ev rfl) (HT4.out.at0)) ?_
  simp only [Act.put, List.setIfInBounds_toArray, List.set_cons_succ, List.set_cons_zero]
  refine wpList_nuln rfl (exec_putR rfl (ev rfl) (ev rfl) HT4.out.at1) ?_
  simp only [Act.put, List.setIfInBounds_toArray, List.set_cons_succ, List.set_cons_zero]
  have HT5 := Lib.hid (HT4.out.put (setS x j 1))
  generalize putW w4 (w.heap.size + 1) (setS x j 1) = w5 at HT5 ⊢
  clear HT4
  refine wpList_valn (v := .bool true) rfl (exec_as rfl evk) ?_
  simp only [Act.put, List.setIfInBounds_toArray, List.set_cons_succ, List.set_cons_zero]
  refine wpList_nil ?_
  go_wp2_with fail
  exact bodyPost_ret (res_rt rfl _ _ _ rfl HT5.out.at1) rfl ⟨rfl, HT5.out.bel⟩
theorem plose (x : Ros) (m : Int) (w : World) : Calls Try.prog 19 #[ros x, .int .i64 m] w fun e w' => e = .returned (.tuple #[ros (losX x m), .bool (losB x m)]) ∧ Below w.heap.size w w' := by
  unfold losX
  cases hf : fineB x
  · rw [show losB x m = false from by unfold losB; rw [hf]; rfl]; exact plose_0 hf w
  cases hq : hasM x m
  · rw [show losB x m = false from by unfold losB; rw [hf, hq]; rfl]; exact plose_1 hf hq w
  have hm := of_hasM hq
  have hg := of_geoB (of_fineB hf).1
  obtain ⟨j, rfl⟩ := Int.eq_ofNat_of_zero_le hm.1
  have hj : j < 16 := by omega
  have e : losB x (j : Int) = decide (sta x j ≠ 1) := by unfold losB; rw [hf, hq]; rfl
  rw [e]
  by_cases h1 : sta x j = 1
  · rw [decide_eq_false (by simpa using h1)]; exact plose_2 hj hf hq (by simpa using h1) w
  rw [decide_eq_true (by simpa using h1), if_pos rfl]
  show Calls _ _ _ _ fun e w' => e = .returned (.tuple #[ros (if sta x j = 2 then setS (curS x 0) j 1 else setS x j 1), .bool true]) ∧ Below w.heap.size w w'
  by_cases h2 : sta x j = 2
  · rw [if_pos h2]; exact plose_3 hj hf hq (by simpa using h1) (by simpa using h2) w
  · rw [if_neg h2]; exact plose_4 hj hf hq (by simpa using h1) (by simpa using h2) w
theorem rlose (x : Ros) (m : Int) (w : World) : Calls Try.prog 20 #[ros x, .int .i64 m] w fun e w' => e = .returned (.tuple #[ros (losX x m), .bool (losB x m)]) ∧ Below w.heap.size w w' := by
  unfold losX
  cases hf : fineB x
  · rw [show losB x m = false from by unfold losB; rw [hf]; rfl]; exact rlose_0 hf w
  cases hq : hasM x m
  · rw [show losB x m = false from by unfold losB; rw [hf, hq]; rfl]; exact rlose_1 hf hq w
  have hm := of_hasM hq
  have hg := of_geoB (of_fineB hf).1
  obtain ⟨j, rfl⟩ := Int.eq_ofNat_of_zero_le hm.1
  have hj : j < 16 := by omega
  have e : losB x (j : Int) = decide (sta x j ≠ 1) := by unfold losB; rw [hf, hq]; rfl
  rw [e]
  by_cases h1 : sta x j = 1
  · rw [decide_eq_false (by simpa using h1)]; exact rlose_2 hj hf hq (by simpa using h1) w
  rw [decide_eq_true (by simpa using h1), if_pos rfl]
  show Calls _ _ _ _ fun e w' => e = .returned (.tuple #[ros (if sta x j = 2 then setS (curS x 0) j 1 else setS x j 1), .bool true]) ∧ Below w.heap.size w w'
  by_cases h2 : sta x j = 2
  · rw [if_pos h2]; exact rlose_3 hj hf hq (by simpa using h1) (by simpa using h2) w
  · rw [if_neg h2]; exact rlose_4 hj hf hq (by simpa using h1) (by simpa using h2) w
set_option maxHeartbeats 1000000 in
theorem pbeg_0 {x : Ros} {m : Int} (hf : fineB x = false) (w : World) : Calls Try.prog 21 #[ros x, .int .i64 m] w fun e w' => e = .returned (.tuple #[ros (zeroR), .int .i64 2]) ∧ Below w.heap.size w w' := by
  have HT1 := Lib.hid (TwoR.new w x)
  have HF := Lib.hid hf
  clear hf
  go_enter Try.func21, Try.ntmps21
  go_upto_region 1 with (first | (refine wpList_valn rfl (exec_boxR rfl rfl) ?_) | (refine wpList_valn rfl (exec_allocR rfl) ?_) | fail)
  generalize (w.alloc (.cells (celR x).toArray 26)).alloc (.cells (celR zeroR).toArray 26) = w1 at *
  refine wp_region_lit ?_
  refine wpList_valn rfl (exec_ldR rfl (ev rfl) (HT1.out.at0)) ?_
  simp only [Act.put, List.setIfInBounds_toArray, List.set_cons_succ, List.set_cons_zero]
  refine wpList_call rfl (exec_cl Try.call9 rfl (evc (ev rfl) evn)) ?_
  refine (pmay_b w1 HF.out).mono ?_
  rintro e w2 ⟨rfl, hb⟩
  have HT2 := Lib.hid (HT1.out.call hb)
  clear hb HT1
  refine ⟨_, rfl, ?_⟩
  simp only [Act.put, List.setIfInBounds_toArray, List.set_cons_succ, List.set_cons_zero]
  refine wpList_valn (v := .bool true) rfl (exec_not false rfl (ev rfl)) ?_
  simp only [Act.put, List.setIfInBounds_toArray, List.set_cons_succ, List.set_cons_zero]
  refine wpList_skips 4 (v := .bool true) rfl (exec_mv rfl (ev rfl)) (by kernel_rfl) ?_
  simp only [skipAct, List.take_succ_cons, List.take_zero, List.drop_succ_cons, List.drop_zero, Act.put, List.setIfInBounds_toArray, List.set_cons_succ, List.set_cons_zero]
  refine wpList_valn (v := .bool true) rfl (exec_pt rfl (ev rfl) evk) ?_
  simp only [Act.put, List.setIfInBounds_toArray, List.set_cons_succ, List.set_cons_zero]
  refine wpList_nil ?_
  go_upto_region 2 with fail
  refine wp_region_lit ?_
  refine wpList_valn rfl (exec_bldR0 rfl) ?_
  simp only [Act.put, List.setIfInBounds_toArray, List.set_cons_succ, List.set_cons_zero]
  refine wpList_nuln rfl (exec_putR rfl (ev rfl) (ev rfl) HT2.out.at1) ?_
  simp only [Act.put, List.setIfInBounds_toArray, List.set_cons_succ, List.set_cons_zero]
  have HT3 := Lib.hid (HT2.out.put (zeroR))
  generalize putW w2 (w.heap.size + 1) (zeroR) = w3 at HT3 ⊢
  clear HT2
  refine wpList_valn rfl (exec_as rfl evk) ?_
  simp only [Act.put, List.setIfInBounds_toArray, List.set_cons_succ, List.set_cons_zero]
  refine wpList_nil ?_
  go_wp2_with fail
  exact bodyPost_ret (res_rt rfl _ _ _ rfl HT3.out.at1) rfl ⟨rfl, HT3.out.bel⟩
set_option maxHeartbeats 1000000 in
theorem pbeg_1 {x : Ros} {m : Int} (hf : fineB x = true) (hq : hasM x m = false) (w : World) : Calls Try.prog 21 #[ros x, .int .i64 m] w fun e w' => e = .returned (.tuple #[ros (zeroR), .int .i64 2]) ∧ Below w.heap.size w w' := by
  have HT1 := Lib.hid (TwoR.new w x)
  have HF := Lib.hid hf
  have HQ := Lib.hid hq
  clear hf hq
  go_enter Try.func21, Try.ntmps21
  go_upto_region 1 with (first | (refine wpList_valn rfl (exec_boxR rfl rfl) ?_) | (refine wpList_valn rfl (exec_allocR rfl) ?_) | fail)
  generalize (w.alloc (.cells (celR x).toArray 26)).alloc (.cells (celR zeroR).toArray 26) = w1 at *
  refine wp_region_lit ?_
  refine wpList_valn rfl (exec_ldR rfl (ev rfl) (HT1.out.at0)) ?_
  simp only [Act.put, List.setIfInBounds_toArray, List.set_cons_succ, List.set_cons_zero]
  refine wpList_call rfl (exec_cl Try.call9 rfl (evc (ev rfl) evn)) ?_
  refine (pmay_b w1 HF.out).mono ?_
  rintro e w2 ⟨rfl, hb⟩
  have HT2 := Lib.hid (HT1.out.call hb)
  clear hb HT1
  refine ⟨_, rfl, ?_⟩
  simp only [Act.put, List.setIfInBounds_toArray, List.set_cons_succ, List.set_cons_zero]
  refine wpList_valn (v := .bool false) rfl (exec_not true rfl (ev rfl)) ?_
  simp only [Act.put, List.setIfInBounds_toArray, List.set_cons_succ, List.set_cons_zero]
  refine wpList_valn (v := .bool false) rfl (exec_mv rfl (ev rfl)) ?_
  simp only [Act.put, List.setIfInBounds_toArray, List.set_cons_succ, List.set_cons_zero]
  refine wpList_val (wanted_of rfl rfl rfl rfl) (exec_ldR rfl (ev rfl) (HT2.out.at0)) ?_
  simp only [Act.put, List.setIfInBounds_toArray, List.set_cons_succ, List.set_cons_zero]
  refine wpList_val (wanted_of rfl rfl rfl rfl) (exec_mv rfl (ev rfl)) ?_
  simp only [Act.put, List.setIfInBounds_toArray, List.set_cons_succ, List.set_cons_zero]
  refine wpList_call (wanted_of rfl rfl rfl rfl) (exec_cl Try.call34 rfl (evc (ev rfl) (evc (ev rfl) evn))) ?_
  refine (pmember_b w2 HQ.out).mono ?_
  rintro e w3 ⟨rfl, hb⟩
  have HT3 := Lib.hid (HT2.out.call hb)
  clear hb HT2
  refine ⟨_, rfl, ?_⟩
  simp only [Act.put, List.setIfInBounds_toArray, List.set_cons_succ, List.set_cons_zero]
  refine wpList_val (v := .bool true) (wanted_of rfl rfl rfl rfl) (exec_not false rfl (ev rfl)) ?_
  simp only [Act.put, List.setIfInBounds_toArray, List.set_cons_succ, List.set_cons_zero]
  refine wpList_valn (v := .bool true) rfl (exec_pf rfl (ev rfl) (ev rfl)) ?_
  simp only [Act.put, List.setIfInBounds_toArray, List.set_cons_succ, List.set_cons_zero]
  refine wpList_nil ?_
  go_upto_region 2 with fail
  refine wp_region_lit ?_
  refine wpList_valn rfl (exec_bldR0 rfl) ?_
  simp only [Act.put, List.setIfInBounds_toArray, List.set_cons_succ, List.set_cons_zero]
  refine wpList_nuln rfl (exec_putR rfl (ev rfl) (ev rfl) HT3.out.at1) ?_
  simp only [Act.put, List.setIfInBounds_toArray, List.set_cons_succ, List.set_cons_zero]
  have HT4 := Lib.hid (HT3.out.put (zeroR))
  generalize putW w3 (w.heap.size + 1) (zeroR) = w4 at HT4 ⊢
  clear HT3
  refine wpList_valn rfl (exec_as rfl evk) ?_
  simp only [Act.put, List.setIfInBounds_toArray, List.set_cons_succ, List.set_cons_zero]
  refine wpList_nil ?_
  go_wp2_with fail
  exact bodyPost_ret (res_rt rfl _ _ _ rfl HT4.out.at1) rfl ⟨rfl, HT4.out.bel⟩
set_option maxHeartbeats 1000000 in
theorem pbeg_2 {x : Ros} {j : Nat} (hj : j < 16) (hf : fineB x = true) (hq : hasM x (j : Int) = true) (h1 : (sta x j != 1) = true) (w : World) : Calls Try.prog 21 #[ros x, .int .i64 (j : Int)] w fun e w' => e = .returned (.tuple #[ros (zeroR), .int .i64 17]) ∧ Below w.heap.size w w' := by
  have HT1 := Lib.hid (TwoR.new w x)
  have HF := Lib.hid hf
  have HQ := Lib.hid hq
  have H1 := Lib.hid h1
  clear hf hq h1
  go_enter Try.func21, Try.ntmps21
  go_upto_region 1 with (first | (refine wpList_valn rfl (exec_boxR rfl rfl) ?_) | (refine wpList_valn rfl (exec_allocR rfl) ?_) | fail)
  generalize (w.alloc (.cells (celR x).toArray 26)).alloc (.cells (celR zeroR).toArray 26) = w1 at *
  refine wp_region_lit ?_
  refine wpList_valn rfl (exec_ldR rfl (ev rfl) (HT1.out.at0)) ?_
  simp only [Act.put, List.setIfInBounds_toArray, List.set_cons_succ, List.set_cons_zero]
  refine wpList_call rfl (exec_cl Try.call9 rfl (evc (ev rfl) evn)) ?_
  refine (pmay_b w1 HF.out).mono ?_
  rintro e w2 ⟨rfl, hb⟩
  have HT2 := Lib.hid (HT1.out.call hb)
  clear hb HT1
  refine ⟨_, rfl, ?_⟩
  simp only [Act.put, List.setIfInBounds_toArray, List.set_cons_succ, List.set_cons_zero]
  refine wpList_valn (v := .bool false) rfl (exec_not true rfl (ev rfl)) ?_
  simp only [Act.put, List.setIfInBounds_toArray, List.set_cons_succ, List.set_cons_zero]
  refine wpList_valn (v := .bool false) rfl (exec_mv rfl (ev rfl)) ?_
  simp only [Act.put, List.setIfInBounds_toArray, List.set_cons_succ, List.set_cons_zero]
  refine wpList_val (wanted_of rfl rfl rfl rfl) (exec_ldR rfl (ev rfl) (HT2.out.at0)) ?_
  simp only [Act.put, List.setIfInBounds_toArray, List.set_cons_succ, List.set_cons_zero]
  refine wpList_val (wanted_of rfl rfl rfl rfl) (exec_mv rfl (ev rfl)) ?_
  simp only [Act.put, List.setIfInBounds_toArray, List.set_cons_succ, List.set_cons_zero]
  refine wpList_call (wanted_of rfl rfl rfl rfl) (exec_cl Try.call34 rfl (evc (ev rfl) (evc (ev rfl) evn))) ?_
  refine (pmember_b w2 HQ.out).mono ?_
  rintro e w3 ⟨rfl, hb⟩
  have HT3 := Lib.hid (HT2.out.call hb)
  clear hb HT2
  refine ⟨_, rfl, ?_⟩
  simp only [Act.put, List.setIfInBounds_toArray, List.set_cons_succ, List.set_cons_zero]
  refine wpList_val (v := .bool false) (wanted_of rfl rfl rfl rfl) (exec_not true rfl (ev rfl)) ?_
  simp only [Act.put, List.setIfInBounds_toArray, List.set_cons_succ, List.set_cons_zero]
  refine wpList_valn (v := .bool false) rfl (exec_pf rfl (ev rfl) (ev rfl)) ?_
  simp only [Act.put, List.setIfInBounds_toArray, List.set_cons_succ, List.set_cons_zero]
  refine wpList_nil ?_
  go_upto_region 3 with fail
  refine wp_region_lit ?_
  refine wpList_valn rfl (exec_mv rfl (ev rfl)) ?_
  simp only [Act.put, List.setIfInBounds_toArray, List.set_cons_succ, List.set_cons_zero]
  refine wpList_valn rfl (exec_faddr rfl (ev rfl) faR1) ?_
  simp only [Act.put, List.setIfInBounds_toArray, List.set_cons_succ, List.set_cons_zero]
  refine wpList_valn rfl (exec_ix rfl (ev rfl) (ev rfl) (ix16 hj)) ?_
  simp only [Act.put, List.setIfInBounds_toArray, List.set_cons_succ, List.set_cons_zero]
  refine wpList_valn rfl (exec_ld rfl (ev rfl) (ldU8 ((HT3.out.at0).sta hj))) ?_
  simp only [Act.put, List.setIfInBounds_toArray, List.set_cons_succ, List.set_cons_zero]
  refine wpList_valn (v := .bool true) rfl (exec_neInt true rfl (ev rfl) evk H1.out) ?_
  simp only [Act.put, List.setIfInBounds_toArray, List.set_cons_succ, List.set_cons_zero]
  refine wpList_skips 3 (v := .bool true) rfl (exec_mv rfl (ev rfl)) (by kernel_rfl) ?_
  simp only [skipAct, List.take_succ_cons, List.take_zero, List.drop_succ_cons, List.drop_zero, Act.put, List.setIfInBounds_toArray, List.set_cons_succ, List.set_cons_zero]
  refine wpList_valn (v := .bool true) rfl (exec_pt rfl (ev rfl) evk) ?_
  simp only [Act.put, List.setIfInBounds_toArray, List.set_cons_succ, List.set_cons_zero]
  refine wpList_skips 2 (v := .bool true) rfl (exec_mv rfl (ev rfl)) (by kernel_rfl) ?_
  simp only [skipAct, List.take_succ_cons, List.take_zero, List.drop_succ_cons, List.drop_zero, Act.put, List.setIfInBounds_toArray, List.set_cons_succ, List.set_cons_zero]
  refine wpList_valn (v := .bool true) rfl (exec_pt rfl (ev rfl) evk) ?_
  simp only [Act.put, List.setIfInBounds_toArray, List.set_cons_succ, List.set_cons_zero]
  refine wpList_nil ?_
  go_upto_region 4 with fail
  refine wp_region_lit ?_
  refine wpList_valn rfl (exec_bldR0 rfl) ?_
  simp only [Act.put, List.setIfInBounds_toArray, List.set_cons_succ, List.set_cons_zero]
  refine wpList_nuln rfl (exec_putR rfl (ev rfl) (ev rfl) HT3.out.at1) ?_
  simp only [Act.put, List.setIfInBounds_toArray, List.set_cons_succ, List.set_cons_zero]
  have HT4 := Lib.hid (HT3.out.put (zeroR))
  generalize putW w3 (w.heap.size + 1) (zeroR) = w4 at HT4 ⊢
  clear HT3
  refine wpList_valn rfl (exec_as rfl evk) ?_
  simp only [Act.put, List.setIfInBounds_toArray, List.set_cons_succ, List.set_cons_zero]
  refine wpList_nil ?_
  go_wp2_with fail
  exact bodyPost_ret (res_rt rfl _ _ _ rfl HT4.out.at1) rfl ⟨rfl, HT4.out.bel⟩
set_option maxHeartbeats 1000000 in
theorem pbeg_3 {x : Ros} {j n : Nat} (hj : j < 16) (hf : fineB x = true) (hq : hasM x (j : Int) = true) (h1 : (sta x j != 1) = false) (hs : missN x = n) (hn : ((n : Int) != 1) = true) (w : World) : Calls Try.prog 21 #[ros x, .int .i64 (j : Int)] w fun e w' => e = .returned (.tuple #[ros (zeroR), .int .i64 17]) ∧ Below w.heap.size w w' := by
  have HT1 := Lib.hid (TwoR.new w x)
  have HF := Lib.hid hf
  have HQ := Lib.hid hq
  have H1 := Lib.hid h1
  have HS := Lib.hid hs
  have HN := Lib.hid hn
  clear hf hq h1 hs hn
  go_enter Try.func21, Try.ntmps21
  go_upto_region 1 with (first | (refine wpList_valn rfl (exec_boxR rfl rfl) ?_) | (refine wpList_valn rfl (exec_allocR rfl) ?_) | fail)
  generalize (w.alloc (.cells (celR x).toArray 26)).alloc (.cells (celR zeroR).toArray 26) = w1 at *
  refine wp_region_lit ?_
  refine wpList_valn rfl (exec_ldR rfl (ev rfl) (HT1.out.at0)) ?_
  simp only [Act.put, List.setIfInBounds_toArray, List.set_cons_succ, List.set_cons_zero]
  refine wpList_call rfl (exec_cl Try.call9 rfl (evc (ev rfl) evn)) ?_
  refine (pmay_b w1 HF.out).mono ?_
  rintro e w2 ⟨rfl, hb⟩
  have HT2 := Lib.hid (HT1.out.call hb)
  clear hb HT1
  refine ⟨_, rfl, ?_⟩
  simp only [Act.put, List.setIfInBounds_toArray, List.set_cons_succ, List.set_cons_zero]
  refine wpList_valn (v := .bool false) rfl (exec_not true rfl (ev rfl)) ?_
  simp only [Act.put, List.setIfInBounds_toArray, List.set_cons_succ, List.set_cons_zero]
  refine wpList_valn (v := .bool false) rfl (exec_mv rfl (ev rfl)) ?_
  simp only [Act.put, List.setIfInBounds_toArray, List.set_cons_succ, List.set_cons_zero]
  refine wpList_val (wanted_of rfl rfl rfl rfl) (exec_ldR rfl (ev rfl) (HT2.out.at0)) ?_
  simp only [Act.put, List.setIfInBounds_toArray, List.set_cons_succ, List.set_cons_zero]
  refine wpList_val (wanted_of rfl rfl rfl rfl) (exec_mv rfl (ev rfl)) ?_
  simp only [Act.put, List.setIfInBounds_toArray, List.set_cons_succ, List.set_cons_zero]
  refine wpList_call (wanted_of rfl rfl rfl rfl) (exec_cl Try.call34 rfl (evc (ev rfl) (evc (ev rfl) evn))) ?_
  refine (pmember_b w2 HQ.out).mono ?_
  rintro e w3 ⟨rfl, hb⟩
  have HT3 := Lib.hid (HT2.out.call hb)
  clear hb HT2
  refine ⟨_, rfl, ?_⟩
  simp only [Act.put, List.setIfInBounds_toArray, List.set_cons_succ, List.set_cons_zero]
  refine wpList_val (v := .bool false) (wanted_of rfl rfl rfl rfl) (exec_not true rfl (ev rfl)) ?_
  simp only [Act.put, List.setIfInBounds_toArray, List.set_cons_succ, List.set_cons_zero]
  refine wpList_valn (v := .bool false) rfl (exec_pf rfl (ev rfl) (ev rfl)) ?_
  simp only [Act.put, List.setIfInBounds_toArray, List.set_cons_succ, List.set_cons_zero]
  refine wpList_nil ?_
  go_upto_region 3 with fail
  refine wp_region_lit ?_
  refine wpList_valn rfl (exec_mv rfl (ev rfl)) ?_
  simp only [Act.put, List.setIfInBounds_toArray, List.set_cons_succ, List.set_cons_zero]
  refine wpList_valn rfl (exec_faddr rfl (ev rfl) faR1) ?_
  simp only [Act.put, List.setIfInBounds_toArray, List.set_cons_succ, List.set_cons_zero]
  refine wpList_valn rfl (exec_ix rfl (ev rfl) (ev rfl) (ix16 hj)) ?_
  simp only [Act.put, List.setIfInBounds_toArray, List.set_cons_succ, List.set_cons_zero]
  refine wpList_valn rfl (exec_ld rfl (ev rfl) (ldU8 ((HT3.out.at0).sta hj))) ?_
  simp only [Act.put, List.setIfInBounds_toArray, List.set_cons_succ, List.set_cons_zero]
  refine wpList_valn (v := .bool false) rfl (exec_neInt false rfl (ev rfl) evk H1.out) ?_
  simp only [Act.put, List.setIfInBounds_toArray, List.set_cons_succ, List.set_cons_zero]
  refine wpList_valn (v := .bool false) rfl (exec_mv rfl (ev rfl)) ?_
  simp only [Act.put, List.setIfInBounds_toArray, List.set_cons_succ, List.set_cons_zero]
  refine wpList_val (wanted_of rfl rfl rfl rfl) (exec_ldR rfl (ev rfl) (HT3.out.at0)) ?_
  simp only [Act.put, List.setIfInBounds_toArray, List.set_cons_succ, List.set_cons_zero]
  refine wpList_call (wanted_of rfl rfl rfl rfl) (exec_cl Try.call13 rfl (evc (ev rfl) evn)) ?_
  refine (pmiss_n w3 HS.out).mono ?_
  rintro e w4 ⟨rfl, hb⟩
  have HT4 := Lib.hid (HT3.out.call hb)
  clear hb HT3
  refine ⟨_, rfl, ?_⟩
  simp only [Act.put, List.setIfInBounds_toArray, List.set_cons_succ, List.set_cons_zero]
  refine wpList_val (v := .bool true) (wanted_of rfl rfl rfl rfl) (exec_neInt true rfl (ev rfl) evk HN.out) ?_
  simp only [Act.put, List.setIfInBounds_toArray, List.set_cons_succ, List.set_cons_zero]
  refine wpList_valn (v := .bool true) rfl (exec_pf rfl (ev rfl) (ev rfl)) ?_
  simp only [Act.put, List.setIfInBounds_toArray, List.set_cons_succ, List.set_cons_zero]
  refine wpList_skips 2 (v := .bool true) rfl (exec_mv rfl (ev rfl)) (by kernel_rfl) ?_
  simp only [skipAct, List.take_succ_cons, List.take_zero, List.drop_succ_cons, List.drop_zero, Act.put, List.setIfInBounds_toArray, List.set_cons_succ, List.set_cons_zero]
  refine wpList_valn (v := .bool true) rfl (exec_pt rfl (ev rfl) evk) ?_
  simp only [Act.put, List.setIfInBounds_toArray, List.set_cons_succ, List.set_cons_zero]
  refine wpList_nil ?_
  go_upto_region 4 with fail
  refine wp_region_lit ?_
  refine wpList_valn rfl (exec_bldR0 rfl) ?_
  simp only [Act.put, List.setIfInBounds_toArray, List.set_cons_succ, List.set_cons_zero]
  refine wpList_nuln rfl (exec_putR rfl (ev rfl) (ev rfl) HT4.out.at1) ?_
  simp only [Act.put, List.setIfInBounds_toArray, List.set_cons_succ, List.set_cons_zero]
  have HT5 := Lib.hid (HT4.out.put (zeroR))
  generalize putW w4 (w.heap.size + 1) (zeroR) = w5 at HT5 ⊢
  clear HT4
  refine wpList_valn rfl (exec_as rfl evk) ?_
  simp only [Act.put, List.setIfInBounds_toArray, List.set_cons_succ, List.set_cons_zero]
  refine wpList_nil ?_
  go_wp2_with fail
  exact bodyPost_ret (res_rt rfl _ _ _ rfl HT5.out.at1) rfl ⟨rfl, HT5.out.bel⟩
set_option maxHeartbeats 1000000 in
theorem pbeg_4 {x : Ros} {j n : Nat} (hj : j < 16) (hf : fineB x = true) (hq : hasM x (j : Int) = true) (h1 : (sta x j != 1) = false) (hs : missN x = n) (hn : ((n : Int) != 1) = false) (ho : x.gone = true) (w : World) : Calls Try.prog 21 #[ros x, .int .i64 (j : Int)] w fun e w' => e = .returned (.tuple #[ros (zeroR), .int .i64 17]) ∧ Below w.heap.size w w' := by
  have HT1 := Lib.hid (TwoR.new w x)
  have HF := Lib.hid hf
  have HQ := Lib.hid hq
  have H1 := Lib.hid h1
  have HS := Lib.hid hs
  have HN := Lib.hid hn
  have HO := Lib.hid ho
  clear hf hq h1 hs hn ho
  go_enter Try.func21, Try.ntmps21
  go_upto_region 1 with (first | (refine wpList_valn rfl (exec_boxR rfl rfl) ?_) | (refine wpList_valn rfl (exec_allocR rfl) ?_) | fail)
  generalize (w.alloc (.cells (celR x).toArray 26)).alloc (.cells (celR zeroR).toArray 26) = w1 at *
  refine wp_region_lit ?_
  refine wpList_valn rfl (exec_ldR rfl (ev rfl) (HT1.out.at0)) ?_
  simp only [Act.put, List.setIfInBounds_toArray, List.set_cons_succ, List.set_cons_zero]
  refine wpList_call rfl (exec_cl Try.call9 rfl (evc (ev rfl) evn)) ?_
  refine (pmay_b w1 HF.out).mono ?_
  rintro e w2 ⟨rfl, hb⟩
  have HT2 := Lib.hid (HT1.out.call hb)
  clear hb HT1
  refine ⟨_, rfl, ?_⟩
  simp only [Act.put, List.setIfInBounds_toArray, List.set_cons_succ, List.set_cons_zero]
  refine wpList_valn (v := .bool false) rfl (exec_not true rfl (ev rfl)) ?_
  simp only [Act.put, List.setIfInBounds_toArray, List.set_cons_succ, List.set_cons_zero]
  refine wpList_valn (v := .bool false) rfl (exec_mv rfl (ev rfl)) ?_
  simp only [Act.put, List.setIfInBounds_toArray, List.set_cons_succ, List.set_cons_zero]
  refine wpList_val (wanted_of rfl rfl rfl rfl) (exec_ldR rfl (ev rfl) (HT2.out.at0)) ?_
  simp only [Act.put, List.setIfInBounds_toArray, List.set_cons_succ, List.set_cons_zero]
  refine wpList_val (wanted_of rfl rfl rfl rfl) (exec_mv rfl (ev rfl)) ?_
  simp only [Act.put, List.setIfInBounds_toArray, List.set_cons_succ, List.set_cons_zero]
  refine wpList_call (wanted_of rfl rfl rfl rfl) (exec_cl Try.call34 rfl (evc (ev rfl) (evc (ev rfl) evn))) ?_
  refine (pmember_b w2 HQ.out).mono ?_
  rintro e w3 ⟨rfl, hb⟩
  have HT3 := Lib.hid (HT2.out.call hb)
  clear hb HT2
  refine ⟨_, rfl, ?_⟩
  simp only [Act.put, List.setIfInBounds_toArray, List.set_cons_succ, List.set_cons_zero]
  refine wpList_val (v := .bool false) (wanted_of rfl rfl rfl rfl) (exec_not true rfl (ev rfl)) ?_
  simp only [Act.put, List.setIfInBounds_toArray, List.set_cons_succ, List.set_cons_zero]
  refine wpList_valn (v := .bool false) rfl (exec_pf rfl (ev rfl) (ev rfl)) ?_
  simp only [Act.put, List.setIfInBounds_toArray, List.set_cons_succ, List.set_cons_zero]
  refine wpList_nil ?_
  go_upto_region 3 with fail
  refine wp_region_lit ?_
  refine wpList_valn rfl (exec_mv rfl (ev rfl)) ?_
  simp only [Act.put, List.setIfInBounds_toArray, List.set_cons_succ, List.set_cons_zero]
  refine wpList_valn rfl (exec_faddr rfl (ev rfl) faR1) ?_
  simp only [Act.put, List.setIfInBounds_toArray, List.set_cons_succ, List.set_cons_zero]
  refine wpList_valn rfl (exec_ix rfl (ev rfl) (ev rfl) (ix16 hj)) ?_
  simp only [Act.put, List.setIfInBounds_toArray, List.set_cons_succ, List.set_cons_zero]
  refine wpList_valn rfl (exec_ld rfl (ev rfl) (ldU8 ((HT3.out.at0).sta hj))) ?_
  simp only [Act.put, List.setIfInBounds_toArray, List.set_cons_succ, List.set_cons_zero]
  refine wpList_valn (v := .bool false) rfl (exec_neInt false rfl (ev rfl) evk H1.out) ?_
  simp only [Act.put, List.setIfInBounds_toArray, List.set_cons_succ, List.set_cons_zero]
  refine wpList_valn (v := .bool false) rfl (exec_mv rfl (ev rfl)) ?_
  simp only [Act.put, List.setIfInBounds_toArray, List.set_cons_succ, List.set_cons_zero]
  refine wpList_val (wanted_of rfl rfl rfl rfl) (exec_ldR rfl (ev rfl) (HT3.out.at0)) ?_
  simp only [Act.put, List.setIfInBounds_toArray, List.set_cons_succ, List.set_cons_zero]
  refine wpList_call (wanted_of rfl rfl rfl rfl) (exec_cl Try.call13 rfl (evc (ev rfl) evn)) ?_
  refine (pmiss_n w3 HS.out).mono ?_
  rintro e w4 ⟨rfl, hb⟩
  have HT4 := Lib.hid (HT3.out.call hb)
  clear hb HT3
  refine ⟨_, rfl, ?_⟩
  simp only [Act.put, List.setIfInBounds_toArray, List.set_cons_succ, List.set_cons_zero]
  refine wpList_val (v := .bool false) (wanted_of rfl rfl rfl rfl) (exec_neInt false rfl (ev rfl) evk HN.out) ?_
  simp only [Act.put, List.setIfInBounds_toArray, List.set_cons_succ, List.set_cons_zero]
  refine wpList_valn (v := .bool false) rfl (exec_pf rfl (ev rfl) (ev rfl)) ?_
  simp only [Act.put, List.setIfInBounds_toArray, List.set_cons_succ, List.set_cons_zero]
  refine wpList_valn (v := .bool false) rfl (exec_mv rfl (ev rfl)) ?_
  simp only [Act.put, List.setIfInBounds_toArray, List.set_cons_succ, List.set_cons_zero]
  refine wpList_val (wanted_of rfl rfl rfl rfl) (exec_faddr rfl (ev rfl) faR3) ?_
  simp only [Act.put, List.setIfInBounds_toArray, List.set_cons_succ, List.set_cons_zero]
  refine wpList_val (v := .bool true) (wanted_of rfl rfl rfl rfl) (exec_ld rfl (ev rfl) (ldBo (HO.out ▸ HT4.out.at0.cells.2.2.2.2))) ?_
  simp only [Act.put, List.setIfInBounds_toArray, List.set_cons_succ, List.set_cons_zero]
  refine wpList_valn (v := .bool true) rfl (exec_pf rfl (ev rfl) (ev rfl)) ?_
  simp only [Act.put, List.setIfInBounds_toArray, List.set_cons_succ, List.set_cons_zero]
  refine wpList_nil ?_
  go_upto_region 4 with fail
  refine wp_region_lit ?_
  refine wpList_valn rfl (exec_bldR0 rfl) ?_
  simp only [Act.put, List.setIfInBounds_toArray, List.set_cons_succ, List.set_cons_zero]
  refine wpList_nuln rfl (exec_putR rfl (ev rfl) (ev rfl) HT4.out.at1) ?_
  simp only [Act.put, List.setIfInBounds_toArray, List.set_cons_succ, List.set_cons_zero]
  have HT5 := Lib.hid (HT4.out.put (zeroR))
  generalize putW w4 (w.heap.size + 1) (zeroR) = w5 at HT5 ⊢
  clear HT4
  refine wpList_valn rfl (exec_as rfl evk) ?_
  simp only [Act.put, List.setIfInBounds_toArray, List.set_cons_succ, List.set_cons_zero]
  refine wpList_nil ?_
  go_wp2_with fail
  exact bodyPost_ret (res_rt rfl _ _ _ rfl HT5.out.at1) rfl ⟨rfl, HT5.out.bel⟩
set_option maxHeartbeats 1000000 in
theorem pbeg_5 {x : Ros} {j n : Nat} (hj : j < 16) (hf : fineB x = true) (hq : hasM x (j : Int) = true) (h1 : (sta x j != 1) = false) (hs : missN x = n) (hn : ((n : Int) != 1) = false) (ho : x.gone = false) (w : World) : Calls Try.prog 21 #[ros x, .int .i64 (j : Int)] w fun e w' => e = .returned (.tuple #[ros (setS x j 2), .int .i64 0]) ∧ Below w.heap.size w w' := by
  have HT1 := Lib.hid (TwoR.new w x)
  have HF := Lib.hid hf
  have HQ := Lib.hid hq
  have H1 := Lib.hid h1
  have HS := Lib.hid hs
  have HN := Lib.hid hn
  have HO := Lib.hid ho
  clear hf hq h1 hs hn ho
  go_enter Try.func21, Try.ntmps21
  go_upto_region 1 with (first | (refine wpList_valn rfl (exec_boxR rfl rfl) ?_) | (refine wpList_valn rfl (exec_allocR rfl) ?_) | fail)
  generalize (w.alloc (.cells (celR x).toArray 26)).alloc (.cells (celR zeroR).toArray 26) = w1 at *
  refine wp_region_lit ?_
  refine wpList_valn rfl (exec_ldR rfl (ev rfl) (HT1.out.at0)) ?_
  simp only [Act.put, List.setIfInBounds_toArray, List.set_cons_succ, List.set_cons_zero]
  refine wpList_call rfl (exec_cl Try.call9 rfl (evc (ev rfl) evn)) ?_
  refine (pmay_b w1 HF.out).mono ?_
  rintro e w2 ⟨rfl, hb⟩
  have HT2 := Lib.hid (HT1.out.call hb)
  clear hb HT1
  refine ⟨_, rfl, ?_⟩
  simp only [Act.put, List.setIfInBounds_toArray, List.set_cons_succ, List.set_cons_zero]
  refine wpList_valn (v := .bool false) rfl (exec_not true rfl (ev rfl)) ?_
  simp only [Act.put, List.setIfInBounds_toArray, List.set_cons_succ, List.set_cons_zero]
  refine wpList_valn (v := .bool false) rfl (exec_mv rfl (ev rfl)) ?_
  simp only [Act.put, List.setIfInBounds_toArray, List.set_cons_succ, List.set_cons_zero]
  refine wpList_val (wanted_of rfl rfl rfl rfl) (exec_ldR rfl (ev rfl) (HT2.out.at0)) ?_
  simp only [Act.put, List.setIfInBounds_toArray, List.set_cons_succ, List.set_cons_zero]
  refine wpList_val (wanted_of rfl rfl rfl rfl) (exec_mv rfl (ev rfl)) ?_
  simp only [Act.put, List.setIfInBounds_toArray, List.set_cons_succ, List.set_cons_zero]
  refine wpList_call (wanted_of rfl rfl rfl rfl) (exec_cl Try.call34 rfl (evc (ev rfl) (evc (ev rfl) evn))) ?_
  refine (pmember_b w2 HQ.out).mono ?_
  rintro e w3 ⟨rfl, hb⟩
  have HT3 := Lib.hid (HT2.out.call hb)
  clear hb HT2
  refine ⟨_, rfl, ?_⟩
  simp only [Act.put, List.setIfInBounds_toArray, List.set_cons_succ, List.set_cons_zero]
  refine wpList_val (v := .bool false) (wanted_of rfl rfl rfl rfl) (exec_not true rfl (ev rfl)) ?_
  simp only [Act.put, List.setIfInBounds_toArray, List.set_cons_succ, List.set_cons_zero]
  refine wpList_valn (v := .bool false) rfl (exec_pf rfl (ev rfl) (ev rfl)) ?_
  simp only [Act.put, List.setIfInBounds_toArray, List.set_cons_succ, List.set_cons_zero]
  refine wpList_nil ?_
  go_upto_region 3 with fail
  refine wp_region_lit ?_
  refine wpList_valn rfl (exec_mv rfl (ev rfl)) ?_
  simp only [Act.put, List.setIfInBounds_toArray, List.set_cons_succ, List.set_cons_zero]
  refine wpList_valn rfl (exec_faddr rfl (ev rfl) faR1) ?_
  simp only [Act.put, List.setIfInBounds_toArray, List.set_cons_succ, List.set_cons_zero]
  refine wpList_valn rfl (exec_ix rfl (ev rfl) (ev rfl) (ix16 hj)) ?_
  simp only [Act.put, List.setIfInBounds_toArray, List.set_cons_succ, List.set_cons_zero]
  refine wpList_valn rfl (exec_ld rfl (ev rfl) (ldU8 ((HT3.out.at0).sta hj))) ?_
  simp only [Act.put, List.setIfInBounds_toArray, List.set_cons_succ, List.set_cons_zero]
  refine wpList_valn (v := .bool false) rfl (exec_neInt false rfl (ev rfl) evk H1.out) ?_
  simp only [Act.put, List.setIfInBounds_toArray, List.set_cons_succ, List.set_cons_zero]
  refine wpList_valn (v := .bool false) rfl (exec_mv rfl (ev rfl)) ?_
  simp only [Act.put, List.setIfInBounds_toArray, List.set_cons_succ, List.set_cons_zero]
  refine wpList_val (wanted_of rfl rfl rfl rfl) (exec_ldR rfl (ev rfl) (HT3.out.at0)) ?_
  simp only [Act.put, List.setIfInBounds_toArray, List.set_cons_succ, List.set_cons_zero]
  refine wpList_call (wanted_of rfl rfl rfl rfl) (exec_cl Try.call13 rfl (evc (ev rfl) evn)) ?_
  refine (pmiss_n w3 HS.out).mono ?_
  rintro e w4 ⟨rfl, hb⟩
  have HT4 := Lib.hid (HT3.out.call hb)
  clear hb HT3
  refine ⟨_, rfl, ?_⟩
  simp only [Act.put, List.setIfInBounds_toArray, List.set_cons_succ, List.set_cons_zero]
  refine wpList_val (v := .bool false) (wanted_of rfl rfl rfl rfl) (exec_neInt false rfl (ev rfl) evk HN.out) ?_
  simp only [Act.put, List.setIfInBounds_toArray, List.set_cons_succ, List.set_cons_zero]
  refine wpList_valn (v := .bool false) rfl (exec_pf rfl (ev rfl) (ev rfl)) ?_
  simp only [Act.put, List.setIfInBounds_toArray, List.set_cons_succ, List.set_cons_zero]
  refine wpList_valn (v := .bool false) rfl (exec_mv rfl (ev rfl)) ?_
  simp only [Act.put, List.setIfInBounds_toArray, List.set_cons_succ, List.set_cons_zero]
  refine wpList_val (wanted_of rfl rfl rfl rfl) (exec_faddr rfl (ev rfl) faR3) ?_
  simp only [Act.put, List.setIfInBounds_toArray, List.set_cons_succ, List.set_cons_zero]
  refine wpList_val (v := .bool false) (wanted_of rfl rfl rfl rfl) (exec_ld rfl (ev rfl) (ldBo (HO.out ▸ HT4.out.at0.cells.2.2.2.2))) ?_
  simp only [Act.put, List.setIfInBounds_toArray, List.set_cons_succ, List.set_cons_zero]
  refine wpList_valn (v := .bool false) rfl (exec_pf rfl (ev rfl) (ev rfl)) ?_
  simp only [Act.put, List.setIfInBounds_toArray, List.set_cons_succ, List.set_cons_zero]
  refine wpList_nil ?_
  go_upto_region 5 with fail
  refine wp_region_lit ?_
  refine wpList_valn rfl (exec_mv rfl (ev rfl)) ?_
  simp only [Act.put, List.setIfInBounds_toArray, List.set_cons_succ, List.set_cons_zero]
  refine wpList_valn rfl (exec_faddr rfl (ev rfl) faR1) ?_
  simp only [Act.put, List.setIfInBounds_toArray, List.set_cons_succ, List.set_cons_zero]
  refine wpList_valn rfl (exec_ix rfl (ev rfl) (ev rfl) (ix16 hj)) ?_
  simp only [Act.put, List.setIfInBounds_toArray, List.set_cons_succ, List.set_cons_zero]
  refine wpList_nuln rfl (exec_stS rfl (ev rfl) evk (HT4.out.at0.there (by omega))) ?_
  simp only [Act.put, List.setIfInBounds_toArray, List.set_cons_succ, List.set_cons_zero]
  have HT5 := Lib.hid (HT4.out.set (celR_set2 _ hj))
  generalize setW w4 w.heap.size (3 + j) (.int .u8 2) = w5 at HT5 ⊢
  clear HT4
  refine wpList_nil ?_
  go_upto_region 6 with fail
  refine wp_region_lit ?_
  refine wpList_valn rfl (exec_ldR rfl (ev rfl) (HT5.out.at0)) ?_
  simp only [Act.put, List.setIfInBounds_toArray, List.set_cons_succ, List.set_cons_zero]
  refine wpList_nuln rfl (exec_putR rfl (ev rfl) (ev rfl) HT5.out.at1) ?_
  simp only [Act.put, List.setIfInBounds_toArray, List.set_cons_succ, List.set_cons_zero]
  have HT6 := Lib.hid (HT5.out.put (setS x j 2))
  generalize putW w5 (w.heap.size + 1) (setS x j 2) = w6 at HT6 ⊢
  clear HT5
  refine wpList_valn rfl (exec_as rfl evk) ?_
  simp only [Act.put, List.setIfInBounds_toArray, List.set_cons_succ, List.set_cons_zero]
  refine wpList_nil ?_
  go_wp2_with fail
  exact bodyPost_ret (res_rt rfl _ _ _ rfl HT6.out.at1) rfl ⟨rfl, HT6.out.bel⟩
theorem beg_cur {x : Ros} {j : Nat} (hf : fineB x = true) (hj : j < 16) (h1 : sta x j = 1) (ho : outs x = 1) : x.cur = 0 := by
  obtain ⟨_, hs, _, _, _, hc⟩ := of_fineB hf
  have h2 := outs_many hs
  have h3 := heals_many x
  have h4 : 1 ≤ many x 1 := cntK_pos h1 hj
  omega
theorem beg_same {x : Ros} {j : Nat} (hf : fineB x = true) (hj : j < 16) (h1 : sta x j = 1) (ho : outs x = 1) : curS (setS x j 2) 0 = setS x j 2 := by
  have := beg_cur hf hj h1 ho
  unfold curS setS
  rw [this]
theorem pbeg (x : Ros) (m : Int) (w : World) : Calls Try.prog 21 #[ros x, .int .i64 m] w fun e w' => e = .returned (.tuple #[ros (begX x m), .int .i64 (begE x m : Nat)]) ∧ Below w.heap.size w w' := by
  unfold begX
  cases hf : fineB x
  · rw [show begE x m = 2 from by unfold begE; rw [hf]; rfl]; exact pbeg_0 hf w
  cases hq : hasM x m
  · rw [show begE x m = 2 from by unfold begE; rw [hf, hq]; rfl]; exact pbeg_1 hf hq w
  have hm := of_hasM hq
  have hg := of_geoB (of_fineB hf).1
  obtain ⟨j, rfl⟩ := Int.eq_ofNat_of_zero_le hm.1
  have hj : j < 16 := by omega
  have hs : missN x = outs x := by unfold missN; rw [if_pos hf]
  have e : begE x (j : Int) = if sta x j = 1 ∧ outs x = 1 ∧ x.gone = false then 0 else 17 := by unfold begE; rw [if_pos ⟨hf, hq⟩]; rfl
  by_cases h1 : sta x j = 1
  · have hp : 1 ≤ outs x := outK_pos (j := j) (by rw [show bt x.st.toList j = 1 from h1]; omega) hj
    have h1' : (sta x j != 1) = false := by rw [h1]; rfl
    by_cases ho : outs x = 1
    · cases hgo : x.gone
      · rw [e.trans (if_pos ⟨h1, ho, hgo⟩), if_pos rfl]
        exact pbeg_5 hj hf hq h1' hs (by rw [ho]; rfl) hgo w
      · rw [e.trans (if_neg (fun h => by rw [hgo] at h; cases h.2.2))]
        exact pbeg_4 hj hf hq h1' hs (by rw [ho]; rfl) hgo w
    · rw [e.trans (if_neg (fun h => ho h.2.1))]
      exact pbeg_3 hj hf hq h1' hs (by simp; omega) w
  · rw [e.trans (if_neg (fun h => h1 h.1))]
    exact pbeg_2 hj hf hq (by simpa using h1) w
set_option maxHeartbeats 1000000 in
theorem rbeg_0 {x : Ros} {m : Int} (hf : fineB x = false) (w : World) : Calls Try.prog 22 #[ros x, .int .i64 m] w fun e w' => e = .returned (.tuple #[ros (zeroR), .int .i64 2]) ∧ Below w.heap.size w w' := by
  have HT1 := Lib.hid (TwoR.new w x)
  have HF := Lib.hid hf
  clear hf
  go_enter Try.func22, Try.ntmps22
  go_upto_region 1 with (first | (refine wpList_valn rfl (exec_boxR rfl rfl) ?_) | (refine wpList_valn rfl (exec_allocR rfl) ?_) | fail)
  generalize (w.alloc (.cells (celR x).toArray 26)).alloc (.cells (celR zeroR).toArray 26) = w1 at *
  refine wp_region_lit ?_
  refine wpList_valn rfl (exec_ldR rfl (ev rfl) (HT1.out.at0)) ?_
  simp only [Act.put, List.setIfInBounds_toArray, List.set_cons_succ, List.set_cons_zero]
  refine wpList_call rfl (exec_cl Try.call10 rfl (evc (ev rfl) evn)) ?_
  refine (rmay_b w1 HF.out).mono ?_
  rintro e w2 ⟨rfl, hb⟩
  have HT2 := Lib.hid (HT1.out.call hb)
  clear hb HT1
  refine ⟨_, rfl, ?_⟩
  simp only [Act.put, List.setIfInBounds_toArray, List.set_cons_succ, List.set_cons_zero]
  refine wpList_valn (v := .bool true) rfl (exec_not false rfl (ev rfl)) ?_
  simp only [Act.put, List.setIfInBounds_toArray, List.set_cons_succ, List.set_cons_zero]
  refine wpList_skips 4 (v := .bool true) rfl (exec_mv rfl (ev rfl)) (by kernel_rfl) ?_
  simp only [skipAct, List.take_succ_cons, List.take_zero, List.drop_succ_cons, List.drop_zero, Act.put, List.setIfInBounds_toArray, List.set_cons_succ, List.set_cons_zero]
  refine wpList_valn (v := .bool true) rfl (exec_pt rfl (ev rfl) evk) ?_
  simp only [Act.put, List.setIfInBounds_toArray, List.set_cons_succ, List.set_cons_zero]
  refine wpList_nil ?_
  go_upto_region 2 with fail
  refine wp_region_lit ?_
  refine wpList_valn rfl (exec_bldR0 rfl) ?_
  simp only [Act.put, List.setIfInBounds_toArray, List.set_cons_succ, List.set_cons_zero]
  refine wpList_nuln rfl (exec_putR rfl (ev rfl) (ev rfl) HT2.out.at1) ?_
  simp only [Act.put, List.setIfInBounds_toArray, List.set_cons_succ, List.set_cons_zero]
  have HT3 := Lib.hid (HT2.out.put (zeroR))
  generalize putW w2 (w.heap.size + 1) (zeroR) = w3 at HT3 ⊢
  clear HT2
  refine wpList_valn rfl (exec_as rfl evk) ?_
  simp only [Act.put, List.setIfInBounds_toArray, List.set_cons_succ, List.set_cons_zero]
  refine wpList_nil ?_
  go_wp2_with fail
  exact bodyPost_ret (res_rt rfl _ _ _ rfl HT3.out.at1) rfl ⟨rfl, HT3.out.bel⟩
set_option maxHeartbeats 1000000 in
theorem rbeg_1 {x : Ros} {m : Int} (hf : fineB x = true) (hq : hasM x m = false) (w : World) : Calls Try.prog 22 #[ros x, .int .i64 m] w fun e w' => e = .returned (.tuple #[ros (zeroR), .int .i64 2]) ∧ Below w.heap.size w w' := by
  have HT1 := Lib.hid (TwoR.new w x)
  have HF := Lib.hid hf
  have HQ := Lib.hid hq
  clear hf hq
  go_enter Try.func22, Try.ntmps22
  go_upto_region 1 with (first | (refine wpList_valn rfl (exec_boxR rfl rfl) ?_) | (refine wpList_valn rfl (exec_allocR rfl) ?_) | fail)
  generalize (w.alloc (.cells (celR x).toArray 26)).alloc (.cells (celR zeroR).toArray 26) = w1 at *
  refine wp_region_lit ?_
  refine wpList_valn rfl (exec_ldR rfl (ev rfl) (HT1.out.at0)) ?_
  simp only [Act.put, List.setIfInBounds_toArray, List.set_cons_succ, List.set_cons_zero]
  refine wpList_call rfl (exec_cl Try.call10 rfl (evc (ev rfl) evn)) ?_
  refine (rmay_b w1 HF.out).mono ?_
  rintro e w2 ⟨rfl, hb⟩
  have HT2 := Lib.hid (HT1.out.call hb)
  clear hb HT1
  refine ⟨_, rfl, ?_⟩
  simp only [Act.put, List.setIfInBounds_toArray, List.set_cons_succ, List.set_cons_zero]
  refine wpList_valn (v := .bool false) rfl (exec_not true rfl (ev rfl)) ?_
  simp only [Act.put, List.setIfInBounds_toArray, List.set_cons_succ, List.set_cons_zero]
  refine wpList_valn (v := .bool false) rfl (exec_mv rfl (ev rfl)) ?_
  simp only [Act.put, List.setIfInBounds_toArray, List.set_cons_succ, List.set_cons_zero]
  refine wpList_val (wanted_of rfl rfl rfl rfl) (exec_ldR rfl (ev rfl) (HT2.out.at0)) ?_
  simp only [Act.put, List.setIfInBounds_toArray, List.set_cons_succ, List.set_cons_zero]
  refine wpList_val (wanted_of rfl rfl rfl rfl) (exec_mv rfl (ev rfl)) ?_
  simp only [Act.put, List.setIfInBounds_toArray, List.set_cons_succ, List.set_cons_zero]
  refine wpList_call (wanted_of rfl rfl rfl rfl) (exec_cl Try.call36 rfl (evc (ev rfl) (evc (ev rfl) evn))) ?_
  refine (rmember_b w2 HQ.out).mono ?_
  rintro e w3 ⟨rfl, hb⟩
  have HT3 := Lib.hid (HT2.out.call hb)
  clear hb HT2
  refine ⟨_, rfl, ?_⟩
  simp only [Act.put, List.setIfInBounds_toArray, List.set_cons_succ, List.set_cons_zero]
  refine wpList_val (v := .bool true) (wanted_of rfl rfl rfl rfl) (exec_not false rfl (ev rfl)) ?_
  simp only [Act.put, List.setIfInBounds_toArray, List.set_cons_succ, List.set_cons_zero]
  refine wpList_valn (v := .bool true) rfl (exec_pf rfl (ev rfl) (ev rfl)) ?_
  simp only [Act.put, List.setIfInBounds_toArray, List.set_cons_succ, List.set_cons_zero]
  refine wpList_nil ?_
  go_upto_region 2 with fail
  refine wp_region_lit ?_
  refine wpList_valn rfl (exec_bldR0 rfl) ?_
  simp only [Act.put, List.setIfInBounds_toArray, List.set_cons_succ, List.set_cons_zero]
  refine wpList_nuln rfl (exec_putR rfl (ev rfl) (ev rfl) HT3.out.at1) ?_
  simp only [Act.put, List.setIfInBounds_toArray, List.set_cons_succ, List.set_cons_zero]
  have HT4 := Lib.hid (HT3.out.put (zeroR))
  generalize putW w3 (w.heap.size + 1) (zeroR) = w4 at HT4 ⊢
  clear HT3
  refine wpList_valn rfl (exec_as rfl evk) ?_
  simp only [Act.put, List.setIfInBounds_toArray, List.set_cons_succ, List.set_cons_zero]
  refine wpList_nil ?_
  go_wp2_with fail
  exact bodyPost_ret (res_rt rfl _ _ _ rfl HT4.out.at1) rfl ⟨rfl, HT4.out.bel⟩
set_option maxHeartbeats 1000000 in
theorem rbeg_2 {x : Ros} {j : Nat} (hj : j < 16) (hf : fineB x = true) (hq : hasM x (j : Int) = true) (h1 : (sta x j != 1) = true) (w : World) : Calls Try.prog 22 #[ros x, .int .i64 (j : Int)] w fun e w' => e = .returned (.tuple #[ros (zeroR), .int .i64 17]) ∧ Below w.heap.size w w' := by
  have HT1 := Lib.hid (TwoR.new w x)
  have HF := Lib.hid hf
  have HQ := Lib.hid hq
  have H1 := Lib.hid h1
  clear hf hq h1
  go_enter Try.func22, Try.ntmps22
  go_upto_region 1 with (first | (refine wpList_valn rfl (exec_boxR rfl rfl) ?_) | (refine wpList_valn rfl (exec_allocR rfl) ?_) | fail)
  generalize (w.alloc (.cells (celR x).toArray 26)).alloc (.cells (celR zeroR).toArray 26) = w1 at *
  refine wp_region_lit ?_
  refine wpList_valn rfl (exec_ldR rfl (ev rfl) (HT1.out.at0)) ?_
  simp only [Act.put, List.setIfInBounds_toArray, List.set_cons_succ, List.set_cons_zero]
  refine wpList_call rfl (exec_cl Try.call10 rfl (evc (ev rfl) evn)) ?_
  refine (rmay_b w1 HF.out).mono ?_
  rintro e w2 ⟨rfl, hb⟩
  have HT2 := Lib.hid (HT1.out.call hb)
  clear hb HT1
  refine ⟨_, rfl, ?_⟩
  simp only [Act.put, List.setIfInBounds_toArray, List.set_cons_succ, List.set_cons_zero]
  refine wpList_valn (v := .bool false) rfl (exec_not true rfl (ev rfl)) ?_
  simp only [Act.put, List.setIfInBounds_toArray, List.set_cons_succ, List.set_cons_zero]
  refine wpList_valn (v := .bool false) rfl (exec_mv rfl (ev rfl)) ?_
  simp only [Act.put, List.setIfInBounds_toArray, List.set_cons_succ, List.set_cons_zero]
  refine wpList_val (wanted_of rfl rfl rfl rfl) (exec_ldR rfl (ev rfl) (HT2.out.at0)) ?_
  simp only [Act.put, List.setIfInBounds_toArray, List.set_cons_succ, List.set_cons_zero]
  refine wpList_val (wanted_of rfl rfl rfl rfl) (exec_mv rfl (ev rfl)) ?_
  simp only [Act.put, List.setIfInBounds_toArray, List.set_cons_succ, List.set_cons_zero]
  refine wpList_call (wanted_of rfl rfl rfl rfl) (exec_cl Try.call36 rfl (evc (ev rfl) (evc (ev rfl) evn))) ?_
  refine (rmember_b w2 HQ.out).mono ?_
  rintro e w3 ⟨rfl, hb⟩
  have HT3 := Lib.hid (HT2.out.call hb)
  clear hb HT2
  refine ⟨_, rfl, ?_⟩
  simp only [Act.put, List.setIfInBounds_toArray, List.set_cons_succ, List.set_cons_zero]
  refine wpList_val (v := .bool false) (wanted_of rfl rfl rfl rfl) (exec_not true rfl (ev rfl)) ?_
  simp only [Act.put, List.setIfInBounds_toArray, List.set_cons_succ, List.set_cons_zero]
  refine wpList_valn (v := .bool false) rfl (exec_pf rfl (ev rfl) (ev rfl)) ?_
  simp only [Act.put, List.setIfInBounds_toArray, List.set_cons_succ, List.set_cons_zero]
  refine wpList_nil ?_
  go_upto_region 3 with fail
  refine wp_region_lit ?_
  refine wpList_valn rfl (exec_mv rfl (ev rfl)) ?_
  simp only [Act.put, List.setIfInBounds_toArray, List.set_cons_succ, List.set_cons_zero]
  refine wpList_valn rfl (exec_faddr rfl (ev rfl) faR1) ?_
  simp only [Act.put, List.setIfInBounds_toArray, List.set_cons_succ, List.set_cons_zero]
  refine wpList_valn rfl (exec_ix rfl (ev rfl) (ev rfl) (ix16 hj)) ?_
  simp only [Act.put, List.setIfInBounds_toArray, List.set_cons_succ, List.set_cons_zero]
  refine wpList_valn rfl (exec_ld rfl (ev rfl) (ldU8 ((HT3.out.at0).sta hj))) ?_
  simp only [Act.put, List.setIfInBounds_toArray, List.set_cons_succ, List.set_cons_zero]
  refine wpList_valn (v := .bool true) rfl (exec_neInt true rfl (ev rfl) evk H1.out) ?_
  simp only [Act.put, List.setIfInBounds_toArray, List.set_cons_succ, List.set_cons_zero]
  refine wpList_skips 3 (v := .bool true) rfl (exec_mv rfl (ev rfl)) (by kernel_rfl) ?_
  simp only [skipAct, List.take_succ_cons, List.take_zero, List.drop_succ_cons, List.drop_zero, Act.put, List.setIfInBounds_toArray, List.set_cons_succ, List.set_cons_zero]
  refine wpList_valn (v := .bool true) rfl (exec_pt rfl (ev rfl) evk) ?_
  simp only [Act.put, List.setIfInBounds_toArray, List.set_cons_succ, List.set_cons_zero]
  refine wpList_skips 2 (v := .bool true) rfl (exec_mv rfl (ev rfl)) (by kernel_rfl) ?_
  simp only [skipAct, List.take_succ_cons, List.take_zero, List.drop_succ_cons, List.drop_zero, Act.put, List.setIfInBounds_toArray, List.set_cons_succ, List.set_cons_zero]
  refine wpList_valn (v := .bool true) rfl (exec_pt rfl (ev rfl) evk) ?_
  simp only [Act.put, List.setIfInBounds_toArray, List.set_cons_succ, List.set_cons_zero]
  refine wpList_nil ?_
  go_upto_region 4 with fail
  refine wp_region_lit ?_
  refine wpList_valn rfl (exec_bldR0 rfl) ?_
  simp only [Act.put, List.setIfInBounds_toArray, List.set_cons_succ, List.set_cons_zero]
  refine wpList_nuln rfl (exec_putR rfl (ev rfl) (ev rfl) HT3.out.at1) ?_
  simp only [Act.put, List.setIfInBounds_toArray, List.set_cons_succ, List.set_cons_zero]
  have HT4 := Lib.hid (HT3.out.put (zeroR))
  generalize putW w3 (w.heap.size + 1) (zeroR) = w4 at HT4 ⊢
  clear HT3
  refine wpList_valn rfl (exec_as rfl evk) ?_
  simp only [Act.put, List.setIfInBounds_toArray, List.set_cons_succ, List.set_cons_zero]
  refine wpList_nil ?_
  go_wp2_with fail
  exact bodyPost_ret (res_rt rfl _ _ _ rfl HT4.out.at1) rfl ⟨rfl, HT4.out.bel⟩
set_option maxHeartbeats 1000000 in
theorem rbeg_3 {x : Ros} {j n : Nat} (hj : j < 16) (hf : fineB x = true) (hq : hasM x (j : Int) = true) (h1 : (sta x j != 1) = false) (hs : missN x = n) (hn : decide ((1 : Int) < (n : Int)) = true) (w : World) : Calls Try.prog 22 #[ros x, .int .i64 (j : Int)] w fun e w' => e = .returned (.tuple #[ros (zeroR), .int .i64 17]) ∧ Below w.heap.size w w' := by
  have HT1 := Lib.hid (TwoR.new w x)
  have HF := Lib.hid hf
  have HQ := Lib.hid hq
  have H1 := Lib.hid h1
  have HS := Lib.hid hs
  have HN := Lib.hid hn
  clear hf hq h1 hs hn
  go_enter Try.func22, Try.ntmps22
  go_upto_region 1 with (first | (refine wpList_valn rfl (exec_boxR rfl rfl) ?_) | (refine wpList_valn rfl (exec_allocR rfl) ?_) | fail)
  generalize (w.alloc (.cells (celR x).toArray 26)).alloc (.cells (celR zeroR).toArray 26) = w1 at *
  refine wp_region_lit ?_
  refine wpList_valn rfl (exec_ldR rfl (ev rfl) (HT1.out.at0)) ?_
  simp only [Act.put, List.setIfInBounds_toArray, List.set_cons_succ, List.set_cons_zero]
  refine wpList_call rfl (exec_cl Try.call10 rfl (evc (ev rfl) evn)) ?_
  refine (rmay_b w1 HF.out).mono ?_
  rintro e w2 ⟨rfl, hb⟩
  have HT2 := Lib.hid (HT1.out.call hb)
  clear hb HT1
  refine ⟨_, rfl, ?_⟩
  simp only [Act.put, List.setIfInBounds_toArray, List.set_cons_succ, List.set_cons_zero]
  refine wpList_valn (v := .bool false) rfl (exec_not true rfl (ev rfl)) ?_
  simp only [Act.put, List.setIfInBounds_toArray, List.set_cons_succ, List.set_cons_zero]
  refine wpList_valn (v := .bool false) rfl (exec_mv rfl (ev rfl)) ?_
  simp only [Act.put, List.setIfInBounds_toArray, List.set_cons_succ, List.set_cons_zero]
  refine wpList_val (wanted_of rfl rfl rfl rfl) (exec_ldR rfl (ev rfl) (HT2.out.at0)) ?_
  simp only [Act.put, List.setIfInBounds_toArray, List.set_cons_succ, List.set_cons_zero]
  refine wpList_val (wanted_of rfl rfl rfl rfl) (exec_mv rfl (ev rfl)) ?_
  simp only [Act.put, List.setIfInBounds_toArray, List.set_cons_succ, List.set_cons_zero]
  refine wpList_call (wanted_of rfl rfl rfl rfl) (exec_cl Try.call36 rfl (evc (ev rfl) (evc (ev rfl) evn))) ?_
  refine (rmember_b w2 HQ.out).mono ?_
  rintro e w3 ⟨rfl, hb⟩
  have HT3 := Lib.hid (HT2.out.call hb)
  clear hb HT2
  refine ⟨_, rfl, ?_⟩
  simp only [Act.put, List.setIfInBounds_toArray, List.set_cons_succ, List.set_cons_zero]
  refine wpList_val (v := .bool false) (wanted_of rfl rfl rfl rfl) (exec_not true rfl (ev rfl)) ?_
  simp only [Act.put, List.setIfInBounds_toArray, List.set_cons_succ, List.set_cons_zero]
  refine wpList_valn (v := .bool false) rfl (exec_pf rfl (ev rfl) (ev rfl)) ?_
  simp only [Act.put, List.setIfInBounds_toArray, List.set_cons_succ, List.set_cons_zero]
  refine wpList_nil ?_
  go_upto_region 3 with fail
  refine wp_region_lit ?_
  refine wpList_valn rfl (exec_mv rfl (ev rfl)) ?_
  simp only [Act.put, List.setIfInBounds_toArray, List.set_cons_succ, List.set_cons_zero]
  refine wpList_valn rfl (exec_faddr rfl (ev rfl) faR1) ?_
  simp only [Act.put, List.setIfInBounds_toArray, List.set_cons_succ, List.set_cons_zero]
  refine wpList_valn rfl (exec_ix rfl (ev rfl) (ev rfl) (ix16 hj)) ?_
  simp only [Act.put, List.setIfInBounds_toArray, List.set_cons_succ, List.set_cons_zero]
  refine wpList_valn rfl (exec_ld rfl (ev rfl) (ldU8 ((HT3.out.at0).sta hj))) ?_
  simp only [Act.put, List.setIfInBounds_toArray, List.set_cons_succ, List.set_cons_zero]
  refine wpList_valn (v := .bool false) rfl (exec_neInt false rfl (ev rfl) evk H1.out) ?_
  simp only [Act.put, List.setIfInBounds_toArray, List.set_cons_succ, List.set_cons_zero]
  refine wpList_valn (v := .bool false) rfl (exec_mv rfl (ev rfl)) ?_
  simp only [Act.put, List.setIfInBounds_toArray, List.set_cons_succ, List.set_cons_zero]
  refine wpList_val (wanted_of rfl rfl rfl rfl) (exec_ldR rfl (ev rfl) (HT3.out.at0)) ?_
  simp only [Act.put, List.setIfInBounds_toArray, List.set_cons_succ, List.set_cons_zero]
  refine wpList_call (wanted_of rfl rfl rfl rfl) (exec_cl Try.call14 rfl (evc (ev rfl) evn)) ?_
  refine (rmiss_n w3 HS.out).mono ?_
  rintro e w4 ⟨rfl, hb⟩
  have HT4 := Lib.hid (HT3.out.call hb)
  clear hb HT3
  refine ⟨_, rfl, ?_⟩
  simp only [Act.put, List.setIfInBounds_toArray, List.set_cons_succ, List.set_cons_zero]
  refine wpList_val (v := .bool true) (wanted_of rfl rfl rfl rfl) (exec_gtr true rfl (ev rfl) evk HN.out) ?_
  simp only [Act.put, List.setIfInBounds_toArray, List.set_cons_succ, List.set_cons_zero]
  refine wpList_valn (v := .bool true) rfl (exec_pf rfl (ev rfl) (ev rfl)) ?_
  simp only [Act.put, List.setIfInBounds_toArray, List.set_cons_succ, List.set_cons_zero]
  refine wpList_skips 2 (v := .bool true) rfl (exec_mv rfl (ev rfl)) (by kernel_rfl) ?_
  simp only [skipAct, List.take_succ_cons, List.take_zero, List.drop_succ_cons, List.drop_zero, Act.put, List.setIfInBounds_toArray, List.set_cons_succ, List.set_cons_zero]
  refine wpList_valn (v := .bool true) rfl (exec_pt rfl (ev rfl) evk) ?_
  simp only [Act.put, List.setIfInBounds_toArray, List.set_cons_succ, List.set_cons_zero]
  refine wpList_nil ?_
  go_upto_region 4 with fail
  refine wp_region_lit ?_
  refine wpList_valn rfl (exec_bldR0 rfl) ?_
  simp only [Act.put, List.setIfInBounds_toArray, List.set_cons_succ, List.set_cons_zero]
  refine wpList_nuln rfl (exec_putR rfl (ev rfl) (ev rfl) HT4.out.at1) ?_
  simp only [Act.put, List.setIfInBounds_toArray, List.set_cons_succ, List.set_cons_zero]
  have HT5 := Lib.hid (HT4.out.put (zeroR))
  generalize putW w4 (w.heap.size + 1) (zeroR) = w5 at HT5 ⊢
  clear HT4
  refine wpList_valn rfl (exec_as rfl evk) ?_
  simp only [Act.put, List.setIfInBounds_toArray, List.set_cons_succ, List.set_cons_zero]
  refine wpList_nil ?_
  go_wp2_with fail
  exact bodyPost_ret (res_rt rfl _ _ _ rfl HT5.out.at1) rfl ⟨rfl, HT5.out.bel⟩
set_option maxHeartbeats 1000000 in
theorem rbeg_4 {x : Ros} {j n : Nat} (hj : j < 16) (hf : fineB x = true) (hq : hasM x (j : Int) = true) (h1 : (sta x j != 1) = false) (hs : missN x = n) (hn : decide ((1 : Int) < (n : Int)) = false) (ho : x.gone = true) (w : World) : Calls Try.prog 22 #[ros x, .int .i64 (j : Int)] w fun e w' => e = .returned (.tuple #[ros (zeroR), .int .i64 17]) ∧ Below w.heap.size w w' := by
  have HT1 := Lib.hid (TwoR.new w x)
  have HF := Lib.hid hf
  have HQ := Lib.hid hq
  have H1 := Lib.hid h1
  have HS := Lib.hid hs
  have HN := Lib.hid hn
  have HO := Lib.hid ho
  clear hf hq h1 hs hn ho
  go_enter Try.func22, Try.ntmps22
  go_upto_region 1 with (first | (refine wpList_valn rfl (exec_boxR rfl rfl) ?_) | (refine wpList_valn rfl (exec_allocR rfl) ?_) | fail)
  generalize (w.alloc (.cells (celR x).toArray 26)).alloc (.cells (celR zeroR).toArray 26) = w1 at *
  refine wp_region_lit ?_
  refine wpList_valn rfl (exec_ldR rfl (ev rfl) (HT1.out.at0)) ?_
  simp only [Act.put, List.setIfInBounds_toArray, List.set_cons_succ, List.set_cons_zero]
  refine wpList_call rfl (exec_cl Try.call10 rfl (evc (ev rfl) evn)) ?_
  refine (rmay_b w1 HF.out).mono ?_
  rintro e w2 ⟨rfl, hb⟩
  have HT2 := Lib.hid (HT1.out.call hb)
  clear hb HT1
  refine ⟨_, rfl, ?_⟩
  simp only [Act.put, List.setIfInBounds_toArray, List.set_cons_succ, List.set_cons_zero]
  refine wpList_valn (v := .bool false) rfl (exec_not true rfl (ev rfl)) ?_
  simp only [Act.put, List.setIfInBounds_toArray, List.set_cons_succ, List.set_cons_zero]
  refine wpList_valn (v := .bool false) rfl (exec_mv rfl (ev rfl)) ?_
  simp only [Act.put, List.setIfInBounds_toArray, List.set_cons_succ, List.set_cons_zero]
  refine wpList_val (wanted_of rfl rfl rfl rfl) (exec_ldR rfl (ev rfl) (HT2.out.at0)) ?_
  simp only [Act.put, List.setIfInBounds_toArray, List.set_cons_succ, List.set_cons_zero]
  refine wpList_val (wanted_of rfl rfl rfl rfl) (exec_mv rfl (ev rfl)) ?_
  simp only [Act.put, List.setIfInBounds_toArray, List.set_cons_succ, List.set_cons_zero]
  refine wpList_call (wanted_of rfl rfl rfl rfl) (exec_cl Try.call36 rfl (evc (ev rfl) (evc (ev rfl) evn))) ?_
  refine (rmember_b w2 HQ.out).mono ?_
  rintro e w3 ⟨rfl, hb⟩
  have HT3 := Lib.hid (HT2.out.call hb)
  clear hb HT2
  refine ⟨_, rfl, ?_⟩
  simp only [Act.put, List.setIfInBounds_toArray, List.set_cons_succ, List.set_cons_zero]
  refine wpList_val (v := .bool false) (wanted_of rfl rfl rfl rfl) (exec_not true rfl (ev rfl)) ?_
  simp only [Act.put, List.setIfInBounds_toArray, List.set_cons_succ, List.set_cons_zero]
  refine wpList_valn (v := .bool false) rfl (exec_pf rfl (ev rfl) (ev rfl)) ?_
  simp only [Act.put, List.setIfInBounds_toArray, List.set_cons_succ, List.set_cons_zero]
  refine wpList_nil ?_
  go_upto_region 3 with fail
  refine wp_region_lit ?_
  refine wpList_valn rfl (exec_mv rfl (ev rfl)) ?_
  simp only [Act.put, List.setIfInBounds_toArray, List.set_cons_succ, List.set_cons_zero]
  refine wpList_valn rfl (exec_faddr rfl (ev rfl) faR1) ?_
  simp only [Act.put, List.setIfInBounds_toArray, List.set_cons_succ, List.set_cons_zero]
  refine wpList_valn rfl (exec_ix rfl (ev rfl) (ev rfl) (ix16 hj)) ?_
  simp only [Act.put, List.setIfInBounds_toArray, List.set_cons_succ, List.set_cons_zero]
  refine wpList_valn rfl (exec_ld rfl (ev rfl) (ldU8 ((HT3.out.at0).sta hj))) ?_
  simp only [Act.put, List.setIfInBounds_toArray, List.set_cons_succ, List.set_cons_zero]
  refine wpList_valn (v := .bool false) rfl (exec_neInt false rfl (ev rfl) evk H1.out) ?_
  simp only [Act.put, List.setIfInBounds_toArray, List.set_cons_succ, List.set_cons_zero]
  refine wpList_valn (v := .bool false) rfl (exec_mv rfl (ev rfl)) ?_
  simp only [Act.put, List.setIfInBounds_toArray, List.set_cons_succ, List.set_cons_zero]
  refine wpList_val (wanted_of rfl rfl rfl rfl) (exec_ldR rfl (ev rfl) (HT3.out.at0)) ?_
  simp only [Act.put, List.setIfInBounds_toArray, List.set_cons_succ, List.set_cons_zero]
  refine wpList_call (wanted_of rfl rfl rfl rfl) (exec_cl Try.call14 rfl (evc (ev rfl) evn)) ?_
  refine (rmiss_n w3 HS.out).mono ?_
  rintro e w4 ⟨rfl, hb⟩
  have HT4 := Lib.hid (HT3.out.call hb)
  clear hb HT3
  refine ⟨_, rfl, ?_⟩
  simp only [Act.put, List.setIfInBounds_toArray, List.set_cons_succ, List.set_cons_zero]
  refine wpList_val (v := .bool false) (wanted_of rfl rfl rfl rfl) (exec_gtr false rfl (ev rfl) evk HN.out) ?_
  simp only [Act.put, List.setIfInBounds_toArray, List.set_cons_succ, List.set_cons_zero]
  refine wpList_valn (v := .bool false) rfl (exec_pf rfl (ev rfl) (ev rfl)) ?_
  simp only [Act.put, List.setIfInBounds_toArray, List.set_cons_succ, List.set_cons_zero]
  refine wpList_valn (v := .bool false) rfl (exec_mv rfl (ev rfl)) ?_
  simp only [Act.put, List.setIfInBounds_toArray, List.set_cons_succ, List.set_cons_zero]
  refine wpList_val (wanted_of rfl rfl rfl rfl) (exec_faddr rfl (ev rfl) faR3) ?_
  simp only [Act.put, List.setIfInBounds_toArray, List.set_cons_succ, List.set_cons_zero]
  refine wpList_val (v := .bool true) (wanted_of rfl rfl rfl rfl) (exec_ld rfl (ev rfl) (ldBo (HO.out ▸ HT4.out.at0.cells.2.2.2.2))) ?_
  simp only [Act.put, List.setIfInBounds_toArray, List.set_cons_succ, List.set_cons_zero]
  refine wpList_valn (v := .bool true) rfl (exec_pf rfl (ev rfl) (ev rfl)) ?_
  simp only [Act.put, List.setIfInBounds_toArray, List.set_cons_succ, List.set_cons_zero]
  refine wpList_nil ?_
  go_upto_region 4 with fail
  refine wp_region_lit ?_
  refine wpList_valn rfl (exec_bldR0 rfl) ?_
  simp only [Act.put, List.setIfInBounds_toArray, List.set_cons_succ, List.set_cons_zero]
  refine wpList_nuln rfl (exec_putR rfl (ev rfl) (ev rfl) HT4.out.at1) ?_
  simp only [Act.put, List.setIfInBounds_toArray, List.set_cons_succ, List.set_cons_zero]
  have HT5 := Lib.hid (HT4.out.put (zeroR))
  generalize putW w4 (w.heap.size + 1) (zeroR) = w5 at HT5 ⊢
  clear HT4
  refine wpList_valn rfl (exec_as rfl evk) ?_
  simp only [Act.put, List.setIfInBounds_toArray, List.set_cons_succ, List.set_cons_zero]
  refine wpList_nil ?_
  go_wp2_with fail
  exact bodyPost_ret (res_rt rfl _ _ _ rfl HT5.out.at1) rfl ⟨rfl, HT5.out.bel⟩
set_option maxHeartbeats 1000000 in
theorem rbeg_5 {x : Ros} {j n : Nat} (hj : j < 16) (hf : fineB x = true) (hq : hasM x (j : Int) = true) (h1 : (sta x j != 1) = false) (hs : missN x = n) (hn : decide ((1 : Int) < (n : Int)) = false) (ho : x.gone = false) (w : World) : Calls Try.prog 22 #[ros x, .int .i64 (j : Int)] w fun e w' => e = .returned (.tuple #[ros (curS (setS x j 2) 0), .int .i64 0]) ∧ Below w.heap.size w w' := by
  have HT1 := Lib.hid (TwoR.new w x)
  have HF := Lib.hid hf
  have HQ := Lib.hid hq
  have H1 := Lib.hid h1
  have HS := Lib.hid hs
  have HN := Lib.hid hn
  have HO := Lib.hid ho
  clear hf hq h1 hs hn ho
  go_enter Try.func22, Try.ntmps22
  go_upto_region 1 with (first | (refine wpList_valn rfl (exec_boxR rfl rfl) ?_) | (refine wpList_valn rfl (exec_allocR rfl) ?_) | fail)
  generalize (w.alloc (.cells (celR x).toArray 26)).alloc (.cells (celR zeroR).toArray 26) = w1 at *
  refine wp_region_lit ?_
  refine wpList_valn rfl (exec_ldR rfl (ev rfl) (HT1.out.at0)) ?_
  simp only [Act.put, List.setIfInBounds_toArray, List.set_cons_succ, List.set_cons_zero]
  refine wpList_call rfl (exec_cl Try.call10 rfl (evc (ev rfl) evn)) ?_
  refine (rmay_b w1 HF.out).mono ?_
  rintro e w2 ⟨rfl, hb⟩
  have HT2 := Lib.hid (HT1.out.call hb)
  clear hb HT1
  refine ⟨_, rfl, ?_⟩
  simp only [Act.put, List.setIfInBounds_toArray, List.set_cons_succ, List.set_cons_zero]
  refine wpList_valn (v := .bool false) rfl (exec_not true rfl (ev rfl)) ?_
  simp only [Act.put, List.setIfInBounds_toArray, List.set_cons_succ, List.set_cons_zero]
  refine wpList_valn (v := .bool false) rfl (exec_mv rfl (ev rfl)) ?_
  simp only [Act.put, List.setIfInBounds_toArray, List.set_cons_succ, List.set_cons_zero]
  refine wpList_val (wanted_of rfl rfl rfl rfl) (exec_ldR rfl (ev rfl) (HT2.out.at0)) ?_
  simp only [Act.put, List.setIfInBounds_toArray, List.set_cons_succ, List.set_cons_zero]
  refine wpList_val (wanted_of rfl rfl rfl rfl) (exec_mv rfl (ev rfl)) ?_
  simp only [Act.put, List.setIfInBounds_toArray, List.set_cons_succ, List.set_cons_zero]
  refine wpList_call (wanted_of rfl rfl rfl rfl) (exec_cl Try.call36 rfl (evc (ev rfl) (evc (ev rfl) evn))) ?_
  refine (rmember_b w2 HQ.out).mono ?_
  rintro e w3 ⟨rfl, hb⟩
  have HT3 := Lib.hid (HT2.out.call hb)
  clear hb HT2
  refine ⟨_, rfl, ?_⟩
  simp only [Act.put, List.setIfInBounds_toArray, List.set_cons_succ, List.set_cons_zero]
  refine wpList_val (v := .bool false) (wanted_of rfl rfl rfl rfl) (exec_not true rfl (ev rfl)) ?_
  simp only [Act.put, List.setIfInBounds_toArray, List.set_cons_succ, List.set_cons_zero]
  refine wpList_valn (v := .bool false) rfl (exec_pf rfl (ev rfl) (ev rfl)) ?_
  simp only [Act.put, List.setIfInBounds_toArray, List.set_cons_succ, List.set_cons_zero]
  refine wpList_nil ?_
  go_upto_region 3 with fail
  refine wp_region_lit ?_
  refine wpList_valn rfl (exec_mv rfl (ev rfl)) ?_
  simp only [Act.put, List.setIfInBounds_toArray, List.set_cons_succ, List.set_cons_zero]
  refine wpList_valn rfl (exec_faddr rfl (ev rfl) faR1) ?_
  simp only [Act.put, List.setIfInBounds_toArray, List.set_cons_succ, List.set_cons_zero]
  refine wpList_valn rfl (exec_ix rfl (ev rfl) (ev rfl) (ix16 hj)) ?_
  simp only [Act.put, List.setIfInBounds_toArray, List.set_cons_succ, List.set_cons_zero]
  refine wpList_valn rfl (exec_ld rfl (ev rfl) (ldU8 ((HT3.out.at0).sta hj))) ?_
  simp only [Act.put, List.setIfInBounds_toArray, List.set_cons_succ, List.set_cons_zero]
  refine wpList_valn (v := .bool false) rfl (exec_neInt false rfl (ev rfl) evk H1.out) ?_
  simp only [Act.put, List.setIfInBounds_toArray, List.set_cons_succ, List.set_cons_zero]
  refine wpList_valn (v := .bool false) rfl (exec_mv rfl (ev rfl)) ?_
  simp only [Act.put, List.setIfInBounds_toArray, List.set_cons_succ, List.set_cons_zero]
  refine wpList_val (wanted_of rfl rfl rfl rfl) (exec_ldR rfl (ev rfl) (HT3.out.at0)) ?_
  simp only [Act.put, List.setIfInBounds_toArray, List.set_cons_succ, List.set_cons_zero]
  refine wpList_call (wanted_of rfl rfl rfl rfl) (exec_cl Try.call14 rfl (evc (ev rfl) evn)) ?_
  refine (rmiss_n w3 HS.out).mono ?_
  rintro e w4 ⟨rfl, hb⟩
  have HT4 := Lib.hid (HT3.out.call hb)
  clear hb HT3
  refine ⟨_, rfl, ?_⟩
  simp only [Act.put, List.setIfInBounds_toArray, List.set_cons_succ, List.set_cons_zero]
  refine wpList_val (v := .bool false) (wanted_of rfl rfl rfl rfl) (exec_gtr false rfl (ev rfl) evk HN.out) ?_
  simp only [Act.put, List.setIfInBounds_toArray, List.set_cons_succ, List.set_cons_zero]
  refine wpList_valn (v := .bool false) rfl (exec_pf rfl (ev rfl) (ev rfl)) ?_
  simp only [Act.put, List.setIfInBounds_toArray, List.set_cons_succ, List.set_cons_zero]
  refine wpList_valn (v := .bool false) rfl (exec_mv rfl (ev rfl)) ?_
  simp only [Act.put, List.setIfInBounds_toArray, List.set_cons_succ, List.set_cons_zero]
  refine wpList_val (wanted_of rfl rfl rfl rfl) (exec_faddr rfl (ev rfl) faR3) ?_
  simp only [Act.put, List.setIfInBounds_toArray, List.set_cons_succ, List.set_cons_zero]
  refine wpList_val (v := .bool false) (wanted_of rfl rfl rfl rfl) (exec_ld rfl (ev rfl) (ldBo (HO.out ▸ HT4.out.at0.cells.2.2.2.2))) ?_
  simp only [Act.put, List.setIfInBounds_toArray, List.set_cons_succ, List.set_cons_zero]
  refine wpList_valn (v := .bool false) rfl (exec_pf rfl (ev rfl) (ev rfl)) ?_
  simp only [Act.put, List.setIfInBounds_toArray, List.set_cons_succ, List.set_cons_zero]
  refine wpList_nil ?_
  go_upto_region 5 with fail
  refine wp_region_lit ?_
  refine wpList_valn rfl (exec_mv rfl (ev rfl)) ?_
  simp only [Act.put, List.setIfInBounds_toArray, List.set_cons_succ, List.set_cons_zero]
  refine wpList_valn rfl (exec_faddr rfl (ev rfl) faR1) ?_
  simp only [Act.put, List.setIfInBounds_toArray, List.set_cons_succ, List.set_cons_zero]
  refine wpList_valn rfl (exec_ix rfl (ev rfl) (ev rfl) (ix16 hj)) ?_
  simp only [Act.put, List.setIfInBounds_toArray, List.set_cons_succ, List.set_cons_zero]
  refine wpList_nuln rfl (exec_stS rfl (ev rfl) evk (HT4.out.at0.there (by omega))) ?_
  simp only [Act.put, List.setIfInBounds_toArray, List.set_cons_succ, List.set_cons_zero]
  have HT5 := Lib.hid (HT4.out.set (celR_set2 _ hj))
  generalize setW w4 w.heap.size (3 + j) (.int .u8 2) = w5 at HT5 ⊢
  clear HT4
  refine wpList_nil ?_
  go_upto_region 6 with fail
  refine wp_region_lit ?_
  refine wpList_valn rfl (exec_faddr rfl (ev rfl) faR2) ?_
  simp only [Act.put, List.setIfInBounds_toArray, List.set_cons_succ, List.set_cons_zero]
  refine wpList_nuln rfl (exec_stI rfl (ev rfl) evk (HT5.out.at0.there (by omega))) ?_
  simp only [Act.put, List.setIfInBounds_toArray, List.set_cons_succ, List.set_cons_zero]
  have HT6 := Lib.hid (HT5.out.set (celR_cur _ (0)))
  generalize setW w5 w.heap.size (19) (.int .i64 (0)) = w6 at HT6 ⊢
  clear HT5
  refine wpList_nil ?_
  go_upto_region 7 with fail
  refine wp_region_lit ?_
  refine wpList_valn rfl (exec_ldR rfl (ev rfl) (HT6.out.at0)) ?_
  simp only [Act.put, List.setIfInBounds_toArray, List.set_cons_succ, List.set_cons_zero]
  refine wpList_nuln rfl (exec_putR rfl (ev rfl) (ev rfl) HT6.out.at1) ?_
  simp only [Act.put, List.setIfInBounds_toArray, List.set_cons_succ, List.set_cons_zero]
  have HT7 := Lib.hid (HT6.out.put (curS (setS x j 2) 0))
  generalize putW w6 (w.heap.size + 1) (curS (setS x j 2) 0) = w7 at HT7 ⊢
  clear HT6
  refine wpList_valn rfl (exec_as rfl evk) ?_
  simp only [Act.put, List.setIfInBounds_toArray, List.set_cons_succ, List.set_cons_zero]
  refine wpList_nil ?_
  go_wp2_with fail
  exact bodyPost_ret (res_rt rfl _ _ _ rfl HT7.out.at1) rfl ⟨rfl, HT7.out.bel⟩
theorem rbeg (x : Ros) (m : Int) (w : World) : Calls Try.prog 22 #[ros x, .int .i64 m] w fun e w' => e = .returned (.tuple #[ros (begX x m), .int .i64 (begE x m : Nat)]) ∧ Below w.heap.size w w' := by
  unfold begX
  cases hf : fineB x
  · rw [show begE x m = 2 from by unfold begE; rw [hf]; rfl]; exact rbeg_0 hf w
  cases hq : hasM x m
  · rw [show begE x m = 2 from by unfold begE; rw [hf, hq]; rfl]; exact rbeg_1 hf hq w
  have hm := of_hasM hq
  have hg := of_geoB (of_fineB hf).1
  obtain ⟨j, rfl⟩ := Int.eq_ofNat_of_zero_le hm.1
  have hj : j < 16 := by omega
  have hs : missN x = outs x := by unfold missN; rw [if_pos hf]
  have e : begE x (j : Int) = if sta x j = 1 ∧ outs x = 1 ∧ x.gone = false then 0 else 17 := by unfold begE; rw [if_pos ⟨hf, hq⟩]; rfl
  by_cases h1 : sta x j = 1
  · have hp : 1 ≤ outs x := outK_pos (j := j) (by rw [show bt x.st.toList j = 1 from h1]; omega) hj
    have h1' : (sta x j != 1) = false := by rw [h1]; rfl
    by_cases ho : outs x = 1
    · cases hgo : x.gone
      · rw [e.trans (if_pos ⟨h1, ho, hgo⟩), if_pos rfl]
        have := rbeg_5 hj hf hq h1' hs (by rw [ho]; rfl) hgo w
        rwa [beg_same hf hj h1 ho] at this
      · rw [e.trans (if_neg (fun h => by rw [hgo] at h; cases h.2.2))]
        exact rbeg_4 hj hf hq h1' hs (by rw [ho]; rfl) hgo w
    · rw [e.trans (if_neg (fun h => ho h.2.1))]
      exact rbeg_3 hj hf hq h1' hs (by simp; omega) w
  · rw [e.trans (if_neg (fun h => h1 h.1))]
    exact rbeg_2 hj hf hq (by simpa using h1) w
set_option maxHeartbeats 1000000 in
theorem pnext_0 {x : Ros} (hf : fineB x = false) (w : World) : Calls Try.prog 23 #[ros x] w fun e w' => e = .returned (.tuple #[ros (zeroR), .int .i64 2]) ∧ Below w.heap.size w w' := by
  have HT1 := Lib.hid (TwoR.new w x)
  have HF := Lib.hid hf
  clear hf
  go_enter Try.func23, Try.ntmps23
  go_upto_region 1 with (first | (refine wpList_valn rfl (exec_boxR rfl rfl) ?_) | (refine wpList_valn rfl (exec_allocR rfl) ?_) | fail)
  generalize (w.alloc (.cells (celR x).toArray 26)).alloc (.cells (celR zeroR).toArray 26) = w1 at *
  refine wp_region_lit ?_
  refine wpList_valn rfl (exec_ldR rfl (ev rfl) (HT1.out.at0)) ?_
  simp only [Act.put, List.setIfInBounds_toArray, List.set_cons_succ, List.set_cons_zero]
  refine wpList_call rfl (exec_cl Try.call9 rfl (evc (ev rfl) evn)) ?_
  refine (pmay_b w1 HF.out).mono ?_
  rintro e w2 ⟨rfl, hb⟩
  have HT2 := Lib.hid (HT1.out.call hb)
  clear hb HT1
  refine ⟨_, rfl, ?_⟩
  simp only [Act.put, List.setIfInBounds_toArray, List.set_cons_succ, List.set_cons_zero]
  refine wpList_valn (v := .bool true) rfl (exec_not false rfl (ev rfl)) ?_
  simp only [Act.put, List.setIfInBounds_toArray, List.set_cons_succ, List.set_cons_zero]
  refine wpList_nil ?_
  go_upto_region 2 with fail
  refine wp_region_lit ?_
  refine wpList_valn rfl (exec_bldR0 rfl) ?_
  simp only [Act.put, List.setIfInBounds_toArray, List.set_cons_succ, List.set_cons_zero]
  refine wpList_nuln rfl (exec_putR rfl (ev rfl) (ev rfl) HT2.out.at1) ?_
  simp only [Act.put, List.setIfInBounds_toArray, List.set_cons_succ, List.set_cons_zero]
  have HT3 := Lib.hid (HT2.out.put (zeroR))
  generalize putW w2 (w.heap.size + 1) (zeroR) = w3 at HT3 ⊢
  clear HT2
  refine wpList_valn rfl (exec_as rfl evk) ?_
  simp only [Act.put, List.setIfInBounds_toArray, List.set_cons_succ, List.set_cons_zero]
  refine wpList_nil ?_
  go_wp2_with fail
  exact bodyPost_ret (res_rt rfl _ _ _ rfl HT3.out.at1) rfl ⟨rfl, HT3.out.bel⟩
set_option maxHeartbeats 1000000 in
theorem pnext_1 {x : Ros} {k : Nat} (hf : fineB x = true) (hm : heaM x = k) (hb : heaB x = false) (w : World) : Calls Try.prog 23 #[ros x] w fun e w' => e = .returned (.tuple #[ros (zeroR), .int .i64 17]) ∧ Below w.heap.size w w' := by
  have HT1 := Lib.hid (TwoR.new w x)
  have HF := Lib.hid hf
  have HM := Lib.hid hm
  have HB := Lib.hid hb
  clear hf hm hb
  go_enter Try.func23, Try.ntmps23
  go_upto_region 1 with (first | (refine wpList_valn rfl (exec_boxR rfl rfl) ?_) | (refine wpList_valn rfl (exec_allocR rfl) ?_) | fail)
  generalize (w.alloc (.cells (celR x).toArray 26)).alloc (.cells (celR zeroR).toArray 26) = w1 at *
  refine wp_region_lit ?_
  refine wpList_valn rfl (exec_ldR rfl (ev rfl) (HT1.out.at0)) ?_
  simp only [Act.put, List.setIfInBounds_toArray, List.set_cons_succ, List.set_cons_zero]
  refine wpList_call rfl (exec_cl Try.call9 rfl (evc (ev rfl) evn)) ?_
  refine (pmay_b w1 HF.out).mono ?_
  rintro e w2 ⟨rfl, hb⟩
  have HT2 := Lib.hid (HT1.out.call hb)
  clear hb HT1
  refine ⟨_, rfl, ?_⟩
  simp only [Act.put, List.setIfInBounds_toArray, List.set_cons_succ, List.set_cons_zero]
  refine wpList_valn (v := .bool false) rfl (exec_not true rfl (ev rfl)) ?_
  simp only [Act.put, List.setIfInBounds_toArray, List.set_cons_succ, List.set_cons_zero]
  refine wpList_nil ?_
  go_upto_region 3 with fail
  refine wp_region_lit ?_
  refine wpList_valn rfl (exec_ldR rfl (ev rfl) (HT2.out.at0)) ?_
  simp only [Act.put, List.setIfInBounds_toArray, List.set_cons_succ, List.set_cons_zero]
  refine wpList_call rfl (exec_cl Try.call17 rfl (evc (ev rfl) evn)) ?_
  refine (pheals_b w2 HM.out HB.out).mono ?_
  rintro e w3 ⟨rfl, hb⟩
  have HT3 := Lib.hid (HT2.out.call hb)
  clear hb HT2
  refine ⟨_, rfl, ?_⟩
  simp only [Act.put, List.setIfInBounds_toArray, List.set_cons_succ, List.set_cons_zero]
  refine wpList_valn rfl (exec_mv rfl (ev rfl)) ?_
  simp only [Act.put, List.setIfInBounds_toArray, List.set_cons_succ, List.set_cons_zero]
  refine wpList_valn rfl (exec_ext rfl (ev rfl) rfl) ?_
  simp only [Act.put, List.setIfInBounds_toArray, List.set_cons_succ, List.set_cons_zero]
  refine wpList_valn (v := .bool false) rfl (exec_ext rfl (ev rfl) rfl) ?_
  simp only [Act.put, List.setIfInBounds_toArray, List.set_cons_succ, List.set_cons_zero]
  refine wpList_valn rfl (exec_as rfl (ev rfl)) ?_
  simp only [Act.put, List.setIfInBounds_toArray, List.set_cons_succ, List.set_cons_zero]
  refine wpList_valn (v := .bool false) rfl (exec_as rfl (ev rfl)) ?_
  simp only [Act.put, List.setIfInBounds_toArray, List.set_cons_succ, List.set_cons_zero]
  refine wpList_nil ?_
  go_upto_region 4 with fail
  refine wp_region_lit ?_
  refine wpList_valn (v := .bool false) rfl (exec_mv rfl (ev rfl)) ?_
  simp only [Act.put, List.setIfInBounds_toArray, List.set_cons_succ, List.set_cons_zero]
  refine wpList_valn (v := .bool true) rfl (exec_not false rfl (ev rfl)) ?_
  simp only [Act.put, List.setIfInBounds_toArray, List.set_cons_succ, List.set_cons_zero]
  refine wpList_nil ?_
  go_upto_region 5 with fail
  refine wp_region_lit ?_
  refine wpList_valn rfl (exec_bldR0 rfl) ?_
  simp only [Act.put, List.setIfInBounds_toArray, List.set_cons_succ, List.set_cons_zero]
  refine wpList_nuln rfl (exec_putR rfl (ev rfl) (ev rfl) HT3.out.at1) ?_
  simp only [Act.put, List.setIfInBounds_toArray, List.set_cons_succ, List.set_cons_zero]
  have HT4 := Lib.hid (HT3.out.put (zeroR))
  generalize putW w3 (w.heap.size + 1) (zeroR) = w4 at HT4 ⊢
  clear HT3
  refine wpList_valn rfl (exec_as rfl evk) ?_
  simp only [Act.put, List.setIfInBounds_toArray, List.set_cons_succ, List.set_cons_zero]
  refine wpList_nil ?_
  go_wp2_with fail
  exact bodyPost_ret (res_rt rfl _ _ _ rfl HT4.out.at1) rfl ⟨rfl, HT4.out.bel⟩
set_option maxHeartbeats 1000000 in
theorem pnext_2 {x : Ros} {j : Nat} {d : Int} (hj : j < 16) (hf : fineB x = true) (hm : heaM x = j) (hb : heaB x = true) (hw : IntKind.i64.wrap (x.cur + 1) = d) (he : (d == x.s) = true) (w : World) : Calls Try.prog 23 #[ros x] w fun e w' => e = .returned (.tuple #[ros (curS (setS (curS x d) j 0) 0), .int .i64 0]) ∧ Below w.heap.size w w' := by
  have HT1 := Lib.hid (TwoR.new w x)
  have HF := Lib.hid hf
  have HM := Lib.hid hm
  have HB := Lib.hid hb
  have HW := Lib.hid hw
  have HE := Lib.hid he
  clear hf hm hb hw he
  go_enter Try.func23, Try.ntmps23
  go_upto_region 1 with (first | (refine wpList_valn rfl (exec_boxR rfl rfl) ?_) | (refine wpList_valn rfl (exec_allocR rfl) ?_) | fail)
  generalize (w.alloc (.cells (celR x).toArray 26)).alloc (.cells (celR zeroR).toArray 26) = w1 at *
  refine wp_region_lit ?_
  refine wpList_valn rfl (exec_ldR rfl (ev rfl) (HT1.out.at0)) ?_
  simp only [Act.put, List.setIfInBounds_toArray, List.set_cons_succ, List.set_cons_zero]
  refine wpList_call rfl (exec_cl Try.call9 rfl (evc (ev rfl) evn)) ?_
  refine (pmay_b w1 HF.out).mono ?_
  rintro e w2 ⟨rfl, hb⟩
  have HT2 := Lib.hid (HT1.out.call hb)
  clear hb HT1
  refine ⟨_, rfl, ?_⟩
  simp only [Act.put, List.setIfInBounds_toArray, List.set_cons_succ, List.set_cons_zero]
  refine wpList_valn (v := .bool false) rfl (exec_not true rfl (ev rfl)) ?_
  simp only [Act.put, List.setIfInBounds_toArray, List.set_cons_succ, List.set_cons_zero]
  refine wpList_nil ?_
  go_upto_region 3 with fail
  refine wp_region_lit ?_
  refine wpList_valn rfl (exec_ldR rfl (ev rfl) (HT2.out.at0)) ?_
  simp only [Act.put, List.setIfInBounds_toArray, List.set_cons_succ, List.set_cons_zero]
  refine wpList_call rfl (exec_cl Try.call17 rfl (evc (ev rfl) evn)) ?_
  refine (pheals_b w2 HM.out HB.out).mono ?_
  rintro e w3 ⟨rfl, hb⟩
  have HT3 := Lib.hid (HT2.out.call hb)
  clear hb HT2
  refine ⟨_, rfl, ?_⟩
  simp only [Act.put, List.setIfInBounds_toArray, List.set_cons_succ, List.set_cons_zero]
  refine wpList_valn rfl (exec_mv rfl (ev rfl)) ?_
  simp only [Act.put, List.setIfInBounds_toArray, List.set_cons_succ, List.set_cons_zero]
  refine wpList_valn rfl (exec_ext rfl (ev rfl) rfl) ?_
  simp only [Act.put, List.setIfInBounds_toArray, List.set_cons_succ, List.set_cons_zero]
  refine wpList_valn (v := .bool true) rfl (exec_ext rfl (ev rfl) rfl) ?_
  simp only [Act.put, List.setIfInBounds_toArray, List.set_cons_succ, List.set_cons_zero]
  refine wpList_valn rfl (exec_as rfl (ev rfl)) ?_
  simp only [Act.put, List.setIfInBounds_toArray, List.set_cons_succ, List.set_cons_zero]
  refine wpList_valn (v := .bool true) rfl (exec_as rfl (ev rfl)) ?_
  simp only [Act.put, List.setIfInBounds_toArray, List.set_cons_succ, List.set_cons_zero]
  refine wpList_nil ?_
  go_upto_region 4 with fail
  refine wp_region_lit ?_
  refine wpList_valn (v := .bool true) rfl (exec_mv rfl (ev rfl)) ?_
  simp only [Act.put, List.setIfInBounds_toArray, List.set_cons_succ, List.set_cons_zero]
  refine wpList_valn (v := .bool false) rfl (exec_not true rfl (ev rfl)) ?_
  simp only [Act.put, List.setIfInBounds_toArray, List.set_cons_succ, List.set_cons_zero]
  refine wpList_nil ?_
  go_upto_region 6 with fail
  refine wp_region_lit ?_
  refine wpList_valn rfl (exec_faddr rfl (ev rfl) faR2) ?_
  simp only [Act.put, List.setIfInBounds_toArray, List.set_cons_succ, List.set_cons_zero]
  refine wpList_valn rfl (exec_ld rfl (ev rfl) (ldInt (HT3.out.at0).cells.2.2.2.1)) ?_
  simp only [Act.put, List.setIfInBounds_toArray, List.set_cons_succ, List.set_cons_zero]
  refine wpList_valn rfl (exec_add rfl (ev rfl) evk HW.out) ?_
  simp only [Act.put, List.setIfInBounds_toArray, List.set_cons_succ, List.set_cons_zero]
  refine wpList_valn rfl (exec_faddr rfl (ev rfl) faR2) ?_
  simp only [Act.put, List.setIfInBounds_toArray, List.set_cons_succ, List.set_cons_zero]
  refine wpList_nuln rfl (exec_stI rfl (ev rfl) (ev rfl) (HT3.out.at0.there (by omega))) ?_
  simp only [Act.put, List.setIfInBounds_toArray, List.set_cons_succ, List.set_cons_zero]
  have HT4 := Lib.hid (HT3.out.set (celR_cur _ (d)))
  generalize setW w3 w.heap.size (19) (.int .i64 (d)) = w4 at HT4 ⊢
  clear HT3
  refine wpList_nil ?_
  go_upto_region 7 with fail
  refine wp_region_lit ?_
  refine wpList_valn rfl (exec_faddr rfl (ev rfl) faR2) ?_
  simp only [Act.put, List.setIfInBounds_toArray, List.set_cons_succ, List.set_cons_zero]
  refine wpList_valn rfl (exec_ld rfl (ev rfl) (ldInt (HT4.out.at0).cells.2.2.2.1)) ?_
  simp only [Act.put, List.setIfInBounds_toArray, List.set_cons_succ, List.set_cons_zero]
  refine wpList_valn rfl (exec_faddr rfl (ev rfl) faR0) ?_
  simp only [Act.put, List.setIfInBounds_toArray, List.set_cons_succ, List.set_cons_zero]
  refine wpList_valn rfl (exec_faddr rfl (ev rfl) faG1) ?_
  simp only [Act.put, List.setIfInBounds_toArray, List.set_cons_succ, List.set_cons_zero]
  refine wpList_valn rfl (exec_ld rfl (ev rfl) (ldInt (HT4.out.at0).cells.2.1)) ?_
  simp only [Act.put, List.setIfInBounds_toArray, List.set_cons_succ, List.set_cons_zero]
  refine wpList_valn (v := .bool true) rfl (exec_eqInt true rfl (ev rfl) (ev rfl) HE.out) ?_
  simp only [Act.put, List.setIfInBounds_toArray, List.set_cons_succ, List.set_cons_zero]
  refine wpList_nil ?_
  go_upto_region 8 with fail
  refine wp_region_lit ?_
  refine wpList_valn rfl (exec_mv rfl (ev rfl)) ?_
  simp only [Act.put, List.setIfInBounds_toArray, List.set_cons_succ, List.set_cons_zero]
  refine wpList_valn rfl (exec_faddr rfl (ev rfl) faR1) ?_
  simp only [Act.put, List.setIfInBounds_toArray, List.set_cons_succ, List.set_cons_zero]
  refine wpList_valn rfl (exec_ix rfl (ev rfl) (ev rfl) (ix16 hj)) ?_
  simp only [Act.put, List.setIfInBounds_toArray, List.set_cons_succ, List.set_cons_zero]
  refine wpList_nuln rfl (exec_stS rfl (ev rfl) evk (HT4.out.at0.there (by omega))) ?_
  simp only [Act.put, List.setIfInBounds_toArray, List.set_cons_succ, List.set_cons_zero]
  have HT5 := Lib.hid (HT4.out.set (celR_set0 _ hj))
  generalize setW w4 w.heap.size (3 + j) (.int .u8 0) = w5 at HT5 ⊢
  clear HT4
  refine wpList_nil ?_
  go_upto_region 9 with fail
  refine wp_region_lit ?_
  refine wpList_valn rfl (exec_faddr rfl (ev rfl) faR2) ?_
  simp only [Act.put, List.setIfInBounds_toArray, List.set_cons_succ, List.set_cons_zero]
  refine wpList_nuln rfl (exec_stI rfl (ev rfl) evk (HT5.out.at0.there (by omega))) ?_
  simp only [Act.put, List.setIfInBounds_toArray, List.set_cons_succ, List.set_cons_zero]
  have HT6 := Lib.hid (HT5.out.set (celR_cur _ (0)))
  generalize setW w5 w.heap.size (19) (.int .i64 (0)) = w6 at HT6 ⊢
  clear HT5
  refine wpList_nil ?_
  go_upto_region 10 with fail
  refine wp_region_lit ?_
  refine wpList_valn rfl (exec_ldR rfl (ev rfl) (HT6.out.at0)) ?_
  simp only [Act.put, List.setIfInBounds_toArray, List.set_cons_succ, List.set_cons_zero]
  refine wpList_nuln rfl (exec_putR rfl (ev rfl) (ev rfl) HT6.out.at1) ?_
  simp only [Act.put, List.setIfInBounds_toArray, List.set_cons_succ, List.set_cons_zero]
  have HT7 := Lib.hid (HT6.out.put (curS (setS (curS x d) j 0) 0))
  generalize putW w6 (w.heap.size + 1) (curS (setS (curS x d) j 0) 0) = w7 at HT7 ⊢
  clear HT6
  refine wpList_valn rfl (exec_as rfl evk) ?_
  simp only [Act.put, List.setIfInBounds_toArray, List.set_cons_succ, List.set_cons_zero]
  refine wpList_nil ?_
  go_wp2_with fail
  exact bodyPost_ret (res_rt rfl _ _ _ rfl HT7.out.at1) rfl ⟨rfl, HT7.out.bel⟩
set_option maxHeartbeats 1000000 in
theorem pnext_3 {x : Ros} {j : Nat} {d : Int} (hj : j < 16) (hf : fineB x = true) (hm : heaM x = j) (hb : heaB x = true) (hw : IntKind.i64.wrap (x.cur + 1) = d) (he : (d == x.s) = false) (w : World) : Calls Try.prog 23 #[ros x] w fun e w' => e = .returned (.tuple #[ros (curS x d), .int .i64 0]) ∧ Below w.heap.size w w' := by
  have HT1 := Lib.hid (TwoR.new w x)
  have HF := Lib.hid hf
  have HM := Lib.hid hm
  have HB := Lib.hid hb
  have HW := Lib.hid hw
  have HE := Lib.hid he
  clear hf hm hb hw he
  go_enter Try.func23, Try.ntmps23
  go_upto_region 1 with (first | (refine wpList_valn rfl (exec_boxR rfl rfl) ?_) | (refine wpList_valn rfl (exec_allocR rfl) ?_) | fail)
  generalize (w.alloc (.cells (celR x).toArray 26)).alloc (.cells (celR zeroR).toArray 26) = w1 at *
  refine wp_region_lit ?_
  refine wpList_valn rfl (exec_ldR rfl (ev rfl) (HT1.out.at0)) ?_
  simp only [Act.put, List.setIfInBounds_toArray, List.set_cons_succ, List.set_cons_zero]
  refine wpList_call rfl (exec_cl Try.call9 rfl (evc (ev rfl) evn)) ?_
  refine (pmay_b w1 HF.out).mono ?_
  rintro e w2 ⟨rfl, hb⟩
  have HT2 := Lib.hid (HT1.out.call hb)
  clear hb HT1
  refine ⟨_, rfl, ?_⟩
  simp only [Act.put, List.setIfInBounds_toArray, List.set_cons_succ, List.set_cons_zero]
  refine wpList_valn (v := .bool false) rfl (exec_not true rfl (ev rfl)) ?_
  simp only [Act.put, List.setIfInBounds_toArray, List.set_cons_succ, List.set_cons_zero]
  refine wpList_nil ?_
  go_upto_region 3 with fail
  refine wp_region_lit ?_
  refine wpList_valn rfl (exec_ldR rfl (ev rfl) (HT2.out.at0)) ?_
  simp only [Act.put, List.setIfInBounds_toArray, List.set_cons_succ, List.set_cons_zero]
  refine wpList_call rfl (exec_cl Try.call17 rfl (evc (ev rfl) evn)) ?_
  refine (pheals_b w2 HM.out HB.out).mono ?_
  rintro e w3 ⟨rfl, hb⟩
  have HT3 := Lib.hid (HT2.out.call hb)
  clear hb HT2
  refine ⟨_, rfl, ?_⟩
  simp only [Act.put, List.setIfInBounds_toArray, List.set_cons_succ, List.set_cons_zero]
  refine wpList_valn rfl (exec_mv rfl (ev rfl)) ?_
  simp only [Act.put, List.setIfInBounds_toArray, List.set_cons_succ, List.set_cons_zero]
  refine wpList_valn rfl (exec_ext rfl (ev rfl) rfl) ?_
  simp only [Act.put, List.setIfInBounds_toArray, List.set_cons_succ, List.set_cons_zero]
  refine wpList_valn (v := .bool true) rfl (exec_ext rfl (ev rfl) rfl) ?_
  simp only [Act.put, List.setIfInBounds_toArray, List.set_cons_succ, List.set_cons_zero]
  refine wpList_valn rfl (exec_as rfl (ev rfl)) ?_
  simp only [Act.put, List.setIfInBounds_toArray, List.set_cons_succ, List.set_cons_zero]
  refine wpList_valn (v := .bool true) rfl (exec_as rfl (ev rfl)) ?_
  simp only [Act.put, List.setIfInBounds_toArray, List.set_cons_succ, List.set_cons_zero]
  refine wpList_nil ?_
  go_upto_region 4 with fail
  refine wp_region_lit ?_
  refine wpList_valn (v := .bool true) rfl (exec_mv rfl (ev rfl)) ?_
  simp only [Act.put, List.setIfInBounds_toArray, List.set_cons_succ, List.set_cons_zero]
  refine wpList_valn (v := .bool false) rfl (exec_not true rfl (ev rfl)) ?_
  simp only [Act.put, List.setIfInBounds_toArray, List.set_cons_succ, List.set_cons_zero]
  refine wpList_nil ?_
  go_upto_region 6 with fail
  refine wp_region_lit ?_
  refine wpList_valn rfl (exec_faddr rfl (ev rfl) faR2) ?_
  simp only [Act.put, List.setIfInBounds_toArray, List.set_cons_succ, List.set_cons_zero]
  refine wpList_valn rfl (exec_ld rfl (ev rfl) (ldInt (HT3.out.at0).cells.2.2.2.1)) ?_
  simp only [Act.put, List.setIfInBounds_toArray, List.set_cons_succ, List.set_cons_zero]
  refine wpList_valn rfl (exec_add rfl (ev rfl) evk HW.out) ?_
  simp only [Act.put, List.setIfInBounds_toArray, List.set_cons_succ, List.set_cons_zero]
  refine wpList_valn rfl (exec_faddr rfl (ev rfl) faR2) ?_
  simp only [Act.put, List.setIfInBounds_toArray, List.set_cons_succ, List.set_cons_zero]
  refine wpList_nuln rfl (exec_stI rfl (ev rfl) (ev rfl) (HT3.out.at0.there (by omega))) ?_
  simp only [Act.put, List.setIfInBounds_toArray, List.set_cons_succ, List.set_cons_zero]
  have HT4 := Lib.hid (HT3.out.set (celR_cur _ (d)))
  generalize setW w3 w.heap.size (19) (.int .i64 (d)) = w4 at HT4 ⊢
  clear HT3
  refine wpList_nil ?_
  go_upto_region 7 with fail
  refine wp_region_lit ?_
  refine wpList_valn rfl (exec_faddr rfl (ev rfl) faR2) ?_
  simp only [Act.put, List.setIfInBounds_toArray, List.set_cons_succ, List.set_cons_zero]
  refine wpList_valn rfl (exec_ld rfl (ev rfl) (ldInt (HT4.out.at0).cells.2.2.2.1)) ?_
  simp only [Act.put, List.setIfInBounds_toArray, List.set_cons_succ, List.set_cons_zero]
  refine wpList_valn rfl (exec_faddr rfl (ev rfl) faR0) ?_
  simp only [Act.put, List.setIfInBounds_toArray, List.set_cons_succ, List.set_cons_zero]
  refine wpList_valn rfl (exec_faddr rfl (ev rfl) faG1) ?_
  simp only [Act.put, List.setIfInBounds_toArray, List.set_cons_succ, List.set_cons_zero]
  refine wpList_valn rfl (exec_ld rfl (ev rfl) (ldInt (HT4.out.at0).cells.2.1)) ?_
  simp only [Act.put, List.setIfInBounds_toArray, List.set_cons_succ, List.set_cons_zero]
  refine wpList_valn (v := .bool false) rfl (exec_eqInt false rfl (ev rfl) (ev rfl) HE.out) ?_
  simp only [Act.put, List.setIfInBounds_toArray, List.set_cons_succ, List.set_cons_zero]
  refine wpList_nil ?_
  go_upto_region 10 with fail
  refine wp_region_lit ?_
  refine wpList_valn rfl (exec_ldR rfl (ev rfl) (HT4.out.at0)) ?_
  simp only [Act.put, List.setIfInBounds_toArray, List.set_cons_succ, List.set_cons_zero]
  refine wpList_nuln rfl (exec_putR rfl (ev rfl) (ev rfl) HT4.out.at1) ?_
  simp only [Act.put, List.setIfInBounds_toArray, List.set_cons_succ, List.set_cons_zero]
  have HT5 := Lib.hid (HT4.out.put (curS x d))
  generalize putW w4 (w.heap.size + 1) (curS x d) = w5 at HT5 ⊢
  clear HT4
  refine wpList_valn rfl (exec_as rfl evk) ?_
  simp only [Act.put, List.setIfInBounds_toArray, List.set_cons_succ, List.set_cons_zero]
  refine wpList_nil ?_
  go_wp2_with fail
  exact bodyPost_ret (res_rt rfl _ _ _ rfl HT5.out.at1) rfl ⟨rfl, HT5.out.bel⟩
theorem pnext (x : Ros) (w : World) : Calls Try.prog 23 #[ros x] w fun e w' => e = .returned (.tuple #[ros (nexX x), .int .i64 (nexE x : Nat)]) ∧ Below w.heap.size w w' := by
  unfold nexX
  cases hf : fineB x
  · rw [show nexE x = 2 from by unfold nexE; rw [hf]; rfl]; exact pnext_0 hf w
  have e : nexE x = if healJ x = none then 17 else 0 := by unfold nexE; rw [hf]; rfl
  have eb : heaB x = (healJ x).isSome := by unfold heaB; rw [hf]; rfl
  have em : heaM x = (healJ x).getD 0 := by unfold heaM; rw [hf]; rfl
  cases hj : healJ x with
  | none =>
    rw [hj] at eb
    rw [e.trans (if_pos hj)]
    exact pnext_1 hf rfl eb w
  | some j =>
    rw [hj] at eb em
    have h16 := (healJ_some hj).1
    obtain ⟨hgg, _, _, c0, c1, _⟩ := of_fineB hf
    have hg := of_geoB hgg
    have hw : IntKind.i64.wrap (x.cur + 1) = x.cur + 1 := IntWalk.i64_in _ (by omega)
    rw [e.trans (if_neg (fun h => by rw [hj] at h; cases h)), if_pos rfl, show heaM x = j from em]
    by_cases he : x.cur + 1 = x.s
    · rw [if_pos he]
      exact pnext_2 h16 hf em eb hw (by simpa using he) w
    · rw [if_neg he]
      exact pnext_3 h16 hf em eb hw (by simpa using he) w
set_option maxHeartbeats 1000000 in
theorem rnext_0 {x : Ros} (hf : fineB x = false) (w : World) : Calls Try.prog 24 #[ros x] w fun e w' => e = .returned (.tuple #[ros (zeroR), .int .i64 2]) ∧ Below w.heap.size w w' := by
  have HT1 := Lib.hid (TwoR.new w x)
  have HF := Lib.hid hf
  clear hf
  go_enter Try.func24, Try.ntmps24
  go_upto_region 1 with (first | (refine wpList_valn rfl (exec_boxR rfl rfl) ?_) | (refine wpList_valn rfl (exec_allocR rfl) ?_) | fail)
  generalize (w.alloc (.cells (celR x).toArray 26)).alloc (.cells (celR zeroR).toArray 26) = w1 at *
  refine wp_region_lit ?_
  refine wpList_valn rfl (exec_ldR rfl (ev rfl) (HT1.out.at0)) ?_
  simp only [Act.put, List.setIfInBounds_toArray, List.set_cons_succ, List.set_cons_zero]
  refine wpList_call rfl (exec_cl Try.call10 rfl (evc (ev rfl) evn)) ?_
  refine (rmay_b w1 HF.out).mono ?_
  rintro e w2 ⟨rfl, hb⟩
  have HT2 := Lib.hid (HT1.out.call hb)
  clear hb HT1
  refine ⟨_, rfl, ?_⟩
  simp only [Act.put, List.setIfInBounds_toArray, List.set_cons_succ, List.set_cons_zero]
  refine wpList_valn (v := .bool true) rfl (exec_not false rfl (ev rfl)) ?_
  simp only [Act.put, List.setIfInBounds_toArray, List.set_cons_succ, List.set_cons_zero]
  refine wpList_nil ?_
  go_upto_region 2 with fail
  refine wp_region_lit ?_
  refine wpList_valn rfl (exec_bldR0 rfl) ?_
  simp only [Act.put, List.setIfInBounds_toArray, List.set_cons_succ, List.set_cons_zero]
  refine wpList_nuln rfl (exec_putR rfl (ev rfl) (ev rfl) HT2.out.at1) ?_
  simp only [Act.put, List.setIfInBounds_toArray, List.set_cons_succ, List.set_cons_zero]
  have HT3 := Lib.hid (HT2.out.put (zeroR))
  generalize putW w2 (w.heap.size + 1) (zeroR) = w3 at HT3 ⊢
  clear HT2
  refine wpList_valn rfl (exec_as rfl evk) ?_
  simp only [Act.put, List.setIfInBounds_toArray, List.set_cons_succ, List.set_cons_zero]
  refine wpList_nil ?_
  go_wp2_with fail
  exact bodyPost_ret (res_rt rfl _ _ _ rfl HT3.out.at1) rfl ⟨rfl, HT3.out.bel⟩
set_option maxHeartbeats 1000000 in
theorem rnext_1 {x : Ros} {k : Nat} (hf : fineB x = true) (hm : heaM x = k) (hb : heaB x = false) (w : World) : Calls Try.prog 24 #[ros x] w fun e w' => e = .returned (.tuple #[ros (zeroR), .int .i64 17]) ∧ Below w.heap.size w w' := by
  have HT1 := Lib.hid (TwoR.new w x)
  have HF := Lib.hid hf
  have HM := Lib.hid hm
  have HB := Lib.hid hb
  clear hf hm hb
  go_enter Try.func24, Try.ntmps24
  go_upto_region 1 with (first | (refine wpList_valn rfl (exec_boxR rfl rfl) ?_) | (refine wpList_valn rfl (exec_allocR rfl) ?_) | fail)
  generalize (w.alloc (.cells (celR x).toArray 26)).alloc (.cells (celR zeroR).toArray 26) = w1 at *
  refine wp_region_lit ?_
  refine wpList_valn rfl (exec_ldR rfl (ev rfl) (HT1.out.at0)) ?_
  simp only [Act.put, List.setIfInBounds_toArray, List.set_cons_succ, List.set_cons_zero]
  refine wpList_call rfl (exec_cl Try.call10 rfl (evc (ev rfl) evn)) ?_
  refine (rmay_b w1 HF.out).mono ?_
  rintro e w2 ⟨rfl, hb⟩
  have HT2 := Lib.hid (HT1.out.call hb)
  clear hb HT1
  refine ⟨_, rfl, ?_⟩
  simp only [Act.put, List.setIfInBounds_toArray, List.set_cons_succ, List.set_cons_zero]
  refine wpList_valn (v := .bool false) rfl (exec_not true rfl (ev rfl)) ?_
  simp only [Act.put, List.setIfInBounds_toArray, List.set_cons_succ, List.set_cons_zero]
  refine wpList_nil ?_
  go_upto_region 3 with fail
  refine wp_region_lit ?_
  refine wpList_valn rfl (exec_ldR rfl (ev rfl) (HT2.out.at0)) ?_
  simp only [Act.put, List.setIfInBounds_toArray, List.set_cons_succ, List.set_cons_zero]
  refine wpList_call rfl (exec_cl Try.call18 rfl (evc (ev rfl) evn)) ?_
  refine (rheals_b w2 HM.out HB.out).mono ?_
  rintro e w3 ⟨rfl, hb⟩
  have HT3 := Lib.hid (HT2.out.call hb)
  clear hb HT2
  refine ⟨_, rfl, ?_⟩
  simp only [Act.put, List.setIfInBounds_toArray, List.set_cons_succ, List.set_cons_zero]
  refine wpList_valn rfl (exec_mv rfl (ev rfl)) ?_
  simp only [Act.put, List.setIfInBounds_toArray, List.set_cons_succ, List.set_cons_zero]
  refine wpList_valn rfl (exec_ext rfl (ev rfl) rfl) ?_
  simp only [Act.put, List.setIfInBounds_toArray, List.set_cons_succ, List.set_cons_zero]
  refine wpList_valn (v := .bool false) rfl (exec_ext rfl (ev rfl) rfl) ?_
  simp only [Act.put, List.setIfInBounds_toArray, List.set_cons_succ, List.set_cons_zero]
  refine wpList_valn rfl (exec_as rfl (ev rfl)) ?_
  simp only [Act.put, List.setIfInBounds_toArray, List.set_cons_succ, List.set_cons_zero]
  refine wpList_valn (v := .bool false) rfl (exec_as rfl (ev rfl)) ?_
  simp only [Act.put, List.setIfInBounds_toArray, List.set_cons_succ, List.set_cons_zero]
  refine wpList_nil ?_
  go_upto_region 4 with fail
  refine wp_region_lit ?_
  refine wpList_valn (v := .bool false) rfl (exec_mv rfl (ev rfl)) ?_
  simp only [Act.put, List.setIfInBounds_toArray, List.set_cons_succ, List.set_cons_zero]
  refine wpList_valn (v := .bool true) rfl (exec_not false rfl (ev rfl)) ?_
  simp only [Act.put, List.setIfInBounds_toArray, List.set_cons_succ, List.set_cons_zero]
  refine wpList_nil ?_
  go_upto_region 5 with fail
  refine wp_region_lit ?_
  refine wpList_valn rfl (exec_bldR0 rfl) ?_
  simp only [Act.put, List.setIfInBounds_toArray, List.set_cons_succ, List.set_cons_zero]
  refine wpList_nuln rfl (exec_putR rfl (ev rfl) (ev rfl) HT3.out.at1) ?_
  simp only [Act.put, List.setIfInBounds_toArray, List.set_cons_succ, List.set_cons_zero]
  have HT4 := Lib.hid (HT3.out.put (zeroR))
  generalize putW w3 (w.heap.size + 1) (zeroR) = w4 at HT4 ⊢
  clear HT3
  refine wpList_valn rfl (exec_as rfl evk) ?_
  simp only [Act.put, List.setIfInBounds_toArray, List.set_cons_succ, List.set_cons_zero]
  refine wpList_nil ?_
  go_wp2_with fail
  exact bodyPost_ret (res_rt rfl _ _ _ rfl HT4.out.at1) rfl ⟨rfl, HT4.out.bel⟩
set_option maxHeartbeats 1000000 in
theorem rnext_2 {x : Ros} {j : Nat} {d : Int} (hj : j < 16) (hf : fineB x = true) (hm : heaM x = j) (hb : heaB x = true) (hw : IntKind.i64.wrap (x.cur + 1) = d) (he : (d == x.s) = true) (w : World) : Calls Try.prog 24 #[ros x] w fun e w' => e = .returned (.tuple #[ros (curS (setS (curS x d) j 0) 0), .int .i64 0]) ∧ Below w.heap.size w w' := by
  have HT1 := Lib.hid (TwoR.new w x)
  have HF := Lib.hid hf
  have HM := Lib.hid hm
  have HB := Lib.hid hb
  have HW := Lib.hid hw
  have HE := Lib.hid he
  clear hf hm hb hw he
  go_enter Try.func24, Try.ntmps24
  go_upto_region 1 with (first | (refine wpList_valn rfl (exec_boxR rfl rfl) ?_) | (refine wpList_valn rfl (exec_allocR rfl) ?_) | fail)
  generalize (w.alloc (.cells (celR x).toArray 26)).alloc (.cells (celR zeroR).toArray 26) = w1 at *
  refine wp_region_lit ?_
  refine wpList_valn rfl (exec_ldR rfl (ev rfl) (HT1.out.at0)) ?_
  simp only [Act.put, List.setIfInBounds_toArray, List.set_cons_succ, List.set_cons_zero]
  refine wpList_call rfl (exec_cl Try.call10 rfl (evc (ev rfl) evn)) ?_
  refine (rmay_b w1 HF.out).mono ?_
  rintro e w2 ⟨rfl, hb⟩
  have HT2 := Lib.hid (HT1.out.call hb)
  clear hb HT1
  refine ⟨_, rfl, ?_⟩
  simp only [Act.put, List.setIfInBounds_toArray, List.set_cons_succ, List.set_cons_zero]
  refine wpList_valn (v := .bool false) rfl (exec_not true rfl (ev rfl)) ?_
  simp only [Act.put, List.setIfInBounds_toArray, List.set_cons_succ, List.set_cons_zero]
  refine wpList_nil ?_
  go_upto_region 3 with fail
  refine wp_region_lit ?_
  refine wpList_valn rfl (exec_ldR rfl (ev rfl) (HT2.out.at0)) ?_
  simp only [Act.put, List.setIfInBounds_toArray, List.set_cons_succ, List.set_cons_zero]
  refine wpList_call rfl (exec_cl Try.call18 rfl (evc (ev rfl) evn)) ?_
  refine (rheals_b w2 HM.out HB.out).mono ?_
  rintro e w3 ⟨rfl, hb⟩
  have HT3 := Lib.hid (HT2.out.call hb)
  clear hb HT2
  refine ⟨_, rfl, ?_⟩
  simp only [Act.put, List.setIfInBounds_toArray, List.set_cons_succ, List.set_cons_zero]
  refine wpList_valn rfl (exec_mv rfl (ev rfl)) ?_
  simp only [Act.put, List.setIfInBounds_toArray, List.set_cons_succ, List.set_cons_zero]
  refine wpList_valn rfl (exec_ext rfl (ev rfl) rfl) ?_
  simp only [Act.put, List.setIfInBounds_toArray, List.set_cons_succ, List.set_cons_zero]
  refine wpList_valn (v := .bool true) rfl (exec_ext rfl (ev rfl) rfl) ?_
  simp only [Act.put, List.setIfInBounds_toArray, List.set_cons_succ, List.set_cons_zero]
  refine wpList_valn rfl (exec_as rfl (ev rfl)) ?_
  simp only [Act.put, List.setIfInBounds_toArray, List.set_cons_succ, List.set_cons_zero]
  refine wpList_valn (v := .bool true) rfl (exec_as rfl (ev rfl)) ?_
  simp only [Act.put, List.setIfInBounds_toArray, List.set_cons_succ, List.set_cons_zero]
  refine wpList_nil ?_
  go_upto_region 4 with fail
  refine wp_region_lit ?_
  refine wpList_valn (v := .bool true) rfl (exec_mv rfl (ev rfl)) ?_
  simp only [Act.put, List.setIfInBounds_toArray, List.set_cons_succ, List.set_cons_zero]
  refine wpList_valn (v := .bool false) rfl (exec_not true rfl (ev rfl)) ?_
  simp only [Act.put, List.setIfInBounds_toArray, List.set_cons_succ, List.set_cons_zero]
  refine wpList_nil ?_
  go_upto_region 6 with fail
  refine wp_region_lit ?_
  refine wpList_valn rfl (exec_faddr rfl (ev rfl) faR2) ?_
  simp only [Act.put, List.setIfInBounds_toArray, List.set_cons_succ, List.set_cons_zero]
  refine wpList_valn rfl (exec_ld rfl (ev rfl) (ldInt (HT3.out.at0).cells.2.2.2.1)) ?_
  simp only [Act.put, List.setIfInBounds_toArray, List.set_cons_succ, List.set_cons_zero]
  refine wpList_valn rfl (exec_add rfl (ev rfl) evk HW.out) ?_
  simp only [Act.put, List.setIfInBounds_toArray, List.set_cons_succ, List.set_cons_zero]
  refine wpList_valn rfl (exec_faddr rfl (ev rfl) faR2) ?_
  simp only [Act.put, List.setIfInBounds_toArray, List.set_cons_succ, List.set_cons_zero]
  refine wpList_nuln rfl (exec_stI rfl (ev rfl) (ev rfl) (HT3.out.at0.there (by omega))) ?_
  simp only [Act.put, List.setIfInBounds_toArray, List.set_cons_succ, List.set_cons_zero]
  have HT4 := Lib.hid (HT3.out.set (celR_cur _ (d)))
  generalize setW w3 w.heap.size (19) (.int .i64 (d)) = w4 at HT4 ⊢
  clear HT3
  refine wpList_nil ?_
  go_upto_region 7 with fail
  refine wp_region_lit ?_
  refine wpList_valn rfl (exec_faddr rfl (ev rfl) faR2) ?_
  simp only [Act.put, List.setIfInBounds_toArray, List.set_cons_succ, List.set_cons_zero]
  refine wpList_valn rfl (exec_ld rfl (ev rfl) (ldInt (HT4.out.at0).cells.2.2.2.1)) ?_
  simp only [Act.put, List.setIfInBounds_toArray, List.set_cons_succ, List.set_cons_zero]
  refine wpList_valn rfl (exec_faddr rfl (ev rfl) faR0) ?_
  simp only [Act.put, List.setIfInBounds_toArray, List.set_cons_succ, List.set_cons_zero]
  refine wpList_valn rfl (exec_faddr rfl (ev rfl) faG1) ?_
  simp only [Act.put, List.setIfInBounds_toArray, List.set_cons_succ, List.set_cons_zero]
  refine wpList_valn rfl (exec_ld rfl (ev rfl) (ldInt (HT4.out.at0).cells.2.1)) ?_
  simp only [Act.put, List.setIfInBounds_toArray, List.set_cons_succ, List.set_cons_zero]
  refine wpList_valn (v := .bool true) rfl (exec_eqInt true rfl (ev rfl) (ev rfl) HE.out) ?_
  simp only [Act.put, List.setIfInBounds_toArray, List.set_cons_succ, List.set_cons_zero]
  refine wpList_nil ?_
  go_upto_region 8 with fail
  refine wp_region_lit ?_
  refine wpList_valn rfl (exec_mv rfl (ev rfl)) ?_
  simp only [Act.put, List.setIfInBounds_toArray, List.set_cons_succ, List.set_cons_zero]
  refine wpList_valn rfl (exec_faddr rfl (ev rfl) faR1) ?_
  simp only [Act.put, List.setIfInBounds_toArray, List.set_cons_succ, List.set_cons_zero]
  refine wpList_valn rfl (exec_ix rfl (ev rfl) (ev rfl) (ix16 hj)) ?_
  simp only [Act.put, List.setIfInBounds_toArray, List.set_cons_succ, List.set_cons_zero]
  refine wpList_nuln rfl (exec_stS rfl (ev rfl) evk (HT4.out.at0.there (by omega))) ?_
  simp only [Act.put, List.setIfInBounds_toArray, List.set_cons_succ, List.set_cons_zero]
  have HT5 := Lib.hid (HT4.out.set (celR_set0 _ hj))
  generalize setW w4 w.heap.size (3 + j) (.int .u8 0) = w5 at HT5 ⊢
  clear HT4
  refine wpList_nil ?_
  go_upto_region 9 with fail
  refine wp_region_lit ?_
  refine wpList_valn rfl (exec_faddr rfl (ev rfl) faR2) ?_
  simp only [Act.put, List.setIfInBounds_toArray, List.set_cons_succ, List.set_cons_zero]
  refine wpList_nuln rfl (exec_stI rfl (ev rfl) evk (HT5.out.at0.there (by omega))) ?_
  simp only [Act.put, List.setIfInBounds_toArray, List.set_cons_succ, List.set_cons_zero]
  have HT6 := Lib.hid (HT5.out.set (celR_cur _ (0)))
  generalize setW w5 w.heap.size (19) (.int .i64 (0)) = w6 at HT6 ⊢
  clear HT5
  refine wpList_nil ?_
  go_upto_region 10 with fail
  refine wp_region_lit ?_
  refine wpList_valn rfl (exec_ldR rfl (ev rfl) (HT6.out.at0)) ?_
  simp only [Act.put, List.setIfInBounds_toArray, List.set_cons_succ, List.set_cons_zero]
  refine wpList_nuln rfl (exec_putR rfl (ev rfl) (ev rfl) HT6.out.at1) ?_
  simp only [Act.put, List.setIfInBounds_toArray, List.set_cons_succ, List.set_cons_zero]
  have HT7 := Lib.hid (HT6.out.put (curS (setS (curS x d) j 0) 0))
  generalize putW w6 (w.heap.size + 1) (curS (setS (curS x d) j 0) 0) = w7 at HT7 ⊢
  clear HT6
  refine wpList_valn rfl (exec_as rfl evk) ?_
  simp only [Act.put, List.setIfInBounds_toArray, List.set_cons_succ, List.set_cons_zero]
  refine wpList_nil ?_
  go_wp2_with fail
  exact bodyPost_ret (res_rt rfl _ _ _ rfl HT7.out.at1) rfl ⟨rfl, HT7.out.bel⟩
set_option maxHeartbeats 1000000 in
theorem rnext_3 {x : Ros} {j : Nat} {d : Int} (hj : j < 16) (hf : fineB x = true) (hm : heaM x = j) (hb : heaB x = true) (hw : IntKind.i64.wrap (x.cur + 1) = d) (he : (d == x.s) = false) (w : World) : Calls Try.prog 24 #[ros x] w fun e w' => e = .returned (.tuple #[ros (curS x d), .int .i64 0]) ∧ Below w.heap.size w w' := by
  have HT1 := Lib.hid (TwoR.new w x)
  have HF := Lib.hid hf
  have HM := Lib.hid hm
  have HB := Lib.hid hb
  have HW := Lib.hid hw
  have HE := Lib.hid he
  clear hf hm hb hw he
  go_enter Try.func24, Try.ntmps24
  go_upto_region 1 with (first | (refine wpList_valn rfl (exec_boxR rfl rfl) ?_) | (refine wpList_valn rfl (exec_allocR rfl) ?_) | fail)
  generalize (w.alloc (.cells (celR x).toArray 26)).alloc (.cells (celR zeroR).toArray 26) = w1 at *
  refine wp_region_lit ?_
  refine wpList_valn rfl (exec_ldR rfl (ev rfl) (HT1.out.at0)) ?_
  simp only [Act.put, List.setIfInBounds_toArray, List.set_cons_succ, List.set_cons_zero]
  refine wpList_call rfl (exec_cl Try.call10 rfl (evc (ev rfl) evn)) ?_
  refine (rmay_b w1 HF.out).mono ?_
  rintro e w2 ⟨rfl, hb⟩
  have HT2 := Lib.hid (HT1.out.call hb)
  clear hb HT1
  refine ⟨_, rfl, ?_⟩
  simp only [Act.put, List.setIfInBounds_toArray, List.set_cons_succ, List.set_cons_zero]
  refine wpList_valn (v := .bool false) rfl (exec_not true rfl (ev rfl)) ?_
  simp only [Act.put, List.setIfInBounds_toArray, List.set_cons_succ, List.set_cons_zero]
  refine wpList_nil ?_
  go_upto_region 3 with fail
  refine wp_region_lit ?_
  refine wpList_valn rfl (exec_ldR rfl (ev rfl) (HT2.out.at0)) ?_
  simp only [Act.put, List.setIfInBounds_toArray, List.set_cons_succ, List.set_cons_zero]
  refine wpList_call rfl (exec_cl Try.call18 rfl (evc (ev rfl) evn)) ?_
  refine (rheals_b w2 HM.out HB.out).mono ?_
  rintro e w3 ⟨rfl, hb⟩
  have HT3 := Lib.hid (HT2.out.call hb)
  clear hb HT2
  refine ⟨_, rfl, ?_⟩
  simp only [Act.put, List.setIfInBounds_toArray, List.set_cons_succ, List.set_cons_zero]
  refine wpList_valn rfl (exec_mv rfl (ev rfl)) ?_
  simp only [Act.put, List.setIfInBounds_toArray, List.set_cons_succ, List.set_cons_zero]
  refine wpList_valn rfl (exec_ext rfl (ev rfl) rfl) ?_
  simp only [Act.put, List.setIfInBounds_toArray, List.set_cons_succ, List.set_cons_zero]
  refine wpList_valn (v := .bool true) rfl (exec_ext rfl (ev rfl) rfl) ?_
  simp only [Act.put, List.setIfInBounds_toArray, List.set_cons_succ, List.set_cons_zero]
  refine wpList_valn rfl (exec_as rfl (ev rfl)) ?_
  simp only [Act.put, List.setIfInBounds_toArray, List.set_cons_succ, List.set_cons_zero]
  refine wpList_valn (v := .bool true) rfl (exec_as rfl (ev rfl)) ?_
  simp only [Act.put, List.setIfInBounds_toArray, List.set_cons_succ, List.set_cons_zero]
  refine wpList_nil ?_
  go_upto_region 4 with fail
  refine wp_region_lit ?_
  refine wpList_valn (v := .bool true) rfl (exec_mv rfl (ev rfl)) ?_
  simp only [Act.put, List.setIfInBounds_toArray, List.set_cons_succ, List.set_cons_zero]
  refine wpList_valn (v := .bool false) rfl (exec_not true rfl (ev rfl)) ?_
  simp only [Act.put, List.setIfInBounds_toArray, List.set_cons_succ, List.set_cons_zero]
  refine wpList_nil ?_
  go_upto_region 6 with fail
  refine wp_region_lit ?_
  refine wpList_valn rfl (exec_faddr rfl (ev rfl) faR2) ?_
  simp only [Act.put, List.setIfInBounds_toArray, List.set_cons_succ, List.set_cons_zero]
  refine wpList_valn rfl (exec_ld rfl (ev rfl) (ldInt (HT3.out.at0).cells.2.2.2.1)) ?_
  simp only [Act.put, List.setIfInBounds_toArray, List.set_cons_succ, List.set_cons_zero]
  refine wpList_valn rfl (exec_add rfl (ev rfl) evk HW.out) ?_
  simp only [Act.put, List.setIfInBounds_toArray, List.set_cons_succ, List.set_cons_zero]
  refine wpList_valn rfl (exec_faddr rfl (ev rfl) faR2) ?_
  simp only [Act.put, List.setIfInBounds_toArray, List.set_cons_succ, List.set_cons_zero]
  refine wpList_nuln rfl (exec_stI rfl (ev rfl) (ev rfl) (HT3.out.at0.there (by omega))) ?_
  simp only [Act.put, List.setIfInBounds_toArray, List.set_cons_succ, List.set_cons_zero]
  have HT4 := Lib.hid (HT3.out.set (celR_cur _ (d)))
  generalize setW w3 w.heap.size (19) (.int .i64 (d)) = w4 at HT4 ⊢
  clear HT3
  refine wpList_nil ?_
  go_upto_region 7 with fail
  refine wp_region_lit ?_
  refine wpList_valn rfl (exec_faddr rfl (ev rfl) faR2) ?_
  simp only [Act.put, List.setIfInBounds_toArray, List.set_cons_succ, List.set_cons_zero]
  refine wpList_valn rfl (exec_ld rfl (ev rfl) (ldInt (HT4.out.at0).cells.2.2.2.1)) ?_
  simp only [Act.put, List.setIfInBounds_toArray, List.set_cons_succ, List.set_cons_zero]
  refine wpList_valn rfl (exec_faddr rfl (ev rfl) faR0) ?_
  simp only [Act.put, List.setIfInBounds_toArray, List.set_cons_succ, List.set_cons_zero]
  refine wpList_valn rfl (exec_faddr rfl (ev rfl) faG1) ?_
  simp only [Act.put, List.setIfInBounds_toArray, List.set_cons_succ, List.set_cons_zero]
  refine wpList_valn rfl (exec_ld rfl (ev rfl) (ldInt (HT4.out.at0).cells.2.1)) ?_
  simp only [Act.put, List.setIfInBounds_toArray, List.set_cons_succ, List.set_cons_zero]
  refine wpList_valn (v := .bool false) rfl (exec_eqInt false rfl (ev rfl) (ev rfl) HE.out) ?_
  simp only [Act.put, List.setIfInBounds_toArray, List.set_cons_succ, List.set_cons_zero]
  refine wpList_nil ?_
  go_upto_region 10 with fail
  refine wp_region_lit ?_
  refine wpList_valn rfl (exec_ldR rfl (ev rfl) (HT4.out.at0)) ?_
  simp only [Act.put, List.setIfInBounds_toArray, List.set_cons_succ, List.set_cons_zero]
  refine wpList_nuln rfl (exec_putR rfl (ev rfl) (ev rfl) HT4.out.at1) ?_
  simp only [Act.put, List.setIfInBounds_toArray, List.set_cons_succ, List.set_cons_zero]
  have HT5 := Lib.hid (HT4.out.put (curS x d))
  generalize putW w4 (w.heap.size + 1) (curS x d) = w5 at HT5 ⊢
  clear HT4
  refine wpList_valn rfl (exec_as rfl evk) ?_
  simp only [Act.put, List.setIfInBounds_toArray, List.set_cons_succ, List.set_cons_zero]
  refine wpList_nil ?_
  go_wp2_with fail
  exact bodyPost_ret (res_rt rfl _ _ _ rfl HT5.out.at1) rfl ⟨rfl, HT5.out.bel⟩
theorem rnext (x : Ros) (w : World) : Calls Try.prog 24 #[ros x] w fun e w' => e = .returned (.tuple #[ros (nexX x), .int .i64 (nexE x : Nat)]) ∧ Below w.heap.size w w' := by
  unfold nexX
  cases hf : fineB x
  · rw [show nexE x = 2 from by unfold nexE; rw [hf]; rfl]; exact rnext_0 hf w
  have e : nexE x = if healJ x = none then 17 else 0 := by unfold nexE; rw [hf]; rfl
  have eb : heaB x = (healJ x).isSome := by unfold heaB; rw [hf]; rfl
  have em : heaM x = (healJ x).getD 0 := by unfold heaM; rw [hf]; rfl
  cases hj : healJ x with
  | none =>
    rw [hj] at eb
    rw [e.trans (if_pos hj)]
    exact rnext_1 hf rfl eb w
  | some j =>
    rw [hj] at eb em
    have h16 := (healJ_some hj).1
    obtain ⟨hgg, _, _, c0, c1, _⟩ := of_fineB hf
    have hg := of_geoB hgg
    have hw : IntKind.i64.wrap (x.cur + 1) = x.cur + 1 := IntWalk.i64_in _ (by omega)
    rw [e.trans (if_neg (fun h => by rw [hj] at h; cases h)), if_pos rfl, show heaM x = j from em]
    by_cases he : x.cur + 1 = x.s
    · rw [if_pos he]
      exact rnext_2 h16 hf em eb hw (by simpa using he) w
    · rw [if_neg he]
      exact rnext_3 h16 hf em eb hw (by simpa using he) w
theorem geoG (w : World) (y : Ros) : (w.alloc (.cells (celG y).toArray 23)).heap[w.heap.size]? = some (.cells (celG y).toArray 23 (0, 0)) := heap_alloc_new w _
/-- A function's own geometry in its first block, what it answers in its second one. -/
structure TwoG (w0 w : World) (y z : Ros) : Prop where
  bel : Below w0.heap.size w0 w
  at0 : w.rangeAt w0.heap.size 0 (celG y)
  lt0 : w0.heap.size < w.heap.size
  at1 : RosAt w (w0.heap.size + 1) z
theorem TwoG.new (w : World) (y : Ros) : TwoG w ((w.alloc (.cells (celG y).toArray 23)).alloc (.cells (celR zeroR).toArray 26)) y zeroR := by
  refine ⟨((Below.refl _ w).alloc (Nat.le_refl _) _).alloc (by simp) _, rng_at (t := 23) (blk_past (geoG w y) _), by simp only [World.size_alloc]; omega, ?_⟩
  have := RosAt.new (w.alloc (.cells (celG y).toArray 23)) zeroR
  rwa [World.size_alloc] at this
section
variable {w0 w w' : World} {y z : Ros}
theorem TwoG.call (h : TwoG w0 w y z) (hb : Below w.heap.size w w') : TwoG w0 w' y z :=
  ⟨h.bel.trans (hb.mono h.bel.size), range_below h.at0 h.lt0 hb, Nat.lt_of_lt_of_le h.lt0 hb.size, h.at1.below (blk_lt h.at1) hb⟩
theorem TwoG.put (h : TwoG w0 w y z) (z' : Ros) : TwoG w0 (putW w (w0.heap.size + 1) z') y z' :=
  ⟨putW_below h.bel (by omega), (fun j v hj => by
    have := World.rangeAt_setCells_apart h.at0 (w0.heap.size + 1) 0 (celR z') (.inl (by omega))
    exact this j v hj), by rw [putW_size]; exact h.lt0, putW_at h.at1⟩
end
section
variable {ρ : Operand → Value} {o : Oper} {x : Operand} {w : World}
theorem exec_boxG {y : Ros} (ho : o.op = .box 23 x) (hx : ρ x = geo y) : (execOp ρ o).run Try.prog w = .ok (.value (.pointer (some ⟨w.heap.size, 0, none⟩))) (w.alloc (.cells (celG y).toArray 23)) := exec_boxT ho hx
theorem run_bldG (y : Ros) (w : World) : (Instr.build 26 #[(0, geo y)]).run Try.prog w = .ok (ros (gz y)) w := by
  obtain ⟨m, s, r, st, cur, gone⟩ := y
  kernel_rfl
theorem exec_bldG {y : Ros} (ho : o.op = .build 26 #[(0, x)]) (hx : ρ x = geo y) : (execOp ρ o).run Try.prog w = .ok (.value (ros (gz y))) w := by
  unfold execOp
  simp only [ho, hx, List.map_toArray, List.map_cons, List.map_nil, Sem.run_bind, run_bldG, Result.andThen_ok, Sem.run_pure]
end
set_option maxHeartbeats 1000000 in
theorem pnew_0 {y : Ros} (hg : geoB y = false) (w : World) : Calls Try.prog 7 #[geo y] w fun e w' => e = .returned (.tuple #[ros (zeroR), .int .i64 2]) ∧ Below w.heap.size w w' := by
  have HT1 := Lib.hid (TwoG.new w y)
  have HG := Lib.hid hg
  clear hg
  go_enter Try.func7, Try.ntmps7
  go_upto_region 1 with (first | (refine wpList_valn rfl (exec_boxG rfl rfl) ?_) | (refine wpList_valn rfl (exec_allocR rfl) ?_) | fail)
  generalize (w.alloc (.cells (celG y).toArray 23)).alloc (.cells (celR zeroR).toArray 26) = w1 at *
  refine wp_region_lit ?_
  refine wpList_valn rfl (exec_loadG (c := y) rfl (ev rfl) HT1.out.at0) ?_
  simp only [Act.put, List.setIfInBounds_toArray, List.set_cons_succ, List.set_cons_zero]
  refine wpList_call rfl (exec_cl Try.call30 rfl (evc (ev rfl) evn)) ?_
  refine (pgmay_b w1 HG.out).mono ?_
  rintro e w2 ⟨rfl, hb⟩
  have HT2 := Lib.hid (HT1.out.call hb)
  clear hb HT1
  refine ⟨_, rfl, ?_⟩
  simp only [Act.put, List.setIfInBounds_toArray, List.set_cons_succ, List.set_cons_zero]
  refine wpList_valn (v := .bool true) rfl (exec_not false rfl (ev rfl)) ?_
  simp only [Act.put, List.setIfInBounds_toArray, List.set_cons_succ, List.set_cons_zero]
  refine wpList_nil ?_
  go_upto_region 2 with fail
  refine wp_region_lit ?_
  refine wpList_valn rfl (exec_bldR0 rfl) ?_
  simp only [Act.put, List.setIfInBounds_toArray, List.set_cons_succ, List.set_cons_zero]
  refine wpList_nuln rfl (exec_putR rfl (ev rfl) (ev rfl) HT2.out.at1) ?_
  simp only [Act.put, List.setIfInBounds_toArray, List.set_cons_succ, List.set_cons_zero]
  have HT3 := Lib.hid (HT2.out.put (zeroR))
  generalize putW w2 (w.heap.size + 1) (zeroR) = w3 at HT3 ⊢
  clear HT2
  refine wpList_valn rfl (exec_as rfl evk) ?_
  simp only [Act.put, List.setIfInBounds_toArray, List.set_cons_succ, List.set_cons_zero]
  refine wpList_nil ?_
  go_wp2_with fail
  exact bodyPost_ret (res_rt rfl _ _ _ rfl HT3.out.at1) rfl ⟨rfl, HT3.out.bel⟩
set_option maxHeartbeats 1000000 in
theorem pnew_1 {y : Ros} (hg : geoB y = true) (w : World) : Calls Try.prog 7 #[geo y] w fun e w' => e = .returned (.tuple #[ros (gz y), .int .i64 0]) ∧ Below w.heap.size w w' := by
  have HT1 := Lib.hid (TwoG.new w y)
  have HG := Lib.hid hg
  clear hg
  go_enter Try.func7, Try.ntmps7
  go_upto_region 1 with (first | (refine wpList_valn rfl (exec_boxG rfl rfl) ?_) | (refine wpList_valn rfl (exec_allocR rfl) ?_) | fail)
  generalize (w.alloc (.cells (celG y).toArray 23)).alloc (.cells (celR zeroR).toArray 26) = w1 at *
  refine wp_region_lit ?_
  refine wpList_valn rfl (exec_loadG (c := y) rfl (ev rfl) HT1.out.at0) ?_
  simp only [Act.put, List.setIfInBounds_toArray, List.set_cons_succ, List.set_cons_zero]
  refine wpList_call rfl (exec_cl Try.call30 rfl (evc (ev rfl) evn)) ?_
  refine (pgmay_b w1 HG.out).mono ?_
  rintro e w2 ⟨rfl, hb⟩
  have HT2 := Lib.hid (HT1.out.call hb)
  clear hb HT1
  refine ⟨_, rfl, ?_⟩
  simp only [Act.put, List.setIfInBounds_toArray, List.set_cons_succ, List.set_cons_zero]
  refine wpList_valn (v := .bool false) rfl (exec_not true rfl (ev rfl)) ?_
  simp only [Act.put, List.setIfInBounds_toArray, List.set_cons_succ, List.set_cons_zero]
  refine wpList_nil ?_
  go_upto_region 3 with fail
  refine wp_region_lit ?_
  refine wpList_valn rfl (exec_loadG (c := y) rfl (ev rfl) HT2.out.at0) ?_
  simp only [Act.put, List.setIfInBounds_toArray, List.set_cons_succ, List.set_cons_zero]
  refine wpList_valn rfl (exec_bldG (y := y) rfl (ev rfl)) ?_
  simp only [Act.put, List.setIfInBounds_toArray, List.set_cons_succ, List.set_cons_zero]
  refine wpList_nuln rfl (exec_putR rfl (ev rfl) (ev rfl) HT2.out.at1) ?_
  simp only [Act.put, List.setIfInBounds_toArray, List.set_cons_succ, List.set_cons_zero]
  have HT3 := Lib.hid (HT2.out.put (gz y))
  generalize putW w2 (w.heap.size + 1) (gz y) = w3 at HT3 ⊢
  clear HT2
  refine wpList_valn rfl (exec_as rfl evk) ?_
  simp only [Act.put, List.setIfInBounds_toArray, List.set_cons_succ, List.set_cons_zero]
  refine wpList_nil ?_
  go_wp2_with fail
  exact bodyPost_ret (res_rt rfl _ _ _ rfl HT3.out.at1) rfl ⟨rfl, HT3.out.bel⟩
theorem TwoG.third {w0 w : World} {y z : Ros} (h : TwoG w0 w y z) {b : Nat} (x : Ros) (hb : w0.heap.size + 1 < b) : TwoG w0 (putW w b x) y z :=
  ⟨putW_below h.bel (by omega), fun j v hj => World.rangeAt_setCells_apart h.at0 b 0 (celR x) (.inl (by omega)) j v hj, by rw [putW_size]; exact h.lt0, (putW_off (by omega)).trans h.at1⟩
set_option maxHeartbeats 1000000 in
theorem rnew_0 {y : Ros} (hg : fineB (gz y) = false) (w : World) : Calls Try.prog 8 #[geo y] w fun e w' => e = .returned (.tuple #[ros (zeroR), .int .i64 2]) ∧ Below w.heap.size w w' := by
  have HT1 := Lib.hid (TwoG.new w y)
  have HG := Lib.hid hg
  clear hg
  go_enter Try.func8, Try.ntmps8
  go_upto_region 1 with (first | (refine wpList_valn rfl (exec_boxG rfl rfl) ?_) | (refine wpList_valn rfl (exec_allocR rfl) ?_) | fail)
  generalize (w.alloc (.cells (celG y).toArray 23)).alloc (.cells (celR zeroR).toArray 26) = w1 at *
  refine wp_region_lit ?_
  refine wpList_valn rfl (exec_loadG (c := y) rfl (ev rfl) HT1.out.at0) ?_
  simp only [Act.put, List.setIfInBounds_toArray, List.set_cons_succ, List.set_cons_zero]
  refine wpList_valn rfl (exec_bldG (y := y) rfl (ev rfl)) ?_
  simp only [Act.put, List.setIfInBounds_toArray, List.set_cons_succ, List.set_cons_zero]
  refine wpList_valn rfl (exec_allocR rfl) ?_
  simp only [Act.put, List.setIfInBounds_toArray, List.set_cons_succ, List.set_cons_zero]
  have HA := Lib.hid (RosAt.new w1 zeroR)
  have HT2 := Lib.hid (HT1.out.call (w' := w1.alloc (.cells (celR zeroR).toArray 26)) ((Below.refl _ _).alloc (Nat.le_refl _) _))
  have HB3 : Hid (w.heap.size + 1 < w1.heap.size) := Lib.hid (blk_lt HT1.out.at1)
  clear HT1
  generalize w1.alloc (.cells (celR zeroR).toArray 26) = w2 at *
  generalize w1.heap.size = ba at *
  refine wpList_nuln rfl (exec_putR rfl (ev rfl) (ev rfl) HA.out) ?_
  simp only [Act.put, List.setIfInBounds_toArray, List.set_cons_succ, List.set_cons_zero]
  have HA2 := Lib.hid (putW_at (x := gz y) HA.out)
  have HT3 := Lib.hid (HT2.out.third (gz y) HB3.out)
  clear HT2 HA
  have HA := HA2
  clear HA2
  generalize putW w2 ba (gz y) = w3 at *
  refine wpList_nil ?_
  go_upto_region 2 with fail
  refine wp_region_lit ?_
  refine wpList_valn rfl (exec_ldR rfl (ev rfl) HA.out) ?_
  simp only [Act.put, List.setIfInBounds_toArray, List.set_cons_succ, List.set_cons_zero]
  refine wpList_call rfl (exec_cl Try.call31 rfl (evc (ev rfl) evn)) ?_
  refine (rfine_b w3 HG.out).mono ?_
  rintro e w4 ⟨rfl, hb⟩
  have HT4 := Lib.hid (HT3.out.call hb)
  have HA2 := Lib.hid (HA.out.below (blk_lt HA.out) hb)
  clear hb HT3 HA
  have HA := HA2
  clear HA2
  refine ⟨_, rfl, ?_⟩
  simp only [Act.put, List.setIfInBounds_toArray, List.set_cons_succ, List.set_cons_zero]
  refine wpList_valn (v := .bool true) rfl (exec_not false rfl (ev rfl)) ?_
  simp only [Act.put, List.setIfInBounds_toArray, List.set_cons_succ, List.set_cons_zero]
  refine wpList_nil ?_
  go_upto_region 3 with fail
  refine wp_region_lit ?_
  refine wpList_valn rfl (exec_bldR0 rfl) ?_
  simp only [Act.put, List.setIfInBounds_toArray, List.set_cons_succ, List.set_cons_zero]
  refine wpList_nuln rfl (exec_putR rfl (ev rfl) (ev rfl) HT4.out.at1) ?_
  simp only [Act.put, List.setIfInBounds_toArray, List.set_cons_succ, List.set_cons_zero]
  have HT5 := Lib.hid (HT4.out.put (zeroR))
  generalize putW w4 (w.heap.size + 1) (zeroR) = w5 at HT5 ⊢
  clear HT4
  refine wpList_valn rfl (exec_as rfl evk) ?_
  simp only [Act.put, List.setIfInBounds_toArray, List.set_cons_succ, List.set_cons_zero]
  refine wpList_nil ?_
  go_wp2_with fail
  exact bodyPost_ret (res_rt rfl _ _ _ rfl HT5.out.at1) rfl ⟨rfl, HT5.out.bel⟩
set_option maxHeartbeats 1000000 in
theorem rnew_1 {y : Ros} (hg : fineB (gz y) = true) (w : World) : Calls Try.prog 8 #[geo y] w fun e w' => e = .returned (.tuple #[ros (gz y), .int .i64 0]) ∧ Below w.heap.size w w' := by
  have HT1 := Lib.hid (TwoG.new w y)
  have HG := Lib.hid hg
  clear hg
  go_enter Try.func8, Try.ntmps8
  go_upto_region 1 with (first | (refine wpList_valn rfl (exec_boxG rfl rfl) ?_) | (refine wpList_valn rfl (exec_allocR rfl) ?_) | fail)
  generalize (w.alloc (.cells (celG y).toArray 23)).alloc (.cells (celR zeroR).toArray 26) = w1 at *
  refine wp_region_lit ?_
  refine wpList_valn rfl (exec_loadG (c := y) rfl (ev rfl) HT1.out.at0) ?_
  simp only [Act.put, List.setIfInBounds_toArray, List.set_cons_succ, List.set_cons_zero]
  refine wpList_valn rfl (exec_bldG (y := y) rfl (ev rfl)) ?_
  simp only [Act.put, List.setIfInBounds_toArray, List.set_cons_succ, List.set_cons_zero]
  refine wpList_valn rfl (exec_allocR rfl) ?_
  simp only [Act.put, List.setIfInBounds_toArray, List.set_cons_succ, List.set_cons_zero]
  have HA := Lib.hid (RosAt.new w1 zeroR)
  have HT2 := Lib.hid (HT1.out.call (w' := w1.alloc (.cells (celR zeroR).toArray 26)) ((Below.refl _ _).alloc (Nat.le_refl _) _))
  have HB3 : Hid (w.heap.size + 1 < w1.heap.size) := Lib.hid (blk_lt HT1.out.at1)
  clear HT1
  generalize w1.alloc (.cells (celR zeroR).toArray 26) = w2 at *
  generalize w1.heap.size = ba at *
  refine wpList_nuln rfl (exec_putR rfl (ev rfl) (ev rfl) HA.out) ?_
  simp only [Act.put, List.setIfInBounds_toArray, List.set_cons_succ, List.set_cons_zero]
  have HA2 := Lib.hid (putW_at (x := gz y) HA.out)
  have HT3 := Lib.hid (HT2.out.third (gz y) HB3.out)
  clear HT2 HA
  have HA := HA2
  clear HA2
  generalize putW w2 ba (gz y) = w3 at *
  refine wpList_nil ?_
  go_upto_region 2 with fail
  refine wp_region_lit ?_
  refine wpList_valn rfl (exec_ldR rfl (ev rfl) HA.out) ?_
  simp only [Act.put, List.setIfInBounds_toArray, List.set_cons_succ, List.set_cons_zero]
  refine wpList_call rfl (exec_cl Try.call31 rfl (evc (ev rfl) evn)) ?_
  refine (rfine_b w3 HG.out).mono ?_
  rintro e w4 ⟨rfl, hb⟩
  have HT4 := Lib.hid (HT3.out.call hb)
  have HA2 := Lib.hid (HA.out.below (blk_lt HA.out) hb)
  clear hb HT3 HA
  have HA := HA2
  clear HA2
  refine ⟨_, rfl, ?_⟩
  simp only [Act.put, List.setIfInBounds_toArray, List.set_cons_succ, List.set_cons_zero]
  refine wpList_valn (v := .bool false) rfl (exec_not true rfl (ev rfl)) ?_
  simp only [Act.put, List.setIfInBounds_toArray, List.set_cons_succ, List.set_cons_zero]
  refine wpList_nil ?_
  go_upto_region 4 with fail
  refine wp_region_lit ?_
  refine wpList_valn rfl (exec_ldR rfl (ev rfl) HA.out) ?_
  simp only [Act.put, List.setIfInBounds_toArray, List.set_cons_succ, List.set_cons_zero]
  refine wpList_nuln rfl (exec_putR rfl (ev rfl) (ev rfl) HT4.out.at1) ?_
  simp only [Act.put, List.setIfInBounds_toArray, List.set_cons_succ, List.set_cons_zero]
  have HT5 := Lib.hid (HT4.out.put (gz y))
  generalize putW w4 (w.heap.size + 1) (gz y) = w5 at HT5 ⊢
  clear HT4
  refine wpList_valn rfl (exec_as rfl evk) ?_
  simp only [Act.put, List.setIfInBounds_toArray, List.set_cons_succ, List.set_cons_zero]
  refine wpList_nil ?_
  go_wp2_with fail
  exact bodyPost_ret (res_rt rfl _ _ _ rfl HT5.out.at1) rfl ⟨rfl, HT5.out.bel⟩
theorem rnew (y : Ros) (w : World) : Calls Try.prog 8 #[geo y] w fun e w' => e = .returned (.tuple #[ros (newX y), .int .i64 (newE y : Nat)]) ∧ Below w.heap.size w w' := by
  unfold newX newE
  have h := fine_gz y
  cases hg : geoB y
  · exact rnew_0 (h.trans hg) w
  · exact rnew_1 (h.trans hg) w
theorem pnew (y : Ros) (w : World) : Calls Try.prog 7 #[geo y] w fun e w' => e = .returned (.tuple #[ros (newX y), .int .i64 (newE y : Nat)]) ∧ Below w.heap.size w w' := by
  unfold newX newE
  cases hg : geoB y
  · exact pnew_0 hg w
  · exact pnew_1 hg w
end Go.Proofs.Ytnckcafemdcaeaa
