import Derived.Test.YtnliphgjcaippaaGreatDoorHsap
import Derived.Test.YtnliphgjcaippaaGreatDoorHsah
import Derived.Test.YtnliphgjcaippaaGreatDoorHsal
import Derived.Test.YtnliphgjcaippaaGreatDoorHsan
import Derived.Test.YtnliphgjcaippaaGreatDoorHsaa
import Derived.Test.YtnliphgjcaippaaGreatDoorHsab
import Derived.Test.YtnliphgjcaippaaGreatDoorHsag
import Derived.Deep.DeepCutAuto
import Derived.LaidEqlPtr
import Derived.Test.YtnliphgjcaippaaGreatDoorHsZ
namespace Go.Proofs.YtnliphgjcaippaaGreatDoor
open Go.RowKit
set_option linter.unusedVariables false
set_option linter.unusedSimpArgs false
set_option maxRecDepth 100000
section
variable (x : Ros) {j : Nat} (hj : j < 16)
include hj
theorem celR_set1 : (aH x).set (3 + j) (.int .u8 1) = aH (setS x j 1) := celR_set x hj 1
end
theorem rfine_b {y : Ros} {b : Bool} (w : World) (h : aS y = b) : Calls Tryz.prog 46 #[ros y] w fun e w' => e = .returned (.bool b) ∧ Below w.heap.size w w' := by subst h; exact rfine y w
set_option maxHeartbeats 1000000 in
theorem plose_0 {x : Ros} {m : Int} (hf : aS x = false) (w : World) : Calls Tryz.prog 89 #[ros x, .int .i64 m] w fun e w' => e = .returned (.tuple #[ros (x), .bool false]) ∧ Below w.heap.size w w' := by
  have HT1 := Lib.hid (TwoR.new w x)
  have HF := Lib.hid hf
  clear hf
  go_enter Tryz.func89, Tryz.ntmps89
  go_upto_region 1 with (first | (refine af rfl (aP rfl rfl) ?_) | (refine af rfl (bS rfl) ?_) | fail)
  generalize (w.alloc (.cells (aH x).toArray 28)).alloc (.cells (aH aZ).toArray 28) = w1 at *
  refine wp_region_lit ?_
  refine af rfl (aM rfl (ev rfl) (HT1.out.at0)) ?_
  simp only [Act.put, aa, ac, ae]
  refine al rfl (ap Tryz.call35 rfl (evc (ev rfl) evn)) ?_
  refine (cK w1 HF.out).mono ?_
  rintro e w2 ⟨rfl, hb⟩
  have HT2 := Lib.hid (HT1.out.call hb)
  clear hb HT1
  refine ⟨_, rfl, ?_⟩
  simp only [Act.put, aa, ac, ae]
  refine af (v := .bool true) rfl (aE false rfl (ev rfl)) ?_
  simp only [Act.put, aa, ac, ae]
  refine aF 4 (v := .bool true) rfl (ai rfl (ev rfl)) (by kernel_rfl) ?_
  simp only [aY, List.take_succ_cons, List.take_zero, List.drop_succ_cons, List.drop_zero, Act.put, List.setIfInBounds_toArray, List.set_cons_succ, List.set_cons_zero]
  refine af (v := .bool true) rfl (aJ rfl (ev rfl) evk) ?_
  simp only [Act.put, aa, ac, ae]
  refine wpList_nil ?_
  go_upto_region 2 with fail
  refine wp_region_lit ?_
  refine af rfl (aM rfl (ev rfl) (HT2.out.at0)) ?_
  simp only [Act.put, aa, ac, ae]
  refine av rfl (cM rfl (ev rfl) (ev rfl) HT2.out.at1) ?_
  simp only [Act.put, aa, ac, ae]
  have HT3 := Lib.hid (HT2.out.put (x))
  generalize putW w2 (w.heap.size + 1) (x) = w3 at HT3 ⊢
  clear HT2
  refine af (v := .bool false) rfl (ak rfl evk) ?_
  simp only [Act.put, aa, ac, ae]
  refine wpList_nil ?_
  go_wp2_with fail
  exact bodyPost_ret (res_rt rfl _ _ _ rfl HT3.out.at1) rfl ⟨rfl, HT3.out.bel⟩
set_option maxHeartbeats 1000000 in
theorem plose_1 {x : Ros} {m : Int} (hf : aS x = true) (hq : hasM x m = false) (w : World) : Calls Tryz.prog 89 #[ros x, .int .i64 m] w fun e w' => e = .returned (.tuple #[ros (x), .bool false]) ∧ Below w.heap.size w w' := by
  have HT1 := Lib.hid (TwoR.new w x)
  have HF := Lib.hid hf
  have HQ := Lib.hid hq
  clear hf hq
  go_enter Tryz.func89, Tryz.ntmps89
  go_upto_region 1 with (first | (refine af rfl (aP rfl rfl) ?_) | (refine af rfl (bS rfl) ?_) | fail)
  generalize (w.alloc (.cells (aH x).toArray 28)).alloc (.cells (aH aZ).toArray 28) = w1 at *
  refine wp_region_lit ?_
  refine af rfl (aM rfl (ev rfl) (HT1.out.at0)) ?_
  simp only [Act.put, aa, ac, ae]
  refine al rfl (ap Tryz.call35 rfl (evc (ev rfl) evn)) ?_
  refine (cK w1 HF.out).mono ?_
  rintro e w2 ⟨rfl, hb⟩
  have HT2 := Lib.hid (HT1.out.call hb)
  clear hb HT1
  refine ⟨_, rfl, ?_⟩
  simp only [Act.put, aa, ac, ae]
  refine af (v := .bool false) rfl (aE true rfl (ev rfl)) ?_
  simp only [Act.put, aa, ac, ae]
  refine af (v := .bool false) rfl (ai rfl (ev rfl)) ?_
  simp only [Act.put, aa, ac, ae]
  refine ag (ah rfl rfl rfl rfl) (aM rfl (ev rfl) (HT2.out.at0)) ?_
  simp only [Act.put, aa, ac, ae]
  refine ag (ah rfl rfl rfl rfl) (ai rfl (ev rfl)) ?_
  simp only [Act.put, aa, ac, ae]
  refine al (ah rfl rfl rfl rfl) (ap Tryz.call109 rfl (evc (ev rfl) (evc (ev rfl) evn))) ?_
  refine (dh w2 HQ.out).mono ?_
  rintro e w3 ⟨rfl, hb⟩
  have HT3 := Lib.hid (HT2.out.call hb)
  clear hb HT2
  refine ⟨_, rfl, ?_⟩
  simp only [Act.put, aa, ac, ae]
  refine ag (v := .bool true) (ah rfl rfl rfl rfl) (aE false rfl (ev rfl)) ?_
  simp only [Act.put, aa, ac, ae]
  refine af (v := .bool true) rfl (aB rfl (ev rfl) (ev rfl)) ?_
  simp only [Act.put, aa, ac, ae]
  refine wpList_nil ?_
  go_upto_region 2 with fail
  refine wp_region_lit ?_
  refine af rfl (aM rfl (ev rfl) (HT3.out.at0)) ?_
  simp only [Act.put, aa, ac, ae]
  refine av rfl (cM rfl (ev rfl) (ev rfl) HT3.out.at1) ?_
  simp only [Act.put, aa, ac, ae]
  have HT4 := Lib.hid (HT3.out.put (x))
  generalize putW w3 (w.heap.size + 1) (x) = w4 at HT4 ⊢
  clear HT3
  refine af (v := .bool false) rfl (ak rfl evk) ?_
  simp only [Act.put, aa, ac, ae]
  refine wpList_nil ?_
  go_wp2_with fail
  exact bodyPost_ret (res_rt rfl _ _ _ rfl HT4.out.at1) rfl ⟨rfl, HT4.out.bel⟩
set_option maxHeartbeats 1000000 in
theorem plose_2 {x : Ros} {j : Nat} (hj : j < 16) (hf : aS x = true) (hq : hasM x (j : Int) = true) (h1 : (sta x j == 1) = true) (w : World) : Calls Tryz.prog 89 #[ros x, .int .i64 (j : Int)] w fun e w' => e = .returned (.tuple #[ros (x), .bool false]) ∧ Below w.heap.size w w' := by
  have HT1 := Lib.hid (TwoR.new w x)
  have HF := Lib.hid hf
  have HQ := Lib.hid hq
  have H1 := Lib.hid h1
  clear hf hq h1
  go_enter Tryz.func89, Tryz.ntmps89
  go_upto_region 1 with (first | (refine af rfl (aP rfl rfl) ?_) | (refine af rfl (bS rfl) ?_) | fail)
  generalize (w.alloc (.cells (aH x).toArray 28)).alloc (.cells (aH aZ).toArray 28) = w1 at *
  refine wp_region_lit ?_
  refine af rfl (aM rfl (ev rfl) (HT1.out.at0)) ?_
  simp only [Act.put, aa, ac, ae]
  refine al rfl (ap Tryz.call35 rfl (evc (ev rfl) evn)) ?_
  refine (cK w1 HF.out).mono ?_
  rintro e w2 ⟨rfl, hb⟩
  have HT2 := Lib.hid (HT1.out.call hb)
  clear hb HT1
  refine ⟨_, rfl, ?_⟩
  simp only [Act.put, aa, ac, ae]
  refine af (v := .bool false) rfl (aE true rfl (ev rfl)) ?_
  simp only [Act.put, aa, ac, ae]
  refine af (v := .bool false) rfl (ai rfl (ev rfl)) ?_
  simp only [Act.put, aa, ac, ae]
  refine ag (ah rfl rfl rfl rfl) (aM rfl (ev rfl) (HT2.out.at0)) ?_
  simp only [Act.put, aa, ac, ae]
  refine ag (ah rfl rfl rfl rfl) (ai rfl (ev rfl)) ?_
  simp only [Act.put, aa, ac, ae]
  refine al (ah rfl rfl rfl rfl) (ap Tryz.call109 rfl (evc (ev rfl) (evc (ev rfl) evn))) ?_
  refine (dh w2 HQ.out).mono ?_
  rintro e w3 ⟨rfl, hb⟩
  have HT3 := Lib.hid (HT2.out.call hb)
  clear hb HT2
  refine ⟨_, rfl, ?_⟩
  simp only [Act.put, aa, ac, ae]
  refine ag (v := .bool false) (ah rfl rfl rfl rfl) (aE true rfl (ev rfl)) ?_
  simp only [Act.put, aa, ac, ae]
  refine af (v := .bool false) rfl (aB rfl (ev rfl) (ev rfl)) ?_
  simp only [Act.put, aa, ac, ae]
  refine wpList_nil ?_
  go_upto_region 3 with fail
  refine wp_region_lit ?_
  refine af rfl (ai rfl (ev rfl)) ?_
  simp only [Act.put, aa, ac, ae]
  refine af rfl (aj rfl (ev rfl) faR1) ?_
  simp only [Act.put, aa, ac, ae]
  refine af rfl (cu rfl (ev rfl) (ev rfl) (ix16 hj)) ?_
  simp only [Act.put, aa, ac, ae]
  refine af rfl (aq rfl (ev rfl) (ldU8 ((HT3.out.at0).sta hj))) ?_
  simp only [Act.put, aa, ac, ae]
  refine wpList_nil ?_
  go_upto_region 4 with fail
  refine wp_region_lit ?_
  refine af (v := .bool true) rfl (aw true rfl (ev rfl) evk H1.out) ?_
  simp only [Act.put, aa, ac, ae]
  refine af (v := .bool true) rfl (ak rfl (ev rfl)) ?_
  simp only [Act.put, aa, ac, ae]
  refine wpList_nil ?_
  go_upto_region 5 with fail
  refine wp_region_lit ?_
  refine af rfl (aM rfl (ev rfl) (HT3.out.at0)) ?_
  simp only [Act.put, aa, ac, ae]
  refine av rfl (cM rfl (ev rfl) (ev rfl) HT3.out.at1) ?_
  simp only [Act.put, aa, ac, ae]
  have HT4 := Lib.hid (HT3.out.put (x))
  generalize putW w3 (w.heap.size + 1) (x) = w4 at HT4 ⊢
  clear HT3
  refine af (v := .bool false) rfl (ak rfl evk) ?_
  simp only [Act.put, aa, ac, ae]
  refine wpList_nil ?_
  go_wp2_with fail
  exact bodyPost_ret (res_rt rfl _ _ _ rfl HT4.out.at1) rfl ⟨rfl, HT4.out.bel⟩
set_option maxHeartbeats 1000000 in
theorem plose_3 {x : Ros} {j : Nat} (hj : j < 16) (hf : aS x = true) (hq : hasM x (j : Int) = true) (h1 : (sta x j == 1) = false) (h2 : (sta x j == 2) = true) (w : World) : Calls Tryz.prog 89 #[ros x, .int .i64 (j : Int)] w fun e w' => e = .returned (.tuple #[ros (setS (curS x 0) j 1), .bool true]) ∧ Below w.heap.size w w' := by
  have HT1 := Lib.hid (TwoR.new w x)
  have HF := Lib.hid hf
  have HQ := Lib.hid hq
  have H1 := Lib.hid h1
  have H2 := Lib.hid h2
  clear hf hq h1 h2
  go_enter Tryz.func89, Tryz.ntmps89
  go_upto_region 1 with (first | (refine af rfl (aP rfl rfl) ?_) | (refine af rfl (bS rfl) ?_) | fail)
  generalize (w.alloc (.cells (aH x).toArray 28)).alloc (.cells (aH aZ).toArray 28) = w1 at *
  refine wp_region_lit ?_
  refine af rfl (aM rfl (ev rfl) (HT1.out.at0)) ?_
  simp only [Act.put, aa, ac, ae]
  refine al rfl (ap Tryz.call35 rfl (evc (ev rfl) evn)) ?_
  refine (cK w1 HF.out).mono ?_
  rintro e w2 ⟨rfl, hb⟩
  have HT2 := Lib.hid (HT1.out.call hb)
  clear hb HT1
  refine ⟨_, rfl, ?_⟩
  simp only [Act.put, aa, ac, ae]
  refine af (v := .bool false) rfl (aE true rfl (ev rfl)) ?_
  simp only [Act.put, aa, ac, ae]
  refine af (v := .bool false) rfl (ai rfl (ev rfl)) ?_
  simp only [Act.put, aa, ac, ae]
  refine ag (ah rfl rfl rfl rfl) (aM rfl (ev rfl) (HT2.out.at0)) ?_
  simp only [Act.put, aa, ac, ae]
  refine ag (ah rfl rfl rfl rfl) (ai rfl (ev rfl)) ?_
  simp only [Act.put, aa, ac, ae]
  refine al (ah rfl rfl rfl rfl) (ap Tryz.call109 rfl (evc (ev rfl) (evc (ev rfl) evn))) ?_
  refine (dh w2 HQ.out).mono ?_
  rintro e w3 ⟨rfl, hb⟩
  have HT3 := Lib.hid (HT2.out.call hb)
  clear hb HT2
  refine ⟨_, rfl, ?_⟩
  simp only [Act.put, aa, ac, ae]
  refine ag (v := .bool false) (ah rfl rfl rfl rfl) (aE true rfl (ev rfl)) ?_
  simp only [Act.put, aa, ac, ae]
  refine af (v := .bool false) rfl (aB rfl (ev rfl) (ev rfl)) ?_
  simp only [Act.put, aa, ac, ae]
  refine wpList_nil ?_
  go_upto_region 3 with fail
  refine wp_region_lit ?_
  refine af rfl (ai rfl (ev rfl)) ?_
  simp only [Act.put, aa, ac, ae]
  refine af rfl (aj rfl (ev rfl) faR1) ?_
  simp only [Act.put, aa, ac, ae]
  refine af rfl (cu rfl (ev rfl) (ev rfl) (ix16 hj)) ?_
  simp only [Act.put, aa, ac, ae]
  refine af rfl (aq rfl (ev rfl) (ldU8 ((HT3.out.at0).sta hj))) ?_
  simp only [Act.put, aa, ac, ae]
  refine wpList_nil ?_
  go_upto_region 4 with fail
  refine wp_region_lit ?_
  refine af (v := .bool false) rfl (aw false rfl (ev rfl) evk H1.out) ?_
  simp only [Act.put, aa, ac, ae]
  refine af (v := .bool false) rfl (ak rfl (ev rfl)) ?_
  simp only [Act.put, aa, ac, ae]
  refine wpList_nil ?_
  go_upto_region 6 with fail
  refine wp_region_lit ?_
  refine af (v := .bool true) rfl (aw true rfl (ev rfl) evk H2.out) ?_
  simp only [Act.put, aa, ac, ae]
  refine af (v := .bool true) rfl (ak rfl (ev rfl)) ?_
  simp only [Act.put, aa, ac, ae]
  refine wpList_nil ?_
  go_upto_region 7 with fail
  refine wp_region_lit ?_
  refine af rfl (aj rfl (ev rfl) faR2) ?_
  simp only [Act.put, aa, ac, ae]
  refine av rfl (exec_stI rfl (ev rfl) evk (HT3.out.at0.there (by omega))) ?_
  simp only [Act.put, aa, ac, ae]
  have HT4 := Lib.hid (HT3.out.set (celR_cur _ (0)))
  generalize setW w3 w.heap.size (19) (.int .i64 (0)) = w4 at HT4 ⊢
  clear HT3
  refine wpList_nil ?_
  go_upto_region 8 with fail
  refine wp_region_lit ?_
  refine af rfl (ai rfl (ev rfl)) ?_
  simp only [Act.put, aa, ac, ae]
  refine af rfl (aj rfl (ev rfl) faR1) ?_
  simp only [Act.put, aa, ac, ae]
  refine af rfl (cu rfl (ev rfl) (ev rfl) (ix16 hj)) ?_
  simp only [Act.put, aa, ac, ae]
  refine av rfl (exec_stS rfl (ev rfl) evk (HT4.out.at0.there (by omega))) ?_
  simp only [Act.put, aa, ac, ae]
  have HT5 := Lib.hid (HT4.out.set (celR_set1 _ hj))
  generalize setW w4 w.heap.size (3 + j) (.int .u8 1) = w5 at HT5 ⊢
  clear HT4
  refine wpList_nil ?_
  go_upto_region 9 with fail
  refine wp_region_lit ?_
  refine af rfl (aM rfl (ev rfl) (HT5.out.at0)) ?_
  simp only [Act.put, aa, ac, ae]
  refine av rfl (cM rfl (ev rfl) (ev rfl) HT5.out.at1) ?_
  simp only [Act.put, aa, ac, ae]
  have HT6 := Lib.hid (HT5.out.put (setS (curS x 0) j 1))
  generalize putW w5 (w.heap.size + 1) (setS (curS x 0) j 1) = w6 at HT6 ⊢
  clear HT5
  refine af (v := .bool true) rfl (ak rfl evk) ?_
  simp only [Act.put, aa, ac, ae]
  refine wpList_nil ?_
  go_wp2_with fail
  exact bodyPost_ret (res_rt rfl _ _ _ rfl HT6.out.at1) rfl ⟨rfl, HT6.out.bel⟩
set_option maxHeartbeats 1000000 in
theorem plose_4 {x : Ros} {j : Nat} (hj : j < 16) (hf : aS x = true) (hq : hasM x (j : Int) = true) (h1 : (sta x j == 1) = false) (h2 : (sta x j == 2) = false) (w : World) : Calls Tryz.prog 89 #[ros x, .int .i64 (j : Int)] w fun e w' => e = .returned (.tuple #[ros (setS x j 1), .bool true]) ∧ Below w.heap.size w w' := by
  have HT1 := Lib.hid (TwoR.new w x)
  have HF := Lib.hid hf
  have HQ := Lib.hid hq
  have H1 := Lib.hid h1
  have H2 := Lib.hid h2
  clear hf hq h1 h2
  go_enter Tryz.func89, Tryz.ntmps89
  go_upto_region 1 with (first | (refine af rfl (aP rfl rfl) ?_) | (refine af rfl (bS rfl) ?_) | fail)
  generalize (w.alloc (.cells (aH x).toArray 28)).alloc (.cells (aH aZ).toArray 28) = w1 at *
  refine wp_region_lit ?_
  refine af rfl (aM rfl (ev rfl) (HT1.out.at0)) ?_
  simp only [Act.put, aa, ac, ae]
  refine al rfl (ap Tryz.call35 rfl (evc (ev rfl) evn)) ?_
  refine (cK w1 HF.out).mono ?_
  rintro e w2 ⟨rfl, hb⟩
  have HT2 := Lib.hid (HT1.out.call hb)
  clear hb HT1
  refine ⟨_, rfl, ?_⟩
  simp only [Act.put, aa, ac, ae]
  refine af (v := .bool false) rfl (aE true rfl (ev rfl)) ?_
  simp only [Act.put, aa, ac, ae]
  refine af (v := .bool false) rfl (ai rfl (ev rfl)) ?_
  simp only [Act.put, aa, ac, ae]
  refine ag (ah rfl rfl rfl rfl) (aM rfl (ev rfl) (HT2.out.at0)) ?_
  simp only [Act.put, aa, ac, ae]
  refine ag (ah rfl rfl rfl rfl) (ai rfl (ev rfl)) ?_
  simp only [Act.put, aa, ac, ae]
  refine al (ah rfl rfl rfl rfl) (ap Tryz.call109 rfl (evc (ev rfl) (evc (ev rfl) evn))) ?_
  refine (dh w2 HQ.out).mono ?_
  rintro e w3 ⟨rfl, hb⟩
  have HT3 := Lib.hid (HT2.out.call hb)
  clear hb HT2
  refine ⟨_, rfl, ?_⟩
  simp only [Act.put, aa, ac, ae]
  refine ag (v := .bool false) (ah rfl rfl rfl rfl) (aE true rfl (ev rfl)) ?_
  simp only [Act.put, aa, ac, ae]
  refine af (v := .bool false) rfl (aB rfl (ev rfl) (ev rfl)) ?_
  simp only [Act.put, aa, ac, ae]
  refine wpList_nil ?_
  go_upto_region 3 with fail
  refine wp_region_lit ?_
  refine af rfl (ai rfl (ev rfl)) ?_
  simp only [Act.put, aa, ac, ae]
  refine af rfl (aj rfl (ev rfl) faR1) ?_
  simp only [Act.put, aa, ac, ae]
  refine af rfl (cu rfl (ev rfl) (ev rfl) (ix16 hj)) ?_
  simp only [Act.put, aa, ac, ae]
  refine af rfl (aq rfl (ev rfl) (ldU8 ((HT3.out.at0).sta hj))) ?_
  simp only [Act.put, aa, ac, ae]
  refine wpList_nil ?_
  go_upto_region 4 with fail
  refine wp_region_lit ?_
  refine af (v := .bool false) rfl (aw false rfl (ev rfl) evk H1.out) ?_
  simp only [Act.put, aa, ac, ae]
  refine af (v := .bool false) rfl (ak rfl (ev rfl)) ?_
  simp only [Act.put, aa, ac, ae]
  refine wpList_nil ?_
  go_upto_region 6 with fail
  refine wp_region_lit ?_
  refine af (v := .bool false) rfl (aw false rfl (ev rfl) evk H2.out) ?_
  simp only [Act.put, aa, ac, ae]
  refine af (v := .bool false) rfl (ak rfl (ev rfl)) ?_
  simp only [Act.put, aa, ac, ae]
  refine wpList_nil ?_
  go_upto_region 8 with fail
  refine wp_region_lit ?_
  refine af rfl (ai rfl (ev rfl)) ?_
  simp only [Act.put, aa, ac, ae]
  refine af rfl (aj rfl (ev rfl) faR1) ?_
  simp only [Act.put, aa, ac, ae]
  refine af rfl (cu rfl (ev rfl) (ev rfl) (ix16 hj)) ?_
  simp only [Act.put, aa, ac, ae]
  refine av rfl (exec_stS rfl (ev rfl) evk (HT3.out.at0.there (by omega))) ?_
  simp only [Act.put, aa, ac, ae]
  have HT4 := Lib.hid (HT3.out.set (celR_set1 _ hj))
  generalize setW w3 w.heap.size (3 + j) (.int .u8 1) = w4 at HT4 ⊢
  clear HT3
  refine wpList_nil ?_
  go_upto_region 9 with fail
  refine wp_region_lit ?_
  refine af rfl (aM rfl (ev rfl) (HT4.out.at0)) ?_
  simp only [Act.put, aa, ac, ae]
  refine av rfl (cM rfl (ev rfl) (ev rfl) HT4.out.at1) ?_
  simp only [Act.put, aa, ac, ae]
  have HT5 := Lib.hid (HT4.out.put (setS x j 1))
  generalize putW w4 (w.heap.size + 1) (setS x j 1) = w5 at HT5 ⊢
  clear HT4
  refine af (v := .bool true) rfl (ak rfl evk) ?_
  simp only [Act.put, aa, ac, ae]
  refine wpList_nil ?_
  go_wp2_with fail
  exact bodyPost_ret (res_rt rfl _ _ _ rfl HT5.out.at1) rfl ⟨rfl, HT5.out.bel⟩
theorem plose (x : Ros) (m : Int) (w : World) : Calls Tryz.prog 89 #[ros x, .int .i64 m] w fun e w' => e = .returned (.tuple #[ros (losX x m), .bool (losB x m)]) ∧ Below w.heap.size w w' := by
  unfold losX
  cases hf : aS x
  · rw [show losB x m = false from by unfold losB; rw [hf]; rfl]; exact plose_0 hf w
  cases hq : hasM x m
  · rw [show losB x m = false from by unfold losB; rw [hf, hq]; rfl]; exact plose_1 hf hq w
  have hm := of_hasM hq
  have hg := dD (cT hf).1
  obtain ⟨j, rfl⟩ := Int.eq_ofNat_of_zero_le hm.1
  have hj : j < 16 := by omega
  have e : losB x (j : Int) = decide (sta x j ≠ 1) := by unfold losB; rw [hf, hq]; rfl
  rw [e]
  by_cases h1 : sta x j = 1
  · rw [decide_eq_false (by simpa using h1)]; exact plose_2 hj hf hq (by simpa using h1) w
  rw [decide_eq_true (by simpa using h1), if_pos rfl]
  show Calls _ _ _ _ fun e w' => e = .returned (.tuple #[ros (if sta x j = 2 then setS (curS x 0) j 1 else setS x j 1), .bool true]) ∧ Below w.heap.size w w'
  by_cases h2 : sta x j = 2
  · rw [if_pos h2]; exact plose_3 hj hf hq (by simpa using h1) (by simpa using h2) w
  · rw [if_neg h2]; exact plose_4 hj hf hq (by simpa using h1) (by simpa using h2) w
theorem geoG (w : World) (y : Ros) : (w.alloc (.cells (cU y).toArray 25)).heap[w.heap.size]? = some (.cells (cU y).toArray 25 (0, 0)) := heap_alloc_new w _
structure TwoG (w0 w : World) (y z : Ros) : Prop where
  bel : Below w0.heap.size w0 w
  at0 : w.rangeAt w0.heap.size 0 (cU y)
  lt0 : w0.heap.size < w.heap.size
  at1 : bl w (w0.heap.size + 1) z
theorem TwoG.new (w : World) (y : Ros) : TwoG w ((w.alloc (.cells (cU y).toArray 25)).alloc (.cells (aH aZ).toArray 28)) y aZ := by
  refine ⟨((Below.refl _ w).alloc (Nat.le_refl _) _).alloc (by simp) _, a4 (t := 25) (bk (geoG w y) _), by simp only [World.size_alloc]; omega, ?_⟩
  have := bl.new (w.alloc (.cells (cU y).toArray 25)) aZ
  rwa [World.size_alloc] at this
section
variable {w0 w w' : World} {y z : Ros}
theorem TwoG.call (h : TwoG w0 w y z) (hb : Below w.heap.size w w') : TwoG w0 w' y z :=
  ⟨h.bel.trans (hb.mono h.bel.size), br h.at0 h.lt0 hb, Nat.lt_of_lt_of_le h.lt0 hb.size, h.at1.below (aD h.at1) hb⟩
theorem TwoG.put (h : TwoG w0 w y z) (z' : Ros) : TwoG w0 (putW w (w0.heap.size + 1) z') y z' :=
  ⟨eJ h.bel (by omega), (fun j v hj => by
    have := World.rangeAt_setCells_apart h.at0 (w0.heap.size + 1) 0 (aH z') (.inl (by omega))
    exact this j v hj), by rw [putW_size]; exact h.lt0, putW_at h.at1⟩
end
section
variable {ρ : Operand → Value} {o : Oper} {x : Operand} {w : World}
theorem exec_boxG {y : Ros} (ho : o.op = .box 25 x) (hx : ρ x = geo y) : (execOp ρ o).run Tryz.prog w = .ok (.value (.pointer (some ⟨w.heap.size, 0, none⟩))) (w.alloc (.cells (cU y).toArray 25)) := cy ho hx
theorem run_bldG (y : Ros) (w : World) : (Instr.build 28 #[(0, geo y)]).run Tryz.prog w = .ok (ros (gz y)) w := by
  obtain ⟨m, s, r, st, cur, gone⟩ := y
  kernel_rfl
theorem exec_bldG {y : Ros} (ho : o.op = .build 28 #[(0, x)]) (hx : ρ x = geo y) : (execOp ρ o).run Tryz.prog w = .ok (.value (ros (gz y))) w := by
  unfold execOp
  simp only [ho, hx, List.map_toArray, List.map_cons, List.map_nil, Sem.run_bind, run_bldG, Result.andThen_ok, Sem.run_pure]
end
theorem TwoG.third {w0 w : World} {y z : Ros} (h : TwoG w0 w y z) {b : Nat} (x : Ros) (hb : w0.heap.size + 1 < b) : TwoG w0 (putW w b x) y z :=
  ⟨eJ h.bel (by omega), fun j v hj => World.rangeAt_setCells_apart h.at0 b 0 (aH x) (.inl (by omega)) j v hj, by rw [putW_size]; exact h.lt0, (putW_off (by omega)).trans h.at1⟩
set_option maxHeartbeats 1000000 in
theorem rnew_0 {y : Ros} (hg : aS (gz y) = false) (w : World) : Calls Tryz.prog 15 #[geo y] w fun e w' => e = .returned (.tuple #[ros (aZ), .int .i64 2]) ∧ Below w.heap.size w w' := by
  have HT1 := Lib.hid (TwoG.new w y)
  have HG := Lib.hid hg
  clear hg
  go_enter Tryz.func15, Tryz.ntmps15
  go_upto_region 1 with (first | (refine af rfl (exec_boxG rfl rfl) ?_) | (refine af rfl (bS rfl) ?_) | fail)
  generalize (w.alloc (.cells (cU y).toArray 25)).alloc (.cells (aH aZ).toArray 28) = w1 at *
  refine wp_region_lit ?_
  refine af rfl (cR (c := y) rfl (ev rfl) HT1.out.at0) ?_
  simp only [Act.put, aa, ac, ae]
  refine af rfl (exec_bldG (y := y) rfl (ev rfl)) ?_
  simp only [Act.put, aa, ac, ae]
  refine af rfl (bS rfl) ?_
  simp only [Act.put, aa, ac, ae]
  have HA := Lib.hid (bl.new w1 aZ)
  have HT2 := Lib.hid (HT1.out.call (w' := w1.alloc (.cells (aH aZ).toArray 28)) ((Below.refl _ _).alloc (Nat.le_refl _) _))
  have HB3 : Hid (w.heap.size + 1 < w1.heap.size) := Lib.hid (aD HT1.out.at1)
  clear HT1
  generalize w1.alloc (.cells (aH aZ).toArray 28) = w2 at *
  generalize w1.heap.size = ba at *
  refine av rfl (cM rfl (ev rfl) (ev rfl) HA.out) ?_
  simp only [Act.put, aa, ac, ae]
  have HA2 := Lib.hid (putW_at (x := gz y) HA.out)
  have HT3 := Lib.hid (HT2.out.third (gz y) HB3.out)
  clear HT2 HA
  have HA := HA2
  clear HA2
  generalize putW w2 ba (gz y) = w3 at *
  refine wpList_nil ?_
  go_upto_region 2 with fail
  refine wp_region_lit ?_
  refine af rfl (aM rfl (ev rfl) HA.out) ?_
  simp only [Act.put, aa, ac, ae]
  refine al rfl (ap Tryz.call46 rfl (evc (ev rfl) evn)) ?_
  refine (rfine_b w3 HG.out).mono ?_
  rintro e w4 ⟨rfl, hb⟩
  have HT4 := Lib.hid (HT3.out.call hb)
  have HA2 := Lib.hid (HA.out.below (aD HA.out) hb)
  clear hb HT3 HA
  have HA := HA2
  clear HA2
  refine ⟨_, rfl, ?_⟩
  simp only [Act.put, aa, ac, ae]
  refine af (v := .bool true) rfl (aE false rfl (ev rfl)) ?_
  simp only [Act.put, aa, ac, ae]
  refine wpList_nil ?_
  go_upto_region 3 with fail
  refine wp_region_lit ?_
  refine af rfl (exec_bldR0 rfl) ?_
  simp only [Act.put, aa, ac, ae]
  refine av rfl (cM rfl (ev rfl) (ev rfl) HT4.out.at1) ?_
  simp only [Act.put, aa, ac, ae]
  have HT5 := Lib.hid (HT4.out.put (aZ))
  generalize putW w4 (w.heap.size + 1) (aZ) = w5 at HT5 ⊢
  clear HT4
  refine af rfl (ak rfl evk) ?_
  simp only [Act.put, aa, ac, ae]
  refine wpList_nil ?_
  go_wp2_with fail
  exact bodyPost_ret (res_rt rfl _ _ _ rfl HT5.out.at1) rfl ⟨rfl, HT5.out.bel⟩
set_option maxHeartbeats 1000000 in
theorem rnew_1 {y : Ros} (hg : aS (gz y) = true) (w : World) : Calls Tryz.prog 15 #[geo y] w fun e w' => e = .returned (.tuple #[ros (gz y), .int .i64 0]) ∧ Below w.heap.size w w' := by
  have HT1 := Lib.hid (TwoG.new w y)
  have HG := Lib.hid hg
  clear hg
  go_enter Tryz.func15, Tryz.ntmps15
  go_upto_region 1 with (first | (refine af rfl (exec_boxG rfl rfl) ?_) | (refine af rfl (bS rfl) ?_) | fail)
  generalize (w.alloc (.cells (cU y).toArray 25)).alloc (.cells (aH aZ).toArray 28) = w1 at *
  refine wp_region_lit ?_
  refine af rfl (cR (c := y) rfl (ev rfl) HT1.out.at0) ?_
  simp only [Act.put, aa, ac, ae]
  refine af rfl (exec_bldG (y := y) rfl (ev rfl)) ?_
  simp only [Act.put, aa, ac, ae]
  refine af rfl (bS rfl) ?_
  simp only [Act.put, aa, ac, ae]
  have HA := Lib.hid (bl.new w1 aZ)
  have HT2 := Lib.hid (HT1.out.call (w' := w1.alloc (.cells (aH aZ).toArray 28)) ((Below.refl _ _).alloc (Nat.le_refl _) _))
  have HB3 : Hid (w.heap.size + 1 < w1.heap.size) := Lib.hid (aD HT1.out.at1)
  clear HT1
  generalize w1.alloc (.cells (aH aZ).toArray 28) = w2 at *
  generalize w1.heap.size = ba at *
  refine av rfl (cM rfl (ev rfl) (ev rfl) HA.out) ?_
  simp only [Act.put, aa, ac, ae]
  have HA2 := Lib.hid (putW_at (x := gz y) HA.out)
  have HT3 := Lib.hid (HT2.out.third (gz y) HB3.out)
  clear HT2 HA
  have HA := HA2
  clear HA2
  generalize putW w2 ba (gz y) = w3 at *
  refine wpList_nil ?_
  go_upto_region 2 with fail
  refine wp_region_lit ?_
  refine af rfl (aM rfl (ev rfl) HA.out) ?_
  simp only [Act.put, aa, ac, ae]
  refine al rfl (ap Tryz.call46 rfl (evc (ev rfl) evn)) ?_
  refine (rfine_b w3 HG.out).mono ?_
  rintro e w4 ⟨rfl, hb⟩
  have HT4 := Lib.hid (HT3.out.call hb)
  have HA2 := Lib.hid (HA.out.below (aD HA.out) hb)
  clear hb HT3 HA
  have HA := HA2
  clear HA2
  refine ⟨_, rfl, ?_⟩
  simp only [Act.put, aa, ac, ae]
  refine af (v := .bool false) rfl (aE true rfl (ev rfl)) ?_
  simp only [Act.put, aa, ac, ae]
  refine wpList_nil ?_
  go_upto_region 4 with fail
  refine wp_region_lit ?_
  refine af rfl (aM rfl (ev rfl) HA.out) ?_
  simp only [Act.put, aa, ac, ae]
  refine av rfl (cM rfl (ev rfl) (ev rfl) HT4.out.at1) ?_
  simp only [Act.put, aa, ac, ae]
  have HT5 := Lib.hid (HT4.out.put (gz y))
  generalize putW w4 (w.heap.size + 1) (gz y) = w5 at HT5 ⊢
  clear HT4
  refine af rfl (ak rfl evk) ?_
  simp only [Act.put, aa, ac, ae]
  refine wpList_nil ?_
  go_wp2_with fail
  exact bodyPost_ret (res_rt rfl _ _ _ rfl HT5.out.at1) rfl ⟨rfl, HT5.out.bel⟩
theorem rnew (y : Ros) (w : World) : Calls Tryz.prog 15 #[geo y] w fun e w' => e = .returned (.tuple #[ros (newX y), .int .i64 (newEr y : Nat)]) ∧ Below w.heap.size w w' := by
  unfold newX newEr
  have h := fine_gz y
  cases hg : geoB y
  · exact rnew_0 (h.trans hg) w
  · exact rnew_1 (h.trans hg) w
structure Cel where
  b : Nat
  t : TypeId
  cs : List Value
section
variable {ρ : Operand → Value} {o : Oper} {x y : Operand} {w : World} {b : Nat} {c d : Ros} {t r : TypeId}
theorem res_r1 {fn : Func} {p : Tmp} (h : fn.results = #[.cell p 28]) (tmps : Array Value) (w : World) (b : Nat) (hp : tmps.getD p undef = .pointer (some ⟨b, 0, none⟩)) (hc : bl w b c) :
    (results fn tmps).run Tryz.prog w = .ok (ros c) w := res_rng h tmps w b hp hc.range Tryz.underlying28 rfl (by rw [bc]; exact sizeR)
end
section
variable {x y : Ros} {g b : Bool} {m : Int} {e : Nat} (w : World)
theorem rnew_v (h : newX x = y) (he : newEr x = e) : Calls Tryz.prog 15 #[geo x] w fun r w' => r = .returned (.tuple #[ros y, .int .i64 (e : Nat)]) ∧ Below w.heap.size w w' := by subst h he; exact rnew x w
theorem plose_v (h : losX x m = y) (hb : losB x m = b) : Calls Tryz.prog 89 #[ros x, .int .i64 m] w fun r w' => r = .returned (.tuple #[ros y, .bool b]) ∧ Below w.heap.size w w' := by subst h hb; exact plose x m w
theorem phas_b {s : Int} (h : hasB x m s = b) : Calls Tryz.prog 99 #[ros x, .int .i64 m, .int .i64 s] w fun r w' => r = .returned (.bool b) ∧ Below w.heap.size w w' := by subst h; exact phas x m s w
end
section
variable {α : Type} {E : Elt α} {ρ : Operand → Value} {o : Oper} {x y : Operand} {w : World} {A : Option Addr} {n c k B b off : Nat} {l : List α}
theorem exec_bld1 {t : TypeId} {p v : Value} (ho : o.op = .build t #[(0, x)]) (hx : ρ x = p) (h : (Instr.build t #[(0, p)]).run Tryz.prog w = .ok v w) : (execOp ρ o).run Tryz.prog w = .ok (.value v) w := by
  unfold execOp
  simp [ho, hx, h, Result.andThen]
end
section
variable {ρ : Operand → Value} {o : Oper} {x y : Operand} {w : World} {t r : TypeId} {v : Value} {a1 a2 : Addr}
theorem eqGuard_ptr (op : BinOp) (t : TypeId) (x y : Operand) (a b : Option Addr) : (eqGuard op t x y (.pointer a) (.pointer b)).run Tryz.prog w = .ok () w := by
  cases op <;> simp [eqGuard]
theorem exec_binP {op : BinOp} {m n : Option Addr} (ho : o.op = .binOp op t x y r) (hx : ρ x = .pointer m) (hy : ρ y = .pointer n) (h : (binOp op t (.pointer m) (.pointer n)).run Tryz.prog w = .ok v w) : (execOp ρ o).run Tryz.prog w = .ok (.value v) w := by
  unfold execOp
  simp only [ho, hx, hy, Sem.run_bind, eqGuard_ptr, h, Result.andThen_ok, Sem.run_pure]
theorem equalIn_nil {te : TypeId} (hp : Tryz.prog.underlying t = some (.pointer te)) (m : Option Addr) (d : Nat) : (Op.equalIn (d + 1) t (.pointer m) (.pointer none)).run Tryz.prog w = .ok (decide (m = none)) w := by
  cases m <;> simp [Op.equalIn, run_underlying hp]
theorem dG {te : TypeId} {m : Option Addr} (c : Bool) (hp : Tryz.prog.underlying t = some (.pointer te)) (ho : o.op = .binOp .eql t x y r) (hx : ρ x = .pointer m) (hy : ρ y = .pointer none) (h : decide (m = none) = c) : (execOp ρ o).run Tryz.prog w = .ok (.value (.bool c)) w := by
  subst h
  refine exec_binP ho hx hy ?_
  simp only [binOp]
  simp [Op.equal, Op.maxDepth, equalIn_nil hp m 9999]
theorem eL {te : TypeId} {m : Option Addr} (c : Bool) (hp : Tryz.prog.underlying t = some (.pointer te)) (ho : o.op = .binOp .neq t x y r) (hx : ρ x = .pointer m) (hy : ρ y = .pointer none) (h : (!decide (m = none)) = c) : (execOp ρ o).run Tryz.prog w = .ok (.value (.bool c)) w := by
  subst h
  refine exec_binP ho hx hy ?_
  simp only [binOp]
  simp [Op.equal, Op.maxDepth, equalIn_nil hp m 9999]
end
set_option maxHeartbeats 2000000 in
theorem l_sizes (N : Nat) (s : Int) (w : World) (hN : N ≤ 16) (hs : 0 ≤ s ∧ s ≤ 64) : Calls Tryz.prog 14 #[.int .i64 (N : Int), .int .i64 s] w fun e w' => ∃ v, e = .returned v ∧ bh IntE w' w.heap.size v (szK N s) ∧ Below w.heap.size w w' := by
  have HN := Lib.hid hN
  have HAD : Hid (IntKind.i64.wrap (2 + s) = 2 + s) := Lib.hid (i64q_ (by omega))
  clear hN hs
  go_enter Tryz.func14, Tryz.ntmps14
  go_wp2_with fail
  go_loopw [5, 6] (fun v z wr => ∃ i : Nat, z = .int .i64 i ∧ i ≤ N ∧ bh IntE wr w.heap.size v (List.replicate i (2 + s)) ∧ Below w.heap.size w wr) (fun _ z _ => N - (intOf z).toNat)
  case atStart => exact ⟨0, by go_num, Nat.zero_le _, bh.nil _ _, Below.refl _ _⟩
  case round =>
    obtain ⟨i, rfl, hi, hm, hb⟩ := hrel
    have HM := Lib.hid hm
    have HW := Lib.hid hb
    have HBS : Hid (w.heap.size ≤ wr.heap.size) := Lib.hid hb.size
    clear hm hb
    by_cases hlt : i < N
    · have HI := Lib.hid hlt
      have HT : Hid (decide ((i : Int) < (N : Int)) = true) := Lib.hid (decide_eq_true (by omega))
      have HA : Hid (IntKind.i64.wrap ((i : Int) + 1) = ((i + 1 : Nat) : Int)) := Lib.hid (by have := HN.out; rw [i64q_ ⟨by omega, by omega⟩]; omega)
      have hsz : (wr.alloc (.cells #[.int .i64 (2 + s)] 3)).heap.size = wr.heap.size + 1 := World.size_alloc ..
      obtain ⟨v2, w2, hrun, hm2, hg2⟩ := run_appE IntE (wr.alloc (.cells #[.int .i64 (2 + s)] 3)) 22 w.heap.size (wr.heap.size + 1) 1 1 u5 (List.replicate i (2 + s)) [2 + s] (some ⟨wr.heap.size, 0, none⟩) (bh.below HM.out ((Below.refl _ _).alloc (Nat.le_refl _) _)) (rdE_new (E := IntE) (l := [2 + s]) wr #[.int .i64 (2 + s)] 3 rfl) (by have := HBS.out; omega) (by have := HN.out; simp; omega)
      have HRUN := Lib.hid hrun
      have HM2 : Hid (bh IntE w2 w.heap.size v2 (List.replicate (i + 1) (2 + s))) := Lib.hid (by rw [List.replicate_succ']; exact hm2)
      have HW2 : Hid (Below w.heap.size w w2) := Lib.hid ((HW.out.trans ((Below.refl _ _).alloc HBS.out _)).grown hg2 (by have := HBS.out; omega) (fun j' hj' => HM.out.lt_own j' hj'))
      clear hi hlt hsz hrun hm2 hg2
      go_upto_region 3 with fail
      refine wp_region_lit ?_
      refine af rfl (ai rfl (ev rfl)) ?_
      simp only [Act.put, aa, ac, ae]
      refine af rfl (ai rfl (ev rfl)) ?_
      simp only [Act.put, aa, ac, ae]
      refine af (v := .bool true) rfl (bH true rfl (ev rfl) (ev rfl) HT.out) ?_
      simp only [Act.put, aa, ac, ae]
      refine wpList_nil ?_
      go_upto_region 5 with fail
      refine wp_region_lit ?_
      refine af rfl (ai rfl (ev rfl)) ?_
      simp only [Act.put, aa, ac, ae]
      refine af rfl (ai rfl (ev rfl)) ?_
      simp only [Act.put, aa, ac, ae]
      refine af rfl (bI rfl evk (ev rfl) HAD.out) ?_
      simp only [Act.put, aa, ac, ae]
      refine af rfl (exec_mk1E (E := IntE) (a := 2 + s) rfl (ev rfl) rfl (by decide)) ?_
      simp only [Act.put, aa, ac, ae]
      refine af rfl (exec_appE (E := IntE) rfl (ev rfl) (ev rfl) HRUN.out) ?_
      simp only [Act.put, aa, ac, ae]
      refine af rfl (ak rfl (ev rfl)) ?_
      simp only [Act.put, aa, ac, ae]
      refine wpList_nil ?_
      go_upto_region 4 with fail
      refine wp_region_lit ?_
      refine af rfl (ai rfl (ev rfl)) ?_
      simp only [Act.put, aa, ac, ae]
      refine af rfl (bI rfl (ev rfl) evk HA.out) ?_
      simp only [Act.put, aa, ac, ae]
      refine af rfl (ak rfl (ev rfl)) ?_
      simp only [Act.put, aa, ac, ae]
      refine wpList_nil ?_
      go_wp2_with fail
      go_roundw
      case rel => exact ⟨i + 1, by go_num, HI.out, HM2.out, HW2.out⟩
      case measure => have := HI.out; simp [intOf]; omega
    have hin : i = N := by omega
    subst hin
    have HT : Hid (decide ((i : Int) < (i : Int)) = false) := Lib.hid (decide_eq_false (by omega))
    have hsz : (wr.alloc (.cells #[.int .i64 50] 3)).heap.size = wr.heap.size + 1 := World.size_alloc ..
    obtain ⟨v2, w2, hrun, hm2, hg2⟩ := run_appE IntE (wr.alloc (.cells #[.int .i64 50] 3)) 22 w.heap.size (wr.heap.size + 1) 1 1 u5 (List.replicate i (2 + s)) [50] (some ⟨wr.heap.size, 0, none⟩) (bh.below HM.out ((Below.refl _ _).alloc (Nat.le_refl _) _)) (rdE_new (E := IntE) (l := [50]) wr #[.int .i64 50] 3 rfl) (by have := HBS.out; omega) (by have := HN.out; simp; omega)
    have HRUN := Lib.hid hrun
    have HM2 : Hid (bh IntE w2 w.heap.size v2 (szK i s)) := Lib.hid hm2
    have HW2 : Hid (Below w.heap.size w w2) := Lib.hid ((HW.out.trans ((Below.refl _ _).alloc HBS.out _)).grown hg2 (by have := HBS.out; omega) (fun j' hj' => HM.out.lt_own j' hj'))
    clear hi hlt hsz hrun hm2 hg2
    go_upto_region 3 with fail
    refine wp_region_lit ?_
    refine af rfl (ai rfl (ev rfl)) ?_
    simp only [Act.put, aa, ac, ae]
    refine af rfl (ai rfl (ev rfl)) ?_
    simp only [Act.put, aa, ac, ae]
    refine af (v := .bool false) rfl (bH false rfl (ev rfl) (ev rfl) HT.out) ?_
    simp only [Act.put, aa, ac, ae]
    refine wpList_nil ?_
    go_upto_region 6 with fail
    refine wp_region_lit ?_
    refine af rfl (ai rfl (ev rfl)) ?_
    simp only [Act.put, aa, ac, ae]
    refine af rfl (exec_mk1E (E := IntE) (a := 50) rfl evk rfl (by decide)) ?_
    simp only [Act.put, aa, ac, ae]
    refine af rfl (exec_appE (E := IntE) rfl (ev rfl) (ev rfl) HRUN.out) ?_
    simp only [Act.put, aa, ac, ae]
    refine af rfl (ak rfl (ev rfl)) ?_
    simp only [Act.put, aa, ac, ae]
    refine wpList_nil ?_
    go_wp2_with fail
    go_ret
    exact ⟨v2, rfl, HM2.out, HW2.out⟩
theorem run_bldG40 (a b : Int) (w : World) : (Instr.build 25 #[(0, .int .i64 a), (1, .int .i64 b), (2, .int .i64 40)]).run Tryz.prog w = .ok (.agg #[.int .i64 a, .int .i64 b, .int .i64 40]) w := by kernel_rfl
theorem exec_bldG40 {ρ : Operand → Value} {o : Oper} {x y z : Operand} {w : World} {a b : Int} (ho : o.op = .build 25 #[(0, x), (1, y), (2, z)]) (hx : ρ x = .int .i64 a) (hy : ρ y = .int .i64 b) (hz : ρ z = .int .i64 40) : (execOp ρ o).run Tryz.prog w = .ok (.value (.agg #[.int .i64 a, .int .i64 b, .int .i64 40])) w := by
  unfold execOp
  simp only [ho, hx, hy, hz, List.map_toArray, List.map_cons, List.map_nil, Sem.run_bind, run_bldG40, Result.andThen_ok, Sem.run_pure]
theorem zeroG3 : (Tryz.prog.info? 25).map (fun i => i.zero) = some (some (.agg ([.int .i64 0, .int .i64 0, .int .i64 0] : List Value).toArray)) := by kernel_rfl
set_option maxHeartbeats 1000000 in
theorem l_geo (a b N : Nat) (s : Int) (w : World) (ha : a < 256) (hb : b < 256) (hN : 3 + a % 4 = N) (hs : 1 + ((b % 8 : Nat) : Int) = s) : Calls Tryz.prog 13 #[.int .u8 (a : Int), .int .u8 (b : Int)] w fun e w' => e = .returned (geo (neR N s)) ∧ Below w.heap.size w w' := by
  have HB1 : Hid (Below w.heap.size w (w.alloc (.cells ([.int .i64 (N : Int), .int .i64 s, .int .i64 40] : List Value).toArray 25))) := Lib.hid ((Below.refl _ _).alloc (Nat.le_refl _) _)
  have HR := Lib.hid (cg w [.int .i64 (N : Int), .int .i64 s, .int .i64 40] 25)
  have HRA : Hid ((a : Int).tmod 4 = ((a % 4 : Nat) : Int)) := Lib.hid rfl
  have HRB : Hid ((b : Int).tmod 8 = ((b % 8 : Nat) : Int)) := Lib.hid rfl
  have HCA : Hid (IntKind.i64.wrap ((a % 4 : Nat) : Int) = ((a % 4 : Nat) : Int)) := Lib.hid (i64q_ (by omega))
  have HCB : Hid (IntKind.i64.wrap ((b % 8 : Nat) : Int) = ((b % 8 : Nat) : Int)) := Lib.hid (i64q_ (by omega))
  have HAA : Hid (IntKind.i64.wrap (3 + ((a % 4 : Nat) : Int)) = (N : Int)) := Lib.hid (by rw [i64q_ (by omega)]; omega)
  have HAB : Hid (IntKind.i64.wrap (1 + ((b % 8 : Nat) : Int)) = s) := Lib.hid (by rw [i64q_ (by omega)]; exact hs)
  clear ha hb hN hs
  go_enter Tryz.func13, Tryz.ntmps13
  go_upto_region 0 with fail
  refine wp_region_lit ?_
  refine af rfl (cZ (cs := [.int .i64 0, .int .i64 0, .int .i64 0]) zeroG3 rfl) ?_
  simp only [Act.put, aa, ac, ae]
  refine wpList_nil ?_
  go_upto_region 1 with fail
  refine wp_region_lit ?_
  refine af rfl (ai rfl (ev rfl)) ?_
  simp only [Act.put, aa, ac, ae]
  refine af rfl (exec_rem8 rfl (ev rfl) evk (by decide) HRA.out) ?_
  simp only [Act.put, aa, ac, ae]
  refine af rfl (exec_cv8 rfl (ev rfl) HCA.out) ?_
  simp only [Act.put, aa, ac, ae]
  refine af rfl (bI rfl evk (ev rfl) HAA.out) ?_
  simp only [Act.put, aa, ac, ae]
  refine af rfl (ai rfl (ev rfl)) ?_
  simp only [Act.put, aa, ac, ae]
  refine af rfl (exec_rem8 rfl (ev rfl) evk (by decide) HRB.out) ?_
  simp only [Act.put, aa, ac, ae]
  refine af rfl (exec_cv8 rfl (ev rfl) HCB.out) ?_
  simp only [Act.put, aa, ac, ae]
  refine af rfl (bI rfl evk (ev rfl) HAB.out) ?_
  simp only [Act.put, aa, ac, ae]
  refine af rfl (exec_bldG40 rfl (ev rfl) (ev rfl) evk) ?_
  simp only [Act.put, aa, ac, ae]
  refine av rfl (eE (cs := [.int .i64 (N : Int), .int .i64 s, .int .i64 40]) (ds := [.int .i64 0, .int .i64 0, .int .i64 0]) (by kernel_rfl) rfl (by intro v hv; simp only [List.mem_cons, List.not_mem_nil, or_false] at hv; rcases hv with rfl | rfl | rfl <;> rfl) rfl (ev rfl) (ev rfl)) ?_
  simp only [Act.put, aa, ac, ae]
  refine wpList_nil ?_
  go_wp2_with fail
  exact bodyPost_ret (res_rng rfl _ _ _ rfl HR.out Tryz.underlying25 rfl (by kernel_rfl)) rfl ⟨rfl, HB1.out⟩
theorem szK_ok {N : Nat} {s : Int} (hN : N ≤ 16) (hs : 1 ≤ s ∧ s ≤ 64) : newOk (szK N s) := by
  refine ⟨by rw [szK_len]; omega, by rw [szK_len]; omega, fun k hk => ?_⟩
  unfold szK at hk
  rcases List.mem_append.1 hk with h | h
  · have := (List.mem_replicate.1 h).2; omega
  · simp at h; omega
theorem hnw_new {N : Nat} {s : Int} (h1 : 3 ≤ N) (h2 : N ≤ 16) (h3 : 1 ≤ s ∧ s ≤ 64) {ev : Nat} (hev : ev ≤ 2305843009213693952) : hnwB (cE (szK N s)) 9 ev (neR N s) = true := by
  have hsec : ∀ k, k ≤ N → secK (cE (szK N s)) (neR N s) k = true := fun k hk => by
    induction k with
    | zero => rfl
    | succ k ih =>
      refine secK_step (ih (by omega)) ?_
      have e : seN6 (cE (szK N s)) (k : Int) = ((2 + s).toNat : Int) := by
        unfold seN6
        rw [if_pos (hasE_ok (by rw [dQ]; omega))]
        show (((cE (szK N s)).ds.getD k bq).S.length : Int) = _
        rw [newK_at (by omega)]
        show ((List.replicate (2 + s).toNat au).length : Int) = _
        rw [List.length_replicate]
      rw [e]
      show ¬ (((2 + s).toNat : Nat) : Int) < 2 + s
      omega
  unfold hnwB
  rw [neR_fine h1 h2 h3.1 h3.2, dQ, show (neR N s).m.toNat = N from neR_m N s, hsec N (Nat.le_refl _), decide_eq_false (show ¬ (9 : Nat) = 0 by decide), decide_eq_false (show ¬ 2305843009213693952 < ev by omega), decide_eq_true (show ((N + 1 : Nat) : Int) = (neR N s).m + 1 from rfl)]
  rfl
theorem ne_new {N : Nat} {s : Int} (h1 : 3 ≤ N) (h2 : N ≤ 16) (h3 : 1 ≤ s ∧ s ≤ 64) : newX (neR N s) = neR N s ∧ newEr (neR N s) = 0 := by
  have hg : geoB (neR N s) = true := decide_eq_true ⟨by show 3 ≤ (N : Int); omega, by show (N : Int) ≤ 16; omega, h3.1, h3.2, by show (40 : Int) ≤ 40; omega, by show (40 : Int) ≤ 256; omega⟩
  constructor
  · unfold newX; rw [hg]; rfl
  · unfold newEr; rw [hg]; rfl
theorem geoAt {w : World} {b : Nat} {N : Nat} {s : Int} (h : w.heap[b]? = some (.cells (cU (neR N s)).toArray 25 (0, 0))) : w.cell? ⟨b, 0, none⟩ = some (.int .i64 (N : Int)) ∧ w.cell? ⟨b, 1, none⟩ = some (.int .i64 s) := ⟨(a4 h) 0 _ rfl, (a4 h) 1 _ rfl⟩
set_option maxHeartbeats 4000000 in
theorem l_both (C : HulI) (N : Nat) (s : Int) (w : World) (T : Tab w) (h1 : 3 ≤ N) (h2 : N ≤ 16) (h3 : 1 ≤ s ∧ s ≤ 64) : Calls Tryz.prog 37 #[geo (neR N s)] w fun e w' => ∃ p q p2, e = .returned (.tuple #[.pointer (some ⟨p, 0, none⟩), .pointer (some ⟨q, 0, none⟩), .pointer (some ⟨p2, 0, none⟩)]) ∧ HAt C w w.heap.size (fun _ => False) w' q p ⟨cE (szK N s), 9, 0, neR N s⟩ := by
  obtain ⟨w1, hw1⟩ : ∃ w1, w.alloc (.cells (cU (neR N s)).toArray 25) = w1 := ⟨_, rfl⟩
  have hb1 : Below w.heap.size w w1 := by rw [← hw1]; exact (Below.refl _ _).alloc (Nat.le_refl _) _
  have hg1 : w1.heap[w.heap.size]? = some (.cells (cU (neR N s)).toArray 25 (0, 0)) := by rw [← hw1]; exact heap_alloc_new w _
  have HW1 := Lib.hid hw1
  have HB1 := Lib.hid hb1
  have HG1 := Lib.hid hg1
  have HT := Lib.hid T
  have HN16 := Lib.hid h2
  have HS64 : Hid (0 ≤ s ∧ s ≤ 64) := Lib.hid (by omega)
  have HOK := Lib.hid (szK_ok h2 h3)
  have HNW := Lib.hid (ne_new h1 h2 h3)
  have HH := Lib.hid (hnw_new h1 h2 h3 (ev := 0) (by omega))
  clear hw1 hb1 hg1 T h1 h2 h3
  go_enter Tryz.func37, Tryz.ntmps37
  go_upto_region 0 with fail
  refine wp_region_lit ?_
  refine af rfl (cy (cs := cU (neR N s)) rfl (ev rfl)) ?_
  simp only [Act.put, aa, ac, ae]
  rw [HW1.out]
  refine af rfl (ak rfl evk) ?_
  simp only [Act.put, aa, ac, ae]
  refine af rfl (ak rfl evk) ?_
  simp only [Act.put, aa, ac, ae]
  refine af rfl (ak rfl evk) ?_
  simp only [Act.put, aa, ac, ae]
  refine wpList_nil ?_
  go_upto_region 1 with fail
  refine wp_region_lit ?_
  refine af rfl (aj rfl (ev rfl) faG0) ?_
  simp only [Act.put, aa, ac, ae]
  refine af rfl (aq rfl (ev rfl) (aW (geoAt HG1.out).1)) ?_
  simp only [Act.put, aa, ac, ae]
  refine af rfl (aj rfl (ev rfl) faG1) ?_
  simp only [Act.put, aa, ac, ae]
  refine af rfl (aq rfl (ev rfl) (aW (geoAt HG1.out).2)) ?_
  simp only [Act.put, aa, ac, ae]
  refine al rfl (ap Tryz.call14 rfl (evc (ev rfl) (evc (ev rfl) evn))) ?_
  refine (l_sizes N s w1 HN16.out HS64.out).mono ?_
  rintro e w2 ⟨v2, rfl, m2, b2⟩
  have HG2 := Lib.hid (am HG1.out b2)
  have HB2 := Lib.hid (HB1.out.trans (b2.mono HB1.out.size))
  obtain ⟨A2, c2, rfl, e21, e22⟩ := m2.form
  have HR2 := Lib.hid m2.rd
  have HC2 := Lib.hid (And.intro e21 e22)
  clear m2 b2 e21 e22
  refine ⟨_, rfl, ?_⟩
  simp only [Act.put, aa, ac, ae]
  refine al rfl (ap Tryz.call6 rfl (evc (ev rfl) evn)) ?_
  refine (C.R.new HR2.out HC2.out.1 HC2.out.2).mono ?_
  rintro e w3 ⟨b3, h3⟩
  obtain ⟨_, q, F, rfl, n3, f3⟩ | ⟨h3, _⟩ := h3
  rotate_left 1
  · exact absurd HOK.out h3
  have HG3 := Lib.hid (am HG2.out b3)
  have HB3 := Lib.hid (HB2.out.trans (b3.mono HB2.out.size))
  have HN3 := Lib.hid n3
  have HF3 : Hid (∀ b, F b → w.heap.size ≤ b) := Lib.hid fun b hb => Nat.le_trans HB2.out.size (f3 b hb)
  clear b3 n3 f3
  refine ⟨_, rfl, ?_⟩
  simp only [Act.put, aa, ac, ae]
  refine af rfl (ai rfl (ev rfl)) ?_
  simp only [Act.put, aa, ac, ae]
  refine af rfl (aU rfl (ev rfl) rfl) ?_
  simp only [Act.put, aa, ac, ae]
  refine af rfl (aU rfl (ev rfl) rfl) ?_
  simp only [Act.put, aa, ac, ae]
  refine af rfl (ak rfl (ev rfl)) ?_
  simp only [Act.put, aa, ac, ae]
  refine af rfl (ak rfl (ev rfl)) ?_
  simp only [Act.put, aa, ac, ae]
  refine wpList_nil ?_
  go_upto_region 2 with fail
  refine wp_region_lit ?_
  refine af rfl (aj rfl (ev rfl) faG0) ?_
  simp only [Act.put, aa, ac, ae]
  refine af rfl (aq rfl (ev rfl) (aW (geoAt HG3.out).1)) ?_
  simp only [Act.put, aa, ac, ae]
  refine af rfl (aj rfl (ev rfl) faG1) ?_
  simp only [Act.put, aa, ac, ae]
  refine af rfl (aq rfl (ev rfl) (aW (geoAt HG3.out).2)) ?_
  simp only [Act.put, aa, ac, ae]
  refine al rfl (ap Tryz.call14 rfl (evc (ev rfl) (evc (ev rfl) evn))) ?_
  refine (l_sizes N s w3 HN16.out HS64.out).mono ?_
  rintro e w4 ⟨v4, rfl, m4, b4⟩
  have HG4 := Lib.hid (am HG3.out b4)
  have HB4 := Lib.hid (HB3.out.trans (b4.mono HB3.out.size))
  have HN4 := Lib.hid (C.R.toBen.below HN3.out b4)
  obtain ⟨A4, c4, rfl, e41, e42⟩ := m4.form
  have HR4 := Lib.hid m4.rd
  have HC4 := Lib.hid (And.intro e41 e42)
  clear m4 b4 e41 e42
  refine ⟨_, rfl, ?_⟩
  simp only [Act.put, aa, ac, ae]
  refine al rfl (ap Tryz.call7 rfl (evc (ev rfl) evn)) ?_
  refine (cz.new HR4.out HC4.out.1 HC4.out.2).mono ?_
  rintro e w5 ⟨b5, h5⟩
  obtain ⟨_, q5, F5, rfl, n5, f5⟩ | ⟨h5, _⟩ := h5
  rotate_left 1
  · exact absurd HOK.out h5
  have HG5 := Lib.hid (am HG4.out b5)
  have HB5 := Lib.hid (HB4.out.trans (b5.mono HB4.out.size))
  have HN5 := Lib.hid (C.R.toBen.below HN4.out b5)
  have HD5 := Lib.hid n5
  clear b5 n5 f5
  refine ⟨_, rfl, ?_⟩
  simp only [Act.put, aa, ac, ae]
  refine af rfl (ai rfl (ev rfl)) ?_
  simp only [Act.put, aa, ac, ae]
  refine af rfl (aU rfl (ev rfl) rfl) ?_
  simp only [Act.put, aa, ac, ae]
  refine af rfl (aU rfl (ev rfl) rfl) ?_
  simp only [Act.put, aa, ac, ae]
  refine af rfl (ak rfl (ev rfl)) ?_
  simp only [Act.put, aa, ac, ae]
  refine af rfl (ak rfl (ev rfl)) ?_
  simp only [Act.put, aa, ac, ae]
  refine wpList_nil ?_
  go_upto_region 3 with fail
  refine wp_region_lit ?_
  refine af rfl (cR rfl (ev rfl) (a4 HG5.out)) ?_
  simp only [Act.put, aa, ac, ae]
  refine al rfl (ap Tryz.call15 rfl (evc (ev rfl) evn)) ?_
  refine (rnew_v (x := neR N s) (w := w5) HNW.out.1 HNW.out.2).mono ?_
  rintro e w6 ⟨rfl, b6⟩
  have HG6 := Lib.hid (am HG5.out b6)
  have HB6 := Lib.hid (HB5.out.trans (b6.mono HB5.out.size))
  have HN6 := Lib.hid (C.R.toBen.below HN5.out b6)
  have HD6 := Lib.hid (cz.below HD5.out b6)
  clear b6
  refine ⟨_, rfl, ?_⟩
  simp only [Act.put, aa, ac, ae]
  refine af rfl (ai rfl (ev rfl)) ?_
  simp only [Act.put, aa, ac, ae]
  refine af rfl (aU rfl (ev rfl) rfl) ?_
  simp only [Act.put, aa, ac, ae]
  refine af rfl (aU rfl (ev rfl) rfl) ?_
  simp only [Act.put, aa, ac, ae]
  refine af rfl (bS rfl) ?_
  simp only [Act.put, aa, ac, ae]
  refine av rfl (exec_fillR rfl (ev rfl) (ev rfl)) ?_
  simp only [Act.put, aa, ac, ae]
  have hx := (Below.refl w6.heap.size w6).alloc (Nat.le_refl _) (.cells (aH (neR N s)).toArray 28)
  have HG7 := Lib.hid (am HG6.out hx)
  have HB7 := Lib.hid (HB6.out.trans (hx.mono HB6.out.size))
  have HN7 := Lib.hid (C.R.toBen.below HN6.out hx)
  have HD7 := Lib.hid (cz.below HD6.out hx)
  have HX7 := Lib.hid (bl.new w6 (neR N s))
  clear hx
  obtain ⟨qx, hqx⟩ : ∃ qx, w6.heap.size = qx := ⟨_, rfl⟩
  rw [hqx] at HX7 ⊢
  clear hqx
  generalize w6.alloc (.cells (aH (neR N s)).toArray 28) = w7 at *
  refine af rfl (ak rfl (ev rfl)) ?_
  simp only [Act.put, aa, ac, ae]
  refine wpList_nil ?_
  go_upto_region 4 with fail
  refine wp_region_lit ?_
  refine af rfl (ai rfl (ev rfl)) ?_
  simp only [Act.put, aa, ac, ae]
  refine af (v := .bool false) rfl (ay false rfl (ev rfl) evk rfl) ?_
  simp only [Act.put, aa, ac, ae]
  refine af (v := .bool false) rfl (ai rfl (ev rfl)) ?_
  simp only [Act.put, aa, ac, ae]
  refine ag (ah rfl rfl rfl rfl) (ai rfl (ev rfl)) ?_
  simp only [Act.put, aa, ac, ae]
  refine ag (v := .bool false) (ah rfl rfl rfl rfl) (ay false rfl (ev rfl) evk rfl) ?_
  simp only [Act.put, aa, ac, ae]
  refine af (v := .bool false) rfl (aB rfl (ev rfl) (ev rfl)) ?_
  simp only [Act.put, aa, ac, ae]
  refine af (v := .bool false) rfl (ai rfl (ev rfl)) ?_
  simp only [Act.put, aa, ac, ae]
  refine ag (ah rfl rfl rfl rfl) (ai rfl (ev rfl)) ?_
  simp only [Act.put, aa, ac, ae]
  refine ag (v := .bool false) (ah rfl rfl rfl rfl) (ay false rfl (ev rfl) evk rfl) ?_
  simp only [Act.put, aa, ac, ae]
  refine af (v := .bool false) rfl (aB rfl (ev rfl) (ev rfl)) ?_
  simp only [Act.put, aa, ac, ae]
  refine wpList_nil ?_
  go_upto_region 6 with fail
  refine wp_region_lit ?_
  refine af rfl (ai rfl (ev rfl)) ?_
  simp only [Act.put, aa, ac, ae]
  refine af rfl (aR rfl (ev rfl) HX7.out.range) ?_
  simp only [Act.put, aa, ac, ae]
  refine al rfl (ap Tryz.call8 rfl (evc (ev rfl) (evc evk (evc evk (evc (ev rfl) evn))))) ?_
  refine (C.new_ 9 0 (neR N s) (by omega) (by omega) HN7.out).mono ?_
  rintro e w8 ⟨b8, h8⟩
  obtain ⟨_, p, G, rfl, j8, g8⟩ | ⟨h8, _⟩ := h8
  rotate_left 1
  · exact absurd (HH.out.symm.trans h8) (by decide)
  have HG8 := Lib.hid (am HG7.out b8)
  have HB8 := Lib.hid (HB7.out.trans (b8.mono HB7.out.size))
  have HX8 := Lib.hid (HX7.out.below (aD HX7.out) b8)
  have HD8 := Lib.hid (cz.below HD7.out b8)
  have HJ8 := Lib.hid j8
  have HGG : Hid (∀ b, G b → w.heap.size ≤ b) := Lib.hid fun b hb => by
    rcases g8 b hb with e | e
    · exact HF3.out b e
    · exact Nat.le_trans HB7.out.size e
  clear b8 j8 g8
  refine ⟨_, rfl, ?_⟩
  simp only [Act.put, aa, ac, ae]
  refine af rfl (ai rfl (ev rfl)) ?_
  simp only [Act.put, aa, ac, ae]
  refine af rfl (aU rfl (ev rfl) rfl) ?_
  simp only [Act.put, aa, ac, ae]
  refine af rfl (aU rfl (ev rfl) rfl) ?_
  simp only [Act.put, aa, ac, ae]
  refine af rfl (ak rfl (ev rfl)) ?_
  simp only [Act.put, aa, ac, ae]
  refine af rfl (ak rfl (ev rfl)) ?_
  simp only [Act.put, aa, ac, ae]
  refine wpList_nil ?_
  go_upto_region 7 with fail
  refine wp_region_lit ?_
  refine af rfl (ai rfl (ev rfl)) ?_
  simp only [Act.put, aa, ac, ae]
  refine af rfl (aR rfl (ev rfl) HX8.out.range) ?_
  simp only [Act.put, aa, ac, ae]
  refine al rfl (ap Tryz.call10 rfl (evc (ev rfl) (evc evk (evc evk (evc (ev rfl) evn))))) ?_
  refine (rhnew 9 0 (neR N s) w8 HD8.out).mono ?_
  rintro e w9 ⟨b9, h9⟩
  obtain ⟨_, p2, rfl, j9, _⟩ | ⟨h9, _⟩ := h9
  rotate_left 1
  · exact absurd (HH.out.symm.trans h9) (by decide)
  have HG9 := Lib.hid (am HG8.out b9)
  have HB9 := Lib.hid (HB8.out.trans (b9.mono HB8.out.size))
  have HJ9 := Lib.hid (C.below HJ8.out b9)
  clear b9 j9
  refine ⟨_, rfl, ?_⟩
  simp only [Act.put, aa, ac, ae]
  refine af rfl (ai rfl (ev rfl)) ?_
  simp only [Act.put, aa, ac, ae]
  refine af rfl (aU rfl (ev rfl) rfl) ?_
  simp only [Act.put, aa, ac, ae]
  refine af rfl (aU rfl (ev rfl) rfl) ?_
  simp only [Act.put, aa, ac, ae]
  refine af rfl (ak rfl (ev rfl)) ?_
  simp only [Act.put, aa, ac, ae]
  refine af rfl (ak rfl (ev rfl)) ?_
  simp only [Act.put, aa, ac, ae]
  refine wpList_nil ?_
  go_upto_region 8 with fail
  refine wp_region_lit ?_
  refine af rfl (ai rfl (ev rfl)) ?_
  simp only [Act.put, aa, ac, ae]
  refine af (v := .bool false) rfl (ay false rfl (ev rfl) evk rfl) ?_
  simp only [Act.put, aa, ac, ae]
  refine af (v := .bool false) rfl (ai rfl (ev rfl)) ?_
  simp only [Act.put, aa, ac, ae]
  refine ag (ah rfl rfl rfl rfl) (ai rfl (ev rfl)) ?_
  simp only [Act.put, aa, ac, ae]
  refine ag (v := .bool false) (ah rfl rfl rfl rfl) (ay false rfl (ev rfl) evk rfl) ?_
  simp only [Act.put, aa, ac, ae]
  refine af (v := .bool false) rfl (aB rfl (ev rfl) (ev rfl)) ?_
  simp only [Act.put, aa, ac, ae]
  refine wpList_nil ?_
  go_upto_region 10 with fail
  refine wp_region_lit ?_
  refine af rfl (ai rfl (ev rfl)) ?_
  simp only [Act.put, aa, ac, ae]
  refine af rfl (ai rfl (ev rfl)) ?_
  simp only [Act.put, aa, ac, ae]
  refine af rfl (ai rfl (ev rfl)) ?_
  simp only [Act.put, aa, ac, ae]
  refine af rfl (ak rfl (ev rfl)) ?_
  simp only [Act.put, aa, ac, ae]
  refine af rfl (ak rfl (ev rfl)) ?_
  simp only [Act.put, aa, ac, ae]
  refine af rfl (ak rfl (ev rfl)) ?_
  simp only [Act.put, aa, ac, ae]
  refine wpList_nil ?_
  go_wp2_with fail
  go_ret3
  exact ⟨p, q, p2, rfl, G, HJ9.out, HGG.out, HB9.out, HBas.start HT.out, fun b hb => hb.elim⟩
end Go.Proofs.YtnliphgjcaippaaGreatDoor
