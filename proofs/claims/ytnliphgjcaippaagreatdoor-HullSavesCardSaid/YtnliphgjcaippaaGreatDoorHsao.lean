import Derived.Test.YtnliphgjcaippaaGreatDoorHsan
import Derived.Test.YtnliphgjcaippaaGreatDoorHsah
import Derived.Test.YtnliphgjcaippaaGreatDoorHsal
import Derived.Test.YtnliphgjcaippaaGreatDoorHsaf
import Derived.Test.YtnliphgjcaippaaGreatDoorHsag
import Derived.Deep.DeepCutAuto
import Derived.Test.YtnliphgjcaippaaGreatDoorHsZ
namespace Go.Proofs.YtnliphgjcaippaaGreatDoor
open Go.RowKit
set_option linter.unusedVariables false
set_option linter.unusedSimpArgs false
set_option maxRecDepth 100000
structure OneR (w0 w : World) (x : Ros) : Prop where
  bel : Below w0.heap.size w0 w
  at0 : bl w w0.heap.size x
theorem OneR.new (w : World) (x : Ros) : OneR w (w.alloc (.cells (aH x).toArray 28)) x := ⟨(cj w x).2.1, (cj w x).1⟩
theorem OneR.call {w0 w w' : World} {x : Ros} (h : OneR w0 w x) (hb : Below w.heap.size w w') : OneR w0 w' x :=
  ⟨h.bel.trans (hb.mono h.bel.size), h.at0.below (aD h.at0) hb⟩
theorem OneR.above {w0 w w' : World} {x : Ros} (h : OneR w0 w x) (hb : Below w.heap.size w w') : bl w' w0.heap.size x := h.at0.below (aD h.at0) hb
section
variable {x : Ros} {m : Int} {c : Int} {b : Bool} (w : World)
theorem cK (h : aS x = b) : Calls Tryz.prog 35 #[ros x] w fun e w' => e = .returned (.bool b) ∧ Below w.heap.size w w' := by subst h; exact pmay x w
theorem rmay_b (h : aS x = b) : Calls Tryz.prog 38 #[ros x] w fun e w' => e = .returned (.bool b) ∧ Below w.heap.size w w' := by subst h; exact rmay x w
theorem dh (h : hasM x m = b) : Calls Tryz.prog 109 #[ros x, .int .i64 m] w fun e w' => e = .returned (.bool b) ∧ Below w.heap.size w w' := by subst h; exact pmember x m w
theorem pstripe_b (h : hasC x m = b) : Calls Tryz.prog 112 #[ros x, .int .i64 m] w fun e w' => e = .returned (.bool b) ∧ Below w.heap.size w w' := by subst h; exact pstripe x m w
theorem dC {n : Nat} (h : many x c = n) : Calls Tryz.prog 111 #[ros x, .int .u8 c] w fun e w' => e = .returned (.int .i64 (n : Nat)) ∧ Below w.heap.size w w' := by subst h; exact pmany x c w
end
set_option maxHeartbeats 1000000 in
theorem phas_0 {x : Ros} {m s : Int} (hf : aS x = false) (w : World) : Calls Tryz.prog 99 #[ros x, .int .i64 m, .int .i64 s] w fun e w' => e = .returned (.bool false) ∧ Below w.heap.size w w' := by
  have HT1 := Lib.hid (OneR.new w x)
  have HF := Lib.hid hf
  clear hf
  go_enter Tryz.func99, Tryz.ntmps99
  go_upto_region 1 with (first | (refine af rfl (aP rfl rfl) ?_) | fail)
  generalize w.alloc (.cells (aH x).toArray 28) = w1 at *
  refine wp_region_lit ?_
  refine af rfl (aM rfl (ev rfl) (HT1.out.at0)) ?_
  simp only [Act.put, aa, ac, ae]
  refine al rfl (ap Tryz.call35 rfl (evc (ev rfl) evn)) ?_
  refine (cK w1 HF.out).mono ?_
  rintro e w2 ⟨rfl, hb⟩
  have HT2 := Lib.hid (HT1.out.call hb)
  clear hb HT1
  refine ⟨_, rfl, ?_⟩
  simp only [Act.put, aa, ac, ae]
  refine af (v := .bool true) rfl (aE false rfl (ev rfl)) ?_
  simp only [Act.put, aa, ac, ae]
  refine aF 4 (v := .bool true) rfl (ai rfl (ev rfl)) (by kernel_rfl) ?_
  simp only [aY, List.take_succ_cons, List.take_zero, List.drop_succ_cons, List.drop_zero, Act.put, List.setIfInBounds_toArray, List.set_cons_succ, List.set_cons_zero]
  refine af (v := .bool true) rfl (aJ rfl (ev rfl) evk) ?_
  simp only [Act.put, aa, ac, ae]
  refine aF 4 (v := .bool true) rfl (ai rfl (ev rfl)) (by kernel_rfl) ?_
  simp only [aY, List.take_succ_cons, List.take_zero, List.drop_succ_cons, List.drop_zero, Act.put, List.setIfInBounds_toArray, List.set_cons_succ, List.set_cons_zero]
  refine af (v := .bool true) rfl (aJ rfl (ev rfl) evk) ?_
  simp only [Act.put, aa, ac, ae]
  refine wpList_nil ?_
  go_upto_region 2 with fail
  refine wp_region_lit ?_
  refine af (v := .bool false) rfl (ak rfl evk) ?_
  simp only [Act.put, aa, ac, ae]
  refine wpList_nil ?_
  go_wp2_with fail
  go_ret
  exact ⟨rfl, HT2.out.bel⟩
set_option maxHeartbeats 1000000 in
theorem phas_1 {x : Ros} {m s : Int} (hf : aS x = true) (hq : hasM x m = false) (w : World) : Calls Tryz.prog 99 #[ros x, .int .i64 m, .int .i64 s] w fun e w' => e = .returned (.bool false) ∧ Below w.heap.size w w' := by
  have HT1 := Lib.hid (OneR.new w x)
  have HF := Lib.hid hf
  have HQ := Lib.hid hq
  clear hf hq
  go_enter Tryz.func99, Tryz.ntmps99
  go_upto_region 1 with (first | (refine af rfl (aP rfl rfl) ?_) | fail)
  generalize w.alloc (.cells (aH x).toArray 28) = w1 at *
  refine wp_region_lit ?_
  refine af rfl (aM rfl (ev rfl) (HT1.out.at0)) ?_
  simp only [Act.put, aa, ac, ae]
  refine al rfl (ap Tryz.call35 rfl (evc (ev rfl) evn)) ?_
  refine (cK w1 HF.out).mono ?_
  rintro e w2 ⟨rfl, hb⟩
  have HT2 := Lib.hid (HT1.out.call hb)
  clear hb HT1
  refine ⟨_, rfl, ?_⟩
  simp only [Act.put, aa, ac, ae]
  refine af (v := .bool false) rfl (aE true rfl (ev rfl)) ?_
  simp only [Act.put, aa, ac, ae]
  refine af (v := .bool false) rfl (ai rfl (ev rfl)) ?_
  simp only [Act.put, aa, ac, ae]
  refine ag (ah rfl rfl rfl rfl) (aM rfl (ev rfl) (HT2.out.at0)) ?_
  simp only [Act.put, aa, ac, ae]
  refine ag (ah rfl rfl rfl rfl) (ai rfl (ev rfl)) ?_
  simp only [Act.put, aa, ac, ae]
  refine al (ah rfl rfl rfl rfl) (ap Tryz.call109 rfl (evc (ev rfl) (evc (ev rfl) evn))) ?_
  refine (dh w2 HQ.out).mono ?_
  rintro e w3 ⟨rfl, hb⟩
  have HT3 := Lib.hid (HT2.out.call hb)
  clear hb HT2
  refine ⟨_, rfl, ?_⟩
  simp only [Act.put, aa, ac, ae]
  refine ag (v := .bool true) (ah rfl rfl rfl rfl) (aE false rfl (ev rfl)) ?_
  simp only [Act.put, aa, ac, ae]
  refine af (v := .bool true) rfl (aB rfl (ev rfl) (ev rfl)) ?_
  simp only [Act.put, aa, ac, ae]
  refine aF 4 (v := .bool true) rfl (ai rfl (ev rfl)) (by kernel_rfl) ?_
  simp only [aY, List.take_succ_cons, List.take_zero, List.drop_succ_cons, List.drop_zero, Act.put, List.setIfInBounds_toArray, List.set_cons_succ, List.set_cons_zero]
  refine af (v := .bool true) rfl (aJ rfl (ev rfl) evk) ?_
  simp only [Act.put, aa, ac, ae]
  refine wpList_nil ?_
  go_upto_region 2 with fail
  refine wp_region_lit ?_
  refine af (v := .bool false) rfl (ak rfl evk) ?_
  simp only [Act.put, aa, ac, ae]
  refine wpList_nil ?_
  go_wp2_with fail
  go_ret
  exact ⟨rfl, HT3.out.bel⟩
set_option maxHeartbeats 1000000 in
theorem phas_2 {x : Ros} {m s : Int} (hf : aS x = true) (hq : hasM x m = true) (hc : hasC x s = false) (w : World) : Calls Tryz.prog 99 #[ros x, .int .i64 m, .int .i64 s] w fun e w' => e = .returned (.bool false) ∧ Below w.heap.size w w' := by
  have HT1 := Lib.hid (OneR.new w x)
  have HF := Lib.hid hf
  have HQ := Lib.hid hq
  have HC := Lib.hid hc
  clear hf hq hc
  go_enter Tryz.func99, Tryz.ntmps99
  go_upto_region 1 with (first | (refine af rfl (aP rfl rfl) ?_) | fail)
  generalize w.alloc (.cells (aH x).toArray 28) = w1 at *
  refine wp_region_lit ?_
  refine af rfl (aM rfl (ev rfl) (HT1.out.at0)) ?_
  simp only [Act.put, aa, ac, ae]
  refine al rfl (ap Tryz.call35 rfl (evc (ev rfl) evn)) ?_
  refine (cK w1 HF.out).mono ?_
  rintro e w2 ⟨rfl, hb⟩
  have HT2 := Lib.hid (HT1.out.call hb)
  clear hb HT1
  refine ⟨_, rfl, ?_⟩
  simp only [Act.put, aa, ac, ae]
  refine af (v := .bool false) rfl (aE true rfl (ev rfl)) ?_
  simp only [Act.put, aa, ac, ae]
  refine af (v := .bool false) rfl (ai rfl (ev rfl)) ?_
  simp only [Act.put, aa, ac, ae]
  refine ag (ah rfl rfl rfl rfl) (aM rfl (ev rfl) (HT2.out.at0)) ?_
  simp only [Act.put, aa, ac, ae]
  refine ag (ah rfl rfl rfl rfl) (ai rfl (ev rfl)) ?_
  simp only [Act.put, aa, ac, ae]
  refine al (ah rfl rfl rfl rfl) (ap Tryz.call109 rfl (evc (ev rfl) (evc (ev rfl) evn))) ?_
  refine (dh w2 HQ.out).mono ?_
  rintro e w3 ⟨rfl, hb⟩
  have HT3 := Lib.hid (HT2.out.call hb)
  clear hb HT2
  refine ⟨_, rfl, ?_⟩
  simp only [Act.put, aa, ac, ae]
  refine ag (v := .bool false) (ah rfl rfl rfl rfl) (aE true rfl (ev rfl)) ?_
  simp only [Act.put, aa, ac, ae]
  refine af (v := .bool false) rfl (aB rfl (ev rfl) (ev rfl)) ?_
  simp only [Act.put, aa, ac, ae]
  refine af (v := .bool false) rfl (ai rfl (ev rfl)) ?_
  simp only [Act.put, aa, ac, ae]
  refine ag (ah rfl rfl rfl rfl) (aM rfl (ev rfl) (HT3.out.at0)) ?_
  simp only [Act.put, aa, ac, ae]
  refine ag (ah rfl rfl rfl rfl) (ai rfl (ev rfl)) ?_
  simp only [Act.put, aa, ac, ae]
  refine al (ah rfl rfl rfl rfl) (ap Tryz.call112 rfl (evc (ev rfl) (evc (ev rfl) evn))) ?_
  refine (pstripe_b w3 HC.out).mono ?_
  rintro e w4 ⟨rfl, hb⟩
  have HT4 := Lib.hid (HT3.out.call hb)
  clear hb HT3
  refine ⟨_, rfl, ?_⟩
  simp only [Act.put, aa, ac, ae]
  refine ag (v := .bool true) (ah rfl rfl rfl rfl) (aE false rfl (ev rfl)) ?_
  simp only [Act.put, aa, ac, ae]
  refine af (v := .bool true) rfl (aB rfl (ev rfl) (ev rfl)) ?_
  simp only [Act.put, aa, ac, ae]
  refine wpList_nil ?_
  go_upto_region 2 with fail
  refine wp_region_lit ?_
  refine af (v := .bool false) rfl (ak rfl evk) ?_
  simp only [Act.put, aa, ac, ae]
  refine wpList_nil ?_
  go_wp2_with fail
  go_ret
  exact ⟨rfl, HT4.out.bel⟩
set_option maxHeartbeats 1000000 in
theorem phas_3 {x : Ros} {j : Nat} {s : Int} (hj : j < 16) (hf : aS x = true) (hq : hasM x (j : Int) = true) (hc : hasC x s = true) (h0 : (sta x j == 0) = true) (w : World) : Calls Tryz.prog 99 #[ros x, .int .i64 (j : Int), .int .i64 s] w fun e w' => e = .returned (.bool true) ∧ Below w.heap.size w w' := by
  have HT1 := Lib.hid (OneR.new w x)
  have HF := Lib.hid hf
  have HQ := Lib.hid hq
  have HC := Lib.hid hc
  have H0 := Lib.hid h0
  clear hf hq hc h0
  go_enter Tryz.func99, Tryz.ntmps99
  go_upto_region 1 with (first | (refine af rfl (aP rfl rfl) ?_) | fail)
  generalize w.alloc (.cells (aH x).toArray 28) = w1 at *
  refine wp_region_lit ?_
  refine af rfl (aM rfl (ev rfl) (HT1.out.at0)) ?_
  simp only [Act.put, aa, ac, ae]
  refine al rfl (ap Tryz.call35 rfl (evc (ev rfl) evn)) ?_
  refine (cK w1 HF.out).mono ?_
  rintro e w2 ⟨rfl, hb⟩
  have HT2 := Lib.hid (HT1.out.call hb)
  clear hb HT1
  refine ⟨_, rfl, ?_⟩
  simp only [Act.put, aa, ac, ae]
  refine af (v := .bool false) rfl (aE true rfl (ev rfl)) ?_
  simp only [Act.put, aa, ac, ae]
  refine af (v := .bool false) rfl (ai rfl (ev rfl)) ?_
  simp only [Act.put, aa, ac, ae]
  refine ag (ah rfl rfl rfl rfl) (aM rfl (ev rfl) (HT2.out.at0)) ?_
  simp only [Act.put, aa, ac, ae]
  refine ag (ah rfl rfl rfl rfl) (ai rfl (ev rfl)) ?_
  simp only [Act.put, aa, ac, ae]
  refine al (ah rfl rfl rfl rfl) (ap Tryz.call109 rfl (evc (ev rfl) (evc (ev rfl) evn))) ?_
  refine (dh w2 HQ.out).mono ?_
  rintro e w3 ⟨rfl, hb⟩
  have HT3 := Lib.hid (HT2.out.call hb)
  clear hb HT2
  refine ⟨_, rfl, ?_⟩
  simp only [Act.put, aa, ac, ae]
  refine ag (v := .bool false) (ah rfl rfl rfl rfl) (aE true rfl (ev rfl)) ?_
  simp only [Act.put, aa, ac, ae]
  refine af (v := .bool false) rfl (aB rfl (ev rfl) (ev rfl)) ?_
  simp only [Act.put, aa, ac, ae]
  refine af (v := .bool false) rfl (ai rfl (ev rfl)) ?_
  simp only [Act.put, aa, ac, ae]
  refine ag (ah rfl rfl rfl rfl) (aM rfl (ev rfl) (HT3.out.at0)) ?_
  simp only [Act.put, aa, ac, ae]
  refine ag (ah rfl rfl rfl rfl) (ai rfl (ev rfl)) ?_
  simp only [Act.put, aa, ac, ae]
  refine al (ah rfl rfl rfl rfl) (ap Tryz.call112 rfl (evc (ev rfl) (evc (ev rfl) evn))) ?_
  refine (pstripe_b w3 HC.out).mono ?_
  rintro e w4 ⟨rfl, hb⟩
  have HT4 := Lib.hid (HT3.out.call hb)
  clear hb HT3
  refine ⟨_, rfl, ?_⟩
  simp only [Act.put, aa, ac, ae]
  refine ag (v := .bool false) (ah rfl rfl rfl rfl) (aE true rfl (ev rfl)) ?_
  simp only [Act.put, aa, ac, ae]
  refine af (v := .bool false) rfl (aB rfl (ev rfl) (ev rfl)) ?_
  simp only [Act.put, aa, ac, ae]
  refine wpList_nil ?_
  go_upto_region 3 with fail
  refine wp_region_lit ?_
  refine af rfl (ai rfl (ev rfl)) ?_
  simp only [Act.put, aa, ac, ae]
  refine af rfl (aj rfl (ev rfl) faR1) ?_
  simp only [Act.put, aa, ac, ae]
  refine af rfl (cu rfl (ev rfl) (ev rfl) (ix16 hj)) ?_
  simp only [Act.put, aa, ac, ae]
  refine af rfl (aq rfl (ev rfl) (ldU8 ((HT4.out.at0).sta hj))) ?_
  simp only [Act.put, aa, ac, ae]
  refine wpList_nil ?_
  go_upto_region 4 with fail
  refine wp_region_lit ?_
  refine af (v := .bool true) rfl (aw true rfl (ev rfl) evk H0.out) ?_
  simp only [Act.put, aa, ac, ae]
  refine af (v := .bool true) rfl (ak rfl (ev rfl)) ?_
  simp only [Act.put, aa, ac, ae]
  refine wpList_nil ?_
  go_upto_region 5 with fail
  refine wp_region_lit ?_
  refine af (v := .bool true) rfl (ak rfl evk) ?_
  simp only [Act.put, aa, ac, ae]
  refine wpList_nil ?_
  go_wp2_with fail
  go_ret
  exact ⟨rfl, HT4.out.bel⟩
set_option maxHeartbeats 1000000 in
theorem phas_4 {x : Ros} {j : Nat} {s : Int} (hj : j < 16) (hf : aS x = true) (hq : hasM x (j : Int) = true) (hc : hasC x s = true) (h0 : (sta x j == 0) = false) (h2 : (sta x j == 2) = true) (hl : decide (s < x.cur) = true) (w : World) : Calls Tryz.prog 99 #[ros x, .int .i64 (j : Int), .int .i64 s] w fun e w' => e = .returned (.bool true) ∧ Below w.heap.size w w' := by
  have HT1 := Lib.hid (OneR.new w x)
  have HF := Lib.hid hf
  have HQ := Lib.hid hq
  have HC := Lib.hid hc
  have H0 := Lib.hid h0
  have H2 := Lib.hid h2
  have HL := Lib.hid hl
  clear hf hq hc h0 h2 hl
  go_enter Tryz.func99, Tryz.ntmps99
  go_upto_region 1 with (first | (refine af rfl (aP rfl rfl) ?_) | fail)
  generalize w.alloc (.cells (aH x).toArray 28) = w1 at *
  refine wp_region_lit ?_
  refine af rfl (aM rfl (ev rfl) (HT1.out.at0)) ?_
  simp only [Act.put, aa, ac, ae]
  refine al rfl (ap Tryz.call35 rfl (evc (ev rfl) evn)) ?_
  refine (cK w1 HF.out).mono ?_
  rintro e w2 ⟨rfl, hb⟩
  have HT2 := Lib.hid (HT1.out.call hb)
  clear hb HT1
  refine ⟨_, rfl, ?_⟩
  simp only [Act.put, aa, ac, ae]
  refine af (v := .bool false) rfl (aE true rfl (ev rfl)) ?_
  simp only [Act.put, aa, ac, ae]
  refine af (v := .bool false) rfl (ai rfl (ev rfl)) ?_
  simp only [Act.put, aa, ac, ae]
  refine ag (ah rfl rfl rfl rfl) (aM rfl (ev rfl) (HT2.out.at0)) ?_
  simp only [Act.put, aa, ac, ae]
  refine ag (ah rfl rfl rfl rfl) (ai rfl (ev rfl)) ?_
  simp only [Act.put, aa, ac, ae]
  refine al (ah rfl rfl rfl rfl) (ap Tryz.call109 rfl (evc (ev rfl) (evc (ev rfl) evn))) ?_
  refine (dh w2 HQ.out).mono ?_
  rintro e w3 ⟨rfl, hb⟩
  have HT3 := Lib.hid (HT2.out.call hb)
  clear hb HT2
  refine ⟨_, rfl, ?_⟩
  simp only [Act.put, aa, ac, ae]
  refine ag (v := .bool false) (ah rfl rfl rfl rfl) (aE true rfl (ev rfl)) ?_
  simp only [Act.put, aa, ac, ae]
  refine af (v := .bool false) rfl (aB rfl (ev rfl) (ev rfl)) ?_
  simp only [Act.put, aa, ac, ae]
  refine af (v := .bool false) rfl (ai rfl (ev rfl)) ?_
  simp only [Act.put, aa, ac, ae]
  refine ag (ah rfl rfl rfl rfl) (aM rfl (ev rfl) (HT3.out.at0)) ?_
  simp only [Act.put, aa, ac, ae]
  refine ag (ah rfl rfl rfl rfl) (ai rfl (ev rfl)) ?_
  simp only [Act.put, aa, ac, ae]
  refine al (ah rfl rfl rfl rfl) (ap Tryz.call112 rfl (evc (ev rfl) (evc (ev rfl) evn))) ?_
  refine (pstripe_b w3 HC.out).mono ?_
  rintro e w4 ⟨rfl, hb⟩
  have HT4 := Lib.hid (HT3.out.call hb)
  clear hb HT3
  refine ⟨_, rfl, ?_⟩
  simp only [Act.put, aa, ac, ae]
  refine ag (v := .bool false) (ah rfl rfl rfl rfl) (aE true rfl (ev rfl)) ?_
  simp only [Act.put, aa, ac, ae]
  refine af (v := .bool false) rfl (aB rfl (ev rfl) (ev rfl)) ?_
  simp only [Act.put, aa, ac, ae]
  refine wpList_nil ?_
  go_upto_region 3 with fail
  refine wp_region_lit ?_
  refine af rfl (ai rfl (ev rfl)) ?_
  simp only [Act.put, aa, ac, ae]
  refine af rfl (aj rfl (ev rfl) faR1) ?_
  simp only [Act.put, aa, ac, ae]
  refine af rfl (cu rfl (ev rfl) (ev rfl) (ix16 hj)) ?_
  simp only [Act.put, aa, ac, ae]
  refine af rfl (aq rfl (ev rfl) (ldU8 ((HT4.out.at0).sta hj))) ?_
  simp only [Act.put, aa, ac, ae]
  refine wpList_nil ?_
  go_upto_region 4 with fail
  refine wp_region_lit ?_
  refine af (v := .bool false) rfl (aw false rfl (ev rfl) evk H0.out) ?_
  simp only [Act.put, aa, ac, ae]
  refine af (v := .bool false) rfl (ak rfl (ev rfl)) ?_
  simp only [Act.put, aa, ac, ae]
  refine wpList_nil ?_
  go_upto_region 6 with fail
  refine wp_region_lit ?_
  refine af (v := .bool true) rfl (aw true rfl (ev rfl) evk H2.out) ?_
  simp only [Act.put, aa, ac, ae]
  refine af (v := .bool true) rfl (ak rfl (ev rfl)) ?_
  simp only [Act.put, aa, ac, ae]
  refine wpList_nil ?_
  go_upto_region 7 with fail
  refine wp_region_lit ?_
  refine af rfl (ai rfl (ev rfl)) ?_
  simp only [Act.put, aa, ac, ae]
  refine af rfl (aj rfl (ev rfl) faR2) ?_
  simp only [Act.put, aa, ac, ae]
  refine af rfl (aq rfl (ev rfl) (aW (HT4.out.at0).cells.2.2.2.1)) ?_
  simp only [Act.put, aa, ac, ae]
  refine af (v := .bool true) rfl (bH true rfl (ev rfl) (ev rfl) HL.out) ?_
  simp only [Act.put, aa, ac, ae]
  refine af (v := .bool true) rfl (ak rfl (ev rfl)) ?_
  simp only [Act.put, aa, ac, ae]
  refine wpList_nil ?_
  go_wp2_with fail
  go_ret
  exact ⟨rfl, HT4.out.bel⟩
set_option maxHeartbeats 1000000 in
theorem phas_5 {x : Ros} {j : Nat} {s : Int} (hj : j < 16) (hf : aS x = true) (hq : hasM x (j : Int) = true) (hc : hasC x s = true) (h0 : (sta x j == 0) = false) (h2 : (sta x j == 2) = true) (hl : decide (s < x.cur) = false) (w : World) : Calls Tryz.prog 99 #[ros x, .int .i64 (j : Int), .int .i64 s] w fun e w' => e = .returned (.bool false) ∧ Below w.heap.size w w' := by
  have HT1 := Lib.hid (OneR.new w x)
  have HF := Lib.hid hf
  have HQ := Lib.hid hq
  have HC := Lib.hid hc
  have H0 := Lib.hid h0
  have H2 := Lib.hid h2
  have HL := Lib.hid hl
  clear hf hq hc h0 h2 hl
  go_enter Tryz.func99, Tryz.ntmps99
  go_upto_region 1 with (first | (refine af rfl (aP rfl rfl) ?_) | fail)
  generalize w.alloc (.cells (aH x).toArray 28) = w1 at *
  refine wp_region_lit ?_
  refine af rfl (aM rfl (ev rfl) (HT1.out.at0)) ?_
  simp only [Act.put, aa, ac, ae]
  refine al rfl (ap Tryz.call35 rfl (evc (ev rfl) evn)) ?_
  refine (cK w1 HF.out).mono ?_
  rintro e w2 ⟨rfl, hb⟩
  have HT2 := Lib.hid (HT1.out.call hb)
  clear hb HT1
  refine ⟨_, rfl, ?_⟩
  simp only [Act.put, aa, ac, ae]
  refine af (v := .bool false) rfl (aE true rfl (ev rfl)) ?_
  simp only [Act.put, aa, ac, ae]
  refine af (v := .bool false) rfl (ai rfl (ev rfl)) ?_
  simp only [Act.put, aa, ac, ae]
  refine ag (ah rfl rfl rfl rfl) (aM rfl (ev rfl) (HT2.out.at0)) ?_
  simp only [Act.put, aa, ac, ae]
  refine ag (ah rfl rfl rfl rfl) (ai rfl (ev rfl)) ?_
  simp only [Act.put, aa, ac, ae]
  refine al (ah rfl rfl rfl rfl) (ap Tryz.call109 rfl (evc (ev rfl) (evc (ev rfl) evn))) ?_
  refine (dh w2 HQ.out).mono ?_
  rintro e w3 ⟨rfl, hb⟩
  have HT3 := Lib.hid (HT2.out.call hb)
  clear hb HT2
  refine ⟨_, rfl, ?_⟩
  simp only [Act.put, aa, ac, ae]
  refine ag (v := .bool false) (ah rfl rfl rfl rfl) (aE true rfl (ev rfl)) ?_
  simp only [Act.put, aa, ac, ae]
  refine af (v := .bool false) rfl (aB rfl (ev rfl) (ev rfl)) ?_
  simp only [Act.put, aa, ac, ae]
  refine af (v := .bool false) rfl (ai rfl (ev rfl)) ?_
  simp only [Act.put, aa, ac, ae]
  refine ag (ah rfl rfl rfl rfl) (aM rfl (ev rfl) (HT3.out.at0)) ?_
  simp only [Act.put, aa, ac, ae]
  refine ag (ah rfl rfl rfl rfl) (ai rfl (ev rfl)) ?_
  simp only [Act.put, aa, ac, ae]
  refine al (ah rfl rfl rfl rfl) (ap Tryz.call112 rfl (evc (ev rfl) (evc (ev rfl) evn))) ?_
  refine (pstripe_b w3 HC.out).mono ?_
  rintro e w4 ⟨rfl, hb⟩
  have HT4 := Lib.hid (HT3.out.call hb)
  clear hb HT3
  refine ⟨_, rfl, ?_⟩
  simp only [Act.put, aa, ac, ae]
  refine ag (v := .bool false) (ah rfl rfl rfl rfl) (aE true rfl (ev rfl)) ?_
  simp only [Act.put, aa, ac, ae]
  refine af (v := .bool false) rfl (aB rfl (ev rfl) (ev rfl)) ?_
  simp only [Act.put, aa, ac, ae]
  refine wpList_nil ?_
  go_upto_region 3 with fail
  refine wp_region_lit ?_
  refine af rfl (ai rfl (ev rfl)) ?_
  simp only [Act.put, aa, ac, ae]
  refine af rfl (aj rfl (ev rfl) faR1) ?_
  simp only [Act.put, aa, ac, ae]
  refine af rfl (cu rfl (ev rfl) (ev rfl) (ix16 hj)) ?_
  simp only [Act.put, aa, ac, ae]
  refine af rfl (aq rfl (ev rfl) (ldU8 ((HT4.out.at0).sta hj))) ?_
  simp only [Act.put, aa, ac, ae]
  refine wpList_nil ?_
  go_upto_region 4 with fail
  refine wp_region_lit ?_
  refine af (v := .bool false) rfl (aw false rfl (ev rfl) evk H0.out) ?_
  simp only [Act.put, aa, ac, ae]
  refine af (v := .bool false) rfl (ak rfl (ev rfl)) ?_
  simp only [Act.put, aa, ac, ae]
  refine wpList_nil ?_
  go_upto_region 6 with fail
  refine wp_region_lit ?_
  refine af (v := .bool true) rfl (aw true rfl (ev rfl) evk H2.out) ?_
  simp only [Act.put, aa, ac, ae]
  refine af (v := .bool true) rfl (ak rfl (ev rfl)) ?_
  simp only [Act.put, aa, ac, ae]
  refine wpList_nil ?_
  go_upto_region 7 with fail
  refine wp_region_lit ?_
  refine af rfl (ai rfl (ev rfl)) ?_
  simp only [Act.put, aa, ac, ae]
  refine af rfl (aj rfl (ev rfl) faR2) ?_
  simp only [Act.put, aa, ac, ae]
  refine af rfl (aq rfl (ev rfl) (aW (HT4.out.at0).cells.2.2.2.1)) ?_
  simp only [Act.put, aa, ac, ae]
  refine af (v := .bool false) rfl (bH false rfl (ev rfl) (ev rfl) HL.out) ?_
  simp only [Act.put, aa, ac, ae]
  refine af (v := .bool false) rfl (ak rfl (ev rfl)) ?_
  simp only [Act.put, aa, ac, ae]
  refine wpList_nil ?_
  go_wp2_with fail
  go_ret
  exact ⟨rfl, HT4.out.bel⟩
set_option maxHeartbeats 1000000 in
theorem phas_6 {x : Ros} {j : Nat} {s : Int} (hj : j < 16) (hf : aS x = true) (hq : hasM x (j : Int) = true) (hc : hasC x s = true) (h0 : (sta x j == 0) = false) (h2 : (sta x j == 2) = false) (w : World) : Calls Tryz.prog 99 #[ros x, .int .i64 (j : Int), .int .i64 s] w fun e w' => e = .returned (.bool false) ∧ Below w.heap.size w w' := by
  have HT1 := Lib.hid (OneR.new w x)
  have HF := Lib.hid hf
  have HQ := Lib.hid hq
  have HC := Lib.hid hc
  have H0 := Lib.hid h0
  have H2 := Lib.hid h2
  clear hf hq hc h0 h2
  go_enter Tryz.func99, Tryz.ntmps99
  go_upto_region 1 with (first | (refine af rfl (aP rfl rfl) ?_) | fail)
  generalize w.alloc (.cells (aH x).toArray 28) = w1 at *
  refine wp_region_lit ?_
  refine af rfl (aM rfl (ev rfl) (HT1.out.at0)) ?_
  simp only [Act.put, aa, ac, ae]
  refine al rfl (ap Tryz.call35 rfl (evc (ev rfl) evn)) ?_
  refine (cK w1 HF.out).mono ?_
  rintro e w2 ⟨rfl, hb⟩
  have HT2 := Lib.hid (HT1.out.call hb)
  clear hb HT1
  refine ⟨_, rfl, ?_⟩
  simp only [Act.put, aa, ac, ae]
  refine af (v := .bool false) rfl (aE true rfl (ev rfl)) ?_
  simp only [Act.put, aa, ac, ae]
  refine af (v := .bool false) rfl (ai rfl (ev rfl)) ?_
  simp only [Act.put, aa, ac, ae]
  refine ag (ah rfl rfl rfl rfl) (aM rfl (ev rfl) (HT2.out.at0)) ?_
  simp only [Act.put, aa, ac, ae]
  refine ag (ah rfl rfl rfl rfl) (ai rfl (ev rfl)) ?_
  simp only [Act.put, aa, ac, ae]
  refine al (ah rfl rfl rfl rfl) (ap Tryz.call109 rfl (evc (ev rfl) (evc (ev rfl) evn))) ?_
  refine (dh w2 HQ.out).mono ?_
  rintro e w3 ⟨rfl, hb⟩
  have HT3 := Lib.hid (HT2.out.call hb)
  clear hb HT2
  refine ⟨_, rfl, ?_⟩
  simp only [Act.put, aa, ac, ae]
  refine ag (v := .bool false) (ah rfl rfl rfl rfl) (aE true rfl (ev rfl)) ?_
  simp only [Act.put, aa, ac, ae]
  refine af (v := .bool false) rfl (aB rfl (ev rfl) (ev rfl)) ?_
  simp only [Act.put, aa, ac, ae]
  refine af (v := .bool false) rfl (ai rfl (ev rfl)) ?_
  simp only [Act.put, aa, ac, ae]
  refine ag (ah rfl rfl rfl rfl) (aM rfl (ev rfl) (HT3.out.at0)) ?_
  simp only [Act.put, aa, ac, ae]
  refine ag (ah rfl rfl rfl rfl) (ai rfl (ev rfl)) ?_
  simp only [Act.put, aa, ac, ae]
  refine al (ah rfl rfl rfl rfl) (ap Tryz.call112 rfl (evc (ev rfl) (evc (ev rfl) evn))) ?_
  refine (pstripe_b w3 HC.out).mono ?_
  rintro e w4 ⟨rfl, hb⟩
  have HT4 := Lib.hid (HT3.out.call hb)
  clear hb HT3
  refine ⟨_, rfl, ?_⟩
  simp only [Act.put, aa, ac, ae]
  refine ag (v := .bool false) (ah rfl rfl rfl rfl) (aE true rfl (ev rfl)) ?_
  simp only [Act.put, aa, ac, ae]
  refine af (v := .bool false) rfl (aB rfl (ev rfl) (ev rfl)) ?_
  simp only [Act.put, aa, ac, ae]
  refine wpList_nil ?_
  go_upto_region 3 with fail
  refine wp_region_lit ?_
  refine af rfl (ai rfl (ev rfl)) ?_
  simp only [Act.put, aa, ac, ae]
  refine af rfl (aj rfl (ev rfl) faR1) ?_
  simp only [Act.put, aa, ac, ae]
  refine af rfl (cu rfl (ev rfl) (ev rfl) (ix16 hj)) ?_
  simp only [Act.put, aa, ac, ae]
  refine af rfl (aq rfl (ev rfl) (ldU8 ((HT4.out.at0).sta hj))) ?_
  simp only [Act.put, aa, ac, ae]
  refine wpList_nil ?_
  go_upto_region 4 with fail
  refine wp_region_lit ?_
  refine af (v := .bool false) rfl (aw false rfl (ev rfl) evk H0.out) ?_
  simp only [Act.put, aa, ac, ae]
  refine af (v := .bool false) rfl (ak rfl (ev rfl)) ?_
  simp only [Act.put, aa, ac, ae]
  refine wpList_nil ?_
  go_upto_region 6 with fail
  refine wp_region_lit ?_
  refine af (v := .bool false) rfl (aw false rfl (ev rfl) evk H2.out) ?_
  simp only [Act.put, aa, ac, ae]
  refine af (v := .bool false) rfl (ak rfl (ev rfl)) ?_
  simp only [Act.put, aa, ac, ae]
  refine wpList_nil ?_
  go_upto_region 8 with fail
  refine wp_region_lit ?_
  refine af (v := .bool false) rfl (ak rfl evk) ?_
  simp only [Act.put, aa, ac, ae]
  refine wpList_nil ?_
  go_wp2_with fail
  go_ret
  exact ⟨rfl, HT4.out.bel⟩
theorem has_z {x : Ros} {j : Nat} {s : Int} (hf : aS x = true) (hq : hasM x (j : Int) = true) (hc : hasC x s = true) : hasB x (j : Int) s = (decide (sta x j = 0) || (decide (sta x j = 2) && decide (s < x.cur))) := by
  unfold hasB
  rw [hf, hq, hc]
  rfl
theorem phas (x : Ros) (m s : Int) (w : World) : Calls Tryz.prog 99 #[ros x, .int .i64 m, .int .i64 s] w fun e w' => e = .returned (.bool (hasB x m s)) ∧ Below w.heap.size w w' := by
  cases hf : aS x
  · rw [show hasB x m s = false from by unfold hasB; rw [hf]; rfl]; exact phas_0 hf w
  cases hq : hasM x m
  · rw [show hasB x m s = false from by unfold hasB; rw [hf, hq]; rfl]; exact phas_1 hf hq w
  cases hc : hasC x s
  · rw [show hasB x m s = false from by unfold hasB; rw [hf, hq, hc]; rfl]; exact phas_2 hf hq hc w
  have hm := of_hasM hq
  have hg := dD (cT hf).1
  obtain ⟨j, rfl⟩ := Int.eq_ofNat_of_zero_le hm.1
  have hj : j < 16 := by omega
  rw [has_z hf hq hc]
  by_cases h0 : sta x j = 0
  · rw [decide_eq_true h0]; exact phas_3 hj hf hq hc (by simpa using h0) w
  rw [decide_eq_false h0]
  by_cases h2 : sta x j = 2
  · rw [decide_eq_true h2]
    by_cases hl : s < x.cur
    · rw [decide_eq_true hl]; exact phas_4 hj hf hq hc (by simpa using h0) (by simpa using h2) (decide_eq_true hl) w
    · rw [decide_eq_false hl]; exact phas_5 hj hf hq hc (by simpa using h0) (by simpa using h2) (decide_eq_false hl) w
  · rw [decide_eq_false h2]; exact phas_6 hj hf hq hc (by simpa using h0) (by simpa using h2) w
def secK (M : BenS) (x : Ros) : Nat → Bool
  | 0 => true
  | k + 1 => secK M x k && !decide (seN6 M (k : Int) < 2 + x.s)
def hnwB (M : BenS) (id ev : Nat) (x : Ros) : Bool := !decide (id = 0) && (!decide (2305843009213693952 < ev) && (aS x && (decide ((M.ds.length : Int) = x.m + 1) && secK M x x.m.toNat)))
theorem secK_no {M : BenS} {x : Ros} {i : Nat} (h : seN6 M (i : Int) < 2 + x.s) : ∀ {n : Nat}, i < n → secK M x n = false
  | 0, hi => absurd hi (by omega)
  | n + 1, hi => by
    rw [secK]
    by_cases e : i = n
    · subst e; rw [decide_eq_true h]; simp
    · rw [secK_no h (n := n) (by omega)]; rfl
theorem secK_step {M : BenS} {x : Ros} {i : Nat} (h : secK M x i = true) (h' : ¬ seN6 M (i : Int) < 2 + x.s) : secK M x (i + 1) = true := by rw [secK, h, decide_eq_false h']; rfl
def rhC (q id ev : Nat) (x : Ros) : List Value := .pointer (some ⟨q, 0, none⟩) :: .int .u64 (id : Int) :: .int .u64 (ev : Int) :: aH x
theorem zeroRh : (Tryz.prog.info? 94).map (fun i => i.zero) = some (some (.agg (.pointer none :: .int .u64 0 :: .int .u64 0 :: aH aZ).toArray)) := by kernel_rfl
section
variable {ρ : Operand → Value} {o : Oper} {x1 x2 x3 x4 : Operand} {w : World} {q id ev : Nat} {x : Ros}
theorem run_bldRh (q id ev : Nat) (x : Ros) : (Instr.build 94 #[(0, .pointer (some ⟨q, 0, none⟩)), (1, .int .u64 (id : Int)), (2, .int .u64 (ev : Int)), (3, ros x)]).run Tryz.prog w = .ok (.agg (rhC q id ev x).toArray) w := by
  have hz := run_zeroT zeroRh w
  have h0 := cH (place := fun i => (#[(0, 1), (1, 1), (2, 1), (3, 21)] : Array (Nat × Nat))[i]?) (i := 0) (off := 0) (size := 1) (v := .pointer (some ⟨q, 0, none⟩)) (pre := []) (mid := [.pointer none]) (post := .int .u64 0 :: .int .u64 0 :: aH aZ) (vs := [.pointer (some ⟨q, 0, none⟩)]) (rest := [(1, .int .u64 (id : Int)), (2, .int .u64 (ev : Int)), (3, ros x)]) rfl rfl rfl rfl rfl
  have h1 := cH (place := fun i => (#[(0, 1), (1, 1), (2, 1), (3, 21)] : Array (Nat × Nat))[i]?) (i := 1) (off := 1) (size := 1) (v := .int .u64 (id : Int)) (pre := [.pointer (some ⟨q, 0, none⟩)]) (mid := [.int .u64 0]) (post := .int .u64 0 :: aH aZ) (vs := [.int .u64 (id : Int)]) (rest := [(2, .int .u64 (ev : Int)), (3, ros x)]) rfl rfl rfl rfl rfl
  have h2 := cH (place := fun i => (#[(0, 1), (1, 1), (2, 1), (3, 21)] : Array (Nat × Nat))[i]?) (i := 2) (off := 2) (size := 1) (v := .int .u64 (ev : Int)) (pre := [.pointer (some ⟨q, 0, none⟩), .int .u64 (id : Int)]) (mid := [.int .u64 0]) (post := aH aZ) (vs := [.int .u64 (ev : Int)]) (rest := [(3, ros x)]) rfl rfl rfl rfl rfl
  have h3 := cH (place := fun i => (#[(0, 1), (1, 1), (2, 1), (3, 21)] : Array (Nat × Nat))[i]?) (i := 3) (off := 3) (size := 21) (v := ros x) (pre := [.pointer (some ⟨q, 0, none⟩), .int .u64 (id : Int), .int .u64 (ev : Int)]) (mid := aH aZ) (post := []) (vs := aH x) (rest := []) rfl rfl (bc x) rfl (bc aZ)
  simp only [List.nil_append, List.append_nil, List.cons_append] at h0 h1 h2 h3
  have h4 := h0.trans (h1.trans (h2.trans h3))
  have hz' : (zeroValue 94).run Tryz.prog w = .ok (.agg (.pointer none :: .int .u64 0 :: .int .u64 0 :: aH aZ).toArray) w := hz
  have hc : (Value.agg (.pointer none :: .int .u64 0 :: .int .u64 0 :: aH aZ).toArray).cells = (.pointer none :: .int .u64 0 :: .int .u64 0 :: aH aZ).toArray := rfl
  simp only [Instr.build, Sem.run_bind, hz', run_underlying Tryz.underlying94, Result.andThen_ok, hc]
  refine Eq.trans (congrArg (fun r => Result.andThen r _) (?h : _ = Result.ok #[(0, 1), (1, 1), (2, 1), (3, 21)] w)) ?_
  case h => kernel_rfl
  simp only [Result.andThen_ok]
  have h5 : Instr.fill (fun i => (#[(0, 1), (1, 1), (2, 1), (3, 21)] : Array (Nat × Nat))[i]?) (rhC q id ev x).toArray [] = some (rhC q id ev x).toArray := by rw [Instr.fill]
  rw [h4.trans h5]
  rfl
theorem exec_bldRh (ho : o.op = .build 94 #[(0, x1), (1, x2), (2, x3), (3, x4)]) (h1 : ρ x1 = .pointer (some ⟨q, 0, none⟩)) (h2 : ρ x2 = .int .u64 (id : Int)) (h3 : ρ x3 = .int .u64 (ev : Int)) (h4 : ρ x4 = ros x) : (execOp ρ o).run Tryz.prog w = .ok (.value (.agg (rhC q id ev x).toArray)) w := by
  unfold execOp
  simp only [ho, h1, h2, h3, h4, List.map_toArray, List.map_cons, List.map_nil, Sem.run_bind, run_bldRh, Result.andThen_ok, Sem.run_pure]
end
def RHu (w : World) (p q id ev : Nat) (x : Ros) : Prop := w.heap[p]? = some (.cells (rhC q id ev x).toArray 94 (0, 0))
theorem i64q_ {a : Int} (h : -9223372036854775808 ≤ a ∧ a ≤ 9223372036854775807) : IntKind.i64.wrap a = a := IntWalk.i64_in _ ⟨by omega, by omega⟩
section
variable {w : World} {F : Nat → Prop} {q : Nat} {M : BenS}
def RNewH (w : World) (q : Nat) (M : BenS) (id en : Nat) (x : Ros) (e : Ending) (w' : World) : Prop :=
  Below w.heap.size w w' ∧ ((hnwB M id en x = true ∧ ∃ p, e = .returned (.tuple #[.pointer (some ⟨p, 0, none⟩), .int .i64 0]) ∧ RHu w' p q id en x ∧ w.heap.size ≤ p) ∨ (hnwB M id en x = false ∧ e = .returned (.tuple #[.pointer none, .int .i64 2])))
set_option maxHeartbeats 2000000 in
theorem rhnew_0 (id en : Nat) (x : Ros) (w : World) (hb : cz.Bn w F q M) (h0 : id = 0) : Calls Tryz.prog 10 #[.pointer (some ⟨q, 0, none⟩), .int .u64 (id : Int), .int .u64 (en : Int), ros x] w (RNewH w q M id en x) := by
  obtain ⟨w1, hw1⟩ : ∃ w1, w.alloc (.cells (aH x).toArray 28) = w1 := ⟨_, rfl⟩
  obtain ⟨hx, hb1, hlt⟩ := cj w x
  rw [hw1] at hx hb1 hlt
  have HW1 := Lib.hid hw1
  have HX := Lib.hid hx
  have HB1 := Lib.hid hb1
  have HLT := Lib.hid hlt
  have HB := Lib.hid (cz.below hb hb1)
  clear hw1 hx hb1 hlt hb
  have H0 : Hid (((id : Int) == 0) = true) := Lib.hid (by rw [h0]; rfl)
  have HNO : Hid (hnwB M id en x = false) := Lib.hid (by unfold hnwB; rw [decide_eq_true h0]; rfl)
  clear h0
  go_enter Tryz.func10, Tryz.ntmps10
  go_upto_region 0 with fail
  refine wp_region_lit ?_
  refine af rfl (aP rfl (ev rfl)) ?_
  simp only [Act.put, aa, ac, ae]
  rw [HW1.out]
  refine af rfl (ak rfl evk) ?_
  simp only [Act.put, aa, ac, ae]
  refine af rfl (ak rfl evk) ?_
  simp only [Act.put, aa, ac, ae]
  refine wpList_nil ?_
  go_upto_region 1 with fail
  refine aG (B := w1.heap.size) (by kernel_rfl) ?_
  refine ao rfl (fun w' hw => ai rfl (ev rfl)) ?_
  simp only [Act.put, aa, ac, ae]
  refine ao (v := .bool true) rfl (fun w' hw => aw true rfl (ev rfl) evk H0.out) ?_
  simp only [Act.put, aa, ac, ae]
  refine eu 2 (v := .bool true) rfl (fun w' hw => ai rfl (ev rfl)) (by kernel_rfl) ?_
  simp only [aY, List.take_succ_cons, List.take_zero, List.drop_succ_cons, List.drop_zero, Act.put, List.setIfInBounds_toArray, List.set_cons_succ, List.set_cons_zero]
  refine ao (v := .bool true) rfl (fun w' hw => aJ rfl (ev rfl) evk) ?_
  simp only [Act.put, aa, ac, ae]
  refine eu 3 (v := .bool true) rfl (fun w' hw => ai rfl (ev rfl)) (by kernel_rfl) ?_
  simp only [aY, List.take_succ_cons, List.take_zero, List.drop_succ_cons, List.drop_zero, Act.put, List.setIfInBounds_toArray, List.set_cons_succ, List.set_cons_zero]
  refine ao (v := .bool true) rfl (fun w' hw => aJ rfl (ev rfl) evk) ?_
  simp only [Act.put, aa, ac, ae]
  refine eu 7 (v := .bool true) rfl (fun w' hw => ai rfl (ev rfl)) (by kernel_rfl) ?_
  simp only [aY, List.take_succ_cons, List.take_zero, List.drop_succ_cons, List.drop_zero, Act.put, List.setIfInBounds_toArray, List.set_cons_succ, List.set_cons_zero]
  refine ao (v := .bool true) rfl (fun w' hw => aJ rfl (ev rfl) evk) ?_
  simp only [Act.put, aa, ac, ae]
  refine wpQuiet_nil ?_
  intro w2 hw
  have HB2 := Lib.hid (HB1.out.trans (hw.mono HB1.out.size))
  go_wp2_with fail
  go_ret2
  exact ⟨HB2.out, .inr ⟨HNO.out, rfl⟩⟩
set_option maxHeartbeats 2000000 in
theorem rhnew_1 (id en : Nat) (x : Ros) (w : World) (hb : cz.Bn w F q M) (h0 : id ≠ 0) (h1 : 2305843009213693952 < en) : Calls Tryz.prog 10 #[.pointer (some ⟨q, 0, none⟩), .int .u64 (id : Int), .int .u64 (en : Int), ros x] w (RNewH w q M id en x) := by
  obtain ⟨w1, hw1⟩ : ∃ w1, w.alloc (.cells (aH x).toArray 28) = w1 := ⟨_, rfl⟩
  obtain ⟨hx, hb1, hlt⟩ := cj w x
  rw [hw1] at hx hb1 hlt
  have HW1 := Lib.hid hw1
  have HX := Lib.hid hx
  have HB1 := Lib.hid hb1
  have HLT := Lib.hid hlt
  have HB := Lib.hid (cz.below hb hb1)
  clear hw1 hx hb1 hlt hb
  have H0 : Hid (((id : Int) == 0) = false) := Lib.hid (beq_eq_false_iff_ne.2 (by omega))
  have H1 : Hid (decide ((2305843009213693952 : Int) < (en : Int)) = true) := Lib.hid (decide_eq_true (by omega))
  have HNO : Hid (hnwB M id en x = false) := Lib.hid (by unfold hnwB; rw [decide_eq_true h1]; simp)
  clear h0 h1
  go_enter Tryz.func10, Tryz.ntmps10
  go_upto_region 0 with fail
  refine wp_region_lit ?_
  refine af rfl (aP rfl (ev rfl)) ?_
  simp only [Act.put, aa, ac, ae]
  rw [HW1.out]
  refine af rfl (ak rfl evk) ?_
  simp only [Act.put, aa, ac, ae]
  refine af rfl (ak rfl evk) ?_
  simp only [Act.put, aa, ac, ae]
  refine wpList_nil ?_
  go_upto_region 1 with fail
  refine aG (B := w1.heap.size) (by kernel_rfl) ?_
  refine ao rfl (fun w' hw => ai rfl (ev rfl)) ?_
  simp only [Act.put, aa, ac, ae]
  refine ao (v := .bool false) rfl (fun w' hw => aw false rfl (ev rfl) evk H0.out) ?_
  simp only [Act.put, aa, ac, ae]
  refine ao (v := .bool false) rfl (fun w' hw => ai rfl (ev rfl)) ?_
  simp only [Act.put, aa, ac, ae]
  refine ao (ah rfl rfl rfl rfl) (fun w' hw => ai rfl (ev rfl)) ?_
  simp only [Act.put, aa, ac, ae]
  refine ao (v := .bool true) (ah rfl rfl rfl rfl) (fun w' hw => cG true rfl (ev rfl) evk H1.out) ?_
  simp only [Act.put, aa, ac, ae]
  refine ao (v := .bool true) rfl (fun w' hw => aB rfl (ev rfl) (ev rfl)) ?_
  simp only [Act.put, aa, ac, ae]
  refine eu 3 (v := .bool true) rfl (fun w' hw => ai rfl (ev rfl)) (by kernel_rfl) ?_
  simp only [aY, List.take_succ_cons, List.take_zero, List.drop_succ_cons, List.drop_zero, Act.put, List.setIfInBounds_toArray, List.set_cons_succ, List.set_cons_zero]
  refine ao (v := .bool true) rfl (fun w' hw => aJ rfl (ev rfl) evk) ?_
  simp only [Act.put, aa, ac, ae]
  refine eu 7 (v := .bool true) rfl (fun w' hw => ai rfl (ev rfl)) (by kernel_rfl) ?_
  simp only [aY, List.take_succ_cons, List.take_zero, List.drop_succ_cons, List.drop_zero, Act.put, List.setIfInBounds_toArray, List.set_cons_succ, List.set_cons_zero]
  refine ao (v := .bool true) rfl (fun w' hw => aJ rfl (ev rfl) evk) ?_
  simp only [Act.put, aa, ac, ae]
  refine wpQuiet_nil ?_
  intro w2 hw
  have HB2 := Lib.hid (HB1.out.trans (hw.mono HB1.out.size))
  go_wp2_with fail
  go_ret2
  exact ⟨HB2.out, .inr ⟨HNO.out, rfl⟩⟩
set_option maxHeartbeats 2000000 in
theorem rhnew_2 (id en : Nat) (x : Ros) (w : World) (hb : cz.Bn w F q M) (h0 : id ≠ 0) (h1 : ¬ 2305843009213693952 < en) (h2 : aS x = false) : Calls Tryz.prog 10 #[.pointer (some ⟨q, 0, none⟩), .int .u64 (id : Int), .int .u64 (en : Int), ros x] w (RNewH w q M id en x) := by
  obtain ⟨w1, hw1⟩ : ∃ w1, w.alloc (.cells (aH x).toArray 28) = w1 := ⟨_, rfl⟩
  obtain ⟨hx, hb1, hlt⟩ := cj w x
  rw [hw1] at hx hb1 hlt
  have HW1 := Lib.hid hw1
  have HX := Lib.hid hx
  have HB1 := Lib.hid hb1
  have HLT := Lib.hid hlt
  have HB := Lib.hid (cz.below hb hb1)
  clear hw1 hx hb1 hlt hb
  have H0 : Hid (((id : Int) == 0) = false) := Lib.hid (beq_eq_false_iff_ne.2 (by omega))
  have H1 : Hid (decide ((2305843009213693952 : Int) < (en : Int)) = false) := Lib.hid (decide_eq_false (by omega))
  have H2 := Lib.hid h2
  have HNO : Hid (hnwB M id en x = false) := Lib.hid (by unfold hnwB; rw [h2]; simp)
  clear h0 h1 h2
  go_enter Tryz.func10, Tryz.ntmps10
  go_upto_region 0 with fail
  refine wp_region_lit ?_
  refine af rfl (aP rfl (ev rfl)) ?_
  simp only [Act.put, aa, ac, ae]
  rw [HW1.out]
  refine af rfl (ak rfl evk) ?_
  simp only [Act.put, aa, ac, ae]
  refine af rfl (ak rfl evk) ?_
  simp only [Act.put, aa, ac, ae]
  refine wpList_nil ?_
  go_upto_region 1 with fail
  refine aG (B := w1.heap.size) (by kernel_rfl) ?_
  refine ao rfl (fun w' hw => ai rfl (ev rfl)) ?_
  simp only [Act.put, aa, ac, ae]
  refine ao (v := .bool false) rfl (fun w' hw => aw false rfl (ev rfl) evk H0.out) ?_
  simp only [Act.put, aa, ac, ae]
  refine ao (v := .bool false) rfl (fun w' hw => ai rfl (ev rfl)) ?_
  simp only [Act.put, aa, ac, ae]
  refine ao (ah rfl rfl rfl rfl) (fun w' hw => ai rfl (ev rfl)) ?_
  simp only [Act.put, aa, ac, ae]
  refine ao (v := .bool false) (ah rfl rfl rfl rfl) (fun w' hw => cG false rfl (ev rfl) evk H1.out) ?_
  simp only [Act.put, aa, ac, ae]
  refine ao (v := .bool false) rfl (fun w' hw => aB rfl (ev rfl) (ev rfl)) ?_
  simp only [Act.put, aa, ac, ae]
  refine ao (v := .bool false) rfl (fun w' hw => ai rfl (ev rfl)) ?_
  simp only [Act.put, aa, ac, ae]
  refine ao (ah rfl rfl rfl rfl) (fun w' hw => aR rfl (ev rfl) ((HX.out.below HLT.out hw).range)) ?_
  simp only [Act.put, aa, ac, ae]
  refine bn (ah rfl rfl rfl rfl) (fun _ => ap Tryz.call38 rfl (evc (ev rfl) evn)) (bi (Nat.le_refl _) fun w' hw => rmay_b w' H2.out) ?_
  simp only [Act.put, aa, ac, ae]
  refine ao (v := .bool true) (ah rfl rfl rfl rfl) (fun w' hw => aE false rfl (ev rfl)) ?_
  simp only [Act.put, aa, ac, ae]
  refine ao (v := .bool true) rfl (fun w' hw => aB rfl (ev rfl) (ev rfl)) ?_
  simp only [Act.put, aa, ac, ae]
  refine eu 7 (v := .bool true) rfl (fun w' hw => ai rfl (ev rfl)) (by kernel_rfl) ?_
  simp only [aY, List.take_succ_cons, List.take_zero, List.drop_succ_cons, List.drop_zero, Act.put, List.setIfInBounds_toArray, List.set_cons_succ, List.set_cons_zero]
  refine ao (v := .bool true) rfl (fun w' hw => aJ rfl (ev rfl) evk) ?_
  simp only [Act.put, aa, ac, ae]
  refine wpQuiet_nil ?_
  intro w2 hw
  have HB2 := Lib.hid (HB1.out.trans (hw.mono HB1.out.size))
  go_wp2_with fail
  go_ret2
  exact ⟨HB2.out, .inr ⟨HNO.out, rfl⟩⟩
set_option maxHeartbeats 2000000 in
theorem rhnew_3 (id en : Nat) (x : Ros) (w : World) (hb : cz.Bn w F q M) (h0 : id ≠ 0) (h1 : ¬ 2305843009213693952 < en) (h2 : aS x = true) (h3 : ¬ (M.ds.length : Int) = x.m + 1) : Calls Tryz.prog 10 #[.pointer (some ⟨q, 0, none⟩), .int .u64 (id : Int), .int .u64 (en : Int), ros x] w (RNewH w q M id en x) := by
  obtain ⟨w1, hw1⟩ : ∃ w1, w.alloc (.cells (aH x).toArray 28) = w1 := ⟨_, rfl⟩
  obtain ⟨hx, hb1, hlt⟩ := cj w x
  rw [hw1] at hx hb1 hlt
  have HW1 := Lib.hid hw1
  have HX := Lib.hid hx
  have HB1 := Lib.hid hb1
  have HLT := Lib.hid hlt
  have HB := Lib.hid (cz.below hb hb1)
  clear hw1 hx hb1 hlt hb
  have H0 : Hid (((id : Int) == 0) = false) := Lib.hid (beq_eq_false_iff_ne.2 (by omega))
  have H1 : Hid (decide ((2305843009213693952 : Int) < (en : Int)) = false) := Lib.hid (decide_eq_false (by omega))
  have H2 := Lib.hid h2
  have HAD : Hid (IntKind.i64.wrap (x.m + 1) = x.m + 1) := Lib.hid (i64q_ (by have := dD (cT h2).1; omega))
  have H3 : Hid (((M.ds.length : Int) != x.m + 1) = true) := Lib.hid (by simpa using h3)
  have HNO : Hid (hnwB M id en x = false) := Lib.hid (by unfold hnwB; rw [decide_eq_false h3]; simp)
  clear h0 h1 h2 h3
  go_enter Tryz.func10, Tryz.ntmps10
  go_upto_region 0 with fail
  refine wp_region_lit ?_
  refine af rfl (aP rfl (ev rfl)) ?_
  simp only [Act.put, aa, ac, ae]
  rw [HW1.out]
  refine af rfl (ak rfl evk) ?_
  simp only [Act.put, aa, ac, ae]
  refine af rfl (ak rfl evk) ?_
  simp only [Act.put, aa, ac, ae]
  refine wpList_nil ?_
  go_upto_region 1 with fail
  refine aG (B := w1.heap.size) (by kernel_rfl) ?_
  refine ao rfl (fun w' hw => ai rfl (ev rfl)) ?_
  simp only [Act.put, aa, ac, ae]
  refine ao (v := .bool false) rfl (fun w' hw => aw false rfl (ev rfl) evk H0.out) ?_
  simp only [Act.put, aa, ac, ae]
  refine ao (v := .bool false) rfl (fun w' hw => ai rfl (ev rfl)) ?_
  simp only [Act.put, aa, ac, ae]
  refine ao (ah rfl rfl rfl rfl) (fun w' hw => ai rfl (ev rfl)) ?_
  simp only [Act.put, aa, ac, ae]
  refine ao (v := .bool false) (ah rfl rfl rfl rfl) (fun w' hw => cG false rfl (ev rfl) evk H1.out) ?_
  simp only [Act.put, aa, ac, ae]
  refine ao (v := .bool false) rfl (fun w' hw => aB rfl (ev rfl) (ev rfl)) ?_
  simp only [Act.put, aa, ac, ae]
  refine ao (v := .bool false) rfl (fun w' hw => ai rfl (ev rfl)) ?_
  simp only [Act.put, aa, ac, ae]
  refine ao (ah rfl rfl rfl rfl) (fun w' hw => aR rfl (ev rfl) ((HX.out.below HLT.out hw).range)) ?_
  simp only [Act.put, aa, ac, ae]
  refine bn (ah rfl rfl rfl rfl) (fun _ => ap Tryz.call38 rfl (evc (ev rfl) evn)) (bi (Nat.le_refl _) fun w' hw => rmay_b w' H2.out) ?_
  simp only [Act.put, aa, ac, ae]
  refine ao (v := .bool false) (ah rfl rfl rfl rfl) (fun w' hw => aE true rfl (ev rfl)) ?_
  simp only [Act.put, aa, ac, ae]
  refine ao (v := .bool false) rfl (fun w' hw => aB rfl (ev rfl) (ev rfl)) ?_
  simp only [Act.put, aa, ac, ae]
  refine ao (v := .bool false) rfl (fun w' hw => ai rfl (ev rfl)) ?_
  simp only [Act.put, aa, ac, ae]
  refine ao (ah rfl rfl rfl rfl) (fun w' hw => ai rfl (ev rfl)) ?_
  simp only [Act.put, aa, ac, ae]
  refine bn (ah rfl rfl rfl rfl) (fun _ => ap Tryz.call39 rfl (evc (ev rfl) evn)) (bi (Nat.le_refl _) fun w' hw => cz.devices (cz.below HB.out hw)) ?_
  simp only [Act.put, aa, ac, ae]
  refine ao (ah rfl rfl rfl rfl) (fun w' hw => aj rfl (ev rfl) cD) ?_
  simp only [Act.put, aa, ac, ae]
  refine ao (ah rfl rfl rfl rfl) (fun w' hw => aj rfl (ev rfl) faG0) ?_
  simp only [Act.put, aa, ac, ae]
  refine ao (ah rfl rfl rfl rfl) (fun w' hw => aq rfl (ev rfl) (aW (HX.out.below HLT.out hw).cells.1)) ?_
  simp only [Act.put, aa, ac, ae]
  refine ao (ah rfl rfl rfl rfl) (fun w' hw => bI rfl (ev rfl) evk HAD.out) ?_
  simp only [Act.put, aa, ac, ae]
  refine ao (v := .bool true) (ah rfl rfl rfl rfl) (fun w' hw => ay true rfl (ev rfl) (ev rfl) H3.out) ?_
  simp only [Act.put, aa, ac, ae]
  refine ao (v := .bool true) rfl (fun w' hw => aB rfl (ev rfl) (ev rfl)) ?_
  simp only [Act.put, aa, ac, ae]
  refine wpQuiet_nil ?_
  intro w2 hw
  have HB2 := Lib.hid (HB1.out.trans (hw.mono HB1.out.size))
  go_wp2_with fail
  go_ret2
  exact ⟨HB2.out, .inr ⟨HNO.out, rfl⟩⟩
set_option maxHeartbeats 2000000 in
theorem rhnew_4 (id en : Nat) (x : Ros) (w : World) (hb : cz.Bn w F q M) (h0 : id ≠ 0) (h1 : ¬ 2305843009213693952 < en) (h2 : aS x = true) (h3 : (M.ds.length : Int) = x.m + 1) : Calls Tryz.prog 10 #[.pointer (some ⟨q, 0, none⟩), .int .u64 (id : Int), .int .u64 (en : Int), ros x] w (RNewH w q M id en x) := by
  obtain ⟨w1, hw1⟩ : ∃ w1, w.alloc (.cells (aH x).toArray 28) = w1 := ⟨_, rfl⟩
  obtain ⟨hx, hb1, hlt⟩ := cj w x
  rw [hw1] at hx hb1 hlt
  have HW1 := Lib.hid hw1
  have HX := Lib.hid hx
  have HB1 := Lib.hid hb1
  have HLT := Lib.hid hlt
  have HB := Lib.hid (cz.below hb hb1)
  clear hw1 hx hb1 hlt hb
  have H0 : Hid (((id : Int) == 0) = false) := Lib.hid (beq_eq_false_iff_ne.2 (by omega))
  have H1 : Hid (decide ((2305843009213693952 : Int) < (en : Int)) = false) := Lib.hid (decide_eq_false (by omega))
  have H2 := Lib.hid h2
  have hge := dD (cT h2).1
  have HGE := Lib.hid hge
  have HAD : Hid (IntKind.i64.wrap (x.m + 1) = x.m + 1) := Lib.hid (i64q_ (by omega))
  have HSD : Hid (IntKind.i64.wrap (x.s + 2) = x.s + 2) := Lib.hid (i64q_ (by omega))
  have H3 : Hid (((M.ds.length : Int) != x.m + 1) = false) := Lib.hid (by rw [h3]; exact bne_self_eq_false _)
  have HK : Hid (hnwB M id en x = secK M x x.m.toNat) := Lib.hid (by unfold hnwB; rw [decide_eq_false h0, decide_eq_false h1, h2, decide_eq_true h3]; rfl)
  clear h0 h1 h2 h3 hge
  go_enter Tryz.func10, Tryz.ntmps10
  go_upto_region 0 with fail
  refine wp_region_lit ?_
  refine af rfl (aP rfl (ev rfl)) ?_
  simp only [Act.put, aa, ac, ae]
  rw [HW1.out]
  refine af rfl (ak rfl evk) ?_
  simp only [Act.put, aa, ac, ae]
  refine af rfl (ak rfl evk) ?_
  simp only [Act.put, aa, ac, ae]
  refine wpList_nil ?_
  go_upto_region 1 with fail
  refine aG (B := w1.heap.size) (by kernel_rfl) ?_
  refine ao rfl (fun w' hw => ai rfl (ev rfl)) ?_
  simp only [Act.put, aa, ac, ae]
  refine ao (v := .bool false) rfl (fun w' hw => aw false rfl (ev rfl) evk H0.out) ?_
  simp only [Act.put, aa, ac, ae]
  refine ao (v := .bool false) rfl (fun w' hw => ai rfl (ev rfl)) ?_
  simp only [Act.put, aa, ac, ae]
  refine ao (ah rfl rfl rfl rfl) (fun w' hw => ai rfl (ev rfl)) ?_
  simp only [Act.put, aa, ac, ae]
  refine ao (v := .bool false) (ah rfl rfl rfl rfl) (fun w' hw => cG false rfl (ev rfl) evk H1.out) ?_
  simp only [Act.put, aa, ac, ae]
  refine ao (v := .bool false) rfl (fun w' hw => aB rfl (ev rfl) (ev rfl)) ?_
  simp only [Act.put, aa, ac, ae]
  refine ao (v := .bool false) rfl (fun w' hw => ai rfl (ev rfl)) ?_
  simp only [Act.put, aa, ac, ae]
  refine ao (ah rfl rfl rfl rfl) (fun w' hw => aR rfl (ev rfl) ((HX.out.below HLT.out hw).range)) ?_
  simp only [Act.put, aa, ac, ae]
  refine bn (ah rfl rfl rfl rfl) (fun _ => ap Tryz.call38 rfl (evc (ev rfl) evn)) (bi (Nat.le_refl _) fun w' hw => rmay_b w' H2.out) ?_
  simp only [Act.put, aa, ac, ae]
  refine ao (v := .bool false) (ah rfl rfl rfl rfl) (fun w' hw => aE true rfl (ev rfl)) ?_
  simp only [Act.put, aa, ac, ae]
  refine ao (v := .bool false) rfl (fun w' hw => aB rfl (ev rfl) (ev rfl)) ?_
  simp only [Act.put, aa, ac, ae]
  refine ao (v := .bool false) rfl (fun w' hw => ai rfl (ev rfl)) ?_
  simp only [Act.put, aa, ac, ae]
  refine ao (ah rfl rfl rfl rfl) (fun w' hw => ai rfl (ev rfl)) ?_
  simp only [Act.put, aa, ac, ae]
  refine bn (ah rfl rfl rfl rfl) (fun _ => ap Tryz.call39 rfl (evc (ev rfl) evn)) (bi (Nat.le_refl _) fun w' hw => cz.devices (cz.below HB.out hw)) ?_
  simp only [Act.put, aa, ac, ae]
  refine ao (ah rfl rfl rfl rfl) (fun w' hw => aj rfl (ev rfl) cD) ?_
  simp only [Act.put, aa, ac, ae]
  refine ao (ah rfl rfl rfl rfl) (fun w' hw => aj rfl (ev rfl) faG0) ?_
  simp only [Act.put, aa, ac, ae]
  refine ao (ah rfl rfl rfl rfl) (fun w' hw => aq rfl (ev rfl) (aW (HX.out.below HLT.out hw).cells.1)) ?_
  simp only [Act.put, aa, ac, ae]
  refine ao (ah rfl rfl rfl rfl) (fun w' hw => bI rfl (ev rfl) evk HAD.out) ?_
  simp only [Act.put, aa, ac, ae]
  refine ao (v := .bool false) (ah rfl rfl rfl rfl) (fun w' hw => ay false rfl (ev rfl) (ev rfl) H3.out) ?_
  simp only [Act.put, aa, ac, ae]
  refine ao (v := .bool false) rfl (fun w' hw => aB rfl (ev rfl) (ev rfl)) ?_
  simp only [Act.put, aa, ac, ae]
  refine wpQuiet_nil ?_
  intro w2 hw
  have HB2 := Lib.hid (HB1.out.trans (hw.mono HB1.out.size))
  have HX2 := Lib.hid (HX.out.below HLT.out hw)
  have HL2 := Lib.hid (Nat.lt_of_lt_of_le HLT.out hw.size)
  have HBB := Lib.hid (cz.below HB.out hw)
  clear hw
  go_wp2_with fail
  go_loopw [10] (fun z wr => ∃ i : Nat, z = .int .i64 i ∧ i ≤ x.m.toNat ∧ secK M x i = true ∧ Below w2.heap.size w2 wr) (fun z _ => x.m.toNat - (intOf z).toNat)
  case atStart => exact ⟨0, by go_num, Nat.zero_le _, rfl, Below.refl _ _⟩
  case round =>
    obtain ⟨i, rfl, hi, hs, hb⟩ := hrel
    have HS := Lib.hid hs
    have HW := Lib.hid hb
    have HX3 := Lib.hid (HX2.out.below HL2.out (hb.mono (Nat.le_refl _)))
    have HL3 := Lib.hid (Nat.lt_of_lt_of_le HL2.out hb.size)
    have HB3 := Lib.hid (cz.below HBB.out hb)
    clear hs hb
    by_cases hlt : i < x.m.toNat
    · have HI := Lib.hid hlt
      have HT : Hid (decide ((i : Int) < x.m) = true) := Lib.hid (decide_eq_true (by have := HGE.out; omega))
      have HA : Hid (IntKind.i64.wrap ((i : Int) + 1) = ((i + 1 : Nat) : Int)) := Lib.hid (by have := HGE.out; rw [i64q_ ⟨by omega, by omega⟩]; omega)
      clear hi hlt
      go_upto_region 4 with fail
      refine wp_region_lit ?_
      refine af rfl (ai rfl (ev rfl)) ?_
      simp only [Act.put, aa, ac, ae]
      refine af rfl (aj rfl (ev rfl) cD) ?_
      simp only [Act.put, aa, ac, ae]
      refine af rfl (aj rfl (ev rfl) faG0) ?_
      simp only [Act.put, aa, ac, ae]
      refine af rfl (aq rfl (ev rfl) (aW HX3.out.cells.1)) ?_
      simp only [Act.put, aa, ac, ae]
      refine af (v := .bool true) rfl (bH true rfl (ev rfl) (ev rfl) HT.out) ?_
      simp only [Act.put, aa, ac, ae]
      refine wpList_nil ?_
      by_cases hq : seN6 M (i : Int) < x.s + 2
      · have HQ : Hid (decide (seN6 M (i : Int) < x.s + 2) = true) := Lib.hid (decide_eq_true hq)
        have HNO : Hid (hnwB M id en x = false) := Lib.hid (by rw [HK.out]; exact secK_no (by omega) HI.out)
        clear hq
        go_upto_region 6 with fail
        refine aG (B := wr.heap.size) (by kernel_rfl) ?_
        refine ao rfl (fun w' hw => ai rfl (ev rfl)) ?_
        simp only [Act.put, aa, ac, ae]
        refine ao rfl (fun w' hw => ai rfl (ev rfl)) ?_
        simp only [Act.put, aa, ac, ae]
        refine bn rfl (fun _ => ap Tryz.call40 rfl (evc (ev rfl) (evc (ev rfl) evn))) (bi (Nat.le_refl _) fun w' hw => cz.dv (i : Int) (cz.below HB3.out hw)) ?_
        simp only [Act.put, aa, ac, ae]
        refine ao rfl (fun w' hw => aj rfl (ev rfl) cD) ?_
        simp only [Act.put, aa, ac, ae]
        refine ao rfl (fun w' hw => aj rfl (ev rfl) faG1) ?_
        simp only [Act.put, aa, ac, ae]
        refine ao rfl (fun w' hw => aq rfl (ev rfl) (aW (HX3.out.below HL3.out hw).cells.2.1)) ?_
        simp only [Act.put, aa, ac, ae]
        refine ao rfl (fun w' hw => bI rfl (ev rfl) evk HSD.out) ?_
        simp only [Act.put, aa, ac, ae]
        refine ao (v := .bool true) rfl (fun w' hw => bH true rfl (ev rfl) (ev rfl) HQ.out) ?_
        simp only [Act.put, aa, ac, ae]
        refine wpQuiet_nil ?_
        intro w4 hw
        have HW4 := Lib.hid (HW.out.trans (hw.mono HW.out.size))
        clear hw
        go_wp2_with fail
        go_ret2
        exact ⟨HB2.out.trans (HW4.out.mono HB2.out.size), .inr ⟨HNO.out, rfl⟩⟩
      have HQ : Hid (decide (seN6 M (i : Int) < x.s + 2) = false) := Lib.hid (decide_eq_false hq)
      have HS2 := Lib.hid (secK_step HS.out (by omega))
      clear hq
      go_upto_region 6 with fail
      refine aG (B := wr.heap.size) (by kernel_rfl) ?_
      refine ao rfl (fun w' hw => ai rfl (ev rfl)) ?_
      simp only [Act.put, aa, ac, ae]
      refine ao rfl (fun w' hw => ai rfl (ev rfl)) ?_
      simp only [Act.put, aa, ac, ae]
      refine bn rfl (fun _ => ap Tryz.call40 rfl (evc (ev rfl) (evc (ev rfl) evn))) (bi (Nat.le_refl _) fun w' hw => cz.dv (i : Int) (cz.below HB3.out hw)) ?_
      simp only [Act.put, aa, ac, ae]
      refine ao rfl (fun w' hw => aj rfl (ev rfl) cD) ?_
      simp only [Act.put, aa, ac, ae]
      refine ao rfl (fun w' hw => aj rfl (ev rfl) faG1) ?_
      simp only [Act.put, aa, ac, ae]
      refine ao rfl (fun w' hw => aq rfl (ev rfl) (aW (HX3.out.below HL3.out hw).cells.2.1)) ?_
      simp only [Act.put, aa, ac, ae]
      refine ao rfl (fun w' hw => bI rfl (ev rfl) evk HSD.out) ?_
      simp only [Act.put, aa, ac, ae]
      refine ao (v := .bool false) rfl (fun w' hw => bH false rfl (ev rfl) (ev rfl) HQ.out) ?_
      simp only [Act.put, aa, ac, ae]
      refine wpQuiet_nil ?_
      intro w4 hw
      have HW4 := Lib.hid (HW.out.trans (hw.mono HW.out.size))
      clear hw
      go_upto_region 5 with fail
      refine wp_region_lit ?_
      refine af rfl (ai rfl (ev rfl)) ?_
      simp only [Act.put, aa, ac, ae]
      refine af rfl (bI rfl (ev rfl) evk HA.out) ?_
      simp only [Act.put, aa, ac, ae]
      refine af rfl (ak rfl (ev rfl)) ?_
      simp only [Act.put, aa, ac, ae]
      refine wpList_nil ?_
      go_wp2_with fail
      go_roundw
      case rel => exact ⟨i + 1, by go_num, HI.out, HS2.out, HW4.out⟩
      case measure => have := HI.out; simp [intOf]; omega
    have hin : i = x.m.toNat := by omega
    have HT : Hid (decide ((i : Int) < x.m) = false) := Lib.hid (decide_eq_false (by have := HGE.out; omega))
    have HYES : Hid (hnwB M id en x = true) := Lib.hid (by rw [HK.out, ← hin]; exact HS.out)
    clear hi hlt hin
    go_upto_region 4 with fail
    refine wp_region_lit ?_
    refine af rfl (ai rfl (ev rfl)) ?_
    simp only [Act.put, aa, ac, ae]
    refine af rfl (aj rfl (ev rfl) cD) ?_
    simp only [Act.put, aa, ac, ae]
    refine af rfl (aj rfl (ev rfl) faG0) ?_
    simp only [Act.put, aa, ac, ae]
    refine af rfl (aq rfl (ev rfl) (aW HX3.out.cells.1)) ?_
    simp only [Act.put, aa, ac, ae]
    refine af (v := .bool false) rfl (bH false rfl (ev rfl) (ev rfl) HT.out) ?_
    simp only [Act.put, aa, ac, ae]
    refine wpList_nil ?_
    go_upto_region 8 with fail
    refine wp_region_lit ?_
    refine af rfl (ai rfl (ev rfl)) ?_
    simp only [Act.put, aa, ac, ae]
    refine af rfl (ai rfl (ev rfl)) ?_
    simp only [Act.put, aa, ac, ae]
    refine af rfl (ai rfl (ev rfl)) ?_
    simp only [Act.put, aa, ac, ae]
    refine af rfl (aR rfl (ev rfl) HX3.out.range) ?_
    simp only [Act.put, aa, ac, ae]
    refine af rfl (exec_bldRh rfl (ev rfl) (ev rfl) (ev rfl) (ev rfl)) ?_
    simp only [Act.put, aa, ac, ae]
    refine af rfl (cy (cs := rhC q id en x) rfl (ev rfl)) ?_
    simp only [Act.put, aa, ac, ae]
    refine af rfl (ak rfl (ev rfl)) ?_
    simp only [Act.put, aa, ac, ae]
    refine af rfl (ak rfl evk) ?_
    simp only [Act.put, aa, ac, ae]
    refine wpList_nil ?_
    go_wp2_with fail
    go_ret2
    have hw3 := HB2.out.trans (HW.out.mono HB2.out.size)
    exact ⟨hw3.alloc hw3.size _, .inl ⟨HYES.out, _, rfl, heap_alloc_new wr _, hw3.size⟩⟩
theorem rhnew (id en : Nat) (x : Ros) (w : World) (hb : cz.Bn w F q M) : Calls Tryz.prog 10 #[.pointer (some ⟨q, 0, none⟩), .int .u64 (id : Int), .int .u64 (en : Int), ros x] w (RNewH w q M id en x) := by
  by_cases h0 : id = 0
  · exact rhnew_0 id en x w hb h0
  by_cases h1 : 2305843009213693952 < en
  · exact rhnew_1 id en x w hb h0 h1
  cases h2 : aS x
  · exact rhnew_2 id en x w hb h0 h1 h2
  by_cases h3 : (M.ds.length : Int) = x.m + 1
  · exact rhnew_4 id en x w hb h0 h1 h2 h3
  · exact rhnew_3 id en x w hb h0 h1 h2 h3
end
end Go.Proofs.YtnliphgjcaippaaGreatDoor
