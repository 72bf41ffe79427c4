import Derived.Test.YtheponmdbmloaaaGreatDoorFnak
import Derived.Test.YtheponmdbmloaaaGreatDoorFnag
import Derived.Test.YtheponmdbmloaaaGreatDoorFnaj
import Derived.Test.YtheponmdbmloaaaGreatDoorFnaa
import Derived.Test.YtheponmdbmloaaaGreatDoorFnab
import Derived.Test.YtheponmdbmloaaaGreatDoorFnaf
import Derived.Deep.DeepCutAuto
import Derived.LaidEqlPtr
import Derived.Test.YtheponmdbmloaaaGreatDoorFnZ
namespace Go.Proofs.YtheponmdbmloaaaGreatDoor
open Go.RowKit
set_option linter.unusedVariables false
set_option linter.unusedSimpArgs false
set_option maxRecDepth 100000
theorem wrap_two {a c n : Nat} (ha : a ≤ 16) (hc : c ≤ 16) (hn : a + c = n) : IntKind.i64.wrap ((a : Int) + (c : Int)) = (n : Int) := by
  rw [IntWalk.i64_in _ (by omega)]
  omega
set_option maxHeartbeats 1000000 in
theorem pstate_0 {x : Ros} (hf : aG x = false) (w : World) : Calls Tryz.prog 77 #[ros x] w fun e w' => e = .returned (.int .i64 0) ∧ Below w.heap.size w w' := by
  have HT1 := Lib.hid (OneR.new w x)
  have HF := Lib.hid hf
  clear hf
  go_enter Tryz.func77, Tryz.ntmps77
  go_upto_region 1 with (first | (refine af rfl (aH rfl rfl) ?_) | fail)
  generalize w.alloc (.cells (aC x).toArray 32) = w1 at *
  refine wp_region_lit ?_
  refine af rfl (aD rfl (ev rfl) (HT1.out.at0)) ?_
  simp only [Act.put, aa, ac, ae]
  refine ak rfl (ap Tryz.call34 rfl (evc (ev rfl) evn)) ?_
  refine (co w1 HF.out).mono ?_
  rintro e w2 ⟨rfl, hb⟩
  have HT2 := Lib.hid (HT1.out.call hb)
  clear hb HT1
  refine ⟨_, rfl, ?_⟩
  simp only [Act.put, aa, ac, ae]
  refine af (v := .bool true) rfl (az false rfl (ev rfl)) ?_
  simp only [Act.put, aa, ac, ae]
  refine wpList_nil ?_
  go_upto_region 2 with fail
  refine wp_region_lit ?_
  refine af rfl (aj rfl evk) ?_
  simp only [Act.put, aa, ac, ae]
  refine wpList_nil ?_
  go_wp2_with fail
  go_ret
  exact ⟨rfl, HT2.out.bel⟩
set_option maxHeartbeats 1000000 in
theorem pstate_5a {x : Ros} {a c n : Nat} (hf : aG x = true) (ha : many x 1 = a) (hc : many x 2 = c) (hn : IntKind.i64.wrap ((a : Int) + (c : Int)) = (n : Int)) (hg : decide ((2 : Int) ≤ (n : Int)) = true) (w : World) : Calls Tryz.prog 77 #[ros x] w fun e w' => e = .returned (.int .i64 5) ∧ Below w.heap.size w w' := by
  have HT1 := Lib.hid (OneR.new w x)
  have HF := Lib.hid hf
  have HA := Lib.hid ha
  have HC := Lib.hid hc
  have HN := Lib.hid hn
  have HG := Lib.hid hg
  clear hf ha hc hn hg
  go_enter Tryz.func77, Tryz.ntmps77
  go_upto_region 1 with (first | (refine af rfl (aH rfl rfl) ?_) | fail)
  generalize w.alloc (.cells (aC x).toArray 32) = w1 at *
  refine wp_region_lit ?_
  refine af rfl (aD rfl (ev rfl) (HT1.out.at0)) ?_
  simp only [Act.put, aa, ac, ae]
  refine ak rfl (ap Tryz.call34 rfl (evc (ev rfl) evn)) ?_
  refine (co w1 HF.out).mono ?_
  rintro e w2 ⟨rfl, hb⟩
  have HT2 := Lib.hid (HT1.out.call hb)
  clear hb HT1
  refine ⟨_, rfl, ?_⟩
  simp only [Act.put, aa, ac, ae]
  refine af (v := .bool false) rfl (az true rfl (ev rfl)) ?_
  simp only [Act.put, aa, ac, ae]
  refine wpList_nil ?_
  go_upto_region 3 with fail
  refine aA (B := w2.heap.size) (by kernel_rfl) ?_
  refine aq rfl (fun w' hw => aD rfl (ev rfl) (HT2.out.above hw)) ?_
  simp only [Act.put, aa, ac, ae]
  refine bi rfl (fun _ => ap Tryz.call72 rfl (evc (ev rfl) (evc evk evn))) (aY (Nat.le_refl _) fun w' hw => cX w' HA.out) ?_
  simp only [Act.put, aa, ac, ae]
  refine aq rfl (fun w' hw => aD rfl (ev rfl) (HT2.out.above hw)) ?_
  simp only [Act.put, aa, ac, ae]
  refine bi rfl (fun _ => ap Tryz.call72 rfl (evc (ev rfl) (evc evk evn))) (aY (Nat.le_refl _) fun w' hw => cX w' HC.out) ?_
  simp only [Act.put, aa, ac, ae]
  refine aq rfl (fun w' hw => aj rfl (ev rfl)) ?_
  simp only [Act.put, aa, ac, ae]
  refine aq rfl (fun w' hw => aj rfl (ev rfl)) ?_
  simp only [Act.put, aa, ac, ae]
  refine wpQuiet_nil ?_
  intro w3 hw
  have HT3 := Lib.hid (HT2.out.call hw)
  clear hw HT2
  go_upto_region 4 with fail
  refine wp_region_lit ?_
  refine af rfl (ag rfl (ev rfl)) ?_
  simp only [Act.put, aa, ac, ae]
  refine af rfl (ag rfl (ev rfl)) ?_
  simp only [Act.put, aa, ac, ae]
  refine af rfl (bD rfl (ev rfl) (ev rfl) HN.out) ?_
  simp only [Act.put, aa, ac, ae]
  refine af rfl (aj rfl (ev rfl)) ?_
  simp only [Act.put, aa, ac, ae]
  refine wpList_nil ?_
  go_upto_region 5 with fail
  refine wp_region_lit ?_
  refine af rfl (ag rfl (ev rfl)) ?_
  simp only [Act.put, aa, ac, ae]
  refine af (v := .bool true) rfl (bQ true rfl (ev rfl) evk HG.out) ?_
  simp only [Act.put, aa, ac, ae]
  refine af (v := .bool true) rfl (aj rfl (ev rfl)) ?_
  simp only [Act.put, aa, ac, ae]
  refine wpList_nil ?_
  go_upto_region 7 with fail
  refine wp_region_lit ?_
  refine af rfl (aj rfl evk) ?_
  simp only [Act.put, aa, ac, ae]
  refine wpList_nil ?_
  go_wp2_with fail
  go_ret
  exact ⟨rfl, HT3.out.bel⟩
set_option maxHeartbeats 1000000 in
theorem pstate_5b {x : Ros} {a c n : Nat} (hf : aG x = true) (ha : many x 1 = a) (hc : many x 2 = c) (hn : IntKind.i64.wrap ((a : Int) + (c : Int)) = (n : Int)) (hg : decide ((2 : Int) ≤ (n : Int)) = false) (h1 : ((n : Int) == 1) = true) (ho : x.gone = true) (w : World) : Calls Tryz.prog 77 #[ros x] w fun e w' => e = .returned (.int .i64 5) ∧ Below w.heap.size w w' := by
  have HT1 := Lib.hid (OneR.new w x)
  have HF := Lib.hid hf
  have HA := Lib.hid ha
  have HC := Lib.hid hc
  have HN := Lib.hid hn
  have HG := Lib.hid hg
  have H1 := Lib.hid h1
  have HO := Lib.hid ho
  clear hf ha hc hn hg h1 ho
  go_enter Tryz.func77, Tryz.ntmps77
  go_upto_region 1 with (first | (refine af rfl (aH rfl rfl) ?_) | fail)
  generalize w.alloc (.cells (aC x).toArray 32) = w1 at *
  refine wp_region_lit ?_
  refine af rfl (aD rfl (ev rfl) (HT1.out.at0)) ?_
  simp only [Act.put, aa, ac, ae]
  refine ak rfl (ap Tryz.call34 rfl (evc (ev rfl) evn)) ?_
  refine (co w1 HF.out).mono ?_
  rintro e w2 ⟨rfl, hb⟩
  have HT2 := Lib.hid (HT1.out.call hb)
  clear hb HT1
  refine ⟨_, rfl, ?_⟩
  simp only [Act.put, aa, ac, ae]
  refine af (v := .bool false) rfl (az true rfl (ev rfl)) ?_
  simp only [Act.put, aa, ac, ae]
  refine wpList_nil ?_
  go_upto_region 3 with fail
  refine aA (B := w2.heap.size) (by kernel_rfl) ?_
  refine aq rfl (fun w' hw => aD rfl (ev rfl) (HT2.out.above hw)) ?_
  simp only [Act.put, aa, ac, ae]
  refine bi rfl (fun _ => ap Tryz.call72 rfl (evc (ev rfl) (evc evk evn))) (aY (Nat.le_refl _) fun w' hw => cX w' HA.out) ?_
  simp only [Act.put, aa, ac, ae]
  refine aq rfl (fun w' hw => aD rfl (ev rfl) (HT2.out.above hw)) ?_
  simp only [Act.put, aa, ac, ae]
  refine bi rfl (fun _ => ap Tryz.call72 rfl (evc (ev rfl) (evc evk evn))) (aY (Nat.le_refl _) fun w' hw => cX w' HC.out) ?_
  simp only [Act.put, aa, ac, ae]
  refine aq rfl (fun w' hw => aj rfl (ev rfl)) ?_
  simp only [Act.put, aa, ac, ae]
  refine aq rfl (fun w' hw => aj rfl (ev rfl)) ?_
  simp only [Act.put, aa, ac, ae]
  refine wpQuiet_nil ?_
  intro w3 hw
  have HT3 := Lib.hid (HT2.out.call hw)
  clear hw HT2
  go_upto_region 4 with fail
  refine wp_region_lit ?_
  refine af rfl (ag rfl (ev rfl)) ?_
  simp only [Act.put, aa, ac, ae]
  refine af rfl (ag rfl (ev rfl)) ?_
  simp only [Act.put, aa, ac, ae]
  refine af rfl (bD rfl (ev rfl) (ev rfl) HN.out) ?_
  simp only [Act.put, aa, ac, ae]
  refine af rfl (aj rfl (ev rfl)) ?_
  simp only [Act.put, aa, ac, ae]
  refine wpList_nil ?_
  go_upto_region 5 with fail
  refine wp_region_lit ?_
  refine af rfl (ag rfl (ev rfl)) ?_
  simp only [Act.put, aa, ac, ae]
  refine af (v := .bool false) rfl (bQ false rfl (ev rfl) evk HG.out) ?_
  simp only [Act.put, aa, ac, ae]
  refine af (v := .bool false) rfl (aj rfl (ev rfl)) ?_
  simp only [Act.put, aa, ac, ae]
  refine wpList_nil ?_
  go_upto_region 6 with fail
  refine wp_region_lit ?_
  refine af rfl (ag rfl (ev rfl)) ?_
  simp only [Act.put, aa, ac, ae]
  refine af (v := .bool true) rfl (ar true rfl (ev rfl) evk H1.out) ?_
  simp only [Act.put, aa, ac, ae]
  refine af (v := .bool true) rfl (ag rfl (ev rfl)) ?_
  simp only [Act.put, aa, ac, ae]
  refine ah (ai rfl rfl rfl rfl) (al rfl (ev rfl) faR3) ?_
  simp only [Act.put, aa, ac, ae]
  refine ah (v := .bool true) (ai rfl rfl rfl rfl) (au rfl (ev rfl) (ldBo (HO.out ▸ HT3.out.at0.cells.2.2.2.2))) ?_
  simp only [Act.put, aa, ac, ae]
  refine af (v := .bool true) rfl (aK rfl (ev rfl) (ev rfl)) ?_
  simp only [Act.put, aa, ac, ae]
  refine af (v := .bool true) rfl (aj rfl (ev rfl)) ?_
  simp only [Act.put, aa, ac, ae]
  refine wpList_nil ?_
  go_upto_region 7 with fail
  refine wp_region_lit ?_
  refine af rfl (aj rfl evk) ?_
  simp only [Act.put, aa, ac, ae]
  refine wpList_nil ?_
  go_wp2_with fail
  go_ret
  exact ⟨rfl, HT3.out.bel⟩
set_option maxHeartbeats 1000000 in
theorem pstate_4 {x : Ros} {a c n : Nat} (hf : aG x = true) (ha : many x 1 = a) (hc : many x 2 = c) (hn : IntKind.i64.wrap ((a : Int) + (c : Int)) = (n : Int)) (hg : decide ((2 : Int) ≤ (n : Int)) = false) (h1 : ((n : Int) == 1) = false) (ho : x.gone = true) (w : World) : Calls Tryz.prog 77 #[ros x] w fun e w' => e = .returned (.int .i64 4) ∧ Below w.heap.size w w' := by
  have HT1 := Lib.hid (OneR.new w x)
  have HF := Lib.hid hf
  have HA := Lib.hid ha
  have HC := Lib.hid hc
  have HN := Lib.hid hn
  have HG := Lib.hid hg
  have H1 := Lib.hid h1
  have HO := Lib.hid ho
  clear hf ha hc hn hg h1 ho
  go_enter Tryz.func77, Tryz.ntmps77
  go_upto_region 1 with (first | (refine af rfl (aH rfl rfl) ?_) | fail)
  generalize w.alloc (.cells (aC x).toArray 32) = w1 at *
  refine wp_region_lit ?_
  refine af rfl (aD rfl (ev rfl) (HT1.out.at0)) ?_
  simp only [Act.put, aa, ac, ae]
  refine ak rfl (ap Tryz.call34 rfl (evc (ev rfl) evn)) ?_
  refine (co w1 HF.out).mono ?_
  rintro e w2 ⟨rfl, hb⟩
  have HT2 := Lib.hid (HT1.out.call hb)
  clear hb HT1
  refine ⟨_, rfl, ?_⟩
  simp only [Act.put, aa, ac, ae]
  refine af (v := .bool false) rfl (az true rfl (ev rfl)) ?_
  simp only [Act.put, aa, ac, ae]
  refine wpList_nil ?_
  go_upto_region 3 with fail
  refine aA (B := w2.heap.size) (by kernel_rfl) ?_
  refine aq rfl (fun w' hw => aD rfl (ev rfl) (HT2.out.above hw)) ?_
  simp only [Act.put, aa, ac, ae]
  refine bi rfl (fun _ => ap Tryz.call72 rfl (evc (ev rfl) (evc evk evn))) (aY (Nat.le_refl _) fun w' hw => cX w' HA.out) ?_
  simp only [Act.put, aa, ac, ae]
  refine aq rfl (fun w' hw => aD rfl (ev rfl) (HT2.out.above hw)) ?_
  simp only [Act.put, aa, ac, ae]
  refine bi rfl (fun _ => ap Tryz.call72 rfl (evc (ev rfl) (evc evk evn))) (aY (Nat.le_refl _) fun w' hw => cX w' HC.out) ?_
  simp only [Act.put, aa, ac, ae]
  refine aq rfl (fun w' hw => aj rfl (ev rfl)) ?_
  simp only [Act.put, aa, ac, ae]
  refine aq rfl (fun w' hw => aj rfl (ev rfl)) ?_
  simp only [Act.put, aa, ac, ae]
  refine wpQuiet_nil ?_
  intro w3 hw
  have HT3 := Lib.hid (HT2.out.call hw)
  clear hw HT2
  go_upto_region 4 with fail
  refine wp_region_lit ?_
  refine af rfl (ag rfl (ev rfl)) ?_
  simp only [Act.put, aa, ac, ae]
  refine af rfl (ag rfl (ev rfl)) ?_
  simp only [Act.put, aa, ac, ae]
  refine af rfl (bD rfl (ev rfl) (ev rfl) HN.out) ?_
  simp only [Act.put, aa, ac, ae]
  refine af rfl (aj rfl (ev rfl)) ?_
  simp only [Act.put, aa, ac, ae]
  refine wpList_nil ?_
  go_upto_region 5 with fail
  refine wp_region_lit ?_
  refine af rfl (ag rfl (ev rfl)) ?_
  simp only [Act.put, aa, ac, ae]
  refine af (v := .bool false) rfl (bQ false rfl (ev rfl) evk HG.out) ?_
  simp only [Act.put, aa, ac, ae]
  refine af (v := .bool false) rfl (aj rfl (ev rfl)) ?_
  simp only [Act.put, aa, ac, ae]
  refine wpList_nil ?_
  go_upto_region 6 with fail
  refine wp_region_lit ?_
  refine af rfl (ag rfl (ev rfl)) ?_
  simp only [Act.put, aa, ac, ae]
  refine af (v := .bool false) rfl (ar false rfl (ev rfl) evk H1.out) ?_
  simp only [Act.put, aa, ac, ae]
  refine aU 2 (v := .bool false) rfl (ag rfl (ev rfl)) (by kernel_rfl) ?_
  simp only [bg, List.take_succ_cons, List.take_zero, List.drop_succ_cons, List.drop_zero, Act.put, List.setIfInBounds_toArray, List.set_cons_succ, List.set_cons_zero]
  refine af (v := .bool false) rfl (aI rfl (ev rfl) evk) ?_
  simp only [Act.put, aa, ac, ae]
  refine af (v := .bool false) rfl (aj rfl (ev rfl)) ?_
  simp only [Act.put, aa, ac, ae]
  refine wpList_nil ?_
  go_upto_region 8 with fail
  refine wp_region_lit ?_
  refine af rfl (al rfl (ev rfl) faR3) ?_
  simp only [Act.put, aa, ac, ae]
  refine af (v := .bool true) rfl (au rfl (ev rfl) (ldBo (HO.out ▸ HT3.out.at0.cells.2.2.2.2))) ?_
  simp only [Act.put, aa, ac, ae]
  refine af (v := .bool true) rfl (aj rfl (ev rfl)) ?_
  simp only [Act.put, aa, ac, ae]
  refine wpList_nil ?_
  go_upto_region 9 with fail
  refine wp_region_lit ?_
  refine af rfl (aj rfl evk) ?_
  simp only [Act.put, aa, ac, ae]
  refine wpList_nil ?_
  go_wp2_with fail
  go_ret
  exact ⟨rfl, HT3.out.bel⟩
set_option maxHeartbeats 1000000 in
theorem pstate_3t {x : Ros} {a c n : Nat} (hf : aG x = true) (ha : many x 1 = a) (hc : many x 2 = c) (hn : IntKind.i64.wrap ((a : Int) + (c : Int)) = (n : Int)) (hg : decide ((2 : Int) ≤ (n : Int)) = false) (h1 : ((n : Int) == 1) = true) (ho : x.gone = false) (h2 : ((c : Int) == 1) = true) (w : World) : Calls Tryz.prog 77 #[ros x] w fun e w' => e = .returned (.int .i64 3) ∧ Below w.heap.size w w' := by
  have HT1 := Lib.hid (OneR.new w x)
  have HF := Lib.hid hf
  have HA := Lib.hid ha
  have HC := Lib.hid hc
  have HN := Lib.hid hn
  have HG := Lib.hid hg
  have H1 := Lib.hid h1
  have HO := Lib.hid ho
  have H2 := Lib.hid h2
  clear hf ha hc hn hg h1 ho h2
  go_enter Tryz.func77, Tryz.ntmps77
  go_upto_region 1 with (first | (refine af rfl (aH rfl rfl) ?_) | fail)
  generalize w.alloc (.cells (aC x).toArray 32) = w1 at *
  refine wp_region_lit ?_
  refine af rfl (aD rfl (ev rfl) (HT1.out.at0)) ?_
  simp only [Act.put, aa, ac, ae]
  refine ak rfl (ap Tryz.call34 rfl (evc (ev rfl) evn)) ?_
  refine (co w1 HF.out).mono ?_
  rintro e w2 ⟨rfl, hb⟩
  have HT2 := Lib.hid (HT1.out.call hb)
  clear hb HT1
  refine ⟨_, rfl, ?_⟩
  simp only [Act.put, aa, ac, ae]
  refine af (v := .bool false) rfl (az true rfl (ev rfl)) ?_
  simp only [Act.put, aa, ac, ae]
  refine wpList_nil ?_
  go_upto_region 3 with fail
  refine aA (B := w2.heap.size) (by kernel_rfl) ?_
  refine aq rfl (fun w' hw => aD rfl (ev rfl) (HT2.out.above hw)) ?_
  simp only [Act.put, aa, ac, ae]
  refine bi rfl (fun _ => ap Tryz.call72 rfl (evc (ev rfl) (evc evk evn))) (aY (Nat.le_refl _) fun w' hw => cX w' HA.out) ?_
  simp only [Act.put, aa, ac, ae]
  refine aq rfl (fun w' hw => aD rfl (ev rfl) (HT2.out.above hw)) ?_
  simp only [Act.put, aa, ac, ae]
  refine bi rfl (fun _ => ap Tryz.call72 rfl (evc (ev rfl) (evc evk evn))) (aY (Nat.le_refl _) fun w' hw => cX w' HC.out) ?_
  simp only [Act.put, aa, ac, ae]
  refine aq rfl (fun w' hw => aj rfl (ev rfl)) ?_
  simp only [Act.put, aa, ac, ae]
  refine aq rfl (fun w' hw => aj rfl (ev rfl)) ?_
  simp only [Act.put, aa, ac, ae]
  refine wpQuiet_nil ?_
  intro w3 hw
  have HT3 := Lib.hid (HT2.out.call hw)
  clear hw HT2
  go_upto_region 4 with fail
  refine wp_region_lit ?_
  refine af rfl (ag rfl (ev rfl)) ?_
  simp only [Act.put, aa, ac, ae]
  refine af rfl (ag rfl (ev rfl)) ?_
  simp only [Act.put, aa, ac, ae]
  refine af rfl (bD rfl (ev rfl) (ev rfl) HN.out) ?_
  simp only [Act.put, aa, ac, ae]
  refine af rfl (aj rfl (ev rfl)) ?_
  simp only [Act.put, aa, ac, ae]
  refine wpList_nil ?_
  go_upto_region 5 with fail
  refine wp_region_lit ?_
  refine af rfl (ag rfl (ev rfl)) ?_
  simp only [Act.put, aa, ac, ae]
  refine af (v := .bool false) rfl (bQ false rfl (ev rfl) evk HG.out) ?_
  simp only [Act.put, aa, ac, ae]
  refine af (v := .bool false) rfl (aj rfl (ev rfl)) ?_
  simp only [Act.put, aa, ac, ae]
  refine wpList_nil ?_
  go_upto_region 6 with fail
  refine wp_region_lit ?_
  refine af rfl (ag rfl (ev rfl)) ?_
  simp only [Act.put, aa, ac, ae]
  refine af (v := .bool true) rfl (ar true rfl (ev rfl) evk H1.out) ?_
  simp only [Act.put, aa, ac, ae]
  refine af (v := .bool true) rfl (ag rfl (ev rfl)) ?_
  simp only [Act.put, aa, ac, ae]
  refine ah (ai rfl rfl rfl rfl) (al rfl (ev rfl) faR3) ?_
  simp only [Act.put, aa, ac, ae]
  refine ah (v := .bool false) (ai rfl rfl rfl rfl) (au rfl (ev rfl) (ldBo (HO.out ▸ HT3.out.at0.cells.2.2.2.2))) ?_
  simp only [Act.put, aa, ac, ae]
  refine af (v := .bool false) rfl (aK rfl (ev rfl) (ev rfl)) ?_
  simp only [Act.put, aa, ac, ae]
  refine af (v := .bool false) rfl (aj rfl (ev rfl)) ?_
  simp only [Act.put, aa, ac, ae]
  refine wpList_nil ?_
  go_upto_region 8 with fail
  refine wp_region_lit ?_
  refine af rfl (al rfl (ev rfl) faR3) ?_
  simp only [Act.put, aa, ac, ae]
  refine af (v := .bool false) rfl (au rfl (ev rfl) (ldBo (HO.out ▸ HT3.out.at0.cells.2.2.2.2))) ?_
  simp only [Act.put, aa, ac, ae]
  refine af (v := .bool false) rfl (aj rfl (ev rfl)) ?_
  simp only [Act.put, aa, ac, ae]
  refine wpList_nil ?_
  go_upto_region 10 with fail
  refine wp_region_lit ?_
  refine af rfl (ag rfl (ev rfl)) ?_
  simp only [Act.put, aa, ac, ae]
  refine af (v := .bool true) rfl (ar true rfl (ev rfl) evk H2.out) ?_
  simp only [Act.put, aa, ac, ae]
  refine af (v := .bool true) rfl (aj rfl (ev rfl)) ?_
  simp only [Act.put, aa, ac, ae]
  refine wpList_nil ?_
  go_upto_region 11 with fail
  refine wp_region_lit ?_
  refine af rfl (aj rfl evk) ?_
  simp only [Act.put, aa, ac, ae]
  refine wpList_nil ?_
  go_wp2_with fail
  go_ret
  exact ⟨rfl, HT3.out.bel⟩
set_option maxHeartbeats 1000000 in
theorem pstate_2t {x : Ros} {a c n : Nat} (hf : aG x = true) (ha : many x 1 = a) (hc : many x 2 = c) (hn : IntKind.i64.wrap ((a : Int) + (c : Int)) = (n : Int)) (hg : decide ((2 : Int) ≤ (n : Int)) = false) (h1 : ((n : Int) == 1) = true) (ho : x.gone = false) (h2 : ((c : Int) == 1) = false) (h3 : ((a : Int) == 1) = true) (w : World) : Calls Tryz.prog 77 #[ros x] w fun e w' => e = .returned (.int .i64 2) ∧ Below w.heap.size w w' := by
  have HT1 := Lib.hid (OneR.new w x)
  have HF := Lib.hid hf
  have HA := Lib.hid ha
  have HC := Lib.hid hc
  have HN := Lib.hid hn
  have HG := Lib.hid hg
  have H1 := Lib.hid h1
  have HO := Lib.hid ho
  have H2 := Lib.hid h2
  have H3 := Lib.hid h3
  clear hf ha hc hn hg h1 ho h2 h3
  go_enter Tryz.func77, Tryz.ntmps77
  go_upto_region 1 with (first | (refine af rfl (aH rfl rfl) ?_) | fail)
  generalize w.alloc (.cells (aC x).toArray 32) = w1 at *
  refine wp_region_lit ?_
  refine af rfl (aD rfl (ev rfl) (HT1.out.at0)) ?_
  simp only [Act.put, aa, ac, ae]
  refine ak rfl (ap Tryz.call34 rfl (evc (ev rfl) evn)) ?_
  refine (co w1 HF.out).mono ?_
  rintro e w2 ⟨rfl, hb⟩
  have HT2 := Lib.hid (HT1.out.call hb)
  clear hb HT1
  refine ⟨_, rfl, ?_⟩
  simp only [Act.put, aa, ac, ae]
  refine af (v := .bool false) rfl (az true rfl (ev rfl)) ?_
  simp only [Act.put, aa, ac, ae]
  refine wpList_nil ?_
  go_upto_region 3 with fail
  refine aA (B := w2.heap.size) (by kernel_rfl) ?_
  refine aq rfl (fun w' hw => aD rfl (ev rfl) (HT2.out.above hw)) ?_
  simp only [Act.put, aa, ac, ae]
  refine bi rfl (fun _ => ap Tryz.call72 rfl (evc (ev rfl) (evc evk evn))) (aY (Nat.le_refl _) fun w' hw => cX w' HA.out) ?_
  simp only [Act.put, aa, ac, ae]
  refine aq rfl (fun w' hw => aD rfl (ev rfl) (HT2.out.above hw)) ?_
  simp only [Act.put, aa, ac, ae]
  refine bi rfl (fun _ => ap Tryz.call72 rfl (evc (ev rfl) (evc evk evn))) (aY (Nat.le_refl _) fun w' hw => cX w' HC.out) ?_
  simp only [Act.put, aa, ac, ae]
  refine aq rfl (fun w' hw => aj rfl (ev rfl)) ?_
  simp only [Act.put, aa, ac, ae]
  refine aq rfl (fun w' hw => aj rfl (ev rfl)) ?_
  simp only [Act.put, aa, ac, ae]
  refine wpQuiet_nil ?_
  intro w3 hw
  have HT3 := Lib.hid (HT2.out.call hw)
  clear hw HT2
  go_upto_region 4 with fail
  refine wp_region_lit ?_
  refine af rfl (ag rfl (ev rfl)) ?_
  simp only [Act.put, aa, ac, ae]
  refine af rfl (ag rfl (ev rfl)) ?_
  simp only [Act.put, aa, ac, ae]
  refine af rfl (bD rfl (ev rfl) (ev rfl) HN.out) ?_
  simp only [Act.put, aa, ac, ae]
  refine af rfl (aj rfl (ev rfl)) ?_
  simp only [Act.put, aa, ac, ae]
  refine wpList_nil ?_
  go_upto_region 5 with fail
  refine wp_region_lit ?_
  refine af rfl (ag rfl (ev rfl)) ?_
  simp only [Act.put, aa, ac, ae]
  refine af (v := .bool false) rfl (bQ false rfl (ev rfl) evk HG.out) ?_
  simp only [Act.put, aa, ac, ae]
  refine af (v := .bool false) rfl (aj rfl (ev rfl)) ?_
  simp only [Act.put, aa, ac, ae]
  refine wpList_nil ?_
  go_upto_region 6 with fail
  refine wp_region_lit ?_
  refine af rfl (ag rfl (ev rfl)) ?_
  simp only [Act.put, aa, ac, ae]
  refine af (v := .bool true) rfl (ar true rfl (ev rfl) evk H1.out) ?_
  simp only [Act.put, aa, ac, ae]
  refine af (v := .bool true) rfl (ag rfl (ev rfl)) ?_
  simp only [Act.put, aa, ac, ae]
  refine ah (ai rfl rfl rfl rfl) (al rfl (ev rfl) faR3) ?_
  simp only [Act.put, aa, ac, ae]
  refine ah (v := .bool false) (ai rfl rfl rfl rfl) (au rfl (ev rfl) (ldBo (HO.out ▸ HT3.out.at0.cells.2.2.2.2))) ?_
  simp only [Act.put, aa, ac, ae]
  refine af (v := .bool false) rfl (aK rfl (ev rfl) (ev rfl)) ?_
  simp only [Act.put, aa, ac, ae]
  refine af (v := .bool false) rfl (aj rfl (ev rfl)) ?_
  simp only [Act.put, aa, ac, ae]
  refine wpList_nil ?_
  go_upto_region 8 with fail
  refine wp_region_lit ?_
  refine af rfl (al rfl (ev rfl) faR3) ?_
  simp only [Act.put, aa, ac, ae]
  refine af (v := .bool false) rfl (au rfl (ev rfl) (ldBo (HO.out ▸ HT3.out.at0.cells.2.2.2.2))) ?_
  simp only [Act.put, aa, ac, ae]
  refine af (v := .bool false) rfl (aj rfl (ev rfl)) ?_
  simp only [Act.put, aa, ac, ae]
  refine wpList_nil ?_
  go_upto_region 10 with fail
  refine wp_region_lit ?_
  refine af rfl (ag rfl (ev rfl)) ?_
  simp only [Act.put, aa, ac, ae]
  refine af (v := .bool false) rfl (ar false rfl (ev rfl) evk H2.out) ?_
  simp only [Act.put, aa, ac, ae]
  refine af (v := .bool false) rfl (aj rfl (ev rfl)) ?_
  simp only [Act.put, aa, ac, ae]
  refine wpList_nil ?_
  go_upto_region 12 with fail
  refine wp_region_lit ?_
  refine af rfl (ag rfl (ev rfl)) ?_
  simp only [Act.put, aa, ac, ae]
  refine af (v := .bool true) rfl (ar true rfl (ev rfl) evk H3.out) ?_
  simp only [Act.put, aa, ac, ae]
  refine af (v := .bool true) rfl (aj rfl (ev rfl)) ?_
  simp only [Act.put, aa, ac, ae]
  refine wpList_nil ?_
  go_upto_region 13 with fail
  refine wp_region_lit ?_
  refine af rfl (aj rfl evk) ?_
  simp only [Act.put, aa, ac, ae]
  refine wpList_nil ?_
  go_wp2_with fail
  go_ret
  exact ⟨rfl, HT3.out.bel⟩
set_option maxHeartbeats 1000000 in
theorem pstate_1f {x : Ros} {a c n : Nat} (hf : aG x = true) (ha : many x 1 = a) (hc : many x 2 = c) (hn : IntKind.i64.wrap ((a : Int) + (c : Int)) = (n : Int)) (hg : decide ((2 : Int) ≤ (n : Int)) = false) (h1 : ((n : Int) == 1) = false) (ho : x.gone = false) (h2 : ((c : Int) == 1) = false) (h3 : ((a : Int) == 1) = false) (w : World) : Calls Tryz.prog 77 #[ros x] w fun e w' => e = .returned (.int .i64 1) ∧ Below w.heap.size w w' := by
  have HT1 := Lib.hid (OneR.new w x)
  have HF := Lib.hid hf
  have HA := Lib.hid ha
  have HC := Lib.hid hc
  have HN := Lib.hid hn
  have HG := Lib.hid hg
  have H1 := Lib.hid h1
  have HO := Lib.hid ho
  have H2 := Lib.hid h2
  have H3 := Lib.hid h3
  clear hf ha hc hn hg h1 ho h2 h3
  go_enter Tryz.func77, Tryz.ntmps77
  go_upto_region 1 with (first | (refine af rfl (aH rfl rfl) ?_) | fail)
  generalize w.alloc (.cells (aC x).toArray 32) = w1 at *
  refine wp_region_lit ?_
  refine af rfl (aD rfl (ev rfl) (HT1.out.at0)) ?_
  simp only [Act.put, aa, ac, ae]
  refine ak rfl (ap Tryz.call34 rfl (evc (ev rfl) evn)) ?_
  refine (co w1 HF.out).mono ?_
  rintro e w2 ⟨rfl, hb⟩
  have HT2 := Lib.hid (HT1.out.call hb)
  clear hb HT1
  refine ⟨_, rfl, ?_⟩
  simp only [Act.put, aa, ac, ae]
  refine af (v := .bool false) rfl (az true rfl (ev rfl)) ?_
  simp only [Act.put, aa, ac, ae]
  refine wpList_nil ?_
  go_upto_region 3 with fail
  refine aA (B := w2.heap.size) (by kernel_rfl) ?_
  refine aq rfl (fun w' hw => aD rfl (ev rfl) (HT2.out.above hw)) ?_
  simp only [Act.put, aa, ac, ae]
  refine bi rfl (fun _ => ap Tryz.call72 rfl (evc (ev rfl) (evc evk evn))) (aY (Nat.le_refl _) fun w' hw => cX w' HA.out) ?_
  simp only [Act.put, aa, ac, ae]
  refine aq rfl (fun w' hw => aD rfl (ev rfl) (HT2.out.above hw)) ?_
  simp only [Act.put, aa, ac, ae]
  refine bi rfl (fun _ => ap Tryz.call72 rfl (evc (ev rfl) (evc evk evn))) (aY (Nat.le_refl _) fun w' hw => cX w' HC.out) ?_
  simp only [Act.put, aa, ac, ae]
  refine aq rfl (fun w' hw => aj rfl (ev rfl)) ?_
  simp only [Act.put, aa, ac, ae]
  refine aq rfl (fun w' hw => aj rfl (ev rfl)) ?_
  simp only [Act.put, aa, ac, ae]
  refine wpQuiet_nil ?_
  intro w3 hw
  have HT3 := Lib.hid (HT2.out.call hw)
  clear hw HT2
  go_upto_region 4 with fail
  refine wp_region_lit ?_
  refine af rfl (ag rfl (ev rfl)) ?_
  simp only [Act.put, aa, ac, ae]
  refine af rfl (ag rfl (ev rfl)) ?_
  simp only [Act.put, aa, ac, ae]
  refine af rfl (bD rfl (ev rfl) (ev rfl) HN.out) ?_
  simp only [Act.put, aa, ac, ae]
  refine af rfl (aj rfl (ev rfl)) ?_
  simp only [Act.put, aa, ac, ae]
  refine wpList_nil ?_
  go_upto_region 5 with fail
  refine wp_region_lit ?_
  refine af rfl (ag rfl (ev rfl)) ?_
  simp only [Act.put, aa, ac, ae]
  refine af (v := .bool false) rfl (bQ false rfl (ev rfl) evk HG.out) ?_
  simp only [Act.put, aa, ac, ae]
  refine af (v := .bool false) rfl (aj rfl (ev rfl)) ?_
  simp only [Act.put, aa, ac, ae]
  refine wpList_nil ?_
  go_upto_region 6 with fail
  refine wp_region_lit ?_
  refine af rfl (ag rfl (ev rfl)) ?_
  simp only [Act.put, aa, ac, ae]
  refine af (v := .bool false) rfl (ar false rfl (ev rfl) evk H1.out) ?_
  simp only [Act.put, aa, ac, ae]
  refine aU 2 (v := .bool false) rfl (ag rfl (ev rfl)) (by kernel_rfl) ?_
  simp only [bg, List.take_succ_cons, List.take_zero, List.drop_succ_cons, List.drop_zero, Act.put, List.setIfInBounds_toArray, List.set_cons_succ, List.set_cons_zero]
  refine af (v := .bool false) rfl (aI rfl (ev rfl) evk) ?_
  simp only [Act.put, aa, ac, ae]
  refine af (v := .bool false) rfl (aj rfl (ev rfl)) ?_
  simp only [Act.put, aa, ac, ae]
  refine wpList_nil ?_
  go_upto_region 8 with fail
  refine wp_region_lit ?_
  refine af rfl (al rfl (ev rfl) faR3) ?_
  simp only [Act.put, aa, ac, ae]
  refine af (v := .bool false) rfl (au rfl (ev rfl) (ldBo (HO.out ▸ HT3.out.at0.cells.2.2.2.2))) ?_
  simp only [Act.put, aa, ac, ae]
  refine af (v := .bool false) rfl (aj rfl (ev rfl)) ?_
  simp only [Act.put, aa, ac, ae]
  refine wpList_nil ?_
  go_upto_region 10 with fail
  refine wp_region_lit ?_
  refine af rfl (ag rfl (ev rfl)) ?_
  simp only [Act.put, aa, ac, ae]
  refine af (v := .bool false) rfl (ar false rfl (ev rfl) evk H2.out) ?_
  simp only [Act.put, aa, ac, ae]
  refine af (v := .bool false) rfl (aj rfl (ev rfl)) ?_
  simp only [Act.put, aa, ac, ae]
  refine wpList_nil ?_
  go_upto_region 12 with fail
  refine wp_region_lit ?_
  refine af rfl (ag rfl (ev rfl)) ?_
  simp only [Act.put, aa, ac, ae]
  refine af (v := .bool false) rfl (ar false rfl (ev rfl) evk H3.out) ?_
  simp only [Act.put, aa, ac, ae]
  refine af (v := .bool false) rfl (aj rfl (ev rfl)) ?_
  simp only [Act.put, aa, ac, ae]
  refine wpList_nil ?_
  go_upto_region 14 with fail
  refine wp_region_lit ?_
  refine af rfl (aj rfl evk) ?_
  simp only [Act.put, aa, ac, ae]
  refine wpList_nil ?_
  go_wp2_with fail
  go_ret
  exact ⟨rfl, HT3.out.bel⟩
theorem stN_fine {x : Ros} (hf : aG x = true) : stN x = if 2 ≤ outs x ∨ (outs x = 1 ∧ x.gone = true) then 5 else if x.gone = true then 4 else if cm x = 1 then 3 else if outs x = 1 then 2 else 1 := by unfold stN; rw [if_pos hf]
theorem pstate (x : Ros) (w : World) : Calls Tryz.prog 77 #[ros x] w fun e w' => e = .returned (.int .i64 (stN x : Nat)) ∧ Below w.heap.size w w' := by
  cases hf : aG x
  · rw [show stN x = 0 from by unfold stN; rw [hf]; rfl]; exact pstate_0 hf w
  have hn := wrap_two (many_le x 1) (many_le x 2) (outs_many (cr hf).2.1).symm
  have ho := outs_many (cr hf).2.1
  have hh := dD x
  have hm := many_le x 1
  have hm2 := many_le x 2
  rw [stN_fine hf]
  by_cases c1 : 2 ≤ outs x
  · rw [if_pos (.inl c1)]; exact pstate_5a hf rfl rfl hn (decide_eq_true (by omega)) w
  have hg : decide ((2 : Int) ≤ (outs x : Int)) = false := decide_eq_false (by omega)
  cases hgo : x.gone
  · rw [if_neg (by rintro (h | ⟨_, h⟩); exact c1 h; cases h), if_neg (by decide), hh]
    by_cases n1 : outs x = 1
    · have e1 : ((outs x : Int) == 1) = true := by rw [n1]; rfl
      by_cases k1 : many x 2 = 1
      · rw [if_pos k1]; exact pstate_3t hf rfl rfl hn hg e1 hgo (by rw [k1]; rfl) w
      · rw [if_neg k1, if_pos n1]; exact pstate_2t hf rfl rfl hn hg e1 hgo (by simp; omega) (by simp; omega) w
    · have e1 : ((outs x : Int) == 1) = false := by simp; omega
      rw [if_neg (by omega), if_neg n1]; exact pstate_1f hf rfl rfl hn hg e1 hgo (by simp; omega) (by simp; omega) w
  · by_cases n1 : outs x = 1
    · rw [if_pos (.inr ⟨n1, rfl⟩)]; exact pstate_5b hf rfl rfl hn hg (by rw [n1]; rfl) hgo w
    · rw [if_neg (by omega), if_pos rfl]; exact pstate_4 hf rfl rfl hn hg (by simp; omega) hgo w
theorem pstate_n {x : Ros} {n : Nat} (w : World) (h : stN x = n) : Calls Tryz.prog 77 #[ros x] w fun e w' => e = .returned (.int .i64 (n : Nat)) ∧ Below w.heap.size w w' := by subst h; exact pstate x w
section
variable (x : Ros) {j : Nat} (hj : j < 16)
include hj
theorem celR_set1 : (aC x).set (3 + j) (.int .u8 1) = aC (setS x j 1) := celR_set x hj 1
end
theorem rfine_b {y : Ros} {b : Bool} (w : World) (h : aG y = b) : Calls Tryz.prog 32 #[ros y] w fun e w' => e = .returned (.bool b) ∧ Below w.heap.size w w' := by subst h; exact rfine y w
set_option maxHeartbeats 1000000 in
theorem plose_0 {x : Ros} {m : Int} (hf : aG x = false) (w : World) : Calls Tryz.prog 78 #[ros x, .int .i64 m] w fun e w' => e = .returned (.tuple #[ros (x), .bool false]) ∧ Below w.heap.size w w' := by
  have HT1 := Lib.hid (TwoR.new w x)
  have HF := Lib.hid hf
  clear hf
  go_enter Tryz.func78, Tryz.ntmps78
  go_upto_region 1 with (first | (refine af rfl (aH rfl rfl) ?_) | (refine af rfl (bK rfl) ?_) | fail)
  generalize (w.alloc (.cells (aC x).toArray 32)).alloc (.cells (aC bf).toArray 32) = w1 at *
  refine wp_region_lit ?_
  refine af rfl (aD rfl (ev rfl) (HT1.out.at0)) ?_
  simp only [Act.put, aa, ac, ae]
  refine ak rfl (ap Tryz.call34 rfl (evc (ev rfl) evn)) ?_
  refine (co w1 HF.out).mono ?_
  rintro e w2 ⟨rfl, hb⟩
  have HT2 := Lib.hid (HT1.out.call hb)
  clear hb HT1
  refine ⟨_, rfl, ?_⟩
  simp only [Act.put, aa, ac, ae]
  refine af (v := .bool true) rfl (az false rfl (ev rfl)) ?_
  simp only [Act.put, aa, ac, ae]
  refine aU 4 (v := .bool true) rfl (ag rfl (ev rfl)) (by kernel_rfl) ?_
  simp only [bg, List.take_succ_cons, List.take_zero, List.drop_succ_cons, List.drop_zero, Act.put, List.setIfInBounds_toArray, List.set_cons_succ, List.set_cons_zero]
  refine af (v := .bool true) rfl (aK rfl (ev rfl) evk) ?_
  simp only [Act.put, aa, ac, ae]
  refine wpList_nil ?_
  go_upto_region 2 with fail
  refine wp_region_lit ?_
  refine af rfl (aD rfl (ev rfl) (HT2.out.at0)) ?_
  simp only [Act.put, aa, ac, ae]
  refine av rfl (cp rfl (ev rfl) (ev rfl) HT2.out.at1) ?_
  simp only [Act.put, aa, ac, ae]
  have HT3 := Lib.hid (HT2.out.put (x))
  generalize putW w2 (w.heap.size + 1) (x) = w3 at HT3 ⊢
  clear HT2
  refine af (v := .bool false) rfl (aj rfl evk) ?_
  simp only [Act.put, aa, ac, ae]
  refine wpList_nil ?_
  go_wp2_with fail
  exact bodyPost_ret (res_rt rfl _ _ _ rfl HT3.out.at1) rfl ⟨rfl, HT3.out.bel⟩
set_option maxHeartbeats 1000000 in
theorem plose_1 {x : Ros} {m : Int} (hf : aG x = true) (hq : hasM x m = false) (w : World) : Calls Tryz.prog 78 #[ros x, .int .i64 m] w fun e w' => e = .returned (.tuple #[ros (x), .bool false]) ∧ Below w.heap.size w w' := by
  have HT1 := Lib.hid (TwoR.new w x)
  have HF := Lib.hid hf
  have HQ := Lib.hid hq
  clear hf hq
  go_enter Tryz.func78, Tryz.ntmps78
  go_upto_region 1 with (first | (refine af rfl (aH rfl rfl) ?_) | (refine af rfl (bK rfl) ?_) | fail)
  generalize (w.alloc (.cells (aC x).toArray 32)).alloc (.cells (aC bf).toArray 32) = w1 at *
  refine wp_region_lit ?_
  refine af rfl (aD rfl (ev rfl) (HT1.out.at0)) ?_
  simp only [Act.put, aa, ac, ae]
  refine ak rfl (ap Tryz.call34 rfl (evc (ev rfl) evn)) ?_
  refine (co w1 HF.out).mono ?_
  rintro e w2 ⟨rfl, hb⟩
  have HT2 := Lib.hid (HT1.out.call hb)
  clear hb HT1
  refine ⟨_, rfl, ?_⟩
  simp only [Act.put, aa, ac, ae]
  refine af (v := .bool false) rfl (az true rfl (ev rfl)) ?_
  simp only [Act.put, aa, ac, ae]
  refine af (v := .bool false) rfl (ag rfl (ev rfl)) ?_
  simp only [Act.put, aa, ac, ae]
  refine ah (ai rfl rfl rfl rfl) (aD rfl (ev rfl) (HT2.out.at0)) ?_
  simp only [Act.put, aa, ac, ae]
  refine ah (ai rfl rfl rfl rfl) (ag rfl (ev rfl)) ?_
  simp only [Act.put, aa, ac, ae]
  refine ak (ai rfl rfl rfl rfl) (ap Tryz.call66 rfl (evc (ev rfl) (evc (ev rfl) evn))) ?_
  refine (cH w2 HQ.out).mono ?_
  rintro e w3 ⟨rfl, hb⟩
  have HT3 := Lib.hid (HT2.out.call hb)
  clear hb HT2
  refine ⟨_, rfl, ?_⟩
  simp only [Act.put, aa, ac, ae]
  refine ah (v := .bool true) (ai rfl rfl rfl rfl) (az false rfl (ev rfl)) ?_
  simp only [Act.put, aa, ac, ae]
  refine af (v := .bool true) rfl (aI rfl (ev rfl) (ev rfl)) ?_
  simp only [Act.put, aa, ac, ae]
  refine wpList_nil ?_
  go_upto_region 2 with fail
  refine wp_region_lit ?_
  refine af rfl (aD rfl (ev rfl) (HT3.out.at0)) ?_
  simp only [Act.put, aa, ac, ae]
  refine av rfl (cp rfl (ev rfl) (ev rfl) HT3.out.at1) ?_
  simp only [Act.put, aa, ac, ae]
  have HT4 := Lib.hid (HT3.out.put (x))
  generalize putW w3 (w.heap.size + 1) (x) = w4 at HT4 ⊢
  clear HT3
  refine af (v := .bool false) rfl (aj rfl evk) ?_
  simp only [Act.put, aa, ac, ae]
  refine wpList_nil ?_
  go_wp2_with fail
  exact bodyPost_ret (res_rt rfl _ _ _ rfl HT4.out.at1) rfl ⟨rfl, HT4.out.bel⟩
set_option maxHeartbeats 1000000 in
theorem plose_2 {x : Ros} {j : Nat} (hj : j < 16) (hf : aG x = true) (hq : hasM x (j : Int) = true) (h1 : (sta x j == 1) = true) (w : World) : Calls Tryz.prog 78 #[ros x, .int .i64 (j : Int)] w fun e w' => e = .returned (.tuple #[ros (x), .bool false]) ∧ Below w.heap.size w w' := by
  have HT1 := Lib.hid (TwoR.new w x)
  have HF := Lib.hid hf
  have HQ := Lib.hid hq
  have H1 := Lib.hid h1
  clear hf hq h1
  go_enter Tryz.func78, Tryz.ntmps78
  go_upto_region 1 with (first | (refine af rfl (aH rfl rfl) ?_) | (refine af rfl (bK rfl) ?_) | fail)
  generalize (w.alloc (.cells (aC x).toArray 32)).alloc (.cells (aC bf).toArray 32) = w1 at *
  refine wp_region_lit ?_
  refine af rfl (aD rfl (ev rfl) (HT1.out.at0)) ?_
  simp only [Act.put, aa, ac, ae]
  refine ak rfl (ap Tryz.call34 rfl (evc (ev rfl) evn)) ?_
  refine (co w1 HF.out).mono ?_
  rintro e w2 ⟨rfl, hb⟩
  have HT2 := Lib.hid (HT1.out.call hb)
  clear hb HT1
  refine ⟨_, rfl, ?_⟩
  simp only [Act.put, aa, ac, ae]
  refine af (v := .bool false) rfl (az true rfl (ev rfl)) ?_
  simp only [Act.put, aa, ac, ae]
  refine af (v := .bool false) rfl (ag rfl (ev rfl)) ?_
  simp only [Act.put, aa, ac, ae]
  refine ah (ai rfl rfl rfl rfl) (aD rfl (ev rfl) (HT2.out.at0)) ?_
  simp only [Act.put, aa, ac, ae]
  refine ah (ai rfl rfl rfl rfl) (ag rfl (ev rfl)) ?_
  simp only [Act.put, aa, ac, ae]
  refine ak (ai rfl rfl rfl rfl) (ap Tryz.call66 rfl (evc (ev rfl) (evc (ev rfl) evn))) ?_
  refine (cH w2 HQ.out).mono ?_
  rintro e w3 ⟨rfl, hb⟩
  have HT3 := Lib.hid (HT2.out.call hb)
  clear hb HT2
  refine ⟨_, rfl, ?_⟩
  simp only [Act.put, aa, ac, ae]
  refine ah (v := .bool false) (ai rfl rfl rfl rfl) (az true rfl (ev rfl)) ?_
  simp only [Act.put, aa, ac, ae]
  refine af (v := .bool false) rfl (aI rfl (ev rfl) (ev rfl)) ?_
  simp only [Act.put, aa, ac, ae]
  refine wpList_nil ?_
  go_upto_region 3 with fail
  refine wp_region_lit ?_
  refine af rfl (ag rfl (ev rfl)) ?_
  simp only [Act.put, aa, ac, ae]
  refine af rfl (al rfl (ev rfl) faR1) ?_
  simp only [Act.put, aa, ac, ae]
  refine af rfl (bX rfl (ev rfl) (ev rfl) (ix16 hj)) ?_
  simp only [Act.put, aa, ac, ae]
  refine af rfl (au rfl (ev rfl) (ldU8 ((HT3.out.at0).sta hj))) ?_
  simp only [Act.put, aa, ac, ae]
  refine wpList_nil ?_
  go_upto_region 4 with fail
  refine wp_region_lit ?_
  refine af (v := .bool true) rfl (ar true rfl (ev rfl) evk H1.out) ?_
  simp only [Act.put, aa, ac, ae]
  refine af (v := .bool true) rfl (aj rfl (ev rfl)) ?_
  simp only [Act.put, aa, ac, ae]
  refine wpList_nil ?_
  go_upto_region 5 with fail
  refine wp_region_lit ?_
  refine af rfl (aD rfl (ev rfl) (HT3.out.at0)) ?_
  simp only [Act.put, aa, ac, ae]
  refine av rfl (cp rfl (ev rfl) (ev rfl) HT3.out.at1) ?_
  simp only [Act.put, aa, ac, ae]
  have HT4 := Lib.hid (HT3.out.put (x))
  generalize putW w3 (w.heap.size + 1) (x) = w4 at HT4 ⊢
  clear HT3
  refine af (v := .bool false) rfl (aj rfl evk) ?_
  simp only [Act.put, aa, ac, ae]
  refine wpList_nil ?_
  go_wp2_with fail
  exact bodyPost_ret (res_rt rfl _ _ _ rfl HT4.out.at1) rfl ⟨rfl, HT4.out.bel⟩
set_option maxHeartbeats 1000000 in
theorem plose_3 {x : Ros} {j : Nat} (hj : j < 16) (hf : aG x = true) (hq : hasM x (j : Int) = true) (h1 : (sta x j == 1) = false) (h2 : (sta x j == 2) = true) (w : World) : Calls Tryz.prog 78 #[ros x, .int .i64 (j : Int)] w fun e w' => e = .returned (.tuple #[ros (setS (curS x 0) j 1), .bool true]) ∧ Below w.heap.size w w' := by
  have HT1 := Lib.hid (TwoR.new w x)
  have HF := Lib.hid hf
  have HQ := Lib.hid hq
  have H1 := Lib.hid h1
  have H2 := Lib.hid h2
  clear hf hq h1 h2
  go_enter Tryz.func78, Tryz.ntmps78
  go_upto_region 1 with (first | (refine af rfl (aH rfl rfl) ?_) | (refine af rfl (bK rfl) ?_) | fail)
  generalize (w.alloc (.cells (aC x).toArray 32)).alloc (.cells (aC bf).toArray 32) = w1 at *
  refine wp_region_lit ?_
  refine af rfl (aD rfl (ev rfl) (HT1.out.at0)) ?_
  simp only [Act.put, aa, ac, ae]
  refine ak rfl (ap Tryz.call34 rfl (evc (ev rfl) evn)) ?_
  refine (co w1 HF.out).mono ?_
  rintro e w2 ⟨rfl, hb⟩
  have HT2 := Lib.hid (HT1.out.call hb)
  clear hb HT1
  refine ⟨_, rfl, ?_⟩
  simp only [Act.put, aa, ac, ae]
  refine af (v := .bool false) rfl (az true rfl (ev rfl)) ?_
  simp only [Act.put, aa, ac, ae]
  refine af (v := .bool false) rfl (ag rfl (ev rfl)) ?_
  simp only [Act.put, aa, ac, ae]
  refine ah (ai rfl rfl rfl rfl) (aD rfl (ev rfl) (HT2.out.at0)) ?_
  simp only [Act.put, aa, ac, ae]
  refine ah (ai rfl rfl rfl rfl) (ag rfl (ev rfl)) ?_
  simp only [Act.put, aa, ac, ae]
  refine ak (ai rfl rfl rfl rfl) (ap Tryz.call66 rfl (evc (ev rfl) (evc (ev rfl) evn))) ?_
  refine (cH w2 HQ.out).mono ?_
  rintro e w3 ⟨rfl, hb⟩
  have HT3 := Lib.hid (HT2.out.call hb)
  clear hb HT2
  refine ⟨_, rfl, ?_⟩
  simp only [Act.put, aa, ac, ae]
  refine ah (v := .bool false) (ai rfl rfl rfl rfl) (az true rfl (ev rfl)) ?_
  simp only [Act.put, aa, ac, ae]
  refine af (v := .bool false) rfl (aI rfl (ev rfl) (ev rfl)) ?_
  simp only [Act.put, aa, ac, ae]
  refine wpList_nil ?_
  go_upto_region 3 with fail
  refine wp_region_lit ?_
  refine af rfl (ag rfl (ev rfl)) ?_
  simp only [Act.put, aa, ac, ae]
  refine af rfl (al rfl (ev rfl) faR1) ?_
  simp only [Act.put, aa, ac, ae]
  refine af rfl (bX rfl (ev rfl) (ev rfl) (ix16 hj)) ?_
  simp only [Act.put, aa, ac, ae]
  refine af rfl (au rfl (ev rfl) (ldU8 ((HT3.out.at0).sta hj))) ?_
  simp only [Act.put, aa, ac, ae]
  refine wpList_nil ?_
  go_upto_region 4 with fail
  refine wp_region_lit ?_
  refine af (v := .bool false) rfl (ar false rfl (ev rfl) evk H1.out) ?_
  simp only [Act.put, aa, ac, ae]
  refine af (v := .bool false) rfl (aj rfl (ev rfl)) ?_
  simp only [Act.put, aa, ac, ae]
  refine wpList_nil ?_
  go_upto_region 6 with fail
  refine wp_region_lit ?_
  refine af (v := .bool true) rfl (ar true rfl (ev rfl) evk H2.out) ?_
  simp only [Act.put, aa, ac, ae]
  refine af (v := .bool true) rfl (aj rfl (ev rfl)) ?_
  simp only [Act.put, aa, ac, ae]
  refine wpList_nil ?_
  go_upto_region 7 with fail
  refine wp_region_lit ?_
  refine af rfl (al rfl (ev rfl) faR2) ?_
  simp only [Act.put, aa, ac, ae]
  refine av rfl (exec_stI rfl (ev rfl) evk (HT3.out.at0.there (by omega))) ?_
  simp only [Act.put, aa, ac, ae]
  have HT4 := Lib.hid (HT3.out.set (celR_cur _ (0)))
  generalize setW w3 w.heap.size (19) (.int .i64 (0)) = w4 at HT4 ⊢
  clear HT3
  refine wpList_nil ?_
  go_upto_region 8 with fail
  refine wp_region_lit ?_
  refine af rfl (ag rfl (ev rfl)) ?_
  simp only [Act.put, aa, ac, ae]
  refine af rfl (al rfl (ev rfl) faR1) ?_
  simp only [Act.put, aa, ac, ae]
  refine af rfl (bX rfl (ev rfl) (ev rfl) (ix16 hj)) ?_
  simp only [Act.put, aa, ac, ae]
  refine av rfl (exec_stS rfl (ev rfl) evk (HT4.out.at0.there (by omega))) ?_
  simp only [Act.put, aa, ac, ae]
  have HT5 := Lib.hid (HT4.out.set (celR_set1 _ hj))
  generalize setW w4 w.heap.size (3 + j) (.int .u8 1) = w5 at HT5 ⊢
  clear HT4
  refine wpList_nil ?_
  go_upto_region 9 with fail
  refine wp_region_lit ?_
  refine af rfl (aD rfl (ev rfl) (HT5.out.at0)) ?_
  simp only [Act.put, aa, ac, ae]
  refine av rfl (cp rfl (ev rfl) (ev rfl) HT5.out.at1) ?_
  simp only [Act.put, aa, ac, ae]
  have HT6 := Lib.hid (HT5.out.put (setS (curS x 0) j 1))
  generalize putW w5 (w.heap.size + 1) (setS (curS x 0) j 1) = w6 at HT6 ⊢
  clear HT5
  refine af (v := .bool true) rfl (aj rfl evk) ?_
  simp only [Act.put, aa, ac, ae]
  refine wpList_nil ?_
  go_wp2_with fail
  exact bodyPost_ret (res_rt rfl _ _ _ rfl HT6.out.at1) rfl ⟨rfl, HT6.out.bel⟩
set_option maxHeartbeats 1000000 in
theorem plose_4 {x : Ros} {j : Nat} (hj : j < 16) (hf : aG x = true) (hq : hasM x (j : Int) = true) (h1 : (sta x j == 1) = false) (h2 : (sta x j == 2) = false) (w : World) : Calls Tryz.prog 78 #[ros x, .int .i64 (j : Int)] w fun e w' => e = .returned (.tuple #[ros (setS x j 1), .bool true]) ∧ Below w.heap.size w w' := by
  have HT1 := Lib.hid (TwoR.new w x)
  have HF := Lib.hid hf
  have HQ := Lib.hid hq
  have H1 := Lib.hid h1
  have H2 := Lib.hid h2
  clear hf hq h1 h2
  go_enter Tryz.func78, Tryz.ntmps78
  go_upto_region 1 with (first | (refine af rfl (aH rfl rfl) ?_) | (refine af rfl (bK rfl) ?_) | fail)
  generalize (w.alloc (.cells (aC x).toArray 32)).alloc (.cells (aC bf).toArray 32) = w1 at *
  refine wp_region_lit ?_
  refine af rfl (aD rfl (ev rfl) (HT1.out.at0)) ?_
  simp only [Act.put, aa, ac, ae]
  refine ak rfl (ap Tryz.call34 rfl (evc (ev rfl) evn)) ?_
  refine (co w1 HF.out).mono ?_
  rintro e w2 ⟨rfl, hb⟩
  have HT2 := Lib.hid (HT1.out.call hb)
  clear hb HT1
  refine ⟨_, rfl, ?_⟩
  simp only [Act.put, aa, ac, ae]
  refine af (v := .bool false) rfl (az true rfl (ev rfl)) ?_
  simp only [Act.put, aa, ac, ae]
  refine af (v := .bool false) rfl (ag rfl (ev rfl)) ?_
  simp only [Act.put, aa, ac, ae]
  refine ah (ai rfl rfl rfl rfl) (aD rfl (ev rfl) (HT2.out.at0)) ?_
  simp only [Act.put, aa, ac, ae]
  refine ah (ai rfl rfl rfl rfl) (ag rfl (ev rfl)) ?_
  simp only [Act.put, aa, ac, ae]
  refine ak (ai rfl rfl rfl rfl) (ap Tryz.call66 rfl (evc (ev rfl) (evc (ev rfl) evn))) ?_
  refine (cH w2 HQ.out).mono ?_
  rintro e w3 ⟨rfl, hb⟩
  have HT3 := Lib.hid (HT2.out.call hb)
  clear hb HT2
  refine ⟨_, rfl, ?_⟩
  simp only [Act.put, aa, ac, ae]
  refine ah (v := .bool false) (ai rfl rfl rfl rfl) (az true rfl (ev rfl)) ?_
  simp only [Act.put, aa, ac, ae]
  refine af (v := .bool false) rfl (aI rfl (ev rfl) (ev rfl)) ?_
  simp only [Act.put, aa, ac, ae]
  refine wpList_nil ?_
  go_upto_region 3 with fail
  refine wp_region_lit ?_
  refine af rfl (ag rfl (ev rfl)) ?_
  simp only [Act.put, aa, ac, ae]
  refine af rfl (al rfl (ev rfl) faR1) ?_
  simp only [Act.put, aa, ac, ae]
  refine af rfl (bX rfl (ev rfl) (ev rfl) (ix16 hj)) ?_
  simp only [Act.put, aa, ac, ae]
  refine af rfl (au rfl (ev rfl) (ldU8 ((HT3.out.at0).sta hj))) ?_
  simp only [Act.put, aa, ac, ae]
  refine wpList_nil ?_
  go_upto_region 4 with fail
  refine wp_region_lit ?_
  refine af (v := .bool false) rfl (ar false rfl (ev rfl) evk H1.out) ?_
  simp only [Act.put, aa, ac, ae]
  refine af (v := .bool false) rfl (aj rfl (ev rfl)) ?_
  simp only [Act.put, aa, ac, ae]
  refine wpList_nil ?_
  go_upto_region 6 with fail
  refine wp_region_lit ?_
  refine af (v := .bool false) rfl (ar false rfl (ev rfl) evk H2.out) ?_
  simp only [Act.put, aa, ac, ae]
  refine af (v := .bool false) rfl (aj rfl (ev rfl)) ?_
  simp only [Act.put, aa, ac, ae]
  refine wpList_nil ?_
  go_upto_region 8 with fail
  refine wp_region_lit ?_
  refine af rfl (ag rfl (ev rfl)) ?_
  simp only [Act.put, aa, ac, ae]
  refine af rfl (al rfl (ev rfl) faR1) ?_
  simp only [Act.put, aa, ac, ae]
  refine af rfl (bX rfl (ev rfl) (ev rfl) (ix16 hj)) ?_
  simp only [Act.put, aa, ac, ae]
  refine av rfl (exec_stS rfl (ev rfl) evk (HT3.out.at0.there (by omega))) ?_
  simp only [Act.put, aa, ac, ae]
  have HT4 := Lib.hid (HT3.out.set (celR_set1 _ hj))
  generalize setW w3 w.heap.size (3 + j) (.int .u8 1) = w4 at HT4 ⊢
  clear HT3
  refine wpList_nil ?_
  go_upto_region 9 with fail
  refine wp_region_lit ?_
  refine af rfl (aD rfl (ev rfl) (HT4.out.at0)) ?_
  simp only [Act.put, aa, ac, ae]
  refine av rfl (cp rfl (ev rfl) (ev rfl) HT4.out.at1) ?_
  simp only [Act.put, aa, ac, ae]
  have HT5 := Lib.hid (HT4.out.put (setS x j 1))
  generalize putW w4 (w.heap.size + 1) (setS x j 1) = w5 at HT5 ⊢
  clear HT4
  refine af (v := .bool true) rfl (aj rfl evk) ?_
  simp only [Act.put, aa, ac, ae]
  refine wpList_nil ?_
  go_wp2_with fail
  exact bodyPost_ret (res_rt rfl _ _ _ rfl HT5.out.at1) rfl ⟨rfl, HT5.out.bel⟩
theorem plose (x : Ros) (m : Int) (w : World) : Calls Tryz.prog 78 #[ros x, .int .i64 m] w fun e w' => e = .returned (.tuple #[ros (bl x m), .bool (losB x m)]) ∧ Below w.heap.size w w' := by
  unfold bl
  cases hf : aG x
  · rw [show losB x m = false from by unfold losB; rw [hf]; rfl]; exact plose_0 hf w
  cases hq : hasM x m
  · rw [show losB x m = false from by unfold losB; rw [hf, hq]; rfl]; exact plose_1 hf hq w
  have hm := of_hasM hq
  have hg := cQ (cr hf).1
  obtain ⟨j, rfl⟩ := Int.eq_ofNat_of_zero_le hm.1
  have hj : j < 16 := by omega
  have e : losB x (j : Int) = decide (sta x j ≠ 1) := by unfold losB; rw [hf, hq]; rfl
  rw [e]
  by_cases h1 : sta x j = 1
  · rw [decide_eq_false (by simpa using h1)]; exact plose_2 hj hf hq (by simpa using h1) w
  rw [decide_eq_true (by simpa using h1), if_pos rfl]
  show Calls _ _ _ _ fun e w' => e = .returned (.tuple #[ros (if sta x j = 2 then setS (curS x 0) j 1 else setS x j 1), .bool true]) ∧ Below w.heap.size w w'
  by_cases h2 : sta x j = 2
  · rw [if_pos h2]; exact plose_3 hj hf hq (by simpa using h1) (by simpa using h2) w
  · rw [if_neg h2]; exact plose_4 hj hf hq (by simpa using h1) (by simpa using h2) w
theorem geoG (w : World) (y : Ros) : (w.alloc (.cells (celG y).toArray 29)).heap[w.heap.size]? = some (.cells (celG y).toArray 29 (0, 0)) := heap_alloc_new w _
structure TwoG (w0 w : World) (y z : Ros) : Prop where
  bel : Below w0.heap.size w0 w
  at0 : w.rangeAt w0.heap.size 0 (celG y)
  lt0 : w0.heap.size < w.heap.size
  at1 : a6 w (w0.heap.size + 1) z
theorem TwoG.new (w : World) (y : Ros) : TwoG w ((w.alloc (.cells (celG y).toArray 29)).alloc (.cells (aC bf).toArray 32)) y bf := by
  refine ⟨((Below.refl _ w).alloc (Nat.le_refl _) _).alloc (by simp) _, aN (t := 29) (aW (geoG w y) _), by simp only [World.size_alloc]; omega, ?_⟩
  have := a6.new (w.alloc (.cells (celG y).toArray 29)) bf
  rwa [World.size_alloc] at this
section
variable {w0 w w' : World} {y z : Ros}
theorem TwoG.call (h : TwoG w0 w y z) (hb : Below w.heap.size w w') : TwoG w0 w' y z :=
  ⟨h.bel.trans (hb.mono h.bel.size), cy h.at0 h.lt0 hb, Nat.lt_of_lt_of_le h.lt0 hb.size, h.at1.below (aF h.at1) hb⟩
theorem TwoG.put (h : TwoG w0 w y z) (z' : Ros) : TwoG w0 (putW w (w0.heap.size + 1) z') y z' :=
  ⟨dF h.bel (by omega), (fun j v hj => by
    have := World.rangeAt_setCells_apart h.at0 (w0.heap.size + 1) 0 (aC z') (.inl (by omega))
    exact this j v hj), by rw [putW_size]; exact h.lt0, putW_at h.at1⟩
end
section
variable {ρ : Operand → Value} {o : Oper} {x : Operand} {w : World}
theorem exec_boxG {y : Ros} (ho : o.op = .box 29 x) (hx : ρ x = geo y) : (execOp ρ o).run Tryz.prog w = .ok (.value (.pointer (some ⟨w.heap.size, 0, none⟩))) (w.alloc (.cells (celG y).toArray 29)) := bS ho hx
theorem run_bldG (y : Ros) (w : World) : (Instr.build 32 #[(0, geo y)]).run Tryz.prog w = .ok (ros (gz y)) w := by
  obtain ⟨m, s, r, st, cur, gone⟩ := y
  kernel_rfl
theorem exec_bldG {y : Ros} (ho : o.op = .build 32 #[(0, x)]) (hx : ρ x = geo y) : (execOp ρ o).run Tryz.prog w = .ok (.value (ros (gz y))) w := by
  unfold execOp
  simp only [ho, hx, List.map_toArray, List.map_cons, List.map_nil, Sem.run_bind, run_bldG, Result.andThen_ok, Sem.run_pure]
end
theorem TwoG.third {w0 w : World} {y z : Ros} (h : TwoG w0 w y z) {b : Nat} (x : Ros) (hb : w0.heap.size + 1 < b) : TwoG w0 (putW w b x) y z :=
  ⟨dF h.bel (by omega), fun j v hj => World.rangeAt_setCells_apart h.at0 b 0 (aC x) (.inl (by omega)) j v hj, by rw [putW_size]; exact h.lt0, (putW_off (by omega)).trans h.at1⟩
set_option maxHeartbeats 1000000 in
theorem rnew_0 {y : Ros} (hg : aG (gz y) = false) (w : World) : Calls Tryz.prog 16 #[geo y] w fun e w' => e = .returned (.tuple #[ros (bf), .int .i64 2]) ∧ Below w.heap.size w w' := by
  have HT1 := Lib.hid (TwoG.new w y)
  have HG := Lib.hid hg
  clear hg
  go_enter Tryz.func16, Tryz.ntmps16
  go_upto_region 1 with (first | (refine af rfl (exec_boxG rfl rfl) ?_) | (refine af rfl (bK rfl) ?_) | fail)
  generalize (w.alloc (.cells (celG y).toArray 29)).alloc (.cells (aC bf).toArray 32) = w1 at *
  refine wp_region_lit ?_
  refine af rfl (cM (c := y) rfl (ev rfl) HT1.out.at0) ?_
  simp only [Act.put, aa, ac, ae]
  refine af rfl (exec_bldG (y := y) rfl (ev rfl)) ?_
  simp only [Act.put, aa, ac, ae]
  refine af rfl (bK rfl) ?_
  simp only [Act.put, aa, ac, ae]
  have HA := Lib.hid (a6.new w1 bf)
  have HT2 := Lib.hid (HT1.out.call (w' := w1.alloc (.cells (aC bf).toArray 32)) ((Below.refl _ _).alloc (Nat.le_refl _) _))
  have HB3 : Hid (w.heap.size + 1 < w1.heap.size) := Lib.hid (aF HT1.out.at1)
  clear HT1
  generalize w1.alloc (.cells (aC bf).toArray 32) = w2 at *
  generalize w1.heap.size = ba at *
  refine av rfl (cp rfl (ev rfl) (ev rfl) HA.out) ?_
  simp only [Act.put, aa, ac, ae]
  have HA2 := Lib.hid (putW_at (x := gz y) HA.out)
  have HT3 := Lib.hid (HT2.out.third (gz y) HB3.out)
  clear HT2 HA
  have HA := HA2
  clear HA2
  generalize putW w2 ba (gz y) = w3 at *
  refine wpList_nil ?_
  go_upto_region 2 with fail
  refine wp_region_lit ?_
  refine af rfl (aD rfl (ev rfl) HA.out) ?_
  simp only [Act.put, aa, ac, ae]
  refine ak rfl (ap Tryz.call32 rfl (evc (ev rfl) evn)) ?_
  refine (rfine_b w3 HG.out).mono ?_
  rintro e w4 ⟨rfl, hb⟩
  have HT4 := Lib.hid (HT3.out.call hb)
  have HA2 := Lib.hid (HA.out.below (aF HA.out) hb)
  clear hb HT3 HA
  have HA := HA2
  clear HA2
  refine ⟨_, rfl, ?_⟩
  simp only [Act.put, aa, ac, ae]
  refine af (v := .bool true) rfl (az false rfl (ev rfl)) ?_
  simp only [Act.put, aa, ac, ae]
  refine wpList_nil ?_
  go_upto_region 3 with fail
  refine wp_region_lit ?_
  refine af rfl (exec_bldR0 rfl) ?_
  simp only [Act.put, aa, ac, ae]
  refine av rfl (cp rfl (ev rfl) (ev rfl) HT4.out.at1) ?_
  simp only [Act.put, aa, ac, ae]
  have HT5 := Lib.hid (HT4.out.put (bf))
  generalize putW w4 (w.heap.size + 1) (bf) = w5 at HT5 ⊢
  clear HT4
  refine af rfl (aj rfl evk) ?_
  simp only [Act.put, aa, ac, ae]
  refine wpList_nil ?_
  go_wp2_with fail
  exact bodyPost_ret (res_rt rfl _ _ _ rfl HT5.out.at1) rfl ⟨rfl, HT5.out.bel⟩
set_option maxHeartbeats 1000000 in
theorem rnew_1 {y : Ros} (hg : aG (gz y) = true) (w : World) : Calls Tryz.prog 16 #[geo y] w fun e w' => e = .returned (.tuple #[ros (gz y), .int .i64 0]) ∧ Below w.heap.size w w' := by
  have HT1 := Lib.hid (TwoG.new w y)
  have HG := Lib.hid hg
  clear hg
  go_enter Tryz.func16, Tryz.ntmps16
  go_upto_region 1 with (first | (refine af rfl (exec_boxG rfl rfl) ?_) | (refine af rfl (bK rfl) ?_) | fail)
  generalize (w.alloc (.cells (celG y).toArray 29)).alloc (.cells (aC bf).toArray 32) = w1 at *
  refine wp_region_lit ?_
  refine af rfl (cM (c := y) rfl (ev rfl) HT1.out.at0) ?_
  simp only [Act.put, aa, ac, ae]
  refine af rfl (exec_bldG (y := y) rfl (ev rfl)) ?_
  simp only [Act.put, aa, ac, ae]
  refine af rfl (bK rfl) ?_
  simp only [Act.put, aa, ac, ae]
  have HA := Lib.hid (a6.new w1 bf)
  have HT2 := Lib.hid (HT1.out.call (w' := w1.alloc (.cells (aC bf).toArray 32)) ((Below.refl _ _).alloc (Nat.le_refl _) _))
  have HB3 : Hid (w.heap.size + 1 < w1.heap.size) := Lib.hid (aF HT1.out.at1)
  clear HT1
  generalize w1.alloc (.cells (aC bf).toArray 32) = w2 at *
  generalize w1.heap.size = ba at *
  refine av rfl (cp rfl (ev rfl) (ev rfl) HA.out) ?_
  simp only [Act.put, aa, ac, ae]
  have HA2 := Lib.hid (putW_at (x := gz y) HA.out)
  have HT3 := Lib.hid (HT2.out.third (gz y) HB3.out)
  clear HT2 HA
  have HA := HA2
  clear HA2
  generalize putW w2 ba (gz y) = w3 at *
  refine wpList_nil ?_
  go_upto_region 2 with fail
  refine wp_region_lit ?_
  refine af rfl (aD rfl (ev rfl) HA.out) ?_
  simp only [Act.put, aa, ac, ae]
  refine ak rfl (ap Tryz.call32 rfl (evc (ev rfl) evn)) ?_
  refine (rfine_b w3 HG.out).mono ?_
  rintro e w4 ⟨rfl, hb⟩
  have HT4 := Lib.hid (HT3.out.call hb)
  have HA2 := Lib.hid (HA.out.below (aF HA.out) hb)
  clear hb HT3 HA
  have HA := HA2
  clear HA2
  refine ⟨_, rfl, ?_⟩
  simp only [Act.put, aa, ac, ae]
  refine af (v := .bool false) rfl (az true rfl (ev rfl)) ?_
  simp only [Act.put, aa, ac, ae]
  refine wpList_nil ?_
  go_upto_region 4 with fail
  refine wp_region_lit ?_
  refine af rfl (aD rfl (ev rfl) HA.out) ?_
  simp only [Act.put, aa, ac, ae]
  refine av rfl (cp rfl (ev rfl) (ev rfl) HT4.out.at1) ?_
  simp only [Act.put, aa, ac, ae]
  have HT5 := Lib.hid (HT4.out.put (gz y))
  generalize putW w4 (w.heap.size + 1) (gz y) = w5 at HT5 ⊢
  clear HT4
  refine af rfl (aj rfl evk) ?_
  simp only [Act.put, aa, ac, ae]
  refine wpList_nil ?_
  go_wp2_with fail
  exact bodyPost_ret (res_rt rfl _ _ _ rfl HT5.out.at1) rfl ⟨rfl, HT5.out.bel⟩
theorem rnew (y : Ros) (w : World) : Calls Tryz.prog 16 #[geo y] w fun e w' => e = .returned (.tuple #[ros (newX y), .int .i64 (newEr y : Nat)]) ∧ Below w.heap.size w w' := by
  unfold newX newEr
  have h := fine_gz y
  cases hg : geoB y
  · exact rnew_0 (h.trans hg) w
  · exact rnew_1 (h.trans hg) w
structure Cel where
  b : Nat
  t : TypeId
  cs : List Value
section
variable {ρ : Operand → Value} {o : Oper} {x y : Operand} {w : World} {b : Nat} {c d : Ros} {t r : TypeId}
theorem res_r1 {fn : Func} {p : Tmp} (h : fn.results = #[.cell p 32]) (tmps : Array Value) (w : World) (b : Nat) (hp : tmps.getD p undef = .pointer (some ⟨b, 0, none⟩)) (hc : a6 w b c) :
    (results fn tmps).run Tryz.prog w = .ok (ros c) w := res_rng h tmps w b hp hc.range Tryz.underlying32 rfl (by rw [aS]; exact sizeR)
end
section
variable {x y : Ros} {g b : Bool} {m : Int} {e : Nat} (w : World)
theorem rnew_v (h : newX x = y) (he : newEr x = e) : Calls Tryz.prog 16 #[geo x] w fun r w' => r = .returned (.tuple #[ros y, .int .i64 (e : Nat)]) ∧ Below w.heap.size w w' := by subst h he; exact rnew x w
theorem plose_v (h : bl x m = y) (hb : losB x m = b) : Calls Tryz.prog 78 #[ros x, .int .i64 m] w fun r w' => r = .returned (.tuple #[ros y, .bool b]) ∧ Below w.heap.size w w' := by subst h hb; exact plose x m w
theorem phas_b {s : Int} (h : hasB x m s = b) : Calls Tryz.prog 42 #[ros x, .int .i64 m, .int .i64 s] w fun r w' => r = .returned (.bool b) ∧ Below w.heap.size w w' := by subst h; exact phas x m s w
end
section
variable {α : Type} {E : Elt α} {ρ : Operand → Value} {o : Oper} {x y : Operand} {w : World} {A : Option Addr} {n c k B b off : Nat} {l : List α}
theorem exec_bld1 {t : TypeId} {p v : Value} (ho : o.op = .build t #[(0, x)]) (hx : ρ x = p) (h : (Instr.build t #[(0, p)]).run Tryz.prog w = .ok v w) : (execOp ρ o).run Tryz.prog w = .ok (.value v) w := by
  unfold execOp
  simp [ho, hx, h, Result.andThen]
end
section
variable {ρ : Operand → Value} {o : Oper} {x y : Operand} {w : World} {t r : TypeId} {v : Value} {a1 a2 : Addr}
theorem eqGuard_ptr (op : BinOp) (t : TypeId) (x y : Operand) (a b : Option Addr) : (eqGuard op t x y (.pointer a) (.pointer b)).run Tryz.prog w = .ok () w := by
  cases op <;> simp [eqGuard]
theorem exec_binP {op : BinOp} {m n : Option Addr} (ho : o.op = .binOp op t x y r) (hx : ρ x = .pointer m) (hy : ρ y = .pointer n) (h : (binOp op t (.pointer m) (.pointer n)).run Tryz.prog w = .ok v w) : (execOp ρ o).run Tryz.prog w = .ok (.value v) w := by
  unfold execOp
  simp only [ho, hx, hy, Sem.run_bind, eqGuard_ptr, h, Result.andThen_ok, Sem.run_pure]
theorem equalIn_nil {te : TypeId} (hp : Tryz.prog.underlying t = some (.pointer te)) (m : Option Addr) (d : Nat) : (Op.equalIn (d + 1) t (.pointer m) (.pointer none)).run Tryz.prog w = .ok (decide (m = none)) w := by
  cases m <;> simp [Op.equalIn, run_underlying hp]
theorem dG {te : TypeId} {m : Option Addr} (c : Bool) (hp : Tryz.prog.underlying t = some (.pointer te)) (ho : o.op = .binOp .eql t x y r) (hx : ρ x = .pointer m) (hy : ρ y = .pointer none) (h : decide (m = none) = c) : (execOp ρ o).run Tryz.prog w = .ok (.value (.bool c)) w := by
  subst h
  refine exec_binP ho hx hy ?_
  simp only [binOp]
  simp [Op.equal, Op.maxDepth, equalIn_nil hp m 9999]
theorem dz {te : TypeId} {m : Option Addr} (c : Bool) (hp : Tryz.prog.underlying t = some (.pointer te)) (ho : o.op = .binOp .neq t x y r) (hx : ρ x = .pointer m) (hy : ρ y = .pointer none) (h : (!decide (m = none)) = c) : (execOp ρ o).run Tryz.prog w = .ok (.value (.bool c)) w := by
  subst h
  refine exec_binP ho hx hy ?_
  simp only [binOp]
  simp [Op.equal, Op.maxDepth, equalIn_nil hp m 9999]
end
end Go.Proofs.YtheponmdbmloaaaGreatDoor
