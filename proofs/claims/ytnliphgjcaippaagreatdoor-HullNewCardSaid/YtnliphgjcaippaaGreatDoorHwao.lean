import Derived.Test.YtnliphgjcaippaaGreatDoorHwam
import Derived.Test.YtnliphgjcaippaaGreatDoorHwah
import Derived.Test.YtnliphgjcaippaaGreatDoorHwak
import Derived.Test.YtnliphgjcaippaaGreatDoorHwZ
namespace Go.Proofs.YtnliphgjcaippaaGreatDoor
open Go.RowKit
set_option linter.unusedVariables false
set_option linter.unusedSimpArgs false
set_option maxRecDepth 100000
theorem wrap_two {a c n : Nat} (ha : a ≤ 16) (hc : c ≤ 16) (hn : a + c = n) : IntKind.i64.wrap ((a : Int) + (c : Int)) = (n : Int) := by
  rw [IntWalk.i64_in _ (by omega)]
  omega
set_option maxHeartbeats 1000000 in
theorem rmiss_0 {x : Ros} (hf : aH x = false) (w : World) : Calls Tryz.prog 81 #[ros x] w fun e w' => e = .returned (.int .i64 0) ∧ Below w.heap.size w w' := by
  have HT1 := Lib.hid (OneR.new w x)
  have HF := Lib.hid hf
  clear hf
  go_enter Tryz.func81, Tryz.ntmps81
  go_wp2_with (first | (refine af rfl (aE rfl rfl) ?_) | fail)
  generalize w.alloc (.cells (aG x).toArray 28) = w1 at *
  have ht1 := HT1.out
  clear HT1
  go_loopw [3, 4] (fun n i wr => ∃ j : Nat, j ≤ 16 ∧ i = .int .i64 j ∧ n = .int .i64 (0 : Nat) ∧ OneR w wr x) (fun _ i _ => 16 - (intOf i).toNat)
  case atStart => exact ⟨0, Nat.zero_le _, rfl, rfl, ht1⟩
  case round =>
    clear ht1
    obtain ⟨j, hj, rfl, rfl, ht⟩ := hrel
    have HT := Lib.hid ht
    clear ht
    by_cases hlt : j < 16
    · have H16 : Hid (decide ((j : Int) < 16) = true) := Lib.hid (decide_eq_true (by omega))
      go_upto_region 3 with fail
      refine wp_region_lit ?_
      refine af rfl (ai rfl (ev rfl)) ?_
      simp only [Act.put, aa, ac, ae]
      refine af (v := .bool true) rfl (bk true rfl (ev rfl) evk H16.out) ?_
      simp only [Act.put, aa, ac, ae]
      refine af (v := .bool true) rfl (ai rfl (ev rfl)) ?_
      simp only [Act.put, aa, ac, ae]
      refine ah (ag rfl rfl rfl rfl) (aw rfl (ev rfl) (HT.out.at0)) ?_
      simp only [Act.put, aa, ac, ae]
      refine al (ag rfl rfl rfl rfl) (am Tryz.call38 rfl (evc (ev rfl) evn)) ?_
      refine (cO wr HF.out).mono ?_
      rintro e w2 ⟨rfl, hb⟩
      have HT2 := Lib.hid (HT.out.call hb)
      clear hb HT
      refine ⟨_, rfl, ?_⟩
      simp only [Act.put, aa, ac, ae]
      refine af (v := .bool false) rfl (aF rfl (ev rfl) (ev rfl)) ?_
      simp only [Act.put, aa, ac, ae]
      refine wpList_nil ?_
      go_wp2_with fail
      go_ret
      exact ⟨rfl, HT2.out.bel⟩
    · have e : j = 16 := by omega
      subst e
      go_wp2
      go_ret
      exact ⟨rfl, HT.out.bel⟩
set_option maxHeartbeats 1000000 in
theorem rmiss_1 {x : Ros} (hf : aH x = true) (w : World) : Calls Tryz.prog 81 #[ros x] w fun e w' => e = .returned (.int .i64 (outs x : Nat)) ∧ Below w.heap.size w w' := by
  have HT1 := Lib.hid (OneR.new w x)
  have HF := Lib.hid hf
  clear hf
  go_enter Tryz.func81, Tryz.ntmps81
  go_wp2_with (first | (refine af rfl (aE rfl rfl) ?_) | fail)
  generalize w.alloc (.cells (aG x).toArray 28) = w1 at *
  have ht1 := HT1.out
  clear HT1
  have HS : Hid (∀ j, sta x j = bt x.st.toList j) := Lib.hid fun _ => rfl
  go_loopw [3, 4] (fun n i wr => ∃ j : Nat, j ≤ 16 ∧ i = .int .i64 j ∧ n = .int .i64 (outK x.st.toList j : Nat) ∧ OneR w wr x) (fun _ i _ => 16 - (intOf i).toNat)
  case atStart => exact ⟨0, Nat.zero_le _, rfl, rfl, ht1⟩
  case round =>
    clear ht1
    obtain ⟨j, hj, rfl, rfl, ht⟩ := hrel
    have HT := Lib.hid ht
    clear ht
    by_cases hlt : j < 16
    · have H16 : Hid (decide ((j : Int) < 16) = true) := Lib.hid (decide_eq_true (by omega))
      go_upto_region 3 with fail
      refine wp_region_lit ?_
      refine af rfl (ai rfl (ev rfl)) ?_
      simp only [Act.put, aa, ac, ae]
      refine af (v := .bool true) rfl (bk true rfl (ev rfl) evk H16.out) ?_
      simp only [Act.put, aa, ac, ae]
      refine af (v := .bool true) rfl (ai rfl (ev rfl)) ?_
      simp only [Act.put, aa, ac, ae]
      refine ah (ag rfl rfl rfl rfl) (aw rfl (ev rfl) (HT.out.at0)) ?_
      simp only [Act.put, aa, ac, ae]
      refine al (ag rfl rfl rfl rfl) (am Tryz.call38 rfl (evc (ev rfl) evn)) ?_
      refine (cO wr HF.out).mono ?_
      rintro e w2 ⟨rfl, hb⟩
      have HT2 := Lib.hid (HT.out.call hb)
      clear hb HT
      refine ⟨_, rfl, ?_⟩
      simp only [Act.put, aa, ac, ae]
      refine af (v := .bool true) rfl (aF rfl (ev rfl) (ev rfl)) ?_
      simp only [Act.put, aa, ac, ae]
      refine wpList_nil ?_
      have HK := Lib.hid (outK_succ x.st.toList j)
      have hle := outK_le x.st.toList j
      generalize outK x.st.toList j = n at *
      by_cases h0 : sta x j = 0
      · rw [if_pos (by rw [← HS.out]; exact h0)] at HK
        have H0 : Hid ((sta x j != 0) = false) := Lib.hid (by simpa using h0)
        clear h0
        go_upto_region 5 with fail
        refine wp_region_lit ?_
        refine af rfl (ai rfl (ev rfl)) ?_
        simp only [Act.put, aa, ac, ae]
        refine af rfl (aj rfl (ev rfl) faR1) ?_
        simp only [Act.put, aa, ac, ae]
        refine af rfl (bS rfl (ev rfl) (ev rfl) (ix16 hlt)) ?_
        simp only [Act.put, aa, ac, ae]
        refine af rfl (aq rfl (ev rfl) (ldU8 ((HT2.out.at0).sta hlt))) ?_
        simp only [Act.put, aa, ac, ae]
        refine af (v := .bool false) rfl (ax false rfl (ev rfl) evk H0.out) ?_
        simp only [Act.put, aa, ac, ae]
        refine wpList_nil ?_
        go_wp2_with fail
        go_roundw
        case rel => exact ⟨j + 1, by omega, by go_num, by rw [HK.out]; rfl, HT2.out⟩
        case measure => simp [intOf]; omega
      · rw [if_neg (by rw [← HS.out]; exact h0)] at HK
        have H0 : Hid ((sta x j != 0) = true) := Lib.hid (by simpa using h0)
        clear h0
        go_upto_region 5 with fail
        refine wp_region_lit ?_
        refine af rfl (ai rfl (ev rfl)) ?_
        simp only [Act.put, aa, ac, ae]
        refine af rfl (aj rfl (ev rfl) faR1) ?_
        simp only [Act.put, aa, ac, ae]
        refine af rfl (bS rfl (ev rfl) (ev rfl) (ix16 hlt)) ?_
        simp only [Act.put, aa, ac, ae]
        refine af rfl (aq rfl (ev rfl) (ldU8 ((HT2.out.at0).sta hlt))) ?_
        simp only [Act.put, aa, ac, ae]
        refine af (v := .bool true) rfl (ax true rfl (ev rfl) evk H0.out) ?_
        simp only [Act.put, aa, ac, ae]
        refine wpList_nil ?_
        go_wp2_with fail
        go_roundw
        case rel => exact ⟨j + 1, by omega, by go_num, by rw [HK.out]; go_num, HT2.out⟩
        case measure => simp [intOf]; omega
    · have e : j = 16 := by omega
      subst e
      go_wp2
      go_ret
      exact ⟨rfl, HT.out.bel⟩
theorem rmiss (x : Ros) (w : World) : Calls Tryz.prog 81 #[ros x] w fun e w' => e = .returned (.int .i64 (missN x : Nat)) ∧ Below w.heap.size w w' := by
  unfold missN
  cases hf : aH x
  · exact rmiss_0 hf w
  · exact rmiss_1 hf w
theorem dA {x : Ros} {n : Nat} (w : World) (h : missN x = n) : Calls Tryz.prog 81 #[ros x] w fun e w' => e = .returned (.int .i64 (n : Nat)) ∧ Below w.heap.size w w' := by subst h; exact rmiss x w
set_option maxHeartbeats 1000000 in
theorem rheals_0 {x : Ros} (hf : aH x = false) (w : World) : Calls Tryz.prog 82 #[ros x] w fun e w' => e = .returned (.tuple #[.int .i64 0, .bool false]) ∧ Below w.heap.size w w' := by
  have HT1 := Lib.hid (OneR.new w x)
  have HF := Lib.hid hf
  clear hf
  go_enter Tryz.func82, Tryz.ntmps82
  go_wp2_with (first | (refine af rfl (aE rfl rfl) ?_) | fail)
  generalize w.alloc (.cells (aG x).toArray 28) = w1 at *
  have ht1 := HT1.out
  clear HT1
  go_loopw [4] (fun i wr => ∃ j : Nat, j ≤ 16 ∧ i = .int .i64 j ∧ OneR w wr x) (fun i _ => 16 - (intOf i).toNat)
  case atStart => exact ⟨0, Nat.zero_le _, rfl, ht1⟩
  case round =>
    clear ht1
    obtain ⟨j, hj, rfl, ht⟩ := hrel
    have HT := Lib.hid ht
    clear ht
    by_cases hlt : j < 16
    · have H16 : Hid (decide ((j : Int) < 16) = true) := Lib.hid (decide_eq_true (by omega))
      go_upto_region 2 with fail
      refine wp_region_lit ?_
      refine af rfl (ai rfl (ev rfl)) ?_
      simp only [Act.put, aa, ac, ae]
      refine af (v := .bool true) rfl (bk true rfl (ev rfl) evk H16.out) ?_
      simp only [Act.put, aa, ac, ae]
      refine af (v := .bool true) rfl (ai rfl (ev rfl)) ?_
      simp only [Act.put, aa, ac, ae]
      refine ah (ag rfl rfl rfl rfl) (aw rfl (ev rfl) (HT.out.at0)) ?_
      simp only [Act.put, aa, ac, ae]
      refine al (ag rfl rfl rfl rfl) (am Tryz.call38 rfl (evc (ev rfl) evn)) ?_
      refine (cO wr HF.out).mono ?_
      rintro e w2 ⟨rfl, hb⟩
      have HT2 := Lib.hid (HT.out.call hb)
      clear hb HT
      refine ⟨_, rfl, ?_⟩
      simp only [Act.put, aa, ac, ae]
      refine af (v := .bool false) rfl (aF rfl (ev rfl) (ev rfl)) ?_
      simp only [Act.put, aa, ac, ae]
      refine wpList_nil ?_
      go_wp2_with fail
      go_ret2
      exact ⟨rfl, HT2.out.bel⟩
    · have e : j = 16 := by omega
      subst e
      go_wp2
      go_ret2
      exact ⟨rfl, HT.out.bel⟩
set_option maxHeartbeats 1000000 in
theorem rheals_1 {x : Ros} (hf : aH x = true) (w : World) : Calls Tryz.prog 82 #[ros x] w fun e w' => e = .returned (.tuple #[.int .i64 ((healJ x).getD 0 : Nat), .bool (healJ x).isSome]) ∧ Below w.heap.size w w' := by
  have HT1 := Lib.hid (OneR.new w x)
  have HF := Lib.hid hf
  clear hf
  go_enter Tryz.func82, Tryz.ntmps82
  go_wp2_with (first | (refine af rfl (aE rfl rfl) ?_) | fail)
  generalize w.alloc (.cells (aG x).toArray 28) = w1 at *
  have ht1 := HT1.out
  clear HT1
  have HJ := Lib.hid (healJ_def x)
  have HS : Hid (∀ j, sta x j = bt x.st.toList j) := Lib.hid fun _ => rfl
  go_loopw [4] (fun i wr => ∃ j : Nat, j ≤ 16 ∧ i = .int .i64 j ∧ OneR w wr x ∧ fstK x.st.toList j = none) (fun i _ => 16 - (intOf i).toNat)
  case atStart => exact ⟨0, Nat.zero_le _, rfl, ht1, rfl⟩
  case round =>
    clear ht1
    obtain ⟨j, hj, rfl, ht, h0⟩ := hrel
    have HT := Lib.hid ht
    clear ht
    have H0 := Lib.hid h0
    clear h0
    by_cases hlt : j < 16
    · have H16 : Hid (decide ((j : Int) < 16) = true) := Lib.hid (decide_eq_true (by omega))
      go_upto_region 2 with fail
      refine wp_region_lit ?_
      refine af rfl (ai rfl (ev rfl)) ?_
      simp only [Act.put, aa, ac, ae]
      refine af (v := .bool true) rfl (bk true rfl (ev rfl) evk H16.out) ?_
      simp only [Act.put, aa, ac, ae]
      refine af (v := .bool true) rfl (ai rfl (ev rfl)) ?_
      simp only [Act.put, aa, ac, ae]
      refine ah (ag rfl rfl rfl rfl) (aw rfl (ev rfl) (HT.out.at0)) ?_
      simp only [Act.put, aa, ac, ae]
      refine al (ag rfl rfl rfl rfl) (am Tryz.call38 rfl (evc (ev rfl) evn)) ?_
      refine (cO wr HF.out).mono ?_
      rintro e w2 ⟨rfl, hb⟩
      have HT2 := Lib.hid (HT.out.call hb)
      clear hb HT
      refine ⟨_, rfl, ?_⟩
      simp only [Act.put, aa, ac, ae]
      refine af (v := .bool true) rfl (aF rfl (ev rfl) (ev rfl)) ?_
      simp only [Act.put, aa, ac, ae]
      refine wpList_nil ?_
      by_cases h2 : sta x j = 2
      · have HE : Hid (healJ x = some j) := Lib.hid (HJ.out.trans (fstK_at H0.out ((HS.out j).symm.trans h2) hlt))
        have H2 : Hid ((sta x j == 2) = true) := Lib.hid (by simpa using h2)
        clear h2
        go_upto_region 4 with fail
        refine wp_region_lit ?_
        refine af rfl (ai rfl (ev rfl)) ?_
        simp only [Act.put, aa, ac, ae]
        refine af rfl (aj rfl (ev rfl) faR1) ?_
        simp only [Act.put, aa, ac, ae]
        refine af rfl (bS rfl (ev rfl) (ev rfl) (ix16 hlt)) ?_
        simp only [Act.put, aa, ac, ae]
        refine af rfl (aq rfl (ev rfl) (ldU8 ((HT2.out.at0).sta hlt))) ?_
        simp only [Act.put, aa, ac, ae]
        refine af (v := .bool true) rfl (au true rfl (ev rfl) evk H2.out) ?_
        simp only [Act.put, aa, ac, ae]
        refine wpList_nil ?_
        go_wp2_with fail
        go_ret2
        exact ⟨by rw [HE.out]; rfl, HT2.out.bel⟩
      · have HE := Lib.hid (fstK_next H0.out (fun e => h2 ((HS.out j).trans e)))
        have H2 : Hid ((sta x j == 2) = false) := Lib.hid (by simpa using h2)
        clear h2
        go_upto_region 4 with fail
        refine wp_region_lit ?_
        refine af rfl (ai rfl (ev rfl)) ?_
        simp only [Act.put, aa, ac, ae]
        refine af rfl (aj rfl (ev rfl) faR1) ?_
        simp only [Act.put, aa, ac, ae]
        refine af rfl (bS rfl (ev rfl) (ev rfl) (ix16 hlt)) ?_
        simp only [Act.put, aa, ac, ae]
        refine af rfl (aq rfl (ev rfl) (ldU8 ((HT2.out.at0).sta hlt))) ?_
        simp only [Act.put, aa, ac, ae]
        refine af (v := .bool false) rfl (au false rfl (ev rfl) evk H2.out) ?_
        simp only [Act.put, aa, ac, ae]
        refine wpList_nil ?_
        go_wp2_with fail
        go_roundw
        case rel => exact ⟨j + 1, by omega, by go_num, HT2.out, HE.out⟩
        case measure => simp [intOf]; omega
    · have e : j = 16 := by omega
      subst e
      have HE : Hid (healJ x = none) := Lib.hid (HJ.out.trans H0.out)
      go_wp2
      go_ret2
      exact ⟨by rw [HE.out]; rfl, HT.out.bel⟩
theorem rheals (x : Ros) (w : World) : Calls Tryz.prog 82 #[ros x] w fun e w' => e = .returned (.tuple #[.int .i64 (heaM x : Nat), .bool (heaB x)]) ∧ Below w.heap.size w w' := by
  unfold heaM heaB
  cases hf : aH x
  · exact rheals_0 hf w
  · exact rheals_1 hf w
theorem dd {x : Ros} {m : Nat} {b : Bool} (w : World) (hm : heaM x = m) (hb : heaB x = b) : Calls Tryz.prog 82 #[ros x] w fun e w' => e = .returned (.tuple #[.int .i64 (m : Nat), .bool b]) ∧ Below w.heap.size w w' := by subst hm hb; exact rheals x w
set_option maxHeartbeats 1000000 in
theorem pstate_0 {x : Ros} (hf : aH x = false) (w : World) : Calls Tryz.prog 75 #[ros x] w fun e w' => e = .returned (.int .i64 0) ∧ Below w.heap.size w w' := by
  have HT1 := Lib.hid (OneR.new w x)
  have HF := Lib.hid hf
  clear hf
  go_enter Tryz.func75, Tryz.ntmps75
  go_upto_region 1 with (first | (refine af rfl (aE rfl rfl) ?_) | fail)
  generalize w.alloc (.cells (aG x).toArray 28) = w1 at *
  refine wp_region_lit ?_
  refine af rfl (aw rfl (ev rfl) (HT1.out.at0)) ?_
  simp only [Act.put, aa, ac, ae]
  refine al rfl (am Tryz.call35 rfl (evc (ev rfl) evn)) ?_
  refine (cq w1 HF.out).mono ?_
  rintro e w2 ⟨rfl, hb⟩
  have HT2 := Lib.hid (HT1.out.call hb)
  clear hb HT1
  refine ⟨_, rfl, ?_⟩
  simp only [Act.put, aa, ac, ae]
  refine af (v := .bool true) rfl (aB false rfl (ev rfl)) ?_
  simp only [Act.put, aa, ac, ae]
  refine wpList_nil ?_
  go_upto_region 2 with fail
  refine wp_region_lit ?_
  refine af rfl (ak rfl evk) ?_
  simp only [Act.put, aa, ac, ae]
  refine wpList_nil ?_
  go_wp2_with fail
  go_ret
  exact ⟨rfl, HT2.out.bel⟩
set_option maxHeartbeats 1000000 in
theorem pstate_5a {x : Ros} {a c n : Nat} (hf : aH x = true) (ha : many x 1 = a) (hc : many x 2 = c) (hn : IntKind.i64.wrap ((a : Int) + (c : Int)) = (n : Int)) (hg : decide ((2 : Int) ≤ (n : Int)) = true) (w : World) : Calls Tryz.prog 75 #[ros x] w fun e w' => e = .returned (.int .i64 5) ∧ Below w.heap.size w w' := by
  have HT1 := Lib.hid (OneR.new w x)
  have HF := Lib.hid hf
  have HA := Lib.hid ha
  have HC := Lib.hid hc
  have HN := Lib.hid hn
  have HG := Lib.hid hg
  clear hf ha hc hn hg
  go_enter Tryz.func75, Tryz.ntmps75
  go_upto_region 1 with (first | (refine af rfl (aE rfl rfl) ?_) | fail)
  generalize w.alloc (.cells (aG x).toArray 28) = w1 at *
  refine wp_region_lit ?_
  refine af rfl (aw rfl (ev rfl) (HT1.out.at0)) ?_
  simp only [Act.put, aa, ac, ae]
  refine al rfl (am Tryz.call35 rfl (evc (ev rfl) evn)) ?_
  refine (cq w1 HF.out).mono ?_
  rintro e w2 ⟨rfl, hb⟩
  have HT2 := Lib.hid (HT1.out.call hb)
  clear hb HT1
  refine ⟨_, rfl, ?_⟩
  simp only [Act.put, aa, ac, ae]
  refine af (v := .bool false) rfl (aB true rfl (ev rfl)) ?_
  simp only [Act.put, aa, ac, ae]
  refine wpList_nil ?_
  go_upto_region 3 with fail
  refine aI (B := w2.heap.size) (by kernel_rfl) ?_
  refine ao rfl (fun w' hw => aw rfl (ev rfl) (HT2.out.above hw)) ?_
  simp only [Act.put, aa, ac, ae]
  refine a7 rfl (fun _ => am Tryz.call111 rfl (evc (ev rfl) (evc evk evn))) (aM (Nat.le_refl _) fun w' hw => df w' HA.out) ?_
  simp only [Act.put, aa, ac, ae]
  refine ao rfl (fun w' hw => aw rfl (ev rfl) (HT2.out.above hw)) ?_
  simp only [Act.put, aa, ac, ae]
  refine a7 rfl (fun _ => am Tryz.call111 rfl (evc (ev rfl) (evc evk evn))) (aM (Nat.le_refl _) fun w' hw => df w' HC.out) ?_
  simp only [Act.put, aa, ac, ae]
  refine ao rfl (fun w' hw => ak rfl (ev rfl)) ?_
  simp only [Act.put, aa, ac, ae]
  refine ao rfl (fun w' hw => ak rfl (ev rfl)) ?_
  simp only [Act.put, aa, ac, ae]
  refine wpQuiet_nil ?_
  intro w3 hw
  have HT3 := Lib.hid (HT2.out.call hw)
  clear hw HT2
  go_upto_region 4 with fail
  refine wp_region_lit ?_
  refine af rfl (ai rfl (ev rfl)) ?_
  simp only [Act.put, aa, ac, ae]
  refine af rfl (ai rfl (ev rfl)) ?_
  simp only [Act.put, aa, ac, ae]
  refine af rfl (bw rfl (ev rfl) (ev rfl) HN.out) ?_
  simp only [Act.put, aa, ac, ae]
  refine af rfl (ak rfl (ev rfl)) ?_
  simp only [Act.put, aa, ac, ae]
  refine wpList_nil ?_
  go_upto_region 5 with fail
  refine wp_region_lit ?_
  refine af rfl (ai rfl (ev rfl)) ?_
  simp only [Act.put, aa, ac, ae]
  refine af (v := .bool true) rfl (bn true rfl (ev rfl) evk HG.out) ?_
  simp only [Act.put, aa, ac, ae]
  refine af (v := .bool true) rfl (ak rfl (ev rfl)) ?_
  simp only [Act.put, aa, ac, ae]
  refine wpList_nil ?_
  go_upto_region 7 with fail
  refine wp_region_lit ?_
  refine af rfl (ak rfl evk) ?_
  simp only [Act.put, aa, ac, ae]
  refine wpList_nil ?_
  go_wp2_with fail
  go_ret
  exact ⟨rfl, HT3.out.bel⟩
set_option maxHeartbeats 1000000 in
theorem pstate_5b {x : Ros} {a c n : Nat} (hf : aH x = true) (ha : many x 1 = a) (hc : many x 2 = c) (hn : IntKind.i64.wrap ((a : Int) + (c : Int)) = (n : Int)) (hg : decide ((2 : Int) ≤ (n : Int)) = false) (h1 : ((n : Int) == 1) = true) (ho : x.gone = true) (w : World) : Calls Tryz.prog 75 #[ros x] w fun e w' => e = .returned (.int .i64 5) ∧ Below w.heap.size w w' := by
  have HT1 := Lib.hid (OneR.new w x)
  have HF := Lib.hid hf
  have HA := Lib.hid ha
  have HC := Lib.hid hc
  have HN := Lib.hid hn
  have HG := Lib.hid hg
  have H1 := Lib.hid h1
  have HO := Lib.hid ho
  clear hf ha hc hn hg h1 ho
  go_enter Tryz.func75, Tryz.ntmps75
  go_upto_region 1 with (first | (refine af rfl (aE rfl rfl) ?_) | fail)
  generalize w.alloc (.cells (aG x).toArray 28) = w1 at *
  refine wp_region_lit ?_
  refine af rfl (aw rfl (ev rfl) (HT1.out.at0)) ?_
  simp only [Act.put, aa, ac, ae]
  refine al rfl (am Tryz.call35 rfl (evc (ev rfl) evn)) ?_
  refine (cq w1 HF.out).mono ?_
  rintro e w2 ⟨rfl, hb⟩
  have HT2 := Lib.hid (HT1.out.call hb)
  clear hb HT1
  refine ⟨_, rfl, ?_⟩
  simp only [Act.put, aa, ac, ae]
  refine af (v := .bool false) rfl (aB true rfl (ev rfl)) ?_
  simp only [Act.put, aa, ac, ae]
  refine wpList_nil ?_
  go_upto_region 3 with fail
  refine aI (B := w2.heap.size) (by kernel_rfl) ?_
  refine ao rfl (fun w' hw => aw rfl (ev rfl) (HT2.out.above hw)) ?_
  simp only [Act.put, aa, ac, ae]
  refine a7 rfl (fun _ => am Tryz.call111 rfl (evc (ev rfl) (evc evk evn))) (aM (Nat.le_refl _) fun w' hw => df w' HA.out) ?_
  simp only [Act.put, aa, ac, ae]
  refine ao rfl (fun w' hw => aw rfl (ev rfl) (HT2.out.above hw)) ?_
  simp only [Act.put, aa, ac, ae]
  refine a7 rfl (fun _ => am Tryz.call111 rfl (evc (ev rfl) (evc evk evn))) (aM (Nat.le_refl _) fun w' hw => df w' HC.out) ?_
  simp only [Act.put, aa, ac, ae]
  refine ao rfl (fun w' hw => ak rfl (ev rfl)) ?_
  simp only [Act.put, aa, ac, ae]
  refine ao rfl (fun w' hw => ak rfl (ev rfl)) ?_
  simp only [Act.put, aa, ac, ae]
  refine wpQuiet_nil ?_
  intro w3 hw
  have HT3 := Lib.hid (HT2.out.call hw)
  clear hw HT2
  go_upto_region 4 with fail
  refine wp_region_lit ?_
  refine af rfl (ai rfl (ev rfl)) ?_
  simp only [Act.put, aa, ac, ae]
  refine af rfl (ai rfl (ev rfl)) ?_
  simp only [Act.put, aa, ac, ae]
  refine af rfl (bw rfl (ev rfl) (ev rfl) HN.out) ?_
  simp only [Act.put, aa, ac, ae]
  refine af rfl (ak rfl (ev rfl)) ?_
  simp only [Act.put, aa, ac, ae]
  refine wpList_nil ?_
  go_upto_region 5 with fail
  refine wp_region_lit ?_
  refine af rfl (ai rfl (ev rfl)) ?_
  simp only [Act.put, aa, ac, ae]
  refine af (v := .bool false) rfl (bn false rfl (ev rfl) evk HG.out) ?_
  simp only [Act.put, aa, ac, ae]
  refine af (v := .bool false) rfl (ak rfl (ev rfl)) ?_
  simp only [Act.put, aa, ac, ae]
  refine wpList_nil ?_
  go_upto_region 6 with fail
  refine wp_region_lit ?_
  refine af rfl (ai rfl (ev rfl)) ?_
  simp only [Act.put, aa, ac, ae]
  refine af (v := .bool true) rfl (au true rfl (ev rfl) evk H1.out) ?_
  simp only [Act.put, aa, ac, ae]
  refine af (v := .bool true) rfl (ai rfl (ev rfl)) ?_
  simp only [Act.put, aa, ac, ae]
  refine ah (ag rfl rfl rfl rfl) (aj rfl (ev rfl) faR3) ?_
  simp only [Act.put, aa, ac, ae]
  refine ah (v := .bool true) (ag rfl rfl rfl rfl) (aq rfl (ev rfl) (ldBo (HO.out ▸ HT3.out.at0.cells.2.2.2.2))) ?_
  simp only [Act.put, aa, ac, ae]
  refine af (v := .bool true) rfl (aF rfl (ev rfl) (ev rfl)) ?_
  simp only [Act.put, aa, ac, ae]
  refine af (v := .bool true) rfl (ak rfl (ev rfl)) ?_
  simp only [Act.put, aa, ac, ae]
  refine wpList_nil ?_
  go_upto_region 7 with fail
  refine wp_region_lit ?_
  refine af rfl (ak rfl evk) ?_
  simp only [Act.put, aa, ac, ae]
  refine wpList_nil ?_
  go_wp2_with fail
  go_ret
  exact ⟨rfl, HT3.out.bel⟩
set_option maxHeartbeats 1000000 in
theorem pstate_4 {x : Ros} {a c n : Nat} (hf : aH x = true) (ha : many x 1 = a) (hc : many x 2 = c) (hn : IntKind.i64.wrap ((a : Int) + (c : Int)) = (n : Int)) (hg : decide ((2 : Int) ≤ (n : Int)) = false) (h1 : ((n : Int) == 1) = false) (ho : x.gone = true) (w : World) : Calls Tryz.prog 75 #[ros x] w fun e w' => e = .returned (.int .i64 4) ∧ Below w.heap.size w w' := by
  have HT1 := Lib.hid (OneR.new w x)
  have HF := Lib.hid hf
  have HA := Lib.hid ha
  have HC := Lib.hid hc
  have HN := Lib.hid hn
  have HG := Lib.hid hg
  have H1 := Lib.hid h1
  have HO := Lib.hid ho
  clear hf ha hc hn hg h1 ho
  go_enter Tryz.func75, Tryz.ntmps75
  go_upto_region 1 with (first | (refine af rfl (aE rfl rfl) ?_) | fail)
  generalize w.alloc (.cells (aG x).toArray 28) = w1 at *
  refine wp_region_lit ?_
  refine af rfl (aw rfl (ev rfl) (HT1.out.at0)) ?_
  simp only [Act.put, aa, ac, ae]
  refine al rfl (am Tryz.call35 rfl (evc (ev rfl) evn)) ?_
  refine (cq w1 HF.out).mono ?_
  rintro e w2 ⟨rfl, hb⟩
  have HT2 := Lib.hid (HT1.out.call hb)
  clear hb HT1
  refine ⟨_, rfl, ?_⟩
  simp only [Act.put, aa, ac, ae]
  refine af (v := .bool false) rfl (aB true rfl (ev rfl)) ?_
  simp only [Act.put, aa, ac, ae]
  refine wpList_nil ?_
  go_upto_region 3 with fail
  refine aI (B := w2.heap.size) (by kernel_rfl) ?_
  refine ao rfl (fun w' hw => aw rfl (ev rfl) (HT2.out.above hw)) ?_
  simp only [Act.put, aa, ac, ae]
  refine a7 rfl (fun _ => am Tryz.call111 rfl (evc (ev rfl) (evc evk evn))) (aM (Nat.le_refl _) fun w' hw => df w' HA.out) ?_
  simp only [Act.put, aa, ac, ae]
  refine ao rfl (fun w' hw => aw rfl (ev rfl) (HT2.out.above hw)) ?_
  simp only [Act.put, aa, ac, ae]
  refine a7 rfl (fun _ => am Tryz.call111 rfl (evc (ev rfl) (evc evk evn))) (aM (Nat.le_refl _) fun w' hw => df w' HC.out) ?_
  simp only [Act.put, aa, ac, ae]
  refine ao rfl (fun w' hw => ak rfl (ev rfl)) ?_
  simp only [Act.put, aa, ac, ae]
  refine ao rfl (fun w' hw => ak rfl (ev rfl)) ?_
  simp only [Act.put, aa, ac, ae]
  refine wpQuiet_nil ?_
  intro w3 hw
  have HT3 := Lib.hid (HT2.out.call hw)
  clear hw HT2
  go_upto_region 4 with fail
  refine wp_region_lit ?_
  refine af rfl (ai rfl (ev rfl)) ?_
  simp only [Act.put, aa, ac, ae]
  refine af rfl (ai rfl (ev rfl)) ?_
  simp only [Act.put, aa, ac, ae]
  refine af rfl (bw rfl (ev rfl) (ev rfl) HN.out) ?_
  simp only [Act.put, aa, ac, ae]
  refine af rfl (ak rfl (ev rfl)) ?_
  simp only [Act.put, aa, ac, ae]
  refine wpList_nil ?_
  go_upto_region 5 with fail
  refine wp_region_lit ?_
  refine af rfl (ai rfl (ev rfl)) ?_
  simp only [Act.put, aa, ac, ae]
  refine af (v := .bool false) rfl (bn false rfl (ev rfl) evk HG.out) ?_
  simp only [Act.put, aa, ac, ae]
  refine af (v := .bool false) rfl (ak rfl (ev rfl)) ?_
  simp only [Act.put, aa, ac, ae]
  refine wpList_nil ?_
  go_upto_region 6 with fail
  refine wp_region_lit ?_
  refine af rfl (ai rfl (ev rfl)) ?_
  simp only [Act.put, aa, ac, ae]
  refine af (v := .bool false) rfl (au false rfl (ev rfl) evk H1.out) ?_
  simp only [Act.put, aa, ac, ae]
  refine aD 2 (v := .bool false) rfl (ai rfl (ev rfl)) (by kernel_rfl) ?_
  simp only [aQ, List.take_succ_cons, List.take_zero, List.drop_succ_cons, List.drop_zero, Act.put, List.setIfInBounds_toArray, List.set_cons_succ, List.set_cons_zero]
  refine af (v := .bool false) rfl (az rfl (ev rfl) evk) ?_
  simp only [Act.put, aa, ac, ae]
  refine af (v := .bool false) rfl (ak rfl (ev rfl)) ?_
  simp only [Act.put, aa, ac, ae]
  refine wpList_nil ?_
  go_upto_region 8 with fail
  refine wp_region_lit ?_
  refine af rfl (aj rfl (ev rfl) faR3) ?_
  simp only [Act.put, aa, ac, ae]
  refine af (v := .bool true) rfl (aq rfl (ev rfl) (ldBo (HO.out ▸ HT3.out.at0.cells.2.2.2.2))) ?_
  simp only [Act.put, aa, ac, ae]
  refine af (v := .bool true) rfl (ak rfl (ev rfl)) ?_
  simp only [Act.put, aa, ac, ae]
  refine wpList_nil ?_
  go_upto_region 9 with fail
  refine wp_region_lit ?_
  refine af rfl (ak rfl evk) ?_
  simp only [Act.put, aa, ac, ae]
  refine wpList_nil ?_
  go_wp2_with fail
  go_ret
  exact ⟨rfl, HT3.out.bel⟩
set_option maxHeartbeats 1000000 in
theorem pstate_3t {x : Ros} {a c n : Nat} (hf : aH x = true) (ha : many x 1 = a) (hc : many x 2 = c) (hn : IntKind.i64.wrap ((a : Int) + (c : Int)) = (n : Int)) (hg : decide ((2 : Int) ≤ (n : Int)) = false) (h1 : ((n : Int) == 1) = true) (ho : x.gone = false) (h2 : ((c : Int) == 1) = true) (w : World) : Calls Tryz.prog 75 #[ros x] w fun e w' => e = .returned (.int .i64 3) ∧ Below w.heap.size w w' := by
  have HT1 := Lib.hid (OneR.new w x)
  have HF := Lib.hid hf
  have HA := Lib.hid ha
  have HC := Lib.hid hc
  have HN := Lib.hid hn
  have HG := Lib.hid hg
  have H1 := Lib.hid h1
  have HO := Lib.hid ho
  have H2 := Lib.hid h2
  clear hf ha hc hn hg h1 ho h2
  go_enter Tryz.func75, Tryz.ntmps75
  go_upto_region 1 with (first | (refine af rfl (aE rfl rfl) ?_) | fail)
  generalize w.alloc (.cells (aG x).toArray 28) = w1 at *
  refine wp_region_lit ?_
  refine af rfl (aw rfl (ev rfl) (HT1.out.at0)) ?_
  simp only [Act.put, aa, ac, ae]
  refine al rfl (am Tryz.call35 rfl (evc (ev rfl) evn)) ?_
  refine (cq w1 HF.out).mono ?_
  rintro e w2 ⟨rfl, hb⟩
  have HT2 := Lib.hid (HT1.out.call hb)
  clear hb HT1
  refine ⟨_, rfl, ?_⟩
  simp only [Act.put, aa, ac, ae]
  refine af (v := .bool false) rfl (aB true rfl (ev rfl)) ?_
  simp only [Act.put, aa, ac, ae]
  refine wpList_nil ?_
  go_upto_region 3 with fail
  refine aI (B := w2.heap.size) (by kernel_rfl) ?_
  refine ao rfl (fun w' hw => aw rfl (ev rfl) (HT2.out.above hw)) ?_
  simp only [Act.put, aa, ac, ae]
  refine a7 rfl (fun _ => am Tryz.call111 rfl (evc (ev rfl) (evc evk evn))) (aM (Nat.le_refl _) fun w' hw => df w' HA.out) ?_
  simp only [Act.put, aa, ac, ae]
  refine ao rfl (fun w' hw => aw rfl (ev rfl) (HT2.out.above hw)) ?_
  simp only [Act.put, aa, ac, ae]
  refine a7 rfl (fun _ => am Tryz.call111 rfl (evc (ev rfl) (evc evk evn))) (aM (Nat.le_refl _) fun w' hw => df w' HC.out) ?_
  simp only [Act.put, aa, ac, ae]
  refine ao rfl (fun w' hw => ak rfl (ev rfl)) ?_
  simp only [Act.put, aa, ac, ae]
  refine ao rfl (fun w' hw => ak rfl (ev rfl)) ?_
  simp only [Act.put, aa, ac, ae]
  refine wpQuiet_nil ?_
  intro w3 hw
  have HT3 := Lib.hid (HT2.out.call hw)
  clear hw HT2
  go_upto_region 4 with fail
  refine wp_region_lit ?_
  refine af rfl (ai rfl (ev rfl)) ?_
  simp only [Act.put, aa, ac, ae]
  refine af rfl (ai rfl (ev rfl)) ?_
  simp only [Act.put, aa, ac, ae]
  refine af rfl (bw rfl (ev rfl) (ev rfl) HN.out) ?_
  simp only [Act.put, aa, ac, ae]
  refine af rfl (ak rfl (ev rfl)) ?_
  simp only [Act.put, aa, ac, ae]
  refine wpList_nil ?_
  go_upto_region 5 with fail
  refine wp_region_lit ?_
  refine af rfl (ai rfl (ev rfl)) ?_
  simp only [Act.put, aa, ac, ae]
  refine af (v := .bool false) rfl (bn false rfl (ev rfl) evk HG.out) ?_
  simp only [Act.put, aa, ac, ae]
  refine af (v := .bool false) rfl (ak rfl (ev rfl)) ?_
  simp only [Act.put, aa, ac, ae]
  refine wpList_nil ?_
  go_upto_region 6 with fail
  refine wp_region_lit ?_
  refine af rfl (ai rfl (ev rfl)) ?_
  simp only [Act.put, aa, ac, ae]
  refine af (v := .bool true) rfl (au true rfl (ev rfl) evk H1.out) ?_
  simp only [Act.put, aa, ac, ae]
  refine af (v := .bool true) rfl (ai rfl (ev rfl)) ?_
  simp only [Act.put, aa, ac, ae]
  refine ah (ag rfl rfl rfl rfl) (aj rfl (ev rfl) faR3) ?_
  simp only [Act.put, aa, ac, ae]
  refine ah (v := .bool false) (ag rfl rfl rfl rfl) (aq rfl (ev rfl) (ldBo (HO.out ▸ HT3.out.at0.cells.2.2.2.2))) ?_
  simp only [Act.put, aa, ac, ae]
  refine af (v := .bool false) rfl (aF rfl (ev rfl) (ev rfl)) ?_
  simp only [Act.put, aa, ac, ae]
  refine af (v := .bool false) rfl (ak rfl (ev rfl)) ?_
  simp only [Act.put, aa, ac, ae]
  refine wpList_nil ?_
  go_upto_region 8 with fail
  refine wp_region_lit ?_
  refine af rfl (aj rfl (ev rfl) faR3) ?_
  simp only [Act.put, aa, ac, ae]
  refine af (v := .bool false) rfl (aq rfl (ev rfl) (ldBo (HO.out ▸ HT3.out.at0.cells.2.2.2.2))) ?_
  simp only [Act.put, aa, ac, ae]
  refine af (v := .bool false) rfl (ak rfl (ev rfl)) ?_
  simp only [Act.put, aa, ac, ae]
  refine wpList_nil ?_
  go_upto_region 10 with fail
  refine wp_region_lit ?_
  refine af rfl (ai rfl (ev rfl)) ?_
  simp only [Act.put, aa, ac, ae]
  refine af (v := .bool true) rfl (au true rfl (ev rfl) evk H2.out) ?_
  simp only [Act.put, aa, ac, ae]
  refine af (v := .bool true) rfl (ak rfl (ev rfl)) ?_
  simp only [Act.put, aa, ac, ae]
  refine wpList_nil ?_
  go_upto_region 11 with fail
  refine wp_region_lit ?_
  refine af rfl (ak rfl evk) ?_
  simp only [Act.put, aa, ac, ae]
  refine wpList_nil ?_
  go_wp2_with fail
  go_ret
  exact ⟨rfl, HT3.out.bel⟩
set_option maxHeartbeats 1000000 in
theorem pstate_2t {x : Ros} {a c n : Nat} (hf : aH x = true) (ha : many x 1 = a) (hc : many x 2 = c) (hn : IntKind.i64.wrap ((a : Int) + (c : Int)) = (n : Int)) (hg : decide ((2 : Int) ≤ (n : Int)) = false) (h1 : ((n : Int) == 1) = true) (ho : x.gone = false) (h2 : ((c : Int) == 1) = false) (h3 : ((a : Int) == 1) = true) (w : World) : Calls Tryz.prog 75 #[ros x] w fun e w' => e = .returned (.int .i64 2) ∧ Below w.heap.size w w' := by
  have HT1 := Lib.hid (OneR.new w x)
  have HF := Lib.hid hf
  have HA := Lib.hid ha
  have HC := Lib.hid hc
  have HN := Lib.hid hn
  have HG := Lib.hid hg
  have H1 := Lib.hid h1
  have HO := Lib.hid ho
  have H2 := Lib.hid h2
  have H3 := Lib.hid h3
  clear hf ha hc hn hg h1 ho h2 h3
  go_enter Tryz.func75, Tryz.ntmps75
  go_upto_region 1 with (first | (refine af rfl (aE rfl rfl) ?_) | fail)
  generalize w.alloc (.cells (aG x).toArray 28) = w1 at *
  refine wp_region_lit ?_
  refine af rfl (aw rfl (ev rfl) (HT1.out.at0)) ?_
  simp only [Act.put, aa, ac, ae]
  refine al rfl (am Tryz.call35 rfl (evc (ev rfl) evn)) ?_
  refine (cq w1 HF.out).mono ?_
  rintro e w2 ⟨rfl, hb⟩
  have HT2 := Lib.hid (HT1.out.call hb)
  clear hb HT1
  refine ⟨_, rfl, ?_⟩
  simp only [Act.put, aa, ac, ae]
  refine af (v := .bool false) rfl (aB true rfl (ev rfl)) ?_
  simp only [Act.put, aa, ac, ae]
  refine wpList_nil ?_
  go_upto_region 3 with fail
  refine aI (B := w2.heap.size) (by kernel_rfl) ?_
  refine ao rfl (fun w' hw => aw rfl (ev rfl) (HT2.out.above hw)) ?_
  simp only [Act.put, aa, ac, ae]
  refine a7 rfl (fun _ => am Tryz.call111 rfl (evc (ev rfl) (evc evk evn))) (aM (Nat.le_refl _) fun w' hw => df w' HA.out) ?_
  simp only [Act.put, aa, ac, ae]
  refine ao rfl (fun w' hw => aw rfl (ev rfl) (HT2.out.above hw)) ?_
  simp only [Act.put, aa, ac, ae]
  refine a7 rfl (fun _ => am Tryz.call111 rfl (evc (ev rfl) (evc evk evn))) (aM (Nat.le_refl _) fun w' hw => df w' HC.out) ?_
  simp only [Act.put, aa, ac, ae]
  refine ao rfl (fun w' hw => ak rfl (ev rfl)) ?_
  simp only [Act.put, aa, ac, ae]
  refine ao rfl (fun w' hw => ak rfl (ev rfl)) ?_
  simp only [Act.put, aa, ac, ae]
  refine wpQuiet_nil ?_
  intro w3 hw
  have HT3 := Lib.hid (HT2.out.call hw)
  clear hw HT2
  go_upto_region 4 with fail
  refine wp_region_lit ?_
  refine af rfl (ai rfl (ev rfl)) ?_
  simp only [Act.put, aa, ac, ae]
  refine af rfl (ai rfl (ev rfl)) ?_
  simp only [Act.put, aa, ac, ae]
  refine af rfl (bw rfl (ev rfl) (ev rfl) HN.out) ?_
  simp only [Act.put, aa, ac, ae]
  refine af rfl (ak rfl (ev rfl)) ?_
  simp only [Act.put, aa, ac, ae]
  refine wpList_nil ?_
  go_upto_region 5 with fail
  refine wp_region_lit ?_
  refine af rfl (ai rfl (ev rfl)) ?_
  simp only [Act.put, aa, ac, ae]
  refine af (v := .bool false) rfl (bn false rfl (ev rfl) evk HG.out) ?_
  simp only [Act.put, aa, ac, ae]
  refine af (v := .bool false) rfl (ak rfl (ev rfl)) ?_
  simp only [Act.put, aa, ac, ae]
  refine wpList_nil ?_
  go_upto_region 6 with fail
  refine wp_region_lit ?_
  refine af rfl (ai rfl (ev rfl)) ?_
  simp only [Act.put, aa, ac, ae]
  refine af (v := .bool true) rfl (au true rfl (ev rfl) evk H1.out) ?_
  simp only [Act.put, aa, ac, ae]
  refine af (v := .bool true) rfl (ai rfl (ev rfl)) ?_
  simp only [Act.put, aa, ac, ae]
  refine ah (ag rfl rfl rfl rfl) (aj rfl (ev rfl) faR3) ?_
  simp only [Act.put, aa, ac, ae]
  refine ah (v := .bool false) (ag rfl rfl rfl rfl) (aq rfl (ev rfl) (ldBo (HO.out ▸ HT3.out.at0.cells.2.2.2.2))) ?_
  simp only [Act.put, aa, ac, ae]
  refine af (v := .bool false) rfl (aF rfl (ev rfl) (ev rfl)) ?_
  simp only [Act.put, aa, ac, ae]
  refine af (v := .bool false) rfl (ak rfl (ev rfl)) ?_
  simp only [Act.put, aa, ac, ae]
  refine wpList_nil ?_
  go_upto_region 8 with fail
  refine wp_region_lit ?_
  refine af rfl (aj rfl (ev rfl) faR3) ?_
  simp only [Act.put, aa, ac, ae]
  refine af (v := .bool false) rfl (aq rfl (ev rfl) (ldBo (HO.out ▸ HT3.out.at0.cells.2.2.2.2))) ?_
  simp only [Act.put, aa, ac, ae]
  refine af (v := .bool false) rfl (ak rfl (ev rfl)) ?_
  simp only [Act.put, aa, ac, ae]
  refine wpList_nil ?_
  go_upto_region 10 with fail
  refine wp_region_lit ?_
  refine af rfl (ai rfl (ev rfl)) ?_
  simp only [Act.put, aa, ac, ae]
  refine af (v := .bool false) rfl (au false rfl (ev rfl) evk H2.out) ?_
  simp only [Act.put, aa, ac, ae]
  refine af (v := .bool false) rfl (ak rfl (ev rfl)) ?_
  simp only [Act.put, aa, ac, ae]
  refine wpList_nil ?_
  go_upto_region 12 with fail
  refine wp_region_lit ?_
  refine af rfl (ai rfl (ev rfl)) ?_
  simp only [Act.put, aa, ac, ae]
  refine af (v := .bool true) rfl (au true rfl (ev rfl) evk H3.out) ?_
  simp only [Act.put, aa, ac, ae]
  refine af (v := .bool true) rfl (ak rfl (ev rfl)) ?_
  simp only [Act.put, aa, ac, ae]
  refine wpList_nil ?_
  go_upto_region 13 with fail
  refine wp_region_lit ?_
  refine af rfl (ak rfl evk) ?_
  simp only [Act.put, aa, ac, ae]
  refine wpList_nil ?_
  go_wp2_with fail
  go_ret
  exact ⟨rfl, HT3.out.bel⟩
set_option maxHeartbeats 1000000 in
theorem pstate_1f {x : Ros} {a c n : Nat} (hf : aH x = true) (ha : many x 1 = a) (hc : many x 2 = c) (hn : IntKind.i64.wrap ((a : Int) + (c : Int)) = (n : Int)) (hg : decide ((2 : Int) ≤ (n : Int)) = false) (h1 : ((n : Int) == 1) = false) (ho : x.gone = false) (h2 : ((c : Int) == 1) = false) (h3 : ((a : Int) == 1) = false) (w : World) : Calls Tryz.prog 75 #[ros x] w fun e w' => e = .returned (.int .i64 1) ∧ Below w.heap.size w w' := by
  have HT1 := Lib.hid (OneR.new w x)
  have HF := Lib.hid hf
  have HA := Lib.hid ha
  have HC := Lib.hid hc
  have HN := Lib.hid hn
  have HG := Lib.hid hg
  have H1 := Lib.hid h1
  have HO := Lib.hid ho
  have H2 := Lib.hid h2
  have H3 := Lib.hid h3
  clear hf ha hc hn hg h1 ho h2 h3
  go_enter Tryz.func75, Tryz.ntmps75
  go_upto_region 1 with (first | (refine af rfl (aE rfl rfl) ?_) | fail)
  generalize w.alloc (.cells (aG x).toArray 28) = w1 at *
  refine wp_region_lit ?_
  refine af rfl (aw rfl (ev rfl) (HT1.out.at0)) ?_
  simp only [Act.put, aa, ac, ae]
  refine al rfl (am Tryz.call35 rfl (evc (ev rfl) evn)) ?_
  refine (cq w1 HF.out).mono ?_
  rintro e w2 ⟨rfl, hb⟩
  have HT2 := Lib.hid (HT1.out.call hb)
  clear hb HT1
  refine ⟨_, rfl, ?_⟩
  simp only [Act.put, aa, ac, ae]
  refine af (v := .bool false) rfl (aB true rfl (ev rfl)) ?_
  simp only [Act.put, aa, ac, ae]
  refine wpList_nil ?_
  go_upto_region 3 with fail
  refine aI (B := w2.heap.size) (by kernel_rfl) ?_
  refine ao rfl (fun w' hw => aw rfl (ev rfl) (HT2.out.above hw)) ?_
  simp only [Act.put, aa, ac, ae]
  refine a7 rfl (fun _ => am Tryz.call111 rfl (evc (ev rfl) (evc evk evn))) (aM (Nat.le_refl _) fun w' hw => df w' HA.out) ?_
  simp only [Act.put, aa, ac, ae]
  refine ao rfl (fun w' hw => aw rfl (ev rfl) (HT2.out.above hw)) ?_
  simp only [Act.put, aa, ac, ae]
  refine a7 rfl (fun _ => am Tryz.call111 rfl (evc (ev rfl) (evc evk evn))) (aM (Nat.le_refl _) fun w' hw => df w' HC.out) ?_
  simp only [Act.put, aa, ac, ae]
  refine ao rfl (fun w' hw => ak rfl (ev rfl)) ?_
  simp only [Act.put, aa, ac, ae]
  refine ao rfl (fun w' hw => ak rfl (ev rfl)) ?_
  simp only [Act.put, aa, ac, ae]
  refine wpQuiet_nil ?_
  intro w3 hw
  have HT3 := Lib.hid (HT2.out.call hw)
  clear hw HT2
  go_upto_region 4 with fail
  refine wp_region_lit ?_
  refine af rfl (ai rfl (ev rfl)) ?_
  simp only [Act.put, aa, ac, ae]
  refine af rfl (ai rfl (ev rfl)) ?_
  simp only [Act.put, aa, ac, ae]
  refine af rfl (bw rfl (ev rfl) (ev rfl) HN.out) ?_
  simp only [Act.put, aa, ac, ae]
  refine af rfl (ak rfl (ev rfl)) ?_
  simp only [Act.put, aa, ac, ae]
  refine wpList_nil ?_
  go_upto_region 5 with fail
  refine wp_region_lit ?_
  refine af rfl (ai rfl (ev rfl)) ?_
  simp only [Act.put, aa, ac, ae]
  refine af (v := .bool false) rfl (bn false rfl (ev rfl) evk HG.out) ?_
  simp only [Act.put, aa, ac, ae]
  refine af (v := .bool false) rfl (ak rfl (ev rfl)) ?_
  simp only [Act.put, aa, ac, ae]
  refine wpList_nil ?_
  go_upto_region 6 with fail
  refine wp_region_lit ?_
  refine af rfl (ai rfl (ev rfl)) ?_
  simp only [Act.put, aa, ac, ae]
  refine af (v := .bool false) rfl (au false rfl (ev rfl) evk H1.out) ?_
  simp only [Act.put, aa, ac, ae]
  refine aD 2 (v := .bool false) rfl (ai rfl (ev rfl)) (by kernel_rfl) ?_
  simp only [aQ, List.take_succ_cons, List.take_zero, List.drop_succ_cons, List.drop_zero, Act.put, List.setIfInBounds_toArray, List.set_cons_succ, List.set_cons_zero]
  refine af (v := .bool false) rfl (az rfl (ev rfl) evk) ?_
  simp only [Act.put, aa, ac, ae]
  refine af (v := .bool false) rfl (ak rfl (ev rfl)) ?_
  simp only [Act.put, aa, ac, ae]
  refine wpList_nil ?_
  go_upto_region 8 with fail
  refine wp_region_lit ?_
  refine af rfl (aj rfl (ev rfl) faR3) ?_
  simp only [Act.put, aa, ac, ae]
  refine af (v := .bool false) rfl (aq rfl (ev rfl) (ldBo (HO.out ▸ HT3.out.at0.cells.2.2.2.2))) ?_
  simp only [Act.put, aa, ac, ae]
  refine af (v := .bool false) rfl (ak rfl (ev rfl)) ?_
  simp only [Act.put, aa, ac, ae]
  refine wpList_nil ?_
  go_upto_region 10 with fail
  refine wp_region_lit ?_
  refine af rfl (ai rfl (ev rfl)) ?_
  simp only [Act.put, aa, ac, ae]
  refine af (v := .bool false) rfl (au false rfl (ev rfl) evk H2.out) ?_
  simp only [Act.put, aa, ac, ae]
  refine af (v := .bool false) rfl (ak rfl (ev rfl)) ?_
  simp only [Act.put, aa, ac, ae]
  refine wpList_nil ?_
  go_upto_region 12 with fail
  refine wp_region_lit ?_
  refine af rfl (ai rfl (ev rfl)) ?_
  simp only [Act.put, aa, ac, ae]
  refine af (v := .bool false) rfl (au false rfl (ev rfl) evk H3.out) ?_
  simp only [Act.put, aa, ac, ae]
  refine af (v := .bool false) rfl (ak rfl (ev rfl)) ?_
  simp only [Act.put, aa, ac, ae]
  refine wpList_nil ?_
  go_upto_region 14 with fail
  refine wp_region_lit ?_
  refine af rfl (ak rfl evk) ?_
  simp only [Act.put, aa, ac, ae]
  refine wpList_nil ?_
  go_wp2_with fail
  go_ret
  exact ⟨rfl, HT3.out.bel⟩
set_option maxHeartbeats 1000000 in
theorem rstate_0 {x : Ros} (hf : aH x = false) (w : World) : Calls Tryz.prog 41 #[ros x] w fun e w' => e = .returned (.int .i64 0) ∧ Below w.heap.size w w' := by
  have HT1 := Lib.hid (OneR.new w x)
  have HF := Lib.hid hf
  clear hf
  go_enter Tryz.func41, Tryz.ntmps41
  go_upto_region 1 with (first | (refine af rfl (aE rfl rfl) ?_) | fail)
  generalize w.alloc (.cells (aG x).toArray 28) = w1 at *
  refine wp_region_lit ?_
  refine af rfl (aw rfl (ev rfl) (HT1.out.at0)) ?_
  simp only [Act.put, aa, ac, ae]
  refine al rfl (am Tryz.call38 rfl (evc (ev rfl) evn)) ?_
  refine (cO w1 HF.out).mono ?_
  rintro e w2 ⟨rfl, hb⟩
  have HT2 := Lib.hid (HT1.out.call hb)
  clear hb HT1
  refine ⟨_, rfl, ?_⟩
  simp only [Act.put, aa, ac, ae]
  refine af (v := .bool true) rfl (aB false rfl (ev rfl)) ?_
  simp only [Act.put, aa, ac, ae]
  refine wpList_nil ?_
  go_upto_region 2 with fail
  refine wp_region_lit ?_
  refine af rfl (ak rfl evk) ?_
  simp only [Act.put, aa, ac, ae]
  refine wpList_nil ?_
  go_wp2_with fail
  go_ret
  exact ⟨rfl, HT2.out.bel⟩
set_option maxHeartbeats 1000000 in
theorem rstate_5at {x : Ros} {n k : Nat} (hf : aH x = true) (hn : missN x = n) (hm : heaM x = k) (hb : heaB x = true) (hg : decide ((2 : Int) ≤ (n : Int)) = true) (w : World) : Calls Tryz.prog 41 #[ros x] w fun e w' => e = .returned (.int .i64 5) ∧ Below w.heap.size w w' := by
  have HT1 := Lib.hid (OneR.new w x)
  have HF := Lib.hid hf
  have HN := Lib.hid hn
  have HM := Lib.hid hm
  have HB := Lib.hid hb
  have HG := Lib.hid hg
  clear hf hn hm hb hg
  go_enter Tryz.func41, Tryz.ntmps41
  go_upto_region 1 with (first | (refine af rfl (aE rfl rfl) ?_) | fail)
  generalize w.alloc (.cells (aG x).toArray 28) = w1 at *
  refine wp_region_lit ?_
  refine af rfl (aw rfl (ev rfl) (HT1.out.at0)) ?_
  simp only [Act.put, aa, ac, ae]
  refine al rfl (am Tryz.call38 rfl (evc (ev rfl) evn)) ?_
  refine (cO w1 HF.out).mono ?_
  rintro e w2 ⟨rfl, hb⟩
  have HT2 := Lib.hid (HT1.out.call hb)
  clear hb HT1
  refine ⟨_, rfl, ?_⟩
  simp only [Act.put, aa, ac, ae]
  refine af (v := .bool false) rfl (aB true rfl (ev rfl)) ?_
  simp only [Act.put, aa, ac, ae]
  refine wpList_nil ?_
  go_upto_region 3 with fail
  refine wp_region_lit ?_
  refine af rfl (aw rfl (ev rfl) (HT2.out.at0)) ?_
  simp only [Act.put, aa, ac, ae]
  refine al rfl (am Tryz.call81 rfl (evc (ev rfl) evn)) ?_
  refine (dA w2 HN.out).mono ?_
  rintro e w3 ⟨rfl, hb⟩
  have HT3 := Lib.hid (HT2.out.call hb)
  clear hb HT2
  refine ⟨_, rfl, ?_⟩
  simp only [Act.put, aa, ac, ae]
  refine af rfl (ak rfl (ev rfl)) ?_
  simp only [Act.put, aa, ac, ae]
  refine wpList_nil ?_
  go_upto_region 4 with fail
  refine wp_region_lit ?_
  refine af rfl (aw rfl (ev rfl) (HT3.out.at0)) ?_
  simp only [Act.put, aa, ac, ae]
  refine al rfl (am Tryz.call82 rfl (evc (ev rfl) evn)) ?_
  refine (dd w3 HM.out HB.out).mono ?_
  rintro e w4 ⟨rfl, hb⟩
  have HT4 := Lib.hid (HT3.out.call hb)
  clear hb HT3
  refine ⟨_, rfl, ?_⟩
  simp only [Act.put, aa, ac, ae]
  refine af rfl (ai rfl (ev rfl)) ?_
  simp only [Act.put, aa, ac, ae]
  refine af rfl (aA rfl (ev rfl) rfl) ?_
  simp only [Act.put, aa, ac, ae]
  refine af (v := .bool true) rfl (aA rfl (ev rfl) rfl) ?_
  simp only [Act.put, aa, ac, ae]
  refine af rfl (ak rfl (ev rfl)) ?_
  simp only [Act.put, aa, ac, ae]
  refine af (v := .bool true) rfl (ak rfl (ev rfl)) ?_
  simp only [Act.put, aa, ac, ae]
  refine wpList_nil ?_
  go_upto_region 5 with fail
  refine wp_region_lit ?_
  refine af rfl (ai rfl (ev rfl)) ?_
  simp only [Act.put, aa, ac, ae]
  refine af (v := .bool true) rfl (bn true rfl (ev rfl) evk HG.out) ?_
  simp only [Act.put, aa, ac, ae]
  refine aD 6 (v := .bool true) rfl (ai rfl (ev rfl)) (by kernel_rfl) ?_
  simp only [aQ, List.take_succ_cons, List.take_zero, List.drop_succ_cons, List.drop_zero, Act.put, List.setIfInBounds_toArray, List.set_cons_succ, List.set_cons_zero]
  refine af (v := .bool true) rfl (aF rfl (ev rfl) evk) ?_
  simp only [Act.put, aa, ac, ae]
  refine wpList_nil ?_
  go_upto_region 6 with fail
  refine wp_region_lit ?_
  refine af rfl (ak rfl evk) ?_
  simp only [Act.put, aa, ac, ae]
  refine wpList_nil ?_
  go_wp2_with fail
  go_ret
  exact ⟨rfl, HT4.out.bel⟩
set_option maxHeartbeats 1000000 in
theorem rstate_5bt {x : Ros} {n k : Nat} (hf : aH x = true) (hn : missN x = n) (hm : heaM x = k) (hb : heaB x = true) (hg : decide ((2 : Int) ≤ (n : Int)) = false) (h1 : ((n : Int) == 1) = true) (ho : x.gone = true) (w : World) : Calls Tryz.prog 41 #[ros x] w fun e w' => e = .returned (.int .i64 5) ∧ Below w.heap.size w w' := by
  have HT1 := Lib.hid (OneR.new w x)
  have HF := Lib.hid hf
  have HN := Lib.hid hn
  have HM := Lib.hid hm
  have HB := Lib.hid hb
  have HG := Lib.hid hg
  have H1 := Lib.hid h1
  have HO := Lib.hid ho
  clear hf hn hm hb hg h1 ho
  go_enter Tryz.func41, Tryz.ntmps41
  go_upto_region 1 with (first | (refine af rfl (aE rfl rfl) ?_) | fail)
  generalize w.alloc (.cells (aG x).toArray 28) = w1 at *
  refine wp_region_lit ?_
  refine af rfl (aw rfl (ev rfl) (HT1.out.at0)) ?_
  simp only [Act.put, aa, ac, ae]
  refine al rfl (am Tryz.call38 rfl (evc (ev rfl) evn)) ?_
  refine (cO w1 HF.out).mono ?_
  rintro e w2 ⟨rfl, hb⟩
  have HT2 := Lib.hid (HT1.out.call hb)
  clear hb HT1
  refine ⟨_, rfl, ?_⟩
  simp only [Act.put, aa, ac, ae]
  refine af (v := .bool false) rfl (aB true rfl (ev rfl)) ?_
  simp only [Act.put, aa, ac, ae]
  refine wpList_nil ?_
  go_upto_region 3 with fail
  refine wp_region_lit ?_
  refine af rfl (aw rfl (ev rfl) (HT2.out.at0)) ?_
  simp only [Act.put, aa, ac, ae]
  refine al rfl (am Tryz.call81 rfl (evc (ev rfl) evn)) ?_
  refine (dA w2 HN.out).mono ?_
  rintro e w3 ⟨rfl, hb⟩
  have HT3 := Lib.hid (HT2.out.call hb)
  clear hb HT2
  refine ⟨_, rfl, ?_⟩
  simp only [Act.put, aa, ac, ae]
  refine af rfl (ak rfl (ev rfl)) ?_
  simp only [Act.put, aa, ac, ae]
  refine wpList_nil ?_
  go_upto_region 4 with fail
  refine wp_region_lit ?_
  refine af rfl (aw rfl (ev rfl) (HT3.out.at0)) ?_
  simp only [Act.put, aa, ac, ae]
  refine al rfl (am Tryz.call82 rfl (evc (ev rfl) evn)) ?_
  refine (dd w3 HM.out HB.out).mono ?_
  rintro e w4 ⟨rfl, hb⟩
  have HT4 := Lib.hid (HT3.out.call hb)
  clear hb HT3
  refine ⟨_, rfl, ?_⟩
  simp only [Act.put, aa, ac, ae]
  refine af rfl (ai rfl (ev rfl)) ?_
  simp only [Act.put, aa, ac, ae]
  refine af rfl (aA rfl (ev rfl) rfl) ?_
  simp only [Act.put, aa, ac, ae]
  refine af (v := .bool true) rfl (aA rfl (ev rfl) rfl) ?_
  simp only [Act.put, aa, ac, ae]
  refine af rfl (ak rfl (ev rfl)) ?_
  simp only [Act.put, aa, ac, ae]
  refine af (v := .bool true) rfl (ak rfl (ev rfl)) ?_
  simp only [Act.put, aa, ac, ae]
  refine wpList_nil ?_
  go_upto_region 5 with fail
  refine wp_region_lit ?_
  refine af rfl (ai rfl (ev rfl)) ?_
  simp only [Act.put, aa, ac, ae]
  refine af (v := .bool false) rfl (bn false rfl (ev rfl) evk HG.out) ?_
  simp only [Act.put, aa, ac, ae]
  refine af (v := .bool false) rfl (ai rfl (ev rfl)) ?_
  simp only [Act.put, aa, ac, ae]
  refine ah (ag rfl rfl rfl rfl) (ai rfl (ev rfl)) ?_
  simp only [Act.put, aa, ac, ae]
  refine ah (v := .bool true) (ag rfl rfl rfl rfl) (au true rfl (ev rfl) evk H1.out) ?_
  simp only [Act.put, aa, ac, ae]
  refine ah (v := .bool true) (ag rfl rfl rfl rfl) (ai rfl (ev rfl)) ?_
  simp only [Act.put, aa, ac, ae]
  refine ah (ag rfl rfl rfl rfl) (aj rfl (ev rfl) faR3) ?_
  simp only [Act.put, aa, ac, ae]
  refine ah (v := .bool true) (ag rfl rfl rfl rfl) (aq rfl (ev rfl) (ldBo (HO.out ▸ HT4.out.at0.cells.2.2.2.2))) ?_
  simp only [Act.put, aa, ac, ae]
  refine ah (v := .bool true) (ag rfl rfl rfl rfl) (aF rfl (ev rfl) (ev rfl)) ?_
  simp only [Act.put, aa, ac, ae]
  refine af (v := .bool true) rfl (az rfl (ev rfl) (ev rfl)) ?_
  simp only [Act.put, aa, ac, ae]
  refine wpList_nil ?_
  go_upto_region 6 with fail
  refine wp_region_lit ?_
  refine af rfl (ak rfl evk) ?_
  simp only [Act.put, aa, ac, ae]
  refine wpList_nil ?_
  go_wp2_with fail
  go_ret
  exact ⟨rfl, HT4.out.bel⟩
set_option maxHeartbeats 1000000 in
theorem rstate_4t {x : Ros} {n k : Nat} (hf : aH x = true) (hn : missN x = n) (hm : heaM x = k) (hb : heaB x = true) (hg : decide ((2 : Int) ≤ (n : Int)) = false) (h1 : ((n : Int) == 1) = false) (ho : x.gone = true) (w : World) : Calls Tryz.prog 41 #[ros x] w fun e w' => e = .returned (.int .i64 4) ∧ Below w.heap.size w w' := by
  have HT1 := Lib.hid (OneR.new w x)
  have HF := Lib.hid hf
  have HN := Lib.hid hn
  have HM := Lib.hid hm
  have HB := Lib.hid hb
  have HG := Lib.hid hg
  have H1 := Lib.hid h1
  have HO := Lib.hid ho
  clear hf hn hm hb hg h1 ho
  go_enter Tryz.func41, Tryz.ntmps41
  go_upto_region 1 with (first | (refine af rfl (aE rfl rfl) ?_) | fail)
  generalize w.alloc (.cells (aG x).toArray 28) = w1 at *
  refine wp_region_lit ?_
  refine af rfl (aw rfl (ev rfl) (HT1.out.at0)) ?_
  simp only [Act.put, aa, ac, ae]
  refine al rfl (am Tryz.call38 rfl (evc (ev rfl) evn)) ?_
  refine (cO w1 HF.out).mono ?_
  rintro e w2 ⟨rfl, hb⟩
  have HT2 := Lib.hid (HT1.out.call hb)
  clear hb HT1
  refine ⟨_, rfl, ?_⟩
  simp only [Act.put, aa, ac, ae]
  refine af (v := .bool false) rfl (aB true rfl (ev rfl)) ?_
  simp only [Act.put, aa, ac, ae]
  refine wpList_nil ?_
  go_upto_region 3 with fail
  refine wp_region_lit ?_
  refine af rfl (aw rfl (ev rfl) (HT2.out.at0)) ?_
  simp only [Act.put, aa, ac, ae]
  refine al rfl (am Tryz.call81 rfl (evc (ev rfl) evn)) ?_
  refine (dA w2 HN.out).mono ?_
  rintro e w3 ⟨rfl, hb⟩
  have HT3 := Lib.hid (HT2.out.call hb)
  clear hb HT2
  refine ⟨_, rfl, ?_⟩
  simp only [Act.put, aa, ac, ae]
  refine af rfl (ak rfl (ev rfl)) ?_
  simp only [Act.put, aa, ac, ae]
  refine wpList_nil ?_
  go_upto_region 4 with fail
  refine wp_region_lit ?_
  refine af rfl (aw rfl (ev rfl) (HT3.out.at0)) ?_
  simp only [Act.put, aa, ac, ae]
  refine al rfl (am Tryz.call82 rfl (evc (ev rfl) evn)) ?_
  refine (dd w3 HM.out HB.out).mono ?_
  rintro e w4 ⟨rfl, hb⟩
  have HT4 := Lib.hid (HT3.out.call hb)
  clear hb HT3
  refine ⟨_, rfl, ?_⟩
  simp only [Act.put, aa, ac, ae]
  refine af rfl (ai rfl (ev rfl)) ?_
  simp only [Act.put, aa, ac, ae]
  refine af rfl (aA rfl (ev rfl) rfl) ?_
  simp only [Act.put, aa, ac, ae]
  refine af (v := .bool true) rfl (aA rfl (ev rfl) rfl) ?_
  simp only [Act.put, aa, ac, ae]
  refine af rfl (ak rfl (ev rfl)) ?_
  simp only [Act.put, aa, ac, ae]
  refine af (v := .bool true) rfl (ak rfl (ev rfl)) ?_
  simp only [Act.put, aa, ac, ae]
  refine wpList_nil ?_
  go_upto_region 5 with fail
  refine wp_region_lit ?_
  refine af rfl (ai rfl (ev rfl)) ?_
  simp only [Act.put, aa, ac, ae]
  refine af (v := .bool false) rfl (bn false rfl (ev rfl) evk HG.out) ?_
  simp only [Act.put, aa, ac, ae]
  refine af (v := .bool false) rfl (ai rfl (ev rfl)) ?_
  simp only [Act.put, aa, ac, ae]
  refine ah (ag rfl rfl rfl rfl) (ai rfl (ev rfl)) ?_
  simp only [Act.put, aa, ac, ae]
  refine ah (v := .bool false) (ag rfl rfl rfl rfl) (au false rfl (ev rfl) evk H1.out) ?_
  simp only [Act.put, aa, ac, ae]
  refine aD 2 (v := .bool false) (ag rfl rfl rfl rfl) (ai rfl (ev rfl)) (by kernel_rfl) ?_
  simp only [aQ, List.take_succ_cons, List.take_zero, List.drop_succ_cons, List.drop_zero, Act.put, List.setIfInBounds_toArray, List.set_cons_succ, List.set_cons_zero]
  refine ah (v := .bool false) (ag rfl rfl rfl rfl) (az rfl (ev rfl) evk) ?_
  simp only [Act.put, aa, ac, ae]
  refine af (v := .bool false) rfl (az rfl (ev rfl) (ev rfl)) ?_
  simp only [Act.put, aa, ac, ae]
  refine wpList_nil ?_
  go_upto_region 7 with fail
  refine wp_region_lit ?_
  refine af rfl (aj rfl (ev rfl) faR3) ?_
  simp only [Act.put, aa, ac, ae]
  refine af (v := .bool true) rfl (aq rfl (ev rfl) (ldBo (HO.out ▸ HT4.out.at0.cells.2.2.2.2))) ?_
  simp only [Act.put, aa, ac, ae]
  refine wpList_nil ?_
  go_upto_region 8 with fail
  refine wp_region_lit ?_
  refine af rfl (ak rfl evk) ?_
  simp only [Act.put, aa, ac, ae]
  refine wpList_nil ?_
  go_wp2_with fail
  go_ret
  exact ⟨rfl, HT4.out.bel⟩
set_option maxHeartbeats 1000000 in
theorem rstate_5af {x : Ros} {n k : Nat} (hf : aH x = true) (hn : missN x = n) (hm : heaM x = k) (hb : heaB x = false) (hg : decide ((2 : Int) ≤ (n : Int)) = true) (w : World) : Calls Tryz.prog 41 #[ros x] w fun e w' => e = .returned (.int .i64 5) ∧ Below w.heap.size w w' := by
  have HT1 := Lib.hid (OneR.new w x)
  have HF := Lib.hid hf
  have HN := Lib.hid hn
  have HM := Lib.hid hm
  have HB := Lib.hid hb
  have HG := Lib.hid hg
  clear hf hn hm hb hg
  go_enter Tryz.func41, Tryz.ntmps41
  go_upto_region 1 with (first | (refine af rfl (aE rfl rfl) ?_) | fail)
  generalize w.alloc (.cells (aG x).toArray 28) = w1 at *
  refine wp_region_lit ?_
  refine af rfl (aw rfl (ev rfl) (HT1.out.at0)) ?_
  simp only [Act.put, aa, ac, ae]
  refine al rfl (am Tryz.call38 rfl (evc (ev rfl) evn)) ?_
  refine (cO w1 HF.out).mono ?_
  rintro e w2 ⟨rfl, hb⟩
  have HT2 := Lib.hid (HT1.out.call hb)
  clear hb HT1
  refine ⟨_, rfl, ?_⟩
  simp only [Act.put, aa, ac, ae]
  refine af (v := .bool false) rfl (aB true rfl (ev rfl)) ?_
  simp only [Act.put, aa, ac, ae]
  refine wpList_nil ?_
  go_upto_region 3 with fail
  refine wp_region_lit ?_
  refine af rfl (aw rfl (ev rfl) (HT2.out.at0)) ?_
  simp only [Act.put, aa, ac, ae]
  refine al rfl (am Tryz.call81 rfl (evc (ev rfl) evn)) ?_
  refine (dA w2 HN.out).mono ?_
  rintro e w3 ⟨rfl, hb⟩
  have HT3 := Lib.hid (HT2.out.call hb)
  clear hb HT2
  refine ⟨_, rfl, ?_⟩
  simp only [Act.put, aa, ac, ae]
  refine af rfl (ak rfl (ev rfl)) ?_
  simp only [Act.put, aa, ac, ae]
  refine wpList_nil ?_
  go_upto_region 4 with fail
  refine wp_region_lit ?_
  refine af rfl (aw rfl (ev rfl) (HT3.out.at0)) ?_
  simp only [Act.put, aa, ac, ae]
  refine al rfl (am Tryz.call82 rfl (evc (ev rfl) evn)) ?_
  refine (dd w3 HM.out HB.out).mono ?_
  rintro e w4 ⟨rfl, hb⟩
  have HT4 := Lib.hid (HT3.out.call hb)
  clear hb HT3
  refine ⟨_, rfl, ?_⟩
  simp only [Act.put, aa, ac, ae]
  refine af rfl (ai rfl (ev rfl)) ?_
  simp only [Act.put, aa, ac, ae]
  refine af rfl (aA rfl (ev rfl) rfl) ?_
  simp only [Act.put, aa, ac, ae]
  refine af (v := .bool false) rfl (aA rfl (ev rfl) rfl) ?_
  simp only [Act.put, aa, ac, ae]
  refine af rfl (ak rfl (ev rfl)) ?_
  simp only [Act.put, aa, ac, ae]
  refine af (v := .bool false) rfl (ak rfl (ev rfl)) ?_
  simp only [Act.put, aa, ac, ae]
  refine wpList_nil ?_
  go_upto_region 5 with fail
  refine wp_region_lit ?_
  refine af rfl (ai rfl (ev rfl)) ?_
  simp only [Act.put, aa, ac, ae]
  refine af (v := .bool true) rfl (bn true rfl (ev rfl) evk HG.out) ?_
  simp only [Act.put, aa, ac, ae]
  refine aD 6 (v := .bool true) rfl (ai rfl (ev rfl)) (by kernel_rfl) ?_
  simp only [aQ, List.take_succ_cons, List.take_zero, List.drop_succ_cons, List.drop_zero, Act.put, List.setIfInBounds_toArray, List.set_cons_succ, List.set_cons_zero]
  refine af (v := .bool true) rfl (aF rfl (ev rfl) evk) ?_
  simp only [Act.put, aa, ac, ae]
  refine wpList_nil ?_
  go_upto_region 6 with fail
  refine wp_region_lit ?_
  refine af rfl (ak rfl evk) ?_
  simp only [Act.put, aa, ac, ae]
  refine wpList_nil ?_
  go_wp2_with fail
  go_ret
  exact ⟨rfl, HT4.out.bel⟩
set_option maxHeartbeats 1000000 in
theorem rstate_5bf {x : Ros} {n k : Nat} (hf : aH x = true) (hn : missN x = n) (hm : heaM x = k) (hb : heaB x = false) (hg : decide ((2 : Int) ≤ (n : Int)) = false) (h1 : ((n : Int) == 1) = true) (ho : x.gone = true) (w : World) : Calls Tryz.prog 41 #[ros x] w fun e w' => e = .returned (.int .i64 5) ∧ Below w.heap.size w w' := by
  have HT1 := Lib.hid (OneR.new w x)
  have HF := Lib.hid hf
  have HN := Lib.hid hn
  have HM := Lib.hid hm
  have HB := Lib.hid hb
  have HG := Lib.hid hg
  have H1 := Lib.hid h1
  have HO := Lib.hid ho
  clear hf hn hm hb hg h1 ho
  go_enter Tryz.func41, Tryz.ntmps41
  go_upto_region 1 with (first | (refine af rfl (aE rfl rfl) ?_) | fail)
  generalize w.alloc (.cells (aG x).toArray 28) = w1 at *
  refine wp_region_lit ?_
  refine af rfl (aw rfl (ev rfl) (HT1.out.at0)) ?_
  simp only [Act.put, aa, ac, ae]
  refine al rfl (am Tryz.call38 rfl (evc (ev rfl) evn)) ?_
  refine (cO w1 HF.out).mono ?_
  rintro e w2 ⟨rfl, hb⟩
  have HT2 := Lib.hid (HT1.out.call hb)
  clear hb HT1
  refine ⟨_, rfl, ?_⟩
  simp only [Act.put, aa, ac, ae]
  refine af (v := .bool false) rfl (aB true rfl (ev rfl)) ?_
  simp only [Act.put, aa, ac, ae]
  refine wpList_nil ?_
  go_upto_region 3 with fail
  refine wp_region_lit ?_
  refine af rfl (aw rfl (ev rfl) (HT2.out.at0)) ?_
  simp only [Act.put, aa, ac, ae]
  refine al rfl (am Tryz.call81 rfl (evc (ev rfl) evn)) ?_
  refine (dA w2 HN.out).mono ?_
  rintro e w3 ⟨rfl, hb⟩
  have HT3 := Lib.hid (HT2.out.call hb)
  clear hb HT2
  refine ⟨_, rfl, ?_⟩
  simp only [Act.put, aa, ac, ae]
  refine af rfl (ak rfl (ev rfl)) ?_
  simp only [Act.put, aa, ac, ae]
  refine wpList_nil ?_
  go_upto_region 4 with fail
  refine wp_region_lit ?_
  refine af rfl (aw rfl (ev rfl) (HT3.out.at0)) ?_
  simp only [Act.put, aa, ac, ae]
  refine al rfl (am Tryz.call82 rfl (evc (ev rfl) evn)) ?_
  refine (dd w3 HM.out HB.out).mono ?_
  rintro e w4 ⟨rfl, hb⟩
  have HT4 := Lib.hid (HT3.out.call hb)
  clear hb HT3
  refine ⟨_, rfl, ?_⟩
  simp only [Act.put, aa, ac, ae]
  refine af rfl (ai rfl (ev rfl)) ?_
  simp only [Act.put, aa, ac, ae]
  refine af rfl (aA rfl (ev rfl) rfl) ?_
  simp only [Act.put, aa, ac, ae]
  refine af (v := .bool false) rfl (aA rfl (ev rfl) rfl) ?_
  simp only [Act.put, aa, ac, ae]
  refine af rfl (ak rfl (ev rfl)) ?_
  simp only [Act.put, aa, ac, ae]
  refine af (v := .bool false) rfl (ak rfl (ev rfl)) ?_
  simp only [Act.put, aa, ac, ae]
  refine wpList_nil ?_
  go_upto_region 5 with fail
  refine wp_region_lit ?_
  refine af rfl (ai rfl (ev rfl)) ?_
  simp only [Act.put, aa, ac, ae]
  refine af (v := .bool false) rfl (bn false rfl (ev rfl) evk HG.out) ?_
  simp only [Act.put, aa, ac, ae]
  refine af (v := .bool false) rfl (ai rfl (ev rfl)) ?_
  simp only [Act.put, aa, ac, ae]
  refine ah (ag rfl rfl rfl rfl) (ai rfl (ev rfl)) ?_
  simp only [Act.put, aa, ac, ae]
  refine ah (v := .bool true) (ag rfl rfl rfl rfl) (au true rfl (ev rfl) evk H1.out) ?_
  simp only [Act.put, aa, ac, ae]
  refine ah (v := .bool true) (ag rfl rfl rfl rfl) (ai rfl (ev rfl)) ?_
  simp only [Act.put, aa, ac, ae]
  refine ah (ag rfl rfl rfl rfl) (aj rfl (ev rfl) faR3) ?_
  simp only [Act.put, aa, ac, ae]
  refine ah (v := .bool true) (ag rfl rfl rfl rfl) (aq rfl (ev rfl) (ldBo (HO.out ▸ HT4.out.at0.cells.2.2.2.2))) ?_
  simp only [Act.put, aa, ac, ae]
  refine ah (v := .bool true) (ag rfl rfl rfl rfl) (aF rfl (ev rfl) (ev rfl)) ?_
  simp only [Act.put, aa, ac, ae]
  refine af (v := .bool true) rfl (az rfl (ev rfl) (ev rfl)) ?_
  simp only [Act.put, aa, ac, ae]
  refine wpList_nil ?_
  go_upto_region 6 with fail
  refine wp_region_lit ?_
  refine af rfl (ak rfl evk) ?_
  simp only [Act.put, aa, ac, ae]
  refine wpList_nil ?_
  go_wp2_with fail
  go_ret
  exact ⟨rfl, HT4.out.bel⟩
set_option maxHeartbeats 1000000 in
theorem rstate_4f {x : Ros} {n k : Nat} (hf : aH x = true) (hn : missN x = n) (hm : heaM x = k) (hb : heaB x = false) (hg : decide ((2 : Int) ≤ (n : Int)) = false) (h1 : ((n : Int) == 1) = false) (ho : x.gone = true) (w : World) : Calls Tryz.prog 41 #[ros x] w fun e w' => e = .returned (.int .i64 4) ∧ Below w.heap.size w w' := by
  have HT1 := Lib.hid (OneR.new w x)
  have HF := Lib.hid hf
  have HN := Lib.hid hn
  have HM := Lib.hid hm
  have HB := Lib.hid hb
  have HG := Lib.hid hg
  have H1 := Lib.hid h1
  have HO := Lib.hid ho
  clear hf hn hm hb hg h1 ho
  go_enter Tryz.func41, Tryz.ntmps41
  go_upto_region 1 with (first | (refine af rfl (aE rfl rfl) ?_) | fail)
  generalize w.alloc (.cells (aG x).toArray 28) = w1 at *
  refine wp_region_lit ?_
  refine af rfl (aw rfl (ev rfl) (HT1.out.at0)) ?_
  simp only [Act.put, aa, ac, ae]
  refine al rfl (am Tryz.call38 rfl (evc (ev rfl) evn)) ?_
  refine (cO w1 HF.out).mono ?_
  rintro e w2 ⟨rfl, hb⟩
  have HT2 := Lib.hid (HT1.out.call hb)
  clear hb HT1
  refine ⟨_, rfl, ?_⟩
  simp only [Act.put, aa, ac, ae]
  refine af (v := .bool false) rfl (aB true rfl (ev rfl)) ?_
  simp only [Act.put, aa, ac, ae]
  refine wpList_nil ?_
  go_upto_region 3 with fail
  refine wp_region_lit ?_
  refine af rfl (aw rfl (ev rfl) (HT2.out.at0)) ?_
  simp only [Act.put, aa, ac, ae]
  refine al rfl (am Tryz.call81 rfl (evc (ev rfl) evn)) ?_
  refine (dA w2 HN.out).mono ?_
  rintro e w3 ⟨rfl, hb⟩
  have HT3 := Lib.hid (HT2.out.call hb)
  clear hb HT2
  refine ⟨_, rfl, ?_⟩
  simp only [Act.put, aa, ac, ae]
  refine af rfl (ak rfl (ev rfl)) ?_
  simp only [Act.put, aa, ac, ae]
  refine wpList_nil ?_
  go_upto_region 4 with fail
  refine wp_region_lit ?_
  refine af rfl (aw rfl (ev rfl) (HT3.out.at0)) ?_
  simp only [Act.put, aa, ac, ae]
  refine al rfl (am Tryz.call82 rfl (evc (ev rfl) evn)) ?_
  refine (dd w3 HM.out HB.out).mono ?_
  rintro e w4 ⟨rfl, hb⟩
  have HT4 := Lib.hid (HT3.out.call hb)
  clear hb HT3
  refine ⟨_, rfl, ?_⟩
  simp only [Act.put, aa, ac, ae]
  refine af rfl (ai rfl (ev rfl)) ?_
  simp only [Act.put, aa, ac, ae]
  refine af rfl (aA rfl (ev rfl) rfl) ?_
  simp only [Act.put, aa, ac, ae]
  refine af (v := .bool false) rfl (aA rfl (ev rfl) rfl) ?_
  simp only [Act.put, aa, ac, ae]
  refine af rfl (ak rfl (ev rfl)) ?_
  simp only [Act.put, aa, ac, ae]
  refine af (v := .bool false) rfl (ak rfl (ev rfl)) ?_
  simp only [Act.put, aa, ac, ae]
  refine wpList_nil ?_
  go_upto_region 5 with fail
  refine wp_region_lit ?_
  refine af rfl (ai rfl (ev rfl)) ?_
  simp only [Act.put, aa, ac, ae]
  refine af (v := .bool false) rfl (bn false rfl (ev rfl) evk HG.out) ?_
  simp only [Act.put, aa, ac, ae]
  refine af (v := .bool false) rfl (ai rfl (ev rfl)) ?_
  simp only [Act.put, aa, ac, ae]
  refine ah (ag rfl rfl rfl rfl) (ai rfl (ev rfl)) ?_
  simp only [Act.put, aa, ac, ae]
  refine ah (v := .bool false) (ag rfl rfl rfl rfl) (au false rfl (ev rfl) evk H1.out) ?_
  simp only [Act.put, aa, ac, ae]
  refine aD 2 (v := .bool false) (ag rfl rfl rfl rfl) (ai rfl (ev rfl)) (by kernel_rfl) ?_
  simp only [aQ, List.take_succ_cons, List.take_zero, List.drop_succ_cons, List.drop_zero, Act.put, List.setIfInBounds_toArray, List.set_cons_succ, List.set_cons_zero]
  refine ah (v := .bool false) (ag rfl rfl rfl rfl) (az rfl (ev rfl) evk) ?_
  simp only [Act.put, aa, ac, ae]
  refine af (v := .bool false) rfl (az rfl (ev rfl) (ev rfl)) ?_
  simp only [Act.put, aa, ac, ae]
  refine wpList_nil ?_
  go_upto_region 7 with fail
  refine wp_region_lit ?_
  refine af rfl (aj rfl (ev rfl) faR3) ?_
  simp only [Act.put, aa, ac, ae]
  refine af (v := .bool true) rfl (aq rfl (ev rfl) (ldBo (HO.out ▸ HT4.out.at0.cells.2.2.2.2))) ?_
  simp only [Act.put, aa, ac, ae]
  refine wpList_nil ?_
  go_upto_region 8 with fail
  refine wp_region_lit ?_
  refine af rfl (ak rfl evk) ?_
  simp only [Act.put, aa, ac, ae]
  refine wpList_nil ?_
  go_wp2_with fail
  go_ret
  exact ⟨rfl, HT4.out.bel⟩
set_option maxHeartbeats 1000000 in
theorem rstate_3t {x : Ros} {n k : Nat} (hf : aH x = true) (hn : missN x = n) (hm : heaM x = k) (hb : heaB x = true) (hg : decide ((2 : Int) ≤ (n : Int)) = false) (h1 : ((n : Int) == 1) = true) (ho : x.gone = false) (w : World) : Calls Tryz.prog 41 #[ros x] w fun e w' => e = .returned (.int .i64 3) ∧ Below w.heap.size w w' := by
  have HT1 := Lib.hid (OneR.new w x)
  have HF := Lib.hid hf
  have HN := Lib.hid hn
  have HM := Lib.hid hm
  have HB := Lib.hid hb
  have HG := Lib.hid hg
  have H1 := Lib.hid h1
  have HO := Lib.hid ho
  clear hf hn hm hb hg h1 ho
  go_enter Tryz.func41, Tryz.ntmps41
  go_upto_region 1 with (first | (refine af rfl (aE rfl rfl) ?_) | fail)
  generalize w.alloc (.cells (aG x).toArray 28) = w1 at *
  refine wp_region_lit ?_
  refine af rfl (aw rfl (ev rfl) (HT1.out.at0)) ?_
  simp only [Act.put, aa, ac, ae]
  refine al rfl (am Tryz.call38 rfl (evc (ev rfl) evn)) ?_
  refine (cO w1 HF.out).mono ?_
  rintro e w2 ⟨rfl, hb⟩
  have HT2 := Lib.hid (HT1.out.call hb)
  clear hb HT1
  refine ⟨_, rfl, ?_⟩
  simp only [Act.put, aa, ac, ae]
  refine af (v := .bool false) rfl (aB true rfl (ev rfl)) ?_
  simp only [Act.put, aa, ac, ae]
  refine wpList_nil ?_
  go_upto_region 3 with fail
  refine wp_region_lit ?_
  refine af rfl (aw rfl (ev rfl) (HT2.out.at0)) ?_
  simp only [Act.put, aa, ac, ae]
  refine al rfl (am Tryz.call81 rfl (evc (ev rfl) evn)) ?_
  refine (dA w2 HN.out).mono ?_
  rintro e w3 ⟨rfl, hb⟩
  have HT3 := Lib.hid (HT2.out.call hb)
  clear hb HT2
  refine ⟨_, rfl, ?_⟩
  simp only [Act.put, aa, ac, ae]
  refine af rfl (ak rfl (ev rfl)) ?_
  simp only [Act.put, aa, ac, ae]
  refine wpList_nil ?_
  go_upto_region 4 with fail
  refine wp_region_lit ?_
  refine af rfl (aw rfl (ev rfl) (HT3.out.at0)) ?_
  simp only [Act.put, aa, ac, ae]
  refine al rfl (am Tryz.call82 rfl (evc (ev rfl) evn)) ?_
  refine (dd w3 HM.out HB.out).mono ?_
  rintro e w4 ⟨rfl, hb⟩
  have HT4 := Lib.hid (HT3.out.call hb)
  clear hb HT3
  refine ⟨_, rfl, ?_⟩
  simp only [Act.put, aa, ac, ae]
  refine af rfl (ai rfl (ev rfl)) ?_
  simp only [Act.put, aa, ac, ae]
  refine af rfl (aA rfl (ev rfl) rfl) ?_
  simp only [Act.put, aa, ac, ae]
  refine af (v := .bool true) rfl (aA rfl (ev rfl) rfl) ?_
  simp only [Act.put, aa, ac, ae]
  refine af rfl (ak rfl (ev rfl)) ?_
  simp only [Act.put, aa, ac, ae]
  refine af (v := .bool true) rfl (ak rfl (ev rfl)) ?_
  simp only [Act.put, aa, ac, ae]
  refine wpList_nil ?_
  go_upto_region 5 with fail
  refine wp_region_lit ?_
  refine af rfl (ai rfl (ev rfl)) ?_
  simp only [Act.put, aa, ac, ae]
  refine af (v := .bool false) rfl (bn false rfl (ev rfl) evk HG.out) ?_
  simp only [Act.put, aa, ac, ae]
  refine af (v := .bool false) rfl (ai rfl (ev rfl)) ?_
  simp only [Act.put, aa, ac, ae]
  refine ah (ag rfl rfl rfl rfl) (ai rfl (ev rfl)) ?_
  simp only [Act.put, aa, ac, ae]
  refine ah (v := .bool true) (ag rfl rfl rfl rfl) (au true rfl (ev rfl) evk H1.out) ?_
  simp only [Act.put, aa, ac, ae]
  refine ah (v := .bool true) (ag rfl rfl rfl rfl) (ai rfl (ev rfl)) ?_
  simp only [Act.put, aa, ac, ae]
  refine ah (ag rfl rfl rfl rfl) (aj rfl (ev rfl) faR3) ?_
  simp only [Act.put, aa, ac, ae]
  refine ah (v := .bool false) (ag rfl rfl rfl rfl) (aq rfl (ev rfl) (ldBo (HO.out ▸ HT4.out.at0.cells.2.2.2.2))) ?_
  simp only [Act.put, aa, ac, ae]
  refine ah (v := .bool false) (ag rfl rfl rfl rfl) (aF rfl (ev rfl) (ev rfl)) ?_
  simp only [Act.put, aa, ac, ae]
  refine af (v := .bool false) rfl (az rfl (ev rfl) (ev rfl)) ?_
  simp only [Act.put, aa, ac, ae]
  refine wpList_nil ?_
  go_upto_region 7 with fail
  refine wp_region_lit ?_
  refine af rfl (aj rfl (ev rfl) faR3) ?_
  simp only [Act.put, aa, ac, ae]
  refine af (v := .bool false) rfl (aq rfl (ev rfl) (ldBo (HO.out ▸ HT4.out.at0.cells.2.2.2.2))) ?_
  simp only [Act.put, aa, ac, ae]
  refine wpList_nil ?_
  go_upto_region 9 with fail
  refine wp_region_lit ?_
  refine af (v := .bool true) rfl (ai rfl (ev rfl)) ?_
  simp only [Act.put, aa, ac, ae]
  refine wpList_nil ?_
  go_upto_region 10 with fail
  refine wp_region_lit ?_
  refine af rfl (ak rfl evk) ?_
  simp only [Act.put, aa, ac, ae]
  refine wpList_nil ?_
  go_wp2_with fail
  go_ret
  exact ⟨rfl, HT4.out.bel⟩
set_option maxHeartbeats 1000000 in
theorem rstate_3f {x : Ros} {n k : Nat} (hf : aH x = true) (hn : missN x = n) (hm : heaM x = k) (hb : heaB x = true) (hg : decide ((2 : Int) ≤ (n : Int)) = false) (h1 : ((n : Int) == 1) = false) (ho : x.gone = false) (w : World) : Calls Tryz.prog 41 #[ros x] w fun e w' => e = .returned (.int .i64 3) ∧ Below w.heap.size w w' := by
  have HT1 := Lib.hid (OneR.new w x)
  have HF := Lib.hid hf
  have HN := Lib.hid hn
  have HM := Lib.hid hm
  have HB := Lib.hid hb
  have HG := Lib.hid hg
  have H1 := Lib.hid h1
  have HO := Lib.hid ho
  clear hf hn hm hb hg h1 ho
  go_enter Tryz.func41, Tryz.ntmps41
  go_upto_region 1 with (first | (refine af rfl (aE rfl rfl) ?_) | fail)
  generalize w.alloc (.cells (aG x).toArray 28) = w1 at *
  refine wp_region_lit ?_
  refine af rfl (aw rfl (ev rfl) (HT1.out.at0)) ?_
  simp only [Act.put, aa, ac, ae]
  refine al rfl (am Tryz.call38 rfl (evc (ev rfl) evn)) ?_
  refine (cO w1 HF.out).mono ?_
  rintro e w2 ⟨rfl, hb⟩
  have HT2 := Lib.hid (HT1.out.call hb)
  clear hb HT1
  refine ⟨_, rfl, ?_⟩
  simp only [Act.put, aa, ac, ae]
  refine af (v := .bool false) rfl (aB true rfl (ev rfl)) ?_
  simp only [Act.put, aa, ac, ae]
  refine wpList_nil ?_
  go_upto_region 3 with fail
  refine wp_region_lit ?_
  refine af rfl (aw rfl (ev rfl) (HT2.out.at0)) ?_
  simp only [Act.put, aa, ac, ae]
  refine al rfl (am Tryz.call81 rfl (evc (ev rfl) evn)) ?_
  refine (dA w2 HN.out).mono ?_
  rintro e w3 ⟨rfl, hb⟩
  have HT3 := Lib.hid (HT2.out.call hb)
  clear hb HT2
  refine ⟨_, rfl, ?_⟩
  simp only [Act.put, aa, ac, ae]
  refine af rfl (ak rfl (ev rfl)) ?_
  simp only [Act.put, aa, ac, ae]
  refine wpList_nil ?_
  go_upto_region 4 with fail
  refine wp_region_lit ?_
  refine af rfl (aw rfl (ev rfl) (HT3.out.at0)) ?_
  simp only [Act.put, aa, ac, ae]
  refine al rfl (am Tryz.call82 rfl (evc (ev rfl) evn)) ?_
  refine (dd w3 HM.out HB.out).mono ?_
  rintro e w4 ⟨rfl, hb⟩
  have HT4 := Lib.hid (HT3.out.call hb)
  clear hb HT3
  refine ⟨_, rfl, ?_⟩
  simp only [Act.put, aa, ac, ae]
  refine af rfl (ai rfl (ev rfl)) ?_
  simp only [Act.put, aa, ac, ae]
  refine af rfl (aA rfl (ev rfl) rfl) ?_
  simp only [Act.put, aa, ac, ae]
  refine af (v := .bool true) rfl (aA rfl (ev rfl) rfl) ?_
  simp only [Act.put, aa, ac, ae]
  refine af rfl (ak rfl (ev rfl)) ?_
  simp only [Act.put, aa, ac, ae]
  refine af (v := .bool true) rfl (ak rfl (ev rfl)) ?_
  simp only [Act.put, aa, ac, ae]
  refine wpList_nil ?_
  go_upto_region 5 with fail
  refine wp_region_lit ?_
  refine af rfl (ai rfl (ev rfl)) ?_
  simp only [Act.put, aa, ac, ae]
  refine af (v := .bool false) rfl (bn false rfl (ev rfl) evk HG.out) ?_
  simp only [Act.put, aa, ac, ae]
  refine af (v := .bool false) rfl (ai rfl (ev rfl)) ?_
  simp only [Act.put, aa, ac, ae]
  refine ah (ag rfl rfl rfl rfl) (ai rfl (ev rfl)) ?_
  simp only [Act.put, aa, ac, ae]
  refine ah (v := .bool false) (ag rfl rfl rfl rfl) (au false rfl (ev rfl) evk H1.out) ?_
  simp only [Act.put, aa, ac, ae]
  refine aD 2 (v := .bool false) (ag rfl rfl rfl rfl) (ai rfl (ev rfl)) (by kernel_rfl) ?_
  simp only [aQ, List.take_succ_cons, List.take_zero, List.drop_succ_cons, List.drop_zero, Act.put, List.setIfInBounds_toArray, List.set_cons_succ, List.set_cons_zero]
  refine ah (v := .bool false) (ag rfl rfl rfl rfl) (az rfl (ev rfl) evk) ?_
  simp only [Act.put, aa, ac, ae]
  refine af (v := .bool false) rfl (az rfl (ev rfl) (ev rfl)) ?_
  simp only [Act.put, aa, ac, ae]
  refine wpList_nil ?_
  go_upto_region 7 with fail
  refine wp_region_lit ?_
  refine af rfl (aj rfl (ev rfl) faR3) ?_
  simp only [Act.put, aa, ac, ae]
  refine af (v := .bool false) rfl (aq rfl (ev rfl) (ldBo (HO.out ▸ HT4.out.at0.cells.2.2.2.2))) ?_
  simp only [Act.put, aa, ac, ae]
  refine wpList_nil ?_
  go_upto_region 9 with fail
  refine wp_region_lit ?_
  refine af (v := .bool true) rfl (ai rfl (ev rfl)) ?_
  simp only [Act.put, aa, ac, ae]
  refine wpList_nil ?_
  go_upto_region 10 with fail
  refine wp_region_lit ?_
  refine af rfl (ak rfl evk) ?_
  simp only [Act.put, aa, ac, ae]
  refine wpList_nil ?_
  go_wp2_with fail
  go_ret
  exact ⟨rfl, HT4.out.bel⟩
set_option maxHeartbeats 1000000 in
theorem rstate_2 {x : Ros} {n k : Nat} (hf : aH x = true) (hn : missN x = n) (hm : heaM x = k) (hb : heaB x = false) (hg : decide ((2 : Int) ≤ (n : Int)) = false) (h1 : ((n : Int) == 1) = true) (ho : x.gone = false) (w : World) : Calls Tryz.prog 41 #[ros x] w fun e w' => e = .returned (.int .i64 2) ∧ Below w.heap.size w w' := by
  have HT1 := Lib.hid (OneR.new w x)
  have HF := Lib.hid hf
  have HN := Lib.hid hn
  have HM := Lib.hid hm
  have HB := Lib.hid hb
  have HG := Lib.hid hg
  have H1 := Lib.hid h1
  have HO := Lib.hid ho
  clear hf hn hm hb hg h1 ho
  go_enter Tryz.func41, Tryz.ntmps41
  go_upto_region 1 with (first | (refine af rfl (aE rfl rfl) ?_) | fail)
  generalize w.alloc (.cells (aG x).toArray 28) = w1 at *
  refine wp_region_lit ?_
  refine af rfl (aw rfl (ev rfl) (HT1.out.at0)) ?_
  simp only [Act.put, aa, ac, ae]
  refine al rfl (am Tryz.call38 rfl (evc (ev rfl) evn)) ?_
  refine (cO w1 HF.out).mono ?_
  rintro e w2 ⟨rfl, hb⟩
  have HT2 := Lib.hid (HT1.out.call hb)
  clear hb HT1
  refine ⟨_, rfl, ?_⟩
  simp only [Act.put, aa, ac, ae]
  refine af (v := .bool false) rfl (aB true rfl (ev rfl)) ?_
  simp only [Act.put, aa, ac, ae]
  refine wpList_nil ?_
  go_upto_region 3 with fail
  refine wp_region_lit ?_
  refine af rfl (aw rfl (ev rfl) (HT2.out.at0)) ?_
  simp only [Act.put, aa, ac, ae]
  refine al rfl (am Tryz.call81 rfl (evc (ev rfl) evn)) ?_
  refine (dA w2 HN.out).mono ?_
  rintro e w3 ⟨rfl, hb⟩
  have HT3 := Lib.hid (HT2.out.call hb)
  clear hb HT2
  refine ⟨_, rfl, ?_⟩
  simp only [Act.put, aa, ac, ae]
  refine af rfl (ak rfl (ev rfl)) ?_
  simp only [Act.put, aa, ac, ae]
  refine wpList_nil ?_
  go_upto_region 4 with fail
  refine wp_region_lit ?_
  refine af rfl (aw rfl (ev rfl) (HT3.out.at0)) ?_
  simp only [Act.put, aa, ac, ae]
  refine al rfl (am Tryz.call82 rfl (evc (ev rfl) evn)) ?_
  refine (dd w3 HM.out HB.out).mono ?_
  rintro e w4 ⟨rfl, hb⟩
  have HT4 := Lib.hid (HT3.out.call hb)
  clear hb HT3
  refine ⟨_, rfl, ?_⟩
  simp only [Act.put, aa, ac, ae]
  refine af rfl (ai rfl (ev rfl)) ?_
  simp only [Act.put, aa, ac, ae]
  refine af rfl (aA rfl (ev rfl) rfl) ?_
  simp only [Act.put, aa, ac, ae]
  refine af (v := .bool false) rfl (aA rfl (ev rfl) rfl) ?_
  simp only [Act.put, aa, ac, ae]
  refine af rfl (ak rfl (ev rfl)) ?_
  simp only [Act.put, aa, ac, ae]
  refine af (v := .bool false) rfl (ak rfl (ev rfl)) ?_
  simp only [Act.put, aa, ac, ae]
  refine wpList_nil ?_
  go_upto_region 5 with fail
  refine wp_region_lit ?_
  refine af rfl (ai rfl (ev rfl)) ?_
  simp only [Act.put, aa, ac, ae]
  refine af (v := .bool false) rfl (bn false rfl (ev rfl) evk HG.out) ?_
  simp only [Act.put, aa, ac, ae]
  refine af (v := .bool false) rfl (ai rfl (ev rfl)) ?_
  simp only [Act.put, aa, ac, ae]
  refine ah (ag rfl rfl rfl rfl) (ai rfl (ev rfl)) ?_
  simp only [Act.put, aa, ac, ae]
  refine ah (v := .bool true) (ag rfl rfl rfl rfl) (au true rfl (ev rfl) evk H1.out) ?_
  simp only [Act.put, aa, ac, ae]
  refine ah (v := .bool true) (ag rfl rfl rfl rfl) (ai rfl (ev rfl)) ?_
  simp only [Act.put, aa, ac, ae]
  refine ah (ag rfl rfl rfl rfl) (aj rfl (ev rfl) faR3) ?_
  simp only [Act.put, aa, ac, ae]
  refine ah (v := .bool false) (ag rfl rfl rfl rfl) (aq rfl (ev rfl) (ldBo (HO.out ▸ HT4.out.at0.cells.2.2.2.2))) ?_
  simp only [Act.put, aa, ac, ae]
  refine ah (v := .bool false) (ag rfl rfl rfl rfl) (aF rfl (ev rfl) (ev rfl)) ?_
  simp only [Act.put, aa, ac, ae]
  refine af (v := .bool false) rfl (az rfl (ev rfl) (ev rfl)) ?_
  simp only [Act.put, aa, ac, ae]
  refine wpList_nil ?_
  go_upto_region 7 with fail
  refine wp_region_lit ?_
  refine af rfl (aj rfl (ev rfl) faR3) ?_
  simp only [Act.put, aa, ac, ae]
  refine af (v := .bool false) rfl (aq rfl (ev rfl) (ldBo (HO.out ▸ HT4.out.at0.cells.2.2.2.2))) ?_
  simp only [Act.put, aa, ac, ae]
  refine wpList_nil ?_
  go_upto_region 9 with fail
  refine wp_region_lit ?_
  refine af (v := .bool false) rfl (ai rfl (ev rfl)) ?_
  simp only [Act.put, aa, ac, ae]
  refine wpList_nil ?_
  go_upto_region 11 with fail
  refine wp_region_lit ?_
  refine af rfl (ai rfl (ev rfl)) ?_
  simp only [Act.put, aa, ac, ae]
  refine af (v := .bool true) rfl (au true rfl (ev rfl) evk H1.out) ?_
  simp only [Act.put, aa, ac, ae]
  refine wpList_nil ?_
  go_upto_region 12 with fail
  refine wp_region_lit ?_
  refine af rfl (ak rfl evk) ?_
  simp only [Act.put, aa, ac, ae]
  refine wpList_nil ?_
  go_wp2_with fail
  go_ret
  exact ⟨rfl, HT4.out.bel⟩
set_option maxHeartbeats 1000000 in
theorem rstate_1 {x : Ros} {n k : Nat} (hf : aH x = true) (hn : missN x = n) (hm : heaM x = k) (hb : heaB x = false) (hg : decide ((2 : Int) ≤ (n : Int)) = false) (h1 : ((n : Int) == 1) = false) (ho : x.gone = false) (w : World) : Calls Tryz.prog 41 #[ros x] w fun e w' => e = .returned (.int .i64 1) ∧ Below w.heap.size w w' := by
  have HT1 := Lib.hid (OneR.new w x)
  have HF := Lib.hid hf
  have HN := Lib.hid hn
  have HM := Lib.hid hm
  have HB := Lib.hid hb
  have HG := Lib.hid hg
  have H1 := Lib.hid h1
  have HO := Lib.hid ho
  clear hf hn hm hb hg h1 ho
  go_enter Tryz.func41, Tryz.ntmps41
  go_upto_region 1 with (first | (refine af rfl (aE rfl rfl) ?_) | fail)
  generalize w.alloc (.cells (aG x).toArray 28) = w1 at *
  refine wp_region_lit ?_
  refine af rfl (aw rfl (ev rfl) (HT1.out.at0)) ?_
  simp only [Act.put, aa, ac, ae]
  refine al rfl (am Tryz.call38 rfl (evc (ev rfl) evn)) ?_
  refine (cO w1 HF.out).mono ?_
  rintro e w2 ⟨rfl, hb⟩
  have HT2 := Lib.hid (HT1.out.call hb)
  clear hb HT1
  refine ⟨_, rfl, ?_⟩
  simp only [Act.put, aa, ac, ae]
  refine af (v := .bool false) rfl (aB true rfl (ev rfl)) ?_
  simp only [Act.put, aa, ac, ae]
  refine wpList_nil ?_
  go_upto_region 3 with fail
  refine wp_region_lit ?_
  refine af rfl (aw rfl (ev rfl) (HT2.out.at0)) ?_
  simp only [Act.put, aa, ac, ae]
  refine al rfl (am Tryz.call81 rfl (evc (ev rfl) evn)) ?_
  refine (dA w2 HN.out).mono ?_
  rintro e w3 ⟨rfl, hb⟩
  have HT3 := Lib.hid (HT2.out.call hb)
  clear hb HT2
  refine ⟨_, rfl, ?_⟩
  simp only [Act.put, aa, ac, ae]
  refine af rfl (ak rfl (ev rfl)) ?_
  simp only [Act.put, aa, ac, ae]
  refine wpList_nil ?_
  go_upto_region 4 with fail
  refine wp_region_lit ?_
  refine af rfl (aw rfl (ev rfl) (HT3.out.at0)) ?_
  simp only [Act.put, aa, ac, ae]
  refine al rfl (am Tryz.call82 rfl (evc (ev rfl) evn)) ?_
  refine (dd w3 HM.out HB.out).mono ?_
  rintro e w4 ⟨rfl, hb⟩
  have HT4 := Lib.hid (HT3.out.call hb)
  clear hb HT3
  refine ⟨_, rfl, ?_⟩
  simp only [Act.put, aa, ac, ae]
  refine af rfl (ai rfl (ev rfl)) ?_
  simp only [Act.put, aa, ac, ae]
  refine af rfl (aA rfl (ev rfl) rfl) ?_
  simp only [Act.put, aa, ac, ae]
  refine af (v := .bool false) rfl (aA rfl (ev rfl) rfl) ?_
  simp only [Act.put, aa, ac, ae]
  refine af rfl (ak rfl (ev rfl)) ?_
  simp only [Act.put, aa, ac, ae]
  refine af (v := .bool false) rfl (ak rfl (ev rfl)) ?_
  simp only [Act.put, aa, ac, ae]
  refine wpList_nil ?_
  go_upto_region 5 with fail
  refine wp_region_lit ?_
  refine af rfl (ai rfl (ev rfl)) ?_
  simp only [Act.put, aa, ac, ae]
  refine af (v := .bool false) rfl (bn false rfl (ev rfl) evk HG.out) ?_
  simp only [Act.put, aa, ac, ae]
  refine af (v := .bool false) rfl (ai rfl (ev rfl)) ?_
  simp only [Act.put, aa, ac, ae]
  refine ah (ag rfl rfl rfl rfl) (ai rfl (ev rfl)) ?_
  simp only [Act.put, aa, ac, ae]
  refine ah (v := .bool false) (ag rfl rfl rfl rfl) (au false rfl (ev rfl) evk H1.out) ?_
  simp only [Act.put, aa, ac, ae]
  refine aD 2 (v := .bool false) (ag rfl rfl rfl rfl) (ai rfl (ev rfl)) (by kernel_rfl) ?_
  simp only [aQ, List.take_succ_cons, List.take_zero, List.drop_succ_cons, List.drop_zero, Act.put, List.setIfInBounds_toArray, List.set_cons_succ, List.set_cons_zero]
  refine ah (v := .bool false) (ag rfl rfl rfl rfl) (az rfl (ev rfl) evk) ?_
  simp only [Act.put, aa, ac, ae]
  refine af (v := .bool false) rfl (az rfl (ev rfl) (ev rfl)) ?_
  simp only [Act.put, aa, ac, ae]
  refine wpList_nil ?_
  go_upto_region 7 with fail
  refine wp_region_lit ?_
  refine af rfl (aj rfl (ev rfl) faR3) ?_
  simp only [Act.put, aa, ac, ae]
  refine af (v := .bool false) rfl (aq rfl (ev rfl) (ldBo (HO.out ▸ HT4.out.at0.cells.2.2.2.2))) ?_
  simp only [Act.put, aa, ac, ae]
  refine wpList_nil ?_
  go_upto_region 9 with fail
  refine wp_region_lit ?_
  refine af (v := .bool false) rfl (ai rfl (ev rfl)) ?_
  simp only [Act.put, aa, ac, ae]
  refine wpList_nil ?_
  go_upto_region 11 with fail
  refine wp_region_lit ?_
  refine af rfl (ai rfl (ev rfl)) ?_
  simp only [Act.put, aa, ac, ae]
  refine af (v := .bool false) rfl (au false rfl (ev rfl) evk H1.out) ?_
  simp only [Act.put, aa, ac, ae]
  refine wpList_nil ?_
  go_upto_region 13 with fail
  refine wp_region_lit ?_
  refine af rfl (ak rfl evk) ?_
  simp only [Act.put, aa, ac, ae]
  refine wpList_nil ?_
  go_wp2_with fail
  go_ret
  exact ⟨rfl, HT4.out.bel⟩
theorem stN_fine {x : Ros} (hf : aH x = true) : stN x = if 2 ≤ outs x ∨ (outs x = 1 ∧ x.gone = true) then 5 else if x.gone = true then 4 else if bZ x = 1 then 3 else if outs x = 1 then 2 else 1 := by unfold stN; rw [if_pos hf]
theorem pstate (x : Ros) (w : World) : Calls Tryz.prog 75 #[ros x] w fun e w' => e = .returned (.int .i64 (stN x : Nat)) ∧ Below w.heap.size w w' := by
  cases hf : aH x
  · rw [show stN x = 0 from by unfold stN; rw [hf]; rfl]; exact pstate_0 hf w
  have hn := wrap_two (many_le x 1) (many_le x 2) (outs_many (cw hf).2.1).symm
  have ho := outs_many (cw hf).2.1
  have hh := dx x
  have hm := many_le x 1
  have hm2 := many_le x 2
  rw [stN_fine hf]
  by_cases c1 : 2 ≤ outs x
  · rw [if_pos (.inl c1)]; exact pstate_5a hf rfl rfl hn (decide_eq_true (by omega)) w
  have hg : decide ((2 : Int) ≤ (outs x : Int)) = false := decide_eq_false (by omega)
  cases hgo : x.gone
  · rw [if_neg (by rintro (h | ⟨_, h⟩); exact c1 h; cases h), if_neg (by decide), hh]
    by_cases n1 : outs x = 1
    · have e1 : ((outs x : Int) == 1) = true := by rw [n1]; rfl
      by_cases k1 : many x 2 = 1
      · rw [if_pos k1]; exact pstate_3t hf rfl rfl hn hg e1 hgo (by rw [k1]; rfl) w
      · rw [if_neg k1, if_pos n1]; exact pstate_2t hf rfl rfl hn hg e1 hgo (by simp; omega) (by simp; omega) w
    · have e1 : ((outs x : Int) == 1) = false := by simp; omega
      rw [if_neg (by omega), if_neg n1]; exact pstate_1f hf rfl rfl hn hg e1 hgo (by simp; omega) (by simp; omega) w
  · by_cases n1 : outs x = 1
    · rw [if_pos (.inr ⟨n1, rfl⟩)]; exact pstate_5b hf rfl rfl hn hg (by rw [n1]; rfl) hgo w
    · rw [if_neg (by omega), if_pos rfl]; exact pstate_4 hf rfl rfl hn hg (by simp; omega) hgo w
theorem heaB_eq {x : Ros} (hf : aH x = true) : heaB x = decide (bZ x = 1) := by
  have h1 := (cw hf).2.2.1
  have h2 := healJ_none x
  unfold heaB
  rw [hf, Bool.true_and]
  cases hj : healJ x with
  | none => have := h2.1 hj; rw [decide_eq_false (by omega)]; rfl
  | some j =>
    have : bZ x ≠ 0 := fun e => by rw [h2.2 e] at hj; cases hj
    rw [decide_eq_true (by omega)]; rfl
theorem rstate (x : Ros) (w : World) : Calls Tryz.prog 41 #[ros x] w fun e w' => e = .returned (.int .i64 (stN x : Nat)) ∧ Below w.heap.size w w' := by
  cases hf : aH x
  · rw [show stN x = 0 from by unfold stN; rw [hf]; rfl]; exact rstate_0 hf w
  have hm : missN x = outs x := by unfold missN; rw [if_pos hf]
  have hb := heaB_eq hf
  have ho := heals_outs (cw hf).2.1
  rw [stN_fine hf]
  by_cases c1 : 2 ≤ outs x
  · rw [if_pos (.inl c1)]
    cases hq : heaB x
    · exact rstate_5af hf hm rfl hq (decide_eq_true (by omega)) w
    · exact rstate_5at hf hm rfl hq (decide_eq_true (by omega)) w
  have hg : decide ((2 : Int) ≤ (outs x : Int)) = false := decide_eq_false (by omega)
  cases hgo : x.gone
  · rw [if_neg (by rintro (h | ⟨_, h⟩); exact c1 h; cases h), if_neg (by decide)]
    by_cases k1 : bZ x = 1
    · rw [if_pos k1]
      rw [decide_eq_true k1] at hb
      by_cases n1 : outs x = 1
      · exact rstate_3t hf hm rfl hb hg (by rw [n1]; rfl) hgo w
      · exact rstate_3f hf hm rfl hb hg (by simp; omega) hgo w
    · rw [if_neg k1]
      rw [decide_eq_false k1] at hb
      by_cases n1 : outs x = 1
      · rw [if_pos n1]; exact rstate_2 hf hm rfl hb hg (by rw [n1]; rfl) hgo w
      · rw [if_neg n1]; exact rstate_1 hf hm rfl hb hg (by simp; omega) hgo w
  · by_cases n1 : outs x = 1
    · rw [if_pos (.inr ⟨n1, rfl⟩)]
      cases hq : heaB x
      · exact rstate_5bf hf hm rfl hq hg (by rw [n1]; rfl) hgo w
      · exact rstate_5bt hf hm rfl hq hg (by rw [n1]; rfl) hgo w
    · rw [if_neg (by omega), if_pos rfl]
      cases hq : heaB x
      · exact rstate_4f hf hm rfl hq hg (by simp; omega) hgo w
      · exact rstate_4t hf hm rfl hq hg (by simp; omega) hgo w
theorem pstate_n {x : Ros} {n : Nat} (w : World) (h : stN x = n) : Calls Tryz.prog 75 #[ros x] w fun e w' => e = .returned (.int .i64 (n : Nat)) ∧ Below w.heap.size w w' := by subst h; exact pstate x w
end Go.Proofs.YtnliphgjcaippaaGreatDoor
