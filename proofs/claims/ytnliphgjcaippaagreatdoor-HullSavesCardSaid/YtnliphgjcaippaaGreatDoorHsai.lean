import Derived.Test.YtnliphgjcaippaaGreatDoorHsah
import Derived.Test.YtnliphgjcaippaaGreatDoorHsab
import Derived.Test.YtnliphgjcaippaaGreatDoorHsae
import Derived.Test.YtnliphgjcaippaaGreatDoorHsaa
import Derived.Laws.AppendOwn
import Derived.Laws.OwnMore
import Derived.Test.YtnliphgjcaippaaGreatDoorHsZ
namespace Go.Proofs.YtnliphgjcaippaaGreatDoor
open Go.RowKit
set_option linter.unusedVariables false
set_option maxRecDepth 100000
set_option linter.unusedSimpArgs false
set_option maxHeartbeats 4000000 in
theorem rfine (x : Ros) (w : World) : Calls Tryz.prog 46 #[ros x] w fun e w' => e = .returned (.bool (aS x)) ∧ Below w.heap.size w w' := by
  have HGE : Hid (geoB x = false → aS x = false) := Lib.hid fun h => by unfold aS; rw [h]; rfl
  have HOK : Hid (geoB x = true → staB x = true → aS x = (decide (cF x ≤ 1) && decide (0 ≤ x.cur ∧ x.cur < x.s ∧ (cF x = 1 ∨ x.cur = 0)))) := Lib.hid fun h h' => by unfold aS; rw [h, h', Bool.true_and, Bool.true_and]
  have HNO : Hid (∀ j, j < 16 → (2 < sta x j ∨ (x.m ≤ (j : Int) ∧ sta x j ≠ 0)) → aS x = false) := Lib.hid fun j => sta_no
  have HSTA := Lib.hid (staB_iff (x := x))
  obtain ⟨h1, h2, h3⟩ := cj w x
  have HR := Lib.hid h1
  have HB := Lib.hid h2
  have HZ := Lib.hid h3
  clear h1 h2 h3
  have HH : Hid (cF x = healK x.st.toList 16) := Lib.hid rfl
  have HST : Hid (∀ j, sta x j = bt x.st.toList j) := Lib.hid fun _ => rfl
  go_enter Tryz.func46, Tryz.ntmps46
  go_wp2_with (first | (refine af rfl (aP rfl rfl) ?_) | (refine af rfl (cR (c := x) rfl rfl ?_) ?_; (with_reducible exact HR.out.geo)) | fail)
  generalize w.alloc (.cells (aH x).toArray 28) = w1 at *
  refine (rgmay x w1).mono ?_
  rintro e w2 ⟨rfl, hb⟩
  have HR2 := Lib.hid (HR.out.below HZ.out hb)
  have HB2 := Lib.hid (HB.out.trans (hb.mono (Nat.le_of_lt HZ.out)))
  clear hb HR HB HZ
  cases hg : geoB x
  · have HF := Lib.hid (HGE.out hg)
    clear hg
    go_wp2_with fail
    go_ret
    exact ⟨by rw [HF.out]; rfl, HB2.out⟩
  · have HOK2 := Lib.hid (HOK.out hg)
    clear hg HOK HGE
    have HM := Lib.hid HR2.out.cells.1
    have HSS := Lib.hid HR2.out.cells.2.1
    have HCU := Lib.hid HR2.out.cells.2.2.2.1
    go_wp2_with fail
    go_loop [3, 4] (fun n i => ∃ j : Nat, j ≤ 16 ∧ i = .int .i64 j ∧ n = .int .i64 (healK x.st.toList j : Nat) ∧ (∀ k, k < j → sta x k ≤ 2) ∧ (∀ k : Nat, k < j → x.m ≤ (k : Int) → sta x k = 0)) (fun _ i => 16 - (intOf i).toNat)
    case atStart => exact ⟨0, Nat.zero_le _, rfl, rfl, fun k hk => absurd hk (by omega), fun k hk => absurd hk (by omega)⟩
    case round =>
      obtain ⟨j, hj, rfl, rfl, ha1, ha2⟩ := hrel
      have HA1 := Lib.hid ha1
      have HA2 := Lib.hid ha2
      clear ha1 ha2
      by_cases hlt : j < 16
      · have HC := Lib.hid (HR2.out.sta hlt)
        have HS := Lib.hid (healK_succ x.st.toList j)
        have hle := healK_le x.st.toList j
        generalize healK x.st.toList j = n at *
        by_cases g2 : 2 < sta x j
        · have HF := Lib.hid (HNO.out j hlt (.inl g2))
          have H17 : Hid (decide ((2 : Int) < sta x j) = true) := Lib.hid (decide_eq_true g2)
          clear g2
          go_upto_region 7 with fail
          refine wp_region_lit ?_
          refine af rfl (ai rfl (ev rfl)) ?_
          simp only [Act.put, aa, ac, ae]
          refine af rfl (aj rfl (ev rfl) faR1) ?_
          simp only [Act.put, aa, ac, ae]
          refine af rfl (cu rfl (ev rfl) (ev rfl) (ix16 hlt)) ?_
          simp only [Act.put, aa, ac, ae]
          refine af rfl (aq rfl (ev rfl) (ldU8 HC.out)) ?_
          simp only [Act.put, aa, ac, ae]
          refine af (v := .bool true) rfl (cG true rfl (ev rfl) evk H17.out) ?_
          simp only [Act.put, aa, ac, ae]
          refine aF 12 (v := .bool true) rfl (ai rfl (ev rfl)) (by kernel_rfl) ?_
          simp only [aY, List.take_succ_cons, List.take_zero, List.drop_succ_cons, List.drop_zero, Act.put, List.setIfInBounds_toArray, List.set_cons_succ, List.set_cons_zero]
          refine af (v := .bool true) rfl (aJ rfl (ev rfl) evk) ?_
          simp only [Act.put, aa, ac, ae]
          refine wpList_nil ?_
          go_wp2_with fail
          go_ret
          exact ⟨by rw [HF.out]; rfl, HB2.out⟩
        · have H17 : Hid (decide ((2 : Int) < sta x j) = false) := Lib.hid (decide_eq_false g2)
          have HLE : Hid (sta x j ≤ 2) := Lib.hid (by omega)
          by_cases gm : x.m ≤ (j : Int)
          · have H23 : Hid (decide (x.m ≤ (j : Int)) = true) := Lib.hid (decide_eq_true gm)
            by_cases g0 : sta x j = 0
            · have H29 : Hid ((sta x j != 0) = false) := Lib.hid (by rw [g0]; rfl)
              have HEQ := Lib.hid g0
              clear g2 gm g0
              go_upto_region 7 with fail
              refine wp_region_lit ?_
              refine af rfl (ai rfl (ev rfl)) ?_
              simp only [Act.put, aa, ac, ae]
              refine af rfl (aj rfl (ev rfl) faR1) ?_
              simp only [Act.put, aa, ac, ae]
              refine af rfl (cu rfl (ev rfl) (ev rfl) (ix16 hlt)) ?_
              simp only [Act.put, aa, ac, ae]
              refine af rfl (aq rfl (ev rfl) (ldU8 HC.out)) ?_
              simp only [Act.put, aa, ac, ae]
              refine af (v := .bool false) rfl (cG false rfl (ev rfl) evk H17.out) ?_
              simp only [Act.put, aa, ac, ae]
              refine af (v := .bool false) rfl (ai rfl (ev rfl)) ?_
              simp only [Act.put, aa, ac, ae]
              refine ag (ah rfl rfl rfl rfl) (ai rfl (ev rfl)) ?_
              simp only [Act.put, aa, ac, ae]
              refine ag (ah rfl rfl rfl rfl) (aj rfl (ev rfl) cD) ?_
              simp only [Act.put, aa, ac, ae]
              refine ag (ah rfl rfl rfl rfl) (aj rfl (ev rfl) faG0) ?_
              simp only [Act.put, aa, ac, ae]
              refine ag (ah rfl rfl rfl rfl) (aq rfl (ev rfl) (aW HM.out)) ?_
              simp only [Act.put, aa, ac, ae]
              refine ag (v := .bool true) (ah rfl rfl rfl rfl) (cl true rfl (ev rfl) (ev rfl) H23.out) ?_
              simp only [Act.put, aa, ac, ae]
              refine ag (v := .bool true) (ah rfl rfl rfl rfl) (ai rfl (ev rfl)) ?_
              simp only [Act.put, aa, ac, ae]
              refine ag (ah rfl rfl rfl rfl) (ai rfl (ev rfl)) ?_
              simp only [Act.put, aa, ac, ae]
              refine ag (ah rfl rfl rfl rfl) (aj rfl (ev rfl) faR1) ?_
              simp only [Act.put, aa, ac, ae]
              refine ag (ah rfl rfl rfl rfl) (cu rfl (ev rfl) (ev rfl) (ix16 hlt)) ?_
              simp only [Act.put, aa, ac, ae]
              refine ag (ah rfl rfl rfl rfl) (aq rfl (ev rfl) (ldU8 HC.out)) ?_
              simp only [Act.put, aa, ac, ae]
              refine ag (v := .bool false) (ah rfl rfl rfl rfl) (ay false rfl (ev rfl) evk H29.out) ?_
              simp only [Act.put, aa, ac, ae]
              refine ag (v := .bool false) (ah rfl rfl rfl rfl) (aJ rfl (ev rfl) (ev rfl)) ?_
              simp only [Act.put, aa, ac, ae]
              refine af (v := .bool false) rfl (aB rfl (ev rfl) (ev rfl)) ?_
              simp only [Act.put, aa, ac, ae]
              refine wpList_nil ?_
              have cs := HC.out
              rw [HEQ.out] at cs
              go_wp2_with fail
              go_round
              case rel =>
                refine ⟨j + 1, by omega, by go_num, ?_, fun k hk => ?_, fun k hk hm => ?_⟩
                · rw [HS.out, if_neg (by rw [← HST.out, HEQ.out]; omega), Nat.add_zero]
                · by_cases e : k = j
                  · rw [e]; exact HLE.out
                  · exact HA1.out k (by omega)
                · by_cases e : k = j
                  · rw [e]; exact HEQ.out
                  · exact HA2.out k (by omega) hm
              case measure => simp [intOf]; omega
            · have HF := Lib.hid (HNO.out j hlt (.inr ⟨gm, g0⟩))
              have H29 : Hid ((sta x j != 0) = true) := Lib.hid (by simpa using g0)
              clear g2 gm g0
              go_upto_region 7 with fail
              refine wp_region_lit ?_
              refine af rfl (ai rfl (ev rfl)) ?_
              simp only [Act.put, aa, ac, ae]
              refine af rfl (aj rfl (ev rfl) faR1) ?_
              simp only [Act.put, aa, ac, ae]
              refine af rfl (cu rfl (ev rfl) (ev rfl) (ix16 hlt)) ?_
              simp only [Act.put, aa, ac, ae]
              refine af rfl (aq rfl (ev rfl) (ldU8 HC.out)) ?_
              simp only [Act.put, aa, ac, ae]
              refine af (v := .bool false) rfl (cG false rfl (ev rfl) evk H17.out) ?_
              simp only [Act.put, aa, ac, ae]
              refine af (v := .bool false) rfl (ai rfl (ev rfl)) ?_
              simp only [Act.put, aa, ac, ae]
              refine ag (ah rfl rfl rfl rfl) (ai rfl (ev rfl)) ?_
              simp only [Act.put, aa, ac, ae]
              refine ag (ah rfl rfl rfl rfl) (aj rfl (ev rfl) cD) ?_
              simp only [Act.put, aa, ac, ae]
              refine ag (ah rfl rfl rfl rfl) (aj rfl (ev rfl) faG0) ?_
              simp only [Act.put, aa, ac, ae]
              refine ag (ah rfl rfl rfl rfl) (aq rfl (ev rfl) (aW HM.out)) ?_
              simp only [Act.put, aa, ac, ae]
              refine ag (v := .bool true) (ah rfl rfl rfl rfl) (cl true rfl (ev rfl) (ev rfl) H23.out) ?_
              simp only [Act.put, aa, ac, ae]
              refine ag (v := .bool true) (ah rfl rfl rfl rfl) (ai rfl (ev rfl)) ?_
              simp only [Act.put, aa, ac, ae]
              refine ag (ah rfl rfl rfl rfl) (ai rfl (ev rfl)) ?_
              simp only [Act.put, aa, ac, ae]
              refine ag (ah rfl rfl rfl rfl) (aj rfl (ev rfl) faR1) ?_
              simp only [Act.put, aa, ac, ae]
              refine ag (ah rfl rfl rfl rfl) (cu rfl (ev rfl) (ev rfl) (ix16 hlt)) ?_
              simp only [Act.put, aa, ac, ae]
              refine ag (ah rfl rfl rfl rfl) (aq rfl (ev rfl) (ldU8 HC.out)) ?_
              simp only [Act.put, aa, ac, ae]
              refine ag (v := .bool true) (ah rfl rfl rfl rfl) (ay true rfl (ev rfl) evk H29.out) ?_
              simp only [Act.put, aa, ac, ae]
              refine ag (v := .bool true) (ah rfl rfl rfl rfl) (aJ rfl (ev rfl) (ev rfl)) ?_
              simp only [Act.put, aa, ac, ae]
              refine af (v := .bool true) rfl (aB rfl (ev rfl) (ev rfl)) ?_
              simp only [Act.put, aa, ac, ae]
              refine wpList_nil ?_
              go_wp2_with fail
              go_ret
              exact ⟨by rw [HF.out]; rfl, HB2.out⟩
          · have H23 : Hid (decide (x.m ≤ (j : Int)) = false) := Lib.hid (decide_eq_false gm)
            have HGM := Lib.hid gm
            clear g2 gm
            go_upto_region 7 with fail
            refine wp_region_lit ?_
            refine af rfl (ai rfl (ev rfl)) ?_
            simp only [Act.put, aa, ac, ae]
            refine af rfl (aj rfl (ev rfl) faR1) ?_
            simp only [Act.put, aa, ac, ae]
            refine af rfl (cu rfl (ev rfl) (ev rfl) (ix16 hlt)) ?_
            simp only [Act.put, aa, ac, ae]
            refine af rfl (aq rfl (ev rfl) (ldU8 HC.out)) ?_
            simp only [Act.put, aa, ac, ae]
            refine af (v := .bool false) rfl (cG false rfl (ev rfl) evk H17.out) ?_
            simp only [Act.put, aa, ac, ae]
            refine af (v := .bool false) rfl (ai rfl (ev rfl)) ?_
            simp only [Act.put, aa, ac, ae]
            refine ag (ah rfl rfl rfl rfl) (ai rfl (ev rfl)) ?_
            simp only [Act.put, aa, ac, ae]
            refine ag (ah rfl rfl rfl rfl) (aj rfl (ev rfl) cD) ?_
            simp only [Act.put, aa, ac, ae]
            refine ag (ah rfl rfl rfl rfl) (aj rfl (ev rfl) faG0) ?_
            simp only [Act.put, aa, ac, ae]
            refine ag (ah rfl rfl rfl rfl) (aq rfl (ev rfl) (aW HM.out)) ?_
            simp only [Act.put, aa, ac, ae]
            refine ag (v := .bool false) (ah rfl rfl rfl rfl) (cl false rfl (ev rfl) (ev rfl) H23.out) ?_
            simp only [Act.put, aa, ac, ae]
            refine aF 5 (v := .bool false) (ah rfl rfl rfl rfl) (ai rfl (ev rfl)) (by kernel_rfl) ?_
            simp only [aY, List.take_succ_cons, List.take_zero, List.drop_succ_cons, List.drop_zero, Act.put, List.setIfInBounds_toArray, List.set_cons_succ, List.set_cons_zero]
            refine ag (v := .bool false) (ah rfl rfl rfl rfl) (aB rfl (ev rfl) evk) ?_
            simp only [Act.put, aa, ac, ae]
            refine af (v := .bool false) rfl (aB rfl (ev rfl) (ev rfl)) ?_
            simp only [Act.put, aa, ac, ae]
            refine wpList_nil ?_
            have cs := HC.out
            have HN1 : Hid (∀ k, k < j + 1 → sta x k ≤ 2) := Lib.hid fun k hk => by
              by_cases e : k = j
              · rw [e]; exact HLE.out
              · exact HA1.out k (by omega)
            have HN2 : Hid (∀ k : Nat, k < j + 1 → x.m ≤ (k : Int) → sta x k = 0) := Lib.hid fun k hk hm => by
              by_cases e : k = j
              · rw [e] at hm; exact absurd hm HGM.out
              · exact HA2.out k (by omega) hm
            by_cases h2 : sta x j = 2
            · have hd : (sta x j == 2) = true := by rw [h2]; rfl
              have HEQ := Lib.hid h2
              clear h2
              go_wp2_with fail
              go_round
              case rel => exact ⟨j + 1, by omega, by go_num, by rw [HS.out, if_pos (by rw [← HST.out, HEQ.out])]; go_num, HN1.out, HN2.out⟩
              case measure => simp [intOf]; omega
            · have hd : (sta x j == 2) = false := by simpa using h2
              have HEQ := Lib.hid h2
              clear h2
              go_wp2_with fail
              go_round
              case rel => exact ⟨j + 1, by omega, by go_num, by rw [HS.out, if_neg (by rw [← HST.out]; exact HEQ.out), Nat.add_zero], HN1.out, HN2.out⟩
              case measure => simp [intOf]; omega
      · have e : j = 16 := by omega
        subst e
        have HF := Lib.hid (HOK2.out (HSTA.out.2 ⟨HA1.out, HA2.out⟩))
        rw [HH.out] at HF
        have hle := healK_le x.st.toList 16
        generalize healK x.st.toList 16 = n at *
        clear HA1 HA2 HNO HSTA hlt hj HST HOK2
        obtain ⟨c, hc⟩ : ∃ c, x.cur = c := ⟨_, rfl⟩
        obtain ⟨s, hs⟩ : ∃ s, x.s = s := ⟨_, rfl⟩
        rw [hc, hs] at HF
        rw [hc] at HCU
        rw [hs] at HSS
        clear hc hs
        by_cases q1 : n ≤ 1
        · have H40 : Hid (decide ((n : Int) ≤ 1) = true) := Lib.hid (decide_eq_true (by omega))
          by_cases q2 : 0 ≤ c
          · have H44 : Hid (decide ((0 : Int) ≤ c) = true) := Lib.hid (decide_eq_true q2)
            by_cases q3 : c < s
            · have H52 : Hid (decide (c < s) = true) := Lib.hid (decide_eq_true q3)
              by_cases q4 : n = 1
              · have H56 : Hid (((n : Int) == 1) = true) := Lib.hid (by rw [q4]; rfl)
                go_upto_region 11 with fail
                refine wp_region_lit ?_
                refine af rfl (ai rfl (ev rfl)) ?_
                simp only [Act.put, aa, ac, ae]
                refine af (v := .bool true) rfl (dO true rfl (ev rfl) evk H40.out) ?_
                simp only [Act.put, aa, ac, ae]
                refine af (v := .bool true) rfl (ai rfl (ev rfl)) ?_
                simp only [Act.put, aa, ac, ae]
                refine ag (ah rfl rfl rfl rfl) (aj rfl (ev rfl) faR2) ?_
                simp only [Act.put, aa, ac, ae]
                refine ag (ah rfl rfl rfl rfl) (aq rfl (ev rfl) (aW HCU.out)) ?_
                simp only [Act.put, aa, ac, ae]
                refine ag (v := .bool true) (ah rfl rfl rfl rfl) (cl true rfl (ev rfl) evk H44.out) ?_
                simp only [Act.put, aa, ac, ae]
                refine af (v := .bool true) rfl (aJ rfl (ev rfl) (ev rfl)) ?_
                simp only [Act.put, aa, ac, ae]
                refine af (v := .bool true) rfl (ai rfl (ev rfl)) ?_
                simp only [Act.put, aa, ac, ae]
                refine ag (ah rfl rfl rfl rfl) (aj rfl (ev rfl) faR2) ?_
                simp only [Act.put, aa, ac, ae]
                refine ag (ah rfl rfl rfl rfl) (aq rfl (ev rfl) (aW HCU.out)) ?_
                simp only [Act.put, aa, ac, ae]
                refine ag (ah rfl rfl rfl rfl) (aj rfl (ev rfl) cD) ?_
                simp only [Act.put, aa, ac, ae]
                refine ag (ah rfl rfl rfl rfl) (aj rfl (ev rfl) faG1) ?_
                simp only [Act.put, aa, ac, ae]
                refine ag (ah rfl rfl rfl rfl) (aq rfl (ev rfl) (aW HSS.out)) ?_
                simp only [Act.put, aa, ac, ae]
                refine ag (v := .bool true) (ah rfl rfl rfl rfl) (bH true rfl (ev rfl) (ev rfl) H52.out) ?_
                simp only [Act.put, aa, ac, ae]
                refine af (v := .bool true) rfl (aJ rfl (ev rfl) (ev rfl)) ?_
                simp only [Act.put, aa, ac, ae]
                refine af (v := .bool true) rfl (ai rfl (ev rfl)) ?_
                simp only [Act.put, aa, ac, ae]
                refine ag (ah rfl rfl rfl rfl) (ai rfl (ev rfl)) ?_
                simp only [Act.put, aa, ac, ae]
                refine ag (v := .bool true) (ah rfl rfl rfl rfl) (aw true rfl (ev rfl) evk H56.out) ?_
                simp only [Act.put, aa, ac, ae]
                refine aF 3 (v := .bool true) (ah rfl rfl rfl rfl) (ai rfl (ev rfl)) (by kernel_rfl) ?_
                simp only [aY, List.take_succ_cons, List.take_zero, List.drop_succ_cons, List.drop_zero, Act.put, List.setIfInBounds_toArray, List.set_cons_succ, List.set_cons_zero]
                refine ag (v := .bool true) (ah rfl rfl rfl rfl) (aJ rfl (ev rfl) evk) ?_
                simp only [Act.put, aa, ac, ae]
                refine af (v := .bool true) rfl (aJ rfl (ev rfl) (ev rfl)) ?_
                simp only [Act.put, aa, ac, ae]
                refine af (v := .bool true) rfl (ak rfl (ev rfl)) ?_
                simp only [Act.put, aa, ac, ae]
                refine wpList_nil ?_
                go_wp2_with fail
                go_ret
                exact ⟨aO (by rw [HF.out]; rw [decide_eq_true q1, decide_eq_true (by omega)]; rfl), HB2.out⟩
              · have H56 : Hid (((n : Int) == 1) = false) := Lib.hid (by simp; omega)
                by_cases q5 : c = 0
                · have H60 : Hid ((c == 0) = true) := Lib.hid (by simpa using q5)
                  go_upto_region 11 with fail
                  refine wp_region_lit ?_
                  refine af rfl (ai rfl (ev rfl)) ?_
                  simp only [Act.put, aa, ac, ae]
                  refine af (v := .bool true) rfl (dO true rfl (ev rfl) evk H40.out) ?_
                  simp only [Act.put, aa, ac, ae]
                  refine af (v := .bool true) rfl (ai rfl (ev rfl)) ?_
                  simp only [Act.put, aa, ac, ae]
                  refine ag (ah rfl rfl rfl rfl) (aj rfl (ev rfl) faR2) ?_
                  simp only [Act.put, aa, ac, ae]
                  refine ag (ah rfl rfl rfl rfl) (aq rfl (ev rfl) (aW HCU.out)) ?_
                  simp only [Act.put, aa, ac, ae]
                  refine ag (v := .bool true) (ah rfl rfl rfl rfl) (cl true rfl (ev rfl) evk H44.out) ?_
                  simp only [Act.put, aa, ac, ae]
                  refine af (v := .bool true) rfl (aJ rfl (ev rfl) (ev rfl)) ?_
                  simp only [Act.put, aa, ac, ae]
                  refine af (v := .bool true) rfl (ai rfl (ev rfl)) ?_
                  simp only [Act.put, aa, ac, ae]
                  refine ag (ah rfl rfl rfl rfl) (aj rfl (ev rfl) faR2) ?_
                  simp only [Act.put, aa, ac, ae]
                  refine ag (ah rfl rfl rfl rfl) (aq rfl (ev rfl) (aW HCU.out)) ?_
                  simp only [Act.put, aa, ac, ae]
                  refine ag (ah rfl rfl rfl rfl) (aj rfl (ev rfl) cD) ?_
                  simp only [Act.put, aa, ac, ae]
                  refine ag (ah rfl rfl rfl rfl) (aj rfl (ev rfl) faG1) ?_
                  simp only [Act.put, aa, ac, ae]
                  refine ag (ah rfl rfl rfl rfl) (aq rfl (ev rfl) (aW HSS.out)) ?_
                  simp only [Act.put, aa, ac, ae]
                  refine ag (v := .bool true) (ah rfl rfl rfl rfl) (bH true rfl (ev rfl) (ev rfl) H52.out) ?_
                  simp only [Act.put, aa, ac, ae]
                  refine af (v := .bool true) rfl (aJ rfl (ev rfl) (ev rfl)) ?_
                  simp only [Act.put, aa, ac, ae]
                  refine af (v := .bool true) rfl (ai rfl (ev rfl)) ?_
                  simp only [Act.put, aa, ac, ae]
                  refine ag (ah rfl rfl rfl rfl) (ai rfl (ev rfl)) ?_
                  simp only [Act.put, aa, ac, ae]
                  refine ag (v := .bool false) (ah rfl rfl rfl rfl) (aw false rfl (ev rfl) evk H56.out) ?_
                  simp only [Act.put, aa, ac, ae]
                  refine ag (v := .bool false) (ah rfl rfl rfl rfl) (ai rfl (ev rfl)) ?_
                  simp only [Act.put, aa, ac, ae]
                  refine ag (ah rfl rfl rfl rfl) (aj rfl (ev rfl) faR2) ?_
                  simp only [Act.put, aa, ac, ae]
                  refine ag (ah rfl rfl rfl rfl) (aq rfl (ev rfl) (aW HCU.out)) ?_
                  simp only [Act.put, aa, ac, ae]
                  refine ag (v := .bool true) (ah rfl rfl rfl rfl) (aw true rfl (ev rfl) evk H60.out) ?_
                  simp only [Act.put, aa, ac, ae]
                  refine ag (v := .bool true) (ah rfl rfl rfl rfl) (aB rfl (ev rfl) (ev rfl)) ?_
                  simp only [Act.put, aa, ac, ae]
                  refine af (v := .bool true) rfl (aJ rfl (ev rfl) (ev rfl)) ?_
                  simp only [Act.put, aa, ac, ae]
                  refine af (v := .bool true) rfl (ak rfl (ev rfl)) ?_
                  simp only [Act.put, aa, ac, ae]
                  refine wpList_nil ?_
                  go_wp2_with fail
                  go_ret
                  exact ⟨aO (by rw [HF.out]; rw [decide_eq_true q1, decide_eq_true (by omega)]; rfl), HB2.out⟩
                · have H60 : Hid ((c == 0) = false) := Lib.hid (by simpa using q5)
                  go_upto_region 11 with fail
                  refine wp_region_lit ?_
                  refine af rfl (ai rfl (ev rfl)) ?_
                  simp only [Act.put, aa, ac, ae]
                  refine af (v := .bool true) rfl (dO true rfl (ev rfl) evk H40.out) ?_
                  simp only [Act.put, aa, ac, ae]
                  refine af (v := .bool true) rfl (ai rfl (ev rfl)) ?_
                  simp only [Act.put, aa, ac, ae]
                  refine ag (ah rfl rfl rfl rfl) (aj rfl (ev rfl) faR2) ?_
                  simp only [Act.put, aa, ac, ae]
                  refine ag (ah rfl rfl rfl rfl) (aq rfl (ev rfl) (aW HCU.out)) ?_
                  simp only [Act.put, aa, ac, ae]
                  refine ag (v := .bool true) (ah rfl rfl rfl rfl) (cl true rfl (ev rfl) evk H44.out) ?_
                  simp only [Act.put, aa, ac, ae]
                  refine af (v := .bool true) rfl (aJ rfl (ev rfl) (ev rfl)) ?_
                  simp only [Act.put, aa, ac, ae]
                  refine af (v := .bool true) rfl (ai rfl (ev rfl)) ?_
                  simp only [Act.put, aa, ac, ae]
                  refine ag (ah rfl rfl rfl rfl) (aj rfl (ev rfl) faR2) ?_
                  simp only [Act.put, aa, ac, ae]
                  refine ag (ah rfl rfl rfl rfl) (aq rfl (ev rfl) (aW HCU.out)) ?_
                  simp only [Act.put, aa, ac, ae]
                  refine ag (ah rfl rfl rfl rfl) (aj rfl (ev rfl) cD) ?_
                  simp only [Act.put, aa, ac, ae]
                  refine ag (ah rfl rfl rfl rfl) (aj rfl (ev rfl) faG1) ?_
                  simp only [Act.put, aa, ac, ae]
                  refine ag (ah rfl rfl rfl rfl) (aq rfl (ev rfl) (aW HSS.out)) ?_
                  simp only [Act.put, aa, ac, ae]
                  refine ag (v := .bool true) (ah rfl rfl rfl rfl) (bH true rfl (ev rfl) (ev rfl) H52.out) ?_
                  simp only [Act.put, aa, ac, ae]
                  refine af (v := .bool true) rfl (aJ rfl (ev rfl) (ev rfl)) ?_
                  simp only [Act.put, aa, ac, ae]
                  refine af (v := .bool true) rfl (ai rfl (ev rfl)) ?_
                  simp only [Act.put, aa, ac, ae]
                  refine ag (ah rfl rfl rfl rfl) (ai rfl (ev rfl)) ?_
                  simp only [Act.put, aa, ac, ae]
                  refine ag (v := .bool false) (ah rfl rfl rfl rfl) (aw false rfl (ev rfl) evk H56.out) ?_
                  simp only [Act.put, aa, ac, ae]
                  refine ag (v := .bool false) (ah rfl rfl rfl rfl) (ai rfl (ev rfl)) ?_
                  simp only [Act.put, aa, ac, ae]
                  refine ag (ah rfl rfl rfl rfl) (aj rfl (ev rfl) faR2) ?_
                  simp only [Act.put, aa, ac, ae]
                  refine ag (ah rfl rfl rfl rfl) (aq rfl (ev rfl) (aW HCU.out)) ?_
                  simp only [Act.put, aa, ac, ae]
                  refine ag (v := .bool false) (ah rfl rfl rfl rfl) (aw false rfl (ev rfl) evk H60.out) ?_
                  simp only [Act.put, aa, ac, ae]
                  refine ag (v := .bool false) (ah rfl rfl rfl rfl) (aB rfl (ev rfl) (ev rfl)) ?_
                  simp only [Act.put, aa, ac, ae]
                  refine af (v := .bool false) rfl (aJ rfl (ev rfl) (ev rfl)) ?_
                  simp only [Act.put, aa, ac, ae]
                  refine af (v := .bool false) rfl (ak rfl (ev rfl)) ?_
                  simp only [Act.put, aa, ac, ae]
                  refine wpList_nil ?_
                  go_wp2_with fail
                  go_ret
                  exact ⟨aO (by rw [HF.out]; rw [decide_eq_true q1, decide_eq_false (by omega)]; rfl), HB2.out⟩
            · have H52 : Hid (decide (c < s) = false) := Lib.hid (decide_eq_false q3)
              go_upto_region 11 with fail
              refine wp_region_lit ?_
              refine af rfl (ai rfl (ev rfl)) ?_
              simp only [Act.put, aa, ac, ae]
              refine af (v := .bool true) rfl (dO true rfl (ev rfl) evk H40.out) ?_
              simp only [Act.put, aa, ac, ae]
              refine af (v := .bool true) rfl (ai rfl (ev rfl)) ?_
              simp only [Act.put, aa, ac, ae]
              refine ag (ah rfl rfl rfl rfl) (aj rfl (ev rfl) faR2) ?_
              simp only [Act.put, aa, ac, ae]
              refine ag (ah rfl rfl rfl rfl) (aq rfl (ev rfl) (aW HCU.out)) ?_
              simp only [Act.put, aa, ac, ae]
              refine ag (v := .bool true) (ah rfl rfl rfl rfl) (cl true rfl (ev rfl) evk H44.out) ?_
              simp only [Act.put, aa, ac, ae]
              refine af (v := .bool true) rfl (aJ rfl (ev rfl) (ev rfl)) ?_
              simp only [Act.put, aa, ac, ae]
              refine af (v := .bool true) rfl (ai rfl (ev rfl)) ?_
              simp only [Act.put, aa, ac, ae]
              refine ag (ah rfl rfl rfl rfl) (aj rfl (ev rfl) faR2) ?_
              simp only [Act.put, aa, ac, ae]
              refine ag (ah rfl rfl rfl rfl) (aq rfl (ev rfl) (aW HCU.out)) ?_
              simp only [Act.put, aa, ac, ae]
              refine ag (ah rfl rfl rfl rfl) (aj rfl (ev rfl) cD) ?_
              simp only [Act.put, aa, ac, ae]
              refine ag (ah rfl rfl rfl rfl) (aj rfl (ev rfl) faG1) ?_
              simp only [Act.put, aa, ac, ae]
              refine ag (ah rfl rfl rfl rfl) (aq rfl (ev rfl) (aW HSS.out)) ?_
              simp only [Act.put, aa, ac, ae]
              refine ag (v := .bool false) (ah rfl rfl rfl rfl) (bH false rfl (ev rfl) (ev rfl) H52.out) ?_
              simp only [Act.put, aa, ac, ae]
              refine af (v := .bool false) rfl (aJ rfl (ev rfl) (ev rfl)) ?_
              simp only [Act.put, aa, ac, ae]
              refine aF 7 (v := .bool false) rfl (ai rfl (ev rfl)) (by kernel_rfl) ?_
              simp only [aY, List.take_succ_cons, List.take_zero, List.drop_succ_cons, List.drop_zero, Act.put, List.setIfInBounds_toArray, List.set_cons_succ, List.set_cons_zero]
              refine af (v := .bool false) rfl (aB rfl (ev rfl) evk) ?_
              simp only [Act.put, aa, ac, ae]
              refine af (v := .bool false) rfl (ak rfl (ev rfl)) ?_
              simp only [Act.put, aa, ac, ae]
              refine wpList_nil ?_
              go_wp2_with fail
              go_ret
              exact ⟨aO (by rw [HF.out]; rw [decide_eq_true q1, decide_eq_false (by omega)]; rfl), HB2.out⟩
          · have H44 : Hid (decide ((0 : Int) ≤ c) = false) := Lib.hid (decide_eq_false q2)
            go_upto_region 11 with fail
            refine wp_region_lit ?_
            refine af rfl (ai rfl (ev rfl)) ?_
            simp only [Act.put, aa, ac, ae]
            refine af (v := .bool true) rfl (dO true rfl (ev rfl) evk H40.out) ?_
            simp only [Act.put, aa, ac, ae]
            refine af (v := .bool true) rfl (ai rfl (ev rfl)) ?_
            simp only [Act.put, aa, ac, ae]
            refine ag (ah rfl rfl rfl rfl) (aj rfl (ev rfl) faR2) ?_
            simp only [Act.put, aa, ac, ae]
            refine ag (ah rfl rfl rfl rfl) (aq rfl (ev rfl) (aW HCU.out)) ?_
            simp only [Act.put, aa, ac, ae]
            refine ag (v := .bool false) (ah rfl rfl rfl rfl) (cl false rfl (ev rfl) evk H44.out) ?_
            simp only [Act.put, aa, ac, ae]
            refine af (v := .bool false) rfl (aJ rfl (ev rfl) (ev rfl)) ?_
            simp only [Act.put, aa, ac, ae]
            refine aF 6 (v := .bool false) rfl (ai rfl (ev rfl)) (by kernel_rfl) ?_
            simp only [aY, List.take_succ_cons, List.take_zero, List.drop_succ_cons, List.drop_zero, Act.put, List.setIfInBounds_toArray, List.set_cons_succ, List.set_cons_zero]
            refine af (v := .bool false) rfl (aB rfl (ev rfl) evk) ?_
            simp only [Act.put, aa, ac, ae]
            refine aF 7 (v := .bool false) rfl (ai rfl (ev rfl)) (by kernel_rfl) ?_
            simp only [aY, List.take_succ_cons, List.take_zero, List.drop_succ_cons, List.drop_zero, Act.put, List.setIfInBounds_toArray, List.set_cons_succ, List.set_cons_zero]
            refine af (v := .bool false) rfl (aB rfl (ev rfl) evk) ?_
            simp only [Act.put, aa, ac, ae]
            refine af (v := .bool false) rfl (ak rfl (ev rfl)) ?_
            simp only [Act.put, aa, ac, ae]
            refine wpList_nil ?_
            go_wp2_with fail
            go_ret
            exact ⟨aO (by rw [HF.out]; rw [decide_eq_true q1, decide_eq_false (by omega)]; rfl), HB2.out⟩
        · have H40 : Hid (decide ((n : Int) ≤ 1) = false) := Lib.hid (decide_eq_false (by omega))
          go_upto_region 11 with fail
          refine wp_region_lit ?_
          refine af rfl (ai rfl (ev rfl)) ?_
          simp only [Act.put, aa, ac, ae]
          refine af (v := .bool false) rfl (dO false rfl (ev rfl) evk H40.out) ?_
          simp only [Act.put, aa, ac, ae]
          refine aF 3 (v := .bool false) rfl (ai rfl (ev rfl)) (by kernel_rfl) ?_
          simp only [aY, List.take_succ_cons, List.take_zero, List.drop_succ_cons, List.drop_zero, Act.put, List.setIfInBounds_toArray, List.set_cons_succ, List.set_cons_zero]
          refine af (v := .bool false) rfl (aB rfl (ev rfl) evk) ?_
          simp only [Act.put, aa, ac, ae]
          refine aF 6 (v := .bool false) rfl (ai rfl (ev rfl)) (by kernel_rfl) ?_
          simp only [aY, List.take_succ_cons, List.take_zero, List.drop_succ_cons, List.drop_zero, Act.put, List.setIfInBounds_toArray, List.set_cons_succ, List.set_cons_zero]
          refine af (v := .bool false) rfl (aB rfl (ev rfl) evk) ?_
          simp only [Act.put, aa, ac, ae]
          refine aF 7 (v := .bool false) rfl (ai rfl (ev rfl)) (by kernel_rfl) ?_
          simp only [aY, List.take_succ_cons, List.take_zero, List.drop_succ_cons, List.drop_zero, Act.put, List.setIfInBounds_toArray, List.set_cons_succ, List.set_cons_zero]
          refine af (v := .bool false) rfl (aB rfl (ev rfl) evk) ?_
          simp only [Act.put, aa, ac, ae]
          refine af (v := .bool false) rfl (ak rfl (ev rfl)) ?_
          simp only [Act.put, aa, ac, ae]
          refine wpList_nil ?_
          go_wp2_with fail
          go_ret
          exact ⟨aO (by rw [HF.out]; rw [decide_eq_false q1]; rfl), HB2.out⟩
theorem revent (n : Nat) (w : World) : Calls Tryz.prog 95 #[.int .u64 n] w fun e w' => e = .returned (.bool (evB n)) ∧ w = w' := by
  by_cases h : 1 ≤ n
  · go_enter Tryz.func95, Tryz.ntmps95
    go_wp2
    go_ret
    refine ⟨aO ?_, rfl⟩
    unfold evB
    rw [decide_eq_decide]
    omega
  · have h0 : n = 0 := by omega
    subst h0
    go_enter Tryz.func95, Tryz.ntmps95
    go_wp2
    go_ret
    exact ⟨rfl, rfl⟩
set_option maxHeartbeats 2000000 in
theorem rsmay (x : Sup) (w : World) : Calls Tryz.prog 96 #[sup x] w fun e w' => e = .returned (.bool (supB x)) ∧ Below w.heap.size w w' := by
  have HF := Lib.hid (sup_split x)
  obtain ⟨h1, h2, h3⟩ := boxS_new w x
  have HR := Lib.hid h1
  have HB := Lib.hid h2
  have HZ := Lib.hid h3
  obtain ⟨c0, c1, c2, c3, c4, c5, c6⟩ := h1.cells
  clear h1 h2 h3
  go_enter Tryz.func96, Tryz.ntmps96
  by_cases hid : x.id = 0
  · rw [decide_eq_false (by simpa using hid)] at HF
    have hd : ((x.id : Int) != 0) = false := by rw [hid]; rfl
    go_wp2_with (first | (refine af rfl (dI rfl rfl) ?_) | fail)
    go_ret
    exact ⟨aO (by rw [HF.out]; rfl), HB.out⟩
  · rw [decide_eq_true (by simpa using hid)] at HF
    have hd : ((x.id : Int) != 0) = true := by simp; omega
    go_wp2_with (first | (refine af rfl (dI rfl rfl) ?_) | (refine ag (by rfl) (aR (c := x.ros) rfl rfl ?_) ?_; (with_reducible exact HR.out.rosr)) | fail)
    generalize w.alloc (.cells (aL x).toArray 62) = w1 at *
    clear c0 c1 c2 c3 c4 c5 c6
    refine (rfine x.ros w1).mono ?_
    rintro e w2 ⟨rfl, hb⟩
    obtain ⟨c0, c1, c2, c3, c4, c5, c6⟩ := (HR.out.below HZ.out hb).cells
    have HB2 := Lib.hid (HB.out.trans (hb.mono (Nat.le_of_lt HZ.out)))
    clear hb HR HB HZ hd hid
    generalize aS x.ros = p at *
    generalize x.self = a at *
    generalize x.ros.m = m at *
    cases p
    · go_wp2_with fail
      go_ret
      exact ⟨aO (by rw [HF.out]; rfl), HB2.out⟩
    · by_cases ha : 0 ≤ a
      · go_wp2
        go_ret
        exact ⟨aO (by rw [HF.out]; simp [ha]), HB2.out⟩
      · have ha' : a < 0 := by omega
        go_wp2
        go_ret
        exact ⟨aO (by rw [HF.out]; simp; omega), HB2.out⟩
section
variable {ρ : Operand → Value} {o : Oper} {x y z : Operand} {w : World} {b off n c t u : Nat}
theorem undU : Tryz.prog.underlying 100 = some (.slice 5) := Tryz.underlying100
theorem run_headU (h : t ≤ c) : (Instr.sliceAt 100 (.slice (some ⟨b, off, none⟩) n c) none (some (.int .i64 (t : Int))) none).run Tryz.prog w = .ok (.slice (some ⟨b, off, none⟩) t c) w := by
  simp [Instr.sliceAt, Instr.slice, Instr.sliceBounds, Instr.sliceBound, asIntOf, run_underlying undU, Tryz.sizeOf5, Addr.add_mid]
  intro hh; omega
theorem run_midU (h1 : u ≤ t) (h : t ≤ c) (h2 : u < c) : (Instr.sliceAt 100 (.slice (some ⟨b, off, none⟩) n c) (some (.int .i64 (u : Int))) (some (.int .i64 (t : Int))) none).run Tryz.prog w = .ok (.slice (some ⟨b, off + u, none⟩) (t - u) (c - u)) w := by
  have e1 : (0 ≤ (t : Int) ∧ (t : Int) ≤ (c : Int)) := by omega
  have e2 : (0 ≤ (u : Int) ∧ (u : Int) ≤ (t : Int)) := by omega
  have e3 : c ≠ u := by omega
  simp [Instr.sliceAt, Instr.slice, Instr.sliceBounds, Instr.sliceBound, asIntOf, run_underlying undU, Tryz.sizeOf5, Addr.add_mid, e1, e2, e3, h, h1]
end
theorem cells_of_rd {w : World} {N n : Nat} {ad : Addr} {l : List UInt8} (h : Rd w N (some ad) n l) : ∀ (j : Nat) (u : Value), (l.map fun u => Value.int .u8 (u.toNat : Int))[j]? = some u → w.cell? (ad.add j) = some u := by
  intro j u hu
  have hj : j < l.length := by
    rcases Nat.lt_or_ge j l.length with hlt | hge
    · exact hlt
    · rw [List.getElem?_eq_none (by simpa using hge)] at hu
      cases hu
  obtain ⟨b, off, e, _, hc⟩ := h.2 j (by have := h.1; omega)
  injection e with e
  subst e
  have hadd : (⟨b, off, none⟩ : Addr).add j = ⟨b, off + j, none⟩ := by unfold Addr.add; split <;> simp_all
  rw [hadd, hc, cp hj]
  rw [List.getElem?_map, List.getElem?_eq_getElem hj] at hu
  simpa using hu
theorem run_app (w : World) (ty B N m c : Nat) (v : Value) (l l' : List UInt8) (A : Option Addr) (hm : Made w B v l) (hr : Rd w N A m l') (hB : B ≤ w.heap.size) (hsum : l.length + m ≤ 140737488355328) :
    ∃ v' w', (Builtin.append_ #[100, 100] ty #[v, .slice A m c]).run Tryz.prog w = .ok v' w' ∧ Made w' B v' (l ++ l') ∧ w.grownBy w' v.ownBlock := by
  obtain ⟨i0, hi, hz0, hz1, hz2⟩ := info_parts u8info
  rcases A with _ | ad
  · have h0 : m = 0 := by
      rcases Nat.eq_zero_or_pos m with h | h
      · exact h
      · obtain ⟨b, off, e, _⟩ := hr.2 0 h
        cases e
    subst h0
    have hn : l' = [] := List.eq_nil_of_length_eq_zero hr.1
    subst hn
    refine ⟨v, w, ?_, by rw [List.append_nil]; exact hm, World.grownBy.refl w _⟩
    rcases hm.2 with ⟨rfl, _⟩ | ⟨g, cap, cur, rfl, _, _, hnc, _⟩
    · simp [Builtin.append_, run_underlying Tryz.underlying100, sizeOf, typeInfo, hi, Builtin.lenOf, Builtin.firstCells]
    · simp [Builtin.append_, run_underlying Tryz.underlying100, sizeOf, typeInfo, hi, Builtin.lenOf, Builtin.firstCells, hnc, storeCells]
  · obtain ⟨v', w', h1, h2, h3, _⟩ := run_append_own (P := Tryz.prog) w B 100 ty 5 i0 (.int .u8 0) 1 1 Tryz.underlying100 hi hz0 hz1 hz2 rfl (by decide) v l.length _ hm ad m c (l'.map fun u => .int .u8 (u.toNat : Int))
      (by have := hr.1; simpa using this) (cells_of_rd hr) (by intro u hu; simp at hu; obtain ⟨x, _, rfl⟩ := hu; rfl) (by unfold maxLen; omega) (by omega) hB
    refine ⟨v', w', h1, ?_, h3⟩
    rw [← List.map_append] at h2
    exact Made.of_own h2
theorem dd {w : World} {ops : Array Oper} {rest : List Oper} {o : Oper} {a : Act} {Q : Exit → Act → World → Prop} (hgd : o.guard = none) (s x : Operand)
    (ho : o.op = .call { callee := .builtin .append, args := #[s, x], argTypes := #[100, 100] })
    (B N m c : Nat) (v : Value) (l l' : List UInt8) (A : Option Addr) (hs : a.eval s = v) (hx : a.eval x = .slice A m c) (hm : Made w B v l) (hr : Rd w N A m l') (hB : B ≤ w.heap.size) (hsum : l.length + m ≤ 140737488355328)
    (h : ∀ v' w', Made w' B v' (l ++ l') → w.grownBy w' v.ownBlock → wpList Tryz.prog ops Q rest (a.put o.dst v') w') : wpList Tryz.prog ops Q (o :: rest) a w := by
  refine wpList_plain hgd fun K hK => ?_
  obtain ⟨v', w', hrun, h1, h2⟩ := run_app w o.type B N m c v l l' A hm hr hB hsum
  unfold Oper.wp
  simp [execOp, ho, resolve, invoke, builtin, hs, hx, hrun, Result.andThen]
  exact hK _ _ (h v' w' h1 h2)
theorem copy_any (A : Option Addr) (n c N B : Nat) (b : List UInt8) (w : World) (HB : Hid (B = w.heap.size)) (hb : Rd w N A n b) (hN : N ≤ B) (hn : n ≤ 140737488351232) :
    Calls Tryz.prog 118 #[.slice A n c] w fun e w' => ∃ v, e = .returned v ∧ Made w' B v b ∧ Below B w w' := by
  have hBle := Nat.le_of_eq HB.out
  go_enter Tryz.func118, Tryz.ntmps118
  go_wp2_with (at_builtin; refine dd rfl _ _ rfl B N n c _ [] b A rfl rfl (World.ownsRow_nil _ _ _ _) hb hBle ?c1 ?_)
  case c1 => simp; omega
  intro v1 w1 hm1 hg1
  go_wp2
  go_ret
  exact ⟨_, rfl, hm1, (Below.refl _ _).grown hg1 hBle (by simp [Value.ownBlock])⟩
theorem Made.some {w : World} {B : Nat} {v : Value} {l : List UInt8} (h : Made w B v l) (h0 : 0 < l.length) : ∃ g c, v = .slice (some ⟨g, 0, none⟩) l.length c ∧ B ≤ g ∧ l.length ≤ c ∧ c ≤ maxLen := by
  rcases h.2 with ⟨_, h1⟩ | ⟨g, cap, cur, rfl, hB, _, h1, h2, _⟩
  · omega
  · exact ⟨g, cap, rfl, hB, h1, h2⟩
section
variable {ρ : Operand → Value} {o : Oper} {x y z : Operand} {w : World} {b off n c t u : Nat}
theorem head52 (h : 64 ≤ c) : (Instr.sliceAt 100 (.slice (some ⟨b, off, none⟩) n c) none (some (.int .i64 52)) none).run Tryz.prog w = .ok (.slice (some ⟨b, off, none⟩) 52 c) w := run_headU (t := 52) (by omega)
theorem mid852 (h : 64 ≤ c) : (Instr.sliceAt 100 (.slice (some ⟨b, 0, none⟩) n c) (some (.int .i64 8)) (some (.int .i64 52)) none).run Tryz.prog w = .ok (.slice (some ⟨b, 8, none⟩) 44 (c - 8)) w := by
  have := run_midU (b := b) (off := 0) (n := n) (w := w) (u := 8) (t := 52) (c := c) (by omega) (by omega) (by omega)
  simpa using this
theorem exec_headU (ho : o.op = .slice 100 x none (some (.const (.int .i64 52))) none) (hx : ρ x = .slice (some ⟨b, off, none⟩) n c) (hy : ρ (.const (.int .i64 52)) = .int .i64 52) (h : 64 ≤ c) : (execOp ρ o).run Tryz.prog w = .ok (.value (.slice (some ⟨b, off, none⟩) 52 c)) w := by
  unfold execOp
  simp only [ho, hx, hy, Option.map_some, Option.map_none, Sem.run_bind, head52 h, Result.andThen_ok, Sem.run_pure]
theorem exec_midU (ho : o.op = .slice 100 x (some (.const (.int .i64 8))) (some (.const (.int .i64 52))) none) (hx : ρ x = .slice (some ⟨b, 0, none⟩) n c) (hy : ρ (.const (.int .i64 52)) = .int .i64 52) (hz : ρ (.const (.int .i64 8)) = .int .i64 8) (h : 64 ≤ c) : (execOp ρ o).run Tryz.prog w = .ok (.value (.slice (some ⟨b, 8, none⟩) 44 (c - 8))) w := by
  unfold execOp
  simp only [ho, hx, hy, hz, Option.map_some, Option.map_none, Sem.run_bind, mid852 h, Result.andThen_ok, Sem.run_pure]
theorem run_wholeB : (Instr.sliceAt 58 (.pointer (some ⟨b, 0, none⟩)) none none none).run Tryz.prog w = .ok (.slice (some ⟨b, 0, none⟩) 64 64) w := by
  simp [Instr.sliceAt, Instr.sliceBounds, Instr.sureAddr, run_underlying undB, Tryz.sizeOf5, Addr.add_mid]
theorem eP (ho : o.op = .slice 58 x none none none) (hx : ρ x = .pointer (some ⟨b, 0, none⟩)) : (execOp ρ o).run Tryz.prog w = .ok (.value (.slice (some ⟨b, 0, none⟩) 64 64)) w := by
  unfold execOp
  simp only [ho, hx, Option.map_none, Sem.run_bind, run_wholeB, Result.andThen_ok, Sem.run_pure]
end
theorem Rd.piece {w : World} {N g n p k : Nat} {l : List UInt8} (h : Rd w N (some ⟨g, 0, none⟩) n l) (hk : p + k ≤ n) : Rd w N (some ⟨g, p, none⟩) k (piece l p k) :=
  ⟨bJ (by have := h.1; omega), fun j hj => by
    obtain ⟨b, off, e, hb, hc⟩ := h.2 (p + j) (by omega)
    injection e with e
    injection e with e1 e2
    subst e1 e2
    refine ⟨g, p, rfl, hb, ?_⟩
    rw [eM hj, ← hc, Nat.zero_add]⟩
set_option maxHeartbeats 4000000 in
theorem rget_zero (b : Blk) (B : Nat) (w : World) (HB : Hid (B = w.heap.size)) (h0 : cQ b.toList = 0) :
    Calls Tryz.prog 91 #[blk b] w fun e w' => ∃ v, e = .returned (.tuple #[.int .u64 (cq b.toList : Nat), v, .int .i64 (cr b.toList : Nat)]) ∧ Made w' B v (bW b.toList) ∧ Below B w w' := by
  have hA := bK.blk w b 58
  have hbA := (Below.refl w.heap.size w).alloc (Nat.le_refl _) (.cells (cel b).toArray 58)
  have hRA := hA.rd (p := 0) (k := 64) (by simp)
  rw [dW (cf b)] at hRA
  have HRA := Lib.hid hRA
  have HBA := Lib.hid hbA
  have HL := Lib.hid (cf b)
  have hE := getE_form (.inl h0)
  have HE := Lib.hid hE
  have HN := Lib.hid (getN_no (l := b.toList) (by omega))
  have HBB := Lib.hid (getB_no (l := b.toList) (by omega))
  have HX : Hid (val 8 (piece b.toList 0 8) = 0) := Lib.hid h0
  obtain ⟨y, hy⟩ : ∃ y, agO b.toList = y := ⟨_, rfl⟩
  have HY : Hid (val 8 (piece b.toList 56 8) = y) := Lib.hid hy
  clear hE h0 hy
  clear hA hbA hRA
  go_enter Tryz.func91, Tryz.ntmps91
  go_wp2_with (first | (refine ag rfl (bu rfl rfl) ?_) | (refine ag rfl (eP rfl rfl) ?_) | fail)
  refine (copy_any _ 64 64 _ _ b.toList _ (Lib.hid rfl) HRA.out (Nat.le_refl _) (by omega)).mono ?_
  rintro e w1 ⟨v1, rfl, hm1, hb1⟩
  obtain ⟨q, c, rfl, hq, hc1, hc2⟩ := hm1.some (by rw [HL.out]; omega)
  rw [HL.out] at hm1 hc1 ⊢
  have hrd := hm1.rd
  have HBL := Lib.hid (HBA.out.trans (hb1.mono (by simp only [World.size_alloc]; omega)))
  have HR := Lib.hid hrd
  have HC2 := Lib.hid hc2
  clear hb1 hrd hm1 HBA HRA hq hc2
  generalize hrr : w.heap.size = r at *
  have HSZ : Hid (r ≤ w1.heap.size) := Lib.hid (Nat.le_trans (Nat.le_of_eq hrr.symm) HBL.out.size)
  clear hrr
  go_wp2_with fail
  refine (dc _ 64 c _ b.toList 0 8 _ HR.out (by unfold maxLen; omega) (by omega) (by omega) (by omega)).mono ?_
  rintro e w2 ⟨rfl, rfl⟩
  rw [HX.out]
  go_wp2_with fail
  refine (dc _ 64 c _ b.toList 56 8 _ HR.out (by unfold maxLen; omega) (by omega) (by omega) (by omega)).mono ?_
  rintro e w2 ⟨rfl, rfl⟩
  rw [HY.out]
  go_wp2_with fail
  refine bodyPost_ret (v := .tuple #[.int .u64 0, .slice none 0 0, .int .i64 5]) (by simp [results, Tryz.results91, go_sem]) rfl ⟨_, by rw [HE.out, HN.out]; rfl, by rw [HBB.out]; exact World.ownsRow_nil _ _ _ _, by rw [HB.out]; exact HBL.out⟩
set_option maxHeartbeats 4000000 in
theorem rget_unlike (b : Blk) (B : Nat) (w : World) (HB : Hid (B = w.heap.size)) (h0 : cQ b.toList ≠ 0) (h1 : cQ b.toList ≠ agO b.toList) :
    Calls Tryz.prog 91 #[blk b] w fun e w' => ∃ v, e = .returned (.tuple #[.int .u64 (cq b.toList : Nat), v, .int .i64 (cr b.toList : Nat)]) ∧ Made w' B v (bW b.toList) ∧ Below B w w' := by
  have hA := bK.blk w b 58
  have hbA := (Below.refl w.heap.size w).alloc (Nat.le_refl _) (.cells (cel b).toArray 58)
  have hRA := hA.rd (p := 0) (k := 64) (by simp)
  rw [dW (cf b)] at hRA
  have HRA := Lib.hid hRA
  have HBA := Lib.hid hbA
  have HL := Lib.hid (cf b)
  have hE := getE_form (.inr h1)
  have HE := Lib.hid hE
  have HN := Lib.hid (getN_no (l := b.toList) (by omega))
  have HBB := Lib.hid (getB_no (l := b.toList) (by omega))
  obtain ⟨x, hx⟩ : ∃ x, cQ b.toList = x := ⟨_, rfl⟩
  have HX : Hid (val 8 (piece b.toList 0 8) = x) := Lib.hid hx
  obtain ⟨y, hy⟩ : ∃ y, agO b.toList = y := ⟨_, rfl⟩
  have HY : Hid (val 8 (piece b.toList 56 8) = y) := Lib.hid hy
  rw [hx] at h0 h1
  rw [hy] at h1
  have hz : ((x : Int) == 0) = false := by simp; omega
  have hn : ((x : Int) != (y : Int)) = true := by simp; omega
  clear hE h0 h1 hx hy
  clear hA hbA hRA
  go_enter Tryz.func91, Tryz.ntmps91
  go_wp2_with (first | (refine ag rfl (bu rfl rfl) ?_) | (refine ag rfl (eP rfl rfl) ?_) | fail)
  refine (copy_any _ 64 64 _ _ b.toList _ (Lib.hid rfl) HRA.out (Nat.le_refl _) (by omega)).mono ?_
  rintro e w1 ⟨v1, rfl, hm1, hb1⟩
  obtain ⟨q, c, rfl, hq, hc1, hc2⟩ := hm1.some (by rw [HL.out]; omega)
  rw [HL.out] at hm1 hc1 ⊢
  have hrd := hm1.rd
  have HBL := Lib.hid (HBA.out.trans (hb1.mono (by simp only [World.size_alloc]; omega)))
  have HR := Lib.hid hrd
  have HC2 := Lib.hid hc2
  clear hb1 hrd hm1 HBA HRA hq hc2
  generalize hrr : w.heap.size = r at *
  have HSZ : Hid (r ≤ w1.heap.size) := Lib.hid (Nat.le_trans (Nat.le_of_eq hrr.symm) HBL.out.size)
  clear hrr
  go_wp2_with fail
  refine (dc _ 64 c _ b.toList 0 8 _ HR.out (by unfold maxLen; omega) (by omega) (by omega) (by omega)).mono ?_
  rintro e w2 ⟨rfl, rfl⟩
  rw [HX.out]
  go_wp2_with fail
  refine (dc _ 64 c _ b.toList 56 8 _ HR.out (by unfold maxLen; omega) (by omega) (by omega) (by omega)).mono ?_
  rintro e w2 ⟨rfl, rfl⟩
  rw [HY.out]
  go_wp2_with fail
  refine bodyPost_ret (v := .tuple #[.int .u64 0, .slice none 0 0, .int .i64 5]) (by simp [results, Tryz.results91, go_sem]) rfl ⟨_, by rw [HE.out, HN.out]; rfl, by rw [HBB.out]; exact World.ownsRow_nil _ _ _ _, by rw [HB.out]; exact HBL.out⟩
set_option maxHeartbeats 4000000 in
theorem rget_sum (b : Blk) (B : Nat) (w : World) (HB : Hid (B = w.heap.size)) (h0 : cQ b.toList ≠ 0) (h1 : cQ b.toList = agO b.toList) (h2 : sumO b.toList ≠ crcO b.toList) :
    Calls Tryz.prog 91 #[blk b] w fun e w' => ∃ v, e = .returned (.tuple #[.int .u64 (cq b.toList : Nat), v, .int .i64 (cr b.toList : Nat)]) ∧ Made w' B v (bW b.toList) ∧ Below B w w' := by
  have hA := bK.blk w b 58
  have hbA := (Below.refl w.heap.size w).alloc (Nat.le_refl _) (.cells (cel b).toArray 58)
  have hRA := hA.rd (p := 0) (k := 64) (by simp)
  rw [dW (cf b)] at hRA
  have HRA := Lib.hid hRA
  have HBA := Lib.hid hbA
  have HL := Lib.hid (cf b)
  have hE := getE_sum h0 h1 h2
  have HE := Lib.hid hE
  have HN := Lib.hid (getN_no (l := b.toList) (by omega))
  have HBB := Lib.hid (getB_no (l := b.toList) (by omega))
  obtain ⟨x, hx⟩ : ∃ x, cQ b.toList = x := ⟨_, rfl⟩
  have HX : Hid (val 8 (piece b.toList 0 8) = x) := Lib.hid hx
  have HY : Hid (val 8 (piece b.toList 56 8) = x) := Lib.hid (by rw [← hx]; exact h1.symm)
  rw [hx] at h0
  obtain ⟨s, hs⟩ : ∃ s, sumO b.toList = s := ⟨_, rfl⟩
  obtain ⟨k, hk⟩ : ∃ k, crcO b.toList = k := ⟨_, rfl⟩
  have HSU : Hid (val 8 (piece b.toList 52 4) = s) := Lib.hid hs
  have HCR : Hid (more 0 (piece b.toList 0 52) = k) := Lib.hid hk
  have hsl := sumO_lt (cf b)
  have hkl := crcO_lt b.toList
  rw [hs] at hsl h2
  rw [hk] at hkl h2
  have hz : ((x : Int) == 0) = false := by simp; omega
  have hn : ((x : Int) != (x : Int)) = false := by simp
  have hc : ((k : Int) != (s : Int)) = true := by simp; omega
  clear hE h0 h1 hx h2 hs hk
  clear hA hbA hRA
  go_enter Tryz.func91, Tryz.ntmps91
  go_wp2_with (first | (refine ag rfl (bu rfl rfl) ?_) | (refine ag rfl (eP rfl rfl) ?_) | fail)
  refine (copy_any _ 64 64 _ _ b.toList _ (Lib.hid rfl) HRA.out (Nat.le_refl _) (by omega)).mono ?_
  rintro e w1 ⟨v1, rfl, hm1, hb1⟩
  obtain ⟨q, c, rfl, hq, hc1, hc2⟩ := hm1.some (by rw [HL.out]; omega)
  rw [HL.out] at hm1 hc1 ⊢
  have hrd := hm1.rd
  have HBL := Lib.hid (HBA.out.trans (hb1.mono (by simp only [World.size_alloc]; omega)))
  have HR := Lib.hid hrd
  have HC2 := Lib.hid hc2
  clear hb1 hrd hm1 HBA HRA hq hc2
  generalize hrr : w.heap.size = r at *
  have HSZ : Hid (r ≤ w1.heap.size) := Lib.hid (Nat.le_trans (Nat.le_of_eq hrr.symm) HBL.out.size)
  clear hrr
  go_wp2_with fail
  refine (dc _ 64 c _ b.toList 0 8 _ HR.out (by unfold maxLen; omega) (by omega) (by omega) (by omega)).mono ?_
  rintro e w2 ⟨rfl, rfl⟩
  rw [HX.out]
  go_wp2_with fail
  refine (dc _ 64 c _ b.toList 56 8 _ HR.out (by unfold maxLen; omega) (by omega) (by omega) (by omega)).mono ?_
  rintro e w2 ⟨rfl, rfl⟩
  rw [HY.out]
  go_wp2_with fail
  refine (dc _ 64 c _ b.toList 52 4 _ HR.out (by unfold maxLen; omega) (by omega) (by omega) (by omega)).mono ?_
  rintro e w2 ⟨rfl, rfl⟩
  rw [HSU.out]
  go_wp2_with (first | (refine ag rfl (exec_headU rfl rfl rfl hc1) ?_) | fail)
  refine (refOf_any _ 52 c _ (piece b.toList 0 52) _ (HR.out.piece (p := 0) (k := 52) (by omega)) (by unfold maxLen; omega)).mono ?_
  rintro e w2 ⟨rfl, rfl⟩
  rw [HCR.out]
  go_wp2_with fail
  refine bodyPost_ret (v := .tuple #[.int .u64 0, .slice none 0 0, .int .i64 6]) (by simp [results, Tryz.results91, go_sem]) rfl ⟨_, by rw [HE.out, HN.out]; rfl, by rw [HBB.out]; exact World.ownsRow_nil _ _ _ _, by rw [HB.out]; exact HBL.out⟩
set_option maxHeartbeats 4000000 in
theorem rget_fine (b : Blk) (B : Nat) (w : World) (HB : Hid (B = w.heap.size)) (h0 : cQ b.toList ≠ 0) (h1 : cQ b.toList = agO b.toList) (h2 : sumO b.toList = crcO b.toList) :
    Calls Tryz.prog 91 #[blk b] w fun e w' => ∃ v, e = .returned (.tuple #[.int .u64 (cq b.toList : Nat), v, .int .i64 (cr b.toList : Nat)]) ∧ Made w' B v (bW b.toList) ∧ Below B w w' := by
  have hA := bK.blk w b 58
  have hbA := (Below.refl w.heap.size w).alloc (Nat.le_refl _) (.cells (cel b).toArray 58)
  have hRA := hA.rd (p := 0) (k := 64) (by simp)
  rw [dW (cf b)] at hRA
  have HRA := Lib.hid hRA
  have HBA := Lib.hid hbA
  have HL := Lib.hid (cf b)
  have hE := getE_ok h0 h1 h2
  have HE := Lib.hid hE
  have HN := Lib.hid (getN_of hE)
  have HBB := Lib.hid (getB_of hE)
  obtain ⟨x, hx⟩ : ∃ x, cQ b.toList = x := ⟨_, rfl⟩
  have HX : Hid (val 8 (piece b.toList 0 8) = x) := Lib.hid hx
  have HY : Hid (val 8 (piece b.toList 56 8) = x) := Lib.hid (by rw [← hx]; exact h1.symm)
  rw [hx] at h0
  obtain ⟨s, hs⟩ : ∃ s, sumO b.toList = s := ⟨_, rfl⟩
  obtain ⟨k, hk⟩ : ∃ k, crcO b.toList = k := ⟨_, rfl⟩
  have HSU : Hid (val 8 (piece b.toList 52 4) = s) := Lib.hid hs
  have HCR : Hid (more 0 (piece b.toList 0 52) = k) := Lib.hid hk
  have hsl := sumO_lt (cf b)
  have hkl := crcO_lt b.toList
  rw [hs] at hsl h2
  rw [hk] at hkl h2
  have hz : ((x : Int) == 0) = false := by simp; omega
  have hn : ((x : Int) != (x : Int)) = false := by simp
  have hc : ((k : Int) != (s : Int)) = false := by simp; omega
  have HXX := Lib.hid hx
  clear hE h0 h1 hx h2 hs hk
  clear hA hbA hRA
  go_enter Tryz.func91, Tryz.ntmps91
  go_wp2_with (first | (refine ag rfl (bu rfl rfl) ?_) | (refine ag rfl (eP rfl rfl) ?_) | fail)
  refine (copy_any _ 64 64 _ _ b.toList _ (Lib.hid rfl) HRA.out (Nat.le_refl _) (by omega)).mono ?_
  rintro e w1 ⟨v1, rfl, hm1, hb1⟩
  obtain ⟨q, c, rfl, hq, hc1, hc2⟩ := hm1.some (by rw [HL.out]; omega)
  rw [HL.out] at hm1 hc1 ⊢
  have hrd := hm1.rd
  have HBL := Lib.hid (HBA.out.trans (hb1.mono (by simp only [World.size_alloc]; omega)))
  have HR := Lib.hid hrd
  have HC2 := Lib.hid hc2
  clear hb1 hrd hm1 HBA HRA hq hc2
  generalize hrr : w.heap.size = r at *
  have HSZ : Hid (r ≤ w1.heap.size) := Lib.hid (Nat.le_trans (Nat.le_of_eq hrr.symm) HBL.out.size)
  clear hrr
  go_wp2_with fail
  refine (dc _ 64 c _ b.toList 0 8 _ HR.out (by unfold maxLen; omega) (by omega) (by omega) (by omega)).mono ?_
  rintro e w2 ⟨rfl, rfl⟩
  rw [HX.out]
  go_wp2_with fail
  refine (dc _ 64 c _ b.toList 56 8 _ HR.out (by unfold maxLen; omega) (by omega) (by omega) (by omega)).mono ?_
  rintro e w2 ⟨rfl, rfl⟩
  rw [HY.out]
  go_wp2_with fail
  refine (dc _ 64 c _ b.toList 52 4 _ HR.out (by unfold maxLen; omega) (by omega) (by omega) (by omega)).mono ?_
  rintro e w2 ⟨rfl, rfl⟩
  rw [HSU.out]
  go_wp2_with (first | (refine ag rfl (exec_headU rfl rfl rfl hc1) ?_) | fail)
  refine (refOf_any _ 52 c _ (piece b.toList 0 52) _ (HR.out.piece (p := 0) (k := 52) (by omega)) (by unfold maxLen; omega)).mono ?_
  rintro e w2 ⟨rfl, rfl⟩
  rw [HCR.out]
  go_wp2_with (first | (refine ag rfl (exec_midU rfl rfl rfl rfl hc1) ?_) | fail)
  refine (copy_any _ 44 (c - 8) _ _ (piece b.toList 8 44) _ (Lib.hid rfl) (HR.out.piece (p := 8) (k := 44) (by omega)) (Nat.le_refl _) (by omega)).mono ?_
  rintro e w2 ⟨v2, rfl, hm2, hb2⟩
  have HM2 := Lib.hid hm2
  have HB2 := Lib.hid (HBL.out.trans (hb2.mono HSZ.out))
  clear hm2 hb2
  go_wp2_with fail
  refine bodyPost_ret (v := .tuple #[.int .u64 (x : Int), v2, .int .i64 0]) (by simp [results, Tryz.results91, go_sem]) rfl ⟨_, by rw [HE.out, HN.out, HXX.out]; rfl, by rw [HBB.out, HB.out]; exact HM2.out.base HSZ.out, by rw [HB.out]; exact HB2.out⟩
theorem rget_any (b : Blk) (B : Nat) (w : World) (HB : Hid (B = w.heap.size)) : Calls Tryz.prog 91 #[blk b] w fun e w' => ∃ v, e = .returned (.tuple #[.int .u64 (cq b.toList : Nat), v, .int .i64 (cr b.toList : Nat)]) ∧ Made w' B v (bW b.toList) ∧ Below B w w' := by
  by_cases h0 : cQ b.toList = 0
  · exact rget_zero b B w HB h0
  · by_cases h1 : cQ b.toList = agO b.toList
    · by_cases h2 : sumO b.toList = crcO b.toList
      · exact rget_fine b B w HB h0 h1 h2
      · exact rget_sum b B w HB h0 h1 h2
    · exact rget_unlike b B w HB h0 h1
end Go.Proofs.YtnliphgjcaippaaGreatDoor
