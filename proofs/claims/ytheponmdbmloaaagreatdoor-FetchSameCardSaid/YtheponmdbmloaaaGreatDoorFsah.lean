import Derived.Test.YtheponmdbmloaaaGreatDoorFsag
import Derived.Test.YtheponmdbmloaaaGreatDoorFsaa
import Derived.Test.YtheponmdbmloaaaGreatDoorFsae
import Derived.Laws.AppendOwn
import Derived.Laws.OwnMore
import Derived.Laws.BitsAllLaws
import Derived.Test.YtheponmdbmloaaaGreatDoorFsZ
namespace Go.Proofs.YtheponmdbmloaaaGreatDoor
open Go.RowKit
set_option linter.unusedVariables false
set_option maxRecDepth 100000
set_option linter.unusedSimpArgs false
set_option maxHeartbeats 4000000 in
theorem rfine (x : Ros) (w : World) : Calls Tryz.prog 32 #[ros x] w fun e w' => e = .returned (.bool (aI x)) ∧ Below w.heap.size w w' := by
  have HGE : Hid (geoB x = false → aI x = false) := Lib.hid fun h => by unfold aI; rw [h]; rfl
  have HOK : Hid (geoB x = true → staB x = true → aI x = (decide (cq x ≤ 1) && decide (0 ≤ x.cur ∧ x.cur < x.s ∧ (cq x = 1 ∨ x.cur = 0)))) := Lib.hid fun h h' => by unfold aI; rw [h, h', Bool.true_and, Bool.true_and]
  have HNO : Hid (∀ j, j < 16 → (2 < sta x j ∨ (x.m ≤ (j : Int) ∧ sta x j ≠ 0)) → aI x = false) := Lib.hid fun j => sta_no
  have HSTA := Lib.hid (staB_iff (x := x))
  obtain ⟨h1, h2, h3⟩ := bW w x
  have HR := Lib.hid h1
  have HB := Lib.hid h2
  have HZ := Lib.hid h3
  clear h1 h2 h3
  have HH : Hid (cq x = healK x.st.toList 16) := Lib.hid rfl
  have HST : Hid (∀ j, sta x j = bt x.st.toList j) := Lib.hid fun _ => rfl
  go_enter Tryz.func32, Tryz.ntmps32
  go_wp2_with (first | (refine af rfl (aL rfl rfl) ?_) | (refine af rfl (cT (c := x) rfl rfl ?_) ?_; (with_reducible exact HR.out.geo)) | fail)
  generalize w.alloc (.cells (aE x).toArray 32) = w1 at *
  refine (rgmay x w1).mono ?_
  rintro e w2 ⟨rfl, hb⟩
  have HR2 := Lib.hid (HR.out.below HZ.out hb)
  have HB2 := Lib.hid (HB.out.trans (hb.mono (Nat.le_of_lt HZ.out)))
  clear hb HR HB HZ
  cases hg : geoB x
  · have HF := Lib.hid (HGE.out hg)
    clear hg
    go_wp2_with fail
    go_ret
    exact ⟨by rw [HF.out]; rfl, HB2.out⟩
  · have HOK2 := Lib.hid (HOK.out hg)
    clear hg HOK HGE
    have HM := Lib.hid HR2.out.cells.1
    have HSS := Lib.hid HR2.out.cells.2.1
    have HCU := Lib.hid HR2.out.cells.2.2.2.1
    go_wp2_with fail
    go_loop [3, 4] (fun n i => ∃ j : Nat, j ≤ 16 ∧ i = .int .i64 j ∧ n = .int .i64 (healK x.st.toList j : Nat) ∧ (∀ k, k < j → sta x k ≤ 2) ∧ (∀ k : Nat, k < j → x.m ≤ (k : Int) → sta x k = 0)) (fun _ i => 16 - (intOf i).toNat)
    case atStart => exact ⟨0, Nat.zero_le _, rfl, rfl, fun k hk => absurd hk (by omega), fun k hk => absurd hk (by omega)⟩
    case round =>
      obtain ⟨j, hj, rfl, rfl, ha1, ha2⟩ := hrel
      have HA1 := Lib.hid ha1
      have HA2 := Lib.hid ha2
      clear ha1 ha2
      by_cases hlt : j < 16
      · have HC := Lib.hid (HR2.out.sta hlt)
        have HS := Lib.hid (healK_succ x.st.toList j)
        have hle := healK_le x.st.toList j
        generalize healK x.st.toList j = n at *
        by_cases g2 : 2 < sta x j
        · have HF := Lib.hid (HNO.out j hlt (.inl g2))
          have H17 : Hid (decide ((2 : Int) < sta x j) = true) := Lib.hid (decide_eq_true g2)
          clear g2
          go_upto_region 7 with fail
          refine wp_region_lit ?_
          refine af rfl (ag rfl (ev rfl)) ?_
          simp only [Act.put, aa, ac, ae]
          refine af rfl (am rfl (ev rfl) faR1) ?_
          simp only [Act.put, aa, ac, ae]
          refine af rfl (cd rfl (ev rfl) (ev rfl) (ix16 hlt)) ?_
          simp only [Act.put, aa, ac, ae]
          refine af rfl (au rfl (ev rfl) (ldU8 HC.out)) ?_
          simp only [Act.put, aa, ac, ae]
          refine af (v := .bool true) rfl (cK true rfl (ev rfl) evk H17.out) ?_
          simp only [Act.put, aa, ac, ae]
          refine aR 12 (v := .bool true) rfl (ag rfl (ev rfl)) (by kernel_rfl) ?_
          simp only [bj, List.take_succ_cons, List.take_zero, List.drop_succ_cons, List.drop_zero, Act.put, List.setIfInBounds_toArray, List.set_cons_succ, List.set_cons_zero]
          refine af (v := .bool true) rfl (aJ rfl (ev rfl) evk) ?_
          simp only [Act.put, aa, ac, ae]
          refine wpList_nil ?_
          go_wp2_with fail
          go_ret
          exact ⟨by rw [HF.out]; rfl, HB2.out⟩
        · have H17 : Hid (decide ((2 : Int) < sta x j) = false) := Lib.hid (decide_eq_false g2)
          have HLE : Hid (sta x j ≤ 2) := Lib.hid (by omega)
          by_cases gm : x.m ≤ (j : Int)
          · have H23 : Hid (decide (x.m ≤ (j : Int)) = true) := Lib.hid (decide_eq_true gm)
            by_cases g0 : sta x j = 0
            · have H29 : Hid ((sta x j != 0) = false) := Lib.hid (by rw [g0]; rfl)
              have HEQ := Lib.hid g0
              clear g2 gm g0
              go_upto_region 7 with fail
              refine wp_region_lit ?_
              refine af rfl (ag rfl (ev rfl)) ?_
              simp only [Act.put, aa, ac, ae]
              refine af rfl (am rfl (ev rfl) faR1) ?_
              simp only [Act.put, aa, ac, ae]
              refine af rfl (cd rfl (ev rfl) (ev rfl) (ix16 hlt)) ?_
              simp only [Act.put, aa, ac, ae]
              refine af rfl (au rfl (ev rfl) (ldU8 HC.out)) ?_
              simp only [Act.put, aa, ac, ae]
              refine af (v := .bool false) rfl (cK false rfl (ev rfl) evk H17.out) ?_
              simp only [Act.put, aa, ac, ae]
              refine af (v := .bool false) rfl (ag rfl (ev rfl)) ?_
              simp only [Act.put, aa, ac, ae]
              refine ah (ai rfl rfl rfl rfl) (ag rfl (ev rfl)) ?_
              simp only [Act.put, aa, ac, ae]
              refine ah (ai rfl rfl rfl rfl) (am rfl (ev rfl) faR0) ?_
              simp only [Act.put, aa, ac, ae]
              refine ah (ai rfl rfl rfl rfl) (am rfl (ev rfl) faG0) ?_
              simp only [Act.put, aa, ac, ae]
              refine ah (ai rfl rfl rfl rfl) (au rfl (ev rfl) (bF HM.out)) ?_
              simp only [Act.put, aa, ac, ae]
              refine ah (v := .bool true) (ai rfl rfl rfl rfl) (bV true rfl (ev rfl) (ev rfl) H23.out) ?_
              simp only [Act.put, aa, ac, ae]
              refine ah (v := .bool true) (ai rfl rfl rfl rfl) (ag rfl (ev rfl)) ?_
              simp only [Act.put, aa, ac, ae]
              refine ah (ai rfl rfl rfl rfl) (ag rfl (ev rfl)) ?_
              simp only [Act.put, aa, ac, ae]
              refine ah (ai rfl rfl rfl rfl) (am rfl (ev rfl) faR1) ?_
              simp only [Act.put, aa, ac, ae]
              refine ah (ai rfl rfl rfl rfl) (cd rfl (ev rfl) (ev rfl) (ix16 hlt)) ?_
              simp only [Act.put, aa, ac, ae]
              refine ah (ai rfl rfl rfl rfl) (au rfl (ev rfl) (ldU8 HC.out)) ?_
              simp only [Act.put, aa, ac, ae]
              refine ah (v := .bool false) (ai rfl rfl rfl rfl) (aB false rfl (ev rfl) evk H29.out) ?_
              simp only [Act.put, aa, ac, ae]
              refine ah (v := .bool false) (ai rfl rfl rfl rfl) (aJ rfl (ev rfl) (ev rfl)) ?_
              simp only [Act.put, aa, ac, ae]
              refine af (v := .bool false) rfl (aM rfl (ev rfl) (ev rfl)) ?_
              simp only [Act.put, aa, ac, ae]
              refine wpList_nil ?_
              have cs := HC.out
              rw [HEQ.out] at cs
              go_wp2_with fail
              go_round
              case rel =>
                refine ⟨j + 1, by omega, by go_num, ?_, fun k hk => ?_, fun k hk hm => ?_⟩
                · rw [HS.out, if_neg (by rw [← HST.out, HEQ.out]; omega), Nat.add_zero]
                · by_cases e : k = j
                  · rw [e]; exact HLE.out
                  · exact HA1.out k (by omega)
                · by_cases e : k = j
                  · rw [e]; exact HEQ.out
                  · exact HA2.out k (by omega) hm
              case measure => simp [intOf]; omega
            · have HF := Lib.hid (HNO.out j hlt (.inr ⟨gm, g0⟩))
              have H29 : Hid ((sta x j != 0) = true) := Lib.hid (by simpa using g0)
              clear g2 gm g0
              go_upto_region 7 with fail
              refine wp_region_lit ?_
              refine af rfl (ag rfl (ev rfl)) ?_
              simp only [Act.put, aa, ac, ae]
              refine af rfl (am rfl (ev rfl) faR1) ?_
              simp only [Act.put, aa, ac, ae]
              refine af rfl (cd rfl (ev rfl) (ev rfl) (ix16 hlt)) ?_
              simp only [Act.put, aa, ac, ae]
              refine af rfl (au rfl (ev rfl) (ldU8 HC.out)) ?_
              simp only [Act.put, aa, ac, ae]
              refine af (v := .bool false) rfl (cK false rfl (ev rfl) evk H17.out) ?_
              simp only [Act.put, aa, ac, ae]
              refine af (v := .bool false) rfl (ag rfl (ev rfl)) ?_
              simp only [Act.put, aa, ac, ae]
              refine ah (ai rfl rfl rfl rfl) (ag rfl (ev rfl)) ?_
              simp only [Act.put, aa, ac, ae]
              refine ah (ai rfl rfl rfl rfl) (am rfl (ev rfl) faR0) ?_
              simp only [Act.put, aa, ac, ae]
              refine ah (ai rfl rfl rfl rfl) (am rfl (ev rfl) faG0) ?_
              simp only [Act.put, aa, ac, ae]
              refine ah (ai rfl rfl rfl rfl) (au rfl (ev rfl) (bF HM.out)) ?_
              simp only [Act.put, aa, ac, ae]
              refine ah (v := .bool true) (ai rfl rfl rfl rfl) (bV true rfl (ev rfl) (ev rfl) H23.out) ?_
              simp only [Act.put, aa, ac, ae]
              refine ah (v := .bool true) (ai rfl rfl rfl rfl) (ag rfl (ev rfl)) ?_
              simp only [Act.put, aa, ac, ae]
              refine ah (ai rfl rfl rfl rfl) (ag rfl (ev rfl)) ?_
              simp only [Act.put, aa, ac, ae]
              refine ah (ai rfl rfl rfl rfl) (am rfl (ev rfl) faR1) ?_
              simp only [Act.put, aa, ac, ae]
              refine ah (ai rfl rfl rfl rfl) (cd rfl (ev rfl) (ev rfl) (ix16 hlt)) ?_
              simp only [Act.put, aa, ac, ae]
              refine ah (ai rfl rfl rfl rfl) (au rfl (ev rfl) (ldU8 HC.out)) ?_
              simp only [Act.put, aa, ac, ae]
              refine ah (v := .bool true) (ai rfl rfl rfl rfl) (aB true rfl (ev rfl) evk H29.out) ?_
              simp only [Act.put, aa, ac, ae]
              refine ah (v := .bool true) (ai rfl rfl rfl rfl) (aJ rfl (ev rfl) (ev rfl)) ?_
              simp only [Act.put, aa, ac, ae]
              refine af (v := .bool true) rfl (aM rfl (ev rfl) (ev rfl)) ?_
              simp only [Act.put, aa, ac, ae]
              refine wpList_nil ?_
              go_wp2_with fail
              go_ret
              exact ⟨by rw [HF.out]; rfl, HB2.out⟩
          · have H23 : Hid (decide (x.m ≤ (j : Int)) = false) := Lib.hid (decide_eq_false gm)
            have HGM := Lib.hid gm
            clear g2 gm
            go_upto_region 7 with fail
            refine wp_region_lit ?_
            refine af rfl (ag rfl (ev rfl)) ?_
            simp only [Act.put, aa, ac, ae]
            refine af rfl (am rfl (ev rfl) faR1) ?_
            simp only [Act.put, aa, ac, ae]
            refine af rfl (cd rfl (ev rfl) (ev rfl) (ix16 hlt)) ?_
            simp only [Act.put, aa, ac, ae]
            refine af rfl (au rfl (ev rfl) (ldU8 HC.out)) ?_
            simp only [Act.put, aa, ac, ae]
            refine af (v := .bool false) rfl (cK false rfl (ev rfl) evk H17.out) ?_
            simp only [Act.put, aa, ac, ae]
            refine af (v := .bool false) rfl (ag rfl (ev rfl)) ?_
            simp only [Act.put, aa, ac, ae]
            refine ah (ai rfl rfl rfl rfl) (ag rfl (ev rfl)) ?_
            simp only [Act.put, aa, ac, ae]
            refine ah (ai rfl rfl rfl rfl) (am rfl (ev rfl) faR0) ?_
            simp only [Act.put, aa, ac, ae]
            refine ah (ai rfl rfl rfl rfl) (am rfl (ev rfl) faG0) ?_
            simp only [Act.put, aa, ac, ae]
            refine ah (ai rfl rfl rfl rfl) (au rfl (ev rfl) (bF HM.out)) ?_
            simp only [Act.put, aa, ac, ae]
            refine ah (v := .bool false) (ai rfl rfl rfl rfl) (bV false rfl (ev rfl) (ev rfl) H23.out) ?_
            simp only [Act.put, aa, ac, ae]
            refine aR 5 (v := .bool false) (ai rfl rfl rfl rfl) (ag rfl (ev rfl)) (by kernel_rfl) ?_
            simp only [bj, List.take_succ_cons, List.take_zero, List.drop_succ_cons, List.drop_zero, Act.put, List.setIfInBounds_toArray, List.set_cons_succ, List.set_cons_zero]
            refine ah (v := .bool false) (ai rfl rfl rfl rfl) (aM rfl (ev rfl) evk) ?_
            simp only [Act.put, aa, ac, ae]
            refine af (v := .bool false) rfl (aM rfl (ev rfl) (ev rfl)) ?_
            simp only [Act.put, aa, ac, ae]
            refine wpList_nil ?_
            have cs := HC.out
            have HN1 : Hid (∀ k, k < j + 1 → sta x k ≤ 2) := Lib.hid fun k hk => by
              by_cases e : k = j
              · rw [e]; exact HLE.out
              · exact HA1.out k (by omega)
            have HN2 : Hid (∀ k : Nat, k < j + 1 → x.m ≤ (k : Int) → sta x k = 0) := Lib.hid fun k hk hm => by
              by_cases e : k = j
              · rw [e] at hm; exact absurd hm HGM.out
              · exact HA2.out k (by omega) hm
            by_cases h2 : sta x j = 2
            · have hd : (sta x j == 2) = true := by rw [h2]; rfl
              have HEQ := Lib.hid h2
              clear h2
              go_wp2_with fail
              go_round
              case rel => exact ⟨j + 1, by omega, by go_num, by rw [HS.out, if_pos (by rw [← HST.out, HEQ.out])]; go_num, HN1.out, HN2.out⟩
              case measure => simp [intOf]; omega
            · have hd : (sta x j == 2) = false := by simpa using h2
              have HEQ := Lib.hid h2
              clear h2
              go_wp2_with fail
              go_round
              case rel => exact ⟨j + 1, by omega, by go_num, by rw [HS.out, if_neg (by rw [← HST.out]; exact HEQ.out), Nat.add_zero], HN1.out, HN2.out⟩
              case measure => simp [intOf]; omega
      · have e : j = 16 := by omega
        subst e
        have HF := Lib.hid (HOK2.out (HSTA.out.2 ⟨HA1.out, HA2.out⟩))
        rw [HH.out] at HF
        have hle := healK_le x.st.toList 16
        generalize healK x.st.toList 16 = n at *
        clear HA1 HA2 HNO HSTA hlt hj HST HOK2
        obtain ⟨c, hc⟩ : ∃ c, x.cur = c := ⟨_, rfl⟩
        obtain ⟨s, hs⟩ : ∃ s, x.s = s := ⟨_, rfl⟩
        rw [hc, hs] at HF
        rw [hc] at HCU
        rw [hs] at HSS
        clear hc hs
        by_cases q1 : n ≤ 1
        · have H40 : Hid (decide ((n : Int) ≤ 1) = true) := Lib.hid (decide_eq_true (by omega))
          by_cases q2 : 0 ≤ c
          · have H44 : Hid (decide ((0 : Int) ≤ c) = true) := Lib.hid (decide_eq_true q2)
            by_cases q3 : c < s
            · have H52 : Hid (decide (c < s) = true) := Lib.hid (decide_eq_true q3)
              by_cases q4 : n = 1
              · have H56 : Hid (((n : Int) == 1) = true) := Lib.hid (by rw [q4]; rfl)
                go_upto_region 11 with fail
                refine wp_region_lit ?_
                refine af rfl (ag rfl (ev rfl)) ?_
                simp only [Act.put, aa, ac, ae]
                refine af (v := .bool true) rfl (dA true rfl (ev rfl) evk H40.out) ?_
                simp only [Act.put, aa, ac, ae]
                refine af (v := .bool true) rfl (ag rfl (ev rfl)) ?_
                simp only [Act.put, aa, ac, ae]
                refine ah (ai rfl rfl rfl rfl) (am rfl (ev rfl) faR2) ?_
                simp only [Act.put, aa, ac, ae]
                refine ah (ai rfl rfl rfl rfl) (au rfl (ev rfl) (bF HCU.out)) ?_
                simp only [Act.put, aa, ac, ae]
                refine ah (v := .bool true) (ai rfl rfl rfl rfl) (bV true rfl (ev rfl) evk H44.out) ?_
                simp only [Act.put, aa, ac, ae]
                refine af (v := .bool true) rfl (aJ rfl (ev rfl) (ev rfl)) ?_
                simp only [Act.put, aa, ac, ae]
                refine af (v := .bool true) rfl (ag rfl (ev rfl)) ?_
                simp only [Act.put, aa, ac, ae]
                refine ah (ai rfl rfl rfl rfl) (am rfl (ev rfl) faR2) ?_
                simp only [Act.put, aa, ac, ae]
                refine ah (ai rfl rfl rfl rfl) (au rfl (ev rfl) (bF HCU.out)) ?_
                simp only [Act.put, aa, ac, ae]
                refine ah (ai rfl rfl rfl rfl) (am rfl (ev rfl) faR0) ?_
                simp only [Act.put, aa, ac, ae]
                refine ah (ai rfl rfl rfl rfl) (am rfl (ev rfl) faG1) ?_
                simp only [Act.put, aa, ac, ae]
                refine ah (ai rfl rfl rfl rfl) (au rfl (ev rfl) (bF HSS.out)) ?_
                simp only [Act.put, aa, ac, ae]
                refine ah (v := .bool true) (ai rfl rfl rfl rfl) (bi true rfl (ev rfl) (ev rfl) H52.out) ?_
                simp only [Act.put, aa, ac, ae]
                refine af (v := .bool true) rfl (aJ rfl (ev rfl) (ev rfl)) ?_
                simp only [Act.put, aa, ac, ae]
                refine af (v := .bool true) rfl (ag rfl (ev rfl)) ?_
                simp only [Act.put, aa, ac, ae]
                refine ah (ai rfl rfl rfl rfl) (ag rfl (ev rfl)) ?_
                simp only [Act.put, aa, ac, ae]
                refine ah (v := .bool true) (ai rfl rfl rfl rfl) (ar true rfl (ev rfl) evk H56.out) ?_
                simp only [Act.put, aa, ac, ae]
                refine aR 3 (v := .bool true) (ai rfl rfl rfl rfl) (ag rfl (ev rfl)) (by kernel_rfl) ?_
                simp only [bj, List.take_succ_cons, List.take_zero, List.drop_succ_cons, List.drop_zero, Act.put, List.setIfInBounds_toArray, List.set_cons_succ, List.set_cons_zero]
                refine ah (v := .bool true) (ai rfl rfl rfl rfl) (aJ rfl (ev rfl) evk) ?_
                simp only [Act.put, aa, ac, ae]
                refine af (v := .bool true) rfl (aJ rfl (ev rfl) (ev rfl)) ?_
                simp only [Act.put, aa, ac, ae]
                refine af (v := .bool true) rfl (aj rfl (ev rfl)) ?_
                simp only [Act.put, aa, ac, ae]
                refine wpList_nil ?_
                go_wp2_with fail
                go_ret
                exact ⟨aO (by rw [HF.out]; rw [decide_eq_true q1, decide_eq_true (by omega)]; rfl), HB2.out⟩
              · have H56 : Hid (((n : Int) == 1) = false) := Lib.hid (by simp; omega)
                by_cases q5 : c = 0
                · have H60 : Hid ((c == 0) = true) := Lib.hid (by simpa using q5)
                  go_upto_region 11 with fail
                  refine wp_region_lit ?_
                  refine af rfl (ag rfl (ev rfl)) ?_
                  simp only [Act.put, aa, ac, ae]
                  refine af (v := .bool true) rfl (dA true rfl (ev rfl) evk H40.out) ?_
                  simp only [Act.put, aa, ac, ae]
                  refine af (v := .bool true) rfl (ag rfl (ev rfl)) ?_
                  simp only [Act.put, aa, ac, ae]
                  refine ah (ai rfl rfl rfl rfl) (am rfl (ev rfl) faR2) ?_
                  simp only [Act.put, aa, ac, ae]
                  refine ah (ai rfl rfl rfl rfl) (au rfl (ev rfl) (bF HCU.out)) ?_
                  simp only [Act.put, aa, ac, ae]
                  refine ah (v := .bool true) (ai rfl rfl rfl rfl) (bV true rfl (ev rfl) evk H44.out) ?_
                  simp only [Act.put, aa, ac, ae]
                  refine af (v := .bool true) rfl (aJ rfl (ev rfl) (ev rfl)) ?_
                  simp only [Act.put, aa, ac, ae]
                  refine af (v := .bool true) rfl (ag rfl (ev rfl)) ?_
                  simp only [Act.put, aa, ac, ae]
                  refine ah (ai rfl rfl rfl rfl) (am rfl (ev rfl) faR2) ?_
                  simp only [Act.put, aa, ac, ae]
                  refine ah (ai rfl rfl rfl rfl) (au rfl (ev rfl) (bF HCU.out)) ?_
                  simp only [Act.put, aa, ac, ae]
                  refine ah (ai rfl rfl rfl rfl) (am rfl (ev rfl) faR0) ?_
                  simp only [Act.put, aa, ac, ae]
                  refine ah (ai rfl rfl rfl rfl) (am rfl (ev rfl) faG1) ?_
                  simp only [Act.put, aa, ac, ae]
                  refine ah (ai rfl rfl rfl rfl) (au rfl (ev rfl) (bF HSS.out)) ?_
                  simp only [Act.put, aa, ac, ae]
                  refine ah (v := .bool true) (ai rfl rfl rfl rfl) (bi true rfl (ev rfl) (ev rfl) H52.out) ?_
                  simp only [Act.put, aa, ac, ae]
                  refine af (v := .bool true) rfl (aJ rfl (ev rfl) (ev rfl)) ?_
                  simp only [Act.put, aa, ac, ae]
                  refine af (v := .bool true) rfl (ag rfl (ev rfl)) ?_
                  simp only [Act.put, aa, ac, ae]
                  refine ah (ai rfl rfl rfl rfl) (ag rfl (ev rfl)) ?_
                  simp only [Act.put, aa, ac, ae]
                  refine ah (v := .bool false) (ai rfl rfl rfl rfl) (ar false rfl (ev rfl) evk H56.out) ?_
                  simp only [Act.put, aa, ac, ae]
                  refine ah (v := .bool false) (ai rfl rfl rfl rfl) (ag rfl (ev rfl)) ?_
                  simp only [Act.put, aa, ac, ae]
                  refine ah (ai rfl rfl rfl rfl) (am rfl (ev rfl) faR2) ?_
                  simp only [Act.put, aa, ac, ae]
                  refine ah (ai rfl rfl rfl rfl) (au rfl (ev rfl) (bF HCU.out)) ?_
                  simp only [Act.put, aa, ac, ae]
                  refine ah (v := .bool true) (ai rfl rfl rfl rfl) (ar true rfl (ev rfl) evk H60.out) ?_
                  simp only [Act.put, aa, ac, ae]
                  refine ah (v := .bool true) (ai rfl rfl rfl rfl) (aM rfl (ev rfl) (ev rfl)) ?_
                  simp only [Act.put, aa, ac, ae]
                  refine af (v := .bool true) rfl (aJ rfl (ev rfl) (ev rfl)) ?_
                  simp only [Act.put, aa, ac, ae]
                  refine af (v := .bool true) rfl (aj rfl (ev rfl)) ?_
                  simp only [Act.put, aa, ac, ae]
                  refine wpList_nil ?_
                  go_wp2_with fail
                  go_ret
                  exact ⟨aO (by rw [HF.out]; rw [decide_eq_true q1, decide_eq_true (by omega)]; rfl), HB2.out⟩
                · have H60 : Hid ((c == 0) = false) := Lib.hid (by simpa using q5)
                  go_upto_region 11 with fail
                  refine wp_region_lit ?_
                  refine af rfl (ag rfl (ev rfl)) ?_
                  simp only [Act.put, aa, ac, ae]
                  refine af (v := .bool true) rfl (dA true rfl (ev rfl) evk H40.out) ?_
                  simp only [Act.put, aa, ac, ae]
                  refine af (v := .bool true) rfl (ag rfl (ev rfl)) ?_
                  simp only [Act.put, aa, ac, ae]
                  refine ah (ai rfl rfl rfl rfl) (am rfl (ev rfl) faR2) ?_
                  simp only [Act.put, aa, ac, ae]
                  refine ah (ai rfl rfl rfl rfl) (au rfl (ev rfl) (bF HCU.out)) ?_
                  simp only [Act.put, aa, ac, ae]
                  refine ah (v := .bool true) (ai rfl rfl rfl rfl) (bV true rfl (ev rfl) evk H44.out) ?_
                  simp only [Act.put, aa, ac, ae]
                  refine af (v := .bool true) rfl (aJ rfl (ev rfl) (ev rfl)) ?_
                  simp only [Act.put, aa, ac, ae]
                  refine af (v := .bool true) rfl (ag rfl (ev rfl)) ?_
                  simp only [Act.put, aa, ac, ae]
                  refine ah (ai rfl rfl rfl rfl) (am rfl (ev rfl) faR2) ?_
                  simp only [Act.put, aa, ac, ae]
                  refine ah (ai rfl rfl rfl rfl) (au rfl (ev rfl) (bF HCU.out)) ?_
                  simp only [Act.put, aa, ac, ae]
                  refine ah (ai rfl rfl rfl rfl) (am rfl (ev rfl) faR0) ?_
                  simp only [Act.put, aa, ac, ae]
                  refine ah (ai rfl rfl rfl rfl) (am rfl (ev rfl) faG1) ?_
                  simp only [Act.put, aa, ac, ae]
                  refine ah (ai rfl rfl rfl rfl) (au rfl (ev rfl) (bF HSS.out)) ?_
                  simp only [Act.put, aa, ac, ae]
                  refine ah (v := .bool true) (ai rfl rfl rfl rfl) (bi true rfl (ev rfl) (ev rfl) H52.out) ?_
                  simp only [Act.put, aa, ac, ae]
                  refine af (v := .bool true) rfl (aJ rfl (ev rfl) (ev rfl)) ?_
                  simp only [Act.put, aa, ac, ae]
                  refine af (v := .bool true) rfl (ag rfl (ev rfl)) ?_
                  simp only [Act.put, aa, ac, ae]
                  refine ah (ai rfl rfl rfl rfl) (ag rfl (ev rfl)) ?_
                  simp only [Act.put, aa, ac, ae]
                  refine ah (v := .bool false) (ai rfl rfl rfl rfl) (ar false rfl (ev rfl) evk H56.out) ?_
                  simp only [Act.put, aa, ac, ae]
                  refine ah (v := .bool false) (ai rfl rfl rfl rfl) (ag rfl (ev rfl)) ?_
                  simp only [Act.put, aa, ac, ae]
                  refine ah (ai rfl rfl rfl rfl) (am rfl (ev rfl) faR2) ?_
                  simp only [Act.put, aa, ac, ae]
                  refine ah (ai rfl rfl rfl rfl) (au rfl (ev rfl) (bF HCU.out)) ?_
                  simp only [Act.put, aa, ac, ae]
                  refine ah (v := .bool false) (ai rfl rfl rfl rfl) (ar false rfl (ev rfl) evk H60.out) ?_
                  simp only [Act.put, aa, ac, ae]
                  refine ah (v := .bool false) (ai rfl rfl rfl rfl) (aM rfl (ev rfl) (ev rfl)) ?_
                  simp only [Act.put, aa, ac, ae]
                  refine af (v := .bool false) rfl (aJ rfl (ev rfl) (ev rfl)) ?_
                  simp only [Act.put, aa, ac, ae]
                  refine af (v := .bool false) rfl (aj rfl (ev rfl)) ?_
                  simp only [Act.put, aa, ac, ae]
                  refine wpList_nil ?_
                  go_wp2_with fail
                  go_ret
                  exact ⟨aO (by rw [HF.out]; rw [decide_eq_true q1, decide_eq_false (by omega)]; rfl), HB2.out⟩
            · have H52 : Hid (decide (c < s) = false) := Lib.hid (decide_eq_false q3)
              go_upto_region 11 with fail
              refine wp_region_lit ?_
              refine af rfl (ag rfl (ev rfl)) ?_
              simp only [Act.put, aa, ac, ae]
              refine af (v := .bool true) rfl (dA true rfl (ev rfl) evk H40.out) ?_
              simp only [Act.put, aa, ac, ae]
              refine af (v := .bool true) rfl (ag rfl (ev rfl)) ?_
              simp only [Act.put, aa, ac, ae]
              refine ah (ai rfl rfl rfl rfl) (am rfl (ev rfl) faR2) ?_
              simp only [Act.put, aa, ac, ae]
              refine ah (ai rfl rfl rfl rfl) (au rfl (ev rfl) (bF HCU.out)) ?_
              simp only [Act.put, aa, ac, ae]
              refine ah (v := .bool true) (ai rfl rfl rfl rfl) (bV true rfl (ev rfl) evk H44.out) ?_
              simp only [Act.put, aa, ac, ae]
              refine af (v := .bool true) rfl (aJ rfl (ev rfl) (ev rfl)) ?_
              simp only [Act.put, aa, ac, ae]
              refine af (v := .bool true) rfl (ag rfl (ev rfl)) ?_
              simp only [Act.put, aa, ac, ae]
              refine ah (ai rfl rfl rfl rfl) (am rfl (ev rfl) faR2) ?_
              simp only [Act.put, aa, ac, ae]
              refine ah (ai rfl rfl rfl rfl) (au rfl (ev rfl) (bF HCU.out)) ?_
              simp only [Act.put, aa, ac, ae]
              refine ah (ai rfl rfl rfl rfl) (am rfl (ev rfl) faR0) ?_
              simp only [Act.put, aa, ac, ae]
              refine ah (ai rfl rfl rfl rfl) (am rfl (ev rfl) faG1) ?_
              simp only [Act.put, aa, ac, ae]
              refine ah (ai rfl rfl rfl rfl) (au rfl (ev rfl) (bF HSS.out)) ?_
              simp only [Act.put, aa, ac, ae]
              refine ah (v := .bool false) (ai rfl rfl rfl rfl) (bi false rfl (ev rfl) (ev rfl) H52.out) ?_
              simp only [Act.put, aa, ac, ae]
              refine af (v := .bool false) rfl (aJ rfl (ev rfl) (ev rfl)) ?_
              simp only [Act.put, aa, ac, ae]
              refine aR 7 (v := .bool false) rfl (ag rfl (ev rfl)) (by kernel_rfl) ?_
              simp only [bj, List.take_succ_cons, List.take_zero, List.drop_succ_cons, List.drop_zero, Act.put, List.setIfInBounds_toArray, List.set_cons_succ, List.set_cons_zero]
              refine af (v := .bool false) rfl (aM rfl (ev rfl) evk) ?_
              simp only [Act.put, aa, ac, ae]
              refine af (v := .bool false) rfl (aj rfl (ev rfl)) ?_
              simp only [Act.put, aa, ac, ae]
              refine wpList_nil ?_
              go_wp2_with fail
              go_ret
              exact ⟨aO (by rw [HF.out]; rw [decide_eq_true q1, decide_eq_false (by omega)]; rfl), HB2.out⟩
          · have H44 : Hid (decide ((0 : Int) ≤ c) = false) := Lib.hid (decide_eq_false q2)
            go_upto_region 11 with fail
            refine wp_region_lit ?_
            refine af rfl (ag rfl (ev rfl)) ?_
            simp only [Act.put, aa, ac, ae]
            refine af (v := .bool true) rfl (dA true rfl (ev rfl) evk H40.out) ?_
            simp only [Act.put, aa, ac, ae]
            refine af (v := .bool true) rfl (ag rfl (ev rfl)) ?_
            simp only [Act.put, aa, ac, ae]
            refine ah (ai rfl rfl rfl rfl) (am rfl (ev rfl) faR2) ?_
            simp only [Act.put, aa, ac, ae]
            refine ah (ai rfl rfl rfl rfl) (au rfl (ev rfl) (bF HCU.out)) ?_
            simp only [Act.put, aa, ac, ae]
            refine ah (v := .bool false) (ai rfl rfl rfl rfl) (bV false rfl (ev rfl) evk H44.out) ?_
            simp only [Act.put, aa, ac, ae]
            refine af (v := .bool false) rfl (aJ rfl (ev rfl) (ev rfl)) ?_
            simp only [Act.put, aa, ac, ae]
            refine aR 6 (v := .bool false) rfl (ag rfl (ev rfl)) (by kernel_rfl) ?_
            simp only [bj, List.take_succ_cons, List.take_zero, List.drop_succ_cons, List.drop_zero, Act.put, List.setIfInBounds_toArray, List.set_cons_succ, List.set_cons_zero]
            refine af (v := .bool false) rfl (aM rfl (ev rfl) evk) ?_
            simp only [Act.put, aa, ac, ae]
            refine aR 7 (v := .bool false) rfl (ag rfl (ev rfl)) (by kernel_rfl) ?_
            simp only [bj, List.take_succ_cons, List.take_zero, List.drop_succ_cons, List.drop_zero, Act.put, List.setIfInBounds_toArray, List.set_cons_succ, List.set_cons_zero]
            refine af (v := .bool false) rfl (aM rfl (ev rfl) evk) ?_
            simp only [Act.put, aa, ac, ae]
            refine af (v := .bool false) rfl (aj rfl (ev rfl)) ?_
            simp only [Act.put, aa, ac, ae]
            refine wpList_nil ?_
            go_wp2_with fail
            go_ret
            exact ⟨aO (by rw [HF.out]; rw [decide_eq_true q1, decide_eq_false (by omega)]; rfl), HB2.out⟩
        · have H40 : Hid (decide ((n : Int) ≤ 1) = false) := Lib.hid (decide_eq_false (by omega))
          go_upto_region 11 with fail
          refine wp_region_lit ?_
          refine af rfl (ag rfl (ev rfl)) ?_
          simp only [Act.put, aa, ac, ae]
          refine af (v := .bool false) rfl (dA false rfl (ev rfl) evk H40.out) ?_
          simp only [Act.put, aa, ac, ae]
          refine aR 3 (v := .bool false) rfl (ag rfl (ev rfl)) (by kernel_rfl) ?_
          simp only [bj, List.take_succ_cons, List.take_zero, List.drop_succ_cons, List.drop_zero, Act.put, List.setIfInBounds_toArray, List.set_cons_succ, List.set_cons_zero]
          refine af (v := .bool false) rfl (aM rfl (ev rfl) evk) ?_
          simp only [Act.put, aa, ac, ae]
          refine aR 6 (v := .bool false) rfl (ag rfl (ev rfl)) (by kernel_rfl) ?_
          simp only [bj, List.take_succ_cons, List.take_zero, List.drop_succ_cons, List.drop_zero, Act.put, List.setIfInBounds_toArray, List.set_cons_succ, List.set_cons_zero]
          refine af (v := .bool false) rfl (aM rfl (ev rfl) evk) ?_
          simp only [Act.put, aa, ac, ae]
          refine aR 7 (v := .bool false) rfl (ag rfl (ev rfl)) (by kernel_rfl) ?_
          simp only [bj, List.take_succ_cons, List.take_zero, List.drop_succ_cons, List.drop_zero, Act.put, List.setIfInBounds_toArray, List.set_cons_succ, List.set_cons_zero]
          refine af (v := .bool false) rfl (aM rfl (ev rfl) evk) ?_
          simp only [Act.put, aa, ac, ae]
          refine af (v := .bool false) rfl (aj rfl (ev rfl)) ?_
          simp only [Act.put, aa, ac, ae]
          refine wpList_nil ?_
          go_wp2_with fail
          go_ret
          exact ⟨aO (by rw [HF.out]; rw [decide_eq_false q1]; rfl), HB2.out⟩
theorem mayWidth_yes (s : Int) (w : World) (h1 : 1 ≤ s) (h2 : s ≤ 8) : Calls Tryz.prog 110 #[.int .i64 s] w fun e w' => e = .returned (.bool true) ∧ w = w' := by
  go_enter Tryz.func110, Tryz.ntmps110
  go_wp2
  go_ret
  exact ⟨rfl, rfl⟩
theorem widths {d : Nat} (h1 : 1 ≤ d) (h2 : d ≤ 8) : d = 1 ∨ d = 2 ∨ d = 3 ∨ d = 4 ∨ d = 5 ∨ d = 6 ∨ d = 7 ∨ d = 8 := by omega
def bytesOf (m d : Nat) : Nat := (m * d + 7) / 8
set_option maxHeartbeats 1000000 in
theorem taken_any (m d : Nat) (w : World) (h1 : 1 ≤ d) (h2 : d ≤ 8) (hm : m ≤ 4611686018427387904) : Calls Tryz.prog 111 #[.int .i64 m, .int .i64 d] w fun e w' => e = .returned (.int .i64 (bytesOf m d)) ∧ w = w' := by
  rcases widths h1 h2 with rfl | rfl | rfl | rfl | rfl | rfl | rfl | rfl
  all_goals
    clear h1 h2
    go_enter Tryz.func111, Tryz.ntmps111
    go_wp2
    go_ret
    exact ⟨cl (by unfold bytesOf; omega), rfl⟩
set_option maxHeartbeats 1000000 in
theorem place_any (m d : Nat) (w : World) (h1 : 1 ≤ d) (h2 : d ≤ 8) (hm : m ≤ 4611686018427387904) : Calls Tryz.prog 112 #[.int .i64 m, .int .i64 d] w fun e w' => e = .returned (.tuple #[.int .i64 (m * d / 8 : Nat), .int .i64 (m * d % 8 : Nat)]) ∧ w = w' := by
  rcases widths h1 h2 with rfl | rfl | rfl | rfl | rfl | rfl | rfl | rfl
  all_goals
    clear h1 h2
    go_enter Tryz.func112, Tryz.ntmps112
    go_wp2
    go_ret2
    exact ⟨ret_ints (by omega) (by omega), rfl⟩
theorem spills_yes (a d : Nat) (w : World) (ha : a ≤ 8) (h2 : d ≤ 8) (h : 8 < a + d) : Calls Tryz.prog 113 #[.int .i64 a, .int .i64 d] w fun e w' => e = .returned (.bool true) ∧ w = w' := by
  go_enter Tryz.func113, Tryz.ntmps113
  go_wp2
  go_ret
  exact ⟨aO (by simp; omega), rfl⟩
theorem spills_no (a d : Nat) (w : World) (ha : a ≤ 8) (h2 : d ≤ 8) (h : ¬ 8 < a + d) : Calls Tryz.prog 113 #[.int .i64 a, .int .i64 d] w fun e w' => e = .returned (.bool false) ∧ w = w' := by
  go_enter Tryz.func113, Tryz.ntmps113
  go_wp2
  go_ret
  exact ⟨aO (by simp; omega), rfl⟩
theorem fits_int (n c : Int) (w : World) (hn : 0 ≤ n) (h0 : 0 ≤ c) (h64 : c ≤ 64) : Calls Tryz.prog 109 #[.int .u64 n, .int .i64 c] w fun e w' => e = .returned (.bool (fitB n.toNat c.toNat)) ∧ w = w' := by
  obtain ⟨m, rfl⟩ := Int.eq_ofNat_of_zero_le hn
  rw [Int.toNat_natCast]
  exact fits_any m c w h0 h64
def narrow (d : Nat) (l : List UInt8) : Bool := l.all fun u => decide (u.toNat < 2 ^ d)
theorem dV {d : Nat} {l : List UInt8} (h : narrow d l = true) : ∀ u ∈ l, u.toNat < 2 ^ d := by
  intro u hu
  have := List.all_eq_true.1 h u hu
  simpa using this
theorem fit_yes {l : List UInt8} {d j : Nat} (hall : narrow d l = true) (hj : j < l.length) : fitB (bt l j).toNat (d : Int).toNat = true := by
  unfold fitB
  rw [Int.toNat_natCast, decide_eq_true_eq, cQ hj, Int.toNat_natCast]
  exact dV hall _ (List.getElem_mem hj)
theorem wrap16 {X ab : Nat} (hX : X < 256) (hab : ab ≤ 7) : IntKind.u16.wrap ((X : Int) * 2 ^ ab) = ((X * 2 ^ ab : Nat) : Int) := by
  have h2 : 2 ^ ab ≤ 2 ^ 7 := Nat.pow_le_pow_right (by omega) hab
  have h3 : X * 2 ^ ab ≤ 255 * 2 ^ 7 := Nat.mul_le_mul (by omega) h2
  have e : ((X : Int) * 2 ^ ab) = ((X * 2 ^ ab : Nat) : Int) := by push_cast; rfl
  rw [e]
  exact IntWalk.u16_in _ ⟨by omega, by omega⟩
theorem or_here {x1 X ab : Nat} (h1 : x1 < 256) (hX : X < 256) (hab : ab ≤ 7) : bits .or .u8 (x1 : Int) (IntKind.u16.wrap ((X : Int) * 2 ^ ab) % 256) = ((x1 ||| (X * 2 ^ ab % 2 ^ 8) : Nat) : Int) := by
  rw [wrap16 hX hab]
  exact u8_or_nat x1 (X * 2 ^ ab % 256) h1 (Nat.mod_lt _ (by decide))
theorem or_next {x2 X ab : Nat} (h1 : x2 < 256) (hX : X < 256) (hab : ab ≤ 7) : bits .or .u8 (x2 : Int) (IntKind.u16.wrap ((X : Int) * 2 ^ ab) / 256 % 256) = ((x2 ||| (X * 2 ^ ab / 2 ^ 8) : Nat) : Int) := by
  rw [wrap16 hX hab]
  have h2 : 2 ^ ab ≤ 2 ^ 7 := Nat.pow_le_pow_right (by omega) hab
  have h3 : X * 2 ^ ab ≤ 255 * 2 ^ 7 := Nat.mul_le_mul (by omega) h2
  have e : (((X * 2 ^ ab : Nat) : Int) / 256 % 256) = ((X * 2 ^ ab / 256 : Nat) : Int) := by omega
  rw [e]
  exact u8_or_nat x2 (X * 2 ^ ab / 256) h1 (by omega)
theorem row_two {w : World} {g t q ab i d V X : Nat} {e : TypeId} (hrow : w.rowIs g e t (fun k => .int .u8 (dg V k : Nat))) (hV : V < 2 ^ (i * d)) (hX : X < 2 ^ d) (hd : d ≤ 8) (hq : i * d / 8 = q) (hab : i * d % 8 = ab) :
    ((w.setCell ⟨g, q, none⟩ (.int .u8 (bits .or .u8 (dg V q : Nat) (IntKind.u16.wrap ((X : Int) * 2 ^ ab) % 256)))).setCell ⟨g, q + 1, none⟩ (.int .u8 (bits .or .u8 (dg V (q + 1) : Nat) (IntKind.u16.wrap ((X : Int) * 2 ^ ab) / 256 % 256)))).rowIs g e t
      (fun k => .int .u8 (dg (V + 2 ^ (i * d) * X) k : Nat)) := by
  have hX8 : X < 256 := Nat.lt_of_lt_of_le hX (Nat.pow_le_pow_right (by omega) hd)
  have h7 : ab ≤ 7 := by omega
  refine ((hrow.set q _).set (q + 1) _).congr fun k hk => ?_
  rw [or_here (dg_lt _ _) hX8 h7, or_next (dg_lt _ _) hX8 h7, lay_two hV hX hd hq hab]
  show (if k = q + 1 then _ else if k = q then _ else _) = _
  split
  · rfl
  · split <;> rfl
theorem row_single {w : World} {g t q ab i d V X : Nat} {e : TypeId} (hrow : w.rowIs g e t (fun k => .int .u8 (dg V k : Nat))) (hV : V < 2 ^ (i * d)) (hX : X < 2 ^ d) (hd : d ≤ 8) (hs : ab + d ≤ 8) (hq : i * d / 8 = q) (hab : i * d % 8 = ab) :
    (w.setCell ⟨g, q, none⟩ (.int .u8 (bits .or .u8 (dg V q : Nat) (IntKind.u16.wrap ((X : Int) * 2 ^ ab) % 256)))).rowIs g e t
      (fun k => .int .u8 (dg (V + 2 ^ (i * d) * X) k : Nat)) := by
  have hX8 : X < 256 := Nat.lt_of_lt_of_le hX (Nat.pow_le_pow_right (by omega) hd)
  refine (hrow.set q _).congr fun k hk => ?_
  rw [or_here (dg_lt _ _) hX8 (by omega), lay_single hV hX hs hq hab]
  show (if k = q then _ else _) = _
  split <;> rfl
set_option maxHeartbeats 1000000 in
theorem bits_ok (A : Option Addr) (n c N d B : Nat) (l : List UInt8) (w : World) (HB : Hid (B = w.heap.size)) (hl : Rd w N A n l) (hN : N ≤ B) (hn : n ≤ 140737488351232) (h1 : 1 ≤ d) (h2 : d ≤ 8) (hall : narrow d l = true) :
    Calls Tryz.prog 100 #[.slice A n c, .int .i64 d] w fun e w' => ∃ v, e = .returned (.tuple #[v, .int .i64 0]) ∧ Own w' B v (bw 8 (bytesOf n d) (val d l)) ∧ Below B w w' := by
  have HA := Lib.hid hall
  clear hall
  have hBle : B ≤ w.heap.size := Nat.le_of_eq HB.out
  have htot : bytesOf n d ≤ 140737488355328 := by unfold bytesOf; have := Nat.mul_le_mul_left n h2; omega
  have hmk := run_make_row' (P := Tryz.prog) 141 5 (.int .u8 0) 1 Tryz.underlying141 u8info rfl .i64 .i64 (bytesOf n d) (by omega) (by omega)
  go_enter Tryz.func100, Tryz.ntmps100
  go_wp2_with (first | (go_at_call 110; refine (mayWidth_yes _ _ (by omega) (by omega)).mono ?_; rintro e w' ⟨rfl, rfl⟩))
  go_loop [18] (fun i => ∃ j : Nat, j ≤ n ∧ i = .int .i64 j) (fun i => n - (intOf i).toNat)
  case atStart => exact ⟨0, Nat.zero_le _, rfl⟩
  case round =>
    obtain ⟨j, hj, rfl⟩ := hrel
    by_cases hlt : j < n
    · obtain ⟨bA, oA, rfl, hA, cA⟩ := hl.2 j hlt
      have hlo := bt_lo l j
      have hhi := bt_hi l j
      go_wp2_with fail
      refine (fits_int _ _ _ hlo (by omega) (by omega)).mono ?_
      rintro e w' ⟨rfl, rfl⟩
      rw [fit_yes HA.out (by have := hl.1; omega)]
      go_wp2
      go_round
      case rel => exact ⟨j + 1, by omega, by go_num⟩
      case measure => simp [intOf]; omega
    · have e : j = n := by omega
      subst e
      go_wp2_with fail
      refine (taken_any _ _ _ h1 h2 (by omega)).mono ?_
      rintro e w' ⟨rfl, rfl⟩
      go_wp2
      clear hmk
      have hr0 := World.rowIs_made w (Value.int .u8 0) (bytesOf j d) 5
      have hbl0 : Below B w (w.alloc (.cells (madeCells #[Value.int .u8 0] (bytesOf j d)) 5)) := (Below.refl _ _).alloc hBle _
      generalize w.heap.size = g at hr0 hBle ⊢
      go_loopw [35] (fun i wr => ∃ i' : Nat, i' ≤ j ∧ i = .int .i64 i' ∧ wr.rowIs g 5 (bytesOf j d) (fun k => .int .u8 (dg (val d (l.take i')) k : Nat)) ∧ Below B w wr) (fun i _ => j - (intOf i).toNat)
      case atStart => exact ⟨0, Nat.zero_le _, rfl, hr0.congr fun k _ => by simp [val, dg], hbl0⟩
      case round =>
        clear hbl0 hr0
        obtain ⟨i, hi, rfl, hrow, hbl⟩ := hrel
        by_cases hlt : i < j
        · go_wp2_with fail
          refine (place_any _ _ _ h1 h2 (by omega)).mono ?_
          rintro e w' ⟨rfl, rfl⟩
          have hab : i * d % 8 ≤ 7 := by omega
          have hq1 : i * d / 8 < bytesOf j d := by
            unfold bytesOf
            have h3 : (i + 1) * d ≤ j * d := Nat.mul_le_mul_right d hlt
            rw [Nat.succ_mul] at h3
            omega
          have hq2 : 8 < i * d % 8 + d → i * d / 8 + 1 < bytesOf j d := by
            unfold bytesOf
            have h3 : (i + 1) * d ≤ j * d := Nat.mul_le_mul_right d hlt
            rw [Nat.succ_mul] at h3
            omega
          generalize hq : i * d / 8 = q at *
          generalize ha : i * d % 8 = ab at *
          have HQ := Lib.hid hq
          have HAB := Lib.hid ha
          clear hq ha
          obtain ⟨bA, oA, rfl, hA, cA⟩ := (hl.below (hbl.mono hN)).2 i hlt
          have hlo := bt_lo l i
          have hhi := bt_hi l i
          have hc1 := hrow.cell hq1
          have hf1 := hrow.frozen q
          have hf2 := hrow.frozen (q + 1)
          generalize hV : val d (l.take i) = V at *
          have HV := Lib.hid hV
          clear hV
          have hd1 := dg_lt V q
          generalize hx : dg V q = x1 at *
          have HX := Lib.hid hx
          clear hx
          by_cases hsp : 8 < ab + d
          · have hq3 := hq2 hsp
            have hc2 := hrow.cell hq3
            have hd2 := dg_lt V (q + 1)
            generalize hx : dg V (q + 1) = x2 at *
            have HX2 := Lib.hid hx
            clear hx hq2
            go_wp2_with fail
            refine (spills_yes _ _ _ (by omega) h2 hsp).mono ?_
            rintro e w' ⟨rfl, rfl⟩
            go_wp2
            go_roundw
            case rel =>
              refine ⟨i + 1, by omega, by go_num, ?_, (hbl.setCell hBle _).setCell hBle _⟩
              have hl' : i < l.length := by have := hl.1; omega
              rw [val_take_succ hl', HV.out, ← HX.out, ← HX2.out, cQ hl']
              exact row_two hrow (by rw [← HV.out]; exact val_take_lt (dV HA.out) (by omega)) (dV HA.out _ (List.getElem_mem hl')) h2 HQ.out HAB.out
            case measure => simp [intOf]; omega
          · clear hq2
            go_wp2_with fail
            refine (spills_no _ _ _ (by omega) h2 hsp).mono ?_
            rintro e w' ⟨rfl, rfl⟩
            go_wp2
            go_roundw
            case rel =>
              refine ⟨i + 1, by omega, by go_num, ?_, hbl.setCell hBle _⟩
              have hl' : i < l.length := by have := hl.1; omega
              rw [val_take_succ hl', HV.out, ← HX.out, cQ hl']
              exact row_single hrow (by rw [← HV.out]; exact val_take_lt (dV HA.out) (by omega)) (dV HA.out _ (List.getElem_mem hl')) h2 (by omega) HQ.out HAB.out
            case measure => simp [intOf]; omega
        · have e : i = j := by omega
          subst e
          go_wp2
          go_ret2
          refine ⟨_, rfl, Own.of_row (ay _ _ _) hBle hrow (Nat.le_refl _) (by unfold maxLen; omega) ?_ ?_, hbl⟩
          · intro k hk
            have hk' : k < (bw 8 (bytesOf i d) (val d l)).length := by rw [ay]; exact hk
            rw [cQ hk', getElem_digL (by omega) hk', List.take_of_length_le (by have := hl.1; omega)]
            rfl
          · intro k
            have := dg_lt (val d (l.take i)) k
            omega
theorem dg_val (b : List UInt8) (q : Nat) : (dg (val 8 b) q : Nat) = bt b q := by
  unfold dg bt
  rw [val_digit (all_256 b)]
theorem mask16 {d : Nat} (h1 : 1 ≤ d) (h2 : d ≤ 8) : IntKind.u16.wrap (IntKind.u16.wrap (2 ^ d) - 1) = ((2 ^ d - 1 : Nat) : Int) := by
  rcases widths h1 h2 with rfl | rfl | rfl | rfl | rfl | rfl | rfl | rfl <;> rfl
theorem and_mask {d y : Nat} (h1 : 1 ≤ d) (h2 : d ≤ 8) (hy : y < 65536) : bits .and .u16 (y : Int) (IntKind.u16.wrap (IntKind.u16.wrap (2 ^ d) - 1)) % 256 = ((y % 2 ^ d : Nat) : Int) := by
  have h3 : 2 ^ d ≤ 2 ^ 8 := Nat.pow_le_pow_right (by omega) h2
  have h4 : y % 2 ^ d < 2 ^ d := Nat.mod_lt _ (Nat.pow_pos (by omega))
  rw [mask16 h1 h2, u16_and_nat y _ hy (by omega), Nat.and_two_pow_sub_one_eq_mod]
  omega
theorem bt_digL {d m V j : Nat} (h2 : d ≤ 8) (hj : j < m) : bt (bw d m V) j = ((V / 2 ^ (j * d) % 2 ^ d : Nat) : Int) := by
  have hl : j < (bw d m V).length := by rw [ay]; exact hj
  rw [cQ hl, getElem_digL h2 hl, Nat.mul_comm d j]
theorem unlay_two {b : List UInt8} {q ab d j m : Nat} (h1 : 1 ≤ d) (h2 : d ≤ 8) (hj : j < m) (hq : j * d / 8 = q) (hab : j * d % 8 = ab) :
    bits .and .u16 (bits .or .u16 (bt b q) (bt b (q + 1) * 256) / 2 ^ ab) (IntKind.u16.wrap (IntKind.u16.wrap (2 ^ d) - 1)) % 256 = bt (bw d m (val 8 b)) j := by
  subst hq hab
  rw [← dg_val, ← dg_val]
  have l1 := dg_lt (val 8 b) (j * d / 8)
  have l2 := dg_lt (val 8 b) (j * d / 8 + 1)
  have e : ((dg (val 8 b) (j * d / 8 + 1) : Nat) : Int) * 256 = ((dg (val 8 b) (j * d / 8 + 1) * 256 : Nat) : Int) := by omega
  rw [e, u16_or_nat _ _ (by omega) (by omega), Nat.or_comm, nat_join 8 _ _ (Nat.mul_mod_left _ (2 ^ 8)) l1]
  have e2 : (((dg (val 8 b) (j * d / 8 + 1) * 256 + dg (val 8 b) (j * d / 8) : Nat) : Int) / 2 ^ (j * d % 8)) = (((dg (val 8 b) (j * d / 8) + 2 ^ 8 * dg (val 8 b) (j * d / 8 + 1)) / 2 ^ (j * d % 8) : Nat) : Int) := by
    have e3 : ((2 : Int) ^ (j * d % 8)) = ((2 ^ (j * d % 8) : Nat) : Int) := by push_cast; rfl
    rw [e3, show dg (val 8 b) (j * d / 8 + 1) * 256 + dg (val 8 b) (j * d / 8) = dg (val 8 b) (j * d / 8) + 2 ^ 8 * dg (val 8 b) (j * d / 8 + 1) from by omega]
    rfl
  have l3 : (dg (val 8 b) (j * d / 8) + 2 ^ 8 * dg (val 8 b) (j * d / 8 + 1)) / 2 ^ (j * d % 8) < 65536 := Nat.lt_of_le_of_lt (Nat.div_le_self _ _) (by omega)
  rw [e2, and_mask h1 h2 l3, read_spill h2, bt_digL h2 hj]
theorem unlay_single {b : List UInt8} {q ab d j m : Nat} (h1 : 1 ≤ d) (h2 : d ≤ 8) (hj : j < m) (hs : ab + d ≤ 8) (hq : j * d / 8 = q) (hab : j * d % 8 = ab) :
    bits .and .u16 (bt b q / 2 ^ ab) (IntKind.u16.wrap (IntKind.u16.wrap (2 ^ d) - 1)) % 256 = bt (bw d m (val 8 b)) j := by
  subst hq hab
  rw [← dg_val]
  have l1 := dg_lt (val 8 b) (j * d / 8)
  have e2 : ((dg (val 8 b) (j * d / 8) : Nat) : Int) / 2 ^ (j * d % 8) = ((dg (val 8 b) (j * d / 8) / 2 ^ (j * d % 8) : Nat) : Int) := by
    have e3 : ((2 : Int) ^ (j * d % 8)) = ((2 ^ (j * d % 8) : Nat) : Int) := by push_cast; rfl
    rw [e3]
    rfl
  have l3 : dg (val 8 b) (j * d / 8) / 2 ^ (j * d % 8) < 65536 := Nat.lt_of_le_of_lt (Nat.div_le_self _ _) (by omega)
  rw [e2, and_mask h1 h2 l3, read_plain hs, bt_digL h2 hj]
set_option maxHeartbeats 1000000 in
theorem unbits_ok (A : Option Addr) (n c N d m B : Nat) (b : List UInt8) (w : World) (HB : Hid (B = w.heap.size)) (hb : Rd w N A n b) (hN : N ≤ B) (hn : n ≤ 140737488355328) (h1 : 1 ≤ d) (h2 : d ≤ 8) (hm : m ≤ 1048576) (hs : bytesOf m d ≤ n) :
    Calls Tryz.prog 122 #[.slice A n c, .int .i64 d, .int .i64 m] w fun e w' => ∃ v, e = .returned (.tuple #[v, .int .i64 0]) ∧ Own w' B v (bw d m (val 8 b)) ∧ Below B w w' := by
  have hBle : B ≤ w.heap.size := Nat.le_of_eq HB.out
  have hd30 : decide (n < bytesOf m d) = false := by simpa using hs
  have hd19 : decide ((m : Int) < 0) = false := by simp
  have hd23 : decide (1048576 < (m : Int)) = false := by simp; omega
  have hmk := run_make_row' (P := Tryz.prog) 141 5 (.int .u8 0) 1 Tryz.underlying141 u8info rfl .i64 .i64 m (by omega) (by omega)
  go_enter Tryz.func122, Tryz.ntmps122
  go_wp2_with (first | (go_at_call 110; refine (mayWidth_yes _ _ (by omega) (by omega)).mono ?_; rintro e w' ⟨rfl, rfl⟩))
  refine (taken_any _ _ _ h1 h2 (by omega)).mono ?_
  rintro e w' ⟨rfl, rfl⟩
  go_wp2
  clear hmk
  have hr0 := World.rowIs_made w (Value.int .u8 0) m 5
  have hbl0 : Below B w (w.alloc (.cells (madeCells #[Value.int .u8 0] m) 5)) := (Below.refl _ _).alloc hBle _
  generalize w.heap.size = g at hr0 hBle ⊢
  go_loopw [37] (fun i wr => ∃ (j : Nat) (f : Nat → Int), j ≤ m ∧ i = .int .i64 j ∧ wr.rowIs g 5 m (fun k => .int .u8 (f k)) ∧ (∀ k, k < j → f k = bt (bw d m (val 8 b)) k) ∧ (∀ k, 0 ≤ f k ∧ f k ≤ 255) ∧ Below B w wr) (fun i _ => m - (intOf i).toNat)
  case atStart => exact ⟨0, fun _ => 0, Nat.zero_le _, rfl, hr0, fun k hk => absurd hk (by omega), fun k => by simp, hbl0⟩
  case round =>
    clear hbl0 hr0
    obtain ⟨j, f, hj, rfl, hrow, hf, hr, hbl⟩ := hrel
    have HF := Lib.hid hf
    have HR := Lib.hid hr
    clear hf hr
    by_cases hlt : j < m
    · go_wp2_with fail
      refine (place_any _ _ _ h1 h2 (by omega)).mono ?_
      rintro e w' ⟨rfl, rfl⟩
      have hab : j * d % 8 ≤ 7 := by omega
      have hq1 : j * d / 8 < n := by
        unfold bytesOf at hs
        have h3 : (j + 1) * d ≤ m * d := Nat.mul_le_mul_right d hlt
        rw [Nat.succ_mul] at h3
        omega
      have hq2 : 8 < j * d % 8 + d → j * d / 8 + 1 < n := by
        unfold bytesOf at hs
        have h3 : (j + 1) * d ≤ m * d := Nat.mul_le_mul_right d hlt
        rw [Nat.succ_mul] at h3
        omega
      generalize hq : j * d / 8 = q at *
      generalize ha : j * d % 8 = ab at *
      have HQ := Lib.hid hq
      have HAB := Lib.hid ha
      clear hq ha
      obtain ⟨bA, oA, rfl, hA, cA⟩ := (hb.below (hbl.mono hN)).2 q hq1
      have hlo := bt_lo b q
      have hhi := bt_hi b q
      have hc1 := hrow.cell hlt
      have hf1 := hrow.frozen j
      by_cases hsp : 8 < ab + d
      · have hq3 := hq2 hsp
        obtain ⟨bA', oA', hA2, _, cA2⟩ := (hb.below (hbl.mono hN)).2 (q + 1) hq3
        injection hA2 with hA2
        injection hA2 with hA3 hA4
        subst hA3 hA4
        have hlo2 := bt_lo b (q + 1)
        have hhi2 := bt_hi b (q + 1)
        go_wp2_with fail
        refine (spills_yes _ _ _ (by omega) h2 hsp).mono ?_
        rintro e w' ⟨rfl, rfl⟩
        go_wp2
        go_roundw
        case rel =>
          rw [unlay_two h1 h2 hlt HQ.out HAB.out]
          refine ⟨j + 1, upd f j (bt (bw d m (val 8 b)) j), by omega, by go_num, row_put hrow _, ?_, ?_, hbl.setCell hBle _⟩
          · intro k hk
            by_cases e : k = j
            · subst e; exact upd_at _ _ _
            · rw [upd_off _ _ e]; exact HF.out k (by omega)
          · intro k
            by_cases e : k = j
            · subst e; rw [upd_at]; exact ⟨bt_lo _ _, bt_hi _ _⟩
            · rw [upd_off _ _ e]; exact HR.out k
        case measure => simp [intOf]; omega
      · clear hq2
        go_wp2_with fail
        refine (spills_no _ _ _ (by omega) h2 hsp).mono ?_
        rintro e w' ⟨rfl, rfl⟩
        go_wp2
        go_roundw
        case rel =>
          rw [unlay_single h1 h2 hlt (by omega) HQ.out HAB.out]
          refine ⟨j + 1, upd f j (bt (bw d m (val 8 b)) j), by omega, by go_num, row_put hrow _, ?_, ?_, hbl.setCell hBle _⟩
          · intro k hk
            by_cases e : k = j
            · subst e; exact upd_at _ _ _
            · rw [upd_off _ _ e]; exact HF.out k (by omega)
          · intro k
            by_cases e : k = j
            · subst e; rw [upd_at]; exact ⟨bt_lo _ _, bt_hi _ _⟩
            · rw [upd_off _ _ e]; exact HR.out k
        case measure => simp [intOf]; omega
    · have e : j = m := by omega
      subst e
      go_wp2
      go_ret2
      exact ⟨_, rfl, Own.of_row (ay _ _ _) hBle hrow (Nat.le_refl _) (by unfold maxLen; omega) HF.out HR.out, hbl⟩
theorem dY {ρ : Operand → Value} {o : Oper} {x y : Operand} {w : World} (g : Nat) (ho : o.op = .store 151 x y) (hx : ρ x = .pointer (some ⟨w.heap.size, 0, none⟩)) (hy : ρ y = .agg (dx g)) :
    (execOp ρ o).run Tryz.prog (w.alloc (.cells #[.slice none 0 0, .slice none 0 0, .slice none 0 0, .slice none 0 0, .slice none 0 0] 151)) = .ok .skip (w.alloc (.cells (dx g) 151)) :=
  exec_fillT (by kernel_rfl) rfl rfl ho hx hy
theorem putW_start (w w1 : World) (hb : Below ((w.alloc (.cells (cel al).toArray 38)).alloc (.cells (cel al).toArray 38)).heap.size ((w.alloc (.cells (cel al).toArray 38)).alloc (.cells (cel al).toArray 38)) w1) :
    PutW w.heap.size w (w1.alloc (.cells (dx (w.heap.size + 1)) 151)) w.heap.size (w.heap.size + 1) w1.heap.size al.toList := by
  have h1 := (Below.refl w.heap.size w).alloc (Nat.le_refl _) (.cells (cel al).toArray 38)
  have h2 := h1.alloc h1.size (.cells (cel al).toArray 38)
  have hs := hb.size
  simp only [World.size_alloc] at hs
  have hr : bJ w1 w.heap.size 38 al.toList := bJ.below ((bJ.blk w al 38).past _) (by simp only [World.size_alloc]; omega) hb
  have hg : bJ w1 (w.heap.size + 1) 38 al.toList := bJ.below (by have := bJ.blk (w.alloc (.cells (cel al).toArray 38)) al 38; rwa [World.size_alloc] at this) (by simp only [World.size_alloc]; omega) hb
  have hbel : Below w.heap.size w w1 := h2.trans (hb.mono (by simp only [World.size_alloc]; omega))
  exact ⟨hr.past _, hg.past _, heap_alloc_new w1 _, hbel.alloc (by omega) _, Nat.le_refl _, by omega, by omega, by omega⟩
set_option maxHeartbeats 4000000 in
theorem put_yes (n m c N : Nat) (A : Option Addr) (b : List UInt8) (w : World) (T : Tab w) (hn : n < 18446744073709551616) (h0 : 0 < n) (hb : Rd w N A m b) (hN : N ≤ w.heap.size) (hm : m ≤ 44) :
    Calls Tryz.prog 92 #[.int .u64 n, .slice A m c] w fun e w' => e = .returned (.tuple #[blk (putB n b), .int .i64 (putE n b : Nat)]) ∧ Below w.heap.size w w' := by
  have hl := hb.1
  have hbl : b.length ≤ 44 := by omega
  have hE : putE n b = 0 := putE_ok (by omega) hbl
  have hB : putB n b = ofL (sealL n b) := putB_ok hE
  rw [hE, hB]
  have HS := Lib.hid (noSum_seal (n := n) hbl)
  have HH := Lib.hid (noSum_head (n := n) hbl)
  have HL := Lib.hid (dJ (n := n) hbl)
  have HL64 := Lib.hid (sealL_length n hbl)
  have HC := Lib.hid (more_lt (s := 0) (by omega) (headL n b))
  have HT := Lib.hid T
  have HR := Lib.hid hb
  have HB := Lib.hid hl
  have HN := Lib.hid hn
  have HNN := Lib.hid hN
  clear hE hB T hb hl hbl hn hN
  have hz : ((n : Int) == 0) = false := by simp; omega
  go_enter Tryz.func92, Tryz.ntmps92
  go_wp2_with (first | (refine ah rfl (aU rfl) ?_) | fail)
  refine (cut_any (w.heap.size + 1) _).mono ?_
  rintro e w1 ⟨rfl, hb1⟩
  have hW := putW_start w w1 hb1
  have HBW := Lib.hid hb1.size
  clear hb1
  have HFP := HBW.out
  obtain ⟨c0, c1, c2, c3, c4⟩ := hW.par.cells
  obtain ⟨g, hg⟩ : ∃ g, w.heap.size + 1 = g := ⟨_, rfl⟩
  rw [hg] at hW c0 c1 c2 c3 c4
  rw [hg]
  have HGG := Lib.hid hg
  clear HFP hg
  have HW := Lib.hid hW
  clear hW
  go_wp2_with (first | (refine aX rfl (dY g rfl rfl rfl) ?_) | fail)
  clear c0 c1 c2 c3 c4 HBW HGG
  have HN8 := HN.out
  refine (lay_any g 0 8 n 38 al.toList _ HW.out.row (by omega) (by omega) (by simp) (by simpa using HN8)).mono ?_
  rintro e w2 ⟨rfl, hr2, hg2⟩
  have HW2 := Lib.hid (HW.out.turn hr2 hg2 (Nat.le_refl _))
  clear hr2 hg2 HW
  obtain ⟨c0, c1, c2, c3, c4⟩ := HW2.out.par.cells
  generalize w1.heap.size = p at *
  obtain ⟨r, hr⟩ : ∃ r, r = w.heap.size := ⟨_, rfl⟩
  have HRR := Lib.hid hr
  rw [← hr] at HNN HW2 ⊢
  clear hr
  clear HN8
  go_wp2_with fail
  clear c0 c1 c2 c3 c4
  have HN8 := HN.out
  refine (lay_any g 56 8 n 38 _ _ HW2.out.row (by omega) (by omega) (by rw [noSum_1]; omega) (by simpa using HN8)).mono ?_
  rintro e w3 ⟨rfl, hr3, hg3⟩
  have HW3 := Lib.hid (HW2.out.turn hr3 hg3 (Nat.le_of_eq HRR.out))
  clear hr3 hg3 HW2 HN8
  obtain ⟨c0, c1, c2, c3, c4⟩ := HW3.out.par.cells
  have HR3 := Lib.hid (HR.out.below (HW3.out.bel.mono HNN.out))
  have HL2 := Lib.hid (noSum_2 n)
  obtain ⟨l2, hl2⟩ : ∃ l2, splice (splice al.toList 0 (bw 8 8 n)) 56 (bw 8 8 n) = l2 := ⟨_, rfl⟩
  have HNS : Hid (splice l2 8 b = noSum n b) := Lib.hid (by rw [← hl2]; rfl)
  rw [hl2] at HW3 HL2
  clear hl2
  go_wp2_with (with_reducible refine c8 rfl _ _ rfl g 8 44 44 m c N A 38 l2 b rfl rfl HW3.out.row HR3.out hm ?c1 ?_)
  case c1 => rw [HL2.out]; omega
  intro w4 hr4 hg4
  rw [HNS.out] at hr4
  have HW4 := Lib.hid (HW3.out.turn hr4 hg4 (Nat.le_of_eq HRR.out))
  clear hr4 hg4 HW3 HR3 HL2 c0 c1 c2 c3 c4
  go_wp2_with fail
  refine wp_region_held (S := fun w' => Hid (PutW r w w' r g p (noSum n b) ∨ PutW r w w' r g p (sealL n b))) (by kernel_rfl) ?_
  change wpAnyH _ _ _ _ _ 7 _ _ w4.drew
  have hS : Hid (PutW r w w4.drew r g p (noSum n b) ∨ PutW r w w4.drew r g p (sealL n b)) := Lib.hid (.inl HW4.out.draw)
  refine aD 0 rfl (by kernel_rfl) (by kernel_rfl) (by kernel_rfl) rfl (fun w' hw => am rfl (ev rfl) faP2) (fun _ _ _ h => h) hS ?_
  simp only [Act.put, aa, ac, ae]
  refine aD 1 rfl (by kernel_rfl) (by kernel_rfl) (by kernel_rfl) rfl (fun w' hw => au rfl (ev rfl) (ldS (hw.out.elim (fun h => h.par.cells.2.2.1) (fun h => h.par.cells.2.2.1)))) (fun _ _ _ h => h) hS ?_
  simp only [Act.put, aa, ac, ae]
  refine aD 2 rfl (by kernel_rfl) (by kernel_rfl) (by kernel_rfl) rfl (fun w' hw => am rfl (ev rfl) faP4) (fun _ _ _ h => h) hS ?_
  simp only [Act.put, aa, ac, ae]
  refine aD 3 rfl (by kernel_rfl) (by kernel_rfl) (by kernel_rfl) rfl (fun w' hw => au rfl (ev rfl) (ldS (hw.out.elim (fun h => h.par.cells.2.2.2.2) (fun h => h.par.cells.2.2.2.2)))) (fun _ _ _ h => h) hS ?_
  simp only [Act.put, aa, ac, ae]
  refine dK 4 rfl (by kernel_rfl) rfl (ap Tryz.call103 rfl (evc (ev rfl) evn)) ?_
  have T4 : Tab w4.drew := (HT.out.below (by rw [← HRR.out]; exact HW4.out.draw.bel))
  have R4 := HW4.out.draw.row.rd (p := 0) (k := 52) (by rw [HL.out]; omega)
  rw [HH.out] at R4
  refine (of_any _ 52 52 _ (headL n b) _ T4 R4 (by unfold maxLen; omega)).mono ?_
  rintro e w' ⟨rfl, rfl⟩
  refine ⟨_, rfl, hS, ?_⟩
  simp only [Act.put, aa, ac, ae]
  clear T4 R4
  refine aD 5 rfl (by kernel_rfl) (by kernel_rfl) (by kernel_rfl) rfl (fun w' hw => exec_cv32 rfl (ev rfl) HC.out) (fun _ _ _ h => h) hS ?_
  simp only [Act.put, aa, ac, ae]
  refine dK 6 rfl (by kernel_rfl) rfl (ap Tryz.call102 rfl (evc (ev rfl) (evc (ev rfl) evn))) ?_
  refine (lay_any g 52 4 (more 0 (headL n b)) 38 _ _ HW4.out.draw.row (by omega) (by omega) (by rw [HL.out]; omega) (by have := HC.out; simpa using this)).mono ?_
  rintro e w5 ⟨rfl, hr5, hg5⟩
  rw [HS.out] at hr5
  have HW5 := Lib.hid (HW4.out.draw.turn hr5 hg5 (Nat.le_of_eq HRR.out))
  refine ⟨_, rfl, Lib.hid (.inr HW5.out), ?_⟩
  simp only [Act.put, aa, ac, ae]
  clear hr5 hg5 hS HW4
  refine wpAnyH_done (by kernel_rfl) ?_ _
  have HG := Lib.hid (HW5.out.row.range HL64.out)
  have HTH : Hid (w5.there r 0 64) := Lib.hid (there_row HW5.out.res.row (by simp))
  have HBB : Hid (Below w.heap.size w w5) := Lib.hid (by rw [← HRR.out]; exact HW5.out.bel)
  go_wp2_with (first | (refine ah rfl (aG rfl rfl HG.out) ?_) | (refine aX rfl (aP rfl rfl rfl HTH.out) ?_) | fail)
  refine bodyPost_ret (ch rfl _ _ _ rfl (World.rangeAt_setCells_same _ _ _ _ (by rw [aw]; exact HTH.out))) rfl ⟨rfl, below_setCells HBB.out (Nat.le_of_eq HRR.out.symm) _⟩
theorem put_all (n m c N : Nat) (A : Option Addr) (b : List UInt8) (w : World) (T : Tab w) (hn : n < 18446744073709551616) (hb : Rd w N A m b) (hN : N ≤ w.heap.size) (hm : m ≤ maxLen) :
    Calls Tryz.prog 92 #[.int .u64 n, .slice A m c] w fun e w' => e = .returned (.tuple #[blk (putB n b), .int .i64 (putE n b : Nat)]) ∧ Below w.heap.size w w' := by
  by_cases h0 : n = 0
  · subst h0
    exact put_arg m c A b w hb.1
  · by_cases h44 : m ≤ 44
    · exact put_yes n m c N A b w T hn (by omega) hb hN h44
    · exact put_long n m c A b w hb.1 (by omega) (by omega) hm
end Go.Proofs.YtheponmdbmloaaaGreatDoor
