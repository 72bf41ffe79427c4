/-
  May a roster be: the document's.
-/
import Derived.Test.YtnckcafemdcaeaaRgm
import Derived.Test.YtnckcafemdcaeaaSkip
namespace Go.Proofs.Ytnckcafemdcaeaa
open Go.RowKit
set_option linter.unusedVariables false
set_option maxRecDepth 100000
set_option linter.unusedSimpArgs false

set_option maxHeartbeats 4000000 in
theorem rfine (x : Ros) (w : World) : Calls Try.prog 31 #[ros x] w fun e w' => e = .returned (.bool (fineB x)) ∧ Below w.heap.size w w' := by
  have HGE : Hid (geoB x = false → fineB x = false) := Lib.hid fun h => by unfold fineB; rw [h]; rfl
  have HOK : Hid (geoB x = true → staB x = true → fineB x = (decide (heals x ≤ 1) && decide (0 ≤ x.cur ∧ x.cur < x.s ∧ (heals x = 1 ∨ x.cur = 0)))) := Lib.hid fun h h' => by unfold fineB; rw [h, h', Bool.true_and, Bool.true_and]
  have HNO : Hid (∀ j, j < 16 → (2 < sta x j ∨ (x.m ≤ (j : Int) ∧ sta x j ≠ 0)) → fineB x = false) := Lib.hid fun j => sta_no
  have HSTA := Lib.hid (staB_iff (x := x))
  obtain ⟨h1, h2, h3⟩ := boxR_new w x
  have HR := Lib.hid h1
  have HB := Lib.hid h2
  have HZ := Lib.hid h3
  clear h1 h2 h3
  have HH : Hid (heals x = healK x.st.toList 16) := Lib.hid rfl
  have HST : Hid (∀ j, sta x j = bt x.st.toList j) := Lib.hid fun _ => rfl
  go_enter Try.func31, Try.ntmps31
  go_wp2_with (first | (refine wpList_valn rfl (exec_boxR rfl rfl) ?_) | (refine wpList_valn rfl (exec_loadG (c := x) rfl rfl ?_) ?_; (with_reducible exact HR.out.geo)) | fail)
  generalize w.alloc (.cells (celR x).toArray 26) = w1 at *
  refine (rgmay x w1).mono ?_
  rintro e w2 ⟨rfl, hb⟩
  have HR2 := Lib.hid (HR.out.below HZ.out hb)
  have HB2 := Lib.hid (HB.out.trans (hb.mono (Nat.le_of_lt HZ.out)))
  clear hb HR HB HZ
  cases hg : geoB x
  · have HF := Lib.hid (HGE.out hg)
    clear hg
    go_wp2_with fail
    go_ret
    exact ⟨by rw [HF.out]; rfl, HB2.out⟩
  · have HOK2 := Lib.hid (HOK.out hg)
    clear hg HOK HGE
    have HM := Lib.hid HR2.out.cells.1
    have HSS := Lib.hid HR2.out.cells.2.1
    have HCU := Lib.hid HR2.out.cells.2.2.2.1
    go_wp2_with fail
    go_loop [3, 4] (fun n i => ∃ j : Nat, j ≤ 16 ∧ i = .int .i64 j ∧ n = .int .i64 (healK x.st.toList j : Nat) ∧ (∀ k, k < j → sta x k ≤ 2) ∧ (∀ k : Nat, k < j → x.m ≤ (k : Int) → sta x k = 0)) (fun _ i => 16 - (intOf i).toNat)
    case atStart => exact ⟨0, Nat.zero_le _, rfl, rfl, fun k hk => absurd hk (by omega), fun k hk => absurd hk (by omega)⟩
    case round =>
      obtain ⟨j, hj, rfl, rfl, ha1, ha2⟩ := hrel
      have HA1 := Lib.hid ha1
      have HA2 := Lib.hid ha2
      clear ha1 ha2
      by_cases hlt : j < 16
      · have HC := Lib.hid (HR2.out.sta hlt)
        have HS := Lib.hid (healK_succ x.st.toList j)
        have hle := healK_le x.st.toList j
        generalize healK x.st.toList j = n at *
        by_cases g2 : 2 < sta x j
        · have HF := Lib.hid (HNO.out j hlt (.inl g2))
          have H17 : Hid (decide ((2 : Int) < sta x j) = true) := Lib.hid (decide_eq_true g2)
          clear g2
          go_upto_region 7 with fail
          refine wp_region_lit ?_
          refine wpList_valn rfl (exec_mv rfl (ev rfl)) ?_
          simp only [Act.put, List.setIfInBounds_toArray, List.set_cons_succ, List.set_cons_zero]
          refine wpList_valn rfl (exec_faddr rfl (ev rfl) faR1) ?_
          simp only [Act.put, List.setIfInBounds_toArray, List.set_cons_succ, List.set_cons_zero]
          refine wpList_valn rfl (exec_ix rfl (ev rfl) (ev rfl) (ix16 hlt)) ?_
          simp only [Act.put, List.setIfInBounds_toArray, List.set_cons_succ, List.set_cons_zero]
          refine wpList_valn rfl (exec_ld rfl (ev rfl) (ldU8 HC.out)) ?_
          simp only [Act.put, List.setIfInBounds_toArray, List.set_cons_succ, List.set_cons_zero]
          refine wpList_valn (v := .bool true) rfl (exec_gtr true rfl (ev rfl) evk H17.out) ?_
          simp only [Act.put, List.setIfInBounds_toArray, List.set_cons_succ, List.set_cons_zero]
          refine wpList_skips 12 (v := .bool true) rfl (exec_mv rfl (ev rfl)) (by kernel_rfl) ?_
          simp only [skipAct, List.take_succ_cons, List.take_zero, List.drop_succ_cons, List.drop_zero, Act.put, List.setIfInBounds_toArray, List.set_cons_succ, List.set_cons_zero]
          refine wpList_valn (v := .bool true) rfl (exec_pt rfl (ev rfl) evk) ?_
          simp only [Act.put, List.setIfInBounds_toArray, List.set_cons_succ, List.set_cons_zero]
          refine wpList_nil ?_
          go_wp2_with fail
          go_ret
          exact ⟨by rw [HF.out]; rfl, HB2.out⟩
        · have H17 : Hid (decide ((2 : Int) < sta x j) = false) := Lib.hid (decide_eq_false g2)
          have HLE : Hid (sta x j ≤ 2) := Lib.hid (by omega)
          by_cases gm : x.m ≤ (j : Int)
          · have H23 : Hid (decide (x.m ≤ (j : Int)) = true) := Lib.hid (decide_eq_true gm)
            by_cases g0 : sta x j = 0
            · have H29 : Hid ((sta x j != 0) = false) := Lib.hid (by rw [g0]; rfl)
              have HEQ := Lib.hid g0
              clear g2 gm g0
              go_upto_region 7 with fail
              refine wp_region_lit ?_
              refine wpList_valn rfl (exec_mv rfl (ev rfl)) ?_
              simp only [Act.put, List.setIfInBounds_toArray, List.set_cons_succ, List.set_cons_zero]
              refine wpList_valn rfl (exec_faddr rfl (ev rfl) faR1) ?_
              simp only [Act.put, List.setIfInBounds_toArray, List.set_cons_succ, List.set_cons_zero]
              refine wpList_valn rfl (exec_ix rfl (ev rfl) (ev rfl) (ix16 hlt)) ?_
              simp only [Act.put, List.setIfInBounds_toArray, List.set_cons_succ, List.set_cons_zero]
              refine wpList_valn rfl (exec_ld rfl (ev rfl) (ldU8 HC.out)) ?_
              simp only [Act.put, List.setIfInBounds_toArray, List.set_cons_succ, List.set_cons_zero]
              refine wpList_valn (v := .bool false) rfl (exec_gtr false rfl (ev rfl) evk H17.out) ?_
              simp only [Act.put, List.setIfInBounds_toArray, List.set_cons_succ, List.set_cons_zero]
              refine wpList_valn (v := .bool false) rfl (exec_mv rfl (ev rfl)) ?_
              simp only [Act.put, List.setIfInBounds_toArray, List.set_cons_succ, List.set_cons_zero]
              refine wpList_val (wanted_of rfl rfl rfl rfl) (exec_mv rfl (ev rfl)) ?_
              simp only [Act.put, List.setIfInBounds_toArray, List.set_cons_succ, List.set_cons_zero]
              refine wpList_val (wanted_of rfl rfl rfl rfl) (exec_faddr rfl (ev rfl) faR0) ?_
              simp only [Act.put, List.setIfInBounds_toArray, List.set_cons_succ, List.set_cons_zero]
              refine wpList_val (wanted_of rfl rfl rfl rfl) (exec_faddr rfl (ev rfl) faG0) ?_
              simp only [Act.put, List.setIfInBounds_toArray, List.set_cons_succ, List.set_cons_zero]
              refine wpList_val (wanted_of rfl rfl rfl rfl) (exec_ld rfl (ev rfl) (ldInt HM.out)) ?_
              simp only [Act.put, List.setIfInBounds_toArray, List.set_cons_succ, List.set_cons_zero]
              refine wpList_val (v := .bool true) (wanted_of rfl rfl rfl rfl) (exec_geq true rfl (ev rfl) (ev rfl) H23.out) ?_
              simp only [Act.put, List.setIfInBounds_toArray, List.set_cons_succ, List.set_cons_zero]
              refine wpList_val (v := .bool true) (wanted_of rfl rfl rfl rfl) (exec_mv rfl (ev rfl)) ?_
              simp only [Act.put, List.setIfInBounds_toArray, List.set_cons_succ, List.set_cons_zero]
              refine wpList_val (wanted_of rfl rfl rfl rfl) (exec_mv rfl (ev rfl)) ?_
              simp only [Act.put, List.setIfInBounds_toArray, List.set_cons_succ, List.set_cons_zero]
              refine wpList_val (wanted_of rfl rfl rfl rfl) (exec_faddr rfl (ev rfl) faR1) ?_
              simp only [Act.put, List.setIfInBounds_toArray, List.set_cons_succ, List.set_cons_zero]
              refine wpList_val (wanted_of rfl rfl rfl rfl) (exec_ix rfl (ev rfl) (ev rfl) (ix16 hlt)) ?_
              simp only [Act.put, List.setIfInBounds_toArray, List.set_cons_succ, List.set_cons_zero]
              refine wpList_val (wanted_of rfl rfl rfl rfl) (exec_ld rfl (ev rfl) (ldU8 HC.out)) ?_
              simp only [Act.put, List.setIfInBounds_toArray, List.set_cons_succ, List.set_cons_zero]
              refine wpList_val (v := .bool false) (wanted_of rfl rfl rfl rfl) (exec_neInt false rfl (ev rfl) evk H29.out) ?_
              simp only [Act.put, List.setIfInBounds_toArray, List.set_cons_succ, List.set_cons_zero]
              refine wpList_val (v := .bool false) (wanted_of rfl rfl rfl rfl) (exec_pt rfl (ev rfl) (ev rfl)) ?_
              simp only [Act.put, List.setIfInBounds_toArray, List.set_cons_succ, List.set_cons_zero]
              refine wpList_valn (v := .bool false) rfl (exec_pf rfl (ev rfl) (ev rfl)) ?_
              simp only [Act.put, List.setIfInBounds_toArray, List.set_cons_succ, List.set_cons_zero]
              refine wpList_nil ?_
              have cs := HC.out
              rw [HEQ.out] at cs
              go_wp2_with fail
              go_round
              case rel =>
                refine ⟨j + 1, by omega, by go_num, ?_, fun k hk => ?_, fun k hk hm => ?_⟩
                · rw [HS.out, if_neg (by rw [← HST.out, HEQ.out]; omega), Nat.add_zero]
                · by_cases e : k = j
                  · rw [e]; exact HLE.out
                  · exact HA1.out k (by omega)
                · by_cases e : k = j
                  · rw [e]; exact HEQ.out
                  · exact HA2.out k (by omega) hm
              case measure => simp [intOf]; omega
            · have HF := Lib.hid (HNO.out j hlt (.inr ⟨gm, g0⟩))
              have H29 : Hid ((sta x j != 0) = true) := Lib.hid (by simpa using g0)
              clear g2 gm g0
              go_upto_region 7 with fail
              refine wp_region_lit ?_
              refine wpList_valn rfl (exec_mv rfl (ev rfl)) ?_
              simp only [Act.put, List.setIfInBounds_toArray, List.set_cons_succ, List.set_cons_zero]
              refine wpList_valn rfl (exec_faddr rfl (ev rfl) faR1) ?_
              simp only [Act.put, List.setIfInBounds_toArray, List.set_cons_succ, List.set_cons_zero]
              refine wpList_valn rfl (exec_ix rfl (ev rfl) (ev rfl) (ix16 hlt)) ?_
              simp only [Act.put, List.setIfInBounds_toArray, List.set_cons_succ, List.set_cons_zero]
              refine wpList_valn rfl (exec_ld rfl (ev rfl) (ldU8 HC.out)) ?_
              simp only [Act.put, List.setIfInBounds_toArray, List.set_cons_succ, List.set_cons_zero]
              refine wpList_valn (v := .bool false) rfl (exec_gtr false rfl (ev rfl) evk H17.out) ?_
              simp only [Act.put, List.setIfInBounds_toArray, List.set_cons_succ, List.set_cons_zero]
              refine wpList_valn (v := .bool false) rfl (exec_mv rfl (ev rfl)) ?_
              simp only [Act.put, List.setIfInBounds_toArray, List.set_cons_succ, List.set_cons_zero]
              refine wpList_val (wanted_of rfl rfl rfl rfl) (exec_mv rfl (ev rfl)) ?_
              simp only [Act.put, List.setIfInBounds_toArray, List.set_cons_succ, List.set_cons_zero]
              refine wpList_val (wanted_of rfl rfl rfl rfl) (exec_faddr rfl (ev rfl) faR0) ?_
              simp only [Act.put, List.setIfInBounds_toArray, List.set_cons_succ, List.set_cons_zero]
              refine wpList_val (wanted_of rfl rfl rfl rfl) (exec_faddr rfl (ev rfl) faG0) ?_
              simp only [Act.put, List.setIfInBounds_toArray, List.set_cons_succ, List.set_cons_zero]
              refine wpList_val (wanted_of rfl rfl rfl rfl) (exec_ld rfl (ev rfl) (ldInt HM.out)) ?_
              simp only [Act.put, List.setIfInBounds_toArray, List.set_cons_succ, List.set_cons_zero]
              refine wpList_val (v := .bool true) (wanted_of rfl rfl rfl rfl) (exec_geq true rfl (ev rfl) (ev rfl) H23.out) ?_
              simp only [Act.put, List.setIfInBounds_toArray, List.set_cons_succ, List.set_cons_zero]
              refine wpList_val (v := .bool true) (wanted_of rfl rfl rfl rfl) (exec_mv rfl (ev rfl)) ?_
              simp only [Act.put, List.setIfInBounds_toArray, List.set_cons_succ, List.set_cons_zero]
              refine wpList_val (wanted_of rfl rfl rfl rfl) (exec_mv rfl (ev rfl)) ?_
              simp only [Act.put, List.setIfInBounds_toArray, List.set_cons_succ, List.set_cons_zero]
              refine wpList_val (wanted_of rfl rfl rfl rfl) (exec_faddr rfl (ev rfl) faR1) ?_
              simp only [Act.put, List.setIfInBounds_toArray, List.set_cons_succ, List.set_cons_zero]
              refine wpList_val (wanted_of rfl rfl rfl rfl) (exec_ix rfl (ev rfl) (ev rfl) (ix16 hlt)) ?_
              simp only [Act.put, List.setIfInBounds_toArray, List.set_cons_succ, List.set_cons_zero]
              refine wpList_val (wanted_of rfl rfl rfl rfl) (exec_ld rfl (ev rfl) (ldU8 HC.out)) ?_
              simp only [Act.put, List.setIfInBounds_toArray, List.set_cons_succ, List.set_cons_zero]
              refine wpList_val (v := .bool true) (wanted_of rfl rfl rfl rfl) (exec_neInt true rfl (ev rfl) evk H29.out) ?_
              simp only [Act.put, List.setIfInBounds_toArray, List.set_cons_succ, List.set_cons_zero]
              refine wpList_val (v := .bool true) (wanted_of rfl rfl rfl rfl) (exec_pt rfl (ev rfl) (ev rfl)) ?_
              simp only [Act.put, List.setIfInBounds_toArray, List.set_cons_succ, List.set_cons_zero]
              refine wpList_valn (v := .bool true) rfl (exec_pf rfl (ev rfl) (ev rfl)) ?_
              simp only [Act.put, List.setIfInBounds_toArray, List.set_cons_succ, List.set_cons_zero]
              refine wpList_nil ?_
              go_wp2_with fail
              go_ret
              exact ⟨by rw [HF.out]; rfl, HB2.out⟩
          · have H23 : Hid (decide (x.m ≤ (j : Int)) = false) := Lib.hid (decide_eq_false gm)
            have HGM := Lib.hid gm
            clear g2 gm
            go_upto_region 7 with fail
            refine wp_region_lit ?_
            refine wpList_valn rfl (exec_mv rfl (ev rfl)) ?_
            simp only [Act.put, List.setIfInBounds_toArray, List.set_cons_succ, List.set_cons_zero]
            refine wpList_valn rfl (exec_faddr rfl (ev rfl) faR1) ?_
            simp only [Act.put, List.setIfInBounds_toArray, List.set_cons_succ, List.set_cons_zero]
            refine wpList_valn rfl (exec_ix rfl (ev rfl) (ev rfl) (ix16 hlt)) ?_
            simp only [Act.put, List.setIfInBounds_toArray, List.set_cons_succ, List.set_cons_zero]
            refine wpList_valn rfl (exec_ld rfl (ev rfl) (ldU8 HC.out)) ?_
            simp only [Act.put, List.setIfInBounds_toArray, List.set_cons_succ, List.set_cons_zero]
            refine wpList_valn (v := .bool false) rfl (exec_gtr false rfl (ev rfl) evk H17.out) ?_
            simp only [Act.put, List.setIfInBounds_toArray, List.set_cons_succ, List.set_cons_zero]
            refine wpList_valn (v := .bool false) rfl (exec_mv rfl (ev rfl)) ?_
            simp only [Act.put, List.setIfInBounds_toArray, List.set_cons_succ, List.set_cons_zero]
            refine wpList_val (wanted_of rfl rfl rfl rfl) (exec_mv rfl (ev rfl)) ?_
            simp only [Act.put, List.setIfInBounds_toArray, List.set_cons_succ, List.set_cons_zero]
            refine wpList_val (wanted_of rfl rfl rfl rfl) (exec_faddr rfl (ev rfl) faR0) ?_
            simp only [Act.put, List.setIfInBounds_toArray, List.set_cons_succ, List.set_cons_zero]
            refine wpList_val (wanted_of rfl rfl rfl rfl) (exec_faddr rfl (ev rfl) faG0) ?_
            simp only [Act.put, List.setIfInBounds_toArray, List.set_cons_succ, List.set_cons_zero]
            refine wpList_val (wanted_of rfl rfl rfl rfl) (exec_ld rfl (ev rfl) (ldInt HM.out)) ?_
            simp only [Act.put, List.setIfInBounds_toArray, List.set_cons_succ, List.set_cons_zero]
            refine wpList_val (v := .bool false) (wanted_of rfl rfl rfl rfl) (exec_geq false rfl (ev rfl) (ev rfl) H23.out) ?_
            simp only [Act.put, List.setIfInBounds_toArray, List.set_cons_succ, List.set_cons_zero]
            refine wpList_skips 5 (v := .bool false) (wanted_of rfl rfl rfl rfl) (exec_mv rfl (ev rfl)) (by kernel_rfl) ?_
            simp only [skipAct, List.take_succ_cons, List.take_zero, List.drop_succ_cons, List.drop_zero, Act.put, List.setIfInBounds_toArray, List.set_cons_succ, List.set_cons_zero]
            refine wpList_val (v := .bool false) (wanted_of rfl rfl rfl rfl) (exec_pf rfl (ev rfl) evk) ?_
            simp only [Act.put, List.setIfInBounds_toArray, List.set_cons_succ, List.set_cons_zero]
            refine wpList_valn (v := .bool false) rfl (exec_pf rfl (ev rfl) (ev rfl)) ?_
            simp only [Act.put, List.setIfInBounds_toArray, List.set_cons_succ, List.set_cons_zero]
            refine wpList_nil ?_
            have cs := HC.out
            have HN1 : Hid (∀ k, k < j + 1 → sta x k ≤ 2) := Lib.hid fun k hk => by
              by_cases e : k = j
              · rw [e]; exact HLE.out
              · exact HA1.out k (by omega)
            have HN2 : Hid (∀ k : Nat, k < j + 1 → x.m ≤ (k : Int) → sta x k = 0) := Lib.hid fun k hk hm => by
              by_cases e : k = j
              · rw [e] at hm; exact absurd hm HGM.out
              · exact HA2.out k (by omega) hm
            by_cases h2 : sta x j = 2
            · have hd : (sta x j == 2) = true := by rw [h2]; rfl
              have HEQ := Lib.hid h2
              clear h2
              go_wp2_with fail
              go_round
              case rel => exact ⟨j + 1, by omega, by go_num, by rw [HS.out, if_pos (by rw [← HST.out, HEQ.out])]; go_num, HN1.out, HN2.out⟩
              case measure => simp [intOf]; omega
            · have hd : (sta x j == 2) = false := by simpa using h2
              have HEQ := Lib.hid h2
              clear h2
              go_wp2_with fail
              go_round
              case rel => exact ⟨j + 1, by omega, by go_num, by rw [HS.out, if_neg (by rw [← HST.out]; exact HEQ.out), Nat.add_zero], HN1.out, HN2.out⟩
              case measure => simp [intOf]; omega
      · have e : j = 16 := by omega
        subst e
        have HF := Lib.hid (HOK2.out (HSTA.out.2 ⟨HA1.out, HA2.out⟩))
        rw [HH.out] at HF
        have hle := healK_le x.st.toList 16
        generalize healK x.st.toList 16 = n at *
        clear HA1 HA2 HNO HSTA hlt hj HST HOK2
        obtain ⟨c, hc⟩ : ∃ c, x.cur = c := ⟨_, rfl⟩
        obtain ⟨s, hs⟩ : ∃ s, x.s = s := ⟨_, rfl⟩
        rw [hc, hs] at HF
        rw [hc] at HCU
        rw [hs] at HSS
        clear hc hs
        by_cases q1 : n ≤ 1
        · have H40 : Hid (decide ((n : Int) ≤ 1) = true) := Lib.hid (decide_eq_true (by omega))
          by_cases q2 : 0 ≤ c
          · have H44 : Hid (decide ((0 : Int) ≤ c) = true) := Lib.hid (decide_eq_true q2)
            by_cases q3 : c < s
            · have H52 : Hid (decide (c < s) = true) := Lib.hid (decide_eq_true q3)
              by_cases q4 : n = 1
              · have H56 : Hid (((n : Int) == 1) = true) := Lib.hid (by rw [q4]; rfl)
                go_upto_region 11 with fail
                refine wp_region_lit ?_
                refine wpList_valn rfl (exec_mv rfl (ev rfl)) ?_
                simp only [Act.put, List.setIfInBounds_toArray, List.set_cons_succ, List.set_cons_zero]
                refine wpList_valn (v := .bool true) rfl (exec_leq true rfl (ev rfl) evk H40.out) ?_
                simp only [Act.put, List.setIfInBounds_toArray, List.set_cons_succ, List.set_cons_zero]
                refine wpList_valn (v := .bool true) rfl (exec_mv rfl (ev rfl)) ?_
                simp only [Act.put, List.setIfInBounds_toArray, List.set_cons_succ, List.set_cons_zero]
                refine wpList_val (wanted_of rfl rfl rfl rfl) (exec_faddr rfl (ev rfl) faR2) ?_
                simp only [Act.put, List.setIfInBounds_toArray, List.set_cons_succ, List.set_cons_zero]
                refine wpList_val (wanted_of rfl rfl rfl rfl) (exec_ld rfl (ev rfl) (ldInt HCU.out)) ?_
                simp only [Act.put, List.setIfInBounds_toArray, List.set_cons_succ, List.set_cons_zero]
                refine wpList_val (v := .bool true) (wanted_of rfl rfl rfl rfl) (exec_geq true rfl (ev rfl) evk H44.out) ?_
                simp only [Act.put, List.setIfInBounds_toArray, List.set_cons_succ, List.set_cons_zero]
                refine wpList_valn (v := .bool true) rfl (exec_pt rfl (ev rfl) (ev rfl)) ?_
                simp only [Act.put, List.setIfInBounds_toArray, List.set_cons_succ, List.set_cons_zero]
                refine wpList_valn (v := .bool true) rfl (exec_mv rfl (ev rfl)) ?_
                simp only [Act.put, List.setIfInBounds_toArray, List.set_cons_succ, List.set_cons_zero]
                refine wpList_val (wanted_of rfl rfl rfl rfl) (exec_faddr rfl (ev rfl) faR2) ?_
                simp only [Act.put, List.setIfInBounds_toArray, List.set_cons_succ, List.set_cons_zero]
                refine wpList_val (wanted_of rfl rfl rfl rfl) (exec_ld rfl (ev rfl) (ldInt HCU.out)) ?_
                simp only [Act.put, List.setIfInBounds_toArray, List.set_cons_succ, List.set_cons_zero]
                refine wpList_val (wanted_of rfl rfl rfl rfl) (exec_faddr rfl (ev rfl) faR0) ?_
                simp only [Act.put, List.setIfInBounds_toArray, List.set_cons_succ, List.set_cons_zero]
                refine wpList_val (wanted_of rfl rfl rfl rfl) (exec_faddr rfl (ev rfl) faG1) ?_
                simp only [Act.put, List.setIfInBounds_toArray, List.set_cons_succ, List.set_cons_zero]
                refine wpList_val (wanted_of rfl rfl rfl rfl) (exec_ld rfl (ev rfl) (ldInt HSS.out)) ?_
                simp only [Act.put, List.setIfInBounds_toArray, List.set_cons_succ, List.set_cons_zero]
                refine wpList_val (v := .bool true) (wanted_of rfl rfl rfl rfl) (exec_lss true rfl (ev rfl) (ev rfl) H52.out) ?_
                simp only [Act.put, List.setIfInBounds_toArray, List.set_cons_succ, List.set_cons_zero]
                refine wpList_valn (v := .bool true) rfl (exec_pt rfl (ev rfl) (ev rfl)) ?_
                simp only [Act.put, List.setIfInBounds_toArray, List.set_cons_succ, List.set_cons_zero]
                refine wpList_valn (v := .bool true) rfl (exec_mv rfl (ev rfl)) ?_
                simp only [Act.put, List.setIfInBounds_toArray, List.set_cons_succ, List.set_cons_zero]
                refine wpList_val (wanted_of rfl rfl rfl rfl) (exec_mv rfl (ev rfl)) ?_
                simp only [Act.put, List.setIfInBounds_toArray, List.set_cons_succ, List.set_cons_zero]
                refine wpList_val (v := .bool true) (wanted_of rfl rfl rfl rfl) (exec_eqInt true rfl (ev rfl) evk H56.out) ?_
                simp only [Act.put, List.setIfInBounds_toArray, List.set_cons_succ, List.set_cons_zero]
                refine wpList_skips 3 (v := .bool true) (wanted_of rfl rfl rfl rfl) (exec_mv rfl (ev rfl)) (by kernel_rfl) ?_
                simp only [skipAct, List.take_succ_cons, List.take_zero, List.drop_succ_cons, List.drop_zero, Act.put, List.setIfInBounds_toArray, List.set_cons_succ, List.set_cons_zero]
                refine wpList_val (v := .bool true) (wanted_of rfl rfl rfl rfl) (exec_pt rfl (ev rfl) evk) ?_
                simp only [Act.put, List.setIfInBounds_toArray, List.set_cons_succ, List.set_cons_zero]
                refine wpList_valn (v := .bool true) rfl (exec_pt rfl (ev rfl) (ev rfl)) ?_
                simp only [Act.put, List.setIfInBounds_toArray, List.set_cons_succ, List.set_cons_zero]
                refine wpList_valn (v := .bool true) rfl (exec_as rfl (ev rfl)) ?_
                simp only [Act.put, List.setIfInBounds_toArray, List.set_cons_succ, List.set_cons_zero]
                refine wpList_nil ?_
                go_wp2_with fail
                go_ret
                exact ⟨ret_bool (by rw [HF.out]; rw [decide_eq_true q1, decide_eq_true (by omega)]; rfl), HB2.out⟩
              · have H56 : Hid (((n : Int) == 1) = false) := Lib.hid (by simp; omega)
                by_cases q5 : c = 0
                · have H60 : Hid ((c == 0) = true) := Lib.hid (by simpa using q5)
                  go_upto_region 11 with fail
                  refine wp_region_lit ?_
                  refine wpList_valn rfl (exec_mv rfl (ev rfl)) ?_
                  simp only [Act.put, List.setIfInBounds_toArray, List.set_cons_succ, List.set_cons_zero]
                  refine wpList_valn (v := .bool true) rfl (exec_leq true rfl (ev rfl) evk H40.out) ?_
                  simp only [Act.put, List.setIfInBounds_toArray, List.set_cons_succ, List.set_cons_zero]
                  refine wpList_valn (v := .bool true) rfl (exec_mv rfl (ev rfl)) ?_
                  simp only [Act.put, List.setIfInBounds_toArray, List.set_cons_succ, List.set_cons_zero]
                  refine wpList_val (wanted_of rfl rfl rfl rfl) (exec_faddr rfl (ev rfl) faR2) ?_
                  simp only [Act.put, List.setIfInBounds_toArray, List.set_cons_succ, List.set_cons_zero]
                  refine wpList_val (wanted_of rfl rfl rfl rfl) (exec_ld rfl (ev rfl) (ldInt HCU.out)) ?_
                  simp only [Act.put, List.setIfInBounds_toArray, List.set_cons_succ, List.set_cons_zero]
                  refine wpList_val (v := .bool true) (wanted_of rfl rfl rfl rfl) (exec_geq true rfl (ev rfl) evk H44.out) ?_
                  simp only [Act.put, List.setIfInBounds_toArray, List.set_cons_succ, List.set_cons_zero]
                  refine wpList_valn (v := .bool true) rfl (exec_pt rfl (ev rfl) (ev rfl)) ?_
                  simp only [Act.put, List.setIfInBounds_toArray, List.set_cons_succ, List.set_cons_zero]
                  refine wpList_valn (v := .bool true) rfl (exec_mv rfl (ev rfl)) ?_
                  simp only [Act.put, List.setIfInBounds_toArray, List.set_cons_succ, List.set_cons_zero]
                  refine wpList_val (wanted_of rfl rfl rfl rfl) (exec_faddr rfl (ev rfl) faR2) ?_
                  simp only [Act.put, List.setIfInBounds_toArray, List.set_cons_succ, List.set_cons_zero]
                  refine wpList_val (wanted_of rfl rfl rfl rfl) (exec_ld rfl (ev rfl) (ldInt HCU.out)) ?_
                  simp only [Act.put, List.setIfInBounds_toArray, List.set_cons_succ, List.set_cons_zero]
                  refine wpList_val (wanted_of rfl rfl rfl rfl) (exec_faddr rfl (ev rfl) faR0) ?_
                  simp only [Act.put, List.setIfInBounds_toArray, List.set_cons_succ, List.set_cons_zero]
                  refine wpList_val (wanted_of rfl rfl rfl rfl) (exec_faddr rfl (ev rfl) faG1) ?_
                  simp only [Act.put, List.setIfInBounds_toArray, List.set_cons_succ, List.set_cons_zero]
                  refine wpList_val (wanted_of rfl rfl rfl rfl) (exec_ld rfl (ev rfl) (ldInt HSS.out)) ?_
                  simp only [Act.put, List.setIfInBounds_toArray, List.set_cons_succ, List.set_cons_zero]
                  refine wpList_val (v := .bool true) (wanted_of rfl rfl rfl rfl) (exec_lss true rfl (ev rfl) (ev rfl) H52.out) ?_
                  simp only [Act.put, List.setIfInBounds_toArray, List.set_cons_succ, List.set_cons_zero]
                  refine wpList_valn (v := .bool true) rfl (exec_pt rfl (ev rfl) (ev rfl)) ?_
                  simp only [Act.put, List.setIfInBounds_toArray, List.set_cons_succ, List.set_cons_zero]
                  refine wpList_valn (v := .bool true) rfl (exec_mv rfl (ev rfl)) ?_
                  simp only [Act.put, List.setIfInBounds_toArray, List.set_cons_succ, List.set_cons_zero]
                  refine wpList_val (wanted_of rfl rfl rfl rfl) (exec_mv rfl (ev rfl)) ?_
                  simp only [Act.put, List.setIfInBounds_toArray, List.set_cons_succ, List.set_cons_zero]
                  refine wpList_val (v := .bool false) (wanted_of rfl rfl rfl rfl) (exec_eqInt false rfl (ev rfl) evk H56.out) ?_
                  simp only [Act.put, List.setIfInBounds_toArray, List.set_cons_succ, List.set_cons_zero]
                  refine wpList_val (v := .bool false) (wanted_of rfl rfl rfl rfl) (exec_mv rfl (ev rfl)) ?_
                  simp only [Act.put, List.setIfInBounds_toArray, List.set_cons_succ, List.set_cons_zero]
                  refine wpList_val (wanted_of rfl rfl rfl rfl) (exec_faddr rfl (ev rfl) faR2) ?_
                  simp only [Act.put, List.setIfInBounds_toArray, List.set_cons_succ, List.set_cons_zero]
                  refine wpList_val (wanted_of rfl rfl rfl rfl) (exec_ld rfl (ev rfl) (ldInt HCU.out)) ?_
                  simp only [Act.put, List.setIfInBounds_toArray, List.set_cons_succ, List.set_cons_zero]
                  refine wpList_val (v := .bool true) (wanted_of rfl rfl rfl rfl) (exec_eqInt true rfl (ev rfl) evk H60.out) ?_
                  simp only [Act.put, List.setIfInBounds_toArray, List.set_cons_succ, List.set_cons_zero]
                  refine wpList_val (v := .bool true) (wanted_of rfl rfl rfl rfl) (exec_pf rfl (ev rfl) (ev rfl)) ?_
                  simp only [Act.put, List.setIfInBounds_toArray, List.set_cons_succ, List.set_cons_zero]
                  refine wpList_valn (v := .bool true) rfl (exec_pt rfl (ev rfl) (ev rfl)) ?_
                  simp only [Act.put, List.setIfInBounds_toArray, List.set_cons_succ, List.set_cons_zero]
                  refine wpList_valn (v := .bool true) rfl (exec_as rfl (ev rfl)) ?_
                  simp only [Act.put, List.setIfInBounds_toArray, List.set_cons_succ, List.set_cons_zero]
                  refine wpList_nil ?_
                  go_wp2_with fail
                  go_ret
                  exact ⟨ret_bool (by rw [HF.out]; rw [decide_eq_true q1, decide_eq_true (by omega)]; rfl), HB2.out⟩
                · have H60 : Hid ((c == 0) = false) := Lib.hid (by simpa using q5)
                  go_upto_region 11 with fail
                  refine wp_region_lit ?_
                  refine wpList_valn rfl (exec_mv rfl (ev rfl)) ?_
                  simp only [Act.put, List.setIfInBounds_toArray, List.set_cons_succ, List.set_cons_zero]
                  refine wpList_valn (v := .bool true) rfl (exec_leq true rfl (ev rfl) evk H40.out) ?_
                  simp only [Act.put, List.setIfInBounds_toArray, List.set_cons_succ, List.set_cons_zero]
                  refine wpList_valn (v := .bool true) rfl (exec_mv rfl (ev rfl)) ?_
                  simp only [Act.put, List.setIfInBounds_toArray, List.set_cons_succ, List.set_cons_zero]
                  refine wpList_val (wanted_of rfl rfl rfl rfl) (exec_faddr rfl (ev rfl) faR2) ?_
                  simp only [Act.put, List.setIfInBounds_toArray, List.set_cons_succ, List.set_cons_zero]
                  refine wpList_val (wanted_of rfl rfl rfl rfl) (exec_ld rfl (ev rfl) (ldInt HCU.out)) ?_
                  simp only [Act.put, List.setIfInBounds_toArray, List.set_cons_succ, List.set_cons_zero]
                  refine wpList_val (v := .bool true) (wanted_of rfl rfl rfl rfl) (exec_geq true rfl (ev rfl) evk H44.out) ?_
                  simp only [Act.put, List.setIfInBounds_toArray, List.set_cons_succ, List.set_cons_zero]
                  refine wpList_valn (v := .bool true) rfl (exec_pt rfl (ev rfl) (ev rfl)) ?_
                  simp only [Act.put, List.setIfInBounds_toArray, List.set_cons_succ, List.set_cons_zero]
                  refine wpList_valn (v := .bool true) rfl (exec_mv rfl (ev rfl)) ?_
                  simp only [Act.put, List.setIfInBounds_toArray, List.set_cons_succ, List.set_cons_zero]
                  refine wpList_val (wanted_of rfl rfl rfl rfl) (exec_faddr rfl (ev rfl) faR2) ?_
                  simp only [Act.put, List.setIfInBounds_toArray, List.set_cons_succ, List.set_cons_zero]
                  refine wpList_val (wanted_of rfl rfl rfl rfl) (exec_ld rfl (ev rfl) (ldInt HCU.out)) ?_
                  simp only [Act.put, List.setIfInBounds_toArray, List.set_cons_succ, List.set_cons_zero]
                  refine wpList_val (wanted_of rfl rfl rfl rfl) (exec_faddr rfl (ev rfl) faR0) ?_
                  simp only [Act.put, List.setIfInBounds_toArray, List.set_cons_succ, List.set_cons_zero]
                  refine wpList_val (wanted_of rfl rfl rfl rfl) (exec_faddr rfl (ev rfl) faG1) ?_
                  simp only [Act.put, List.setIfInBounds_toArray, List.set_cons_succ, List.set_cons_zero]
                  refine wpList_val (wanted_of rfl rfl rfl rfl) (exec_ld rfl (ev rfl) (ldInt HSS.out)) ?_
                  simp only [Act.put, List.setIfInBounds_toArray, List.set_cons_succ, List.set_cons_zero]
                  refine wpList_val (v := .bool true) (wanted_of rfl rfl rfl rfl) (exec_lss true rfl (ev rfl) (ev rfl) H52.out) ?_
                  simp only [Act.put, List.setIfInBounds_toArray, List.set_cons_succ, List.set_cons_zero]
                  refine wpList_valn (v := .bool true) rfl (exec_pt rfl (ev rfl) (ev rfl)) ?_
                  simp only [Act.put, List.setIfInBounds_toArray, List.set_cons_succ, List.set_cons_zero]
                  refine wpList_valn (v := .bool true) rfl (exec_mv rfl (ev rfl)) ?_
                  simp only [Act.put, List.setIfInBounds_toArray, List.set_cons_succ, List.set_cons_zero]
                  refine wpList_val (wanted_of rfl rfl rfl rfl) (exec_mv rfl (ev rfl)) ?_
                  simp only [Act.put, List.setIfInBounds_toArray, List.set_cons_succ, List.set_cons_zero]
                  refine wpList_val (v := .bool false) (wanted_of rfl rfl rfl rfl) (exec_eqInt false rfl (ev rfl) evk H56.out) ?_
                  simp only [Act.put, List.setIfInBounds_toArray, List.set_cons_succ, List.set_cons_zero]
                  refine wpList_val (v := .bool false) (wanted_of rfl rfl rfl rfl) (exec_mv rfl (ev rfl)) ?_
                  simp only [Act.put, List.setIfInBounds_toArray, List.set_cons_succ, List.set_cons_zero]
                  refine wpList_val (wanted_of rfl rfl rfl rfl) (exec_faddr rfl (ev rfl) faR2) ?_
                  simp only [Act.put, List.setIfInBounds_toArray, List.set_cons_succ, List.set_cons_zero]
                  refine wpList_val (wanted_of rfl rfl rfl rfl) (exec_ld rfl (ev rfl) (ldInt HCU.out)) ?_
                  simp only [Act.put, List.setIfInBounds_toArray, List.set_cons_succ, List.set_cons_zero]
                  refine wpList_val (v := .bool false) (wanted_of rfl rfl rfl rfl) (exec_eqInt false rfl (ev rfl) evk H60.out) ?_
                  simp only [Act.put, List.setIfInBounds_toArray, List.set_cons_succ, List.set_cons_zero]
                  refine wpList_val (v := .bool false) (wanted_of rfl rfl rfl rfl) (exec_pf rfl (ev rfl) (ev rfl)) ?_
                  simp only [Act.put, List.setIfInBounds_toArray, List.set_cons_succ, List.set_cons_zero]
                  refine wpList_valn (v := .bool false) rfl (exec_pt rfl (ev rfl) (ev rfl)) ?_
                  simp only [Act.put, List.setIfInBounds_toArray, List.set_cons_succ, List.set_cons_zero]
                  refine wpList_valn (v := .bool false) rfl (exec_as rfl (ev rfl)) ?_
                  simp only [Act.put, List.setIfInBounds_toArray, List.set_cons_succ, List.set_cons_zero]
                  refine wpList_nil ?_
                  go_wp2_with fail
                  go_ret
                  exact ⟨ret_bool (by rw [HF.out]; rw [decide_eq_true q1, decide_eq_false (by omega)]; rfl), HB2.out⟩
            · have H52 : Hid (decide (c < s) = false) := Lib.hid (decide_eq_false q3)
              go_upto_region 11 with fail
              refine wp_region_lit ?_
              refine wpList_valn rfl (exec_mv rfl (ev rfl)) ?_
              simp only [Act.put, List.setIfInBounds_toArray, List.set_cons_succ, List.set_cons_zero]
              refine wpList_valn (v := .bool true) rfl (exec_leq true rfl (ev rfl) evk H40.out) ?_
              simp only [Act.put, List.setIfInBounds_toArray, List.set_cons_succ, List.set_cons_zero]
              refine wpList_valn (v := .bool true) rfl (exec_mv rfl (ev rfl)) ?_
              simp only [Act.put, List.setIfInBounds_toArray, List.set_cons_succ, List.set_cons_zero]
              refine wpList_val (wanted_of rfl rfl rfl rfl) (exec_faddr rfl (ev rfl) faR2) ?_
              simp only [Act.put, List.setIfInBounds_toArray, List.set_cons_succ, List.set_cons_zero]
              refine wpList_val (wanted_of rfl rfl rfl rfl) (exec_ld rfl (ev rfl) (ldInt HCU.out)) ?_
              simp only [Act.put, List.setIfInBounds_toArray, List.set_cons_succ, List.set_cons_zero]
              refine wpList_val (v := .bool true) (wanted_of rfl rfl rfl rfl) (exec_geq true rfl (ev rfl) evk H44.out) ?_
              simp only [Act.put, List.setIfInBounds_toArray, List.set_cons_succ, List.set_cons_zero]
              refine wpList_valn (v := .bool true) rfl (exec_pt rfl (ev rfl) (ev rfl)) ?_
              simp only [Act.put, List.setIfInBounds_toArray, List.set_cons_succ, List.set_cons_zero]
              refine wpList_valn (v := .bool true) rfl (exec_mv rfl (ev rfl)) ?_
              simp only [Act.put, List.setIfInBounds_toArray, List.set_cons_succ, List.set_cons_zero]
              refine wpList_val (wanted_of rfl rfl rfl rfl) (exec_faddr rfl (ev rfl) faR2) ?_
              simp only [Act.put, List.setIfInBounds_toArray, List.set_cons_succ, List.set_cons_zero]
              refine wpList_val (wanted_of rfl rfl rfl rfl) (exec_ld rfl (ev rfl) (ldInt HCU.out)) ?_
              simp only [Act.put, List.setIfInBounds_toArray, List.set_cons_succ, List.set_cons_zero]
              refine wpList_val (wanted_of rfl rfl rfl rfl) (exec_faddr rfl (ev rfl) faR0) ?_
              simp only [Act.put, List.setIfInBounds_toArray, List.set_cons_succ, List.set_cons_zero]
              refine wpList_val (wanted_of rfl rfl rfl rfl) (exec_faddr rfl (ev rfl) faG1) ?_
              simp only [Act.put, List.setIfInBounds_toArray, List.set_cons_succ, List.set_cons_zero]
              refine wpList_val (wanted_of rfl rfl rfl rfl) (exec_ld rfl (ev rfl) (ldInt HSS.out)) ?_
              simp only [Act.put, List.setIfInBounds_toArray, List.set_cons_succ, List.set_cons_zero]
              refine wpList_val (v := .bool false) (wanted_of rfl rfl rfl rfl) (exec_lss false rfl (ev rfl) (ev rfl) H52.out) ?_
              simp only [Act.put, List.setIfInBounds_toArray, List.set_cons_succ, List.set_cons_zero]
              refine wpList_valn (v := .bool false) rfl (exec_pt rfl (ev rfl) (ev rfl)) ?_
              simp only [Act.put, List.setIfInBounds_toArray, List.set_cons_succ, List.set_cons_zero]
              refine wpList_skips 7 (v := .bool false) rfl (exec_mv rfl (ev rfl)) (by kernel_rfl) ?_
              simp only [skipAct, List.take_succ_cons, List.take_zero, List.drop_succ_cons, List.drop_zero, Act.put, List.setIfInBounds_toArray, List.set_cons_succ, List.set_cons_zero]
              refine wpList_valn (v := .bool false) rfl (exec_pf rfl (ev rfl) evk) ?_
              simp only [Act.put, List.setIfInBounds_toArray, List.set_cons_succ, List.set_cons_zero]
              refine wpList_valn (v := .bool false) rfl (exec_as rfl (ev rfl)) ?_
              simp only [Act.put, List.setIfInBounds_toArray, List.set_cons_succ, List.set_cons_zero]
              refine wpList_nil ?_
              go_wp2_with fail
              go_ret
              exact ⟨ret_bool (by rw [HF.out]; rw [decide_eq_true q1, decide_eq_false (by omega)]; rfl), HB2.out⟩
          · have H44 : Hid (decide ((0 : Int) ≤ c) = false) := Lib.hid (decide_eq_false q2)
            go_upto_region 11 with fail
            refine wp_region_lit ?_
            refine wpList_valn rfl (exec_mv rfl (ev rfl)) ?_
            simp only [Act.put, List.setIfInBounds_toArray, List.set_cons_succ, List.set_cons_zero]
            refine wpList_valn (v := .bool true) rfl (exec_leq true rfl (ev rfl) evk H40.out) ?_
            simp only [Act.put, List.setIfInBounds_toArray, List.set_cons_succ, List.set_cons_zero]
            refine wpList_valn (v := .bool true) rfl (exec_mv rfl (ev rfl)) ?_
            simp only [Act.put, List.setIfInBounds_toArray, List.set_cons_succ, List.set_cons_zero]
            refine wpList_val (wanted_of rfl rfl rfl rfl) (exec_faddr rfl (ev rfl) faR2) ?_
            simp only [Act.put, List.setIfInBounds_toArray, List.set_cons_succ, List.set_cons_zero]
            refine wpList_val (wanted_of rfl rfl rfl rfl) (exec_ld rfl (ev rfl) (ldInt HCU.out)) ?_
            simp only [Act.put, List.setIfInBounds_toArray, List.set_cons_succ, List.set_cons_zero]
            refine wpList_val (v := .bool false) (wanted_of rfl rfl rfl rfl) (exec_geq false rfl (ev rfl) evk H44.out) ?_
            simp only [Act.put, List.setIfInBounds_toArray, List.set_cons_succ, List.set_cons_zero]
            refine wpList_valn (v := .bool false) rfl (exec_pt rfl (ev rfl) (ev rfl)) ?_
            simp only [Act.put, List.setIfInBounds_toArray, List.set_cons_succ, List.set_cons_zero]
            refine wpList_skips 6 (v := .bool false) rfl (exec_mv rfl (ev rfl)) (by kernel_rfl) ?_
            simp only [skipAct, List.take_succ_cons, List.take_zero, List.drop_succ_cons, List.drop_zero, Act.put, List.setIfInBounds_toArray, List.set_cons_succ, List.set_cons_zero]
            refine wpList_valn (v := .bool false) rfl (exec_pf rfl (ev rfl) evk) ?_
            simp only [Act.put, List.setIfInBounds_toArray, List.set_cons_succ, List.set_cons_zero]
            refine wpList_skips 7 (v := .bool false) rfl (exec_mv rfl (ev rfl)) (by kernel_rfl) ?_
            simp only [skipAct, List.take_succ_cons, List.take_zero, List.drop_succ_cons, List.drop_zero, Act.put, List.setIfInBounds_toArray, List.set_cons_succ, List.set_cons_zero]
            refine wpList_valn (v := .bool false) rfl (exec_pf rfl (ev rfl) evk) ?_
            simp only [Act.put, List.setIfInBounds_toArray, List.set_cons_succ, List.set_cons_zero]
            refine wpList_valn (v := .bool false) rfl (exec_as rfl (ev rfl)) ?_
            simp only [Act.put, List.setIfInBounds_toArray, List.set_cons_succ, List.set_cons_zero]
            refine wpList_nil ?_
            go_wp2_with fail
            go_ret
            exact ⟨ret_bool (by rw [HF.out]; rw [decide_eq_true q1, decide_eq_false (by omega)]; rfl), HB2.out⟩
        · have H40 : Hid (decide ((n : Int) ≤ 1) = false) := Lib.hid (decide_eq_false (by omega))
          go_upto_region 11 with fail
          refine wp_region_lit ?_
          refine wpList_valn rfl (exec_mv rfl (ev rfl)) ?_
          simp only [Act.put, List.setIfInBounds_toArray, List.set_cons_succ, List.set_cons_zero]
          refine wpList_valn (v := .bool false) rfl (exec_leq false rfl (ev rfl) evk H40.out) ?_
          simp only [Act.put, List.setIfInBounds_toArray, List.set_cons_succ, List.set_cons_zero]
          refine wpList_skips 3 (v := .bool false) rfl (exec_mv rfl (ev rfl)) (by kernel_rfl) ?_
          simp only [skipAct, List.take_succ_cons, List.take_zero, List.drop_succ_cons, List.drop_zero, Act.put, List.setIfInBounds_toArray, List.set_cons_succ, List.set_cons_zero]
          refine wpList_valn (v := .bool false) rfl (exec_pf rfl (ev rfl) evk) ?_
          simp only [Act.put, List.setIfInBounds_toArray, List.set_cons_succ, List.set_cons_zero]
          refine wpList_skips 6 (v := .bool false) rfl (exec_mv rfl (ev rfl)) (by kernel_rfl) ?_
          simp only [skipAct, List.take_succ_cons, List.take_zero, List.drop_succ_cons, List.drop_zero, Act.put, List.setIfInBounds_toArray, List.set_cons_succ, List.set_cons_zero]
          refine wpList_valn (v := .bool false) rfl (exec_pf rfl (ev rfl) evk) ?_
          simp only [Act.put, List.setIfInBounds_toArray, List.set_cons_succ, List.set_cons_zero]
          refine wpList_skips 7 (v := .bool false) rfl (exec_mv rfl (ev rfl)) (by kernel_rfl) ?_
          simp only [skipAct, List.take_succ_cons, List.take_zero, List.drop_succ_cons, List.drop_zero, Act.put, List.setIfInBounds_toArray, List.set_cons_succ, List.set_cons_zero]
          refine wpList_valn (v := .bool false) rfl (exec_pf rfl (ev rfl) evk) ?_
          simp only [Act.put, List.setIfInBounds_toArray, List.set_cons_succ, List.set_cons_zero]
          refine wpList_valn (v := .bool false) rfl (exec_as rfl (ev rfl)) ?_
          simp only [Act.put, List.setIfInBounds_toArray, List.set_cons_succ, List.set_cons_zero]
          refine wpList_nil ?_
          go_wp2_with fail
          go_ret
          exact ⟨ret_bool (by rw [HF.out]; rw [decide_eq_false q1]; rfl), HB2.out⟩
end Go.Proofs.Ytnckcafemdcaeaa
