/-
  The document's mark: Get.
-/
import Derived.Test.YtmdpbnolgbfaeaaDoorMra
import Derived.Test.YtmdpbnolgbfaeaaDoorSrd
namespace Go.Proofs.YtmdpbnolgbfaeaaDoor
open Go.RowKit
set_option linter.unusedVariables false
set_option linter.unusedSimpArgs false
set_option maxRecDepth 100000

theorem rm_no {b : Blk} (h0 : getE b.toList = 0) (h : ¬ codM.good b = true) : codM.gN b = 0 ∧ (codM.gX b).m = zeroM ∧ codM.gE b = 5 := by
  have hE := codM.gE_form h0 h
  refine ⟨codM.gN_no (by omega), ?_, hE⟩
  rw [codM.gX_no (by omega)]
  rfl
theorem rm_good {b : Blk} : codM.good b = true ↔ (evB (getN b.toList) = true ∧ mrkB (toldM (getB b.toList)) = true) ∧ fullM (toldM (getB b.toList)) = getB b.toList := by
  rw [codM.good_iff]
  have : codM.may (codM.raw b) = (evB (getN b.toList) && mrkB (toldM (getB b.toList))) := rfl
  rw [this, Bool.and_eq_true]
  rfl
theorem rm_yes {b : Blk} (h0 : getE b.toList = 0) (hev : evB (getN b.toList) = true) (hm : mrkB (toldM (getB b.toList)) = true) (hz : ∀ j, 26 ≤ j → j < 44 → bt (getB b.toList) j = 0) :
    codM.gN b = getN b.toList ∧ (codM.gX b).m = toldM (getB b.toList) ∧ codM.gE b = 0 := by
  have hE := codM.gE_ok h0 (rm_good.2 ⟨⟨hev, hm⟩, (full_toldM (getB_len h0)).2 hz⟩)
  refine ⟨codM.gN_of hE, ?_, hE⟩
  rw [codM.gX_of hE]
  rfl
set_option maxHeartbeats 4000000 in
theorem rmget (b : Blk) (w : World) : Calls Tryd.prog 15 #[blk b] w fun e w' => e = .returned (.tuple #[.int .u64 (codM.gN b : Nat), mrk (codM.gX b).m, .int .i64 (codM.gE b : Nat)]) ∧ Below w.heap.size w w' := by
  have hN1 := fun h0 : getE b.toList = 0 => fun h : ¬ evB (getN b.toList) = true => Lib.hid (rm_no h0 (fun hg => h (rm_good.1 hg).1.1))
  have hN2 := fun h0 : getE b.toList = 0 => fun h : ¬ mrkB (toldM (getB b.toList)) = true => Lib.hid (rm_no h0 (fun hg => h (rm_good.1 hg).1.2))
  have hN3 := fun h0 : getE b.toList = 0 => fun j h1 h2 (h : bt (getB b.toList) j ≠ 0) => Lib.hid (rm_no h0 (fun hg => h ((full_toldM (getB_len h0)).1 (rm_good.1 hg).2 j h1 h2)))
  have hY := fun h0 : getE b.toList = 0 => fun h1 h2 h3 => Lib.hid (rm_yes h0 h1 h2 h3)
  have hS := fun h0 : getE b.toList ≠ 0 => codM.gE_seal h0
  have hlen := fun h0 : getE b.toList = 0 => getB_len h0
  have hpos := fun h0 : getE b.toList = 0 => (fun e => getN_zero.1 e h0 : getN b.toList ≠ 0)
  obtain ⟨gn, hgn⟩ : ∃ g, codM.gN b = g := ⟨_, rfl⟩
  obtain ⟨gx, hgx⟩ : ∃ g, (codM.gX b).m = g := ⟨_, rfl⟩
  obtain ⟨ge, hge⟩ : ∃ g, codM.gE b = g := ⟨_, rfl⟩
  have hS2 : getE b.toList ≠ 0 → gn = 0 ∧ gx = zeroM ∧ ge = getE b.toList := fun h => by
    have h1 := hS h
    rw [← hgn, ← hgx, ← hge]
    refine ⟨codM.gN_no (by omega), ?_, h1⟩
    rw [codM.gX_no (by omega)]
    rfl
  rw [hgn, hgx, hge] at hN1 hN2 hN3 hY ⊢
  clear hS hgn hgx hge
  obtain ⟨n, hn⟩ : ∃ n, getN b.toList = n := ⟨_, rfl⟩
  obtain ⟨l, hl⟩ : ∃ l, getB b.toList = l := ⟨_, rfl⟩
  obtain ⟨E, hE⟩ : ∃ E, getE b.toList = E := ⟨_, rfl⟩
  have HN := Lib.hid hn
  have HL := Lib.hid hl
  have HE := Lib.hid hE
  rw [hn] at hN1 hY hpos
  rw [hl] at hN2 hN3 hY hlen
  rw [hE] at hN1 hN2 hN3 hY hS2 hlen hpos
  clear hn hl hE
  have h1 := (Below.refl w.heap.size w).alloc (Nat.le_refl _) (.cells (cel b).toArray 26)
  have h2 := h1.alloc h1.size (.cells (celM zeroM).toArray 24)
  have HA : Hid (((w.alloc (.cells (cel b).toArray 26)).alloc (.cells (celM zeroM).toArray 24)).rangeAt w.heap.size 0 (cel b)) := Lib.hid (World.rangeAt_alloc (range_new w (cel b) 26) _)
  have hsn := MrkAt.new (w.alloc (.cells (cel b).toArray 26)) zeroM
  rw [World.size_alloc] at hsn
  have HR := Lib.hid hsn.there
  have HZ := Lib.hid (blk_lt hsn)
  have HB := Lib.hid h2
  clear h1 h2 hsn
  have HN1 := fun h0 h => Lib.hid (hN1 h0 h).out
  have HN2 := fun h0 h => Lib.hid (hN2 h0 h).out
  have HN3 := fun h0 j h1 h2 h => Lib.hid (hN3 h0 j h1 h2 h).out
  have HY := fun h0 h1 h2 h3 => Lib.hid (hY h0 h1 h2 h3).out
  have HS := fun h => Lib.hid (hS2 h)
  have HLEN := fun h => Lib.hid (hlen h)
  have HPOS := fun h => Lib.hid (hpos h)
  clear hN1 hN2 hN3 hY hS2 hlen hpos
  go_enter Tryd.func15, Tryd.ntmps15
  go_wp2_with (first | (refine wpList_valn rfl (exec_box rfl rfl) ?_) | (refine wpList_valn rfl (exec_allocM rfl) ?_) | (refine wpList_valn rfl (exec_load (c := b) rfl rfl ?_) ?_; (with_reducible exact HA.out)) | fail)
  try simp only [World.size_alloc]
  generalize (w.alloc (.cells (cel b).toArray 26)).alloc (.cells (celM zeroM).toArray 24) = w0 at *
  refine (rget_any b _ w0 (Lib.hid rfl)).mono ?_
  rintro e w1 ⟨v, rfl, hv, hb⟩
  rw [HN.out, HE.out]
  rw [HL.out] at hv
  have HR1 := Lib.hid (there_below HR.out HZ.out hb)
  have HB1 := Lib.hid (HB.out.trans (hb.mono HB.out.size))
  have HZ1 : Hid (w.heap.size + 1 < w1.heap.size) := Lib.hid (Nat.lt_of_lt_of_le HZ.out hb.size)
  clear hb HA HR HB HZ
  by_cases h0 : E = 0
  · have HM1 := Lib.hid hv
    have HLL := HLEN h0
    have HP := HPOS h0
    have K1 := fun h => HN1 h0 h
    have K2 := fun h => HN2 h0 h
    have K3 := fun j h1 h2 h => HN3 h0 j h1 h2 h
    have KY := fun h1 h2 h3 => HY h0 h1 h2 h3
    subst h0
    clear hv HN1 HN2 HN3 HY HS HLEN HPOS
    obtain ⟨A, c, rfl, hrd, _, _⟩ := HM1.out.open_ HLL.out
    have HRD := Lib.hid hrd
    clear hrd HM1
    obtain ⟨v0, h0⟩ : ∃ v, val 8 (piece l 0 8) = v := ⟨_, rfl⟩
    obtain ⟨v1, h1⟩ : ∃ v, val 8 (piece l 8 2) = v := ⟨_, rfl⟩
    obtain ⟨v2, h2⟩ : ∃ v, val 8 (piece l 10 8) = v := ⟨_, rfl⟩
    obtain ⟨v3, h3⟩ : ∃ v, val 8 (piece l 18 8) = v := ⟨_, rfl⟩
    have b1 : v1 < 65536 := by rw [← h1]; exact val_piece_lt (b := l) (p := 8) (k := 2) (by rw [HLL.out]; omega)
    have HV0 := Lib.hid h0
    have HV1 := Lib.hid h1
    have HV2 := Lib.hid h2
    have HV3 := Lib.hid h3
    have hT : toldM l = ⟨v0, (v1 : Nat), v2, v3⟩ := by unfold toldM; rw [h0, h1, h2, h3]
    rw [hT] at K2 KY
    clear h0 h1 h2 h3 hT
    go_wp2_with fail
    refine (rget_ok A 44 c _ l 0 8 w1 HRD.out (by unfold maxLen; omega) (by omega) (by omega) (by omega)).mono ?_
    rintro e w' ⟨rfl, rfl⟩
    rw [HV0.out]
    go_wp2_with fail
    refine (rget_ok A 44 c _ l 8 2 w1 HRD.out (by unfold maxLen; omega) (by omega) (by omega) (by omega)).mono ?_
    rintro e w' ⟨rfl, rfl⟩
    rw [HV1.out]
    go_wp2_with fail
    refine (rget_ok A 44 c _ l 10 8 w1 HRD.out (by unfold maxLen; omega) (by omega) (by omega) (by omega)).mono ?_
    rintro e w' ⟨rfl, rfl⟩
    rw [HV2.out]
    go_wp2_with fail
    refine (rget_ok A 44 c _ l 18 8 w1 HRD.out (by unfold maxLen; omega) (by omega) (by omega) (by omega)).mono ?_
    rintro e w' ⟨rfl, rfl⟩
    rw [HV3.out]
    obtain ⟨y, hy⟩ : ∃ y : Mrk, y = ⟨v0, (v1 : Nat), v2, v3⟩ := ⟨_, rfl⟩
    rw [← hy] at K2 KY
    have HYD := Lib.hid hy
    clear hy
    have hb2 := (Below.refl w1.heap.size w1).alloc (Nat.le_refl _) (.cells (celM y).toArray 24)
    have HS2 := Lib.hid (MrkAt.new w1 y)
    have HR2 := Lib.hid (there_below HR1.out HZ1.out hb2)
    have HB2 := Lib.hid (HB1.out.trans (hb2.mono HB1.out.size))
    have HRD2 := Lib.hid (HRD.out.below hb2)
    have HZ2 : Hid (w.heap.size + 1 < (w1.alloc (.cells (celM y).toArray 24)).heap.size) := Lib.hid (Nat.lt_of_lt_of_le HZ1.out hb2.size)
    clear hb2 HR1 HB1 HRD HV0 HV1 HV2 HV3
    go_upto_region 9 with (first | (refine wpList_valn rfl (exec_bldM4 v0 v1 v2 v3 rfl rfl rfl rfl rfl) ?_) | (refine wpList_valn rfl (exec_allocM rfl) ?_) | (refine wpList_nuln rfl (exec_fillM (c := ⟨v0, (v1 : Nat), v2, v3⟩) rfl rfl rfl) ?_) | fail)
    rw [← HYD.out]
    generalize w1.alloc (.cells (celM y).toArray 24) = w2 at *
    generalize w1.heap.size = s at *
    clear HYD
    have HAL : Hid (∀ k, 26 ≤ k → k < 26 → bt l k = 0) := Lib.hid fun k h1 h2 => by omega
    go_wp2_with fail
    go_loop [17] (fun i => ∃ j : Nat, 26 ≤ j ∧ j ≤ 44 ∧ i = .int .i64 j ∧ Hid (∀ k, 26 ≤ k → k < j → bt l k = 0)) (fun i => 44 - (intOf i).toNat)
    case atStart => exact ⟨26, by omega, by omega, rfl, HAL⟩
    case round =>
      clear HAL
      obtain ⟨j, hj1, hj2, rfl, HAL⟩ := hrel
      by_cases hlt : j < 44
      · obtain ⟨bA, oA, rfl, hA, cA⟩ := HRD2.out.2 j hlt
        by_cases hz : bt l j = 0
        · have HAN : Hid (∀ k, 26 ≤ k → k < j + 1 → bt l k = 0) := Lib.hid fun k h1 h2 => by
            by_cases e : k = j
            · rw [e]; exact hz
            · exact HAL.out k h1 (by omega)
          rw [hz] at cA
          clear hz
          go_wp2
          go_round
          case rel => exact ⟨j + 1, by omega, by omega, by go_num, HAN⟩
          case measure => simp [intOf]; omega
        · have HF := K3 j hj1 hlt hz
          have HRX := HR2
          have HBX := HB2
          have hbz : (bt l j != 0) = true := by simpa using hz
          clear K1 K2 K3 KY
          go_wp2_with (first | (refine wpList_valn rfl (exec_bldM rfl) ?_) | (refine wpList_nuln rfl (exec_putM (c := zeroM) rfl rfl rfl ?_) ?_; (with_reducible exact HRX.out)) | fail)
          refine bodyPost_ret (res_tri (t := 24) (cs := celM zeroM) rfl _ _ _ rfl ?h1 Tryd.underlying24 rfl ?h2) rfl ⟨by rw [HF.out.1, HF.out.2.1, HF.out.2.2]; rfl, ?h3⟩
          case h1 => exact World.rangeAt_setCells_same _ _ _ _ HRX.out
          case h2 => exact sizeM
          case h3 => exact below_setCells HBX.out (Nat.le_succ _) _
      · have hj : j = 44 := by omega
        subst hj
        clear hj1 hj2 hlt
        go_upto_region 14 with fail
        by_cases k1 : 4611686018427387904 < n
        · have H1 : Hid (decide ((4611686018427387904 : Int) < (n : Int)) = true) := Lib.hid (decide_eq_true (by omega))
          have HF := K1 (fun h => by have := of_evB h; omega)
          have HRX := HR2
          have HBX := HB2
          clear k1 K1 K2 K3 KY
          refine wp_region_lit ?_
          refine wpList_valn rfl (exec_mv rfl (ev rfl)) ?_
          simp only [Act.put, List.setIfInBounds_toArray, List.set_cons_succ, List.set_cons_zero]
          refine wpList_valn (v := .bool true) rfl (exec_gtr true rfl (ev rfl) evk H1.out) ?_
          simp only [Act.put, List.setIfInBounds_toArray, List.set_cons_succ, List.set_cons_zero]
          refine wpList_skips 3 (v := .bool true) rfl (exec_mv rfl (ev rfl)) (by kernel_rfl) ?_
          simp only [skipAct, List.take_succ_cons, List.take_zero, List.drop_succ_cons, List.drop_zero, Act.put, List.setIfInBounds_toArray, List.set_cons_succ, List.set_cons_zero]
          refine wpList_valn (v := .bool true) rfl (exec_pt rfl (ev rfl) evk) ?_
          simp only [Act.put, List.setIfInBounds_toArray, List.set_cons_succ, List.set_cons_zero]
          refine wpList_nil ?_
          go_wp2_with (first | (refine wpList_valn rfl (exec_bldM rfl) ?_) | (refine wpList_nuln rfl (exec_putM (c := zeroM) rfl rfl rfl ?_) ?_; (with_reducible exact HRX.out)) | fail)
          refine bodyPost_ret (res_tri (t := 24) (cs := celM zeroM) rfl _ _ _ rfl ?h1 Tryd.underlying24 rfl ?h2) rfl ⟨by rw [HF.out.1, HF.out.2.1, HF.out.2.2]; rfl, ?h3⟩
          case h1 => exact World.rangeAt_setCells_same _ _ _ _ HRX.out
          case h2 => exact sizeM
          case h3 => exact below_setCells HBX.out (Nat.le_succ _) _
        · have H1 : Hid (decide ((4611686018427387904 : Int) < (n : Int)) = false) := Lib.hid (decide_eq_false (by omega))
          have hev : evB n = true := by unfold evB; exact decide_eq_true ⟨Nat.pos_of_ne_zero HP.out, by omega⟩
          clear k1
          by_cases hm : mrkB y = true
          · have HM := Lib.hid hm
            have HF := KY hev hm (fun k h1 h2 => HAL.out k h1 h2)
            clear hev hm K1 K2 K3 KY
            refine wp_region_lit ?_
            refine wpList_valn rfl (exec_mv rfl (ev rfl)) ?_
            simp only [Act.put, List.setIfInBounds_toArray, List.set_cons_succ, List.set_cons_zero]
            refine wpList_valn (v := .bool false) rfl (exec_gtr false rfl (ev rfl) evk H1.out) ?_
            simp only [Act.put, List.setIfInBounds_toArray, List.set_cons_succ, List.set_cons_zero]
            refine wpList_valn (v := .bool false) rfl (exec_mv rfl (ev rfl)) ?_
            simp only [Act.put, List.setIfInBounds_toArray, List.set_cons_succ, List.set_cons_zero]
            refine wpList_val (wanted_of rfl rfl rfl rfl) (exec_loadM (c := y) rfl (ev rfl) HS2.out.range) ?_
            simp only [Act.put, List.setIfInBounds_toArray, List.set_cons_succ, List.set_cons_zero]
            refine wpList_call (wanted_of rfl rfl rfl rfl) (exec_cl Tryd.call10 rfl (evc (ev rfl) evn)) ?_
            refine (rmmay_b y _ HM.out).mono ?_
            rintro e w3 ⟨rfl, hb⟩
            refine ⟨_, rfl, ?_⟩
            simp only [Act.put, List.setIfInBounds_toArray, List.set_cons_succ, List.set_cons_zero]
            refine wpList_val (v := .bool false) (wanted_of rfl rfl rfl rfl) (exec_not true rfl (ev rfl)) ?_
            simp only [Act.put, List.setIfInBounds_toArray, List.set_cons_succ, List.set_cons_zero]
            refine wpList_valn (v := .bool false) rfl (exec_pf rfl (ev rfl) (ev rfl)) ?_
            simp only [Act.put, List.setIfInBounds_toArray, List.set_cons_succ, List.set_cons_zero]
            refine wpList_nil ?_
            have HR3 := Lib.hid (there_below HR2.out HZ2.out hb)
            have HB3 := Lib.hid (HB2.out.trans (hb.mono HB2.out.size))
            have HLD := Lib.hid (HS2.out.below (blk_lt HS2.out) hb).range
            clear hb HR2 HB2 HS2
            go_wp2_with fail
            refine wp_region_still_tail 3 (by kernel_rfl) (by kernel_rfl) ?_
            simp only [List.take_succ_cons, List.take_zero, List.drop_succ_cons, List.drop_zero]
            refine st_val rfl (exec_mv rfl (ev rfl)) ?_
            simp only [Act.put, List.setIfInBounds_toArray, List.set_cons_succ, List.set_cons_zero]
            refine st_val rfl (exec_loadM (c := y) rfl (ev rfl) HLD.out) ?_
            simp only [Act.put, List.setIfInBounds_toArray, List.set_cons_succ, List.set_cons_zero]
            refine st_val rfl (exec_as rfl (ev rfl)) ?_
            simp only [Act.put, List.setIfInBounds_toArray, List.set_cons_succ, List.set_cons_zero]
            refine wpStill_nil ?_
            change wpList _ _ _ _ _ (World.drew _)
            refine wpList_nul rfl (exec_putM (c := y) rfl (ev rfl) (ev rfl) HR3.out) ?_
            simp only [Act.put, List.setIfInBounds_toArray, List.set_cons_succ, List.set_cons_zero]
            refine wpList_val rfl (exec_as rfl evk) ?_
            simp only [Act.put, List.setIfInBounds_toArray, List.set_cons_succ, List.set_cons_zero]
            refine wpList_nil ?_
            go_wp2_with fail
            refine bodyPost_ret (res_tri (t := 24) (cs := celM y) rfl _ _ _ rfl ?h1 Tryd.underlying24 rfl ?h2) rfl ⟨by rw [HF.out.1, HF.out.2.1, HF.out.2.2]; rfl, ?h3⟩
            case h1 => exact World.rangeAt_setCells_same _ _ _ _ HR3.out
            case h2 => exact sizeM
            case h3 => exact below_setCells (bd HB3.out) (Nat.le_succ _) _
          · have hm' : mrkB y = false := by simpa using hm
            have HM := Lib.hid hm'
            have HF := K2 hm
            clear hev hm hm' K1 K2 K3 KY
            refine wp_region_lit ?_
            refine wpList_valn rfl (exec_mv rfl (ev rfl)) ?_
            simp only [Act.put, List.setIfInBounds_toArray, List.set_cons_succ, List.set_cons_zero]
            refine wpList_valn (v := .bool false) rfl (exec_gtr false rfl (ev rfl) evk H1.out) ?_
            simp only [Act.put, List.setIfInBounds_toArray, List.set_cons_succ, List.set_cons_zero]
            refine wpList_valn (v := .bool false) rfl (exec_mv rfl (ev rfl)) ?_
            simp only [Act.put, List.setIfInBounds_toArray, List.set_cons_succ, List.set_cons_zero]
            refine wpList_val (wanted_of rfl rfl rfl rfl) (exec_loadM (c := y) rfl (ev rfl) HS2.out.range) ?_
            simp only [Act.put, List.setIfInBounds_toArray, List.set_cons_succ, List.set_cons_zero]
            refine wpList_call (wanted_of rfl rfl rfl rfl) (exec_cl Tryd.call10 rfl (evc (ev rfl) evn)) ?_
            refine (rmmay_b y _ HM.out).mono ?_
            rintro e w3 ⟨rfl, hb⟩
            refine ⟨_, rfl, ?_⟩
            simp only [Act.put, List.setIfInBounds_toArray, List.set_cons_succ, List.set_cons_zero]
            refine wpList_val (v := .bool true) (wanted_of rfl rfl rfl rfl) (exec_not false rfl (ev rfl)) ?_
            simp only [Act.put, List.setIfInBounds_toArray, List.set_cons_succ, List.set_cons_zero]
            refine wpList_valn (v := .bool true) rfl (exec_pf rfl (ev rfl) (ev rfl)) ?_
            simp only [Act.put, List.setIfInBounds_toArray, List.set_cons_succ, List.set_cons_zero]
            refine wpList_nil ?_
            have HRX := Lib.hid (there_below HR2.out HZ2.out hb)
            have HBX := Lib.hid (HB2.out.trans (hb.mono HB2.out.size))
            clear hb HR2 HB2 HS2
            go_wp2_with (first | (refine wpList_valn rfl (exec_bldM rfl) ?_) | (refine wpList_nuln rfl (exec_putM (c := zeroM) rfl rfl rfl ?_) ?_; (with_reducible exact HRX.out)) | fail)
            refine bodyPost_ret (res_tri (t := 24) (cs := celM zeroM) rfl _ _ _ rfl ?h1 Tryd.underlying24 rfl ?h2) rfl ⟨by rw [HF.out.1, HF.out.2.1, HF.out.2.2]; rfl, ?h3⟩
            case h1 => exact World.rangeAt_setCells_same _ _ _ _ HRX.out
            case h2 => exact sizeM
            case h3 => exact below_setCells HBX.out (Nat.le_succ _) _
  · have HF := HS h0
    have hne : ((E : Int) != 0) = true := by simp; omega
    have HRX := HR1
    have HBX := HB1
    clear h0 HN1 HN2 HN3 HY HS HLEN HPOS hv
    go_wp2_with (first | (refine wpList_valn rfl (exec_bldM rfl) ?_) | (refine wpList_nuln rfl (exec_putM (c := zeroM) rfl rfl rfl ?_) ?_; (with_reducible exact HRX.out)) | fail)
    refine bodyPost_ret (res_tri (t := 24) (cs := celM zeroM) rfl _ _ _ rfl ?h1 Tryd.underlying24 rfl ?h2) rfl ⟨by rw [HF.out.1, HF.out.2.1, HF.out.2.2]; rfl, ?h3⟩
    case h1 => exact World.rangeAt_setCells_same _ _ _ _ HRX.out
    case h2 => exact sizeM
    case h3 => exact below_setCells HBX.out (Nat.le_succ _) _
end Go.Proofs.YtmdpbnolgbfaeaaDoor
