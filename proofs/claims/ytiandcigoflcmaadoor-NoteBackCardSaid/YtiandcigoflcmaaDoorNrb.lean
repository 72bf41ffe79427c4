/-
  The document's note: Get.
-/
import Derived.Test.YtiandcigoflcmaaDoorNra
import Derived.Test.YtiandcigoflcmaaDoorNte
import Derived.Test.YtiandcigoflcmaaDoorSrd
namespace Go.Proofs.YtiandcigoflcmaaDoor
open Go.RowKit
set_option linter.unusedVariables false
set_option linter.unusedSimpArgs false
set_option maxRecDepth 100000

theorem rnt_no {b : Blk} (h0 : getE b.toList = 0) (h : ¬ codNt.good b = true) : codNt.gX b = zeroNt ∧ codNt.gE b = 5 := by
  have hE := codNt.gE_form h0 h
  exact ⟨codNt.gX_no (by omega), hE⟩
theorem rnt_good {b : Blk} : codNt.good b = true ↔ nteB (toldNt (getN b.toList) (getB b.toList)) = true ∧ fullNt (toldNt (getN b.toList) (getB b.toList)) = getB b.toList := codNt.good_iff
theorem rnt_yes {b : Blk} (h0 : getE b.toList = 0) (hm : nteB (toldNt (getN b.toList) (getB b.toList)) = true) (hz : ∀ j, 14 ≤ j → j < 44 → bt (getB b.toList) j = 0) :
    codNt.gX b = toldNt (getN b.toList) (getB b.toList) ∧ codNt.gE b = 0 := by
  have hE := codNt.gE_ok h0 (rnt_good.2 ⟨hm, (full_toldNt (getB_len h0)).2 hz⟩)
  exact ⟨codNt.gX_of hE, hE⟩
set_option maxHeartbeats 4000000 in
theorem rntget (b : Blk) (w : World) : Calls Tryd.prog 17 #[blk b] w fun e w' => e = .returned (.tuple #[nte (codNt.gX b), .int .i64 (codNt.gE b : Nat)]) ∧ Below w.heap.size w w' := by
  have hN2 := fun h0 : getE b.toList = 0 => fun h : ¬ nteB (toldNt (getN b.toList) (getB b.toList)) = true => Lib.hid (rnt_no h0 (fun hg => h (rnt_good.1 hg).1))
  have hN3 := fun h0 : getE b.toList = 0 => fun j h1 h2 (h : bt (getB b.toList) j ≠ 0) => Lib.hid (rnt_no h0 (fun hg => h ((full_toldNt (getB_len h0)).1 (rnt_good.1 hg).2 j h1 h2)))
  have hY := fun h0 : getE b.toList = 0 => fun h2 h3 => Lib.hid (rnt_yes h0 h2 h3)
  have hS := fun h0 : getE b.toList ≠ 0 => codNt.gE_seal h0
  have hlen := fun h0 : getE b.toList = 0 => getB_len h0
  have hn64 := getN_lt64 b
  obtain ⟨gx, hgx⟩ : ∃ g, codNt.gX b = g := ⟨_, rfl⟩
  obtain ⟨ge, hge⟩ : ∃ g, codNt.gE b = g := ⟨_, rfl⟩
  have hS2 : getE b.toList ≠ 0 → gx = zeroNt ∧ ge = getE b.toList := fun h => by
    have h1 := hS h
    rw [← hgx, ← hge]
    exact ⟨codNt.gX_no (by omega), h1⟩
  rw [hgx, hge] at hN2 hN3 hY ⊢
  clear hS hgx hge
  obtain ⟨n, hn⟩ : ∃ n, getN b.toList = n := ⟨_, rfl⟩
  obtain ⟨l, hl⟩ : ∃ l, getB b.toList = l := ⟨_, rfl⟩
  obtain ⟨E, hE⟩ : ∃ E, getE b.toList = E := ⟨_, rfl⟩
  have HN := Lib.hid hn
  have HL := Lib.hid hl
  have HE := Lib.hid hE
  rw [hn] at hN2 hY hn64
  rw [hl] at hN2 hN3 hY hlen
  rw [hE] at hN2 hN3 hY hS2 hlen
  clear hn hl hE
  have h1 := (Below.refl w.heap.size w).alloc (Nat.le_refl _) (.cells (cel b).toArray 27)
  have h2 := h1.alloc h1.size (.cells (celNt zeroNt).toArray 25)
  have HA : Hid (((w.alloc (.cells (cel b).toArray 27)).alloc (.cells (celNt zeroNt).toArray 25)).rangeAt w.heap.size 0 (cel b)) := Lib.hid (World.rangeAt_alloc (range_new w (cel b) 27) _)
  have hsn := NteAt.new (w.alloc (.cells (cel b).toArray 27)) zeroNt
  rw [World.size_alloc] at hsn
  have HR := Lib.hid hsn.there
  have HZ := Lib.hid (blk_lt hsn)
  have HB := Lib.hid h2
  have HN64 := Lib.hid hn64
  clear h1 h2 hsn hn64
  have HN2 := fun h0 h => Lib.hid (hN2 h0 h).out
  have HN3 := fun h0 j h1 h2 h => Lib.hid (hN3 h0 j h1 h2 h).out
  have HY := fun h0 h2 h3 => Lib.hid (hY h0 h2 h3).out
  have HS := fun h => Lib.hid (hS2 h)
  have HLEN := fun h => Lib.hid (hlen h)
  clear hN2 hN3 hY hS2 hlen
  go_enter Tryd.func17, Tryd.ntmps17
  go_wp2_with (first | (refine wpList_valn rfl (exec_box rfl rfl) ?_) | (refine wpList_valn rfl (exec_allocNt rfl) ?_) | (refine wpList_valn rfl (exec_load (c := b) rfl rfl ?_) ?_; (with_reducible exact HA.out)) | fail)
  try simp only [World.size_alloc]
  generalize (w.alloc (.cells (cel b).toArray 27)).alloc (.cells (celNt zeroNt).toArray 25) = w0 at *
  refine (rget_any b _ w0 (Lib.hid rfl)).mono ?_
  rintro e w1 ⟨v, rfl, hv, hb⟩
  rw [HN.out, HE.out]
  rw [HL.out] at hv
  have HR1 := Lib.hid (there_below HR.out HZ.out hb)
  have HB1 := Lib.hid (HB.out.trans (hb.mono HB.out.size))
  have HZ1 : Hid (w.heap.size + 1 < w1.heap.size) := Lib.hid (Nat.lt_of_lt_of_le HZ.out hb.size)
  clear hb HA HR HB HZ
  by_cases h0 : E = 0
  · have HM1 := Lib.hid hv
    have HLL := HLEN h0
    have K2 := fun h => HN2 h0 h
    have K3 := fun j h1 h2 h => HN3 h0 j h1 h2 h
    have KY := fun h2 h3 => HY h0 h2 h3
    subst h0
    clear hv HN2 HN3 HY HS HLEN
    obtain ⟨A, c, rfl, hrd, _, _⟩ := HM1.out.open_ HLL.out
    have HRD := Lib.hid hrd
    clear hrd HM1
    obtain ⟨v0, h0⟩ : ∃ v, val 8 (piece l 0 8) = v := ⟨_, rfl⟩
    obtain ⟨v1, h1⟩ : ∃ v, val 8 (piece l 8 2) = v := ⟨_, rfl⟩
    obtain ⟨v2, h2⟩ : ∃ v, val 8 (piece l 10 4) = v := ⟨_, rfl⟩
    have b1 : v1 < 65536 := by rw [← h1]; exact val_piece_lt (b := l) (p := 8) (k := 2) (by rw [HLL.out]; omega)
    have b2 : v2 < 4294967296 := by rw [← h2]; exact val_piece_lt (b := l) (p := 10) (k := 4) (by rw [HLL.out]; omega)
    have HB2v := Lib.hid b2
    have HV0 := Lib.hid h0
    have HV1 := Lib.hid h1
    have HV2 := Lib.hid h2
    have hT : toldNt n l = ⟨n, v0, (v1 : Nat), v2⟩ := by unfold toldNt; rw [h0, h1, h2]
    rw [hT] at K2 KY
    clear h0 h1 h2 hT b2
    go_wp2_with fail
    refine (rget_ok A 44 c _ l 0 8 w1 HRD.out (by unfold maxLen; omega) (by omega) (by omega) (by omega)).mono ?_
    rintro e w' ⟨rfl, rfl⟩
    rw [HV0.out]
    go_wp2_with fail
    refine (rget_ok A 44 c _ l 8 2 w1 HRD.out (by unfold maxLen; omega) (by omega) (by omega) (by omega)).mono ?_
    rintro e w' ⟨rfl, rfl⟩
    rw [HV1.out]
    go_wp2_with fail
    refine (rget_ok A 44 c _ l 10 4 w1 HRD.out (by unfold maxLen; omega) (by omega) (by omega) (by omega)).mono ?_
    rintro e w' ⟨rfl, rfl⟩
    rw [HV2.out]
    obtain ⟨y, hy⟩ : ∃ y : Nte, y = ⟨n, v0, (v1 : Nat), v2⟩ := ⟨_, rfl⟩
    rw [← hy] at K2 KY
    have HYD := Lib.hid hy
    clear hy
    have hb2 := (Below.refl w1.heap.size w1).alloc (Nat.le_refl _) (.cells (celNt y).toArray 25)
    have HS2 := Lib.hid (NteAt.new w1 y)
    have HR2 := Lib.hid (there_below HR1.out HZ1.out hb2)
    have HB2 := Lib.hid (HB1.out.trans (hb2.mono HB1.out.size))
    have HRD2 := Lib.hid (HRD.out.below hb2)
    have HZ2 : Hid (w.heap.size + 1 < (w1.alloc (.cells (celNt y).toArray 25)).heap.size) := Lib.hid (Nat.lt_of_lt_of_le HZ1.out hb2.size)
    clear hb2 HR1 HB1 HRD HV0 HV1 HV2
    go_upto_region 8 with (first | (refine wpList_valn rfl (exec_cvU32 rfl rfl HB2v.out) ?_) | (refine wpList_valn rfl (exec_bldNt4 n v0 v1 v2 rfl rfl rfl rfl rfl) ?_) | (refine wpList_valn rfl (exec_allocNt rfl) ?_) | (refine wpList_nuln rfl (exec_fillNt (c := ⟨n, v0, (v1 : Nat), v2⟩) rfl rfl rfl) ?_) | fail)
    rw [← HYD.out]
    generalize w1.alloc (.cells (celNt y).toArray 25) = w2 at *
    generalize w1.heap.size = s at *
    clear HYD
    have HAL : Hid (∀ k, 14 ≤ k → k < 14 → bt l k = 0) := Lib.hid fun k h1 h2 => by omega
    go_wp2_with fail
    go_loop [14] (fun i => ∃ j : Nat, 14 ≤ j ∧ j ≤ 44 ∧ i = .int .i64 j ∧ Hid (∀ k, 14 ≤ k → k < j → bt l k = 0)) (fun i => 44 - (intOf i).toNat)
    case atStart => exact ⟨14, by omega, by omega, rfl, HAL⟩
    case round =>
      clear HAL
      obtain ⟨j, hj1, hj2, rfl, HAL⟩ := hrel
      by_cases hlt : j < 44
      · obtain ⟨bA, oA, rfl, hA, cA⟩ := HRD2.out.2 j hlt
        by_cases hz : bt l j = 0
        · have HAN : Hid (∀ k, 14 ≤ k → k < j + 1 → bt l k = 0) := Lib.hid fun k h1 h2 => by
            by_cases e : k = j
            · rw [e]; exact hz
            · exact HAL.out k h1 (by omega)
          rw [hz] at cA
          clear hz
          go_wp2
          go_round
          case rel => exact ⟨j + 1, by omega, by omega, by go_num, HAN⟩
          case measure => simp [intOf]; omega
        · have HF := K3 j hj1 hlt hz
          have HRX := HR2
          have HBX := HB2
          have hbz : (bt l j != 0) = true := by simpa using hz
          clear K2 K3 KY
          go_wp2_with (first | (refine wpList_valn rfl (exec_bldNt rfl) ?_) | (refine wpList_nuln rfl (exec_putNt (c := zeroNt) rfl rfl rfl ?_) ?_; (with_reducible exact HRX.out)) | fail)
          refine bodyPost_ret (res_two (t := 25) (cs := celNt zeroNt) rfl _ _ _ rfl ?h1 Tryd.underlying25 rfl ?h2) rfl ⟨by rw [HF.out.1, HF.out.2]; rfl, ?h3⟩
          case h1 => exact World.rangeAt_setCells_same _ _ _ _ HRX.out
          case h2 => exact sizeNt
          case h3 => exact below_setCells HBX.out (Nat.le_succ _) _
      · have hj : j = 44 := by omega
        subst hj
        clear hj1 hj2 hlt
        go_wp2_with (first | (refine wpList_valn rfl (exec_loadNt (c := y) rfl rfl ?_) ?_; (with_reducible exact HS2.out.range)) | fail)
        refine (rntmay y w2).mono ?_
        rintro e w3 ⟨rfl, hb⟩
        have HR3 := Lib.hid (there_below HR2.out HZ2.out hb)
        have HB3 := Lib.hid (HB2.out.trans (hb.mono HB2.out.size))
        have HLD := Lib.hid (HS2.out.below (blk_lt HS2.out) hb).range
        clear hb HR2 HB2 HS2
        by_cases hm : nteB y = true
        · have HF := KY hm (fun k h1 h2 => HAL.out k h1 h2)
          rw [hm]
          clear hm K2 K3 KY
          go_wp2_with (first | (refine wpList_valn rfl (exec_loadNt (c := y) rfl rfl ?_) ?_; (with_reducible exact HLD.out)) | (refine wpList_nuln rfl (exec_putNt (c := y) rfl rfl rfl ?_) ?_; (with_reducible exact HR3.out)) | fail)
          refine bodyPost_ret (res_two (t := 25) (cs := celNt y) rfl _ _ _ rfl ?h1 Tryd.underlying25 rfl ?h2) rfl ⟨by rw [HF.out.1, HF.out.2]; rfl, ?h3⟩
          case h1 => exact World.rangeAt_setCells_same _ _ _ _ HR3.out
          case h2 => exact sizeNt
          case h3 => exact below_setCells HB3.out (Nat.le_succ _) _
        · have hm' : nteB y = false := by simpa using hm
          have HF := K2 hm
          have HRX := HR3
          have HBX := HB3
          rw [hm']
          clear hm hm' K2 K3 KY
          go_wp2_with (first | (refine wpList_valn rfl (exec_bldNt rfl) ?_) | (refine wpList_nuln rfl (exec_putNt (c := zeroNt) rfl rfl rfl ?_) ?_; (with_reducible exact HRX.out)) | fail)
          refine bodyPost_ret (res_two (t := 25) (cs := celNt zeroNt) rfl _ _ _ rfl ?h1 Tryd.underlying25 rfl ?h2) rfl ⟨by rw [HF.out.1, HF.out.2]; rfl, ?h3⟩
          case h1 => exact World.rangeAt_setCells_same _ _ _ _ HRX.out
          case h2 => exact sizeNt
          case h3 => exact below_setCells HBX.out (Nat.le_succ _) _
  · have HF := HS h0
    have hne : ((E : Int) != 0) = true := by simp; omega
    have HRX := HR1
    have HBX := HB1
    clear h0 HN2 HN3 HY HS HLEN hv
    go_wp2_with (first | (refine wpList_valn rfl (exec_bldNt rfl) ?_) | (refine wpList_nuln rfl (exec_putNt (c := zeroNt) rfl rfl rfl ?_) ?_; (with_reducible exact HRX.out)) | fail)
    refine bodyPost_ret (res_two (t := 25) (cs := celNt zeroNt) rfl _ _ _ rfl ?h1 Tryd.underlying25 rfl ?h2) rfl ⟨by rw [HF.out.1, HF.out.2]; rfl, ?h3⟩
    case h1 => exact World.rangeAt_setCells_same _ _ _ _ HRX.out
    case h2 => exact sizeNt
    case h3 => exact below_setCells HBX.out (Nat.le_succ _) _
end Go.Proofs.YtiandcigoflcmaaDoor
