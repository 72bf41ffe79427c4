/-
  The program's mark.Newest.
-/
import Derived.Test.YtmdpbnolgbfaeaaDoorMke
namespace Go.Proofs.YtmdpbnolgbfaeaaDoor
open Go.RowKit
set_option linter.unusedVariables false
set_option linter.unusedSimpArgs false
set_option maxRecDepth 100000

theorem three_newM (w : World) (a b : Blk) : (((w.alloc (.cells (cel a).toArray 26)).alloc (.cells (cel b).toArray 26)).alloc (.cells (celM zeroM).toArray 24)).rangeAt w.heap.size 0 (cel a) ∧
    (((w.alloc (.cells (cel a).toArray 26)).alloc (.cells (cel b).toArray 26)).alloc (.cells (celM zeroM).toArray 24)).rangeAt (w.heap.size + 1) 0 (cel b) ∧
    (((w.alloc (.cells (cel a).toArray 26)).alloc (.cells (cel b).toArray 26)).alloc (.cells (celM zeroM).toArray 24)).there (w.heap.size + 1 + 1) 0 4 ∧
    Below w.heap.size w (((w.alloc (.cells (cel a).toArray 26)).alloc (.cells (cel b).toArray 26)).alloc (.cells (celM zeroM).toArray 24)) ∧ w.heap.size + 1 + 1 < (((w.alloc (.cells (cel a).toArray 26)).alloc (.cells (cel b).toArray 26)).alloc (.cells (celM zeroM).toArray 24)).heap.size := by
  have e1 := World.size_alloc (w := w) (o := Obj.cells (cel a).toArray 26)
  have e2 := World.size_alloc (w := (w.alloc (.cells (cel a).toArray 26))) (o := Obj.cells (cel b).toArray 26)
  have h3 := MrkAt.new ((w.alloc (.cells (cel a).toArray 26)).alloc (.cells (cel b).toArray 26)) zeroM
  rw [e2, e1] at h3
  refine ⟨World.rangeAt_alloc (World.rangeAt_alloc (range_new w (cel a) _) _) _, ?_, h3.there, ?_, blk_lt h3⟩
  · rw [← e1]; exact World.rangeAt_alloc (range_new _ (cel b) _) _
  · exact (((Below.refl _ w).alloc (Nat.le_refl _) _).alloc (by omega) _).alloc (by omega) _
set_option maxHeartbeats 4000000 in
theorem pmnew (a b : Blk) (w : World) (T : TabM w) : Calls Tryd.prog 17 #[blk a, blk b] w fun e w' => e = .returned (.tuple #[.int .u64 ((codM.nX a b).n : Nat), mrk (codM.nX a b).m, .int .i64 (codM.nE a b : Nat)]) ∧ Below w.heap.size w w' := by
  obtain ⟨h1, h2, h3, h4, h5⟩ := three_newM w a b
  obtain ⟨x, hx⟩ : ∃ x, codM.gN a = x := ⟨_, rfl⟩
  obtain ⟨y, hy⟩ : ∃ y, codM.gN b = y := ⟨_, rfl⟩
  obtain ⟨p, hp⟩ : ∃ p, (codM.gX a).m = p := ⟨_, rfl⟩
  obtain ⟨q, hq⟩ : ∃ q, (codM.gX b).m = q := ⟨_, rfl⟩
  obtain ⟨ea, hea⟩ : ∃ e, codM.gE a = e := ⟨_, rfl⟩
  obtain ⟨eb, heb⟩ : ∃ e, codM.gE b = e := ⟨_, rfl⟩
  have HX := Lib.hid hx
  have HY := Lib.hid hy
  have HP := Lib.hid hp
  have HQ := Lib.hid hq
  have HEA := Lib.hid hea
  have HEB := Lib.hid heb
  have hxa := codM.gN_zero (b := a)
  have hxb := codM.gN_zero (b := b)
  rw [hx, hea] at hxa
  rw [hy, heb] at hxb
  have HXA := Lib.hid hxa
  have HXB := Lib.hid hxb
  clear hx hy hp hq hea heb hxa hxb
  have HNN : Hid ((codM.nX a b).n = if x < y then y else x) := Lib.hid (by
    unfold Cod.nX
    rw [HX.out, HY.out]
    split
    · exact HY.out
    · exact HX.out)
  have HNS : Hid ((codM.nX a b).m = if x < y then q else p) := Lib.hid (by
    unfold Cod.nX
    rw [HX.out, HY.out]
    split
    · exact HQ.out
    · exact HP.out)
  have HNE : Hid (codM.nE a b = if x = 0 ∧ y = 0 then 7 else 0) := Lib.hid (by unfold Cod.nE; rw [HX.out, HY.out])
  have HPZ : Hid (x = 0 → p = zeroM) := Lib.hid fun h => by rw [← HP.out, codM.gX_no (codM.gN_zero.1 (HX.out.trans h))]; rfl
  have HT := Lib.hid (T.below h4)
  clear T
  have HA := Lib.hid h1
  have HBK := Lib.hid h2
  have HR := Lib.hid h3
  have HB := Lib.hid h4
  have HZ := Lib.hid h5
  clear h1 h2 h3 h4 h5
  go_enter Tryd.func17, Tryd.ntmps17
  go_wp2_with (first | (refine wpList_valn rfl (exec_box rfl rfl) ?_) | (refine wpList_valn rfl (exec_allocM rfl) ?_) | (refine wpList_valn rfl (exec_load (c := a) rfl rfl ?_) ?_; (with_reducible exact HA.out)) | fail)
  try simp only [World.size_alloc]
  generalize ((w.alloc (.cells (cel a).toArray 26)).alloc (.cells (cel b).toArray 26)).alloc (.cells (celM zeroM).toArray 24) = w0 at *
  refine (pmget a w0 HT.out).mono ?_
  rintro e w1 ⟨rfl, hb⟩
  rw [HX.out, HP.out, HEA.out]
  have hb1 := hb.alloc hb.size (.cells (celM p).toArray 24)
  have HBK1 := Lib.hid (range_below HBK.out (by have := HZ.out; omega) hb1)
  have HR1 := Lib.hid (there_below HR.out HZ.out hb1)
  have HB1 := Lib.hid (HB.out.trans (hb1.mono HB.out.size))
  have HPA := Lib.hid (MrkAt.new w1 p)
  have HZ1 : Hid (w.heap.size + 1 + 1 < (w1.alloc (.cells (celM p).toArray 24)).heap.size) := Lib.hid (Nat.lt_of_lt_of_le HZ.out hb1.size)
  have HT1 := Lib.hid (HT.out.below hb1)
  clear hb hb1 HA HBK HB HZ HR
  go_upto_region 2 with (first | (refine wpList_valn rfl (exec_allocM rfl) ?_) | (refine wpList_nuln rfl (exec_fillM rfl rfl rfl) ?_) | fail)
  generalize w1.alloc (.cells (celM p).toArray 24) = w2 at *
  go_wp2_with (first | (refine wpList_valn rfl (exec_load (c := b) rfl rfl ?_) ?_; (with_reducible exact HBK1.out)) | fail)
  refine (pmget b w2 HT1.out).mono ?_
  rintro e w3 ⟨rfl, hb⟩
  rw [HY.out, HQ.out, HEB.out]
  have hb3 := hb.alloc hb.size (.cells (celM q).toArray 24)
  have HB4 := Lib.hid (HB1.out.trans (hb3.mono HB1.out.size))
  have HR4 := Lib.hid (there_below HR1.out HZ1.out hb3)
  have HPR := Lib.hid (HPA.out.below (blk_lt HPA.out) hb3).range
  have HQR := Lib.hid (MrkAt.new w3 q).range
  clear hb hb3 HBK1 HB1 HR1 HPA HZ1
  go_upto_region 3 with (first | (refine wpList_valn rfl (exec_allocM rfl) ?_) | (refine wpList_nuln rfl (exec_fillM rfl rfl rfl) ?_) | fail)
  generalize w3.alloc (.cells (celM q).toArray 24) = w4 at *
  by_cases k0 : x = 0
  · have HXQ : Hid (((x : Int) == 0) = true) := Lib.hid (by simp; omega)
    have HPZ2 := Lib.hid (HPZ.out k0)
    by_cases k1 : y = 0
    · have HYQ : Hid (((y : Int) == 0) = true) := Lib.hid (by simp; omega)
      rw [if_neg (by omega)] at HNN HNS
      rw [if_pos (by omega)] at HNE
      rw [k0] at HNN
      rw [HPZ2.out] at HNS
      clear k0 k1
      refine wp_region_lit ?_
      refine wpList_valn rfl (exec_mv rfl (ev rfl)) ?_
      simp only [Act.put, List.setIfInBounds_toArray, List.set_cons_succ, List.set_cons_zero]
      refine wpList_valn (v := .bool true) rfl (exec_eqInt true rfl (ev rfl) evk HXQ.out) ?_
      simp only [Act.put, List.setIfInBounds_toArray, List.set_cons_succ, List.set_cons_zero]
      refine wpList_valn (v := .bool true) rfl (exec_mv rfl (ev rfl)) ?_
      simp only [Act.put, List.setIfInBounds_toArray, List.set_cons_succ, List.set_cons_zero]
      refine wpList_val (wanted_of rfl rfl rfl rfl) (exec_mv rfl (ev rfl)) ?_
      simp only [Act.put, List.setIfInBounds_toArray, List.set_cons_succ, List.set_cons_zero]
      refine wpList_val (v := .bool true) (wanted_of rfl rfl rfl rfl) (exec_eqInt true rfl (ev rfl) evk HYQ.out) ?_
      simp only [Act.put, List.setIfInBounds_toArray, List.set_cons_succ, List.set_cons_zero]
      refine wpList_valn (v := .bool true) rfl (exec_pt rfl (ev rfl) (ev rfl)) ?_
      simp only [Act.put, List.setIfInBounds_toArray, List.set_cons_succ, List.set_cons_zero]
      refine wpList_valn (v := .bool true) rfl (exec_as rfl (ev rfl)) ?_
      simp only [Act.put, List.setIfInBounds_toArray, List.set_cons_succ, List.set_cons_zero]
      refine wpList_nil ?_
      go_wp2_with (first | (refine wpList_valn rfl (exec_bldM rfl) ?_) | (refine wpList_nuln rfl (exec_putM (c := zeroM) rfl rfl rfl ?_) ?_; (with_reducible exact HR4.out)) | fail)
      refine bodyPost_ret (res_tri (t := 24) (cs := celM zeroM) rfl _ _ _ rfl ?h1 Tryd.underlying24 rfl ?h2) rfl ⟨by rw [HNE.out, HNN.out, HNS.out]; rfl, ?h3⟩
      case h1 => exact World.rangeAt_setCells_same _ _ _ _ HR4.out
      case h2 => exact sizeM
      case h3 => exact below_setCells HB4.out (by omega) _
    · have HYQ : Hid (((y : Int) == 0) = false) := Lib.hid (by simp; omega)
      rw [if_neg (by omega)] at HNE
      clear k1
      refine wp_region_lit ?_
      refine wpList_valn rfl (exec_mv rfl (ev rfl)) ?_
      simp only [Act.put, List.setIfInBounds_toArray, List.set_cons_succ, List.set_cons_zero]
      refine wpList_valn (v := .bool true) rfl (exec_eqInt true rfl (ev rfl) evk HXQ.out) ?_
      simp only [Act.put, List.setIfInBounds_toArray, List.set_cons_succ, List.set_cons_zero]
      refine wpList_valn (v := .bool true) rfl (exec_mv rfl (ev rfl)) ?_
      simp only [Act.put, List.setIfInBounds_toArray, List.set_cons_succ, List.set_cons_zero]
      refine wpList_val (wanted_of rfl rfl rfl rfl) (exec_mv rfl (ev rfl)) ?_
      simp only [Act.put, List.setIfInBounds_toArray, List.set_cons_succ, List.set_cons_zero]
      refine wpList_val (v := .bool false) (wanted_of rfl rfl rfl rfl) (exec_eqInt false rfl (ev rfl) evk HYQ.out) ?_
      simp only [Act.put, List.setIfInBounds_toArray, List.set_cons_succ, List.set_cons_zero]
      refine wpList_valn (v := .bool false) rfl (exec_pt rfl (ev rfl) (ev rfl)) ?_
      simp only [Act.put, List.setIfInBounds_toArray, List.set_cons_succ, List.set_cons_zero]
      refine wpList_valn (v := .bool false) rfl (exec_as rfl (ev rfl)) ?_
      simp only [Act.put, List.setIfInBounds_toArray, List.set_cons_succ, List.set_cons_zero]
      refine wpList_nil ?_
      go_upto_region 5 with fail
      by_cases hlt : x < y
      · have HGT : Hid (decide ((x : Int) < (y : Int)) = true) := Lib.hid (decide_eq_true (by omega))
        rw [if_pos hlt] at HNN HNS
        clear k0 hlt
        refine wp_region_lit ?_
        refine wpList_valn rfl (exec_mv rfl (ev rfl)) ?_
        simp only [Act.put, List.setIfInBounds_toArray, List.set_cons_succ, List.set_cons_zero]
        refine wpList_valn rfl (exec_mv rfl (ev rfl)) ?_
        simp only [Act.put, List.setIfInBounds_toArray, List.set_cons_succ, List.set_cons_zero]
        refine wpList_valn (v := .bool true) rfl (exec_gtr true rfl (ev rfl) (ev rfl) HGT.out) ?_
        simp only [Act.put, List.setIfInBounds_toArray, List.set_cons_succ, List.set_cons_zero]
        refine wpList_valn (v := .bool true) rfl (exec_as rfl (ev rfl)) ?_
        simp only [Act.put, List.setIfInBounds_toArray, List.set_cons_succ, List.set_cons_zero]
        refine wpList_nil ?_
        go_wp2_with fail
        refine wp_region_still_tail 3 (by kernel_rfl) (by kernel_rfl) ?_
        simp only [List.take_succ_cons, List.take_zero, List.drop_succ_cons, List.drop_zero]
        refine st_val rfl (exec_mv rfl (ev rfl)) ?_
        simp only [Act.put, List.setIfInBounds_toArray, List.set_cons_succ, List.set_cons_zero]
        refine st_val rfl (exec_loadM (c := q) rfl (ev rfl) HQR.out) ?_
        simp only [Act.put, List.setIfInBounds_toArray, List.set_cons_succ, List.set_cons_zero]
        refine st_val rfl (exec_as rfl (ev rfl)) ?_
        simp only [Act.put, List.setIfInBounds_toArray, List.set_cons_succ, List.set_cons_zero]
        refine wpStill_nil ?_
        change wpList _ _ _ _ _ (World.drew _)
        refine wpList_nul rfl (exec_putM (c := q) rfl (ev rfl) (ev rfl) HR4.out) ?_
        simp only [Act.put, List.setIfInBounds_toArray, List.set_cons_succ, List.set_cons_zero]
        refine wpList_val rfl (exec_as rfl evk) ?_
        simp only [Act.put, List.setIfInBounds_toArray, List.set_cons_succ, List.set_cons_zero]
        refine wpList_nil ?_
        go_wp2_with fail
        refine bodyPost_ret (res_tri (t := 24) (cs := celM q) rfl _ _ _ rfl ?h1 Tryd.underlying24 rfl ?h2) rfl ⟨by rw [HNE.out, HNN.out, HNS.out]; rfl, ?h3⟩
        case h1 => exact World.rangeAt_setCells_same _ _ _ _ HR4.out
        case h2 => exact sizeM
        case h3 => exact below_setCells (bd HB4.out) (by omega) _
      · have HGT : Hid (decide ((x : Int) < (y : Int)) = false) := Lib.hid (decide_eq_false (by omega))
        rw [if_neg hlt] at HNN HNS
        clear k0 hlt
        refine wp_region_lit ?_
        refine wpList_valn rfl (exec_mv rfl (ev rfl)) ?_
        simp only [Act.put, List.setIfInBounds_toArray, List.set_cons_succ, List.set_cons_zero]
        refine wpList_valn rfl (exec_mv rfl (ev rfl)) ?_
        simp only [Act.put, List.setIfInBounds_toArray, List.set_cons_succ, List.set_cons_zero]
        refine wpList_valn (v := .bool false) rfl (exec_gtr false rfl (ev rfl) (ev rfl) HGT.out) ?_
        simp only [Act.put, List.setIfInBounds_toArray, List.set_cons_succ, List.set_cons_zero]
        refine wpList_valn (v := .bool false) rfl (exec_as rfl (ev rfl)) ?_
        simp only [Act.put, List.setIfInBounds_toArray, List.set_cons_succ, List.set_cons_zero]
        refine wpList_nil ?_
        go_wp2_with fail
        refine wp_region_still_tail 3 (by kernel_rfl) (by kernel_rfl) ?_
        simp only [List.take_succ_cons, List.take_zero, List.drop_succ_cons, List.drop_zero]
        refine st_val rfl (exec_mv rfl (ev rfl)) ?_
        simp only [Act.put, List.setIfInBounds_toArray, List.set_cons_succ, List.set_cons_zero]
        refine st_val rfl (exec_loadM (c := p) rfl (ev rfl) HPR.out) ?_
        simp only [Act.put, List.setIfInBounds_toArray, List.set_cons_succ, List.set_cons_zero]
        refine st_val rfl (exec_as rfl (ev rfl)) ?_
        simp only [Act.put, List.setIfInBounds_toArray, List.set_cons_succ, List.set_cons_zero]
        refine wpStill_nil ?_
        change wpList _ _ _ _ _ (World.drew _)
        refine wpList_nul rfl (exec_putM (c := p) rfl (ev rfl) (ev rfl) HR4.out) ?_
        simp only [Act.put, List.setIfInBounds_toArray, List.set_cons_succ, List.set_cons_zero]
        refine wpList_val rfl (exec_as rfl evk) ?_
        simp only [Act.put, List.setIfInBounds_toArray, List.set_cons_succ, List.set_cons_zero]
        refine wpList_nil ?_
        go_wp2_with fail
        refine bodyPost_ret (res_tri (t := 24) (cs := celM p) rfl _ _ _ rfl ?h1 Tryd.underlying24 rfl ?h2) rfl ⟨by rw [HNE.out, HNN.out, HNS.out]; rfl, ?h3⟩
        case h1 => exact World.rangeAt_setCells_same _ _ _ _ HR4.out
        case h2 => exact sizeM
        case h3 => exact below_setCells (bd HB4.out) (by omega) _
  · have HXQ : Hid (((x : Int) == 0) = false) := Lib.hid (by simp; omega)
    rw [if_neg (by omega)] at HNE
    refine wp_region_lit ?_
    refine wpList_valn rfl (exec_mv rfl (ev rfl)) ?_
    simp only [Act.put, List.setIfInBounds_toArray, List.set_cons_succ, List.set_cons_zero]
    refine wpList_valn (v := .bool false) rfl (exec_eqInt false rfl (ev rfl) evk HXQ.out) ?_
    simp only [Act.put, List.setIfInBounds_toArray, List.set_cons_succ, List.set_cons_zero]
    refine wpList_skips 2 (v := .bool false) rfl (exec_mv rfl (ev rfl)) (by kernel_rfl) ?_
    simp only [skipAct, List.take_succ_cons, List.take_zero, List.drop_succ_cons, List.drop_zero, Act.put, List.setIfInBounds_toArray, List.set_cons_succ, List.set_cons_zero]
    refine wpList_valn (v := .bool false) rfl (exec_pf rfl (ev rfl) evk) ?_
    simp only [Act.put, List.setIfInBounds_toArray, List.set_cons_succ, List.set_cons_zero]
    refine wpList_valn (v := .bool false) rfl (exec_as rfl (ev rfl)) ?_
    simp only [Act.put, List.setIfInBounds_toArray, List.set_cons_succ, List.set_cons_zero]
    refine wpList_nil ?_
    go_upto_region 5 with fail
    by_cases hlt : x < y
    · have HGT : Hid (decide ((x : Int) < (y : Int)) = true) := Lib.hid (decide_eq_true (by omega))
      rw [if_pos hlt] at HNN HNS
      clear k0 hlt
      refine wp_region_lit ?_
      refine wpList_valn rfl (exec_mv rfl (ev rfl)) ?_
      simp only [Act.put, List.setIfInBounds_toArray, List.set_cons_succ, List.set_cons_zero]
      refine wpList_valn rfl (exec_mv rfl (ev rfl)) ?_
      simp only [Act.put, List.setIfInBounds_toArray, List.set_cons_succ, List.set_cons_zero]
      refine wpList_valn (v := .bool true) rfl (exec_gtr true rfl (ev rfl) (ev rfl) HGT.out) ?_
      simp only [Act.put, List.setIfInBounds_toArray, List.set_cons_succ, List.set_cons_zero]
      refine wpList_valn (v := .bool true) rfl (exec_as rfl (ev rfl)) ?_
      simp only [Act.put, List.setIfInBounds_toArray, List.set_cons_succ, List.set_cons_zero]
      refine wpList_nil ?_
      go_wp2_with fail
      refine wp_region_still_tail 3 (by kernel_rfl) (by kernel_rfl) ?_
      simp only [List.take_succ_cons, List.take_zero, List.drop_succ_cons, List.drop_zero]
      refine st_val rfl (exec_mv rfl (ev rfl)) ?_
      simp only [Act.put, List.setIfInBounds_toArray, List.set_cons_succ, List.set_cons_zero]
      refine st_val rfl (exec_loadM (c := q) rfl (ev rfl) HQR.out) ?_
      simp only [Act.put, List.setIfInBounds_toArray, List.set_cons_succ, List.set_cons_zero]
      refine st_val rfl (exec_as rfl (ev rfl)) ?_
      simp only [Act.put, List.setIfInBounds_toArray, List.set_cons_succ, List.set_cons_zero]
      refine wpStill_nil ?_
      change wpList _ _ _ _ _ (World.drew _)
      refine wpList_nul rfl (exec_putM (c := q) rfl (ev rfl) (ev rfl) HR4.out) ?_
      simp only [Act.put, List.setIfInBounds_toArray, List.set_cons_succ, List.set_cons_zero]
      refine wpList_val rfl (exec_as rfl evk) ?_
      simp only [Act.put, List.setIfInBounds_toArray, List.set_cons_succ, List.set_cons_zero]
      refine wpList_nil ?_
      go_wp2_with fail
      refine bodyPost_ret (res_tri (t := 24) (cs := celM q) rfl _ _ _ rfl ?h1 Tryd.underlying24 rfl ?h2) rfl ⟨by rw [HNE.out, HNN.out, HNS.out]; rfl, ?h3⟩
      case h1 => exact World.rangeAt_setCells_same _ _ _ _ HR4.out
      case h2 => exact sizeM
      case h3 => exact below_setCells (bd HB4.out) (by omega) _
    · have HGT : Hid (decide ((x : Int) < (y : Int)) = false) := Lib.hid (decide_eq_false (by omega))
      rw [if_neg hlt] at HNN HNS
      clear k0 hlt
      refine wp_region_lit ?_
      refine wpList_valn rfl (exec_mv rfl (ev rfl)) ?_
      simp only [Act.put, List.setIfInBounds_toArray, List.set_cons_succ, List.set_cons_zero]
      refine wpList_valn rfl (exec_mv rfl (ev rfl)) ?_
      simp only [Act.put, List.setIfInBounds_toArray, List.set_cons_succ, List.set_cons_zero]
      refine wpList_valn (v := .bool false) rfl (exec_gtr false rfl (ev rfl) (ev rfl) HGT.out) ?_
      simp only [Act.put, List.setIfInBounds_toArray, List.set_cons_succ, List.set_cons_zero]
      refine wpList_valn (v := .bool false) rfl (exec_as rfl (ev rfl)) ?_
      simp only [Act.put, List.setIfInBounds_toArray, List.set_cons_succ, List.set_cons_zero]
      refine wpList_nil ?_
      go_wp2_with fail
      refine wp_region_still_tail 3 (by kernel_rfl) (by kernel_rfl) ?_
      simp only [List.take_succ_cons, List.take_zero, List.drop_succ_cons, List.drop_zero]
      refine st_val rfl (exec_mv rfl (ev rfl)) ?_
      simp only [Act.put, List.setIfInBounds_toArray, List.set_cons_succ, List.set_cons_zero]
      refine st_val rfl (exec_loadM (c := p) rfl (ev rfl) HPR.out) ?_
      simp only [Act.put, List.setIfInBounds_toArray, List.set_cons_succ, List.set_cons_zero]
      refine st_val rfl (exec_as rfl (ev rfl)) ?_
      simp only [Act.put, List.setIfInBounds_toArray, List.set_cons_succ, List.set_cons_zero]
      refine wpStill_nil ?_
      change wpList _ _ _ _ _ (World.drew _)
      refine wpList_nul rfl (exec_putM (c := p) rfl (ev rfl) (ev rfl) HR4.out) ?_
      simp only [Act.put, List.setIfInBounds_toArray, List.set_cons_succ, List.set_cons_zero]
      refine wpList_val rfl (exec_as rfl evk) ?_
      simp only [Act.put, List.setIfInBounds_toArray, List.set_cons_succ, List.set_cons_zero]
      refine wpList_nil ?_
      go_wp2_with fail
      refine bodyPost_ret (res_tri (t := 24) (cs := celM p) rfl _ _ _ rfl ?h1 Tryd.underlying24 rfl ?h2) rfl ⟨by rw [HNE.out, HNN.out, HNS.out]; rfl, ?h3⟩
      case h1 => exact World.rangeAt_setCells_same _ _ _ _ HR4.out
      case h2 => exact sizeM
      case h3 => exact below_setCells (bd HB4.out) (by omega) _
end Go.Proofs.YtmdpbnolgbfaeaaDoor
