/-
  The walk of NoteBack.
-/
import Derived.Test.YtiandcigoflcmaaDoorNvp
namespace Go.Proofs.YtiandcigoflcmaaDoor
open Go.RowKit
set_option linter.unusedVariables false
set_option linter.unusedSimpArgs false
set_option maxRecDepth 100000

set_option maxHeartbeats 4000000 in
theorem noteBack_walk (x : Nte) (b : Blk) (w : World) (T : TabNt w) (hid : x.fit) : Calls Tryd.prog 5 #[nte x, blk b] w fun e w' => e = .returned (.bool true) ∧ Below w.heap.size w w' := by
  obtain ⟨h1, h2, h3⟩ := boxNt_new w x
  have HX1 := Lib.hid (h1.past (.cells (cel b).toArray 27))
  have HB1 := Lib.hid (h2.alloc h2.size (.cells (cel b).toArray 27))
  have HBK1 : Hid (((w.alloc (.cells (celNt x).toArray 25)).alloc (.cells (cel b).toArray 27)).rangeAt (w.heap.size + 1) 0 (cel b)) := Lib.hid (by
    have := range_new (w.alloc (.cells (celNt x).toArray 25)) (cel b) 27
    rwa [World.size_alloc] at this)
  have HZ1 : Hid (w.heap.size + 1 < ((w.alloc (.cells (celNt x).toArray 25)).alloc (.cells (cel b).toArray 27)).heap.size) := Lib.hid (by simp only [World.size_alloc]; omega)
  have HT := Lib.hid T
  have HI := Lib.hid hid
  clear h1 h2 h3 T hid
  go_enter Tryd.func5, Tryd.ntmps5
  go_wp2_with (first | (refine wpList_valn rfl (exec_boxNt rfl rfl) ?_) | (refine wpList_valn rfl (exec_box rfl rfl) ?_) | (refine wpList_valn rfl (exec_loadNt (c := x) rfl rfl ?_) ?_; (with_reducible exact HX1.out.range)) | fail)
  try simp only [World.size_alloc]
  generalize (w.alloc (.cells (celNt x).toArray 25)).alloc (.cells (cel b).toArray 27) = w1 at *
  refine (pntput x w1 (HT.out.below HB1.out) HI.out).mono ?_
  rintro e w2 ⟨rfl, hb⟩
  by_cases hp : codNt.pE x = 0
  · obtain ⟨g1, g2⟩ := codNt.put_get (y := x) HI.out hp
    rw [hp]
    obtain ⟨pb, hpb⟩ : ∃ pb, codNt.pB x = pb := ⟨_, rfl⟩
    rw [hpb] at g1 g2 ⊢
    have HG1 := Lib.hid g1
    have HG2 := Lib.hid g2
    have hb2 := hb.alloc hb.size (.cells (cel pb).toArray 27)
    have HX3 := Lib.hid (HX1.out.below (blk_lt HX1.out) hb2)
    have HBK3 := Lib.hid (range_below HBK1.out HZ1.out hb2)
    have HB3 := Lib.hid (HB1.out.trans (hb2.mono HB1.out.size))
    have HA3 := Lib.hid (range_new w2 (cel pb) 27)
    have HZ3 : Hid (w.heap.size + 1 < (w2.alloc (.cells (cel pb).toArray 27)).heap.size) := Lib.hid (Nat.lt_of_lt_of_le HZ1.out hb2.size)
    clear hb hb2 HX1 HBK1 HB1 HZ1 g1 g2 hp hpb
    go_upto_region 2 with (first | (refine wpList_valn rfl (exec_alloc rfl) ?_) | (refine wpList_nuln rfl (exec_fillN rfl rfl rfl) ?_) | fail)
    generalize w2.alloc (.cells (cel pb).toArray 27) = w3 at *
    generalize w2.heap.size = ab at *
    go_wp2_with (first | (refine wpList_valn rfl (exec_load (c := pb) rfl rfl ?_) ?_; (with_reducible exact HA3.out)) | fail)
    refine (pntget pb w3 (HT.out.below HB3.out)).mono ?_
    rintro e w4 ⟨rfl, hb⟩
    rw [HG2.out, HG1.out]
    have hb2 := hb.alloc hb.size (.cells (celNt x).toArray 25)
    have HX5 := Lib.hid (HX3.out.below (blk_lt HX3.out) hb2)
    have HBK := Lib.hid (range_below HBK3.out HZ3.out hb2)
    have HBL := Lib.hid (HB3.out.trans (hb2.mono HB3.out.size))
    have HN5 := Lib.hid (NteAt.new w4 x)
    have HZ : Hid (w.heap.size + 1 < (w4.alloc (.cells (celNt x).toArray 25)).heap.size) := Lib.hid (Nat.lt_of_lt_of_le HZ3.out hb2.size)
    clear hb hb2 HX3 HBK3 HB3 HZ3 HA3 HG1 HG2
    go_upto_region 4 with (first | (refine wpList_valn rfl (exec_allocNt rfl) ?_) | (refine wpList_nuln rfl (exec_fillNt rfl rfl rfl) ?_) | fail)
    generalize w4.alloc (.cells (celNt x).toArray 25) = w7 at *
    generalize w4.heap.size = nb at *
    refine wp_region_lit ?_
    refine wpList_valn rfl (exec_loadNt (c := x) rfl (ev rfl) HN5.out.range) ?_
    simp only [Act.put, List.setIfInBounds_toArray, List.set_cons_succ, List.set_cons_zero]
    refine wpList_valn rfl (exec_loadNt (c := x) rfl (ev rfl) HX5.out.range) ?_
    simp only [Act.put, List.setIfInBounds_toArray, List.set_cons_succ, List.set_cons_zero]
    refine wpList_valn (v := .bool false) rfl (exec_neNt true rfl (ev rfl) (ev rfl) (decide_eq_true rfl)) ?_
    simp only [Act.put, List.setIfInBounds_toArray, List.set_cons_succ, List.set_cons_zero]
    refine wpList_valn (v := .bool false) rfl (exec_mv rfl (ev rfl)) ?_
    simp only [Act.put, List.setIfInBounds_toArray, List.set_cons_succ, List.set_cons_zero]
    refine wpList_val (wanted_of rfl rfl rfl rfl) (exec_mv rfl (ev rfl)) ?_
    simp only [Act.put, List.setIfInBounds_toArray, List.set_cons_succ, List.set_cons_zero]
    refine wpList_val (v := .bool false) (wanted_of rfl rfl rfl rfl) (exec_neInt false rfl (ev rfl) evk rfl) ?_
    simp only [Act.put, List.setIfInBounds_toArray, List.set_cons_succ, List.set_cons_zero]
    refine wpList_valn (v := .bool false) rfl (exec_pf rfl (ev rfl) (ev rfl)) ?_
    simp only [Act.put, List.setIfInBounds_toArray, List.set_cons_succ, List.set_cons_zero]
    refine wpList_nil ?_
    clear HX5 HN5
    go_wp2_with (first | (refine wpList_valn rfl (exec_load (c := b) rfl rfl ?_) ?_; (with_reducible exact HBK.out)) | fail)
    refine (pntget b w7 (HT.out.below HBL.out)).mono ?_
    rintro e w8 ⟨rfl, hb⟩
    by_cases hq : codNt.gE b = 0
    · obtain ⟨q1, q2⟩ := codNt.get_put hq
      have q4 := codNt.gX_fits b
      rw [hq]
      obtain ⟨S, hS⟩ : ∃ S, codNt.gX b = S := ⟨_, rfl⟩
      rw [hS] at q1 q2 q4 ⊢
      have HQ1 := Lib.hid q1
      have HQ2 := Lib.hid q2
      have HQ4 : Hid S.fit := Lib.hid q4
      have hb2 := hb.alloc hb.size (.cells (celNt S).toArray 25)
      have HBK9 := Lib.hid (range_below HBK.out HZ.out hb2)
      have HB9 := Lib.hid (HBL.out.trans (hb2.mono HBL.out.size))
      have HS9 := Lib.hid (NteAt.new w8 S).range
      have HZ9 : Hid (w.heap.size + 1 < (w8.alloc (.cells (celNt S).toArray 25)).heap.size) := Lib.hid (Nat.lt_of_lt_of_le HZ.out hb2.size)
      clear hb hb2 HBK HZ HBL q1 q2 q4 hq hS
      go_upto_region 9 with (first | (refine wpList_valn rfl (exec_allocNt rfl) ?_) | (refine wpList_nuln rfl (exec_fillNt rfl rfl rfl) ?_) | fail)
      generalize w8.alloc (.cells (celNt S).toArray 25) = w9 at *
      go_wp2_with (first | (refine wpList_valn rfl (exec_loadNt (c := S) rfl rfl ?_) ?_; (with_reducible exact HS9.out)) | fail)
      refine (pntput S w9 (HT.out.below HB9.out) HQ4.out).mono ?_
      rintro e w10 ⟨rfl, hb⟩
      rw [HQ2.out, HQ1.out]
      have hb2 := hb.alloc hb.size (.cells (cel b).toArray 27)
      have HBKT := Lib.hid (range_below HBK9.out HZ9.out hb2)
      have HBT := Lib.hid (HB9.out.trans (hb2.mono HB9.out.size))
      have HC := Lib.hid (range_new w10 (cel b) 27)
      clear hb hb2 HBK9 HB9 HZ9 HS9
      go_upto_region 11 with (first | (refine wpList_valn rfl (exec_alloc rfl) ?_) | (refine wpList_nuln rfl (exec_fillN rfl rfl rfl) ?_) | fail)
      generalize w10.alloc (.cells (cel b).toArray 27) = w11 at *
      refine wp_region_lit ?_
      refine wpList_valn rfl (exec_mv rfl (ev rfl)) ?_
      simp only [Act.put, List.setIfInBounds_toArray, List.set_cons_succ, List.set_cons_zero]
      refine wpList_valn (v := .bool true) rfl (exec_eqInt true rfl (ev rfl) evk rfl) ?_
      simp only [Act.put, List.setIfInBounds_toArray, List.set_cons_succ, List.set_cons_zero]
      refine wpList_valn (v := .bool true) rfl (exec_mv rfl (ev rfl)) ?_
      simp only [Act.put, List.setIfInBounds_toArray, List.set_cons_succ, List.set_cons_zero]
      refine wpList_val (wanted_of rfl rfl rfl rfl) (exec_load (c := b) rfl (ev rfl) HC.out) ?_
      simp only [Act.put, List.setIfInBounds_toArray, List.set_cons_succ, List.set_cons_zero]
      refine wpList_val (wanted_of rfl rfl rfl rfl) (exec_load (c := b) rfl (ev rfl) HBKT.out) ?_
      simp only [Act.put, List.setIfInBounds_toArray, List.set_cons_succ, List.set_cons_zero]
      refine wpList_val (v := .bool true) (wanted_of rfl rfl rfl rfl) (exec_eqlB true rfl (ev rfl) (ev rfl) (decide_eq_true rfl)) ?_
      simp only [Act.put, List.setIfInBounds_toArray, List.set_cons_succ, List.set_cons_zero]
      refine wpList_valn (v := .bool true) rfl (exec_pt rfl (ev rfl) (ev rfl)) ?_
      simp only [Act.put, List.setIfInBounds_toArray, List.set_cons_succ, List.set_cons_zero]
      refine wpList_valn (v := .bool true) rfl (exec_mv rfl (ev rfl)) ?_
      simp only [Act.put, List.setIfInBounds_toArray, List.set_cons_succ, List.set_cons_zero]
      refine wpList_call (wanted_of rfl rfl rfl rfl) (exec_cl Tryd.call15 rfl evn) ?_
      refine (note_lives _ (HT.out.below HBT.out)).mono ?_
      rintro e wL ⟨rfl, hb⟩
      have HBF := Lib.hid (HBT.out.trans (hb.mono HBT.out.size))
      clear hb
      refine ⟨_, rfl, ?_⟩
      simp only [Act.put, List.setIfInBounds_toArray, List.set_cons_succ, List.set_cons_zero]
      refine wpList_valn (v := .bool true) rfl (exec_pt rfl (ev rfl) (ev rfl)) ?_
      simp only [Act.put, List.setIfInBounds_toArray, List.set_cons_succ, List.set_cons_zero]
      refine wpList_valn (v := .bool true) rfl (exec_as rfl (ev rfl)) ?_
      simp only [Act.put, List.setIfInBounds_toArray, List.set_cons_succ, List.set_cons_zero]
      refine wpList_nil ?_
      go_wp2_with fail
      go_ret
      exact ⟨rfl, HBF.out⟩
    · have hS := codNt.gX_no hq
      rw [show codNt.gX b = zeroNt from hS]
      obtain ⟨E, hE⟩ : ∃ E, codNt.gE b = E := ⟨_, rfl⟩
      rw [hE] at hq ⊢
      have hbe : ((E : Int) == 0) = false := by simpa using hq
      have hb2 := hb.alloc hb.size (.cells (celNt zeroNt).toArray 25)
      have HBT := Lib.hid (HBL.out.trans (hb2.mono HBL.out.size))
      have HS9 := Lib.hid (NteAt.new w8 zeroNt).range
      clear hb hb2 HBK HZ HBL hE hS hq
      go_upto_region 9 with (first | (refine wpList_valn rfl (exec_allocNt rfl) ?_) | (refine wpList_nuln rfl (exec_fillNt rfl rfl rfl) ?_) | fail)
      generalize w8.alloc (.cells (celNt zeroNt).toArray 25) = w9 at *
      go_upto_region 12 with fail
      refine wp_region_lit ?_
      refine wpList_valn rfl (exec_loadNt (c := zeroNt) rfl (ev rfl) HS9.out) ?_
      simp only [Act.put, List.setIfInBounds_toArray, List.set_cons_succ, List.set_cons_zero]
      refine wpList_valn rfl (exec_bldNt rfl) ?_
      simp only [Act.put, List.setIfInBounds_toArray, List.set_cons_succ, List.set_cons_zero]
      refine wpList_valn (v := .bool true) rfl (exec_eqNt true rfl (ev rfl) (ev rfl) (decide_eq_true rfl)) ?_
      simp only [Act.put, List.setIfInBounds_toArray, List.set_cons_succ, List.set_cons_zero]
      refine wpList_valn (v := .bool true) rfl (exec_mv rfl (ev rfl)) ?_
      simp only [Act.put, List.setIfInBounds_toArray, List.set_cons_succ, List.set_cons_zero]
      refine wpList_call (wanted_of rfl rfl rfl rfl) (exec_cl Tryd.call15 rfl evn) ?_
      refine (note_lives _ (HT.out.below HBT.out)).mono ?_
      rintro e wL ⟨rfl, hb⟩
      have HBF := Lib.hid (HBT.out.trans (hb.mono HBT.out.size))
      clear hb
      refine ⟨_, rfl, ?_⟩
      simp only [Act.put, List.setIfInBounds_toArray, List.set_cons_succ, List.set_cons_zero]
      refine wpList_valn (v := .bool true) rfl (exec_pt rfl (ev rfl) (ev rfl)) ?_
      simp only [Act.put, List.setIfInBounds_toArray, List.set_cons_succ, List.set_cons_zero]
      refine wpList_valn (v := .bool true) rfl (exec_as rfl (ev rfl)) ?_
      simp only [Act.put, List.setIfInBounds_toArray, List.set_cons_succ, List.set_cons_zero]
      refine wpList_nil ?_
      go_wp2_with fail
      go_ret
      exact ⟨rfl, HBF.out⟩
  · have hm : nteB x = false := by
      by_cases h : nteB x = true
      · exact absurd (codNt.pE_ok h) hp
      · simpa using h
    have HM := Lib.hid hm
    have hpe : codNt.pE x = 2 := codNt.pE_no (by show ¬ nteB x = true; rw [hm]; decide)
    rw [hpe]
    obtain ⟨pb, hpb⟩ : ∃ pb, codNt.pB x = pb := ⟨_, rfl⟩
    rw [hpb]
    have hb2 := hb.alloc hb.size (.cells (cel pb).toArray 27)
    have HX3 := Lib.hid (HX1.out.below (blk_lt HX1.out) hb2)
    have HBK3 := Lib.hid (range_below HBK1.out HZ1.out hb2)
    have HB3 := Lib.hid (HB1.out.trans (hb2.mono HB1.out.size))
    have HZ3 : Hid (w.heap.size + 1 < (w2.alloc (.cells (cel pb).toArray 27)).heap.size) := Lib.hid (Nat.lt_of_lt_of_le HZ1.out hb2.size)
    clear hb hb2 HX1 HBK1 HB1 HZ1 hp hm hpe hpb
    go_upto_region 2 with (first | (refine wpList_valn rfl (exec_alloc rfl) ?_) | (refine wpList_nuln rfl (exec_fillN rfl rfl rfl) ?_) | fail)
    generalize w2.alloc (.cells (cel pb).toArray 27) = w3 at *
    generalize w2.heap.size = ab at *
    go_wp2_with (first | (refine wpList_valn rfl (exec_loadNt (c := x) rfl rfl ?_) ?_; (with_reducible exact HX3.out.range)) | fail)
    refine (pntmay_b x w3 HM.out).mono ?_
    rintro e w7 ⟨rfl, hb⟩
    have HBK := Lib.hid (range_below HBK3.out HZ3.out hb)
    have HZ := Lib.hid (Nat.lt_of_lt_of_le HZ3.out hb.size)
    have HBL := Lib.hid (HB3.out.trans (hb.mono HB3.out.size))
    clear hb HX3 HBK3 HB3 HZ3
    go_wp2_with (first | (refine wpList_valn rfl (exec_load (c := b) rfl rfl ?_) ?_; (with_reducible exact HBK.out)) | fail)
    refine (pntget b w7 (HT.out.below HBL.out)).mono ?_
    rintro e w8 ⟨rfl, hb⟩
    by_cases hq : codNt.gE b = 0
    · obtain ⟨q1, q2⟩ := codNt.get_put hq
      have q4 := codNt.gX_fits b
      rw [hq]
      obtain ⟨S, hS⟩ : ∃ S, codNt.gX b = S := ⟨_, rfl⟩
      rw [hS] at q1 q2 q4 ⊢
      have HQ1 := Lib.hid q1
      have HQ2 := Lib.hid q2
      have HQ4 : Hid S.fit := Lib.hid q4
      have hb2 := hb.alloc hb.size (.cells (celNt S).toArray 25)
      have HBK9 := Lib.hid (range_below HBK.out HZ.out hb2)
      have HB9 := Lib.hid (HBL.out.trans (hb2.mono HBL.out.size))
      have HS9 := Lib.hid (NteAt.new w8 S).range
      have HZ9 : Hid (w.heap.size + 1 < (w8.alloc (.cells (celNt S).toArray 25)).heap.size) := Lib.hid (Nat.lt_of_lt_of_le HZ.out hb2.size)
      clear hb hb2 HBK HZ HBL q1 q2 q4 hq hS
      go_upto_region 9 with (first | (refine wpList_valn rfl (exec_allocNt rfl) ?_) | (refine wpList_nuln rfl (exec_fillNt rfl rfl rfl) ?_) | fail)
      generalize w8.alloc (.cells (celNt S).toArray 25) = w9 at *
      go_wp2_with (first | (refine wpList_valn rfl (exec_loadNt (c := S) rfl rfl ?_) ?_; (with_reducible exact HS9.out)) | fail)
      refine (pntput S w9 (HT.out.below HB9.out) HQ4.out).mono ?_
      rintro e w10 ⟨rfl, hb⟩
      rw [HQ2.out, HQ1.out]
      have hb2 := hb.alloc hb.size (.cells (cel b).toArray 27)
      have HBKT := Lib.hid (range_below HBK9.out HZ9.out hb2)
      have HBT := Lib.hid (HB9.out.trans (hb2.mono HB9.out.size))
      have HC := Lib.hid (range_new w10 (cel b) 27)
      clear hb hb2 HBK9 HB9 HZ9 HS9
      go_upto_region 11 with (first | (refine wpList_valn rfl (exec_alloc rfl) ?_) | (refine wpList_nuln rfl (exec_fillN rfl rfl rfl) ?_) | fail)
      generalize w10.alloc (.cells (cel b).toArray 27) = w11 at *
      refine wp_region_lit ?_
      refine wpList_valn rfl (exec_mv rfl (ev rfl)) ?_
      simp only [Act.put, List.setIfInBounds_toArray, List.set_cons_succ, List.set_cons_zero]
      refine wpList_valn (v := .bool true) rfl (exec_eqInt true rfl (ev rfl) evk rfl) ?_
      simp only [Act.put, List.setIfInBounds_toArray, List.set_cons_succ, List.set_cons_zero]
      refine wpList_valn (v := .bool true) rfl (exec_mv rfl (ev rfl)) ?_
      simp only [Act.put, List.setIfInBounds_toArray, List.set_cons_succ, List.set_cons_zero]
      refine wpList_val (wanted_of rfl rfl rfl rfl) (exec_load (c := b) rfl (ev rfl) HC.out) ?_
      simp only [Act.put, List.setIfInBounds_toArray, List.set_cons_succ, List.set_cons_zero]
      refine wpList_val (wanted_of rfl rfl rfl rfl) (exec_load (c := b) rfl (ev rfl) HBKT.out) ?_
      simp only [Act.put, List.setIfInBounds_toArray, List.set_cons_succ, List.set_cons_zero]
      refine wpList_val (v := .bool true) (wanted_of rfl rfl rfl rfl) (exec_eqlB true rfl (ev rfl) (ev rfl) (decide_eq_true rfl)) ?_
      simp only [Act.put, List.setIfInBounds_toArray, List.set_cons_succ, List.set_cons_zero]
      refine wpList_valn (v := .bool true) rfl (exec_pt rfl (ev rfl) (ev rfl)) ?_
      simp only [Act.put, List.setIfInBounds_toArray, List.set_cons_succ, List.set_cons_zero]
      refine wpList_valn (v := .bool true) rfl (exec_mv rfl (ev rfl)) ?_
      simp only [Act.put, List.setIfInBounds_toArray, List.set_cons_succ, List.set_cons_zero]
      refine wpList_call (wanted_of rfl rfl rfl rfl) (exec_cl Tryd.call15 rfl evn) ?_
      refine (note_lives _ (HT.out.below HBT.out)).mono ?_
      rintro e wL ⟨rfl, hb⟩
      have HBF := Lib.hid (HBT.out.trans (hb.mono HBT.out.size))
      clear hb
      refine ⟨_, rfl, ?_⟩
      simp only [Act.put, List.setIfInBounds_toArray, List.set_cons_succ, List.set_cons_zero]
      refine wpList_valn (v := .bool true) rfl (exec_pt rfl (ev rfl) (ev rfl)) ?_
      simp only [Act.put, List.setIfInBounds_toArray, List.set_cons_succ, List.set_cons_zero]
      refine wpList_valn (v := .bool true) rfl (exec_as rfl (ev rfl)) ?_
      simp only [Act.put, List.setIfInBounds_toArray, List.set_cons_succ, List.set_cons_zero]
      refine wpList_nil ?_
      go_wp2_with fail
      go_ret
      exact ⟨rfl, HBF.out⟩
    · have hS := codNt.gX_no hq
      rw [show codNt.gX b = zeroNt from hS]
      obtain ⟨E, hE⟩ : ∃ E, codNt.gE b = E := ⟨_, rfl⟩
      rw [hE] at hq ⊢
      have hbe : ((E : Int) == 0) = false := by simpa using hq
      have hb2 := hb.alloc hb.size (.cells (celNt zeroNt).toArray 25)
      have HBT := Lib.hid (HBL.out.trans (hb2.mono HBL.out.size))
      have HS9 := Lib.hid (NteAt.new w8 zeroNt).range
      clear hb hb2 HBK HZ HBL hE hS hq
      go_upto_region 9 with (first | (refine wpList_valn rfl (exec_allocNt rfl) ?_) | (refine wpList_nuln rfl (exec_fillNt rfl rfl rfl) ?_) | fail)
      generalize w8.alloc (.cells (celNt zeroNt).toArray 25) = w9 at *
      go_upto_region 12 with fail
      refine wp_region_lit ?_
      refine wpList_valn rfl (exec_loadNt (c := zeroNt) rfl (ev rfl) HS9.out) ?_
      simp only [Act.put, List.setIfInBounds_toArray, List.set_cons_succ, List.set_cons_zero]
      refine wpList_valn rfl (exec_bldNt rfl) ?_
      simp only [Act.put, List.setIfInBounds_toArray, List.set_cons_succ, List.set_cons_zero]
      refine wpList_valn (v := .bool true) rfl (exec_eqNt true rfl (ev rfl) (ev rfl) (decide_eq_true rfl)) ?_
      simp only [Act.put, List.setIfInBounds_toArray, List.set_cons_succ, List.set_cons_zero]
      refine wpList_valn (v := .bool true) rfl (exec_mv rfl (ev rfl)) ?_
      simp only [Act.put, List.setIfInBounds_toArray, List.set_cons_succ, List.set_cons_zero]
      refine wpList_call (wanted_of rfl rfl rfl rfl) (exec_cl Tryd.call15 rfl evn) ?_
      refine (note_lives _ (HT.out.below HBT.out)).mono ?_
      rintro e wL ⟨rfl, hb⟩
      have HBF := Lib.hid (HBT.out.trans (hb.mono HBT.out.size))
      clear hb
      refine ⟨_, rfl, ?_⟩
      simp only [Act.put, List.setIfInBounds_toArray, List.set_cons_succ, List.set_cons_zero]
      refine wpList_valn (v := .bool true) rfl (exec_pt rfl (ev rfl) (ev rfl)) ?_
      simp only [Act.put, List.setIfInBounds_toArray, List.set_cons_succ, List.set_cons_zero]
      refine wpList_valn (v := .bool true) rfl (exec_as rfl (ev rfl)) ?_
      simp only [Act.put, List.setIfInBounds_toArray, List.set_cons_succ, List.set_cons_zero]
      refine wpList_nil ?_
      go_wp2_with fail
      go_ret
      exact ⟨rfl, HBF.out⟩
end Go.Proofs.YtiandcigoflcmaaDoor
