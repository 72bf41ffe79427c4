/-
  The walk of NoteGets.
-/
import Derived.Test.YtiandcigoflcmaaDoorNvp
namespace Go.Proofs.YtiandcigoflcmaaDoor
open Go.RowKit
set_option linter.unusedVariables false
set_option linter.unusedSimpArgs false
set_option maxRecDepth 100000

set_option maxHeartbeats 4000000 in
theorem noteGets_walk (b : Blk) (n m c : Nat) (A : Option Addr) (body : List UInt8) (w : World) (T : TabNt w) (hn : n < 18446744073709551616) (hb0 : Rd w w.heap.size A m body) (hm : m ≤ maxLen) :
    Calls Tryd.prog 4 #[blk b, .int .u64 n, .slice A m c] w fun e w' => e = .returned (.bool true) ∧ Below w.heap.size w w' := by
  have HT := Lib.hid T
  have HN := Lib.hid hn
  have HBO := Lib.hid hb0
  have HM := Lib.hid hm
  have HA0 := Lib.hid (range_new w (cel b) 27)
  have HB0 := Lib.hid ((Below.refl w.heap.size w).alloc (Nat.le_refl _) (.cells (cel b).toArray 27))
  have HZ0 : Hid (w.heap.size < (w.alloc (.cells (cel b).toArray 27)).heap.size) := Lib.hid (by simp only [World.size_alloc]; omega)
  clear T hn hb0 hm
  obtain ⟨S, hS⟩ : ∃ S, codNt.gX b = S := ⟨_, rfl⟩
  obtain ⟨E, hE⟩ : ∃ E, codNt.gE b = E := ⟨_, rfl⟩
  have HGS := Lib.hid hS
  have HGE := Lib.hid hE
  have HEE : Hid (((E : Int) != (E : Int)) = false) := Lib.hid (by simp)
  clear hS hE
  go_enter Tryd.func4, Tryd.ntmps4
  go_wp2_with (first | (refine wpList_valn rfl (exec_box rfl rfl) ?_) | (refine wpList_valn rfl (exec_load (c := b) rfl rfl ?_) ?_; (with_reducible exact HA0.out)) | fail)
  generalize w.alloc (.cells (cel b).toArray 27) = w0 at *
  refine (pntget b w0 (HT.out.below HB0.out)).mono ?_
  rintro e w1 ⟨rfl, hb⟩
  rw [HGS.out, HGE.out]
  have hb2 := hb.alloc hb.size (.cells (celNt S).toArray 25)
  have HA1 := Lib.hid (range_below HA0.out HZ0.out hb2)
  have HB1 := Lib.hid (HB0.out.trans (hb2.mono HB0.out.size))
  have HS1 := Lib.hid (NteAt.new w1 S)
  have HZ1 : Hid (w.heap.size < (w1.alloc (.cells (celNt S).toArray 25)).heap.size) := Lib.hid (Nat.lt_of_lt_of_le HZ0.out hb2.size)
  have HSW1 : Hid (w.heap.size ≤ w1.heap.size) := Lib.hid (by have := hb.size; have := HB0.out.size; omega)
  clear hb hb2 HA0 HB0 HZ0
  go_upto_region 2 with (first | (refine wpList_valn rfl (exec_allocNt rfl) ?_) | (refine wpList_nuln rfl (exec_fillNt rfl rfl rfl) ?_) | fail)
  generalize w1.alloc (.cells (celNt S).toArray 25) = w2 at *
  generalize w1.heap.size = sb at *
  go_wp2_with (first | (refine wpList_valn rfl (exec_load (c := b) rfl rfl ?_) ?_; (with_reducible exact HA1.out)) | fail)
  refine (rntget b w2).mono ?_
  rintro e w3 ⟨rfl, hb⟩
  rw [HGS.out, HGE.out]
  have hb2 := hb.alloc hb.size (.cells (celNt S).toArray 25)
  have HB2 := Lib.hid (HB1.out.trans (hb2.mono HB1.out.size))
  have HSA := Lib.hid (HS1.out.below (blk_lt HS1.out) hb2)
  have HTA := Lib.hid (NteAt.new w3 S)
  have HNE : Hid (sb ≠ w3.heap.size) := Lib.hid (by have := blk_lt HS1.out; have := hb.size; omega)
  have HSW : Hid (w.heap.size ≤ sb ∧ w.heap.size ≤ w3.heap.size) := Lib.hid ⟨HSW1.out, by have := hb.size; have := HB1.out.size; omega⟩
  clear hb hb2 HA1 HB1 HZ1 HS1 HSW1
  go_upto_region 3 with (first | (refine wpList_valn rfl (exec_allocNt rfl) ?_) | (refine wpList_nuln rfl (exec_fillNt rfl rfl rfl) ?_) | fail)
  generalize w3.alloc (.cells (celNt S).toArray 25) = w4 at *
  generalize w3.heap.size = tb at *
  have HS2 := Lib.hid HSA.out.range
  have HT2 := Lib.hid HTA.out.range
  refine wp_region_lit ?_
  refine wpList_valn rfl (exec_loadNt (c := S) rfl (ev rfl) HS2.out) ?_
  simp only [Act.put, List.setIfInBounds_toArray, List.set_cons_succ, List.set_cons_zero]
  refine wpList_valn rfl (exec_loadNt (c := S) rfl (ev rfl) HT2.out) ?_
  simp only [Act.put, List.setIfInBounds_toArray, List.set_cons_succ, List.set_cons_zero]
  refine wpList_valn (v := .bool false) rfl (exec_neNt true rfl (ev rfl) (ev rfl) (decide_eq_true rfl)) ?_
  simp only [Act.put, List.setIfInBounds_toArray, List.set_cons_succ, List.set_cons_zero]
  refine wpList_valn (v := .bool false) rfl (exec_mv rfl (ev rfl)) ?_
  simp only [Act.put, List.setIfInBounds_toArray, List.set_cons_succ, List.set_cons_zero]
  refine wpList_val (wanted_of rfl rfl rfl rfl) (exec_mv rfl (ev rfl)) ?_
  simp only [Act.put, List.setIfInBounds_toArray, List.set_cons_succ, List.set_cons_zero]
  refine wpList_val (wanted_of rfl rfl rfl rfl) (exec_mv rfl (ev rfl)) ?_
  simp only [Act.put, List.setIfInBounds_toArray, List.set_cons_succ, List.set_cons_zero]
  refine wpList_val (v := .bool false) (wanted_of rfl rfl rfl rfl) (exec_neInt false rfl (ev rfl) (ev rfl) HEE.out) ?_
  simp only [Act.put, List.setIfInBounds_toArray, List.set_cons_succ, List.set_cons_zero]
  refine wpList_valn (v := .bool false) rfl (exec_pf rfl (ev rfl) (ev rfl)) ?_
  simp only [Act.put, List.setIfInBounds_toArray, List.set_cons_succ, List.set_cons_zero]
  refine wpList_nil ?_
  obtain ⟨pb, hpb⟩ : ∃ pb, putB n body = pb := ⟨_, rfl⟩
  obtain ⟨F, hF⟩ : ∃ F, putE n body = F := ⟨_, rfl⟩
  have HPB := Lib.hid hpb
  have HPE := Lib.hid hF
  clear hpb hF
  go_wp2_with fail
  refine (rsput_all n m c _ A body w4 HN.out (HBO.out.below HB2.out) HB2.out.size HM.out).mono ?_
  rintro e w5 ⟨rfl, hb⟩
  rw [HPB.out, HPE.out]
  have hb2 := hb.alloc hb.size (.cells (cel pb).toArray 27)
  have HB3 := Lib.hid (HB2.out.trans (hb2.mono HB2.out.size))
  have HSB := Lib.hid (HSA.out.below (blk_lt HSA.out) hb2)
  have HTB := Lib.hid (HTA.out.below (blk_lt HTA.out) hb2)
  have HP := Lib.hid (range_new w5 (cel pb) 27)
  have HZP : Hid (w5.heap.size < (w5.alloc (.cells (cel pb).toArray 27)).heap.size) := Lib.hid (by simp only [World.size_alloc]; omega)
  have HSP : Hid (sb < w5.heap.size ∧ tb < w5.heap.size) := Lib.hid (by have := blk_lt HSA.out; have := blk_lt HTA.out; have := hb.size; omega)
  clear hb hb2 HB2 HSA HTA HS2 HT2
  go_upto_region 6 with (first | (refine wpList_valn rfl (exec_alloc rfl) ?_) | (refine wpList_nuln rfl (exec_fillN rfl rfl rfl) ?_) | fail)
  generalize w5.alloc (.cells (cel pb).toArray 27) = w6 at *
  generalize w5.heap.size = qb at *
  by_cases hF0 : F = 0
  · have hfd : ((F : Int) != 0) = false := by rw [hF0]; rfl
    clear hF0
    obtain ⟨S2, hS⟩ : ∃ S, codNt.gX pb = S := ⟨_, rfl⟩
    obtain ⟨E2, hE⟩ : ∃ E, codNt.gE pb = E := ⟨_, rfl⟩
    have HGS2 := Lib.hid hS
    have HGE2 := Lib.hid hE
    have HFF : Hid (((E2 : Int) == (E2 : Int)) = true) := Lib.hid (by simp)
    clear hS hE
    go_wp2_with (first | (refine wpList_valn rfl (exec_load (c := pb) rfl rfl ?_) ?_; (with_reducible exact HP.out)) | fail)
    refine (pntget pb w6 (HT.out.below HB3.out)).mono ?_
    rintro e w7 ⟨rfl, hb⟩
    rw [HGS2.out, HGE2.out]
    have HTH := Lib.hid (NteAt.there (HSB.out.below (blk_lt HSB.out) hb))
    have HTH2 := Lib.hid (World.there_setCells (NteAt.there (HTB.out.below (blk_lt HTB.out) hb)) sb 0 (celNt S2))
    have HP7 := Lib.hid (World.rangeAt_setCells_apart (range_below HP.out HZP.out hb) sb 0 (celNt S2) (.inl (by have := HSP.out; omega)))
    have hb7 := HB3.out.trans (hb.mono HB3.out.size)
    have HB7 := Lib.hid (below_setCells (b := sb) (o := 0) hb7 HSW.out.1 (celNt S2))
    have HS7 := Lib.hid (range_sameNt S2 HTH.out)
    have HZ7 : Hid (sb < (w7.setCells sb 0 (celNt S2)).heap.size ∧ tb < (w7.setCells sb 0 (celNt S2)).heap.size) := Lib.hid (by rw [size_setCells]; have := blk_lt HSB.out; have := blk_lt HTB.out; have := hb.size; omega)
    clear hb hb7 HB3 HSB HTB HP HZP HSP
    go_upto_region 9 with (first | (refine wpList_nuln rfl (exec_putNt (c := S2) rfl rfl rfl ?_) ?_; (with_reducible exact HTH.out)) | fail)
    generalize w7.setCells sb 0 (celNt S2) = w8 at *
    clear HTH
    go_wp2_with (first | (refine wpList_valn rfl (exec_load (c := pb) rfl rfl ?_) ?_; (with_reducible exact HP7.out)) | fail)
    refine (rntget pb w8).mono ?_
    rintro e w9 ⟨rfl, hb⟩
    rw [HGS2.out, HGE2.out]
    have HTH3 := Lib.hid (there_below HTH2.out HZ7.out.2 hb)
    have HS6 := Lib.hid (World.rangeAt_setCells_apart (range_below HS7.out HZ7.out.1 hb) tb 0 (celNt S2) (.inl HNE.out))
    have HT6 := Lib.hid (range_sameNt S2 HTH3.out)
    have hb9 := HB7.out.trans (hb.mono HB7.out.size)
    have HB8 := Lib.hid (below_setCells (b := tb) (o := 0) hb9 HSW.out.2 (celNt S2))
    clear hb hb9 HB7 HTH2 HP7 HS7 HZ7
    go_upto_region 10 with (first | (refine wpList_nuln rfl (exec_putNt (c := S2) rfl rfl rfl ?_) ?_; (with_reducible exact HTH3.out)) | fail)
    generalize w9.setCells tb 0 (celNt S2) = w10 at *
    have HT9 := Lib.hid (HT.out.below HB8.out)
    refine wp_region_lit ?_
    refine wpList_valn rfl (exec_loadNt (c := S2) rfl (ev rfl) HS6.out) ?_
    simp only [Act.put, List.setIfInBounds_toArray, List.set_cons_succ, List.set_cons_zero]
    refine wpList_valn rfl (exec_loadNt (c := S2) rfl (ev rfl) HT6.out) ?_
    simp only [Act.put, List.setIfInBounds_toArray, List.set_cons_succ, List.set_cons_zero]
    refine wpList_valn (v := .bool true) rfl (exec_eqNt true rfl (ev rfl) (ev rfl) (decide_eq_true rfl)) ?_
    simp only [Act.put, List.setIfInBounds_toArray, List.set_cons_succ, List.set_cons_zero]
    refine wpList_valn (v := .bool true) rfl (exec_mv rfl (ev rfl)) ?_
    simp only [Act.put, List.setIfInBounds_toArray, List.set_cons_succ, List.set_cons_zero]
    refine wpList_val (wanted_of rfl rfl rfl rfl) (exec_mv rfl (ev rfl)) ?_
    simp only [Act.put, List.setIfInBounds_toArray, List.set_cons_succ, List.set_cons_zero]
    refine wpList_val (wanted_of rfl rfl rfl rfl) (exec_mv rfl (ev rfl)) ?_
    simp only [Act.put, List.setIfInBounds_toArray, List.set_cons_succ, List.set_cons_zero]
    refine wpList_val (v := .bool true) (wanted_of rfl rfl rfl rfl) (exec_eqInt true rfl (ev rfl) (ev rfl) HFF.out) ?_
    simp only [Act.put, List.setIfInBounds_toArray, List.set_cons_succ, List.set_cons_zero]
    refine wpList_valn (v := .bool true) rfl (exec_pt rfl (ev rfl) (ev rfl)) ?_
    simp only [Act.put, List.setIfInBounds_toArray, List.set_cons_succ, List.set_cons_zero]
    refine wpList_valn (v := .bool true) rfl (exec_mv rfl (ev rfl)) ?_
    simp only [Act.put, List.setIfInBounds_toArray, List.set_cons_succ, List.set_cons_zero]
    refine wpList_call (wanted_of rfl rfl rfl rfl) (exec_cl Tryd.call15 rfl evn) ?_
    refine (note_lives _ HT9.out).mono ?_
    rintro e w9 ⟨rfl, hb⟩
    have HB9 := Lib.hid (HB8.out.trans (hb.mono HB8.out.size))
    clear hb
    refine ⟨_, rfl, ?_⟩
    simp only [Act.put, List.setIfInBounds_toArray, List.set_cons_succ, List.set_cons_zero]
    refine wpList_valn (v := .bool true) rfl (exec_pt rfl (ev rfl) (ev rfl)) ?_
    simp only [Act.put, List.setIfInBounds_toArray, List.set_cons_succ, List.set_cons_zero]
    refine wpList_valn (v := .bool true) rfl (exec_as rfl (ev rfl)) ?_
    simp only [Act.put, List.setIfInBounds_toArray, List.set_cons_succ, List.set_cons_zero]
    refine wpList_nil ?_
    go_wp2_with fail
    go_ret
    exact ⟨rfl, HB9.out⟩
  · have hfd : ((F : Int) != 0) = true := by simp; omega
    clear hF0
    go_wp2_with fail
    refine (note_lives w6 (HT.out.below HB3.out)).mono ?_
    rintro e w7 ⟨rfl, hb⟩
    have HB4 := Lib.hid (HB3.out.trans (hb.mono HB3.out.size))
    clear hb
    go_wp2_with fail
    go_ret
    exact ⟨rfl, HB4.out⟩
end Go.Proofs.YtiandcigoflcmaaDoor
