/-
  The walk of MarkBack, its other half.
-/
import Derived.Test.YtmdpbnolgbfaeaaDoorMvb
namespace Go.Proofs.YtmdpbnolgbfaeaaDoor
open Go.RowKit
set_option linter.unusedVariables false
set_option linter.unusedSimpArgs false
set_option maxRecDepth 100000

set_option maxHeartbeats 4000000 in
theorem markBack_low_y (n : Nat) (x : Mrk) (b : Blk) (w : World) (T : TabM w) (hn : n < 18446744073709551616) (hid : x.fit) (hp : mrkB x = true) (h0 : n = 0) (hq : codM.gE b = 0) : Calls Tryd.prog 5 #[.int .u64 n, mrk x, blk b] w fun e w' => e = .returned (.bool true) ∧ Below w.heap.size w w' := by
  subst h0
  obtain ⟨h1, h2, h3⟩ := boxM_new w x
  have HX1 := Lib.hid (h1.past (.cells (cel b).toArray 26))
  have HB1 := Lib.hid (h2.alloc h2.size (.cells (cel b).toArray 26))
  have HBK1 : Hid (((w.alloc (.cells (celM x).toArray 24)).alloc (.cells (cel b).toArray 26)).rangeAt (w.heap.size + 1) 0 (cel b)) := Lib.hid (by
    have := range_new (w.alloc (.cells (celM x).toArray 24)) (cel b) 26
    rwa [World.size_alloc] at this)
  have HZ1 : Hid (w.heap.size + 1 < ((w.alloc (.cells (celM x).toArray 24)).alloc (.cells (cel b).toArray 26)).heap.size) := Lib.hid (by simp only [World.size_alloc]; omega)
  have HT := Lib.hid T
  have HN := Lib.hid hn
  have HI := Lib.hid hid
  clear h1 h2 h3 T hn hid
  obtain ⟨pb, hpb⟩ : ∃ pb, codM.pB ⟨0, x⟩ = pb := ⟨_, rfl⟩
  have HPB := Lib.hid hpb
  have HE : Hid (codM.pE ⟨0, x⟩ = 2) := Lib.hid (mputE_no (fun h => absurd h.1 (by decide)))
  have HM := Lib.hid hp
  clear hp
  have HQE := Lib.hid hq
  have hqq := mget_put hq
  obtain ⟨N, hN⟩ : ∃ N, codM.gN b = N := ⟨_, rfl⟩
  obtain ⟨S, hS⟩ : ∃ S, (codM.gX b).m = S := ⟨_, rfl⟩
  have hle := codM.gN_le b
  rw [hN] at hle
  rw [hN, hS] at hqq
  obtain ⟨q1, q2, q4⟩ := hqq
  have HGN := Lib.hid hN
  have HGS := Lib.hid hS
  have HQ1 := Lib.hid q1
  have HQ2 := Lib.hid q2
  have HQ4 := Lib.hid q4
  have HLE := Lib.hid hle
  clear hq hN hS q1 q2 q4 hle
  clear hpb
  go_enter Tryd.func5, Tryd.ntmps5
  go_wp2_with (first | (refine wpList_valn rfl (exec_boxM rfl rfl) ?_) | (refine wpList_valn rfl (exec_box rfl rfl) ?_) | (refine wpList_valn rfl (exec_loadM (c := x) rfl rfl ?_) ?_; (with_reducible exact HX1.out.range)) | fail)
  try simp only [World.size_alloc]
  generalize (w.alloc (.cells (celM x).toArray 24)).alloc (.cells (cel b).toArray 26) = w1 at *
  refine (pmput 0 x w1 (HT.out.below HB1.out) HN.out HI.out).mono ?_
  rintro e w2 ⟨rfl, hb⟩
  rw [HPB.out, HE.out]
  have hb2 := hb.alloc hb.size (.cells (cel pb).toArray 26)
  have HX3 := Lib.hid (HX1.out.below (blk_lt HX1.out) hb2)
  have HBK3 := Lib.hid (range_below HBK1.out HZ1.out hb2)
  have HB3 := Lib.hid (HB1.out.trans (hb2.mono HB1.out.size))
  have HA3 := Lib.hid (range_new w2 (cel pb) 26)
  have HZ3 : Hid (w.heap.size + 1 < (w2.alloc (.cells (cel pb).toArray 26)).heap.size) := Lib.hid (Nat.lt_of_lt_of_le HZ1.out hb2.size)
  clear hb hb2 HX1 HBK1 HB1 HZ1
  go_upto_region 2 with (first | (refine wpList_valn rfl (exec_alloc rfl) ?_) | (refine wpList_nuln rfl (exec_fillN rfl rfl rfl) ?_) | fail)
  generalize w2.alloc (.cells (cel pb).toArray 26) = w3 at *
  generalize w2.heap.size = ab at *
  go_wp2_with (first | (refine wpList_valn rfl (exec_loadM (c := x) rfl rfl ?_) ?_; (with_reducible exact HX3.out.range)) | fail)
  refine (pmmay_b x w3 HM.out).mono ?_
  rintro e w7 ⟨rfl, hb⟩
  have HBK := Lib.hid (range_below HBK3.out HZ3.out hb)
  have HZ := Lib.hid (Nat.lt_of_lt_of_le HZ3.out hb.size)
  have HBL := Lib.hid (HB3.out.trans (hb.mono HB3.out.size))
  clear hb HX3 HBK3 HB3 HZ3 HA3
  go_wp2_with (first | (refine wpList_valn rfl (exec_load (c := b) rfl rfl ?_) ?_; (with_reducible exact HBK.out)) | fail)
  refine (pmget b w7 (HT.out.below HBL.out)).mono ?_
  rintro e w8 ⟨rfl, hb⟩
  rw [HGN.out, HGS.out, HQE.out]
  have hb2 := hb.alloc hb.size (.cells (celM S).toArray 24)
  have HBK9 := Lib.hid (range_below HBK.out HZ.out hb2)
  have HB9 := Lib.hid (HBL.out.trans (hb2.mono HBL.out.size))
  have HS9 := Lib.hid (MrkAt.new w8 S).range
  have HZ9 : Hid (w.heap.size + 1 < (w8.alloc (.cells (celM S).toArray 24)).heap.size) := Lib.hid (Nat.lt_of_lt_of_le HZ.out hb2.size)
  clear hb hb2 HBK HZ HBL
  go_upto_region 9 with (first | (refine wpList_valn rfl (exec_allocM rfl) ?_) | (refine wpList_nuln rfl (exec_fillM rfl rfl rfl) ?_) | fail)
  generalize w8.alloc (.cells (celM S).toArray 24) = w9 at *
  go_wp2_with (first | (refine wpList_valn rfl (exec_loadM (c := S) rfl rfl ?_) ?_; (with_reducible exact HS9.out)) | fail)
  refine (pmput N S w9 (HT.out.below HB9.out) (by have := HLE.out; omega) HQ4.out).mono ?_
  rintro e w10 ⟨rfl, hb⟩
  rw [HQ2.out, HQ1.out]
  have hb2 := hb.alloc hb.size (.cells (cel b).toArray 26)
  have HBKT := Lib.hid (range_below HBK9.out HZ9.out hb2)
  have HBT := Lib.hid (HB9.out.trans (hb2.mono HB9.out.size))
  have HC := Lib.hid (range_new w10 (cel b) 26)
  clear hb hb2 HBK9 HB9 HZ9 HS9
  go_upto_region 11 with (first | (refine wpList_valn rfl (exec_alloc rfl) ?_) | (refine wpList_nuln rfl (exec_fillN rfl rfl rfl) ?_) | fail)
  generalize w10.alloc (.cells (cel b).toArray 26) = w11 at *
  refine wp_region_lit ?_
  refine wpList_valn rfl (exec_mv rfl (ev rfl)) ?_
  simp only [Act.put, List.setIfInBounds_toArray, List.set_cons_succ, List.set_cons_zero]
  refine wpList_valn (v := .bool true) rfl (exec_eqInt true rfl (ev rfl) evk rfl) ?_
  simp only [Act.put, List.setIfInBounds_toArray, List.set_cons_succ, List.set_cons_zero]
  refine wpList_valn (v := .bool true) rfl (exec_mv rfl (ev rfl)) ?_
  simp only [Act.put, List.setIfInBounds_toArray, List.set_cons_succ, List.set_cons_zero]
  refine wpList_val (wanted_of rfl rfl rfl rfl) (exec_load (c := b) rfl (ev rfl) HC.out) ?_
  simp only [Act.put, List.setIfInBounds_toArray, List.set_cons_succ, List.set_cons_zero]
  refine wpList_val (wanted_of rfl rfl rfl rfl) (exec_load (c := b) rfl (ev rfl) HBKT.out) ?_
  simp only [Act.put, List.setIfInBounds_toArray, List.set_cons_succ, List.set_cons_zero]
  refine wpList_val (v := .bool true) (wanted_of rfl rfl rfl rfl) (exec_eqlB true rfl (ev rfl) (ev rfl) (decide_eq_true rfl)) ?_
  simp only [Act.put, List.setIfInBounds_toArray, List.set_cons_succ, List.set_cons_zero]
  refine wpList_valn (v := .bool true) rfl (exec_pt rfl (ev rfl) (ev rfl)) ?_
  simp only [Act.put, List.setIfInBounds_toArray, List.set_cons_succ, List.set_cons_zero]
  refine wpList_valn (v := .bool true) rfl (exec_mv rfl (ev rfl)) ?_
  simp only [Act.put, List.setIfInBounds_toArray, List.set_cons_succ, List.set_cons_zero]
  refine wpList_call (wanted_of rfl rfl rfl rfl) (exec_cl Tryd.call13 rfl evn) ?_
  refine (mark_lives _ (HT.out.below HBT.out)).mono ?_
  rintro e wL ⟨rfl, hb⟩
  have HBF := Lib.hid (HBT.out.trans (hb.mono HBT.out.size))
  clear hb
  refine ⟨_, rfl, ?_⟩
  simp only [Act.put, List.setIfInBounds_toArray, List.set_cons_succ, List.set_cons_zero]
  refine wpList_valn (v := .bool true) rfl (exec_pt rfl (ev rfl) (ev rfl)) ?_
  simp only [Act.put, List.setIfInBounds_toArray, List.set_cons_succ, List.set_cons_zero]
  refine wpList_valn (v := .bool true) rfl (exec_as rfl (ev rfl)) ?_
  simp only [Act.put, List.setIfInBounds_toArray, List.set_cons_succ, List.set_cons_zero]
  refine wpList_nil ?_
  go_wp2_with fail
  go_ret
  exact ⟨rfl, HBF.out⟩
set_option maxHeartbeats 4000000 in
theorem markBack_low_n (n : Nat) (x : Mrk) (b : Blk) (w : World) (T : TabM w) (hn : n < 18446744073709551616) (hid : x.fit) (hp : mrkB x = true) (h0 : n = 0) (hq : codM.gE b ≠ 0) : Calls Tryd.prog 5 #[.int .u64 n, mrk x, blk b] w fun e w' => e = .returned (.bool true) ∧ Below w.heap.size w w' := by
  subst h0
  obtain ⟨h1, h2, h3⟩ := boxM_new w x
  have HX1 := Lib.hid (h1.past (.cells (cel b).toArray 26))
  have HB1 := Lib.hid (h2.alloc h2.size (.cells (cel b).toArray 26))
  have HBK1 : Hid (((w.alloc (.cells (celM x).toArray 24)).alloc (.cells (cel b).toArray 26)).rangeAt (w.heap.size + 1) 0 (cel b)) := Lib.hid (by
    have := range_new (w.alloc (.cells (celM x).toArray 24)) (cel b) 26
    rwa [World.size_alloc] at this)
  have HZ1 : Hid (w.heap.size + 1 < ((w.alloc (.cells (celM x).toArray 24)).alloc (.cells (cel b).toArray 26)).heap.size) := Lib.hid (by simp only [World.size_alloc]; omega)
  have HT := Lib.hid T
  have HN := Lib.hid hn
  have HI := Lib.hid hid
  clear h1 h2 h3 T hn hid
  obtain ⟨pb, hpb⟩ : ∃ pb, codM.pB ⟨0, x⟩ = pb := ⟨_, rfl⟩
  have HPB := Lib.hid hpb
  have HE : Hid (codM.pE ⟨0, x⟩ = 2) := Lib.hid (mputE_no (fun h => absurd h.1 (by decide)))
  have HM := Lib.hid hp
  clear hp
  have HGN := Lib.hid (codM.gN_no hq)
  have HGS := Lib.hid (mX_no hq)
  obtain ⟨F, hF⟩ : ∃ F, codM.gE b = F := ⟨_, rfl⟩
  rw [hF] at hq
  have HQE := Lib.hid hF
  have hqd : ((F : Int) == 0) = false := by simp; omega
  clear hq hF
  clear hpb
  go_enter Tryd.func5, Tryd.ntmps5
  go_wp2_with (first | (refine wpList_valn rfl (exec_boxM rfl rfl) ?_) | (refine wpList_valn rfl (exec_box rfl rfl) ?_) | (refine wpList_valn rfl (exec_loadM (c := x) rfl rfl ?_) ?_; (with_reducible exact HX1.out.range)) | fail)
  try simp only [World.size_alloc]
  generalize (w.alloc (.cells (celM x).toArray 24)).alloc (.cells (cel b).toArray 26) = w1 at *
  refine (pmput 0 x w1 (HT.out.below HB1.out) HN.out HI.out).mono ?_
  rintro e w2 ⟨rfl, hb⟩
  rw [HPB.out, HE.out]
  have hb2 := hb.alloc hb.size (.cells (cel pb).toArray 26)
  have HX3 := Lib.hid (HX1.out.below (blk_lt HX1.out) hb2)
  have HBK3 := Lib.hid (range_below HBK1.out HZ1.out hb2)
  have HB3 := Lib.hid (HB1.out.trans (hb2.mono HB1.out.size))
  have HA3 := Lib.hid (range_new w2 (cel pb) 26)
  have HZ3 : Hid (w.heap.size + 1 < (w2.alloc (.cells (cel pb).toArray 26)).heap.size) := Lib.hid (Nat.lt_of_lt_of_le HZ1.out hb2.size)
  clear hb hb2 HX1 HBK1 HB1 HZ1
  go_upto_region 2 with (first | (refine wpList_valn rfl (exec_alloc rfl) ?_) | (refine wpList_nuln rfl (exec_fillN rfl rfl rfl) ?_) | fail)
  generalize w2.alloc (.cells (cel pb).toArray 26) = w3 at *
  generalize w2.heap.size = ab at *
  go_wp2_with (first | (refine wpList_valn rfl (exec_loadM (c := x) rfl rfl ?_) ?_; (with_reducible exact HX3.out.range)) | fail)
  refine (pmmay_b x w3 HM.out).mono ?_
  rintro e w7 ⟨rfl, hb⟩
  have HBK := Lib.hid (range_below HBK3.out HZ3.out hb)
  have HZ := Lib.hid (Nat.lt_of_lt_of_le HZ3.out hb.size)
  have HBL := Lib.hid (HB3.out.trans (hb.mono HB3.out.size))
  clear hb HX3 HBK3 HB3 HZ3 HA3
  go_wp2_with (first | (refine wpList_valn rfl (exec_load (c := b) rfl rfl ?_) ?_; (with_reducible exact HBK.out)) | fail)
  refine (pmget b w7 (HT.out.below HBL.out)).mono ?_
  rintro e w8 ⟨rfl, hb⟩
  rw [HGN.out, HGS.out, HQE.out]
  have hb2 := hb.alloc hb.size (.cells (celM zeroM).toArray 24)
  have HBT := Lib.hid (HBL.out.trans (hb2.mono HBL.out.size))
  have HC := Lib.hid (MrkAt.new w8 zeroM).range
  clear hb hb2 HBK HZ HBL
  go_upto_region 12 with (first | (refine wpList_valn rfl (exec_allocM rfl) ?_) | (refine wpList_nuln rfl (exec_fillM (c := zeroM) rfl rfl rfl) ?_) | fail)
  generalize w8.alloc (.cells (celM zeroM).toArray 24) = w9 at *
  refine wp_region_lit ?_
  refine wpList_valn rfl (exec_mv rfl (ev rfl)) ?_
  simp only [Act.put, List.setIfInBounds_toArray, List.set_cons_succ, List.set_cons_zero]
  refine wpList_valn (v := .bool true) rfl (exec_eqInt true rfl (ev rfl) evk rfl) ?_
  simp only [Act.put, List.setIfInBounds_toArray, List.set_cons_succ, List.set_cons_zero]
  refine wpList_valn (v := .bool true) rfl (exec_mv rfl (ev rfl)) ?_
  simp only [Act.put, List.setIfInBounds_toArray, List.set_cons_succ, List.set_cons_zero]
  refine wpList_val (wanted_of rfl rfl rfl rfl) (exec_loadM (c := zeroM) rfl (ev rfl) HC.out) ?_
  simp only [Act.put, List.setIfInBounds_toArray, List.set_cons_succ, List.set_cons_zero]
  refine wpList_val (wanted_of rfl rfl rfl rfl) (exec_bldM rfl) ?_
  simp only [Act.put, List.setIfInBounds_toArray, List.set_cons_succ, List.set_cons_zero]
  refine wpList_val (v := .bool true) (wanted_of rfl rfl rfl rfl) (exec_eqM true rfl (ev rfl) (ev rfl) (decide_eq_true rfl)) ?_
  simp only [Act.put, List.setIfInBounds_toArray, List.set_cons_succ, List.set_cons_zero]
  refine wpList_valn (v := .bool true) rfl (exec_pt rfl (ev rfl) (ev rfl)) ?_
  simp only [Act.put, List.setIfInBounds_toArray, List.set_cons_succ, List.set_cons_zero]
  refine wpList_valn (v := .bool true) rfl (exec_mv rfl (ev rfl)) ?_
  simp only [Act.put, List.setIfInBounds_toArray, List.set_cons_succ, List.set_cons_zero]
  refine wpList_call (wanted_of rfl rfl rfl rfl) (exec_cl Tryd.call13 rfl evn) ?_
  refine (mark_lives _ (HT.out.below HBT.out)).mono ?_
  rintro e wL ⟨rfl, hb⟩
  have HBF := Lib.hid (HBT.out.trans (hb.mono HBT.out.size))
  clear hb
  refine ⟨_, rfl, ?_⟩
  simp only [Act.put, List.setIfInBounds_toArray, List.set_cons_succ, List.set_cons_zero]
  refine wpList_valn (v := .bool true) rfl (exec_pt rfl (ev rfl) (ev rfl)) ?_
  simp only [Act.put, List.setIfInBounds_toArray, List.set_cons_succ, List.set_cons_zero]
  refine wpList_valn (v := .bool true) rfl (exec_as rfl (ev rfl)) ?_
  simp only [Act.put, List.setIfInBounds_toArray, List.set_cons_succ, List.set_cons_zero]
  refine wpList_nil ?_
  go_wp2_with fail
  go_ret
  exact ⟨rfl, HBF.out⟩
set_option maxHeartbeats 4000000 in
theorem markBack_big_y (n : Nat) (x : Mrk) (b : Blk) (w : World) (T : TabM w) (hn : n < 18446744073709551616) (hid : x.fit) (hp : mrkB x = true) (h0 : 4611686018427387904 < n) (hq : codM.gE b = 0) : Calls Tryd.prog 5 #[.int .u64 n, mrk x, blk b] w fun e w' => e = .returned (.bool true) ∧ Below w.heap.size w w' := by
  obtain ⟨h1, h2, h3⟩ := boxM_new w x
  have HX1 := Lib.hid (h1.past (.cells (cel b).toArray 26))
  have HB1 := Lib.hid (h2.alloc h2.size (.cells (cel b).toArray 26))
  have HBK1 : Hid (((w.alloc (.cells (celM x).toArray 24)).alloc (.cells (cel b).toArray 26)).rangeAt (w.heap.size + 1) 0 (cel b)) := Lib.hid (by
    have := range_new (w.alloc (.cells (celM x).toArray 24)) (cel b) 26
    rwa [World.size_alloc] at this)
  have HZ1 : Hid (w.heap.size + 1 < ((w.alloc (.cells (celM x).toArray 24)).alloc (.cells (cel b).toArray 26)).heap.size) := Lib.hid (by simp only [World.size_alloc]; omega)
  have HT := Lib.hid T
  have HN := Lib.hid hn
  have HI := Lib.hid hid
  clear h1 h2 h3 T hn hid
  obtain ⟨pb, hpb⟩ : ∃ pb, codM.pB ⟨n, x⟩ = pb := ⟨_, rfl⟩
  have HPB := Lib.hid hpb
  have HE : Hid (codM.pE ⟨n, x⟩ = 2) := Lib.hid (mputE_no (fun h => by have := of_evB h.1; omega))
  have HM := Lib.hid hp
  have hd1 : decide ((1 : Int) ≤ (n : Int)) = true := by simp; omega
  have hd2 : decide ((n : Int) ≤ 4611686018427387904) = false := by simp; omega
  have hd3 : decide (1 ≤ n) = true := by simp; omega
  have hd4 : decide (n ≤ 4611686018427387904) = false := by simp; omega
  clear hp h0
  have HQE := Lib.hid hq
  have hqq := mget_put hq
  obtain ⟨N, hN⟩ : ∃ N, codM.gN b = N := ⟨_, rfl⟩
  obtain ⟨S, hS⟩ : ∃ S, (codM.gX b).m = S := ⟨_, rfl⟩
  have hle := codM.gN_le b
  rw [hN] at hle
  rw [hN, hS] at hqq
  obtain ⟨q1, q2, q4⟩ := hqq
  have HGN := Lib.hid hN
  have HGS := Lib.hid hS
  have HQ1 := Lib.hid q1
  have HQ2 := Lib.hid q2
  have HQ4 := Lib.hid q4
  have HLE := Lib.hid hle
  clear hq hN hS q1 q2 q4 hle
  clear hpb
  go_enter Tryd.func5, Tryd.ntmps5
  go_wp2_with (first | (refine wpList_valn rfl (exec_boxM rfl rfl) ?_) | (refine wpList_valn rfl (exec_box rfl rfl) ?_) | (refine wpList_valn rfl (exec_loadM (c := x) rfl rfl ?_) ?_; (with_reducible exact HX1.out.range)) | fail)
  try simp only [World.size_alloc]
  generalize (w.alloc (.cells (celM x).toArray 24)).alloc (.cells (cel b).toArray 26) = w1 at *
  refine (pmput n x w1 (HT.out.below HB1.out) HN.out HI.out).mono ?_
  rintro e w2 ⟨rfl, hb⟩
  rw [HPB.out, HE.out]
  have hb2 := hb.alloc hb.size (.cells (cel pb).toArray 26)
  have HX3 := Lib.hid (HX1.out.below (blk_lt HX1.out) hb2)
  have HBK3 := Lib.hid (range_below HBK1.out HZ1.out hb2)
  have HB3 := Lib.hid (HB1.out.trans (hb2.mono HB1.out.size))
  have HA3 := Lib.hid (range_new w2 (cel pb) 26)
  have HZ3 : Hid (w.heap.size + 1 < (w2.alloc (.cells (cel pb).toArray 26)).heap.size) := Lib.hid (Nat.lt_of_lt_of_le HZ1.out hb2.size)
  clear hb hb2 HX1 HBK1 HB1 HZ1
  go_upto_region 2 with (first | (refine wpList_valn rfl (exec_alloc rfl) ?_) | (refine wpList_nuln rfl (exec_fillN rfl rfl rfl) ?_) | fail)
  generalize w2.alloc (.cells (cel pb).toArray 26) = w3 at *
  generalize w2.heap.size = ab at *
  go_wp2_with (first | (refine wpList_valn rfl (exec_loadM (c := x) rfl rfl ?_) ?_; (with_reducible exact HX3.out.range)) | fail)
  refine (pmmay_b x w3 HM.out).mono ?_
  rintro e w7 ⟨rfl, hb⟩
  have HBK := Lib.hid (range_below HBK3.out HZ3.out hb)
  have HZ := Lib.hid (Nat.lt_of_lt_of_le HZ3.out hb.size)
  have HBL := Lib.hid (HB3.out.trans (hb.mono HB3.out.size))
  clear hb HX3 HBK3 HB3 HZ3 HA3
  go_wp2_with (first | (refine wpList_valn rfl (exec_load (c := b) rfl rfl ?_) ?_; (with_reducible exact HBK.out)) | fail)
  refine (pmget b w7 (HT.out.below HBL.out)).mono ?_
  rintro e w8 ⟨rfl, hb⟩
  rw [HGN.out, HGS.out, HQE.out]
  have hb2 := hb.alloc hb.size (.cells (celM S).toArray 24)
  have HBK9 := Lib.hid (range_below HBK.out HZ.out hb2)
  have HB9 := Lib.hid (HBL.out.trans (hb2.mono HBL.out.size))
  have HS9 := Lib.hid (MrkAt.new w8 S).range
  have HZ9 : Hid (w.heap.size + 1 < (w8.alloc (.cells (celM S).toArray 24)).heap.size) := Lib.hid (Nat.lt_of_lt_of_le HZ.out hb2.size)
  clear hb hb2 HBK HZ HBL
  go_upto_region 9 with (first | (refine wpList_valn rfl (exec_allocM rfl) ?_) | (refine wpList_nuln rfl (exec_fillM rfl rfl rfl) ?_) | fail)
  generalize w8.alloc (.cells (celM S).toArray 24) = w9 at *
  go_wp2_with (first | (refine wpList_valn rfl (exec_loadM (c := S) rfl rfl ?_) ?_; (with_reducible exact HS9.out)) | fail)
  refine (pmput N S w9 (HT.out.below HB9.out) (by have := HLE.out; omega) HQ4.out).mono ?_
  rintro e w10 ⟨rfl, hb⟩
  rw [HQ2.out, HQ1.out]
  have hb2 := hb.alloc hb.size (.cells (cel b).toArray 26)
  have HBKT := Lib.hid (range_below HBK9.out HZ9.out hb2)
  have HBT := Lib.hid (HB9.out.trans (hb2.mono HB9.out.size))
  have HC := Lib.hid (range_new w10 (cel b) 26)
  clear hb hb2 HBK9 HB9 HZ9 HS9
  go_upto_region 11 with (first | (refine wpList_valn rfl (exec_alloc rfl) ?_) | (refine wpList_nuln rfl (exec_fillN rfl rfl rfl) ?_) | fail)
  generalize w10.alloc (.cells (cel b).toArray 26) = w11 at *
  refine wp_region_lit ?_
  refine wpList_valn rfl (exec_mv rfl (ev rfl)) ?_
  simp only [Act.put, List.setIfInBounds_toArray, List.set_cons_succ, List.set_cons_zero]
  refine wpList_valn (v := .bool true) rfl (exec_eqInt true rfl (ev rfl) evk rfl) ?_
  simp only [Act.put, List.setIfInBounds_toArray, List.set_cons_succ, List.set_cons_zero]
  refine wpList_valn (v := .bool true) rfl (exec_mv rfl (ev rfl)) ?_
  simp only [Act.put, List.setIfInBounds_toArray, List.set_cons_succ, List.set_cons_zero]
  refine wpList_val (wanted_of rfl rfl rfl rfl) (exec_load (c := b) rfl (ev rfl) HC.out) ?_
  simp only [Act.put, List.setIfInBounds_toArray, List.set_cons_succ, List.set_cons_zero]
  refine wpList_val (wanted_of rfl rfl rfl rfl) (exec_load (c := b) rfl (ev rfl) HBKT.out) ?_
  simp only [Act.put, List.setIfInBounds_toArray, List.set_cons_succ, List.set_cons_zero]
  refine wpList_val (v := .bool true) (wanted_of rfl rfl rfl rfl) (exec_eqlB true rfl (ev rfl) (ev rfl) (decide_eq_true rfl)) ?_
  simp only [Act.put, List.setIfInBounds_toArray, List.set_cons_succ, List.set_cons_zero]
  refine wpList_valn (v := .bool true) rfl (exec_pt rfl (ev rfl) (ev rfl)) ?_
  simp only [Act.put, List.setIfInBounds_toArray, List.set_cons_succ, List.set_cons_zero]
  refine wpList_valn (v := .bool true) rfl (exec_mv rfl (ev rfl)) ?_
  simp only [Act.put, List.setIfInBounds_toArray, List.set_cons_succ, List.set_cons_zero]
  refine wpList_call (wanted_of rfl rfl rfl rfl) (exec_cl Tryd.call13 rfl evn) ?_
  refine (mark_lives _ (HT.out.below HBT.out)).mono ?_
  rintro e wL ⟨rfl, hb⟩
  have HBF := Lib.hid (HBT.out.trans (hb.mono HBT.out.size))
  clear hb
  refine ⟨_, rfl, ?_⟩
  simp only [Act.put, List.setIfInBounds_toArray, List.set_cons_succ, List.set_cons_zero]
  refine wpList_valn (v := .bool true) rfl (exec_pt rfl (ev rfl) (ev rfl)) ?_
  simp only [Act.put, List.setIfInBounds_toArray, List.set_cons_succ, List.set_cons_zero]
  refine wpList_valn (v := .bool true) rfl (exec_as rfl (ev rfl)) ?_
  simp only [Act.put, List.setIfInBounds_toArray, List.set_cons_succ, List.set_cons_zero]
  refine wpList_nil ?_
  go_wp2_with fail
  go_ret
  exact ⟨rfl, HBF.out⟩
set_option maxHeartbeats 4000000 in
theorem markBack_big_n (n : Nat) (x : Mrk) (b : Blk) (w : World) (T : TabM w) (hn : n < 18446744073709551616) (hid : x.fit) (hp : mrkB x = true) (h0 : 4611686018427387904 < n) (hq : codM.gE b ≠ 0) : Calls Tryd.prog 5 #[.int .u64 n, mrk x, blk b] w fun e w' => e = .returned (.bool true) ∧ Below w.heap.size w w' := by
  obtain ⟨h1, h2, h3⟩ := boxM_new w x
  have HX1 := Lib.hid (h1.past (.cells (cel b).toArray 26))
  have HB1 := Lib.hid (h2.alloc h2.size (.cells (cel b).toArray 26))
  have HBK1 : Hid (((w.alloc (.cells (celM x).toArray 24)).alloc (.cells (cel b).toArray 26)).rangeAt (w.heap.size + 1) 0 (cel b)) := Lib.hid (by
    have := range_new (w.alloc (.cells (celM x).toArray 24)) (cel b) 26
    rwa [World.size_alloc] at this)
  have HZ1 : Hid (w.heap.size + 1 < ((w.alloc (.cells (celM x).toArray 24)).alloc (.cells (cel b).toArray 26)).heap.size) := Lib.hid (by simp only [World.size_alloc]; omega)
  have HT := Lib.hid T
  have HN := Lib.hid hn
  have HI := Lib.hid hid
  clear h1 h2 h3 T hn hid
  obtain ⟨pb, hpb⟩ : ∃ pb, codM.pB ⟨n, x⟩ = pb := ⟨_, rfl⟩
  have HPB := Lib.hid hpb
  have HE : Hid (codM.pE ⟨n, x⟩ = 2) := Lib.hid (mputE_no (fun h => by have := of_evB h.1; omega))
  have HM := Lib.hid hp
  have hd1 : decide ((1 : Int) ≤ (n : Int)) = true := by simp; omega
  have hd2 : decide ((n : Int) ≤ 4611686018427387904) = false := by simp; omega
  have hd3 : decide (1 ≤ n) = true := by simp; omega
  have hd4 : decide (n ≤ 4611686018427387904) = false := by simp; omega
  clear hp h0
  have HGN := Lib.hid (codM.gN_no hq)
  have HGS := Lib.hid (mX_no hq)
  obtain ⟨F, hF⟩ : ∃ F, codM.gE b = F := ⟨_, rfl⟩
  rw [hF] at hq
  have HQE := Lib.hid hF
  have hqd : ((F : Int) == 0) = false := by simp; omega
  clear hq hF
  clear hpb
  go_enter Tryd.func5, Tryd.ntmps5
  go_wp2_with (first | (refine wpList_valn rfl (exec_boxM rfl rfl) ?_) | (refine wpList_valn rfl (exec_box rfl rfl) ?_) | (refine wpList_valn rfl (exec_loadM (c := x) rfl rfl ?_) ?_; (with_reducible exact HX1.out.range)) | fail)
  try simp only [World.size_alloc]
  generalize (w.alloc (.cells (celM x).toArray 24)).alloc (.cells (cel b).toArray 26) = w1 at *
  refine (pmput n x w1 (HT.out.below HB1.out) HN.out HI.out).mono ?_
  rintro e w2 ⟨rfl, hb⟩
  rw [HPB.out, HE.out]
  have hb2 := hb.alloc hb.size (.cells (cel pb).toArray 26)
  have HX3 := Lib.hid (HX1.out.below (blk_lt HX1.out) hb2)
  have HBK3 := Lib.hid (range_below HBK1.out HZ1.out hb2)
  have HB3 := Lib.hid (HB1.out.trans (hb2.mono HB1.out.size))
  have HA3 := Lib.hid (range_new w2 (cel pb) 26)
  have HZ3 : Hid (w.heap.size + 1 < (w2.alloc (.cells (cel pb).toArray 26)).heap.size) := Lib.hid (Nat.lt_of_lt_of_le HZ1.out hb2.size)
  clear hb hb2 HX1 HBK1 HB1 HZ1
  go_upto_region 2 with (first | (refine wpList_valn rfl (exec_alloc rfl) ?_) | (refine wpList_nuln rfl (exec_fillN rfl rfl rfl) ?_) | fail)
  generalize w2.alloc (.cells (cel pb).toArray 26) = w3 at *
  generalize w2.heap.size = ab at *
  go_wp2_with (first | (refine wpList_valn rfl (exec_loadM (c := x) rfl rfl ?_) ?_; (with_reducible exact HX3.out.range)) | fail)
  refine (pmmay_b x w3 HM.out).mono ?_
  rintro e w7 ⟨rfl, hb⟩
  have HBK := Lib.hid (range_below HBK3.out HZ3.out hb)
  have HZ := Lib.hid (Nat.lt_of_lt_of_le HZ3.out hb.size)
  have HBL := Lib.hid (HB3.out.trans (hb.mono HB3.out.size))
  clear hb HX3 HBK3 HB3 HZ3 HA3
  go_wp2_with (first | (refine wpList_valn rfl (exec_load (c := b) rfl rfl ?_) ?_; (with_reducible exact HBK.out)) | fail)
  refine (pmget b w7 (HT.out.below HBL.out)).mono ?_
  rintro e w8 ⟨rfl, hb⟩
  rw [HGN.out, HGS.out, HQE.out]
  have hb2 := hb.alloc hb.size (.cells (celM zeroM).toArray 24)
  have HBT := Lib.hid (HBL.out.trans (hb2.mono HBL.out.size))
  have HC := Lib.hid (MrkAt.new w8 zeroM).range
  clear hb hb2 HBK HZ HBL
  go_upto_region 12 with (first | (refine wpList_valn rfl (exec_allocM rfl) ?_) | (refine wpList_nuln rfl (exec_fillM (c := zeroM) rfl rfl rfl) ?_) | fail)
  generalize w8.alloc (.cells (celM zeroM).toArray 24) = w9 at *
  refine wp_region_lit ?_
  refine wpList_valn rfl (exec_mv rfl (ev rfl)) ?_
  simp only [Act.put, List.setIfInBounds_toArray, List.set_cons_succ, List.set_cons_zero]
  refine wpList_valn (v := .bool true) rfl (exec_eqInt true rfl (ev rfl) evk rfl) ?_
  simp only [Act.put, List.setIfInBounds_toArray, List.set_cons_succ, List.set_cons_zero]
  refine wpList_valn (v := .bool true) rfl (exec_mv rfl (ev rfl)) ?_
  simp only [Act.put, List.setIfInBounds_toArray, List.set_cons_succ, List.set_cons_zero]
  refine wpList_val (wanted_of rfl rfl rfl rfl) (exec_loadM (c := zeroM) rfl (ev rfl) HC.out) ?_
  simp only [Act.put, List.setIfInBounds_toArray, List.set_cons_succ, List.set_cons_zero]
  refine wpList_val (wanted_of rfl rfl rfl rfl) (exec_bldM rfl) ?_
  simp only [Act.put, List.setIfInBounds_toArray, List.set_cons_succ, List.set_cons_zero]
  refine wpList_val (v := .bool true) (wanted_of rfl rfl rfl rfl) (exec_eqM true rfl (ev rfl) (ev rfl) (decide_eq_true rfl)) ?_
  simp only [Act.put, List.setIfInBounds_toArray, List.set_cons_succ, List.set_cons_zero]
  refine wpList_valn (v := .bool true) rfl (exec_pt rfl (ev rfl) (ev rfl)) ?_
  simp only [Act.put, List.setIfInBounds_toArray, List.set_cons_succ, List.set_cons_zero]
  refine wpList_valn (v := .bool true) rfl (exec_mv rfl (ev rfl)) ?_
  simp only [Act.put, List.setIfInBounds_toArray, List.set_cons_succ, List.set_cons_zero]
  refine wpList_call (wanted_of rfl rfl rfl rfl) (exec_cl Tryd.call13 rfl evn) ?_
  refine (mark_lives _ (HT.out.below HBT.out)).mono ?_
  rintro e wL ⟨rfl, hb⟩
  have HBF := Lib.hid (HBT.out.trans (hb.mono HBT.out.size))
  clear hb
  refine ⟨_, rfl, ?_⟩
  simp only [Act.put, List.setIfInBounds_toArray, List.set_cons_succ, List.set_cons_zero]
  refine wpList_valn (v := .bool true) rfl (exec_pt rfl (ev rfl) (ev rfl)) ?_
  simp only [Act.put, List.setIfInBounds_toArray, List.set_cons_succ, List.set_cons_zero]
  refine wpList_valn (v := .bool true) rfl (exec_as rfl (ev rfl)) ?_
  simp only [Act.put, List.setIfInBounds_toArray, List.set_cons_succ, List.set_cons_zero]
  refine wpList_nil ?_
  go_wp2_with fail
  go_ret
  exact ⟨rfl, HBF.out⟩
theorem markBack_walk (n : Nat) (x : Mrk) (b : Blk) (w : World) (T : TabM w) (hn : n < 18446744073709551616) (hid : x.fit) : Calls Tryd.prog 5 #[.int .u64 n, mrk x, blk b] w fun e w' => e = .returned (.bool true) ∧ Below w.heap.size w w' := by
  by_cases hq : codM.gE b = 0
  · by_cases hp : codM.pE ⟨n, x⟩ = 0
    · exact markBack_ok_y n x b w T hn hid hp hq
    · cases hm : mrkB x
      · exact markBack_may_y n x b w T hn hid hm hq
      · by_cases h0 : n = 0
        · exact markBack_low_y n x b w T hn hid hm h0 hq
        · by_cases h1 : 4611686018427387904 < n
          · exact markBack_big_y n x b w T hn hid hm h1 hq
          · exact absurd (mputE_ok (decide_eq_true ⟨by omega, by omega⟩) hm) hp
  · by_cases hp : codM.pE ⟨n, x⟩ = 0
    · exact markBack_ok_n n x b w T hn hid hp hq
    · cases hm : mrkB x
      · exact markBack_may_n n x b w T hn hid hm hq
      · by_cases h0 : n = 0
        · exact markBack_low_n n x b w T hn hid hm h0 hq
        · by_cases h1 : 4611686018427387904 < n
          · exact markBack_big_n n x b w T hn hid hm h1 hq
          · exact absurd (mputE_ok (decide_eq_true ⟨by omega, by omega⟩) hm) hp
end Go.Proofs.YtmdpbnolgbfaeaaDoor
