/-
  The walk of MarkNewest, of two that may be.
-/
import Derived.Test.YtmdpbnolgbfaeaaDoorMvn
namespace Go.Proofs.YtmdpbnolgbfaeaaDoor
open Go.RowKit
set_option linter.unusedVariables false
set_option linter.unusedSimpArgs false
set_option maxRecDepth 100000

set_option maxHeartbeats 4000000 in
theorem markNewest_lt (a b : Blk) (n m : Nat) (s t : Mrk) (w : World) (T : TabM w) (hn : n < 18446744073709551616) (hm : m < 18446744073709551616) (hs : s.fit) (ht : t.fit) (hgx : codM.pE ⟨n, s⟩ = 0) (hfx : codM.pE ⟨m, t⟩ = 0) (hlt : n < m) :
    Calls Tryd.prog 6 #[blk a, blk b, .int .u64 n, .int .u64 m, mrk s, mrk t] w fun e w' => e = .returned (.bool true) ∧ Below w.heap.size w w' := by
  have HT := Lib.hid T
  have HN := Lib.hid hn
  have HM := Lib.hid hm
  have HIS := Lib.hid hs
  have HIT := Lib.hid ht
  have HF1 := Lib.hid (four_newM w a b s t)
  clear T hn hm hs ht
  obtain ⟨N, hN⟩ : ∃ N, (codM.nX a b).n = N := ⟨_, rfl⟩
  obtain ⟨X, hX⟩ : ∃ X, (codM.nX a b).m = X := ⟨_, rfl⟩
  obtain ⟨E, hE⟩ : ∃ E, codM.nE a b = E := ⟨_, rfl⟩
  have HGN := Lib.hid hN
  have HGX := Lib.hid hX
  have HGE := Lib.hid hE
  have HNN : Hid (((N : Int) != (N : Int)) = false) := Lib.hid (by simp)
  have HEE : Hid (((E : Int) != (E : Int)) = false) := Lib.hid (by simp)
  clear hN hX hE
  obtain ⟨p, hp⟩ : ∃ p, codM.pB ⟨n, s⟩ = p := ⟨_, rfl⟩
  obtain ⟨q, hq⟩ : ∃ q, codM.pB ⟨m, t⟩ = q := ⟨_, rfl⟩
  have HPB := Lib.hid hp
  have HQB := Lib.hid hq
  have HPE := Lib.hid hgx
  have HQE := Lib.hid hfx
  obtain ⟨u1, u2, u3⟩ := mput_get (n := n) (x := s) HIS.out hgx
  obtain ⟨v1, v2, v3⟩ := mput_get (n := m) (x := t) HIT.out hfx
  have hn1 := (of_evB (of_mputE hgx).1).1
  have hm1 := (of_evB (of_mputE hfx).1).1
  rw [hp] at u1 u2 u3
  rw [hq] at v1 v2 v3
  have HV : Hid ((codM.nX p q).n = m ∧ (codM.nX p q).m = t ∧ codM.nE p q = 0) := Lib.hid (by
    unfold Cod.nX Cod.nE
    rw [u2, v2, if_pos hlt, if_neg (by omega)]
    exact ⟨v2, v3, rfl⟩)
  have z5 := codM.g_zero
  have zn : codM.gN zeroB = 0 := codM.gN_no (by rw [z5]; omega)
  have HV2 : Hid ((codM.nX p zeroB).n = n ∧ (codM.nX p zeroB).m = s ∧ codM.nE p zeroB = 0) := Lib.hid (by
    unfold Cod.nX Cod.nE
    rw [zn, u2, if_neg (by omega), if_neg (by omega)]
    exact ⟨u2, u3, rfl⟩)
  have HNE2 : Hid (((n : Int) == (n : Int)) = true) := Lib.hid (by simp)
  have HGT : Hid (decide ((n : Int) < (m : Int)) = true) := Lib.hid (by simp; omega)
  have HLE : Hid (decide ((m : Int) ≤ (n : Int)) = false) := Lib.hid (by simp; omega)
  have HMM : Hid (((m : Int) != (m : Int)) = false) := Lib.hid (by simp)
  have HNN2 : Hid (((n : Int) != (n : Int)) = false) := Lib.hid (by simp)
  have HME : Hid (((m : Int) == (m : Int)) = true) := Lib.hid (by simp)
  clear hgx hfx u1 u2 u3 v1 v2 v3 hn1 hm1 hlt z5 zn
  clear hp hq
  go_enter Tryd.func6, Tryd.ntmps6
  go_upto_region 1 with (first | (refine wpList_valn rfl (exec_box rfl rfl) ?_) | (refine wpList_valn rfl (exec_boxM rfl rfl) ?_) | fail)
  try simp only [World.size_alloc]
  generalize ((((w.alloc (.cells (cel a).toArray 26)).alloc (.cells (cel b).toArray 26)).alloc (.cells (celM s).toArray 24)).alloc (.cells (celM t).toArray 24)) = w1 at *
  have HA1 := Lib.hid HF1.out.a
  have HB1 := Lib.hid HF1.out.b
  go_wp2_with (first | (refine wpList_valn rfl (exec_load (c := a) rfl rfl ?_) ?_; (with_reducible exact HA1.out)) | (refine wpList_valn rfl (exec_load (c := b) rfl rfl ?_) ?_; (with_reducible exact HB1.out)) | fail)
  refine (pmnew a b w1 (HT.out.below HF1.out.bel)).mono ?_
  rintro e w2 ⟨rfl, hb⟩
  rw [HGN.out, HGX.out, HGE.out]
  have hb2 := hb.alloc hb.size (.cells (celM X).toArray 24)
  have HF3 := Lib.hid (HF1.out.keep hb2)
  have HSX3 := Lib.hid (MrkAt.new w2 X)
  have HXZ : Hid (w.heap.size + 1 + 1 + 1 < w2.heap.size) := Lib.hid (Nat.lt_of_lt_of_le HF1.out.zt hb.size)
  clear hb hb2 HF1 HA1 HB1
  go_upto_region 2 with (first | (refine wpList_valn rfl (exec_allocM rfl) ?_) | (refine wpList_nuln rfl (exec_fillM (c := X) rfl rfl rfl) ?_) | fail)
  generalize w2.alloc (.cells (celM X).toArray 24) = w3 at *
  generalize w2.heap.size = xb at *
  have HA1 := Lib.hid HF3.out.a
  have HB1 := Lib.hid HF3.out.b
  go_wp2_with (first | (refine wpList_valn rfl (exec_load (c := a) rfl rfl ?_) ?_; (with_reducible exact HA1.out)) | (refine wpList_valn rfl (exec_load (c := b) rfl rfl ?_) ?_; (with_reducible exact HB1.out)) | fail)
  refine (rmnew a b w3).mono ?_
  rintro e w4 ⟨rfl, hb⟩
  rw [HGN.out, HGX.out, HGE.out]
  have hb2 := hb.alloc hb.size (.cells (celM X).toArray 24)
  have HF := Lib.hid (HF3.out.keep hb2)
  have HSX := Lib.hid (HSX3.out.below (blk_lt HSX3.out) hb2)
  have HSY := Lib.hid (MrkAt.new w4 X)
  have HTT := Lib.hid (HT.out.below HF.out.bel)
  clear hb hb2 HF3 HSX3 HA1 HB1
  go_upto_region 3 with (first | (refine wpList_valn rfl (exec_allocM rfl) ?_) | (refine wpList_nuln rfl (exec_fillM (c := X) rfl rfl rfl) ?_) | fail)
  generalize w4.alloc (.cells (celM X).toArray 24) = w5 at *
  generalize w4.heap.size = yb at *
  refine wp_region_lit ?_
  refine wpList_valn rfl (exec_mv rfl (ev rfl)) ?_
  simp only [Act.put, List.setIfInBounds_toArray, List.set_cons_succ, List.set_cons_zero]
  refine wpList_valn rfl (exec_mv rfl (ev rfl)) ?_
  simp only [Act.put, List.setIfInBounds_toArray, List.set_cons_succ, List.set_cons_zero]
  refine wpList_valn (v := .bool false) rfl (exec_neInt false rfl (ev rfl) (ev rfl) HNN.out) ?_
  simp only [Act.put, List.setIfInBounds_toArray, List.set_cons_succ, List.set_cons_zero]
  refine wpList_valn (v := .bool false) rfl (exec_mv rfl (ev rfl)) ?_
  simp only [Act.put, List.setIfInBounds_toArray, List.set_cons_succ, List.set_cons_zero]
  refine wpList_val (wanted_of rfl rfl rfl rfl) (exec_loadM (c := X) rfl (ev rfl) HSX.out.range) ?_
  simp only [Act.put, List.setIfInBounds_toArray, List.set_cons_succ, List.set_cons_zero]
  refine wpList_val (wanted_of rfl rfl rfl rfl) (exec_loadM (c := X) rfl (ev rfl) HSY.out.range) ?_
  simp only [Act.put, List.setIfInBounds_toArray, List.set_cons_succ, List.set_cons_zero]
  refine wpList_val (v := .bool false) (wanted_of rfl rfl rfl rfl) (exec_neM true rfl (ev rfl) (ev rfl) (decide_eq_true rfl)) ?_
  simp only [Act.put, List.setIfInBounds_toArray, List.set_cons_succ, List.set_cons_zero]
  refine wpList_valn (v := .bool false) rfl (exec_pf rfl (ev rfl) (ev rfl)) ?_
  simp only [Act.put, List.setIfInBounds_toArray, List.set_cons_succ, List.set_cons_zero]
  refine wpList_valn (v := .bool false) rfl (exec_mv rfl (ev rfl)) ?_
  simp only [Act.put, List.setIfInBounds_toArray, List.set_cons_succ, List.set_cons_zero]
  refine wpList_val (wanted_of rfl rfl rfl rfl) (exec_mv rfl (ev rfl)) ?_
  simp only [Act.put, List.setIfInBounds_toArray, List.set_cons_succ, List.set_cons_zero]
  refine wpList_val (wanted_of rfl rfl rfl rfl) (exec_mv rfl (ev rfl)) ?_
  simp only [Act.put, List.setIfInBounds_toArray, List.set_cons_succ, List.set_cons_zero]
  refine wpList_val (v := .bool false) (wanted_of rfl rfl rfl rfl) (exec_neInt false rfl (ev rfl) (ev rfl) HEE.out) ?_
  simp only [Act.put, List.setIfInBounds_toArray, List.set_cons_succ, List.set_cons_zero]
  refine wpList_valn (v := .bool false) rfl (exec_pf rfl (ev rfl) (ev rfl)) ?_
  simp only [Act.put, List.setIfInBounds_toArray, List.set_cons_succ, List.set_cons_zero]
  refine wpList_nil ?_
  have HF6 := HF
  have HSX6 := HSX
  have HSR1 := Lib.hid HF6.out.s.range
  clear HF HSX HSY HTT
  go_wp2_with (first | (refine wpList_valn rfl (exec_loadM (c := s) rfl rfl ?_) ?_; (with_reducible exact HSR1.out)) | fail)
  refine (pmput n s w5 (HT.out.below HF6.out.bel) HN.out HIS.out).mono ?_
  rintro e w7 ⟨rfl, hb⟩
  rw [HPB.out, HPE.out]
  have hb2 := hb.alloc hb.size (.cells (cel p).toArray 26)
  have HF8 := Lib.hid (HF6.out.keep hb2)
  have HSX8 := Lib.hid (HSX6.out.below (blk_lt HSX6.out) hb2)
  have HP8 := Lib.hid (range_new w7 (cel p) 26)
  have HPZ : Hid (w7.heap.size < (w7.alloc (.cells (cel p).toArray 26)).heap.size ∧ xb < w7.heap.size) := Lib.hid (by have := blk_lt HSX6.out; have := hb.size; simp only [World.size_alloc]; omega)
  have HTR1 := Lib.hid HF8.out.t.range
  clear hb hb2 HF6 HSX6 HSR1
  go_upto_region 6 with (first | (refine wpList_valn rfl (exec_alloc rfl) ?_) | (refine wpList_nuln rfl (exec_fillN rfl rfl rfl) ?_) | fail)
  generalize w7.alloc (.cells (cel p).toArray 26) = w8 at *
  generalize w7.heap.size = pb at *
  go_wp2_with (first | (refine wpList_valn rfl (exec_loadM (c := t) rfl rfl ?_) ?_; (with_reducible exact HTR1.out)) | fail)
  refine (pmput m t w8 (HT.out.below HF8.out.bel) HM.out HIT.out).mono ?_
  rintro e w9 ⟨rfl, hb⟩
  rw [HQB.out, HQE.out]
  have hb2 := hb.alloc hb.size (.cells (cel q).toArray 26)
  have HF10 := Lib.hid (HF8.out.keep hb2)
  have HSX10 := Lib.hid (HSX8.out.below (blk_lt HSX8.out) hb2)
  have HP10 := Lib.hid (range_below HP8.out HPZ.out.1 hb2)
  have HQ10 := Lib.hid (range_new w9 (cel q) 26)
  have HPQ : Hid (pb < (w9.alloc (.cells (cel q).toArray 26)).heap.size ∧ w9.heap.size < (w9.alloc (.cells (cel q).toArray 26)).heap.size ∧ xb < pb ∧ xb < w9.heap.size) := Lib.hid (by have := HPZ.out; have := hb.size; simp only [World.size_alloc]; omega)
  clear hb hb2 HF8 HSX8 HP8 HPZ HTR1
  go_upto_region 7 with (first | (refine wpList_valn rfl (exec_alloc rfl) ?_) | (refine wpList_nuln rfl (exec_fillN rfl rfl rfl) ?_) | fail)
  generalize w9.alloc (.cells (cel q).toArray 26) = w10 at *
  generalize w9.heap.size = qb at *
  go_wp2_with (first | (refine wpList_valn rfl (exec_load (c := p) rfl rfl ?_) ?_; (with_reducible exact HP10.out)) | (refine wpList_valn rfl (exec_load (c := q) rfl rfl ?_) ?_; (with_reducible exact HQ10.out)) | fail)
  refine (pmnew p q w10 (HT.out.below HF10.out.bel)).mono ?_
  rintro e w11 ⟨rfl, hb⟩
  rw [HV.out.1, HV.out.2.1, HV.out.2.2]
  have HTH := Lib.hid (MrkAt.there (HSX10.out.below (blk_lt HSX10.out) hb))
  have HF12 := Lib.hid ((HF10.out.keep hb).put HXZ.out (celM t))
  have HZ1 := Lib.hid (range_sameM t HTH.out)
  have HTH2 := Lib.hid (World.there_setCells HTH.out xb 0 (celM t))
  have HP12 := Lib.hid (World.rangeAt_setCells_apart (range_below HP10.out HPQ.out.1 hb) xb 0 (celM t) (.inl (by have := HPQ.out; omega)))
  have HXL : Hid (xb < (w11.setCells xb 0 (celM t)).heap.size) := Lib.hid (by rw [size_setCells]; exact blk_lt (HSX10.out.below (blk_lt HSX10.out) hb))
  clear hb HF10 HSX10 HP10 HQ10 HPQ
  go_upto_region 10 with (first | (refine wpList_nuln rfl (exec_putM (c := t) rfl rfl rfl ?_) ?_; (with_reducible exact HTH.out)) | fail)
  generalize w11.setCells xb 0 (celM t) = w12 at *
  have HTR := Lib.hid HF12.out.t.range
  have HSR := Lib.hid HF12.out.s.range
  clear HTH
  refine wp_region_lit ?_
  refine wpList_valn rfl (exec_mv rfl (ev rfl)) ?_
  simp only [Act.put, List.setIfInBounds_toArray, List.set_cons_succ, List.set_cons_zero]
  refine wpList_valn (v := .bool false) rfl (exec_neInt false rfl (ev rfl) evk rfl) ?_
  simp only [Act.put, List.setIfInBounds_toArray, List.set_cons_succ, List.set_cons_zero]
  refine wpList_valn (v := .bool false) rfl (exec_mv rfl (ev rfl)) ?_
  simp only [Act.put, List.setIfInBounds_toArray, List.set_cons_succ, List.set_cons_zero]
  refine wpList_val (wanted_of rfl rfl rfl rfl) (exec_mv rfl (ev rfl)) ?_
  simp only [Act.put, List.setIfInBounds_toArray, List.set_cons_succ, List.set_cons_zero]
  refine wpList_val (wanted_of rfl rfl rfl rfl) (exec_mv rfl (ev rfl)) ?_
  simp only [Act.put, List.setIfInBounds_toArray, List.set_cons_succ, List.set_cons_zero]
  refine wpList_val (v := .bool true) (wanted_of rfl rfl rfl rfl) (exec_gtr true rfl (ev rfl) (ev rfl) HGT.out) ?_
  simp only [Act.put, List.setIfInBounds_toArray, List.set_cons_succ, List.set_cons_zero]
  refine wpList_val (v := .bool true) (wanted_of rfl rfl rfl rfl) (exec_mv rfl (ev rfl)) ?_
  simp only [Act.put, List.setIfInBounds_toArray, List.set_cons_succ, List.set_cons_zero]
  refine wpList_val (wanted_of rfl rfl rfl rfl) (exec_mv rfl (ev rfl)) ?_
  simp only [Act.put, List.setIfInBounds_toArray, List.set_cons_succ, List.set_cons_zero]
  refine wpList_val (wanted_of rfl rfl rfl rfl) (exec_mv rfl (ev rfl)) ?_
  simp only [Act.put, List.setIfInBounds_toArray, List.set_cons_succ, List.set_cons_zero]
  refine wpList_val (v := .bool false) (wanted_of rfl rfl rfl rfl) (exec_neInt false rfl (ev rfl) (ev rfl) HMM.out) ?_
  simp only [Act.put, List.setIfInBounds_toArray, List.set_cons_succ, List.set_cons_zero]
  refine wpList_val (v := .bool false) (wanted_of rfl rfl rfl rfl) (exec_mv rfl (ev rfl)) ?_
  simp only [Act.put, List.setIfInBounds_toArray, List.set_cons_succ, List.set_cons_zero]
  refine wpList_val (wanted_of rfl rfl rfl rfl) (exec_loadM (c := t) rfl (ev rfl) HZ1.out) ?_
  simp only [Act.put, List.setIfInBounds_toArray, List.set_cons_succ, List.set_cons_zero]
  refine wpList_val (wanted_of rfl rfl rfl rfl) (exec_loadM (c := t) rfl (ev rfl) HTR.out) ?_
  simp only [Act.put, List.setIfInBounds_toArray, List.set_cons_succ, List.set_cons_zero]
  refine wpList_val (v := .bool false) (wanted_of rfl rfl rfl rfl) (exec_neM true rfl (ev rfl) (ev rfl) (decide_eq_true rfl)) ?_
  simp only [Act.put, List.setIfInBounds_toArray, List.set_cons_succ, List.set_cons_zero]
  refine wpList_val (v := .bool false) (wanted_of rfl rfl rfl rfl) (exec_pf rfl (ev rfl) (ev rfl)) ?_
  simp only [Act.put, List.setIfInBounds_toArray, List.set_cons_succ, List.set_cons_zero]
  refine wpList_val (v := .bool false) (wanted_of rfl rfl rfl rfl) (exec_pt rfl (ev rfl) (ev rfl)) ?_
  simp only [Act.put, List.setIfInBounds_toArray, List.set_cons_succ, List.set_cons_zero]
  refine wpList_valn (v := .bool false) rfl (exec_pf rfl (ev rfl) (ev rfl)) ?_
  simp only [Act.put, List.setIfInBounds_toArray, List.set_cons_succ, List.set_cons_zero]
  refine wpList_valn (v := .bool false) rfl (exec_mv rfl (ev rfl)) ?_
  simp only [Act.put, List.setIfInBounds_toArray, List.set_cons_succ, List.set_cons_zero]
  refine wpList_val (wanted_of rfl rfl rfl rfl) (exec_mv rfl (ev rfl)) ?_
  simp only [Act.put, List.setIfInBounds_toArray, List.set_cons_succ, List.set_cons_zero]
  refine wpList_val (wanted_of rfl rfl rfl rfl) (exec_mv rfl (ev rfl)) ?_
  simp only [Act.put, List.setIfInBounds_toArray, List.set_cons_succ, List.set_cons_zero]
  refine wpList_val (v := .bool false) (wanted_of rfl rfl rfl rfl) (exec_leq false rfl (ev rfl) (ev rfl) HLE.out) ?_
  simp only [Act.put, List.setIfInBounds_toArray, List.set_cons_succ, List.set_cons_zero]
  refine wpList_skips 8 (v := .bool false) (wanted_of rfl rfl rfl rfl) (exec_mv rfl (ev rfl)) (by kernel_rfl) ?_
  simp only [skipAct, List.take_succ_cons, List.take_zero, List.drop_succ_cons, List.drop_zero, Act.put, List.setIfInBounds_toArray, List.set_cons_succ, List.set_cons_zero]
  refine wpList_val (v := .bool false) (wanted_of rfl rfl rfl rfl) (exec_pf rfl (ev rfl) evk) ?_
  simp only [Act.put, List.setIfInBounds_toArray, List.set_cons_succ, List.set_cons_zero]
  refine wpList_valn (v := .bool false) rfl (exec_pf rfl (ev rfl) (ev rfl)) ?_
  simp only [Act.put, List.setIfInBounds_toArray, List.set_cons_succ, List.set_cons_zero]
  refine wpList_nil ?_
  clear HZ1 HTR HSR
  go_wp2_with (first | (refine wpList_valn rfl (exec_build (c := zeroB) (parts := []) rfl rfl) ?_) | (refine wpList_valn rfl (exec_load (c := p) rfl rfl ?_) ?_; (with_reducible exact HP12.out)) | fail)
  refine (pmnew p zeroB w12 (HT.out.below HF12.out.bel)).mono ?_
  rintro e w13 ⟨rfl, hb⟩
  rw [HV2.out.1, HV2.out.2.1, HV2.out.2.2]
  have HTH3 := Lib.hid (there_below HTH2.out HXL.out hb)
  have HF14 := Lib.hid ((HF12.out.keep hb).put HXZ.out (celM s))
  have HZ2 := Lib.hid (range_sameM s HTH3.out)
  clear hb HF12 HTH2 HP12 HXL
  go_upto_region 13 with (first | (refine wpList_nuln rfl (exec_putM (c := s) rfl rfl rfl ?_) ?_; (with_reducible exact HTH3.out)) | fail)
  generalize w13.setCells xb 0 (celM s) = w14 at *
  have HSR2 := Lib.hid HF14.out.s.range
  have HBT := Lib.hid HF14.out.bel
  clear HTH3
  refine wp_region_lit ?_
  refine wpList_valn rfl (exec_mv rfl (ev rfl)) ?_
  simp only [Act.put, List.setIfInBounds_toArray, List.set_cons_succ, List.set_cons_zero]
  refine wpList_valn (v := .bool true) rfl (exec_eqInt true rfl (ev rfl) evk rfl) ?_
  simp only [Act.put, List.setIfInBounds_toArray, List.set_cons_succ, List.set_cons_zero]
  refine wpList_valn (v := .bool true) rfl (exec_mv rfl (ev rfl)) ?_
  simp only [Act.put, List.setIfInBounds_toArray, List.set_cons_succ, List.set_cons_zero]
  refine wpList_val (wanted_of rfl rfl rfl rfl) (exec_mv rfl (ev rfl)) ?_
  simp only [Act.put, List.setIfInBounds_toArray, List.set_cons_succ, List.set_cons_zero]
  refine wpList_val (wanted_of rfl rfl rfl rfl) (exec_mv rfl (ev rfl)) ?_
  simp only [Act.put, List.setIfInBounds_toArray, List.set_cons_succ, List.set_cons_zero]
  refine wpList_val (v := .bool true) (wanted_of rfl rfl rfl rfl) (exec_eqInt true rfl (ev rfl) (ev rfl) HNE2.out) ?_
  simp only [Act.put, List.setIfInBounds_toArray, List.set_cons_succ, List.set_cons_zero]
  refine wpList_valn (v := .bool true) rfl (exec_pt rfl (ev rfl) (ev rfl)) ?_
  simp only [Act.put, List.setIfInBounds_toArray, List.set_cons_succ, List.set_cons_zero]
  refine wpList_valn (v := .bool true) rfl (exec_mv rfl (ev rfl)) ?_
  simp only [Act.put, List.setIfInBounds_toArray, List.set_cons_succ, List.set_cons_zero]
  refine wpList_val (wanted_of rfl rfl rfl rfl) (exec_loadM (c := s) rfl (ev rfl) HZ2.out) ?_
  simp only [Act.put, List.setIfInBounds_toArray, List.set_cons_succ, List.set_cons_zero]
  refine wpList_val (wanted_of rfl rfl rfl rfl) (exec_loadM (c := s) rfl (ev rfl) HSR2.out) ?_
  simp only [Act.put, List.setIfInBounds_toArray, List.set_cons_succ, List.set_cons_zero]
  refine wpList_val (v := .bool true) (wanted_of rfl rfl rfl rfl) (exec_eqM true rfl (ev rfl) (ev rfl) (decide_eq_true rfl)) ?_
  simp only [Act.put, List.setIfInBounds_toArray, List.set_cons_succ, List.set_cons_zero]
  refine wpList_valn (v := .bool true) rfl (exec_pt rfl (ev rfl) (ev rfl)) ?_
  simp only [Act.put, List.setIfInBounds_toArray, List.set_cons_succ, List.set_cons_zero]
  refine wpList_valn (v := .bool true) rfl (exec_mv rfl (ev rfl)) ?_
  simp only [Act.put, List.setIfInBounds_toArray, List.set_cons_succ, List.set_cons_zero]
  refine wpList_call (wanted_of rfl rfl rfl rfl) (exec_cl Tryd.call13 rfl evn) ?_
  refine (mark_lives _ (HT.out.below HBT.out)).mono ?_
  rintro e wL ⟨rfl, hb⟩
  have HBF := Lib.hid (HBT.out.trans (hb.mono HBT.out.size))
  clear hb
  refine ⟨_, rfl, ?_⟩
  simp only [Act.put, List.setIfInBounds_toArray, List.set_cons_succ, List.set_cons_zero]
  refine wpList_valn (v := .bool true) rfl (exec_pt rfl (ev rfl) (ev rfl)) ?_
  simp only [Act.put, List.setIfInBounds_toArray, List.set_cons_succ, List.set_cons_zero]
  refine wpList_valn (v := .bool true) rfl (exec_as rfl (ev rfl)) ?_
  simp only [Act.put, List.setIfInBounds_toArray, List.set_cons_succ, List.set_cons_zero]
  refine wpList_nil ?_
  go_wp2_with fail
  go_ret
  exact ⟨rfl, HBF.out⟩
set_option maxHeartbeats 4000000 in
theorem markNewest_ge (a b : Blk) (n m : Nat) (s t : Mrk) (w : World) (T : TabM w) (hn : n < 18446744073709551616) (hm : m < 18446744073709551616) (hs : s.fit) (ht : t.fit) (hgx : codM.pE ⟨n, s⟩ = 0) (hfx : codM.pE ⟨m, t⟩ = 0) (hlt : ¬ n < m) :
    Calls Tryd.prog 6 #[blk a, blk b, .int .u64 n, .int .u64 m, mrk s, mrk t] w fun e w' => e = .returned (.bool true) ∧ Below w.heap.size w w' := by
  have HT := Lib.hid T
  have HN := Lib.hid hn
  have HM := Lib.hid hm
  have HIS := Lib.hid hs
  have HIT := Lib.hid ht
  have HF1 := Lib.hid (four_newM w a b s t)
  clear T hn hm hs ht
  obtain ⟨N, hN⟩ : ∃ N, (codM.nX a b).n = N := ⟨_, rfl⟩
  obtain ⟨X, hX⟩ : ∃ X, (codM.nX a b).m = X := ⟨_, rfl⟩
  obtain ⟨E, hE⟩ : ∃ E, codM.nE a b = E := ⟨_, rfl⟩
  have HGN := Lib.hid hN
  have HGX := Lib.hid hX
  have HGE := Lib.hid hE
  have HNN : Hid (((N : Int) != (N : Int)) = false) := Lib.hid (by simp)
  have HEE : Hid (((E : Int) != (E : Int)) = false) := Lib.hid (by simp)
  clear hN hX hE
  obtain ⟨p, hp⟩ : ∃ p, codM.pB ⟨n, s⟩ = p := ⟨_, rfl⟩
  obtain ⟨q, hq⟩ : ∃ q, codM.pB ⟨m, t⟩ = q := ⟨_, rfl⟩
  have HPB := Lib.hid hp
  have HQB := Lib.hid hq
  have HPE := Lib.hid hgx
  have HQE := Lib.hid hfx
  obtain ⟨u1, u2, u3⟩ := mput_get (n := n) (x := s) HIS.out hgx
  obtain ⟨v1, v2, v3⟩ := mput_get (n := m) (x := t) HIT.out hfx
  have hn1 := (of_evB (of_mputE hgx).1).1
  have hm1 := (of_evB (of_mputE hfx).1).1
  rw [hp] at u1 u2 u3
  rw [hq] at v1 v2 v3
  have HV : Hid ((codM.nX p q).n = n ∧ (codM.nX p q).m = s ∧ codM.nE p q = 0) := Lib.hid (by
    unfold Cod.nX Cod.nE
    rw [u2, v2, if_neg hlt, if_neg (by omega)]
    exact ⟨u2, u3, rfl⟩)
  have z5 := codM.g_zero
  have zn : codM.gN zeroB = 0 := codM.gN_no (by rw [z5]; omega)
  have HV2 : Hid ((codM.nX p zeroB).n = n ∧ (codM.nX p zeroB).m = s ∧ codM.nE p zeroB = 0) := Lib.hid (by
    unfold Cod.nX Cod.nE
    rw [zn, u2, if_neg (by omega), if_neg (by omega)]
    exact ⟨u2, u3, rfl⟩)
  have HNE2 : Hid (((n : Int) == (n : Int)) = true) := Lib.hid (by simp)
  have HGT : Hid (decide ((n : Int) < (m : Int)) = false) := Lib.hid (by simp; omega)
  have HLE : Hid (decide ((m : Int) ≤ (n : Int)) = true) := Lib.hid (by simp; omega)
  have HMM : Hid (((m : Int) != (m : Int)) = false) := Lib.hid (by simp)
  have HNN2 : Hid (((n : Int) != (n : Int)) = false) := Lib.hid (by simp)
  have HME : Hid (((m : Int) == (m : Int)) = true) := Lib.hid (by simp)
  clear hgx hfx u1 u2 u3 v1 v2 v3 hn1 hm1 hlt z5 zn
  clear hp hq
  go_enter Tryd.func6, Tryd.ntmps6
  go_upto_region 1 with (first | (refine wpList_valn rfl (exec_box rfl rfl) ?_) | (refine wpList_valn rfl (exec_boxM rfl rfl) ?_) | fail)
  try simp only [World.size_alloc]
  generalize ((((w.alloc (.cells (cel a).toArray 26)).alloc (.cells (cel b).toArray 26)).alloc (.cells (celM s).toArray 24)).alloc (.cells (celM t).toArray 24)) = w1 at *
  have HA1 := Lib.hid HF1.out.a
  have HB1 := Lib.hid HF1.out.b
  go_wp2_with (first | (refine wpList_valn rfl (exec_load (c := a) rfl rfl ?_) ?_; (with_reducible exact HA1.out)) | (refine wpList_valn rfl (exec_load (c := b) rfl rfl ?_) ?_; (with_reducible exact HB1.out)) | fail)
  refine (pmnew a b w1 (HT.out.below HF1.out.bel)).mono ?_
  rintro e w2 ⟨rfl, hb⟩
  rw [HGN.out, HGX.out, HGE.out]
  have hb2 := hb.alloc hb.size (.cells (celM X).toArray 24)
  have HF3 := Lib.hid (HF1.out.keep hb2)
  have HSX3 := Lib.hid (MrkAt.new w2 X)
  have HXZ : Hid (w.heap.size + 1 + 1 + 1 < w2.heap.size) := Lib.hid (Nat.lt_of_lt_of_le HF1.out.zt hb.size)
  clear hb hb2 HF1 HA1 HB1
  go_upto_region 2 with (first | (refine wpList_valn rfl (exec_allocM rfl) ?_) | (refine wpList_nuln rfl (exec_fillM (c := X) rfl rfl rfl) ?_) | fail)
  generalize w2.alloc (.cells (celM X).toArray 24) = w3 at *
  generalize w2.heap.size = xb at *
  have HA1 := Lib.hid HF3.out.a
  have HB1 := Lib.hid HF3.out.b
  go_wp2_with (first | (refine wpList_valn rfl (exec_load (c := a) rfl rfl ?_) ?_; (with_reducible exact HA1.out)) | (refine wpList_valn rfl (exec_load (c := b) rfl rfl ?_) ?_; (with_reducible exact HB1.out)) | fail)
  refine (rmnew a b w3).mono ?_
  rintro e w4 ⟨rfl, hb⟩
  rw [HGN.out, HGX.out, HGE.out]
  have hb2 := hb.alloc hb.size (.cells (celM X).toArray 24)
  have HF := Lib.hid (HF3.out.keep hb2)
  have HSX := Lib.hid (HSX3.out.below (blk_lt HSX3.out) hb2)
  have HSY := Lib.hid (MrkAt.new w4 X)
  have HTT := Lib.hid (HT.out.below HF.out.bel)
  clear hb hb2 HF3 HSX3 HA1 HB1
  go_upto_region 3 with (first | (refine wpList_valn rfl (exec_allocM rfl) ?_) | (refine wpList_nuln rfl (exec_fillM (c := X) rfl rfl rfl) ?_) | fail)
  generalize w4.alloc (.cells (celM X).toArray 24) = w5 at *
  generalize w4.heap.size = yb at *
  refine wp_region_lit ?_
  refine wpList_valn rfl (exec_mv rfl (ev rfl)) ?_
  simp only [Act.put, List.setIfInBounds_toArray, List.set_cons_succ, List.set_cons_zero]
  refine wpList_valn rfl (exec_mv rfl (ev rfl)) ?_
  simp only [Act.put, List.setIfInBounds_toArray, List.set_cons_succ, List.set_cons_zero]
  refine wpList_valn (v := .bool false) rfl (exec_neInt false rfl (ev rfl) (ev rfl) HNN.out) ?_
  simp only [Act.put, List.setIfInBounds_toArray, List.set_cons_succ, List.set_cons_zero]
  refine wpList_valn (v := .bool false) rfl (exec_mv rfl (ev rfl)) ?_
  simp only [Act.put, List.setIfInBounds_toArray, List.set_cons_succ, List.set_cons_zero]
  refine wpList_val (wanted_of rfl rfl rfl rfl) (exec_loadM (c := X) rfl (ev rfl) HSX.out.range) ?_
  simp only [Act.put, List.setIfInBounds_toArray, List.set_cons_succ, List.set_cons_zero]
  refine wpList_val (wanted_of rfl rfl rfl rfl) (exec_loadM (c := X) rfl (ev rfl) HSY.out.range) ?_
  simp only [Act.put, List.setIfInBounds_toArray, List.set_cons_succ, List.set_cons_zero]
  refine wpList_val (v := .bool false) (wanted_of rfl rfl rfl rfl) (exec_neM true rfl (ev rfl) (ev rfl) (decide_eq_true rfl)) ?_
  simp only [Act.put, List.setIfInBounds_toArray, List.set_cons_succ, List.set_cons_zero]
  refine wpList_valn (v := .bool false) rfl (exec_pf rfl (ev rfl) (ev rfl)) ?_
  simp only [Act.put, List.setIfInBounds_toArray, List.set_cons_succ, List.set_cons_zero]
  refine wpList_valn (v := .bool false) rfl (exec_mv rfl (ev rfl)) ?_
  simp only [Act.put, List.setIfInBounds_toArray, List.set_cons_succ, List.set_cons_zero]
  refine wpList_val (wanted_of rfl rfl rfl rfl) (exec_mv rfl (ev rfl)) ?_
  simp only [Act.put, List.setIfInBounds_toArray, List.set_cons_succ, List.set_cons_zero]
  refine wpList_val (wanted_of rfl rfl rfl rfl) (exec_mv rfl (ev rfl)) ?_
  simp only [Act.put, List.setIfInBounds_toArray, List.set_cons_succ, List.set_cons_zero]
  refine wpList_val (v := .bool false) (wanted_of rfl rfl rfl rfl) (exec_neInt false rfl (ev rfl) (ev rfl) HEE.out) ?_
  simp only [Act.put, List.setIfInBounds_toArray, List.set_cons_succ, List.set_cons_zero]
  refine wpList_valn (v := .bool false) rfl (exec_pf rfl (ev rfl) (ev rfl)) ?_
  simp only [Act.put, List.setIfInBounds_toArray, List.set_cons_succ, List.set_cons_zero]
  refine wpList_nil ?_
  have HF6 := HF
  have HSX6 := HSX
  have HSR1 := Lib.hid HF6.out.s.range
  clear HF HSX HSY HTT
  go_wp2_with (first | (refine wpList_valn rfl (exec_loadM (c := s) rfl rfl ?_) ?_; (with_reducible exact HSR1.out)) | fail)
  refine (pmput n s w5 (HT.out.below HF6.out.bel) HN.out HIS.out).mono ?_
  rintro e w7 ⟨rfl, hb⟩
  rw [HPB.out, HPE.out]
  have hb2 := hb.alloc hb.size (.cells (cel p).toArray 26)
  have HF8 := Lib.hid (HF6.out.keep hb2)
  have HSX8 := Lib.hid (HSX6.out.below (blk_lt HSX6.out) hb2)
  have HP8 := Lib.hid (range_new w7 (cel p) 26)
  have HPZ : Hid (w7.heap.size < (w7.alloc (.cells (cel p).toArray 26)).heap.size ∧ xb < w7.heap.size) := Lib.hid (by have := blk_lt HSX6.out; have := hb.size; simp only [World.size_alloc]; omega)
  have HTR1 := Lib.hid HF8.out.t.range
  clear hb hb2 HF6 HSX6 HSR1
  go_upto_region 6 with (first | (refine wpList_valn rfl (exec_alloc rfl) ?_) | (refine wpList_nuln rfl (exec_fillN rfl rfl rfl) ?_) | fail)
  generalize w7.alloc (.cells (cel p).toArray 26) = w8 at *
  generalize w7.heap.size = pb at *
  go_wp2_with (first | (refine wpList_valn rfl (exec_loadM (c := t) rfl rfl ?_) ?_; (with_reducible exact HTR1.out)) | fail)
  refine (pmput m t w8 (HT.out.below HF8.out.bel) HM.out HIT.out).mono ?_
  rintro e w9 ⟨rfl, hb⟩
  rw [HQB.out, HQE.out]
  have hb2 := hb.alloc hb.size (.cells (cel q).toArray 26)
  have HF10 := Lib.hid (HF8.out.keep hb2)
  have HSX10 := Lib.hid (HSX8.out.below (blk_lt HSX8.out) hb2)
  have HP10 := Lib.hid (range_below HP8.out HPZ.out.1 hb2)
  have HQ10 := Lib.hid (range_new w9 (cel q) 26)
  have HPQ : Hid (pb < (w9.alloc (.cells (cel q).toArray 26)).heap.size ∧ w9.heap.size < (w9.alloc (.cells (cel q).toArray 26)).heap.size ∧ xb < pb ∧ xb < w9.heap.size) := Lib.hid (by have := HPZ.out; have := hb.size; simp only [World.size_alloc]; omega)
  clear hb hb2 HF8 HSX8 HP8 HPZ HTR1
  go_upto_region 7 with (first | (refine wpList_valn rfl (exec_alloc rfl) ?_) | (refine wpList_nuln rfl (exec_fillN rfl rfl rfl) ?_) | fail)
  generalize w9.alloc (.cells (cel q).toArray 26) = w10 at *
  generalize w9.heap.size = qb at *
  go_wp2_with (first | (refine wpList_valn rfl (exec_load (c := p) rfl rfl ?_) ?_; (with_reducible exact HP10.out)) | (refine wpList_valn rfl (exec_load (c := q) rfl rfl ?_) ?_; (with_reducible exact HQ10.out)) | fail)
  refine (pmnew p q w10 (HT.out.below HF10.out.bel)).mono ?_
  rintro e w11 ⟨rfl, hb⟩
  rw [HV.out.1, HV.out.2.1, HV.out.2.2]
  have HTH := Lib.hid (MrkAt.there (HSX10.out.below (blk_lt HSX10.out) hb))
  have HF12 := Lib.hid ((HF10.out.keep hb).put HXZ.out (celM s))
  have HZ1 := Lib.hid (range_sameM s HTH.out)
  have HTH2 := Lib.hid (World.there_setCells HTH.out xb 0 (celM s))
  have HP12 := Lib.hid (World.rangeAt_setCells_apart (range_below HP10.out HPQ.out.1 hb) xb 0 (celM s) (.inl (by have := HPQ.out; omega)))
  have HXL : Hid (xb < (w11.setCells xb 0 (celM s)).heap.size) := Lib.hid (by rw [size_setCells]; exact blk_lt (HSX10.out.below (blk_lt HSX10.out) hb))
  clear hb HF10 HSX10 HP10 HQ10 HPQ
  go_upto_region 10 with (first | (refine wpList_nuln rfl (exec_putM (c := s) rfl rfl rfl ?_) ?_; (with_reducible exact HTH.out)) | fail)
  generalize w11.setCells xb 0 (celM s) = w12 at *
  have HTR := Lib.hid HF12.out.t.range
  have HSR := Lib.hid HF12.out.s.range
  clear HTH
  refine wp_region_lit ?_
  refine wpList_valn rfl (exec_mv rfl (ev rfl)) ?_
  simp only [Act.put, List.setIfInBounds_toArray, List.set_cons_succ, List.set_cons_zero]
  refine wpList_valn (v := .bool false) rfl (exec_neInt false rfl (ev rfl) evk rfl) ?_
  simp only [Act.put, List.setIfInBounds_toArray, List.set_cons_succ, List.set_cons_zero]
  refine wpList_valn (v := .bool false) rfl (exec_mv rfl (ev rfl)) ?_
  simp only [Act.put, List.setIfInBounds_toArray, List.set_cons_succ, List.set_cons_zero]
  refine wpList_val (wanted_of rfl rfl rfl rfl) (exec_mv rfl (ev rfl)) ?_
  simp only [Act.put, List.setIfInBounds_toArray, List.set_cons_succ, List.set_cons_zero]
  refine wpList_val (wanted_of rfl rfl rfl rfl) (exec_mv rfl (ev rfl)) ?_
  simp only [Act.put, List.setIfInBounds_toArray, List.set_cons_succ, List.set_cons_zero]
  refine wpList_val (v := .bool false) (wanted_of rfl rfl rfl rfl) (exec_gtr false rfl (ev rfl) (ev rfl) HGT.out) ?_
  simp only [Act.put, List.setIfInBounds_toArray, List.set_cons_succ, List.set_cons_zero]
  refine wpList_skips 8 (v := .bool false) (wanted_of rfl rfl rfl rfl) (exec_mv rfl (ev rfl)) (by kernel_rfl) ?_
  simp only [skipAct, List.take_succ_cons, List.take_zero, List.drop_succ_cons, List.drop_zero, Act.put, List.setIfInBounds_toArray, List.set_cons_succ, List.set_cons_zero]
  refine wpList_val (v := .bool false) (wanted_of rfl rfl rfl rfl) (exec_pf rfl (ev rfl) evk) ?_
  simp only [Act.put, List.setIfInBounds_toArray, List.set_cons_succ, List.set_cons_zero]
  refine wpList_valn (v := .bool false) rfl (exec_pf rfl (ev rfl) (ev rfl)) ?_
  simp only [Act.put, List.setIfInBounds_toArray, List.set_cons_succ, List.set_cons_zero]
  refine wpList_valn (v := .bool false) rfl (exec_mv rfl (ev rfl)) ?_
  simp only [Act.put, List.setIfInBounds_toArray, List.set_cons_succ, List.set_cons_zero]
  refine wpList_val (wanted_of rfl rfl rfl rfl) (exec_mv rfl (ev rfl)) ?_
  simp only [Act.put, List.setIfInBounds_toArray, List.set_cons_succ, List.set_cons_zero]
  refine wpList_val (wanted_of rfl rfl rfl rfl) (exec_mv rfl (ev rfl)) ?_
  simp only [Act.put, List.setIfInBounds_toArray, List.set_cons_succ, List.set_cons_zero]
  refine wpList_val (v := .bool true) (wanted_of rfl rfl rfl rfl) (exec_leq true rfl (ev rfl) (ev rfl) HLE.out) ?_
  simp only [Act.put, List.setIfInBounds_toArray, List.set_cons_succ, List.set_cons_zero]
  refine wpList_val (v := .bool true) (wanted_of rfl rfl rfl rfl) (exec_mv rfl (ev rfl)) ?_
  simp only [Act.put, List.setIfInBounds_toArray, List.set_cons_succ, List.set_cons_zero]
  refine wpList_val (wanted_of rfl rfl rfl rfl) (exec_mv rfl (ev rfl)) ?_
  simp only [Act.put, List.setIfInBounds_toArray, List.set_cons_succ, List.set_cons_zero]
  refine wpList_val (wanted_of rfl rfl rfl rfl) (exec_mv rfl (ev rfl)) ?_
  simp only [Act.put, List.setIfInBounds_toArray, List.set_cons_succ, List.set_cons_zero]
  refine wpList_val (v := .bool false) (wanted_of rfl rfl rfl rfl) (exec_neInt false rfl (ev rfl) (ev rfl) HNN2.out) ?_
  simp only [Act.put, List.setIfInBounds_toArray, List.set_cons_succ, List.set_cons_zero]
  refine wpList_val (v := .bool false) (wanted_of rfl rfl rfl rfl) (exec_mv rfl (ev rfl)) ?_
  simp only [Act.put, List.setIfInBounds_toArray, List.set_cons_succ, List.set_cons_zero]
  refine wpList_val (wanted_of rfl rfl rfl rfl) (exec_loadM (c := s) rfl (ev rfl) HZ1.out) ?_
  simp only [Act.put, List.setIfInBounds_toArray, List.set_cons_succ, List.set_cons_zero]
  refine wpList_val (wanted_of rfl rfl rfl rfl) (exec_loadM (c := s) rfl (ev rfl) HSR.out) ?_
  simp only [Act.put, List.setIfInBounds_toArray, List.set_cons_succ, List.set_cons_zero]
  refine wpList_val (v := .bool false) (wanted_of rfl rfl rfl rfl) (exec_neM true rfl (ev rfl) (ev rfl) (decide_eq_true rfl)) ?_
  simp only [Act.put, List.setIfInBounds_toArray, List.set_cons_succ, List.set_cons_zero]
  refine wpList_val (v := .bool false) (wanted_of rfl rfl rfl rfl) (exec_pf rfl (ev rfl) (ev rfl)) ?_
  simp only [Act.put, List.setIfInBounds_toArray, List.set_cons_succ, List.set_cons_zero]
  refine wpList_val (v := .bool false) (wanted_of rfl rfl rfl rfl) (exec_pt rfl (ev rfl) (ev rfl)) ?_
  simp only [Act.put, List.setIfInBounds_toArray, List.set_cons_succ, List.set_cons_zero]
  refine wpList_valn (v := .bool false) rfl (exec_pf rfl (ev rfl) (ev rfl)) ?_
  simp only [Act.put, List.setIfInBounds_toArray, List.set_cons_succ, List.set_cons_zero]
  refine wpList_nil ?_
  clear HZ1 HTR HSR
  go_wp2_with (first | (refine wpList_valn rfl (exec_build (c := zeroB) (parts := []) rfl rfl) ?_) | (refine wpList_valn rfl (exec_load (c := p) rfl rfl ?_) ?_; (with_reducible exact HP12.out)) | fail)
  refine (pmnew p zeroB w12 (HT.out.below HF12.out.bel)).mono ?_
  rintro e w13 ⟨rfl, hb⟩
  rw [HV2.out.1, HV2.out.2.1, HV2.out.2.2]
  have HTH3 := Lib.hid (there_below HTH2.out HXL.out hb)
  have HF14 := Lib.hid ((HF12.out.keep hb).put HXZ.out (celM s))
  have HZ2 := Lib.hid (range_sameM s HTH3.out)
  clear hb HF12 HTH2 HP12 HXL
  go_upto_region 13 with (first | (refine wpList_nuln rfl (exec_putM (c := s) rfl rfl rfl ?_) ?_; (with_reducible exact HTH3.out)) | fail)
  generalize w13.setCells xb 0 (celM s) = w14 at *
  have HSR2 := Lib.hid HF14.out.s.range
  have HBT := Lib.hid HF14.out.bel
  clear HTH3
  refine wp_region_lit ?_
  refine wpList_valn rfl (exec_mv rfl (ev rfl)) ?_
  simp only [Act.put, List.setIfInBounds_toArray, List.set_cons_succ, List.set_cons_zero]
  refine wpList_valn (v := .bool true) rfl (exec_eqInt true rfl (ev rfl) evk rfl) ?_
  simp only [Act.put, List.setIfInBounds_toArray, List.set_cons_succ, List.set_cons_zero]
  refine wpList_valn (v := .bool true) rfl (exec_mv rfl (ev rfl)) ?_
  simp only [Act.put, List.setIfInBounds_toArray, List.set_cons_succ, List.set_cons_zero]
  refine wpList_val (wanted_of rfl rfl rfl rfl) (exec_mv rfl (ev rfl)) ?_
  simp only [Act.put, List.setIfInBounds_toArray, List.set_cons_succ, List.set_cons_zero]
  refine wpList_val (wanted_of rfl rfl rfl rfl) (exec_mv rfl (ev rfl)) ?_
  simp only [Act.put, List.setIfInBounds_toArray, List.set_cons_succ, List.set_cons_zero]
  refine wpList_val (v := .bool true) (wanted_of rfl rfl rfl rfl) (exec_eqInt true rfl (ev rfl) (ev rfl) HNE2.out) ?_
  simp only [Act.put, List.setIfInBounds_toArray, List.set_cons_succ, List.set_cons_zero]
  refine wpList_valn (v := .bool true) rfl (exec_pt rfl (ev rfl) (ev rfl)) ?_
  simp only [Act.put, List.setIfInBounds_toArray, List.set_cons_succ, List.set_cons_zero]
  refine wpList_valn (v := .bool true) rfl (exec_mv rfl (ev rfl)) ?_
  simp only [Act.put, List.setIfInBounds_toArray, List.set_cons_succ, List.set_cons_zero]
  refine wpList_val (wanted_of rfl rfl rfl rfl) (exec_loadM (c := s) rfl (ev rfl) HZ2.out) ?_
  simp only [Act.put, List.setIfInBounds_toArray, List.set_cons_succ, List.set_cons_zero]
  refine wpList_val (wanted_of rfl rfl rfl rfl) (exec_loadM (c := s) rfl (ev rfl) HSR2.out) ?_
  simp only [Act.put, List.setIfInBounds_toArray, List.set_cons_succ, List.set_cons_zero]
  refine wpList_val (v := .bool true) (wanted_of rfl rfl rfl rfl) (exec_eqM true rfl (ev rfl) (ev rfl) (decide_eq_true rfl)) ?_
  simp only [Act.put, List.setIfInBounds_toArray, List.set_cons_succ, List.set_cons_zero]
  refine wpList_valn (v := .bool true) rfl (exec_pt rfl (ev rfl) (ev rfl)) ?_
  simp only [Act.put, List.setIfInBounds_toArray, List.set_cons_succ, List.set_cons_zero]
  refine wpList_valn (v := .bool true) rfl (exec_mv rfl (ev rfl)) ?_
  simp only [Act.put, List.setIfInBounds_toArray, List.set_cons_succ, List.set_cons_zero]
  refine wpList_call (wanted_of rfl rfl rfl rfl) (exec_cl Tryd.call13 rfl evn) ?_
  refine (mark_lives _ (HT.out.below HBT.out)).mono ?_
  rintro e wL ⟨rfl, hb⟩
  have HBF := Lib.hid (HBT.out.trans (hb.mono HBT.out.size))
  clear hb
  refine ⟨_, rfl, ?_⟩
  simp only [Act.put, List.setIfInBounds_toArray, List.set_cons_succ, List.set_cons_zero]
  refine wpList_valn (v := .bool true) rfl (exec_pt rfl (ev rfl) (ev rfl)) ?_
  simp only [Act.put, List.setIfInBounds_toArray, List.set_cons_succ, List.set_cons_zero]
  refine wpList_valn (v := .bool true) rfl (exec_as rfl (ev rfl)) ?_
  simp only [Act.put, List.setIfInBounds_toArray, List.set_cons_succ, List.set_cons_zero]
  refine wpList_nil ?_
  go_wp2_with fail
  go_ret
  exact ⟨rfl, HBF.out⟩
theorem markNewest_walk (a b : Blk) (n m : Nat) (s t : Mrk) (w : World) (T : TabM w) (hn : n < 18446744073709551616) (hm : m < 18446744073709551616) (hs : s.fit) (ht : t.fit) :
    Calls Tryd.prog 6 #[blk a, blk b, .int .u64 n, .int .u64 m, mrk s, mrk t] w fun e w' => e = .returned (.bool true) ∧ Below w.heap.size w w' := by
  by_cases hg : codM.pE ⟨n, s⟩ = 0
  · by_cases hf : codM.pE ⟨m, t⟩ = 0
    · by_cases hlt : n < m
      · exact markNewest_lt a b n m s t w T hn hm hs ht hg hf hlt
      · exact markNewest_ge a b n m s t w T hn hm hs ht hg hf hlt
    · exact markNewest_h a b n m s t w T hn hm hs ht hg hf
  · exact markNewest_g a b n m s t w T hn hm hs ht hg
end Go.Proofs.YtmdpbnolgbfaeaaDoor
