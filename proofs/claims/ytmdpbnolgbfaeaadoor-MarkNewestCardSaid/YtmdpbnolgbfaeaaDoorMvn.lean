/-
  The walk of MarkNewest.
-/
import Derived.Test.YtmdpbnolgbfaeaaDoorMvp
namespace Go.Proofs.YtmdpbnolgbfaeaaDoor
open Go.RowKit
set_option linter.unusedVariables false
set_option linter.unusedSimpArgs false
set_option maxRecDepth 100000

/-- The four that came in, boxed. -/
structure FourM (w w' : World) (a b : Blk) (s t : Mrk) : Prop where
  a : w'.rangeAt w.heap.size 0 (cel a)
  b : w'.rangeAt (w.heap.size + 1) 0 (cel b)
  s : MrkAt w' (w.heap.size + 1 + 1) s
  t : MrkAt w' (w.heap.size + 1 + 1 + 1) t
  bel : Below w.heap.size w w'
theorem FourM.zt {w w' : World} {a b : Blk} {s t : Mrk} (h : FourM w w' a b s t) : w.heap.size + 1 + 1 + 1 < w'.heap.size := blk_lt h.t
theorem FourM.za {w w' : World} {a b : Blk} {s t : Mrk} (h : FourM w w' a b s t) : w.heap.size < w'.heap.size := by have := h.zt; omega
theorem FourM.zb {w w' : World} {a b : Blk} {s t : Mrk} (h : FourM w w' a b s t) : w.heap.size + 1 < w'.heap.size := by have := h.zt; omega
theorem FourM.keep {w w' w2 : World} {a b : Blk} {s t : Mrk} (h : FourM w w' a b s t) (hb : Below w'.heap.size w' w2) : FourM w w2 a b s t :=
  ⟨range_below h.a h.za hb, range_below h.b h.zb hb, h.s.below (blk_lt h.s) hb, h.t.below (blk_lt h.t) hb, h.bel.trans (hb.mono h.bel.size)⟩
theorem setCells_blkM {w : World} {k g : Nat} {ob : Obj} (h : w.heap[k]? = some ob) (hne : k ≠ g) (vs : List Value) : (w.setCells g 0 vs).heap[k]? = some ob := (blk_setCells g vs 0 w k hne).trans h
theorem FourM.put {w w' : World} {a b : Blk} {s t : Mrk} {g : Nat} (h : FourM w w' a b s t) (hg : w.heap.size + 1 + 1 + 1 < g) (vs : List Value) : FourM w (w'.setCells g 0 vs) a b s t :=
  ⟨World.rangeAt_setCells_apart h.a g 0 vs (.inl (by omega)), World.rangeAt_setCells_apart h.b g 0 vs (.inl (by omega)), setCells_blkM h.s (by omega) vs, setCells_blkM h.t (by omega) vs, below_setCells h.bel (by omega) vs⟩
theorem four_newM (w : World) (a b : Blk) (s t : Mrk) : FourM w ((((w.alloc (.cells (cel a).toArray 26)).alloc (.cells (cel b).toArray 26)).alloc (.cells (celM s).toArray 24)).alloc (.cells (celM t).toArray 24)) a b s t := by
  have e1 := World.size_alloc (w := w) (o := Obj.cells (cel a).toArray 26)
  have e2 := World.size_alloc (w := (w.alloc (.cells (cel a).toArray 26))) (o := Obj.cells (cel b).toArray 26)
  have e3 := World.size_alloc (w := ((w.alloc (.cells (cel a).toArray 26)).alloc (.cells (cel b).toArray 26))) (o := Obj.cells (celM s).toArray 24)
  refine ⟨World.rangeAt_alloc (World.rangeAt_alloc (World.rangeAt_alloc (range_new w (cel a) _) _) _) _, ?_, ?_, ?_, ?_⟩
  · rw [← e1]; exact World.rangeAt_alloc (World.rangeAt_alloc (range_new _ (cel b) _) _) _
  · rw [← e1, ← e2]; exact (MrkAt.new _ s).past _
  · rw [← e1, ← e2, ← e3]; exact MrkAt.new _ t
  · exact ((((Below.refl _ w).alloc (Nat.le_refl _) _).alloc (by omega) _).alloc (by omega) _).alloc (by omega) _
set_option maxHeartbeats 4000000 in
theorem markNewest_g (a b : Blk) (n m : Nat) (s t : Mrk) (w : World) (T : TabM w) (hn : n < 18446744073709551616) (hm : m < 18446744073709551616) (hs : s.fit) (ht : t.fit) (hgx : codM.pE ⟨n, s⟩ ≠ 0) :
    Calls Tryd.prog 6 #[blk a, blk b, .int .u64 n, .int .u64 m, mrk s, mrk t] w fun e w' => e = .returned (.bool true) ∧ Below w.heap.size w w' := by
  have HT := Lib.hid T
  have HN := Lib.hid hn
  have HM := Lib.hid hm
  have HIS := Lib.hid hs
  have HIT := Lib.hid ht
  have HF1 := Lib.hid (four_newM w a b s t)
  clear T hn hm hs ht
  obtain ⟨N, hN⟩ : ∃ N, (codM.nX a b).n = N := ⟨_, rfl⟩
  obtain ⟨X, hX⟩ : ∃ X, (codM.nX a b).m = X := ⟨_, rfl⟩
  obtain ⟨E, hE⟩ : ∃ E, codM.nE a b = E := ⟨_, rfl⟩
  have HGN := Lib.hid hN
  have HGX := Lib.hid hX
  have HGE := Lib.hid hE
  have HNN : Hid (((N : Int) != (N : Int)) = false) := Lib.hid (by simp)
  have HEE : Hid (((E : Int) != (E : Int)) = false) := Lib.hid (by simp)
  clear hN hX hE
  obtain ⟨p, hp⟩ : ∃ p, codM.pB ⟨n, s⟩ = p := ⟨_, rfl⟩
  obtain ⟨q, hq⟩ : ∃ q, codM.pB ⟨m, t⟩ = q := ⟨_, rfl⟩
  have HPB := Lib.hid hp
  have HQB := Lib.hid hq
  obtain ⟨G, hG⟩ : ∃ G, codM.pE ⟨n, s⟩ = G := ⟨_, rfl⟩
  obtain ⟨F, hF⟩ : ∃ F, codM.pE ⟨m, t⟩ = F := ⟨_, rfl⟩
  have HPE := Lib.hid hG
  have HQE := Lib.hid hF
  rw [hG] at hgx
  have hgd : ((G : Int) != 0) = true := by simp; omega
  clear hG hF hgx
  clear hp hq
  go_enter Tryd.func6, Tryd.ntmps6
  go_upto_region 1 with (first | (refine wpList_valn rfl (exec_box rfl rfl) ?_) | (refine wpList_valn rfl (exec_boxM rfl rfl) ?_) | fail)
  try simp only [World.size_alloc]
  generalize ((((w.alloc (.cells (cel a).toArray 26)).alloc (.cells (cel b).toArray 26)).alloc (.cells (celM s).toArray 24)).alloc (.cells (celM t).toArray 24)) = w1 at *
  have HA1 := Lib.hid HF1.out.a
  have HB1 := Lib.hid HF1.out.b
  go_wp2_with (first | (refine wpList_valn rfl (exec_load (c := a) rfl rfl ?_) ?_; (with_reducible exact HA1.out)) | (refine wpList_valn rfl (exec_load (c := b) rfl rfl ?_) ?_; (with_reducible exact HB1.out)) | fail)
  refine (pmnew a b w1 (HT.out.below HF1.out.bel)).mono ?_
  rintro e w2 ⟨rfl, hb⟩
  rw [HGN.out, HGX.out, HGE.out]
  have hb2 := hb.alloc hb.size (.cells (celM X).toArray 24)
  have HF3 := Lib.hid (HF1.out.keep hb2)
  have HSX3 := Lib.hid (MrkAt.new w2 X)
  have HXZ : Hid (w.heap.size + 1 + 1 + 1 < w2.heap.size) := Lib.hid (Nat.lt_of_lt_of_le HF1.out.zt hb.size)
  clear hb hb2 HF1 HA1 HB1
  go_upto_region 2 with (first | (refine wpList_valn rfl (exec_allocM rfl) ?_) | (refine wpList_nuln rfl (exec_fillM (c := X) rfl rfl rfl) ?_) | fail)
  generalize w2.alloc (.cells (celM X).toArray 24) = w3 at *
  generalize w2.heap.size = xb at *
  have HA1 := Lib.hid HF3.out.a
  have HB1 := Lib.hid HF3.out.b
  go_wp2_with (first | (refine wpList_valn rfl (exec_load (c := a) rfl rfl ?_) ?_; (with_reducible exact HA1.out)) | (refine wpList_valn rfl (exec_load (c := b) rfl rfl ?_) ?_; (with_reducible exact HB1.out)) | fail)
  refine (rmnew a b w3).mono ?_
  rintro e w4 ⟨rfl, hb⟩
  rw [HGN.out, HGX.out, HGE.out]
  have hb2 := hb.alloc hb.size (.cells (celM X).toArray 24)
  have HF := Lib.hid (HF3.out.keep hb2)
  have HSX := Lib.hid (HSX3.out.below (blk_lt HSX3.out) hb2)
  have HSY := Lib.hid (MrkAt.new w4 X)
  have HTT := Lib.hid (HT.out.below HF.out.bel)
  clear hb hb2 HF3 HSX3 HA1 HB1
  go_upto_region 3 with (first | (refine wpList_valn rfl (exec_allocM rfl) ?_) | (refine wpList_nuln rfl (exec_fillM (c := X) rfl rfl rfl) ?_) | fail)
  generalize w4.alloc (.cells (celM X).toArray 24) = w5 at *
  generalize w4.heap.size = yb at *
  refine wp_region_lit ?_
  refine wpList_valn rfl (exec_mv rfl (ev rfl)) ?_
  simp only [Act.put, List.setIfInBounds_toArray, List.set_cons_succ, List.set_cons_zero]
  refine wpList_valn rfl (exec_mv rfl (ev rfl)) ?_
  simp only [Act.put, List.setIfInBounds_toArray, List.set_cons_succ, List.set_cons_zero]
  refine wpList_valn (v := .bool false) rfl (exec_neInt false rfl (ev rfl) (ev rfl) HNN.out) ?_
  simp only [Act.put, List.setIfInBounds_toArray, List.set_cons_succ, List.set_cons_zero]
  refine wpList_valn (v := .bool false) rfl (exec_mv rfl (ev rfl)) ?_
  simp only [Act.put, List.setIfInBounds_toArray, List.set_cons_succ, List.set_cons_zero]
  refine wpList_val (wanted_of rfl rfl rfl rfl) (exec_loadM (c := X) rfl (ev rfl) HSX.out.range) ?_
  simp only [Act.put, List.setIfInBounds_toArray, List.set_cons_succ, List.set_cons_zero]
  refine wpList_val (wanted_of rfl rfl rfl rfl) (exec_loadM (c := X) rfl (ev rfl) HSY.out.range) ?_
  simp only [Act.put, List.setIfInBounds_toArray, List.set_cons_succ, List.set_cons_zero]
  refine wpList_val (v := .bool false) (wanted_of rfl rfl rfl rfl) (exec_neM true rfl (ev rfl) (ev rfl) (decide_eq_true rfl)) ?_
  simp only [Act.put, List.setIfInBounds_toArray, List.set_cons_succ, List.set_cons_zero]
  refine wpList_valn (v := .bool false) rfl (exec_pf rfl (ev rfl) (ev rfl)) ?_
  simp only [Act.put, List.setIfInBounds_toArray, List.set_cons_succ, List.set_cons_zero]
  refine wpList_valn (v := .bool false) rfl (exec_mv rfl (ev rfl)) ?_
  simp only [Act.put, List.setIfInBounds_toArray, List.set_cons_succ, List.set_cons_zero]
  refine wpList_val (wanted_of rfl rfl rfl rfl) (exec_mv rfl (ev rfl)) ?_
  simp only [Act.put, List.setIfInBounds_toArray, List.set_cons_succ, List.set_cons_zero]
  refine wpList_val (wanted_of rfl rfl rfl rfl) (exec_mv rfl (ev rfl)) ?_
  simp only [Act.put, List.setIfInBounds_toArray, List.set_cons_succ, List.set_cons_zero]
  refine wpList_val (v := .bool false) (wanted_of rfl rfl rfl rfl) (exec_neInt false rfl (ev rfl) (ev rfl) HEE.out) ?_
  simp only [Act.put, List.setIfInBounds_toArray, List.set_cons_succ, List.set_cons_zero]
  refine wpList_valn (v := .bool false) rfl (exec_pf rfl (ev rfl) (ev rfl)) ?_
  simp only [Act.put, List.setIfInBounds_toArray, List.set_cons_succ, List.set_cons_zero]
  refine wpList_nil ?_
  have HF6 := HF
  have HSX6 := HSX
  have HSR1 := Lib.hid HF6.out.s.range
  clear HF HSX HSY HTT
  go_wp2_with (first | (refine wpList_valn rfl (exec_loadM (c := s) rfl rfl ?_) ?_; (with_reducible exact HSR1.out)) | fail)
  refine (pmput n s w5 (HT.out.below HF6.out.bel) HN.out HIS.out).mono ?_
  rintro e w7 ⟨rfl, hb⟩
  rw [HPB.out, HPE.out]
  have hb2 := hb.alloc hb.size (.cells (cel p).toArray 26)
  have HF8 := Lib.hid (HF6.out.keep hb2)
  have HSX8 := Lib.hid (HSX6.out.below (blk_lt HSX6.out) hb2)
  have HP8 := Lib.hid (range_new w7 (cel p) 26)
  have HPZ : Hid (w7.heap.size < (w7.alloc (.cells (cel p).toArray 26)).heap.size ∧ xb < w7.heap.size) := Lib.hid (by have := blk_lt HSX6.out; have := hb.size; simp only [World.size_alloc]; omega)
  have HTR1 := Lib.hid HF8.out.t.range
  clear hb hb2 HF6 HSX6 HSR1
  go_upto_region 6 with (first | (refine wpList_valn rfl (exec_alloc rfl) ?_) | (refine wpList_nuln rfl (exec_fillN rfl rfl rfl) ?_) | fail)
  generalize w7.alloc (.cells (cel p).toArray 26) = w8 at *
  generalize w7.heap.size = pb at *
  go_wp2_with (first | (refine wpList_valn rfl (exec_loadM (c := t) rfl rfl ?_) ?_; (with_reducible exact HTR1.out)) | fail)
  refine (pmput m t w8 (HT.out.below HF8.out.bel) HM.out HIT.out).mono ?_
  rintro e w9 ⟨rfl, hb⟩
  rw [HQB.out, HQE.out]
  have hb2 := hb.alloc hb.size (.cells (cel q).toArray 26)
  have HF10 := Lib.hid (HF8.out.keep hb2)
  have HSX10 := Lib.hid (HSX8.out.below (blk_lt HSX8.out) hb2)
  have HP10 := Lib.hid (range_below HP8.out HPZ.out.1 hb2)
  have HQ10 := Lib.hid (range_new w9 (cel q) 26)
  have HPQ : Hid (pb < (w9.alloc (.cells (cel q).toArray 26)).heap.size ∧ w9.heap.size < (w9.alloc (.cells (cel q).toArray 26)).heap.size ∧ xb < pb ∧ xb < w9.heap.size) := Lib.hid (by have := HPZ.out; have := hb.size; simp only [World.size_alloc]; omega)
  clear hb hb2 HF8 HSX8 HP8 HPZ HTR1
  go_upto_region 7 with (first | (refine wpList_valn rfl (exec_alloc rfl) ?_) | (refine wpList_nuln rfl (exec_fillN rfl rfl rfl) ?_) | fail)
  generalize w9.alloc (.cells (cel q).toArray 26) = w10 at *
  generalize w9.heap.size = qb at *
  go_wp2_with fail
  refine (mark_lives w10 (HT.out.below HF10.out.bel)).mono ?_
  rintro e w11 ⟨rfl, hb⟩
  have HBF := Lib.hid (HF10.out.bel.trans (hb.mono HF10.out.bel.size))
  clear hb
  go_wp2_with fail
  go_ret
  exact ⟨rfl, HBF.out⟩
set_option maxHeartbeats 4000000 in
theorem markNewest_h (a b : Blk) (n m : Nat) (s t : Mrk) (w : World) (T : TabM w) (hn : n < 18446744073709551616) (hm : m < 18446744073709551616) (hs : s.fit) (ht : t.fit) (hgx : codM.pE ⟨n, s⟩ = 0) (hfx : codM.pE ⟨m, t⟩ ≠ 0) :
    Calls Tryd.prog 6 #[blk a, blk b, .int .u64 n, .int .u64 m, mrk s, mrk t] w fun e w' => e = .returned (.bool true) ∧ Below w.heap.size w w' := by
  have HT := Lib.hid T
  have HN := Lib.hid hn
  have HM := Lib.hid hm
  have HIS := Lib.hid hs
  have HIT := Lib.hid ht
  have HF1 := Lib.hid (four_newM w a b s t)
  clear T hn hm hs ht
  obtain ⟨N, hN⟩ : ∃ N, (codM.nX a b).n = N := ⟨_, rfl⟩
  obtain ⟨X, hX⟩ : ∃ X, (codM.nX a b).m = X := ⟨_, rfl⟩
  obtain ⟨E, hE⟩ : ∃ E, codM.nE a b = E := ⟨_, rfl⟩
  have HGN := Lib.hid hN
  have HGX := Lib.hid hX
  have HGE := Lib.hid hE
  have HNN : Hid (((N : Int) != (N : Int)) = false) := Lib.hid (by simp)
  have HEE : Hid (((E : Int) != (E : Int)) = false) := Lib.hid (by simp)
  clear hN hX hE
  obtain ⟨p, hp⟩ : ∃ p, codM.pB ⟨n, s⟩ = p := ⟨_, rfl⟩
  obtain ⟨q, hq⟩ : ∃ q, codM.pB ⟨m, t⟩ = q := ⟨_, rfl⟩
  have HPB := Lib.hid hp
  have HQB := Lib.hid hq
  have HPE := Lib.hid hgx
  obtain ⟨F, hF⟩ : ∃ F, codM.pE ⟨m, t⟩ = F := ⟨_, rfl⟩
  have HQE := Lib.hid hF
  rw [hF] at hfx
  have hfd : ((F : Int) != 0) = true := by simp; omega
  clear hF hgx hfx
  clear hp hq
  go_enter Tryd.func6, Tryd.ntmps6
  go_upto_region 1 with (first | (refine wpList_valn rfl (exec_box rfl rfl) ?_) | (refine wpList_valn rfl (exec_boxM rfl rfl) ?_) | fail)
  try simp only [World.size_alloc]
  generalize ((((w.alloc (.cells (cel a).toArray 26)).alloc (.cells (cel b).toArray 26)).alloc (.cells (celM s).toArray 24)).alloc (.cells (celM t).toArray 24)) = w1 at *
  have HA1 := Lib.hid HF1.out.a
  have HB1 := Lib.hid HF1.out.b
  go_wp2_with (first | (refine wpList_valn rfl (exec_load (c := a) rfl rfl ?_) ?_; (with_reducible exact HA1.out)) | (refine wpList_valn rfl (exec_load (c := b) rfl rfl ?_) ?_; (with_reducible exact HB1.out)) | fail)
  refine (pmnew a b w1 (HT.out.below HF1.out.bel)).mono ?_
  rintro e w2 ⟨rfl, hb⟩
  rw [HGN.out, HGX.out, HGE.out]
  have hb2 := hb.alloc hb.size (.cells (celM X).toArray 24)
  have HF3 := Lib.hid (HF1.out.keep hb2)
  have HSX3 := Lib.hid (MrkAt.new w2 X)
  have HXZ : Hid (w.heap.size + 1 + 1 + 1 < w2.heap.size) := Lib.hid (Nat.lt_of_lt_of_le HF1.out.zt hb.size)
  clear hb hb2 HF1 HA1 HB1
  go_upto_region 2 with (first | (refine wpList_valn rfl (exec_allocM rfl) ?_) | (refine wpList_nuln rfl (exec_fillM (c := X) rfl rfl rfl) ?_) | fail)
  generalize w2.alloc (.cells (celM X).toArray 24) = w3 at *
  generalize w2.heap.size = xb at *
  have HA1 := Lib.hid HF3.out.a
  have HB1 := Lib.hid HF3.out.b
  go_wp2_with (first | (refine wpList_valn rfl (exec_load (c := a) rfl rfl ?_) ?_; (with_reducible exact HA1.out)) | (refine wpList_valn rfl (exec_load (c := b) rfl rfl ?_) ?_; (with_reducible exact HB1.out)) | fail)
  refine (rmnew a b w3).mono ?_
  rintro e w4 ⟨rfl, hb⟩
  rw [HGN.out, HGX.out, HGE.out]
  have hb2 := hb.alloc hb.size (.cells (celM X).toArray 24)
  have HF := Lib.hid (HF3.out.keep hb2)
  have HSX := Lib.hid (HSX3.out.below (blk_lt HSX3.out) hb2)
  have HSY := Lib.hid (MrkAt.new w4 X)
  have HTT := Lib.hid (HT.out.below HF.out.bel)
  clear hb hb2 HF3 HSX3 HA1 HB1
  go_upto_region 3 with (first | (refine wpList_valn rfl (exec_allocM rfl) ?_) | (refine wpList_nuln rfl (exec_fillM (c := X) rfl rfl rfl) ?_) | fail)
  generalize w4.alloc (.cells (celM X).toArray 24) = w5 at *
  generalize w4.heap.size = yb at *
  refine wp_region_lit ?_
  refine wpList_valn rfl (exec_mv rfl (ev rfl)) ?_
  simp only [Act.put, List.setIfInBounds_toArray, List.set_cons_succ, List.set_cons_zero]
  refine wpList_valn rfl (exec_mv rfl (ev rfl)) ?_
  simp only [Act.put, List.setIfInBounds_toArray, List.set_cons_succ, List.set_cons_zero]
  refine wpList_valn (v := .bool false) rfl (exec_neInt false rfl (ev rfl) (ev rfl) HNN.out) ?_
  simp only [Act.put, List.setIfInBounds_toArray, List.set_cons_succ, List.set_cons_zero]
  refine wpList_valn (v := .bool false) rfl (exec_mv rfl (ev rfl)) ?_
  simp only [Act.put, List.setIfInBounds_toArray, List.set_cons_succ, List.set_cons_zero]
  refine wpList_val (wanted_of rfl rfl rfl rfl) (exec_loadM (c := X) rfl (ev rfl) HSX.out.range) ?_
  simp only [Act.put, List.setIfInBounds_toArray, List.set_cons_succ, List.set_cons_zero]
  refine wpList_val (wanted_of rfl rfl rfl rfl) (exec_loadM (c := X) rfl (ev rfl) HSY.out.range) ?_
  simp only [Act.put, List.setIfInBounds_toArray, List.set_cons_succ, List.set_cons_zero]
  refine wpList_val (v := .bool false) (wanted_of rfl rfl rfl rfl) (exec_neM true rfl (ev rfl) (ev rfl) (decide_eq_true rfl)) ?_
  simp only [Act.put, List.setIfInBounds_toArray, List.set_cons_succ, List.set_cons_zero]
  refine wpList_valn (v := .bool false) rfl (exec_pf rfl (ev rfl) (ev rfl)) ?_
  simp only [Act.put, List.setIfInBounds_toArray, List.set_cons_succ, List.set_cons_zero]
  refine wpList_valn (v := .bool false) rfl (exec_mv rfl (ev rfl)) ?_
  simp only [Act.put, List.setIfInBounds_toArray, List.set_cons_succ, List.set_cons_zero]
  refine wpList_val (wanted_of rfl rfl rfl rfl) (exec_mv rfl (ev rfl)) ?_
  simp only [Act.put, List.setIfInBounds_toArray, List.set_cons_succ, List.set_cons_zero]
  refine wpList_val (wanted_of rfl rfl rfl rfl) (exec_mv rfl (ev rfl)) ?_
  simp only [Act.put, List.setIfInBounds_toArray, List.set_cons_succ, List.set_cons_zero]
  refine wpList_val (v := .bool false) (wanted_of rfl rfl rfl rfl) (exec_neInt false rfl (ev rfl) (ev rfl) HEE.out) ?_
  simp only [Act.put, List.setIfInBounds_toArray, List.set_cons_succ, List.set_cons_zero]
  refine wpList_valn (v := .bool false) rfl (exec_pf rfl (ev rfl) (ev rfl)) ?_
  simp only [Act.put, List.setIfInBounds_toArray, List.set_cons_succ, List.set_cons_zero]
  refine wpList_nil ?_
  have HF6 := HF
  have HSX6 := HSX
  have HSR1 := Lib.hid HF6.out.s.range
  clear HF HSX HSY HTT
  go_wp2_with (first | (refine wpList_valn rfl (exec_loadM (c := s) rfl rfl ?_) ?_; (with_reducible exact HSR1.out)) | fail)
  refine (pmput n s w5 (HT.out.below HF6.out.bel) HN.out HIS.out).mono ?_
  rintro e w7 ⟨rfl, hb⟩
  rw [HPB.out, HPE.out]
  have hb2 := hb.alloc hb.size (.cells (cel p).toArray 26)
  have HF8 := Lib.hid (HF6.out.keep hb2)
  have HSX8 := Lib.hid (HSX6.out.below (blk_lt HSX6.out) hb2)
  have HP8 := Lib.hid (range_new w7 (cel p) 26)
  have HPZ : Hid (w7.heap.size < (w7.alloc (.cells (cel p).toArray 26)).heap.size ∧ xb < w7.heap.size) := Lib.hid (by have := blk_lt HSX6.out; have := hb.size; simp only [World.size_alloc]; omega)
  have HTR1 := Lib.hid HF8.out.t.range
  clear hb hb2 HF6 HSX6 HSR1
  go_upto_region 6 with (first | (refine wpList_valn rfl (exec_alloc rfl) ?_) | (refine wpList_nuln rfl (exec_fillN rfl rfl rfl) ?_) | fail)
  generalize w7.alloc (.cells (cel p).toArray 26) = w8 at *
  generalize w7.heap.size = pb at *
  go_wp2_with (first | (refine wpList_valn rfl (exec_loadM (c := t) rfl rfl ?_) ?_; (with_reducible exact HTR1.out)) | fail)
  refine (pmput m t w8 (HT.out.below HF8.out.bel) HM.out HIT.out).mono ?_
  rintro e w9 ⟨rfl, hb⟩
  rw [HQB.out, HQE.out]
  have hb2 := hb.alloc hb.size (.cells (cel q).toArray 26)
  have HF10 := Lib.hid (HF8.out.keep hb2)
  have HSX10 := Lib.hid (HSX8.out.below (blk_lt HSX8.out) hb2)
  have HP10 := Lib.hid (range_below HP8.out HPZ.out.1 hb2)
  have HQ10 := Lib.hid (range_new w9 (cel q) 26)
  have HPQ : Hid (pb < (w9.alloc (.cells (cel q).toArray 26)).heap.size ∧ w9.heap.size < (w9.alloc (.cells (cel q).toArray 26)).heap.size ∧ xb < pb ∧ xb < w9.heap.size) := Lib.hid (by have := HPZ.out; have := hb.size; simp only [World.size_alloc]; omega)
  clear hb hb2 HF8 HSX8 HP8 HPZ HTR1
  go_upto_region 7 with (first | (refine wpList_valn rfl (exec_alloc rfl) ?_) | (refine wpList_nuln rfl (exec_fillN rfl rfl rfl) ?_) | fail)
  generalize w9.alloc (.cells (cel q).toArray 26) = w10 at *
  generalize w9.heap.size = qb at *
  go_wp2_with fail
  refine (mark_lives w10 (HT.out.below HF10.out.bel)).mono ?_
  rintro e w11 ⟨rfl, hb⟩
  have HBF := Lib.hid (HF10.out.bel.trans (hb.mono HF10.out.bel.size))
  clear hb
  go_wp2_with fail
  go_ret
  exact ⟨rfl, HBF.out⟩
end Go.Proofs.YtmdpbnolgbfaeaaDoor
