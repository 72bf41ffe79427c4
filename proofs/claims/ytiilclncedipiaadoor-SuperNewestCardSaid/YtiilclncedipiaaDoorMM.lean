/-
  The walk of SuperNewest.
  The walk of SuperNewest, of two that may be.
-/
import Derived.Test.YtiilclncedipiaaDoorMJ
namespace Go.Proofs.YtiilclncedipiaaDoor
open Go.RowKit
set_option linter.unusedVariables false
set_option linter.unusedSimpArgs false
set_option maxRecDepth 100000

/-- The four that came in, boxed. -/
structure FourW (w w' : World) (a b : Blk) (s t : Sup) : Prop where
  a : w'.rangeAt w.heap.size 0 (cel a)
  b : w'.rangeAt (w.heap.size + 1) 0 (cel b)
  s : SupAt w' (w.heap.size + 1 + 1) s
  t : SupAt w' (w.heap.size + 1 + 1 + 1) t
  bel : Below w.heap.size w w'
theorem FourW.zt {w w' : World} {a b : Blk} {s t : Sup} (h : FourW w w' a b s t) : w.heap.size + 1 + 1 + 1 < w'.heap.size := blk_lt h.t
theorem FourW.za {w w' : World} {a b : Blk} {s t : Sup} (h : FourW w w' a b s t) : w.heap.size < w'.heap.size := by have := h.zt; omega
theorem FourW.zb {w w' : World} {a b : Blk} {s t : Sup} (h : FourW w w' a b s t) : w.heap.size + 1 < w'.heap.size := by have := h.zt; omega
theorem FourW.keep {w w' w2 : World} {a b : Blk} {s t : Sup} (h : FourW w w' a b s t) (hb : Below w'.heap.size w' w2) : FourW w w2 a b s t :=
  ⟨range_below h.a h.za hb, range_below h.b h.zb hb, h.s.below (blk_lt h.s) hb, h.t.below (blk_lt h.t) hb, h.bel.trans (hb.mono h.bel.size)⟩
theorem setCells_blk {w : World} {k g : Nat} {ob : Obj} (h : w.heap[k]? = some ob) (hne : k ≠ g) (vs : List Value) : (w.setCells g 0 vs).heap[k]? = some ob := (blk_setCells g vs 0 w k hne).trans h
theorem FourW.put {w w' : World} {a b : Blk} {s t : Sup} {g : Nat} (h : FourW w w' a b s t) (hg : w.heap.size + 1 + 1 + 1 < g) (vs : List Value) : FourW w (w'.setCells g 0 vs) a b s t :=
  ⟨World.rangeAt_setCells_apart h.a g 0 vs (.inl (by omega)), World.rangeAt_setCells_apart h.b g 0 vs (.inl (by omega)), setCells_blk h.s (by omega) vs, setCells_blk h.t (by omega) vs, below_setCells h.bel (by omega) vs⟩
theorem four_new (w : World) (a b : Blk) (s t : Sup) : FourW w ((((w.alloc (.cells (cel a).toArray 31)).alloc (.cells (cel b).toArray 31)).alloc (.cells (celS s).toArray 29)).alloc (.cells (celS t).toArray 29)) a b s t := by
  have e1 := World.size_alloc (w := w) (o := Obj.cells (cel a).toArray 31)
  have e2 := World.size_alloc (w := (w.alloc (.cells (cel a).toArray 31))) (o := Obj.cells (cel b).toArray 31)
  have e3 := World.size_alloc (w := ((w.alloc (.cells (cel a).toArray 31)).alloc (.cells (cel b).toArray 31))) (o := Obj.cells (celS s).toArray 29)
  refine ⟨World.rangeAt_alloc (World.rangeAt_alloc (World.rangeAt_alloc (range_new w (cel a) _) _) _) _, ?_, ?_, ?_, ?_⟩
  · rw [← e1]; exact World.rangeAt_alloc (World.rangeAt_alloc (range_new _ (cel b) _) _) _
  · rw [← e1, ← e2]; exact (SupAt.new _ s).past _
  · rw [← e1, ← e2, ← e3]; exact SupAt.new _ t
  · exact ((((Below.refl _ w).alloc (Nat.le_refl _) _).alloc (by omega) _).alloc (by omega) _).alloc (by omega) _
set_option maxHeartbeats 4000000 in
theorem superNewest_g (a b : Blk) (n m : Nat) (s t : Sup) (w : World) (T : Tab w) (hn : n < 18446744073709551616) (hm : m < 18446744073709551616) (hs : s.id < 18446744073709551616) (ht : t.id < 18446744073709551616) (hgx : sputE n s ≠ 0) :
    Calls Tryd.prog 6 #[blk a, blk b, .int .u64 n, .int .u64 m, sup s, sup t] w fun e w' => e = .returned (.bool true) ∧ Below w.heap.size w w' := by
  have HT := Lib.hid T
  have HN := Lib.hid hn
  have HM := Lib.hid hm
  have HIS := Lib.hid hs
  have HIT := Lib.hid ht
  have HF1 := Lib.hid (four_new w a b s t)
  clear T hn hm hs ht
  obtain ⟨N, hN⟩ : ∃ N, nwN a b = N := ⟨_, rfl⟩
  obtain ⟨X, hX⟩ : ∃ X, nwS a b = X := ⟨_, rfl⟩
  obtain ⟨E, hE⟩ : ∃ E, nwE a b = E := ⟨_, rfl⟩
  have HGN := Lib.hid hN
  have HGX := Lib.hid hX
  have HGE := Lib.hid hE
  have HNN : Hid (((N : Int) != (N : Int)) = false) := Lib.hid (by simp)
  have HEE : Hid (((E : Int) != (E : Int)) = false) := Lib.hid (by simp)
  have HSS : Hid (((sloT a b : Int) != (sloT a b : Int)) = false) := Lib.hid (by simp)
  clear hN hX hE
  obtain ⟨p, hp⟩ : ∃ p, sputB n s = p := ⟨_, rfl⟩
  obtain ⟨q, hq⟩ : ∃ q, sputB m t = q := ⟨_, rfl⟩
  have HPB := Lib.hid hp
  have HQB := Lib.hid hq
  obtain ⟨G, hG⟩ : ∃ G, sputE n s = G := ⟨_, rfl⟩
  obtain ⟨F, hF⟩ : ∃ F, sputE m t = F := ⟨_, rfl⟩
  have HPE := Lib.hid hG
  have HQE := Lib.hid hF
  rw [hG] at hgx
  have hgd : ((G : Int) != 0) = true := by simp; omega
  clear hG hF hgx
  clear hp hq
  go_enter Tryd.func6, Tryd.ntmps6
  go_upto_region 1 with (first | (refine wpList_valn rfl (exec_box rfl rfl) ?_) | (refine wpList_valn rfl (exec_boxS rfl rfl) ?_) | fail)
  try simp only [World.size_alloc]
  generalize ((((w.alloc (.cells (cel a).toArray 31)).alloc (.cells (cel b).toArray 31)).alloc (.cells (celS s).toArray 29)).alloc (.cells (celS t).toArray 29)) = w1 at *
  have HA1 := Lib.hid HF1.out.a
  have HB1 := Lib.hid HF1.out.b
  go_wp2_with (first | (refine wpList_valn rfl (exec_load (c := a) rfl rfl ?_) ?_; (with_reducible exact HA1.out)) | (refine wpList_valn rfl (exec_load (c := b) rfl rfl ?_) ?_; (with_reducible exact HB1.out)) | fail)
  refine (pnew_super a b w1 (HT.out.below HF1.out.bel)).mono ?_
  rintro e w2 ⟨rfl, hb⟩
  rw [HGN.out, HGX.out, HGE.out]
  have hb2 := hb.alloc hb.size (.cells (celS X).toArray 29)
  have HF3 := Lib.hid (HF1.out.keep hb2)
  have HSX3 := Lib.hid (SupAt.new w2 X)
  have HXZ : Hid (w.heap.size + 1 + 1 + 1 < w2.heap.size) := Lib.hid (Nat.lt_of_lt_of_le HF1.out.zt hb.size)
  clear hb hb2 HF1 HA1 HB1
  go_upto_region 2 with (first | (refine wpList_valn rfl (exec_allocS rfl) ?_) | (refine wpList_nuln rfl (exec_fillS (c := X) rfl rfl rfl) ?_) | fail)
  generalize w2.alloc (.cells (celS X).toArray 29) = w3 at *
  generalize w2.heap.size = xb at *
  have HA1 := Lib.hid HF3.out.a
  have HB1 := Lib.hid HF3.out.b
  go_wp2_with (first | (refine wpList_valn rfl (exec_load (c := a) rfl rfl ?_) ?_; (with_reducible exact HA1.out)) | (refine wpList_valn rfl (exec_load (c := b) rfl rfl ?_) ?_; (with_reducible exact HB1.out)) | fail)
  refine (rnew_super a b w3).mono ?_
  rintro e w4 ⟨rfl, hb⟩
  rw [HGN.out, HGX.out, HGE.out]
  have hb2 := hb.alloc hb.size (.cells (celS X).toArray 29)
  have HF := Lib.hid (HF3.out.keep hb2)
  have HSX := Lib.hid (HSX3.out.below (blk_lt HSX3.out) hb2)
  have HSY := Lib.hid (SupAt.new w4 X)
  have HTT := Lib.hid (HT.out.below HF.out.bel)
  clear hb hb2 HF3 HSX3 HA1 HB1
  go_upto_region 3 with (first | (refine wpList_valn rfl (exec_allocS rfl) ?_) | (refine wpList_nuln rfl (exec_fillS (c := X) rfl rfl rfl) ?_) | fail)
  generalize w4.alloc (.cells (celS X).toArray 29) = w5 at *
  generalize w4.heap.size = yb at *
  refine wp_region_above (B := w5.heap.size) (by kernel_rfl) ?_
  refine qv_val rfl (fun w' hw => exec_mv rfl (ev rfl)) ?_
  simp only [Act.put, List.setIfInBounds_toArray, List.set_cons_succ, List.set_cons_zero]
  refine qv_val rfl (fun w' hw => exec_mv rfl (ev rfl)) ?_
  simp only [Act.put, List.setIfInBounds_toArray, List.set_cons_succ, List.set_cons_zero]
  refine qv_val (v := .bool false) rfl (fun w' hw => exec_neInt false rfl (ev rfl) (ev rfl) HNN.out) ?_
  simp only [Act.put, List.setIfInBounds_toArray, List.set_cons_succ, List.set_cons_zero]
  refine qv_val (v := .bool false) rfl (fun w' hw => exec_mv rfl (ev rfl)) ?_
  simp only [Act.put, List.setIfInBounds_toArray, List.set_cons_succ, List.set_cons_zero]
  refine qv_val (wanted_of rfl rfl rfl rfl) (fun w' hw => exec_loadS (c := X) rfl (ev rfl) ((HSX.out.below (blk_lt HSX.out) hw).range)) ?_
  simp only [Act.put, List.setIfInBounds_toArray, List.set_cons_succ, List.set_cons_zero]
  refine qv_val (wanted_of rfl rfl rfl rfl) (fun w' hw => exec_loadS (c := X) rfl (ev rfl) ((HSY.out.below (blk_lt HSY.out) hw).range)) ?_
  simp only [Act.put, List.setIfInBounds_toArray, List.set_cons_succ, List.set_cons_zero]
  refine qv_val (v := .bool false) (wanted_of rfl rfl rfl rfl) (fun w' hw => exec_neS true rfl (ev rfl) (ev rfl) (decide_eq_true rfl)) ?_
  simp only [Act.put, List.setIfInBounds_toArray, List.set_cons_succ, List.set_cons_zero]
  refine qv_val (v := .bool false) rfl (fun w' hw => exec_pf rfl (ev rfl) (ev rfl)) ?_
  simp only [Act.put, List.setIfInBounds_toArray, List.set_cons_succ, List.set_cons_zero]
  refine qv_val (v := .bool false) rfl (fun w' hw => exec_mv rfl (ev rfl)) ?_
  simp only [Act.put, List.setIfInBounds_toArray, List.set_cons_succ, List.set_cons_zero]
  refine qv_val (wanted_of rfl rfl rfl rfl) (fun w' hw => exec_mv rfl (ev rfl)) ?_
  simp only [Act.put, List.setIfInBounds_toArray, List.set_cons_succ, List.set_cons_zero]
  refine qv_val (wanted_of rfl rfl rfl rfl) (fun w' hw => exec_mv rfl (ev rfl)) ?_
  simp only [Act.put, List.setIfInBounds_toArray, List.set_cons_succ, List.set_cons_zero]
  refine qv_val (v := .bool false) (wanted_of rfl rfl rfl rfl) (fun w' hw => exec_neInt false rfl (ev rfl) (ev rfl) HEE.out) ?_
  simp only [Act.put, List.setIfInBounds_toArray, List.set_cons_succ, List.set_cons_zero]
  refine qv_val (v := .bool false) rfl (fun w' hw => exec_pf rfl (ev rfl) (ev rfl)) ?_
  simp only [Act.put, List.setIfInBounds_toArray, List.set_cons_succ, List.set_cons_zero]
  refine qv_val (v := .bool false) rfl (fun w' hw => exec_mv rfl (ev rfl)) ?_
  simp only [Act.put, List.setIfInBounds_toArray, List.set_cons_succ, List.set_cons_zero]
  refine qv_val (wanted_of rfl rfl rfl rfl) (fun w' hw => exec_load (c := a) rfl (ev rfl) (range_below HF.out.a HF.out.za hw)) ?_
  simp only [Act.put, List.setIfInBounds_toArray, List.set_cons_succ, List.set_cons_zero]
  refine qv_val (wanted_of rfl rfl rfl rfl) (fun w' hw => exec_load (c := b) rfl (ev rfl) (range_below HF.out.b HF.out.zb hw)) ?_
  simp only [Act.put, List.setIfInBounds_toArray, List.set_cons_succ, List.set_cons_zero]
  refine qv_call (wanted_of rfl rfl rfl rfl) (fun _ => exec_cl Tryd.call20 rfl (evc (ev rfl) (evc (ev rfl) evn))) (above_of (Nat.le_refl _) fun w' hw => pslot a b w' (HTT.out.below hw)) ?_
  simp only [Act.put, List.setIfInBounds_toArray, List.set_cons_succ, List.set_cons_zero]
  refine qv_val (wanted_of rfl rfl rfl rfl) (fun w' hw => exec_load (c := a) rfl (ev rfl) (range_below HF.out.a HF.out.za hw)) ?_
  simp only [Act.put, List.setIfInBounds_toArray, List.set_cons_succ, List.set_cons_zero]
  refine qv_val (wanted_of rfl rfl rfl rfl) (fun w' hw => exec_load (c := b) rfl (ev rfl) (range_below HF.out.b HF.out.zb hw)) ?_
  simp only [Act.put, List.setIfInBounds_toArray, List.set_cons_succ, List.set_cons_zero]
  refine qv_call (wanted_of rfl rfl rfl rfl) (fun _ => exec_cl Tryd.call21 rfl (evc (ev rfl) (evc (ev rfl) evn))) (above_of (Nat.le_refl _) fun w' hw => rslot a b w') ?_
  simp only [Act.put, List.setIfInBounds_toArray, List.set_cons_succ, List.set_cons_zero]
  refine qv_val (v := .bool false) (wanted_of rfl rfl rfl rfl) (fun w' hw => exec_neInt false rfl (ev rfl) (ev rfl) HSS.out) ?_
  simp only [Act.put, List.setIfInBounds_toArray, List.set_cons_succ, List.set_cons_zero]
  refine qv_val (v := .bool false) rfl (fun w' hw => exec_pf rfl (ev rfl) (ev rfl)) ?_
  simp only [Act.put, List.setIfInBounds_toArray, List.set_cons_succ, List.set_cons_zero]
  refine wpQuiet_nil ?_
  intro w6 hw
  have HF6 := Lib.hid (HF.out.keep hw)
  have HSX6 := Lib.hid (HSX.out.below (blk_lt HSX.out) hw)
  have HSR1 := Lib.hid HF6.out.s.range
  clear hw HF HSX HSY HTT HSS
  go_wp2_with (first | (refine wpList_valn rfl (exec_loadS (c := s) rfl rfl ?_) ?_; (with_reducible exact HSR1.out)) | fail)
  refine (psput n s w6 (HT.out.below HF6.out.bel) HN.out HIS.out).mono ?_
  rintro e w7 ⟨rfl, hb⟩
  rw [HPB.out, HPE.out]
  have hb2 := hb.alloc hb.size (.cells (cel p).toArray 31)
  have HF8 := Lib.hid (HF6.out.keep hb2)
  have HSX8 := Lib.hid (HSX6.out.below (blk_lt HSX6.out) hb2)
  have HP8 := Lib.hid (range_new w7 (cel p) 31)
  have HPZ : Hid (w7.heap.size < (w7.alloc (.cells (cel p).toArray 31)).heap.size ∧ xb < w7.heap.size) := Lib.hid (by have := blk_lt HSX6.out; have := hb.size; simp only [World.size_alloc]; omega)
  have HTR1 := Lib.hid HF8.out.t.range
  clear hb hb2 HF6 HSX6 HSR1
  go_upto_region 6 with (first | (refine wpList_valn rfl (exec_alloc rfl) ?_) | (refine wpList_nuln rfl (exec_fillN rfl rfl rfl) ?_) | fail)
  generalize w7.alloc (.cells (cel p).toArray 31) = w8 at *
  generalize w7.heap.size = pb at *
  go_wp2_with (first | (refine wpList_valn rfl (exec_loadS (c := t) rfl rfl ?_) ?_; (with_reducible exact HTR1.out)) | fail)
  refine (psput m t w8 (HT.out.below HF8.out.bel) HM.out HIT.out).mono ?_
  rintro e w9 ⟨rfl, hb⟩
  rw [HQB.out, HQE.out]
  have hb2 := hb.alloc hb.size (.cells (cel q).toArray 31)
  have HF10 := Lib.hid (HF8.out.keep hb2)
  have HSX10 := Lib.hid (HSX8.out.below (blk_lt HSX8.out) hb2)
  have HP10 := Lib.hid (range_below HP8.out HPZ.out.1 hb2)
  have HQ10 := Lib.hid (range_new w9 (cel q) 31)
  have HPQ : Hid (pb < (w9.alloc (.cells (cel q).toArray 31)).heap.size ∧ w9.heap.size < (w9.alloc (.cells (cel q).toArray 31)).heap.size ∧ xb < pb ∧ xb < w9.heap.size) := Lib.hid (by have := HPZ.out; have := hb.size; simp only [World.size_alloc]; omega)
  clear hb hb2 HF8 HSX8 HP8 HPZ HTR1
  go_upto_region 7 with (first | (refine wpList_valn rfl (exec_alloc rfl) ?_) | (refine wpList_nuln rfl (exec_fillN rfl rfl rfl) ?_) | fail)
  generalize w9.alloc (.cells (cel q).toArray 31) = w10 at *
  generalize w9.heap.size = qb at *
  go_wp2_with fail
  refine (super_lives w10 (HT.out.below HF10.out.bel)).mono ?_
  rintro e w11 ⟨rfl, hb⟩
  have HBF := Lib.hid (HF10.out.bel.trans (hb.mono HF10.out.bel.size))
  clear hb
  go_wp2_with fail
  go_ret
  exact ⟨rfl, HBF.out⟩
set_option maxHeartbeats 4000000 in
theorem superNewest_h (a b : Blk) (n m : Nat) (s t : Sup) (w : World) (T : Tab w) (hn : n < 18446744073709551616) (hm : m < 18446744073709551616) (hs : s.id < 18446744073709551616) (ht : t.id < 18446744073709551616) (hgx : sputE n s = 0) (hfx : sputE m t ≠ 0) :
    Calls Tryd.prog 6 #[blk a, blk b, .int .u64 n, .int .u64 m, sup s, sup t] w fun e w' => e = .returned (.bool true) ∧ Below w.heap.size w w' := by
  have HT := Lib.hid T
  have HN := Lib.hid hn
  have HM := Lib.hid hm
  have HIS := Lib.hid hs
  have HIT := Lib.hid ht
  have HF1 := Lib.hid (four_new w a b s t)
  clear T hn hm hs ht
  obtain ⟨N, hN⟩ : ∃ N, nwN a b = N := ⟨_, rfl⟩
  obtain ⟨X, hX⟩ : ∃ X, nwS a b = X := ⟨_, rfl⟩
  obtain ⟨E, hE⟩ : ∃ E, nwE a b = E := ⟨_, rfl⟩
  have HGN := Lib.hid hN
  have HGX := Lib.hid hX
  have HGE := Lib.hid hE
  have HNN : Hid (((N : Int) != (N : Int)) = false) := Lib.hid (by simp)
  have HEE : Hid (((E : Int) != (E : Int)) = false) := Lib.hid (by simp)
  have HSS : Hid (((sloT a b : Int) != (sloT a b : Int)) = false) := Lib.hid (by simp)
  clear hN hX hE
  obtain ⟨p, hp⟩ : ∃ p, sputB n s = p := ⟨_, rfl⟩
  obtain ⟨q, hq⟩ : ∃ q, sputB m t = q := ⟨_, rfl⟩
  have HPB := Lib.hid hp
  have HQB := Lib.hid hq
  have HPE := Lib.hid hgx
  obtain ⟨F, hF⟩ : ∃ F, sputE m t = F := ⟨_, rfl⟩
  have HQE := Lib.hid hF
  rw [hF] at hfx
  have hfd : ((F : Int) != 0) = true := by simp; omega
  clear hF hgx hfx
  clear hp hq
  go_enter Tryd.func6, Tryd.ntmps6
  go_upto_region 1 with (first | (refine wpList_valn rfl (exec_box rfl rfl) ?_) | (refine wpList_valn rfl (exec_boxS rfl rfl) ?_) | fail)
  try simp only [World.size_alloc]
  generalize ((((w.alloc (.cells (cel a).toArray 31)).alloc (.cells (cel b).toArray 31)).alloc (.cells (celS s).toArray 29)).alloc (.cells (celS t).toArray 29)) = w1 at *
  have HA1 := Lib.hid HF1.out.a
  have HB1 := Lib.hid HF1.out.b
  go_wp2_with (first | (refine wpList_valn rfl (exec_load (c := a) rfl rfl ?_) ?_; (with_reducible exact HA1.out)) | (refine wpList_valn rfl (exec_load (c := b) rfl rfl ?_) ?_; (with_reducible exact HB1.out)) | fail)
  refine (pnew_super a b w1 (HT.out.below HF1.out.bel)).mono ?_
  rintro e w2 ⟨rfl, hb⟩
  rw [HGN.out, HGX.out, HGE.out]
  have hb2 := hb.alloc hb.size (.cells (celS X).toArray 29)
  have HF3 := Lib.hid (HF1.out.keep hb2)
  have HSX3 := Lib.hid (SupAt.new w2 X)
  have HXZ : Hid (w.heap.size + 1 + 1 + 1 < w2.heap.size) := Lib.hid (Nat.lt_of_lt_of_le HF1.out.zt hb.size)
  clear hb hb2 HF1 HA1 HB1
  go_upto_region 2 with (first | (refine wpList_valn rfl (exec_allocS rfl) ?_) | (refine wpList_nuln rfl (exec_fillS (c := X) rfl rfl rfl) ?_) | fail)
  generalize w2.alloc (.cells (celS X).toArray 29) = w3 at *
  generalize w2.heap.size = xb at *
  have HA1 := Lib.hid HF3.out.a
  have HB1 := Lib.hid HF3.out.b
  go_wp2_with (first | (refine wpList_valn rfl (exec_load (c := a) rfl rfl ?_) ?_; (with_reducible exact HA1.out)) | (refine wpList_valn rfl (exec_load (c := b) rfl rfl ?_) ?_; (with_reducible exact HB1.out)) | fail)
  refine (rnew_super a b w3).mono ?_
  rintro e w4 ⟨rfl, hb⟩
  rw [HGN.out, HGX.out, HGE.out]
  have hb2 := hb.alloc hb.size (.cells (celS X).toArray 29)
  have HF := Lib.hid (HF3.out.keep hb2)
  have HSX := Lib.hid (HSX3.out.below (blk_lt HSX3.out) hb2)
  have HSY := Lib.hid (SupAt.new w4 X)
  have HTT := Lib.hid (HT.out.below HF.out.bel)
  clear hb hb2 HF3 HSX3 HA1 HB1
  go_upto_region 3 with (first | (refine wpList_valn rfl (exec_allocS rfl) ?_) | (refine wpList_nuln rfl (exec_fillS (c := X) rfl rfl rfl) ?_) | fail)
  generalize w4.alloc (.cells (celS X).toArray 29) = w5 at *
  generalize w4.heap.size = yb at *
  refine wp_region_above (B := w5.heap.size) (by kernel_rfl) ?_
  refine qv_val rfl (fun w' hw => exec_mv rfl (ev rfl)) ?_
  simp only [Act.put, List.setIfInBounds_toArray, List.set_cons_succ, List.set_cons_zero]
  refine qv_val rfl (fun w' hw => exec_mv rfl (ev rfl)) ?_
  simp only [Act.put, List.setIfInBounds_toArray, List.set_cons_succ, List.set_cons_zero]
  refine qv_val (v := .bool false) rfl (fun w' hw => exec_neInt false rfl (ev rfl) (ev rfl) HNN.out) ?_
  simp only [Act.put, List.setIfInBounds_toArray, List.set_cons_succ, List.set_cons_zero]
  refine qv_val (v := .bool false) rfl (fun w' hw => exec_mv rfl (ev rfl)) ?_
  simp only [Act.put, List.setIfInBounds_toArray, List.set_cons_succ, List.set_cons_zero]
  refine qv_val (wanted_of rfl rfl rfl rfl) (fun w' hw => exec_loadS (c := X) rfl (ev rfl) ((HSX.out.below (blk_lt HSX.out) hw).range)) ?_
  simp only [Act.put, List.setIfInBounds_toArray, List.set_cons_succ, List.set_cons_zero]
  refine qv_val (wanted_of rfl rfl rfl rfl) (fun w' hw => exec_loadS (c := X) rfl (ev rfl) ((HSY.out.below (blk_lt HSY.out) hw).range)) ?_
  simp only [Act.put, List.setIfInBounds_toArray, List.set_cons_succ, List.set_cons_zero]
  refine qv_val (v := .bool false) (wanted_of rfl rfl rfl rfl) (fun w' hw => exec_neS true rfl (ev rfl) (ev rfl) (decide_eq_true rfl)) ?_
  simp only [Act.put, List.setIfInBounds_toArray, List.set_cons_succ, List.set_cons_zero]
  refine qv_val (v := .bool false) rfl (fun w' hw => exec_pf rfl (ev rfl) (ev rfl)) ?_
  simp only [Act.put, List.setIfInBounds_toArray, List.set_cons_succ, List.set_cons_zero]
  refine qv_val (v := .bool false) rfl (fun w' hw => exec_mv rfl (ev rfl)) ?_
  simp only [Act.put, List.setIfInBounds_toArray, List.set_cons_succ, List.set_cons_zero]
  refine qv_val (wanted_of rfl rfl rfl rfl) (fun w' hw => exec_mv rfl (ev rfl)) ?_
  simp only [Act.put, List.setIfInBounds_toArray, List.set_cons_succ, List.set_cons_zero]
  refine qv_val (wanted_of rfl rfl rfl rfl) (fun w' hw => exec_mv rfl (ev rfl)) ?_
  simp only [Act.put, List.setIfInBounds_toArray, List.set_cons_succ, List.set_cons_zero]
  refine qv_val (v := .bool false) (wanted_of rfl rfl rfl rfl) (fun w' hw => exec_neInt false rfl (ev rfl) (ev rfl) HEE.out) ?_
  simp only [Act.put, List.setIfInBounds_toArray, List.set_cons_succ, List.set_cons_zero]
  refine qv_val (v := .bool false) rfl (fun w' hw => exec_pf rfl (ev rfl) (ev rfl)) ?_
  simp only [Act.put, List.setIfInBounds_toArray, List.set_cons_succ, List.set_cons_zero]
  refine qv_val (v := .bool false) rfl (fun w' hw => exec_mv rfl (ev rfl)) ?_
  simp only [Act.put, List.setIfInBounds_toArray, List.set_cons_succ, List.set_cons_zero]
  refine qv_val (wanted_of rfl rfl rfl rfl) (fun w' hw => exec_load (c := a) rfl (ev rfl) (range_below HF.out.a HF.out.za hw)) ?_
  simp only [Act.put, List.setIfInBounds_toArray, List.set_cons_succ, List.set_cons_zero]
  refine qv_val (wanted_of rfl rfl rfl rfl) (fun w' hw => exec_load (c := b) rfl (ev rfl) (range_below HF.out.b HF.out.zb hw)) ?_
  simp only [Act.put, List.setIfInBounds_toArray, List.set_cons_succ, List.set_cons_zero]
  refine qv_call (wanted_of rfl rfl rfl rfl) (fun _ => exec_cl Tryd.call20 rfl (evc (ev rfl) (evc (ev rfl) evn))) (above_of (Nat.le_refl _) fun w' hw => pslot a b w' (HTT.out.below hw)) ?_
  simp only [Act.put, List.setIfInBounds_toArray, List.set_cons_succ, List.set_cons_zero]
  refine qv_val (wanted_of rfl rfl rfl rfl) (fun w' hw => exec_load (c := a) rfl (ev rfl) (range_below HF.out.a HF.out.za hw)) ?_
  simp only [Act.put, List.setIfInBounds_toArray, List.set_cons_succ, List.set_cons_zero]
  refine qv_val (wanted_of rfl rfl rfl rfl) (fun w' hw => exec_load (c := b) rfl (ev rfl) (range_below HF.out.b HF.out.zb hw)) ?_
  simp only [Act.put, List.setIfInBounds_toArray, List.set_cons_succ, List.set_cons_zero]
  refine qv_call (wanted_of rfl rfl rfl rfl) (fun _ => exec_cl Tryd.call21 rfl (evc (ev rfl) (evc (ev rfl) evn))) (above_of (Nat.le_refl _) fun w' hw => rslot a b w') ?_
  simp only [Act.put, List.setIfInBounds_toArray, List.set_cons_succ, List.set_cons_zero]
  refine qv_val (v := .bool false) (wanted_of rfl rfl rfl rfl) (fun w' hw => exec_neInt false rfl (ev rfl) (ev rfl) HSS.out) ?_
  simp only [Act.put, List.setIfInBounds_toArray, List.set_cons_succ, List.set_cons_zero]
  refine qv_val (v := .bool false) rfl (fun w' hw => exec_pf rfl (ev rfl) (ev rfl)) ?_
  simp only [Act.put, List.setIfInBounds_toArray, List.set_cons_succ, List.set_cons_zero]
  refine wpQuiet_nil ?_
  intro w6 hw
  have HF6 := Lib.hid (HF.out.keep hw)
  have HSX6 := Lib.hid (HSX.out.below (blk_lt HSX.out) hw)
  have HSR1 := Lib.hid HF6.out.s.range
  clear hw HF HSX HSY HTT HSS
  go_wp2_with (first | (refine wpList_valn rfl (exec_loadS (c := s) rfl rfl ?_) ?_; (with_reducible exact HSR1.out)) | fail)
  refine (psput n s w6 (HT.out.below HF6.out.bel) HN.out HIS.out).mono ?_
  rintro e w7 ⟨rfl, hb⟩
  rw [HPB.out, HPE.out]
  have hb2 := hb.alloc hb.size (.cells (cel p).toArray 31)
  have HF8 := Lib.hid (HF6.out.keep hb2)
  have HSX8 := Lib.hid (HSX6.out.below (blk_lt HSX6.out) hb2)
  have HP8 := Lib.hid (range_new w7 (cel p) 31)
  have HPZ : Hid (w7.heap.size < (w7.alloc (.cells (cel p).toArray 31)).heap.size ∧ xb < w7.heap.size) := Lib.hid (by have := blk_lt HSX6.out; have := hb.size; simp only [World.size_alloc]; omega)
  have HTR1 := Lib.hid HF8.out.t.range
  clear hb hb2 HF6 HSX6 HSR1
  go_upto_region 6 with (first | (refine wpList_valn rfl (exec_alloc rfl) ?_) | (refine wpList_nuln rfl (exec_fillN rfl rfl rfl) ?_) | fail)
  generalize w7.alloc (.cells (cel p).toArray 31) = w8 at *
  generalize w7.heap.size = pb at *
  go_wp2_with (first | (refine wpList_valn rfl (exec_loadS (c := t) rfl rfl ?_) ?_; (with_reducible exact HTR1.out)) | fail)
  refine (psput m t w8 (HT.out.below HF8.out.bel) HM.out HIT.out).mono ?_
  rintro e w9 ⟨rfl, hb⟩
  rw [HQB.out, HQE.out]
  have hb2 := hb.alloc hb.size (.cells (cel q).toArray 31)
  have HF10 := Lib.hid (HF8.out.keep hb2)
  have HSX10 := Lib.hid (HSX8.out.below (blk_lt HSX8.out) hb2)
  have HP10 := Lib.hid (range_below HP8.out HPZ.out.1 hb2)
  have HQ10 := Lib.hid (range_new w9 (cel q) 31)
  have HPQ : Hid (pb < (w9.alloc (.cells (cel q).toArray 31)).heap.size ∧ w9.heap.size < (w9.alloc (.cells (cel q).toArray 31)).heap.size ∧ xb < pb ∧ xb < w9.heap.size) := Lib.hid (by have := HPZ.out; have := hb.size; simp only [World.size_alloc]; omega)
  clear hb hb2 HF8 HSX8 HP8 HPZ HTR1
  go_upto_region 7 with (first | (refine wpList_valn rfl (exec_alloc rfl) ?_) | (refine wpList_nuln rfl (exec_fillN rfl rfl rfl) ?_) | fail)
  generalize w9.alloc (.cells (cel q).toArray 31) = w10 at *
  generalize w9.heap.size = qb at *
  go_wp2_with fail
  refine (super_lives w10 (HT.out.below HF10.out.bel)).mono ?_
  rintro e w11 ⟨rfl, hb⟩
  have HBF := Lib.hid (HF10.out.bel.trans (hb.mono HF10.out.bel.size))
  clear hb
  go_wp2_with fail
  go_ret
  exact ⟨rfl, HBF.out⟩
end Go.Proofs.YtiilclncedipiaaDoor
namespace Go.Proofs.YtiilclncedipiaaDoor
open Go.RowKit
set_option linter.unusedVariables false
set_option linter.unusedSimpArgs false
set_option maxRecDepth 100000

set_option maxHeartbeats 4000000 in
theorem superNewest_lt (a b : Blk) (n m : Nat) (s t : Sup) (w : World) (T : Tab w) (hn : n < 18446744073709551616) (hm : m < 18446744073709551616) (hs : s.id < 18446744073709551616) (ht : t.id < 18446744073709551616) (hgx : sputE n s = 0) (hfx : sputE m t = 0) (hlt : n < m) :
    Calls Tryd.prog 6 #[blk a, blk b, .int .u64 n, .int .u64 m, sup s, sup t] w fun e w' => e = .returned (.bool true) ∧ Below w.heap.size w w' := by
  have HT := Lib.hid T
  have HN := Lib.hid hn
  have HM := Lib.hid hm
  have HIS := Lib.hid hs
  have HIT := Lib.hid ht
  have HF1 := Lib.hid (four_new w a b s t)
  clear T hn hm hs ht
  obtain ⟨N, hN⟩ : ∃ N, nwN a b = N := ⟨_, rfl⟩
  obtain ⟨X, hX⟩ : ∃ X, nwS a b = X := ⟨_, rfl⟩
  obtain ⟨E, hE⟩ : ∃ E, nwE a b = E := ⟨_, rfl⟩
  have HGN := Lib.hid hN
  have HGX := Lib.hid hX
  have HGE := Lib.hid hE
  have HNN : Hid (((N : Int) != (N : Int)) = false) := Lib.hid (by simp)
  have HEE : Hid (((E : Int) != (E : Int)) = false) := Lib.hid (by simp)
  have HSS : Hid (((sloT a b : Int) != (sloT a b : Int)) = false) := Lib.hid (by simp)
  clear hN hX hE
  obtain ⟨p, hp⟩ : ∃ p, sputB n s = p := ⟨_, rfl⟩
  obtain ⟨q, hq⟩ : ∃ q, sputB m t = q := ⟨_, rfl⟩
  have HPB := Lib.hid hp
  have HQB := Lib.hid hq
  have HPE := Lib.hid hgx
  have HQE := Lib.hid hfx
  obtain ⟨u1, u2, u3⟩ := sput_get (n := n) (x := s) HIS.out hgx
  obtain ⟨v1, v2, v3⟩ := sput_get (n := m) (x := t) HIT.out hfx
  have hn1 := (of_evB (of_sputE hgx).1).1
  have hm1 := (of_evB (of_sputE hfx).1).1
  rw [hp] at u1 u2 u3
  rw [hq] at v1 v2 v3
  have HV : Hid (nwN p q = m ∧ nwS p q = t ∧ nwE p q = 0) := Lib.hid (by
    unfold nwN nwS nwE
    rw [u2, v2, u3, v3]
    refine ⟨if_pos hlt, if_pos hlt, if_neg (by omega)⟩)
  have z5 := gs_zero
  have zn : gsN zeroB = 0 := gsN_no (by rw [z5]; omega)
  have HV2 : Hid (nwN zeroB q = m ∧ nwS zeroB q = t ∧ nwE zeroB q = 0) := Lib.hid (by
    unfold nwN nwS nwE
    rw [zn, v2, v3]
    exact ⟨if_pos (by omega), if_pos (by omega), if_neg (by omega)⟩)
  have HGT : Hid (decide ((n : Int) < (m : Int)) = true) := Lib.hid (by simp; omega)
  have HLE : Hid (decide ((m : Int) ≤ (n : Int)) = false) := Lib.hid (by simp; omega)
  have HMM : Hid (((m : Int) != (m : Int)) = false) := Lib.hid (by simp)
  have HNN2 : Hid (((n : Int) != (n : Int)) = false) := Lib.hid (by simp)
  have HME : Hid (((m : Int) == (m : Int)) = true) := Lib.hid (by simp)
  clear hgx hfx u1 u2 u3 v1 v2 v3 hn1 hm1 hlt z5 zn
  clear hp hq
  go_enter Tryd.func6, Tryd.ntmps6
  go_upto_region 1 with (first | (refine wpList_valn rfl (exec_box rfl rfl) ?_) | (refine wpList_valn rfl (exec_boxS rfl rfl) ?_) | fail)
  try simp only [World.size_alloc]
  generalize ((((w.alloc (.cells (cel a).toArray 31)).alloc (.cells (cel b).toArray 31)).alloc (.cells (celS s).toArray 29)).alloc (.cells (celS t).toArray 29)) = w1 at *
  have HA1 := Lib.hid HF1.out.a
  have HB1 := Lib.hid HF1.out.b
  go_wp2_with (first | (refine wpList_valn rfl (exec_load (c := a) rfl rfl ?_) ?_; (with_reducible exact HA1.out)) | (refine wpList_valn rfl (exec_load (c := b) rfl rfl ?_) ?_; (with_reducible exact HB1.out)) | fail)
  refine (pnew_super a b w1 (HT.out.below HF1.out.bel)).mono ?_
  rintro e w2 ⟨rfl, hb⟩
  rw [HGN.out, HGX.out, HGE.out]
  have hb2 := hb.alloc hb.size (.cells (celS X).toArray 29)
  have HF3 := Lib.hid (HF1.out.keep hb2)
  have HSX3 := Lib.hid (SupAt.new w2 X)
  have HXZ : Hid (w.heap.size + 1 + 1 + 1 < w2.heap.size) := Lib.hid (Nat.lt_of_lt_of_le HF1.out.zt hb.size)
  clear hb hb2 HF1 HA1 HB1
  go_upto_region 2 with (first | (refine wpList_valn rfl (exec_allocS rfl) ?_) | (refine wpList_nuln rfl (exec_fillS (c := X) rfl rfl rfl) ?_) | fail)
  generalize w2.alloc (.cells (celS X).toArray 29) = w3 at *
  generalize w2.heap.size = xb at *
  have HA1 := Lib.hid HF3.out.a
  have HB1 := Lib.hid HF3.out.b
  go_wp2_with (first | (refine wpList_valn rfl (exec_load (c := a) rfl rfl ?_) ?_; (with_reducible exact HA1.out)) | (refine wpList_valn rfl (exec_load (c := b) rfl rfl ?_) ?_; (with_reducible exact HB1.out)) | fail)
  refine (rnew_super a b w3).mono ?_
  rintro e w4 ⟨rfl, hb⟩
  rw [HGN.out, HGX.out, HGE.out]
  have hb2 := hb.alloc hb.size (.cells (celS X).toArray 29)
  have HF := Lib.hid (HF3.out.keep hb2)
  have HSX := Lib.hid (HSX3.out.below (blk_lt HSX3.out) hb2)
  have HSY := Lib.hid (SupAt.new w4 X)
  have HTT := Lib.hid (HT.out.below HF.out.bel)
  clear hb hb2 HF3 HSX3 HA1 HB1
  go_upto_region 3 with (first | (refine wpList_valn rfl (exec_allocS rfl) ?_) | (refine wpList_nuln rfl (exec_fillS (c := X) rfl rfl rfl) ?_) | fail)
  generalize w4.alloc (.cells (celS X).toArray 29) = w5 at *
  generalize w4.heap.size = yb at *
  refine wp_region_above (B := w5.heap.size) (by kernel_rfl) ?_
  refine qv_val rfl (fun w' hw => exec_mv rfl (ev rfl)) ?_
  simp only [Act.put, List.setIfInBounds_toArray, List.set_cons_succ, List.set_cons_zero]
  refine qv_val rfl (fun w' hw => exec_mv rfl (ev rfl)) ?_
  simp only [Act.put, List.setIfInBounds_toArray, List.set_cons_succ, List.set_cons_zero]
  refine qv_val (v := .bool false) rfl (fun w' hw => exec_neInt false rfl (ev rfl) (ev rfl) HNN.out) ?_
  simp only [Act.put, List.setIfInBounds_toArray, List.set_cons_succ, List.set_cons_zero]
  refine qv_val (v := .bool false) rfl (fun w' hw => exec_mv rfl (ev rfl)) ?_
  simp only [Act.put, List.setIfInBounds_toArray, List.set_cons_succ, List.set_cons_zero]
  refine qv_val (wanted_of rfl rfl rfl rfl) (fun w' hw => exec_loadS (c := X) rfl (ev rfl) ((HSX.out.below (blk_lt HSX.out) hw).range)) ?_
  simp only [Act.put, List.setIfInBounds_toArray, List.set_cons_succ, List.set_cons_zero]
  refine qv_val (wanted_of rfl rfl rfl rfl) (fun w' hw => exec_loadS (c := X) rfl (ev rfl) ((HSY.out.below (blk_lt HSY.out) hw).range)) ?_
  simp only [Act.put, List.setIfInBounds_toArray, List.set_cons_succ, List.set_cons_zero]
  refine qv_val (v := .bool false) (wanted_of rfl rfl rfl rfl) (fun w' hw => exec_neS true rfl (ev rfl) (ev rfl) (decide_eq_true rfl)) ?_
  simp only [Act.put, List.setIfInBounds_toArray, List.set_cons_succ, List.set_cons_zero]
  refine qv_val (v := .bool false) rfl (fun w' hw => exec_pf rfl (ev rfl) (ev rfl)) ?_
  simp only [Act.put, List.setIfInBounds_toArray, List.set_cons_succ, List.set_cons_zero]
  refine qv_val (v := .bool false) rfl (fun w' hw => exec_mv rfl (ev rfl)) ?_
  simp only [Act.put, List.setIfInBounds_toArray, List.set_cons_succ, List.set_cons_zero]
  refine qv_val (wanted_of rfl rfl rfl rfl) (fun w' hw => exec_mv rfl (ev rfl)) ?_
  simp only [Act.put, List.setIfInBounds_toArray, List.set_cons_succ, List.set_cons_zero]
  refine qv_val (wanted_of rfl rfl rfl rfl) (fun w' hw => exec_mv rfl (ev rfl)) ?_
  simp only [Act.put, List.setIfInBounds_toArray, List.set_cons_succ, List.set_cons_zero]
  refine qv_val (v := .bool false) (wanted_of rfl rfl rfl rfl) (fun w' hw => exec_neInt false rfl (ev rfl) (ev rfl) HEE.out) ?_
  simp only [Act.put, List.setIfInBounds_toArray, List.set_cons_succ, List.set_cons_zero]
  refine qv_val (v := .bool false) rfl (fun w' hw => exec_pf rfl (ev rfl) (ev rfl)) ?_
  simp only [Act.put, List.setIfInBounds_toArray, List.set_cons_succ, List.set_cons_zero]
  refine qv_val (v := .bool false) rfl (fun w' hw => exec_mv rfl (ev rfl)) ?_
  simp only [Act.put, List.setIfInBounds_toArray, List.set_cons_succ, List.set_cons_zero]
  refine qv_val (wanted_of rfl rfl rfl rfl) (fun w' hw => exec_load (c := a) rfl (ev rfl) (range_below HF.out.a HF.out.za hw)) ?_
  simp only [Act.put, List.setIfInBounds_toArray, List.set_cons_succ, List.set_cons_zero]
  refine qv_val (wanted_of rfl rfl rfl rfl) (fun w' hw => exec_load (c := b) rfl (ev rfl) (range_below HF.out.b HF.out.zb hw)) ?_
  simp only [Act.put, List.setIfInBounds_toArray, List.set_cons_succ, List.set_cons_zero]
  refine qv_call (wanted_of rfl rfl rfl rfl) (fun _ => exec_cl Tryd.call20 rfl (evc (ev rfl) (evc (ev rfl) evn))) (above_of (Nat.le_refl _) fun w' hw => pslot a b w' (HTT.out.below hw)) ?_
  simp only [Act.put, List.setIfInBounds_toArray, List.set_cons_succ, List.set_cons_zero]
  refine qv_val (wanted_of rfl rfl rfl rfl) (fun w' hw => exec_load (c := a) rfl (ev rfl) (range_below HF.out.a HF.out.za hw)) ?_
  simp only [Act.put, List.setIfInBounds_toArray, List.set_cons_succ, List.set_cons_zero]
  refine qv_val (wanted_of rfl rfl rfl rfl) (fun w' hw => exec_load (c := b) rfl (ev rfl) (range_below HF.out.b HF.out.zb hw)) ?_
  simp only [Act.put, List.setIfInBounds_toArray, List.set_cons_succ, List.set_cons_zero]
  refine qv_call (wanted_of rfl rfl rfl rfl) (fun _ => exec_cl Tryd.call21 rfl (evc (ev rfl) (evc (ev rfl) evn))) (above_of (Nat.le_refl _) fun w' hw => rslot a b w') ?_
  simp only [Act.put, List.setIfInBounds_toArray, List.set_cons_succ, List.set_cons_zero]
  refine qv_val (v := .bool false) (wanted_of rfl rfl rfl rfl) (fun w' hw => exec_neInt false rfl (ev rfl) (ev rfl) HSS.out) ?_
  simp only [Act.put, List.setIfInBounds_toArray, List.set_cons_succ, List.set_cons_zero]
  refine qv_val (v := .bool false) rfl (fun w' hw => exec_pf rfl (ev rfl) (ev rfl)) ?_
  simp only [Act.put, List.setIfInBounds_toArray, List.set_cons_succ, List.set_cons_zero]
  refine wpQuiet_nil ?_
  intro w6 hw
  have HF6 := Lib.hid (HF.out.keep hw)
  have HSX6 := Lib.hid (HSX.out.below (blk_lt HSX.out) hw)
  have HSR1 := Lib.hid HF6.out.s.range
  clear hw HF HSX HSY HTT HSS
  go_wp2_with (first | (refine wpList_valn rfl (exec_loadS (c := s) rfl rfl ?_) ?_; (with_reducible exact HSR1.out)) | fail)
  refine (psput n s w6 (HT.out.below HF6.out.bel) HN.out HIS.out).mono ?_
  rintro e w7 ⟨rfl, hb⟩
  rw [HPB.out, HPE.out]
  have hb2 := hb.alloc hb.size (.cells (cel p).toArray 31)
  have HF8 := Lib.hid (HF6.out.keep hb2)
  have HSX8 := Lib.hid (HSX6.out.below (blk_lt HSX6.out) hb2)
  have HP8 := Lib.hid (range_new w7 (cel p) 31)
  have HPZ : Hid (w7.heap.size < (w7.alloc (.cells (cel p).toArray 31)).heap.size ∧ xb < w7.heap.size) := Lib.hid (by have := blk_lt HSX6.out; have := hb.size; simp only [World.size_alloc]; omega)
  have HTR1 := Lib.hid HF8.out.t.range
  clear hb hb2 HF6 HSX6 HSR1
  go_upto_region 6 with (first | (refine wpList_valn rfl (exec_alloc rfl) ?_) | (refine wpList_nuln rfl (exec_fillN rfl rfl rfl) ?_) | fail)
  generalize w7.alloc (.cells (cel p).toArray 31) = w8 at *
  generalize w7.heap.size = pb at *
  go_wp2_with (first | (refine wpList_valn rfl (exec_loadS (c := t) rfl rfl ?_) ?_; (with_reducible exact HTR1.out)) | fail)
  refine (psput m t w8 (HT.out.below HF8.out.bel) HM.out HIT.out).mono ?_
  rintro e w9 ⟨rfl, hb⟩
  rw [HQB.out, HQE.out]
  have hb2 := hb.alloc hb.size (.cells (cel q).toArray 31)
  have HF10 := Lib.hid (HF8.out.keep hb2)
  have HSX10 := Lib.hid (HSX8.out.below (blk_lt HSX8.out) hb2)
  have HP10 := Lib.hid (range_below HP8.out HPZ.out.1 hb2)
  have HQ10 := Lib.hid (range_new w9 (cel q) 31)
  have HPQ : Hid (pb < (w9.alloc (.cells (cel q).toArray 31)).heap.size ∧ w9.heap.size < (w9.alloc (.cells (cel q).toArray 31)).heap.size ∧ xb < pb ∧ xb < w9.heap.size) := Lib.hid (by have := HPZ.out; have := hb.size; simp only [World.size_alloc]; omega)
  clear hb hb2 HF8 HSX8 HP8 HPZ HTR1
  go_upto_region 7 with (first | (refine wpList_valn rfl (exec_alloc rfl) ?_) | (refine wpList_nuln rfl (exec_fillN rfl rfl rfl) ?_) | fail)
  generalize w9.alloc (.cells (cel q).toArray 31) = w10 at *
  generalize w9.heap.size = qb at *
  go_wp2_with (first | (refine wpList_valn rfl (exec_load (c := p) rfl rfl ?_) ?_; (with_reducible exact HP10.out)) | (refine wpList_valn rfl (exec_load (c := q) rfl rfl ?_) ?_; (with_reducible exact HQ10.out)) | fail)
  refine (pnew_super p q w10 (HT.out.below HF10.out.bel)).mono ?_
  rintro e w11 ⟨rfl, hb⟩
  rw [HV.out.1, HV.out.2.1, HV.out.2.2]
  have HTH := Lib.hid (there_at (o := 0) (n := 23) (HSX10.out.below (blk_lt HSX10.out) hb) (by rw [celS_length]; exact Nat.le_refl _))
  have HF12 := Lib.hid ((HF10.out.keep hb).put HXZ.out (celS t))
  have HZ1 := Lib.hid (range_same t HTH.out)
  have HTH2 := Lib.hid (World.there_setCells HTH.out xb 0 (celS t))
  have HQ12 := Lib.hid (World.rangeAt_setCells_apart (range_below HQ10.out HPQ.out.2.1 hb) xb 0 (celS t) (.inl (by have := HPQ.out; omega)))
  have HXL : Hid (xb < (w11.setCells xb 0 (celS t)).heap.size) := Lib.hid (by rw [size_setCells]; exact blk_lt (HSX10.out.below (blk_lt HSX10.out) hb))
  clear hb HF10 HSX10 HP10 HQ10 HPQ
  go_upto_region 10 with (first | (refine wpList_nuln rfl (exec_putS (c := t) rfl rfl rfl ?_) ?_; (with_reducible exact HTH.out)) | fail)
  generalize w11.setCells xb 0 (celS t) = w12 at *
  have HTR := Lib.hid HF12.out.t.range
  have HSR := Lib.hid HF12.out.s.range
  clear HTH
  refine wp_region_lit ?_
  refine wpList_valn rfl (exec_mv rfl (ev rfl)) ?_
  simp only [Act.put, List.setIfInBounds_toArray, List.set_cons_succ, List.set_cons_zero]
  refine wpList_valn (v := .bool false) rfl (exec_neInt false rfl (ev rfl) evk rfl) ?_
  simp only [Act.put, List.setIfInBounds_toArray, List.set_cons_succ, List.set_cons_zero]
  refine wpList_valn (v := .bool false) rfl (exec_mv rfl (ev rfl)) ?_
  simp only [Act.put, List.setIfInBounds_toArray, List.set_cons_succ, List.set_cons_zero]
  refine wpList_val (wanted_of rfl rfl rfl rfl) (exec_mv rfl (ev rfl)) ?_
  simp only [Act.put, List.setIfInBounds_toArray, List.set_cons_succ, List.set_cons_zero]
  refine wpList_val (wanted_of rfl rfl rfl rfl) (exec_mv rfl (ev rfl)) ?_
  simp only [Act.put, List.setIfInBounds_toArray, List.set_cons_succ, List.set_cons_zero]
  refine wpList_val (v := .bool true) (wanted_of rfl rfl rfl rfl) (exec_gtr true rfl (ev rfl) (ev rfl) HGT.out) ?_
  simp only [Act.put, List.setIfInBounds_toArray, List.set_cons_succ, List.set_cons_zero]
  refine wpList_val (v := .bool true) (wanted_of rfl rfl rfl rfl) (exec_mv rfl (ev rfl)) ?_
  simp only [Act.put, List.setIfInBounds_toArray, List.set_cons_succ, List.set_cons_zero]
  refine wpList_val (wanted_of rfl rfl rfl rfl) (exec_mv rfl (ev rfl)) ?_
  simp only [Act.put, List.setIfInBounds_toArray, List.set_cons_succ, List.set_cons_zero]
  refine wpList_val (wanted_of rfl rfl rfl rfl) (exec_mv rfl (ev rfl)) ?_
  simp only [Act.put, List.setIfInBounds_toArray, List.set_cons_succ, List.set_cons_zero]
  refine wpList_val (v := .bool false) (wanted_of rfl rfl rfl rfl) (exec_neInt false rfl (ev rfl) (ev rfl) HMM.out) ?_
  simp only [Act.put, List.setIfInBounds_toArray, List.set_cons_succ, List.set_cons_zero]
  refine wpList_val (v := .bool false) (wanted_of rfl rfl rfl rfl) (exec_mv rfl (ev rfl)) ?_
  simp only [Act.put, List.setIfInBounds_toArray, List.set_cons_succ, List.set_cons_zero]
  refine wpList_val (wanted_of rfl rfl rfl rfl) (exec_loadS (c := t) rfl (ev rfl) HZ1.out) ?_
  simp only [Act.put, List.setIfInBounds_toArray, List.set_cons_succ, List.set_cons_zero]
  refine wpList_val (wanted_of rfl rfl rfl rfl) (exec_loadS (c := t) rfl (ev rfl) HTR.out) ?_
  simp only [Act.put, List.setIfInBounds_toArray, List.set_cons_succ, List.set_cons_zero]
  refine wpList_val (v := .bool false) (wanted_of rfl rfl rfl rfl) (exec_neS true rfl (ev rfl) (ev rfl) (decide_eq_true rfl)) ?_
  simp only [Act.put, List.setIfInBounds_toArray, List.set_cons_succ, List.set_cons_zero]
  refine wpList_val (v := .bool false) (wanted_of rfl rfl rfl rfl) (exec_pf rfl (ev rfl) (ev rfl)) ?_
  simp only [Act.put, List.setIfInBounds_toArray, List.set_cons_succ, List.set_cons_zero]
  refine wpList_val (v := .bool false) (wanted_of rfl rfl rfl rfl) (exec_pt rfl (ev rfl) (ev rfl)) ?_
  simp only [Act.put, List.setIfInBounds_toArray, List.set_cons_succ, List.set_cons_zero]
  refine wpList_valn (v := .bool false) rfl (exec_pf rfl (ev rfl) (ev rfl)) ?_
  simp only [Act.put, List.setIfInBounds_toArray, List.set_cons_succ, List.set_cons_zero]
  refine wpList_valn (v := .bool false) rfl (exec_mv rfl (ev rfl)) ?_
  simp only [Act.put, List.setIfInBounds_toArray, List.set_cons_succ, List.set_cons_zero]
  refine wpList_val (wanted_of rfl rfl rfl rfl) (exec_mv rfl (ev rfl)) ?_
  simp only [Act.put, List.setIfInBounds_toArray, List.set_cons_succ, List.set_cons_zero]
  refine wpList_val (wanted_of rfl rfl rfl rfl) (exec_mv rfl (ev rfl)) ?_
  simp only [Act.put, List.setIfInBounds_toArray, List.set_cons_succ, List.set_cons_zero]
  refine wpList_val (v := .bool false) (wanted_of rfl rfl rfl rfl) (exec_leq false rfl (ev rfl) (ev rfl) HLE.out) ?_
  simp only [Act.put, List.setIfInBounds_toArray, List.set_cons_succ, List.set_cons_zero]
  refine wpList_skips 8 (v := .bool false) (wanted_of rfl rfl rfl rfl) (exec_mv rfl (ev rfl)) (by kernel_rfl) ?_
  simp only [skipAct, List.take_succ_cons, List.take_zero, List.drop_succ_cons, List.drop_zero, Act.put, List.setIfInBounds_toArray, List.set_cons_succ, List.set_cons_zero]
  refine wpList_val (v := .bool false) (wanted_of rfl rfl rfl rfl) (exec_pf rfl (ev rfl) evk) ?_
  simp only [Act.put, List.setIfInBounds_toArray, List.set_cons_succ, List.set_cons_zero]
  refine wpList_valn (v := .bool false) rfl (exec_pf rfl (ev rfl) (ev rfl)) ?_
  simp only [Act.put, List.setIfInBounds_toArray, List.set_cons_succ, List.set_cons_zero]
  refine wpList_nil ?_
  clear HZ1 HTR HSR
  go_wp2_with (first | (refine wpList_valn rfl (exec_build (c := zeroB) (parts := []) rfl rfl) ?_) | (refine wpList_valn rfl (exec_load (c := q) rfl rfl ?_) ?_; (with_reducible exact HQ12.out)) | fail)
  refine (pnew_super zeroB q w12 (HT.out.below HF12.out.bel)).mono ?_
  rintro e w13 ⟨rfl, hb⟩
  rw [HV2.out.1, HV2.out.2.1, HV2.out.2.2]
  have HTH3 := Lib.hid (there_below HTH2.out HXL.out hb)
  have HF14 := Lib.hid ((HF12.out.keep hb).put HXZ.out (celS t))
  have HZ2 := Lib.hid (range_same t HTH3.out)
  clear hb HF12 HTH2 HQ12 HXL
  go_upto_region 13 with (first | (refine wpList_nuln rfl (exec_putS (c := t) rfl rfl rfl ?_) ?_; (with_reducible exact HTH3.out)) | fail)
  generalize w13.setCells xb 0 (celS t) = w14 at *
  have HTR2 := Lib.hid HF14.out.t.range
  have HBT := Lib.hid HF14.out.bel
  clear HTH3
  refine wp_region_lit ?_
  refine wpList_valn rfl (exec_mv rfl (ev rfl)) ?_
  simp only [Act.put, List.setIfInBounds_toArray, List.set_cons_succ, List.set_cons_zero]
  refine wpList_valn (v := .bool true) rfl (exec_eqInt true rfl (ev rfl) evk rfl) ?_
  simp only [Act.put, List.setIfInBounds_toArray, List.set_cons_succ, List.set_cons_zero]
  refine wpList_valn (v := .bool true) rfl (exec_mv rfl (ev rfl)) ?_
  simp only [Act.put, List.setIfInBounds_toArray, List.set_cons_succ, List.set_cons_zero]
  refine wpList_val (wanted_of rfl rfl rfl rfl) (exec_mv rfl (ev rfl)) ?_
  simp only [Act.put, List.setIfInBounds_toArray, List.set_cons_succ, List.set_cons_zero]
  refine wpList_val (wanted_of rfl rfl rfl rfl) (exec_mv rfl (ev rfl)) ?_
  simp only [Act.put, List.setIfInBounds_toArray, List.set_cons_succ, List.set_cons_zero]
  refine wpList_val (v := .bool true) (wanted_of rfl rfl rfl rfl) (exec_eqInt true rfl (ev rfl) (ev rfl) HME.out) ?_
  simp only [Act.put, List.setIfInBounds_toArray, List.set_cons_succ, List.set_cons_zero]
  refine wpList_valn (v := .bool true) rfl (exec_pt rfl (ev rfl) (ev rfl)) ?_
  simp only [Act.put, List.setIfInBounds_toArray, List.set_cons_succ, List.set_cons_zero]
  refine wpList_valn (v := .bool true) rfl (exec_mv rfl (ev rfl)) ?_
  simp only [Act.put, List.setIfInBounds_toArray, List.set_cons_succ, List.set_cons_zero]
  refine wpList_val (wanted_of rfl rfl rfl rfl) (exec_loadS (c := t) rfl (ev rfl) HZ2.out) ?_
  simp only [Act.put, List.setIfInBounds_toArray, List.set_cons_succ, List.set_cons_zero]
  refine wpList_val (wanted_of rfl rfl rfl rfl) (exec_loadS (c := t) rfl (ev rfl) HTR2.out) ?_
  simp only [Act.put, List.setIfInBounds_toArray, List.set_cons_succ, List.set_cons_zero]
  refine wpList_val (v := .bool true) (wanted_of rfl rfl rfl rfl) (exec_eqS true rfl (ev rfl) (ev rfl) (decide_eq_true rfl)) ?_
  simp only [Act.put, List.setIfInBounds_toArray, List.set_cons_succ, List.set_cons_zero]
  refine wpList_valn (v := .bool true) rfl (exec_pt rfl (ev rfl) (ev rfl)) ?_
  simp only [Act.put, List.setIfInBounds_toArray, List.set_cons_succ, List.set_cons_zero]
  refine wpList_valn (v := .bool true) rfl (exec_mv rfl (ev rfl)) ?_
  simp only [Act.put, List.setIfInBounds_toArray, List.set_cons_succ, List.set_cons_zero]
  refine wpList_call (wanted_of rfl rfl rfl rfl) (exec_cl Tryd.call14 rfl evn) ?_
  refine (super_lives _ (HT.out.below HBT.out)).mono ?_
  rintro e wL ⟨rfl, hb⟩
  have HBF := Lib.hid (HBT.out.trans (hb.mono HBT.out.size))
  clear hb
  refine ⟨_, rfl, ?_⟩
  simp only [Act.put, List.setIfInBounds_toArray, List.set_cons_succ, List.set_cons_zero]
  refine wpList_valn (v := .bool true) rfl (exec_pt rfl (ev rfl) (ev rfl)) ?_
  simp only [Act.put, List.setIfInBounds_toArray, List.set_cons_succ, List.set_cons_zero]
  refine wpList_valn (v := .bool true) rfl (exec_as rfl (ev rfl)) ?_
  simp only [Act.put, List.setIfInBounds_toArray, List.set_cons_succ, List.set_cons_zero]
  refine wpList_nil ?_
  go_wp2_with fail
  go_ret
  exact ⟨rfl, HBF.out⟩
set_option maxHeartbeats 4000000 in
theorem superNewest_ge (a b : Blk) (n m : Nat) (s t : Sup) (w : World) (T : Tab w) (hn : n < 18446744073709551616) (hm : m < 18446744073709551616) (hs : s.id < 18446744073709551616) (ht : t.id < 18446744073709551616) (hgx : sputE n s = 0) (hfx : sputE m t = 0) (hlt : ¬ n < m) :
    Calls Tryd.prog 6 #[blk a, blk b, .int .u64 n, .int .u64 m, sup s, sup t] w fun e w' => e = .returned (.bool true) ∧ Below w.heap.size w w' := by
  have HT := Lib.hid T
  have HN := Lib.hid hn
  have HM := Lib.hid hm
  have HIS := Lib.hid hs
  have HIT := Lib.hid ht
  have HF1 := Lib.hid (four_new w a b s t)
  clear T hn hm hs ht
  obtain ⟨N, hN⟩ : ∃ N, nwN a b = N := ⟨_, rfl⟩
  obtain ⟨X, hX⟩ : ∃ X, nwS a b = X := ⟨_, rfl⟩
  obtain ⟨E, hE⟩ : ∃ E, nwE a b = E := ⟨_, rfl⟩
  have HGN := Lib.hid hN
  have HGX := Lib.hid hX
  have HGE := Lib.hid hE
  have HNN : Hid (((N : Int) != (N : Int)) = false) := Lib.hid (by simp)
  have HEE : Hid (((E : Int) != (E : Int)) = false) := Lib.hid (by simp)
  have HSS : Hid (((sloT a b : Int) != (sloT a b : Int)) = false) := Lib.hid (by simp)
  clear hN hX hE
  obtain ⟨p, hp⟩ : ∃ p, sputB n s = p := ⟨_, rfl⟩
  obtain ⟨q, hq⟩ : ∃ q, sputB m t = q := ⟨_, rfl⟩
  have HPB := Lib.hid hp
  have HQB := Lib.hid hq
  have HPE := Lib.hid hgx
  have HQE := Lib.hid hfx
  obtain ⟨u1, u2, u3⟩ := sput_get (n := n) (x := s) HIS.out hgx
  obtain ⟨v1, v2, v3⟩ := sput_get (n := m) (x := t) HIT.out hfx
  have hn1 := (of_evB (of_sputE hgx).1).1
  have hm1 := (of_evB (of_sputE hfx).1).1
  rw [hp] at u1 u2 u3
  rw [hq] at v1 v2 v3
  have HV : Hid (nwN p q = n ∧ nwS p q = s ∧ nwE p q = 0) := Lib.hid (by
    unfold nwN nwS nwE
    rw [u2, v2, u3, v3]
    refine ⟨if_neg hlt, if_neg hlt, if_neg (by omega)⟩)
  have z5 := gs_zero
  have zn : gsN zeroB = 0 := gsN_no (by rw [z5]; omega)
  have HV2 : Hid (nwN zeroB q = m ∧ nwS zeroB q = t ∧ nwE zeroB q = 0) := Lib.hid (by
    unfold nwN nwS nwE
    rw [zn, v2, v3]
    exact ⟨if_pos (by omega), if_pos (by omega), if_neg (by omega)⟩)
  have HGT : Hid (decide ((n : Int) < (m : Int)) = false) := Lib.hid (by simp; omega)
  have HLE : Hid (decide ((m : Int) ≤ (n : Int)) = true) := Lib.hid (by simp; omega)
  have HMM : Hid (((m : Int) != (m : Int)) = false) := Lib.hid (by simp)
  have HNN2 : Hid (((n : Int) != (n : Int)) = false) := Lib.hid (by simp)
  have HME : Hid (((m : Int) == (m : Int)) = true) := Lib.hid (by simp)
  clear hgx hfx u1 u2 u3 v1 v2 v3 hn1 hm1 hlt z5 zn
  clear hp hq
  go_enter Tryd.func6, Tryd.ntmps6
  go_upto_region 1 with (first | (refine wpList_valn rfl (exec_box rfl rfl) ?_) | (refine wpList_valn rfl (exec_boxS rfl rfl) ?_) | fail)
  try simp only [World.size_alloc]
  generalize ((((w.alloc (.cells (cel a).toArray 31)).alloc (.cells (cel b).toArray 31)).alloc (.cells (celS s).toArray 29)).alloc (.cells (celS t).toArray 29)) = w1 at *
  have HA1 := Lib.hid HF1.out.a
  have HB1 := Lib.hid HF1.out.b
  go_wp2_with (first | (refine wpList_valn rfl (exec_load (c := a) rfl rfl ?_) ?_; (with_reducible exact HA1.out)) | (refine wpList_valn rfl (exec_load (c := b) rfl rfl ?_) ?_; (with_reducible exact HB1.out)) | fail)
  refine (pnew_super a b w1 (HT.out.below HF1.out.bel)).mono ?_
  rintro e w2 ⟨rfl, hb⟩
  rw [HGN.out, HGX.out, HGE.out]
  have hb2 := hb.alloc hb.size (.cells (celS X).toArray 29)
  have HF3 := Lib.hid (HF1.out.keep hb2)
  have HSX3 := Lib.hid (SupAt.new w2 X)
  have HXZ : Hid (w.heap.size + 1 + 1 + 1 < w2.heap.size) := Lib.hid (Nat.lt_of_lt_of_le HF1.out.zt hb.size)
  clear hb hb2 HF1 HA1 HB1
  go_upto_region 2 with (first | (refine wpList_valn rfl (exec_allocS rfl) ?_) | (refine wpList_nuln rfl (exec_fillS (c := X) rfl rfl rfl) ?_) | fail)
  generalize w2.alloc (.cells (celS X).toArray 29) = w3 at *
  generalize w2.heap.size = xb at *
  have HA1 := Lib.hid HF3.out.a
  have HB1 := Lib.hid HF3.out.b
  go_wp2_with (first | (refine wpList_valn rfl (exec_load (c := a) rfl rfl ?_) ?_; (with_reducible exact HA1.out)) | (refine wpList_valn rfl (exec_load (c := b) rfl rfl ?_) ?_; (with_reducible exact HB1.out)) | fail)
  refine (rnew_super a b w3).mono ?_
  rintro e w4 ⟨rfl, hb⟩
  rw [HGN.out, HGX.out, HGE.out]
  have hb2 := hb.alloc hb.size (.cells (celS X).toArray 29)
  have HF := Lib.hid (HF3.out.keep hb2)
  have HSX := Lib.hid (HSX3.out.below (blk_lt HSX3.out) hb2)
  have HSY := Lib.hid (SupAt.new w4 X)
  have HTT := Lib.hid (HT.out.below HF.out.bel)
  clear hb hb2 HF3 HSX3 HA1 HB1
  go_upto_region 3 with (first | (refine wpList_valn rfl (exec_allocS rfl) ?_) | (refine wpList_nuln rfl (exec_fillS (c := X) rfl rfl rfl) ?_) | fail)
  generalize w4.alloc (.cells (celS X).toArray 29) = w5 at *
  generalize w4.heap.size = yb at *
  refine wp_region_above (B := w5.heap.size) (by kernel_rfl) ?_
  refine qv_val rfl (fun w' hw => exec_mv rfl (ev rfl)) ?_
  simp only [Act.put, List.setIfInBounds_toArray, List.set_cons_succ, List.set_cons_zero]
  refine qv_val rfl (fun w' hw => exec_mv rfl (ev rfl)) ?_
  simp only [Act.put, List.setIfInBounds_toArray, List.set_cons_succ, List.set_cons_zero]
  refine qv_val (v := .bool false) rfl (fun w' hw => exec_neInt false rfl (ev rfl) (ev rfl) HNN.out) ?_
  simp only [Act.put, List.setIfInBounds_toArray, List.set_cons_succ, List.set_cons_zero]
  refine qv_val (v := .bool false) rfl (fun w' hw => exec_mv rfl (ev rfl)) ?_
  simp only [Act.put, List.setIfInBounds_toArray, List.set_cons_succ, List.set_cons_zero]
  refine qv_val (wanted_of rfl rfl rfl rfl) (fun w' hw => exec_loadS (c := X) rfl (ev rfl) ((HSX.out.below (blk_lt HSX.out) hw).range)) ?_
  simp only [Act.put, List.setIfInBounds_toArray, List.set_cons_succ, List.set_cons_zero]
  refine qv_val (wanted_of rfl rfl rfl rfl) (fun w' hw => exec_loadS (c := X) rfl (ev rfl) ((HSY.out.below (blk_lt HSY.out) hw).range)) ?_
  simp only [Act.put, List.setIfInBounds_toArray, List.set_cons_succ, List.set_cons_zero]
  refine qv_val (v := .bool false) (wanted_of rfl rfl rfl rfl) (fun w' hw => exec_neS true rfl (ev rfl) (ev rfl) (decide_eq_true rfl)) ?_
  simp only [Act.put, List.setIfInBounds_toArray, List.set_cons_succ, List.set_cons_zero]
  refine qv_val (v := .bool false) rfl (fun w' hw => exec_pf rfl (ev rfl) (ev rfl)) ?_
  simp only [Act.put, List.setIfInBounds_toArray, List.set_cons_succ, List.set_cons_zero]
  refine qv_val (v := .bool false) rfl (fun w' hw => exec_mv rfl (ev rfl)) ?_
  simp only [Act.put, List.setIfInBounds_toArray, List.set_cons_succ, List.set_cons_zero]
  refine qv_val (wanted_of rfl rfl rfl rfl) (fun w' hw => exec_mv rfl (ev rfl)) ?_
  simp only [Act.put, List.setIfInBounds_toArray, List.set_cons_succ, List.set_cons_zero]
  refine qv_val (wanted_of rfl rfl rfl rfl) (fun w' hw => exec_mv rfl (ev rfl)) ?_
  simp only [Act.put, List.setIfInBounds_toArray, List.set_cons_succ, List.set_cons_zero]
  refine qv_val (v := .bool false) (wanted_of rfl rfl rfl rfl) (fun w' hw => exec_neInt false rfl (ev rfl) (ev rfl) HEE.out) ?_
  simp only [Act.put, List.setIfInBounds_toArray, List.set_cons_succ, List.set_cons_zero]
  refine qv_val (v := .bool false) rfl (fun w' hw => exec_pf rfl (ev rfl) (ev rfl)) ?_
  simp only [Act.put, List.setIfInBounds_toArray, List.set_cons_succ, List.set_cons_zero]
  refine qv_val (v := .bool false) rfl (fun w' hw => exec_mv rfl (ev rfl)) ?_
  simp only [Act.put, List.setIfInBounds_toArray, List.set_cons_succ, List.set_cons_zero]
  refine qv_val (wanted_of rfl rfl rfl rfl) (fun w' hw => exec_load (c := a) rfl (ev rfl) (range_below HF.out.a HF.out.za hw)) ?_
  simp only [Act.put, List.setIfInBounds_toArray, List.set_cons_succ, List.set_cons_zero]
  refine qv_val (wanted_of rfl rfl rfl rfl) (fun w' hw => exec_load (c := b) rfl (ev rfl) (range_below HF.out.b HF.out.zb hw)) ?_
  simp only [Act.put, List.setIfInBounds_toArray, List.set_cons_succ, List.set_cons_zero]
  refine qv_call (wanted_of rfl rfl rfl rfl) (fun _ => exec_cl Tryd.call20 rfl (evc (ev rfl) (evc (ev rfl) evn))) (above_of (Nat.le_refl _) fun w' hw => pslot a b w' (HTT.out.below hw)) ?_
  simp only [Act.put, List.setIfInBounds_toArray, List.set_cons_succ, List.set_cons_zero]
  refine qv_val (wanted_of rfl rfl rfl rfl) (fun w' hw => exec_load (c := a) rfl (ev rfl) (range_below HF.out.a HF.out.za hw)) ?_
  simp only [Act.put, List.setIfInBounds_toArray, List.set_cons_succ, List.set_cons_zero]
  refine qv_val (wanted_of rfl rfl rfl rfl) (fun w' hw => exec_load (c := b) rfl (ev rfl) (range_below HF.out.b HF.out.zb hw)) ?_
  simp only [Act.put, List.setIfInBounds_toArray, List.set_cons_succ, List.set_cons_zero]
  refine qv_call (wanted_of rfl rfl rfl rfl) (fun _ => exec_cl Tryd.call21 rfl (evc (ev rfl) (evc (ev rfl) evn))) (above_of (Nat.le_refl _) fun w' hw => rslot a b w') ?_
  simp only [Act.put, List.setIfInBounds_toArray, List.set_cons_succ, List.set_cons_zero]
  refine qv_val (v := .bool false) (wanted_of rfl rfl rfl rfl) (fun w' hw => exec_neInt false rfl (ev rfl) (ev rfl) HSS.out) ?_
  simp only [Act.put, List.setIfInBounds_toArray, List.set_cons_succ, List.set_cons_zero]
  refine qv_val (v := .bool false) rfl (fun w' hw => exec_pf rfl (ev rfl) (ev rfl)) ?_
  simp only [Act.put, List.setIfInBounds_toArray, List.set_cons_succ, List.set_cons_zero]
  refine wpQuiet_nil ?_
  intro w6 hw
  have HF6 := Lib.hid (HF.out.keep hw)
  have HSX6 := Lib.hid (HSX.out.below (blk_lt HSX.out) hw)
  have HSR1 := Lib.hid HF6.out.s.range
  clear hw HF HSX HSY HTT HSS
  go_wp2_with (first | (refine wpList_valn rfl (exec_loadS (c := s) rfl rfl ?_) ?_; (with_reducible exact HSR1.out)) | fail)
  refine (psput n s w6 (HT.out.below HF6.out.bel) HN.out HIS.out).mono ?_
  rintro e w7 ⟨rfl, hb⟩
  rw [HPB.out, HPE.out]
  have hb2 := hb.alloc hb.size (.cells (cel p).toArray 31)
  have HF8 := Lib.hid (HF6.out.keep hb2)
  have HSX8 := Lib.hid (HSX6.out.below (blk_lt HSX6.out) hb2)
  have HP8 := Lib.hid (range_new w7 (cel p) 31)
  have HPZ : Hid (w7.heap.size < (w7.alloc (.cells (cel p).toArray 31)).heap.size ∧ xb < w7.heap.size) := Lib.hid (by have := blk_lt HSX6.out; have := hb.size; simp only [World.size_alloc]; omega)
  have HTR1 := Lib.hid HF8.out.t.range
  clear hb hb2 HF6 HSX6 HSR1
  go_upto_region 6 with (first | (refine wpList_valn rfl (exec_alloc rfl) ?_) | (refine wpList_nuln rfl (exec_fillN rfl rfl rfl) ?_) | fail)
  generalize w7.alloc (.cells (cel p).toArray 31) = w8 at *
  generalize w7.heap.size = pb at *
  go_wp2_with (first | (refine wpList_valn rfl (exec_loadS (c := t) rfl rfl ?_) ?_; (with_reducible exact HTR1.out)) | fail)
  refine (psput m t w8 (HT.out.below HF8.out.bel) HM.out HIT.out).mono ?_
  rintro e w9 ⟨rfl, hb⟩
  rw [HQB.out, HQE.out]
  have hb2 := hb.alloc hb.size (.cells (cel q).toArray 31)
  have HF10 := Lib.hid (HF8.out.keep hb2)
  have HSX10 := Lib.hid (HSX8.out.below (blk_lt HSX8.out) hb2)
  have HP10 := Lib.hid (range_below HP8.out HPZ.out.1 hb2)
  have HQ10 := Lib.hid (range_new w9 (cel q) 31)
  have HPQ : Hid (pb < (w9.alloc (.cells (cel q).toArray 31)).heap.size ∧ w9.heap.size < (w9.alloc (.cells (cel q).toArray 31)).heap.size ∧ xb < pb ∧ xb < w9.heap.size) := Lib.hid (by have := HPZ.out; have := hb.size; simp only [World.size_alloc]; omega)
  clear hb hb2 HF8 HSX8 HP8 HPZ HTR1
  go_upto_region 7 with (first | (refine wpList_valn rfl (exec_alloc rfl) ?_) | (refine wpList_nuln rfl (exec_fillN rfl rfl rfl) ?_) | fail)
  generalize w9.alloc (.cells (cel q).toArray 31) = w10 at *
  generalize w9.heap.size = qb at *
  go_wp2_with (first | (refine wpList_valn rfl (exec_load (c := p) rfl rfl ?_) ?_; (with_reducible exact HP10.out)) | (refine wpList_valn rfl (exec_load (c := q) rfl rfl ?_) ?_; (with_reducible exact HQ10.out)) | fail)
  refine (pnew_super p q w10 (HT.out.below HF10.out.bel)).mono ?_
  rintro e w11 ⟨rfl, hb⟩
  rw [HV.out.1, HV.out.2.1, HV.out.2.2]
  have HTH := Lib.hid (there_at (o := 0) (n := 23) (HSX10.out.below (blk_lt HSX10.out) hb) (by rw [celS_length]; exact Nat.le_refl _))
  have HF12 := Lib.hid ((HF10.out.keep hb).put HXZ.out (celS s))
  have HZ1 := Lib.hid (range_same s HTH.out)
  have HTH2 := Lib.hid (World.there_setCells HTH.out xb 0 (celS s))
  have HQ12 := Lib.hid (World.rangeAt_setCells_apart (range_below HQ10.out HPQ.out.2.1 hb) xb 0 (celS s) (.inl (by have := HPQ.out; omega)))
  have HXL : Hid (xb < (w11.setCells xb 0 (celS s)).heap.size) := Lib.hid (by rw [size_setCells]; exact blk_lt (HSX10.out.below (blk_lt HSX10.out) hb))
  clear hb HF10 HSX10 HP10 HQ10 HPQ
  go_upto_region 10 with (first | (refine wpList_nuln rfl (exec_putS (c := s) rfl rfl rfl ?_) ?_; (with_reducible exact HTH.out)) | fail)
  generalize w11.setCells xb 0 (celS s) = w12 at *
  have HTR := Lib.hid HF12.out.t.range
  have HSR := Lib.hid HF12.out.s.range
  clear HTH
  refine wp_region_lit ?_
  refine wpList_valn rfl (exec_mv rfl (ev rfl)) ?_
  simp only [Act.put, List.setIfInBounds_toArray, List.set_cons_succ, List.set_cons_zero]
  refine wpList_valn (v := .bool false) rfl (exec_neInt false rfl (ev rfl) evk rfl) ?_
  simp only [Act.put, List.setIfInBounds_toArray, List.set_cons_succ, List.set_cons_zero]
  refine wpList_valn (v := .bool false) rfl (exec_mv rfl (ev rfl)) ?_
  simp only [Act.put, List.setIfInBounds_toArray, List.set_cons_succ, List.set_cons_zero]
  refine wpList_val (wanted_of rfl rfl rfl rfl) (exec_mv rfl (ev rfl)) ?_
  simp only [Act.put, List.setIfInBounds_toArray, List.set_cons_succ, List.set_cons_zero]
  refine wpList_val (wanted_of rfl rfl rfl rfl) (exec_mv rfl (ev rfl)) ?_
  simp only [Act.put, List.setIfInBounds_toArray, List.set_cons_succ, List.set_cons_zero]
  refine wpList_val (v := .bool false) (wanted_of rfl rfl rfl rfl) (exec_gtr false rfl (ev rfl) (ev rfl) HGT.out) ?_
  simp only [Act.put, List.setIfInBounds_toArray, List.set_cons_succ, List.set_cons_zero]
  refine wpList_skips 8 (v := .bool false) (wanted_of rfl rfl rfl rfl) (exec_mv rfl (ev rfl)) (by kernel_rfl) ?_
  simp only [skipAct, List.take_succ_cons, List.take_zero, List.drop_succ_cons, List.drop_zero, Act.put, List.setIfInBounds_toArray, List.set_cons_succ, List.set_cons_zero]
  refine wpList_val (v := .bool false) (wanted_of rfl rfl rfl rfl) (exec_pf rfl (ev rfl) evk) ?_
  simp only [Act.put, List.setIfInBounds_toArray, List.set_cons_succ, List.set_cons_zero]
  refine wpList_valn (v := .bool false) rfl (exec_pf rfl (ev rfl) (ev rfl)) ?_
  simp only [Act.put, List.setIfInBounds_toArray, List.set_cons_succ, List.set_cons_zero]
  refine wpList_valn (v := .bool false) rfl (exec_mv rfl (ev rfl)) ?_
  simp only [Act.put, List.setIfInBounds_toArray, List.set_cons_succ, List.set_cons_zero]
  refine wpList_val (wanted_of rfl rfl rfl rfl) (exec_mv rfl (ev rfl)) ?_
  simp only [Act.put, List.setIfInBounds_toArray, List.set_cons_succ, List.set_cons_zero]
  refine wpList_val (wanted_of rfl rfl rfl rfl) (exec_mv rfl (ev rfl)) ?_
  simp only [Act.put, List.setIfInBounds_toArray, List.set_cons_succ, List.set_cons_zero]
  refine wpList_val (v := .bool true) (wanted_of rfl rfl rfl rfl) (exec_leq true rfl (ev rfl) (ev rfl) HLE.out) ?_
  simp only [Act.put, List.setIfInBounds_toArray, List.set_cons_succ, List.set_cons_zero]
  refine wpList_val (v := .bool true) (wanted_of rfl rfl rfl rfl) (exec_mv rfl (ev rfl)) ?_
  simp only [Act.put, List.setIfInBounds_toArray, List.set_cons_succ, List.set_cons_zero]
  refine wpList_val (wanted_of rfl rfl rfl rfl) (exec_mv rfl (ev rfl)) ?_
  simp only [Act.put, List.setIfInBounds_toArray, List.set_cons_succ, List.set_cons_zero]
  refine wpList_val (wanted_of rfl rfl rfl rfl) (exec_mv rfl (ev rfl)) ?_
  simp only [Act.put, List.setIfInBounds_toArray, List.set_cons_succ, List.set_cons_zero]
  refine wpList_val (v := .bool false) (wanted_of rfl rfl rfl rfl) (exec_neInt false rfl (ev rfl) (ev rfl) HNN2.out) ?_
  simp only [Act.put, List.setIfInBounds_toArray, List.set_cons_succ, List.set_cons_zero]
  refine wpList_val (v := .bool false) (wanted_of rfl rfl rfl rfl) (exec_mv rfl (ev rfl)) ?_
  simp only [Act.put, List.setIfInBounds_toArray, List.set_cons_succ, List.set_cons_zero]
  refine wpList_val (wanted_of rfl rfl rfl rfl) (exec_loadS (c := s) rfl (ev rfl) HZ1.out) ?_
  simp only [Act.put, List.setIfInBounds_toArray, List.set_cons_succ, List.set_cons_zero]
  refine wpList_val (wanted_of rfl rfl rfl rfl) (exec_loadS (c := s) rfl (ev rfl) HSR.out) ?_
  simp only [Act.put, List.setIfInBounds_toArray, List.set_cons_succ, List.set_cons_zero]
  refine wpList_val (v := .bool false) (wanted_of rfl rfl rfl rfl) (exec_neS true rfl (ev rfl) (ev rfl) (decide_eq_true rfl)) ?_
  simp only [Act.put, List.setIfInBounds_toArray, List.set_cons_succ, List.set_cons_zero]
  refine wpList_val (v := .bool false) (wanted_of rfl rfl rfl rfl) (exec_pf rfl (ev rfl) (ev rfl)) ?_
  simp only [Act.put, List.setIfInBounds_toArray, List.set_cons_succ, List.set_cons_zero]
  refine wpList_val (v := .bool false) (wanted_of rfl rfl rfl rfl) (exec_pt rfl (ev rfl) (ev rfl)) ?_
  simp only [Act.put, List.setIfInBounds_toArray, List.set_cons_succ, List.set_cons_zero]
  refine wpList_valn (v := .bool false) rfl (exec_pf rfl (ev rfl) (ev rfl)) ?_
  simp only [Act.put, List.setIfInBounds_toArray, List.set_cons_succ, List.set_cons_zero]
  refine wpList_nil ?_
  clear HZ1 HTR HSR
  go_wp2_with (first | (refine wpList_valn rfl (exec_build (c := zeroB) (parts := []) rfl rfl) ?_) | (refine wpList_valn rfl (exec_load (c := q) rfl rfl ?_) ?_; (with_reducible exact HQ12.out)) | fail)
  refine (pnew_super zeroB q w12 (HT.out.below HF12.out.bel)).mono ?_
  rintro e w13 ⟨rfl, hb⟩
  rw [HV2.out.1, HV2.out.2.1, HV2.out.2.2]
  have HTH3 := Lib.hid (there_below HTH2.out HXL.out hb)
  have HF14 := Lib.hid ((HF12.out.keep hb).put HXZ.out (celS t))
  have HZ2 := Lib.hid (range_same t HTH3.out)
  clear hb HF12 HTH2 HQ12 HXL
  go_upto_region 13 with (first | (refine wpList_nuln rfl (exec_putS (c := t) rfl rfl rfl ?_) ?_; (with_reducible exact HTH3.out)) | fail)
  generalize w13.setCells xb 0 (celS t) = w14 at *
  have HTR2 := Lib.hid HF14.out.t.range
  have HBT := Lib.hid HF14.out.bel
  clear HTH3
  refine wp_region_lit ?_
  refine wpList_valn rfl (exec_mv rfl (ev rfl)) ?_
  simp only [Act.put, List.setIfInBounds_toArray, List.set_cons_succ, List.set_cons_zero]
  refine wpList_valn (v := .bool true) rfl (exec_eqInt true rfl (ev rfl) evk rfl) ?_
  simp only [Act.put, List.setIfInBounds_toArray, List.set_cons_succ, List.set_cons_zero]
  refine wpList_valn (v := .bool true) rfl (exec_mv rfl (ev rfl)) ?_
  simp only [Act.put, List.setIfInBounds_toArray, List.set_cons_succ, List.set_cons_zero]
  refine wpList_val (wanted_of rfl rfl rfl rfl) (exec_mv rfl (ev rfl)) ?_
  simp only [Act.put, List.setIfInBounds_toArray, List.set_cons_succ, List.set_cons_zero]
  refine wpList_val (wanted_of rfl rfl rfl rfl) (exec_mv rfl (ev rfl)) ?_
  simp only [Act.put, List.setIfInBounds_toArray, List.set_cons_succ, List.set_cons_zero]
  refine wpList_val (v := .bool true) (wanted_of rfl rfl rfl rfl) (exec_eqInt true rfl (ev rfl) (ev rfl) HME.out) ?_
  simp only [Act.put, List.setIfInBounds_toArray, List.set_cons_succ, List.set_cons_zero]
  refine wpList_valn (v := .bool true) rfl (exec_pt rfl (ev rfl) (ev rfl)) ?_
  simp only [Act.put, List.setIfInBounds_toArray, List.set_cons_succ, List.set_cons_zero]
  refine wpList_valn (v := .bool true) rfl (exec_mv rfl (ev rfl)) ?_
  simp only [Act.put, List.setIfInBounds_toArray, List.set_cons_succ, List.set_cons_zero]
  refine wpList_val (wanted_of rfl rfl rfl rfl) (exec_loadS (c := t) rfl (ev rfl) HZ2.out) ?_
  simp only [Act.put, List.setIfInBounds_toArray, List.set_cons_succ, List.set_cons_zero]
  refine wpList_val (wanted_of rfl rfl rfl rfl) (exec_loadS (c := t) rfl (ev rfl) HTR2.out) ?_
  simp only [Act.put, List.setIfInBounds_toArray, List.set_cons_succ, List.set_cons_zero]
  refine wpList_val (v := .bool true) (wanted_of rfl rfl rfl rfl) (exec_eqS true rfl (ev rfl) (ev rfl) (decide_eq_true rfl)) ?_
  simp only [Act.put, List.setIfInBounds_toArray, List.set_cons_succ, List.set_cons_zero]
  refine wpList_valn (v := .bool true) rfl (exec_pt rfl (ev rfl) (ev rfl)) ?_
  simp only [Act.put, List.setIfInBounds_toArray, List.set_cons_succ, List.set_cons_zero]
  refine wpList_valn (v := .bool true) rfl (exec_mv rfl (ev rfl)) ?_
  simp only [Act.put, List.setIfInBounds_toArray, List.set_cons_succ, List.set_cons_zero]
  refine wpList_call (wanted_of rfl rfl rfl rfl) (exec_cl Tryd.call14 rfl evn) ?_
  refine (super_lives _ (HT.out.below HBT.out)).mono ?_
  rintro e wL ⟨rfl, hb⟩
  have HBF := Lib.hid (HBT.out.trans (hb.mono HBT.out.size))
  clear hb
  refine ⟨_, rfl, ?_⟩
  simp only [Act.put, List.setIfInBounds_toArray, List.set_cons_succ, List.set_cons_zero]
  refine wpList_valn (v := .bool true) rfl (exec_pt rfl (ev rfl) (ev rfl)) ?_
  simp only [Act.put, List.setIfInBounds_toArray, List.set_cons_succ, List.set_cons_zero]
  refine wpList_valn (v := .bool true) rfl (exec_as rfl (ev rfl)) ?_
  simp only [Act.put, List.setIfInBounds_toArray, List.set_cons_succ, List.set_cons_zero]
  refine wpList_nil ?_
  go_wp2_with fail
  go_ret
  exact ⟨rfl, HBF.out⟩
theorem superNewest_walk (a b : Blk) (n m : Nat) (s t : Sup) (w : World) (T : Tab w) (hn : n < 18446744073709551616) (hm : m < 18446744073709551616) (hs : s.id < 18446744073709551616) (ht : t.id < 18446744073709551616) :
    Calls Tryd.prog 6 #[blk a, blk b, .int .u64 n, .int .u64 m, sup s, sup t] w fun e w' => e = .returned (.bool true) ∧ Below w.heap.size w w' := by
  by_cases hg : sputE n s = 0
  · by_cases hf : sputE m t = 0
    · by_cases hlt : n < m
      · exact superNewest_lt a b n m s t w T hn hm hs ht hg hf hlt
      · exact superNewest_ge a b n m s t w T hn hm hs ht hg hf hlt
    · exact superNewest_h a b n m s t w T hn hm hs ht hg hf
  · exact superNewest_g a b n m s t w T hn hm hs ht hg
end Go.Proofs.YtiilclncedipiaaDoor
