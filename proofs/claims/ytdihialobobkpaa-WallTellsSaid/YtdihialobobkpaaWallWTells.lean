/-
  The walk of WallTells.
-/
import Derived.Test.YtdihialobobkpaaBlkQ
import Derived.Test.YtdihialobobkpaaWallLives
import Derived.Test.YtdihialobobkpaaWallDelta
import Derived.Test.YtdihialobobkpaaWallRTorn
namespace Go.Proofs.Ytdihialobobkpaa
open Go.RowKit
set_option linter.unusedVariables false
set_option linter.unusedSimpArgs false

/-- Three blocks laid one behind the other. -/
def three_ (w : World) (a b c : Blk) : World := ((w.alloc (.cells (cel a).toArray 23)).alloc (.cells (cel b).toArray 23)).alloc (.cells (cel c).toArray 23)
theorem laid3 (w : World) (a b c : Blk) : (three_ w a b c).rangeAt w.heap.size 0 (cel a) ∧ (three_ w a b c).rangeAt (w.heap.size + 1) 0 (cel b) ∧ (three_ w a b c).rangeAt (w.heap.size + 1 + 1) 0 (cel c) ∧ Below w.heap.size w (three_ w a b c) ∧ (three_ w a b c).heap.size = w.heap.size + 1 + 1 + 1 := by
  unfold three_
  have e1 := World.size_alloc (w := w) (o := Obj.cells (cel a).toArray 23)
  have e2 := World.size_alloc (w := (w.alloc (.cells (cel a).toArray 23))) (o := Obj.cells (cel b).toArray 23)
  have e3 := World.size_alloc (w := (w.alloc (.cells (cel a).toArray 23)).alloc (.cells (cel b).toArray 23)) (o := Obj.cells (cel c).toArray 23)
  refine ⟨World.rangeAt_alloc (World.rangeAt_alloc (range_new w (cel a) _) _) _, ?_, ?_, ?_, by rw [e3, e2, e1]⟩
  · rw [← e1]; exact World.rangeAt_alloc (range_new _ (cel b) _) _
  · rw [← e1, ← e2]; exact range_new _ (cel c) _
  · exact (((Below.refl _ w).alloc (Nat.le_refl _) _).alloc (by omega) _).alloc (by omega) _

set_option maxHeartbeats 3200000 in
theorem wallTells_walk (a b d : Blk) (A : Option Addr) (n c : Nat) (l : List Blk) (k : Int) (w : World) (hl : RdB w w.heap.size A n l) (hn : n ≤ 2199023255552) :
    Calls Try.prog 3 #[blk a, blk b, blk d, .slice A n c, .int .i64 k] w fun e w' => e = .returned (.bool true) ∧ Below w.heap.size w w' := by
  obtain ⟨hA, hB, hD, hb, hsize⟩ := laid3 w a b d
  obtain ⟨w3, hw3⟩ : ∃ w3, three_ w a b d = w3 := ⟨_, rfl⟩
  rw [hw3] at hA hB hD hb hsize
  have HA := Lib.hid hA
  have HB := Lib.hid hB
  have HD := Lib.hid hD
  have HBB := Lib.hid hb
  have HS := Lib.hid hsize
  have hs := hw3
  unfold three_ at hs
  clear hw3 hA hB hD hsize hb
  obtain ⟨mb, me, hme⟩ : ∃ mb me, misV l k = .tuple #[blk mb, .int .i64 me] := ⟨_, _, rfl⟩
  have HME := Lib.hid hme
  clear hme
  go_enter Try.func3, Try.ntmps3
  go_wp2_with (first | (refine wpList_val rfl (exec_box rfl rfl) ?_) | fail)
  clear hs
  have hl3 := hl.step HBB.out
  clear hl
  generalize hs0 : w.heap.size = s at *
  refine (wideB_any A n c _ _ l _ (Lib.hid rfl) hl3 (Nat.le_refl _) hn).mono ?_
  rintro e w4 ⟨g, rfl, hg, hwd, hb4⟩
  have HA4 := Lib.hid (range_below HA.out (by have := HS.out; omega) hb4)
  have HB4 := Lib.hid (range_below HB.out (by have := HS.out; omega) hb4)
  have HD4 := Lib.hid (range_below HD.out (by have := HS.out; omega) hb4)
  have hlen := hl3.1
  have hl4 := hl3.step hb4
  have hrd := hwd.rd
  rw [hlen] at hrd
  have HBB4 := Lib.hid (HBB.out.trans (hb4.mono (by have := HS.out; omega)))
  have HS4 := Lib.hid (show s + 1 + 1 + 1 ≤ w4.heap.size by have := HS.out; have := hb4.size; omega)
  clear hl3 hb4 HA HB HD HBB HS hg hlen
  go_wp2_with fail
  refine (miss_any _ n (n + 2) _ k l _ hrd (Nat.le_refl _) (by omega) (by unfold maxLen; omega)).mono ?_
  rintro e w5 ⟨rfl, hb5⟩
  rw [HME.out]
  have HA5 := Lib.hid (World.rangeAt_alloc (range_below HA4.out (by have := HS4.out; omega) hb5) (.cells (cel mb).toArray 23))
  have HB5 := Lib.hid (World.rangeAt_alloc (range_below HB4.out (by have := HS4.out; omega) hb5) (.cells (cel mb).toArray 23))
  have HD5 := Lib.hid (World.rangeAt_alloc (range_below HD4.out (by have := HS4.out; omega) hb5) (.cells (cel mb).toArray 23))
  have HM5 := Lib.hid (range_new w5 (cel mb) 23)
  have hst5 : Below w4.heap.size w4 (w5.alloc (.cells (cel mb).toArray 23)) := hb5.alloc hb5.size _
  have hl5 := hl4.step hst5
  have hwd5 := hwd.below hst5
  have HBB5 := Lib.hid (HBB4.out.trans (hst5.mono (by have := HS4.out; omega)))
  have HS5 := Lib.hid (show s + 1 + 1 + 1 ≤ w5.heap.size ∧ (w5.alloc (.cells (cel mb).toArray 23)).heap.size = w5.heap.size + 1 from ⟨by have := HS4.out; have := hb5.size; omega, World.size_alloc ..⟩)
  clear hl4 hwd hrd hst5 hb5 HA4 HB4 HD4 HBB4 HS4
  go_wp2_with (first | (refine wpList_val rfl (exec_alloc rfl) ?_) | (refine wpList_nul rfl (exec_fill rfl rfl rfl) ?_) | fail)
  generalize w5.alloc (.cells (cel mb).toArray 23) = w6 at *
  generalize w5.heap.size = t5 at *
  refine (refMiss_any _ n c _ k l _ hl5 (Nat.le_refl _) (by unfold maxLen; omega)).mono ?_
  rintro e w7 ⟨rfl, hb7⟩
  rw [HME.out]
  have HA7 := Lib.hid (World.rangeAt_alloc (range_below HA5.out (by have := HS5.out; omega) hb7) (.cells (cel mb).toArray 23))
  have HB7 := Lib.hid (World.rangeAt_alloc (range_below HB5.out (by have := HS5.out; omega) hb7) (.cells (cel mb).toArray 23))
  have HD7 := Lib.hid (World.rangeAt_alloc (range_below HD5.out (by have := HS5.out; omega) hb7) (.cells (cel mb).toArray 23))
  have HM7 := Lib.hid (World.rangeAt_alloc (range_below HM5.out (by have := HS5.out; omega) hb7) (.cells (cel mb).toArray 23))
  have HN7 := Lib.hid (range_new w7 (cel mb) 23)
  have hst7 : Below w6.heap.size w6 (w7.alloc (.cells (cel mb).toArray 23)) := hb7.alloc hb7.size _
  have hl7 := hl5.step hst7
  have hwd7 := hwd5.below hst7
  have HBB7 := Lib.hid (HBB5.out.trans (hst7.mono (by have := HS5.out; omega)))
  have HS7 := Lib.hid (show s + 1 + 1 + 1 ≤ t5 ∧ t5 < w7.heap.size ∧ (w7.alloc (.cells (cel mb).toArray 23)).heap.size = w7.heap.size + 1 from ⟨by have := HS5.out; omega, by have := HS5.out; have := hb7.size; omega, World.size_alloc ..⟩)
  clear hl5 hwd5 hst7 hb7 HA5 HB5 HD5 HM5 HBB5 HS5
  go_wp2_with (first | (refine wpList_val rfl (exec_alloc rfl) ?_) | (refine wpList_nul rfl (exec_fill rfl rfl rfl) ?_) | fail)
  generalize w7.alloc (.cells (cel mb).toArray 23) = w8 at *
  generalize w7.heap.size = t7 at *
  obtain ⟨t8, ht8⟩ : ∃ t8, w8.heap.size = t8 := ⟨_, rfl⟩
  rw [ht8] at hl7
  have hrd := hwd7.rd
  rw [hl7.1, ht8] at hrd
  have HT8 := Lib.hid ht8
  have HLT := Lib.hid (show s < t8 ∧ s + 1 < t8 ∧ s + 1 + 1 < t8 ∧ t5 < t8 ∧ t7 < t8 by have := HS7.out; omega)
  have HLE := Lib.hid (Nat.le_of_eq ht8.symm)
  have HNE := Lib.hid (show (me != me) = false by simp)
  clear ht8 HS7
  refine wp_region_above (B := t8) (by kernel_rfl) ?_
  refine qv_val rfl (fun w' hw => exec_load rfl (ev rfl) (range_below HA7.out HLT.out.1 hw)) ?_
  simp only [Act.put, List.setIfInBounds_toArray, List.set_cons_succ, List.set_cons_zero]
  refine qv_val rfl (fun w' hw => exec_load rfl (ev rfl) (range_below HB7.out HLT.out.2.1 hw)) ?_
  simp only [Act.put, List.setIfInBounds_toArray, List.set_cons_succ, List.set_cons_zero]
  refine qv_call rfl (fun _ => exec_cl Try.call11 rfl (evc (ev rfl) (evc (ev rfl) evn))) (above_of HLE.out fun w' hw => xor_any _ _ w') ?_
  simp only [Act.put, List.setIfInBounds_toArray, List.set_cons_succ, List.set_cons_zero]
  refine qv_val rfl (fun w' hw => exec_load rfl (ev rfl) (range_below HA7.out HLT.out.1 hw)) ?_
  simp only [Act.put, List.setIfInBounds_toArray, List.set_cons_succ, List.set_cons_zero]
  refine qv_val rfl (fun w' hw => exec_load rfl (ev rfl) (range_below HB7.out HLT.out.2.1 hw)) ?_
  simp only [Act.put, List.setIfInBounds_toArray, List.set_cons_succ, List.set_cons_zero]
  refine qv_call rfl (fun _ => exec_cl Try.call12 rfl (evc (ev rfl) (evc (ev rfl) evn))) (above_of HLE.out fun w' hw => refXor_any _ _ w') ?_
  simp only [Act.put, List.setIfInBounds_toArray, List.set_cons_succ, List.set_cons_zero]
  refine qv_val rfl (fun w' hw => exec_nen rfl (ev rfl) (ev rfl) rfl) ?_
  simp only [Act.put, List.setIfInBounds_toArray, List.set_cons_succ, List.set_cons_zero]
  refine qv_val rfl (fun w' hw => exec_mv rfl (ev rfl)) ?_
  simp only [Act.put, List.setIfInBounds_toArray, List.set_cons_succ, List.set_cons_zero]
  refine qv_val (wanted_of rfl rfl rfl rfl) (fun w' hw => exec_mv rfl (ev rfl)) ?_
  simp only [Act.put, List.setIfInBounds_toArray, List.set_cons_succ, List.set_cons_zero]
  refine qv_call (wanted_of rfl rfl rfl rfl) (fun _ => exec_cl Try.call13 rfl (evc (ev rfl) evn)) (above_of HLE.out fun w' hw => fold_any _ n (n + 2) t8 l w' (hrd.below hw) (Nat.le_trans HLE.out hw.size) (by unfold maxLen; omega)) ?_
  simp only [Act.put, List.setIfInBounds_toArray, List.set_cons_succ, List.set_cons_zero]
  refine qv_val (wanted_of rfl rfl rfl rfl) (fun w' hw => exec_mv rfl (ev rfl)) ?_
  simp only [Act.put, List.setIfInBounds_toArray, List.set_cons_succ, List.set_cons_zero]
  refine qv_call (wanted_of rfl rfl rfl rfl) (fun _ => exec_cl Try.call14 rfl (evc (ev rfl) evn)) (above_of HLE.out fun w' hw => refFold_any _ n c t8 l w' (hl7.below hw) (Nat.le_trans HLE.out hw.size) (by unfold maxLen; omega)) ?_
  simp only [Act.put, List.setIfInBounds_toArray, List.set_cons_succ, List.set_cons_zero]
  refine qv_val (wanted_of rfl rfl rfl rfl) (fun w' hw => exec_nen rfl (ev rfl) (ev rfl) rfl) ?_
  simp only [Act.put, List.setIfInBounds_toArray, List.set_cons_succ, List.set_cons_zero]
  refine qv_val rfl (fun w' hw => exec_pf rfl (ev rfl) (ev rfl)) ?_
  simp only [Act.put, List.setIfInBounds_toArray, List.set_cons_succ, List.set_cons_zero]
  refine qv_val rfl (fun w' hw => exec_mv rfl (ev rfl)) ?_
  simp only [Act.put, List.setIfInBounds_toArray, List.set_cons_succ, List.set_cons_zero]
  refine qv_val (wanted_of rfl rfl rfl rfl) (fun w' hw => exec_load rfl (ev rfl) (range_below HA7.out HLT.out.1 hw)) ?_
  simp only [Act.put, List.setIfInBounds_toArray, List.set_cons_succ, List.set_cons_zero]
  refine qv_val (wanted_of rfl rfl rfl rfl) (fun w' hw => exec_load rfl (ev rfl) (range_below HB7.out HLT.out.2.1 hw)) ?_
  simp only [Act.put, List.setIfInBounds_toArray, List.set_cons_succ, List.set_cons_zero]
  refine qv_val (wanted_of rfl rfl rfl rfl) (fun w' hw => exec_load rfl (ev rfl) (range_below HD7.out HLT.out.2.2.1 hw)) ?_
  simp only [Act.put, List.setIfInBounds_toArray, List.set_cons_succ, List.set_cons_zero]
  refine qv_call (wanted_of rfl rfl rfl rfl) (fun _ => exec_cl Try.call15 rfl (evc (ev rfl) (evc (ev rfl) (evc (ev rfl) evn)))) (above_of HLE.out fun w' hw => delta_any _ _ _ w') ?_
  simp only [Act.put, List.setIfInBounds_toArray, List.set_cons_succ, List.set_cons_zero]
  refine qv_val (wanted_of rfl rfl rfl rfl) (fun w' hw => exec_load rfl (ev rfl) (range_below HA7.out HLT.out.1 hw)) ?_
  simp only [Act.put, List.setIfInBounds_toArray, List.set_cons_succ, List.set_cons_zero]
  refine qv_val (wanted_of rfl rfl rfl rfl) (fun w' hw => exec_load rfl (ev rfl) (range_below HB7.out HLT.out.2.1 hw)) ?_
  simp only [Act.put, List.setIfInBounds_toArray, List.set_cons_succ, List.set_cons_zero]
  refine qv_val (wanted_of rfl rfl rfl rfl) (fun w' hw => exec_load rfl (ev rfl) (range_below HD7.out HLT.out.2.2.1 hw)) ?_
  simp only [Act.put, List.setIfInBounds_toArray, List.set_cons_succ, List.set_cons_zero]
  refine qv_call (wanted_of rfl rfl rfl rfl) (fun _ => exec_cl Try.call16 rfl (evc (ev rfl) (evc (ev rfl) (evc (ev rfl) evn)))) (above_of HLE.out fun w' hw => refDelta_any _ _ _ w') ?_
  simp only [Act.put, List.setIfInBounds_toArray, List.set_cons_succ, List.set_cons_zero]
  refine qv_val (wanted_of rfl rfl rfl rfl) (fun w' hw => exec_nen rfl (ev rfl) (ev rfl) rfl) ?_
  simp only [Act.put, List.setIfInBounds_toArray, List.set_cons_succ, List.set_cons_zero]
  refine qv_val rfl (fun w' hw => exec_pf rfl (ev rfl) (ev rfl)) ?_
  simp only [Act.put, List.setIfInBounds_toArray, List.set_cons_succ, List.set_cons_zero]
  refine qv_val rfl (fun w' hw => exec_mv rfl (ev rfl)) ?_
  simp only [Act.put, List.setIfInBounds_toArray, List.set_cons_succ, List.set_cons_zero]
  refine qv_val (wanted_of rfl rfl rfl rfl) (fun w' hw => exec_load rfl (ev rfl) (range_below HM7.out HLT.out.2.2.2.1 hw)) ?_
  simp only [Act.put, List.setIfInBounds_toArray, List.set_cons_succ, List.set_cons_zero]
  refine qv_val (wanted_of rfl rfl rfl rfl) (fun w' hw => exec_load rfl (ev rfl) (range_below HN7.out HLT.out.2.2.2.2 hw)) ?_
  simp only [Act.put, List.setIfInBounds_toArray, List.set_cons_succ, List.set_cons_zero]
  refine qv_val (wanted_of rfl rfl rfl rfl) (fun w' hw => exec_nen rfl (ev rfl) (ev rfl) rfl) ?_
  simp only [Act.put, List.setIfInBounds_toArray, List.set_cons_succ, List.set_cons_zero]
  refine qv_val rfl (fun w' hw => exec_pf rfl (ev rfl) (ev rfl)) ?_
  simp only [Act.put, List.setIfInBounds_toArray, List.set_cons_succ, List.set_cons_zero]
  refine qv_val rfl (fun w' hw => exec_mv rfl (ev rfl)) ?_
  simp only [Act.put, List.setIfInBounds_toArray, List.set_cons_succ, List.set_cons_zero]
  refine qv_val (wanted_of rfl rfl rfl rfl) (fun w' hw => exec_mv rfl (ev rfl)) ?_
  simp only [Act.put, List.setIfInBounds_toArray, List.set_cons_succ, List.set_cons_zero]
  refine qv_val (wanted_of rfl rfl rfl rfl) (fun w' hw => exec_mv rfl (ev rfl)) ?_
  simp only [Act.put, List.setIfInBounds_toArray, List.set_cons_succ, List.set_cons_zero]
  refine qv_val (wanted_of rfl rfl rfl rfl) (fun w' hw => exec_neInt false rfl (ev rfl) (ev rfl) HNE.out) ?_
  simp only [Act.put, List.setIfInBounds_toArray, List.set_cons_succ, List.set_cons_zero]
  refine qv_val rfl (fun w' hw => exec_pf rfl (ev rfl) (ev rfl)) ?_
  simp only [Act.put, List.setIfInBounds_toArray, List.set_cons_succ, List.set_cons_zero]
  refine wpQuiet_nil ?_
  intro w9 hw9
  clear HNE HD7 HM7 HN7 hrd
  have HA9 := Lib.hid (range_below HA7.out HLT.out.1 hw9)
  have HB9 := Lib.hid (range_below HB7.out HLT.out.2.1 hw9)
  have hl9 := hl7.below hw9
  have hwd9 : WidedB w9 g l := HoldsB.below hwd7 (HT8.out.symm ▸ hw9)
  have hle9 : t8 ≤ w9.heap.size := Nat.le_trans HLE.out hw9.size
  have HBB9 := Lib.hid (HBB7.out.trans (hw9.mono (by have := HLT.out; omega)))
  have HLT9 := Lib.hid (show s < t8 ∧ s + 1 < t8 from ⟨HLT.out.1, HLT.out.2.1⟩)
  clear HA7 HB7 hl7 hwd7 HBB7 HLE HLT HT8 hw9
  go_wp2_with fail
  obtain ⟨t9, ht9⟩ : ∃ t9, w9.heap.size = t9 := ⟨_, rfl⟩
  have hl9' := hl9.more (show t8 ≤ t9 by omega)
  have HT9 := Lib.hid ht9
  have HLE9 := Lib.hid (Nat.le_of_eq ht9.symm)
  have HLT := HLT9
  have HZZ := Lib.hid (show (decide (a = zeroB) == decide (a = zeroB)) = true by simp)
  have HZE := Lib.hid (show (decide (bx a b = zeroB) == decide (a = b)) = true by simp [bx_eq_zero])
  clear HLT9 hl9
  have HLT9 := Lib.hid (show s < t9 ∧ s + 1 < t9 by have := HLT.out; omega)
  clear HLT hle9 ht9
  refine wp_region_above (B := t9) (by kernel_rfl) ?_
  refine qv_val rfl (fun w' hw => exec_load rfl (ev rfl) (range_below HA9.out HLT9.out.1 hw)) ?_
  simp only [Act.put, List.setIfInBounds_toArray, List.set_cons_succ, List.set_cons_zero]
  refine qv_val rfl (fun w' hw => exec_load rfl (ev rfl) (range_below HB9.out HLT9.out.2 hw)) ?_
  simp only [Act.put, List.setIfInBounds_toArray, List.set_cons_succ, List.set_cons_zero]
  refine qv_val rfl (fun w' hw => exec_mv rfl (ev rfl)) ?_
  simp only [Act.put, List.setIfInBounds_toArray, List.set_cons_succ, List.set_cons_zero]
  refine qv_call rfl (fun _ => exec_cl Try.call17 rfl (evc (ev rfl) (evc (ev rfl) (evc (ev rfl) evn)))) (above_of HLE9.out fun w' hw => torn_any _ _ _ w') ?_
  simp only [Act.put, List.setIfInBounds_toArray, List.set_cons_succ, List.set_cons_zero]
  refine qv_val rfl (fun w' hw => exec_load rfl (ev rfl) (range_below HA9.out HLT9.out.1 hw)) ?_
  simp only [Act.put, List.setIfInBounds_toArray, List.set_cons_succ, List.set_cons_zero]
  refine qv_val rfl (fun w' hw => exec_load rfl (ev rfl) (range_below HB9.out HLT9.out.2 hw)) ?_
  simp only [Act.put, List.setIfInBounds_toArray, List.set_cons_succ, List.set_cons_zero]
  refine qv_val rfl (fun w' hw => exec_mv rfl (ev rfl)) ?_
  simp only [Act.put, List.setIfInBounds_toArray, List.set_cons_succ, List.set_cons_zero]
  refine qv_call rfl (fun _ => exec_cl Try.call18 rfl (evc (ev rfl) (evc (ev rfl) (evc (ev rfl) evn)))) (above_of HLE9.out fun w' hw => refTorn_any _ _ _ w') ?_
  simp only [Act.put, List.setIfInBounds_toArray, List.set_cons_succ, List.set_cons_zero]
  refine qv_val rfl (fun w' hw => exec_eqy rfl (ev rfl) (ev rfl) rfl) ?_
  simp only [Act.put, List.setIfInBounds_toArray, List.set_cons_succ, List.set_cons_zero]
  refine qv_val rfl (fun w' hw => exec_mv rfl (ev rfl)) ?_
  simp only [Act.put, List.setIfInBounds_toArray, List.set_cons_succ, List.set_cons_zero]
  refine qv_val (wanted_of rfl rfl rfl rfl) (fun w' hw => exec_load rfl (ev rfl) (range_below HA9.out HLT9.out.1 hw)) ?_
  simp only [Act.put, List.setIfInBounds_toArray, List.set_cons_succ, List.set_cons_zero]
  refine qv_call (wanted_of rfl rfl rfl rfl) (fun _ => exec_cl Try.call19 rfl (evc (ev rfl) evn)) (above_of HLE9.out fun w' hw => zero_any _ w') ?_
  simp only [Act.put, List.setIfInBounds_toArray, List.set_cons_succ, List.set_cons_zero]
  refine qv_val (wanted_of rfl rfl rfl rfl) (fun w' hw => exec_load rfl (ev rfl) (range_below HA9.out HLT9.out.1 hw)) ?_
  simp only [Act.put, List.setIfInBounds_toArray, List.set_cons_succ, List.set_cons_zero]
  refine qv_call (wanted_of rfl rfl rfl rfl) (fun _ => exec_cl Try.call20 rfl (evc (ev rfl) evn)) (above_of HLE9.out fun w' hw => refZero_any _ w') ?_
  simp only [Act.put, List.setIfInBounds_toArray, List.set_cons_succ, List.set_cons_zero]
  refine qv_val (wanted_of rfl rfl rfl rfl) (fun w' hw => exec_eqBool true rfl (ev rfl) (ev rfl) HZZ.out) ?_
  simp only [Act.put, List.setIfInBounds_toArray, List.set_cons_succ, List.set_cons_zero]
  refine qv_val rfl (fun w' hw => exec_pt rfl (ev rfl) (ev rfl)) ?_
  simp only [Act.put, List.setIfInBounds_toArray, List.set_cons_succ, List.set_cons_zero]
  refine qv_val rfl (fun w' hw => exec_mv rfl (ev rfl)) ?_
  simp only [Act.put, List.setIfInBounds_toArray, List.set_cons_succ, List.set_cons_zero]
  refine qv_val (wanted_of rfl rfl rfl rfl) (fun w' hw => exec_load rfl (ev rfl) (range_below HA9.out HLT9.out.1 hw)) ?_
  simp only [Act.put, List.setIfInBounds_toArray, List.set_cons_succ, List.set_cons_zero]
  refine qv_val (wanted_of rfl rfl rfl rfl) (fun w' hw => exec_load rfl (ev rfl) (range_below HB9.out HLT9.out.2 hw)) ?_
  simp only [Act.put, List.setIfInBounds_toArray, List.set_cons_succ, List.set_cons_zero]
  refine qv_call (wanted_of rfl rfl rfl rfl) (fun _ => exec_cl Try.call11 rfl (evc (ev rfl) (evc (ev rfl) evn))) (above_of HLE9.out fun w' hw => xor_any _ _ w') ?_
  simp only [Act.put, List.setIfInBounds_toArray, List.set_cons_succ, List.set_cons_zero]
  refine qv_call (wanted_of rfl rfl rfl rfl) (fun _ => exec_cl Try.call19 rfl (evc (ev rfl) evn)) (above_of HLE9.out fun w' hw => zero_any _ w') ?_
  simp only [Act.put, List.setIfInBounds_toArray, List.set_cons_succ, List.set_cons_zero]
  refine qv_val (wanted_of rfl rfl rfl rfl) (fun w' hw => exec_load rfl (ev rfl) (range_below HA9.out HLT9.out.1 hw)) ?_
  simp only [Act.put, List.setIfInBounds_toArray, List.set_cons_succ, List.set_cons_zero]
  refine qv_val (wanted_of rfl rfl rfl rfl) (fun w' hw => exec_load rfl (ev rfl) (range_below HB9.out HLT9.out.2 hw)) ?_
  simp only [Act.put, List.setIfInBounds_toArray, List.set_cons_succ, List.set_cons_zero]
  refine qv_val (wanted_of rfl rfl rfl rfl) (fun w' hw => exec_eql rfl (ev rfl) (ev rfl)) ?_
  simp only [Act.put, List.setIfInBounds_toArray, List.set_cons_succ, List.set_cons_zero]
  refine qv_val (wanted_of rfl rfl rfl rfl) (fun w' hw => exec_eqBool true rfl (ev rfl) (ev rfl) HZE.out) ?_
  simp only [Act.put, List.setIfInBounds_toArray, List.set_cons_succ, List.set_cons_zero]
  refine qv_val rfl (fun w' hw => exec_pt rfl (ev rfl) (ev rfl)) ?_
  simp only [Act.put, List.setIfInBounds_toArray, List.set_cons_succ, List.set_cons_zero]
  refine qv_val rfl (fun w' hw => exec_mv rfl (ev rfl)) ?_
  simp only [Act.put, List.setIfInBounds_toArray, List.set_cons_succ, List.set_cons_zero]
  refine qv_val (wanted_of rfl rfl rfl rfl) (fun w' hw => exec_mv rfl (ev rfl)) ?_
  simp only [Act.put, List.setIfInBounds_toArray, List.set_cons_succ, List.set_cons_zero]
  refine qv_val (wanted_of rfl rfl rfl rfl) (fun w' hw => exec_mv rfl (ev rfl)) ?_
  simp only [Act.put, List.setIfInBounds_toArray, List.set_cons_succ, List.set_cons_zero]
  refine qv_call (wanted_of rfl rfl rfl rfl) (fun _ => exec_cl Try.call21 rfl (evc (ev rfl) (evc (ev rfl) evn))) (above_of HLE9.out fun w' hw => leftB_yes _ n c t9 g _ l w' (Lib.hid rfl) (HoldsB.below hwd9 (HT9.out.symm ▸ hw)) (hl9'.below hw) (HT9.out ▸ hw.size) hn) ?_
  simp only [Act.put, List.setIfInBounds_toArray, List.set_cons_succ, List.set_cons_zero]
  refine qv_val rfl (fun w' hw => exec_pt rfl (ev rfl) (ev rfl)) ?_
  simp only [Act.put, List.setIfInBounds_toArray, List.set_cons_succ, List.set_cons_zero]
  refine qv_val rfl (fun w' hw => exec_mv rfl (ev rfl)) ?_
  simp only [Act.put, List.setIfInBounds_toArray, List.set_cons_succ, List.set_cons_zero]
  refine qv_call (wanted_of rfl rfl rfl rfl) (fun _ => exec_cl Try.call22 rfl evn) (above_of HLE9.out fun w' hw => lives_yes w') ?_
  simp only [Act.put, List.setIfInBounds_toArray, List.set_cons_succ, List.set_cons_zero]
  refine qv_val rfl (fun w' hw => exec_pt rfl (ev rfl) (ev rfl)) ?_
  simp only [Act.put, List.setIfInBounds_toArray, List.set_cons_succ, List.set_cons_zero]
  refine qv_val rfl (fun w' hw => exec_as rfl (ev rfl)) ?_
  simp only [Act.put, List.setIfInBounds_toArray, List.set_cons_succ, List.set_cons_zero]
  refine wpQuiet_nil ?_
  intro w5 hw5
  clear HZZ HZE
  go_wp2_with fail
  go_ret
  try rw [hs0]
  exact ⟨rfl, HBB9.out.trans (hw5.mono (by have := HLT9.out; omega))⟩
end Go.Proofs.Ytdihialobobkpaa
