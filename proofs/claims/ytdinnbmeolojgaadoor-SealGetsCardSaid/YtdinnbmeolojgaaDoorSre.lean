/-
  The document's Newest.
-/
import Derived.Test.YtdinnbmeolojgaaDoorSrd
namespace Go.Proofs.YtdinnbmeolojgaaDoor
open Go.RowKit
set_option linter.unusedVariables false
set_option maxRecDepth 100000

set_option maxHeartbeats 2000000 in
theorem rnew_none (a b : Blk) (w : World) (he : getE a.toList ≠ 0) (hf : getE b.toList ≠ 0) :
    Calls Tryd.prog 17 #[blk a, blk b] w fun e w' => e = .returned (.tuple #[.int .i64 0, .int .i64 7]) ∧ Below w.heap.size w w' := by
  have h1 := (Below.refl w.heap.size w).alloc (Nat.le_refl _) (.cells (cel a).toArray 26)
  have h2 := h1.alloc h1.size (.cells (cel b).toArray 26)
  have hA : ((w.alloc (.cells (cel a).toArray 26)).alloc (.cells (cel b).toArray 26)).rangeAt w.heap.size 0 (cel a) := World.rangeAt_alloc (range_new w (cel a) 26) _
  have hB : ((w.alloc (.cells (cel a).toArray 26)).alloc (.cells (cel b).toArray 26)).rangeAt (w.heap.size + 1) 0 (cel b) := by
    have := range_new (w.alloc (.cells (cel a).toArray 26)) (cel b) 26
    rwa [World.size_alloc] at this
  have HA := Lib.hid hA
  have HB := Lib.hid hB
  have H2 := Lib.hid h2
  have HS := Lib.hid (show w.heap.size + 1 < ((w.alloc (.cells (cel a).toArray 26)).alloc (.cells (cel b).toArray 26)).heap.size from by simp only [World.size_alloc]; omega)
  clear h1 h2 hA hB
  obtain ⟨x, hx⟩ : ∃ x, getN a.toList = x := ⟨_, rfl⟩
  obtain ⟨y, hy⟩ : ∃ y, getN b.toList = y := ⟨_, rfl⟩
  have HX := Lib.hid hx
  have HY := Lib.hid hy
  obtain ⟨ze, hze⟩ : ∃ z, getE a.toList = z := ⟨_, rfl⟩
  rw [hze] at he
  have ne : ((ze : Int) != 0) = true := by simp; omega
  have qe : ((ze : Int) == 0) = false := by simp; omega
  have HE := Lib.hid hze
  clear he hze
  obtain ⟨zf, hzf⟩ : ∃ z, getE b.toList = z := ⟨_, rfl⟩
  rw [hzf] at hf
  have nf : ((zf : Int) != 0) = true := by simp; omega
  have qf : ((zf : Int) == 0) = false := by simp; omega
  have HF := Lib.hid hzf
  clear hf hzf
  clear hx hy
  go_enter Tryd.func17, Tryd.ntmps17
  go_wp2_with (first | (refine wpList_val rfl (exec_box rfl rfl) ?_) | (refine wpList_val rfl (exec_load rfl rfl HA.out) ?_) | fail)
  refine (rget_any a _ _ (Lib.hid rfl)).mono ?_
  rintro e w1 ⟨v, rfl, hv, hb1⟩
  have HB1 := Lib.hid (range_below HB.out HS.out hb1)
  have H3 := Lib.hid (H2.out.trans (hb1.mono (by simp only [World.size_alloc]; omega)))
  clear hv hb1
  rw [HX.out, HE.out]
  go_wp2_with (first | (refine wpList_val rfl (exec_load rfl rfl HB1.out) ?_) | fail)
  refine (rget_any b _ _ (Lib.hid rfl)).mono ?_
  rintro e w2 ⟨v2, rfl, hv2, hb2⟩
  have H4 := Lib.hid (H3.out.trans (hb2.mono H3.out.size))
  clear hv2 hb2
  rw [HY.out, HF.out]
  go_wp2_with fail
  go_ret2
  exact ⟨rfl, H4.out⟩
set_option maxHeartbeats 2000000 in
theorem rnew_second (a b : Blk) (w : World) (he : getE a.toList ≠ 0) (hf : getE b.toList = 0) :
    Calls Tryd.prog 17 #[blk a, blk b] w fun e w' => e = .returned (.tuple #[.int .i64 1, .int .i64 0]) ∧ Below w.heap.size w w' := by
  have h1 := (Below.refl w.heap.size w).alloc (Nat.le_refl _) (.cells (cel a).toArray 26)
  have h2 := h1.alloc h1.size (.cells (cel b).toArray 26)
  have hA : ((w.alloc (.cells (cel a).toArray 26)).alloc (.cells (cel b).toArray 26)).rangeAt w.heap.size 0 (cel a) := World.rangeAt_alloc (range_new w (cel a) 26) _
  have hB : ((w.alloc (.cells (cel a).toArray 26)).alloc (.cells (cel b).toArray 26)).rangeAt (w.heap.size + 1) 0 (cel b) := by
    have := range_new (w.alloc (.cells (cel a).toArray 26)) (cel b) 26
    rwa [World.size_alloc] at this
  have HA := Lib.hid hA
  have HB := Lib.hid hB
  have H2 := Lib.hid h2
  have HS := Lib.hid (show w.heap.size + 1 < ((w.alloc (.cells (cel a).toArray 26)).alloc (.cells (cel b).toArray 26)).heap.size from by simp only [World.size_alloc]; omega)
  clear h1 h2 hA hB
  obtain ⟨x, hx⟩ : ∃ x, getN a.toList = x := ⟨_, rfl⟩
  obtain ⟨y, hy⟩ : ∃ y, getN b.toList = y := ⟨_, rfl⟩
  have HX := Lib.hid hx
  have HY := Lib.hid hy
  obtain ⟨ze, hze⟩ : ∃ z, getE a.toList = z := ⟨_, rfl⟩
  rw [hze] at he
  have ne : ((ze : Int) != 0) = true := by simp; omega
  have qe : ((ze : Int) == 0) = false := by simp; omega
  have HE := Lib.hid hze
  clear he hze
  have HF := Lib.hid hf
  clear hf
  clear hx hy
  go_enter Tryd.func17, Tryd.ntmps17
  go_wp2_with (first | (refine wpList_val rfl (exec_box rfl rfl) ?_) | (refine wpList_val rfl (exec_load rfl rfl HA.out) ?_) | fail)
  refine (rget_any a _ _ (Lib.hid rfl)).mono ?_
  rintro e w1 ⟨v, rfl, hv, hb1⟩
  have HB1 := Lib.hid (range_below HB.out HS.out hb1)
  have H3 := Lib.hid (H2.out.trans (hb1.mono (by simp only [World.size_alloc]; omega)))
  clear hv hb1
  rw [HX.out, HE.out]
  go_wp2_with (first | (refine wpList_val rfl (exec_load rfl rfl HB1.out) ?_) | fail)
  refine (rget_any b _ _ (Lib.hid rfl)).mono ?_
  rintro e w2 ⟨v2, rfl, hv2, hb2⟩
  have H4 := Lib.hid (H3.out.trans (hb2.mono H3.out.size))
  clear hv2 hb2
  rw [HY.out, HF.out]
  go_wp2_with fail
  go_ret2
  exact ⟨rfl, H4.out⟩
set_option maxHeartbeats 2000000 in
theorem rnew_greater (a b : Blk) (w : World) (he : getE a.toList = 0) (hf : getE b.toList = 0) (hlt : getN a.toList < getN b.toList) :
    Calls Tryd.prog 17 #[blk a, blk b] w fun e w' => e = .returned (.tuple #[.int .i64 1, .int .i64 0]) ∧ Below w.heap.size w w' := by
  have h1 := (Below.refl w.heap.size w).alloc (Nat.le_refl _) (.cells (cel a).toArray 26)
  have h2 := h1.alloc h1.size (.cells (cel b).toArray 26)
  have hA : ((w.alloc (.cells (cel a).toArray 26)).alloc (.cells (cel b).toArray 26)).rangeAt w.heap.size 0 (cel a) := World.rangeAt_alloc (range_new w (cel a) 26) _
  have hB : ((w.alloc (.cells (cel a).toArray 26)).alloc (.cells (cel b).toArray 26)).rangeAt (w.heap.size + 1) 0 (cel b) := by
    have := range_new (w.alloc (.cells (cel a).toArray 26)) (cel b) 26
    rwa [World.size_alloc] at this
  have HA := Lib.hid hA
  have HB := Lib.hid hB
  have H2 := Lib.hid h2
  have HS := Lib.hid (show w.heap.size + 1 < ((w.alloc (.cells (cel a).toArray 26)).alloc (.cells (cel b).toArray 26)).heap.size from by simp only [World.size_alloc]; omega)
  clear h1 h2 hA hB
  obtain ⟨x, hx⟩ : ∃ x, getN a.toList = x := ⟨_, rfl⟩
  obtain ⟨y, hy⟩ : ∃ y, getN b.toList = y := ⟨_, rfl⟩
  have HX := Lib.hid hx
  have HY := Lib.hid hy
  rw [hx, hy] at hlt
  have HE := Lib.hid he
  clear he
  have HF := Lib.hid hf
  clear hf
  have hlt2 : decide ((x : Int) < (y : Int)) = true := by simp; omega
  have hlt3 : decide (x < y) = true := by simp; omega
  clear hx hy hlt
  go_enter Tryd.func17, Tryd.ntmps17
  go_wp2_with (first | (refine wpList_val rfl (exec_box rfl rfl) ?_) | (refine wpList_val rfl (exec_load rfl rfl HA.out) ?_) | fail)
  refine (rget_any a _ _ (Lib.hid rfl)).mono ?_
  rintro e w1 ⟨v, rfl, hv, hb1⟩
  have HB1 := Lib.hid (range_below HB.out HS.out hb1)
  have H3 := Lib.hid (H2.out.trans (hb1.mono (by simp only [World.size_alloc]; omega)))
  clear hv hb1
  rw [HX.out, HE.out]
  go_wp2_with (first | (refine wpList_val rfl (exec_load rfl rfl HB1.out) ?_) | fail)
  refine (rget_any b _ _ (Lib.hid rfl)).mono ?_
  rintro e w2 ⟨v2, rfl, hv2, hb2⟩
  have H4 := Lib.hid (H3.out.trans (hb2.mono H3.out.size))
  clear hv2 hb2
  rw [HY.out, HF.out]
  go_wp2_with fail
  go_ret2
  exact ⟨rfl, H4.out⟩
set_option maxHeartbeats 2000000 in
theorem rnew_lesser (a b : Blk) (w : World) (he : getE a.toList = 0) (hf : getE b.toList = 0) (hlt : ¬ getN a.toList < getN b.toList) :
    Calls Tryd.prog 17 #[blk a, blk b] w fun e w' => e = .returned (.tuple #[.int .i64 0, .int .i64 0]) ∧ Below w.heap.size w w' := by
  have h1 := (Below.refl w.heap.size w).alloc (Nat.le_refl _) (.cells (cel a).toArray 26)
  have h2 := h1.alloc h1.size (.cells (cel b).toArray 26)
  have hA : ((w.alloc (.cells (cel a).toArray 26)).alloc (.cells (cel b).toArray 26)).rangeAt w.heap.size 0 (cel a) := World.rangeAt_alloc (range_new w (cel a) 26) _
  have hB : ((w.alloc (.cells (cel a).toArray 26)).alloc (.cells (cel b).toArray 26)).rangeAt (w.heap.size + 1) 0 (cel b) := by
    have := range_new (w.alloc (.cells (cel a).toArray 26)) (cel b) 26
    rwa [World.size_alloc] at this
  have HA := Lib.hid hA
  have HB := Lib.hid hB
  have H2 := Lib.hid h2
  have HS := Lib.hid (show w.heap.size + 1 < ((w.alloc (.cells (cel a).toArray 26)).alloc (.cells (cel b).toArray 26)).heap.size from by simp only [World.size_alloc]; omega)
  clear h1 h2 hA hB
  obtain ⟨x, hx⟩ : ∃ x, getN a.toList = x := ⟨_, rfl⟩
  obtain ⟨y, hy⟩ : ∃ y, getN b.toList = y := ⟨_, rfl⟩
  have HX := Lib.hid hx
  have HY := Lib.hid hy
  rw [hx, hy] at hlt
  have HE := Lib.hid he
  clear he
  have HF := Lib.hid hf
  clear hf
  have hlt2 : decide ((x : Int) < (y : Int)) = false := by simp; omega
  have hlt3 : decide (x < y) = false := by simp; omega
  clear hx hy hlt
  go_enter Tryd.func17, Tryd.ntmps17
  go_wp2_with (first | (refine wpList_val rfl (exec_box rfl rfl) ?_) | (refine wpList_val rfl (exec_load rfl rfl HA.out) ?_) | fail)
  refine (rget_any a _ _ (Lib.hid rfl)).mono ?_
  rintro e w1 ⟨v, rfl, hv, hb1⟩
  have HB1 := Lib.hid (range_below HB.out HS.out hb1)
  have H3 := Lib.hid (H2.out.trans (hb1.mono (by simp only [World.size_alloc]; omega)))
  clear hv hb1
  rw [HX.out, HE.out]
  go_wp2_with (first | (refine wpList_val rfl (exec_load rfl rfl HB1.out) ?_) | fail)
  refine (rget_any b _ _ (Lib.hid rfl)).mono ?_
  rintro e w2 ⟨v2, rfl, hv2, hb2⟩
  have H4 := Lib.hid (H3.out.trans (hb2.mono H3.out.size))
  clear hv2 hb2
  rw [HY.out, HF.out]
  go_wp2_with fail
  go_ret2
  exact ⟨rfl, H4.out⟩
set_option maxHeartbeats 2000000 in
theorem rnew_first (a b : Blk) (w : World) (he : getE a.toList = 0) (hf : getE b.toList ≠ 0) :
    Calls Tryd.prog 17 #[blk a, blk b] w fun e w' => e = .returned (.tuple #[.int .i64 0, .int .i64 0]) ∧ Below w.heap.size w w' := by
  have h1 := (Below.refl w.heap.size w).alloc (Nat.le_refl _) (.cells (cel a).toArray 26)
  have h2 := h1.alloc h1.size (.cells (cel b).toArray 26)
  have hA : ((w.alloc (.cells (cel a).toArray 26)).alloc (.cells (cel b).toArray 26)).rangeAt w.heap.size 0 (cel a) := World.rangeAt_alloc (range_new w (cel a) 26) _
  have hB : ((w.alloc (.cells (cel a).toArray 26)).alloc (.cells (cel b).toArray 26)).rangeAt (w.heap.size + 1) 0 (cel b) := by
    have := range_new (w.alloc (.cells (cel a).toArray 26)) (cel b) 26
    rwa [World.size_alloc] at this
  have HA := Lib.hid hA
  have HB := Lib.hid hB
  have H2 := Lib.hid h2
  have HS := Lib.hid (show w.heap.size + 1 < ((w.alloc (.cells (cel a).toArray 26)).alloc (.cells (cel b).toArray 26)).heap.size from by simp only [World.size_alloc]; omega)
  clear h1 h2 hA hB
  obtain ⟨x, hx⟩ : ∃ x, getN a.toList = x := ⟨_, rfl⟩
  obtain ⟨y, hy⟩ : ∃ y, getN b.toList = y := ⟨_, rfl⟩
  have HX := Lib.hid hx
  have HY := Lib.hid hy
  have HE := Lib.hid he
  clear he
  obtain ⟨zf, hzf⟩ : ∃ z, getE b.toList = z := ⟨_, rfl⟩
  rw [hzf] at hf
  have nf : ((zf : Int) != 0) = true := by simp; omega
  have qf : ((zf : Int) == 0) = false := by simp; omega
  have HF := Lib.hid hzf
  clear hf hzf
  clear hx hy
  go_enter Tryd.func17, Tryd.ntmps17
  go_wp2_with (first | (refine wpList_val rfl (exec_box rfl rfl) ?_) | (refine wpList_val rfl (exec_load rfl rfl HA.out) ?_) | fail)
  refine (rget_any a _ _ (Lib.hid rfl)).mono ?_
  rintro e w1 ⟨v, rfl, hv, hb1⟩
  have HB1 := Lib.hid (range_below HB.out HS.out hb1)
  have H3 := Lib.hid (H2.out.trans (hb1.mono (by simp only [World.size_alloc]; omega)))
  clear hv hb1
  rw [HX.out, HE.out]
  go_wp2_with (first | (refine wpList_val rfl (exec_load rfl rfl HB1.out) ?_) | fail)
  refine (rget_any b _ _ (Lib.hid rfl)).mono ?_
  rintro e w2 ⟨v2, rfl, hv2, hb2⟩
  have H4 := Lib.hid (H3.out.trans (hb2.mono H3.out.size))
  clear hv2 hb2
  rw [HY.out, HF.out]
  go_wp2_with fail
  go_ret2
  exact ⟨rfl, H4.out⟩
theorem rnew_any (a b : Blk) (w : World) : Calls Tryd.prog 17 #[blk a, blk b] w fun e w' => e = .returned (.tuple #[.int .i64 (newW a.toList b.toList : Nat), .int .i64 (newE a.toList b.toList : Nat)]) ∧ Below w.heap.size w w' := by
  unfold newW newE
  by_cases he : getE a.toList = 0
  · have ha := getN_of he
    have ha0 := (of_getE he).1
    by_cases hf : getE b.toList = 0
    · by_cases hlt : getN a.toList < getN b.toList
      · rw [if_pos hlt, if_neg (by omega)]
        exact rnew_greater a b w he hf hlt
      · rw [if_neg hlt, if_neg (by omega)]
        exact rnew_lesser a b w he hf hlt
    · rw [getN_no hf, if_neg (by omega), if_neg (by omega)]
      exact rnew_first a b w he hf
  · have ha := getN_no he
    by_cases hf : getE b.toList = 0
    · have hb := getN_of hf
      have hb0 := (of_getE hf).1
      rw [if_pos (by omega), if_neg (by omega)]
      exact rnew_second a b w he hf
    · rw [ha, getN_no hf, if_neg (by omega), if_pos (by omega)]
      exact rnew_none a b w he hf
end Go.Proofs.YtdinnbmeolojgaaDoor
