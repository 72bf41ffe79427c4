/-
  The program's Newest.
-/
import Derived.Test.YtdinnbmeolojgaaDoorSpd
namespace Go.Proofs.YtdinnbmeolojgaaDoor
open Go.RowKit
set_option linter.unusedVariables false
set_option maxRecDepth 100000

set_option maxHeartbeats 2000000 in
theorem pnew_none (a b : Blk) (w : World) (T : Tab w) (h0 : getN a.toList = 0) (h1 : getN b.toList = 0) :
    Calls Tryd.prog 16 #[blk a, blk b] w fun e w' => e = .returned (.tuple #[.int .i64 0, .int .i64 7]) ∧ Below w.heap.size w w' := by
  have h1 := (Below.refl w.heap.size w).alloc (Nat.le_refl _) (.cells (cel a).toArray 26)
  have h2 := h1.alloc h1.size (.cells (cel b).toArray 26)
  have hA : ((w.alloc (.cells (cel a).toArray 26)).alloc (.cells (cel b).toArray 26)).rangeAt w.heap.size 0 (cel a) := World.rangeAt_alloc (range_new w (cel a) 26) _
  have hB : ((w.alloc (.cells (cel a).toArray 26)).alloc (.cells (cel b).toArray 26)).rangeAt (w.heap.size + 1) 0 (cel b) := by
    have := range_new (w.alloc (.cells (cel a).toArray 26)) (cel b) 26
    rwa [World.size_alloc] at this
  have HA := Lib.hid hA
  have HB := Lib.hid hB
  have H2 := Lib.hid h2
  have HT := Lib.hid (T.below h2)
  have HS := Lib.hid (show w.heap.size + 1 < ((w.alloc (.cells (cel a).toArray 26)).alloc (.cells (cel b).toArray 26)).heap.size from by simp only [World.size_alloc]; omega)
  clear h1 h2 hA hB
  clear T
  have HX := Lib.hid h0
  have HY := Lib.hid h1
  clear h0 h1
  go_enter Tryd.func16, Tryd.ntmps16
  go_wp2_with (first | (refine wpList_val rfl (exec_box rfl rfl) ?_) | (refine wpList_val rfl (exec_load rfl rfl HA.out) ?_) | fail)
  refine (pget_any a _ _ (Lib.hid rfl) HT.out).mono ?_
  rintro e w1 ⟨v, rfl, hv, hb1⟩
  have HB1 := Lib.hid (range_below HB.out HS.out hb1)
  have H3 := Lib.hid (H2.out.trans (hb1.mono (by simp only [World.size_alloc]; omega)))
  have HT2 := Lib.hid (HT.out.below hb1)
  clear hv hb1
  rw [HX.out]
  go_wp2_with (first | (refine wpList_val rfl (exec_load rfl rfl HB1.out) ?_) | fail)
  refine (pget_any b _ _ (Lib.hid rfl) HT2.out).mono ?_
  rintro e w2 ⟨v2, rfl, hv2, hb2⟩
  have H4 := Lib.hid (H3.out.trans (hb2.mono H3.out.size))
  clear hv2 hb2
  rw [HY.out]
  go_wp2_with fail
  go_ret2
  exact ⟨rfl, H4.out⟩
set_option maxHeartbeats 2000000 in
theorem pnew_second (a b : Blk) (w : World) (T : Tab w) (h0 : getN a.toList < getN b.toList) :
    Calls Tryd.prog 16 #[blk a, blk b] w fun e w' => e = .returned (.tuple #[.int .i64 1, .int .i64 0]) ∧ Below w.heap.size w w' := by
  have h1 := (Below.refl w.heap.size w).alloc (Nat.le_refl _) (.cells (cel a).toArray 26)
  have h2 := h1.alloc h1.size (.cells (cel b).toArray 26)
  have hA : ((w.alloc (.cells (cel a).toArray 26)).alloc (.cells (cel b).toArray 26)).rangeAt w.heap.size 0 (cel a) := World.rangeAt_alloc (range_new w (cel a) 26) _
  have hB : ((w.alloc (.cells (cel a).toArray 26)).alloc (.cells (cel b).toArray 26)).rangeAt (w.heap.size + 1) 0 (cel b) := by
    have := range_new (w.alloc (.cells (cel a).toArray 26)) (cel b) 26
    rwa [World.size_alloc] at this
  have HA := Lib.hid hA
  have HB := Lib.hid hB
  have H2 := Lib.hid h2
  have HT := Lib.hid (T.below h2)
  have HS := Lib.hid (show w.heap.size + 1 < ((w.alloc (.cells (cel a).toArray 26)).alloc (.cells (cel b).toArray 26)).heap.size from by simp only [World.size_alloc]; omega)
  clear h1 h2 hA hB
  clear T
  obtain ⟨x, hx⟩ : ∃ x, getN a.toList = x := ⟨_, rfl⟩
  obtain ⟨y, hy⟩ : ∃ y, getN b.toList = y := ⟨_, rfl⟩
  rw [hx] at h0
  rw [hy] at h0
  have HX := Lib.hid hx
  have HY := Lib.hid hy
  clear hx hy
  have hy0 : ((y : Int) == 0) = false := by simp; omega
  have hlt : decide ((x : Int) < (y : Int)) = true := by simp; omega
  have hlt2 : decide (x < y) = true := by simp; omega
  by_cases hx0 : x = 0
  · subst hx0
    clear hlt
    go_enter Tryd.func16, Tryd.ntmps16
    go_wp2_with (first | (refine wpList_val rfl (exec_box rfl rfl) ?_) | (refine wpList_val rfl (exec_load rfl rfl HA.out) ?_) | fail)
    refine (pget_any a _ _ (Lib.hid rfl) HT.out).mono ?_
    rintro e w1 ⟨v, rfl, hv, hb1⟩
    have HB1 := Lib.hid (range_below HB.out HS.out hb1)
    have H3 := Lib.hid (H2.out.trans (hb1.mono (by simp only [World.size_alloc]; omega)))
    have HT2 := Lib.hid (HT.out.below hb1)
    clear hv hb1
    rw [HX.out]
    go_wp2_with (first | (refine wpList_val rfl (exec_load rfl rfl HB1.out) ?_) | fail)
    refine (pget_any b _ _ (Lib.hid rfl) HT2.out).mono ?_
    rintro e w2 ⟨v2, rfl, hv2, hb2⟩
    have H4 := Lib.hid (H3.out.trans (hb2.mono H3.out.size))
    clear hv2 hb2
    rw [HY.out]
    go_wp2_with fail
    go_ret2
    exact ⟨rfl, H4.out⟩
  · have hx0 : ((x : Int) == 0) = false := by simp; omega
    go_enter Tryd.func16, Tryd.ntmps16
    go_wp2_with (first | (refine wpList_val rfl (exec_box rfl rfl) ?_) | (refine wpList_val rfl (exec_load rfl rfl HA.out) ?_) | fail)
    refine (pget_any a _ _ (Lib.hid rfl) HT.out).mono ?_
    rintro e w1 ⟨v, rfl, hv, hb1⟩
    have HB1 := Lib.hid (range_below HB.out HS.out hb1)
    have H3 := Lib.hid (H2.out.trans (hb1.mono (by simp only [World.size_alloc]; omega)))
    have HT2 := Lib.hid (HT.out.below hb1)
    clear hv hb1
    rw [HX.out]
    go_wp2_with (first | (refine wpList_val rfl (exec_load rfl rfl HB1.out) ?_) | fail)
    refine (pget_any b _ _ (Lib.hid rfl) HT2.out).mono ?_
    rintro e w2 ⟨v2, rfl, hv2, hb2⟩
    have H4 := Lib.hid (H3.out.trans (hb2.mono H3.out.size))
    clear hv2 hb2
    rw [HY.out]
    go_wp2_with fail
    go_ret2
    exact ⟨rfl, H4.out⟩
set_option maxHeartbeats 2000000 in
theorem pnew_first (a b : Blk) (w : World) (T : Tab w) (h0 : ¬ getN a.toList < getN b.toList) (h1 : getN a.toList ≠ 0) :
    Calls Tryd.prog 16 #[blk a, blk b] w fun e w' => e = .returned (.tuple #[.int .i64 0, .int .i64 0]) ∧ Below w.heap.size w w' := by
  have h1 := (Below.refl w.heap.size w).alloc (Nat.le_refl _) (.cells (cel a).toArray 26)
  have h2 := h1.alloc h1.size (.cells (cel b).toArray 26)
  have hA : ((w.alloc (.cells (cel a).toArray 26)).alloc (.cells (cel b).toArray 26)).rangeAt w.heap.size 0 (cel a) := World.rangeAt_alloc (range_new w (cel a) 26) _
  have hB : ((w.alloc (.cells (cel a).toArray 26)).alloc (.cells (cel b).toArray 26)).rangeAt (w.heap.size + 1) 0 (cel b) := by
    have := range_new (w.alloc (.cells (cel a).toArray 26)) (cel b) 26
    rwa [World.size_alloc] at this
  have HA := Lib.hid hA
  have HB := Lib.hid hB
  have H2 := Lib.hid h2
  have HT := Lib.hid (T.below h2)
  have HS := Lib.hid (show w.heap.size + 1 < ((w.alloc (.cells (cel a).toArray 26)).alloc (.cells (cel b).toArray 26)).heap.size from by simp only [World.size_alloc]; omega)
  clear h1 h2 hA hB
  clear T
  obtain ⟨x, hx⟩ : ∃ x, getN a.toList = x := ⟨_, rfl⟩
  obtain ⟨y, hy⟩ : ∃ y, getN b.toList = y := ⟨_, rfl⟩
  rw [hx] at h0 h1
  rw [hy] at h0
  have HX := Lib.hid hx
  have HY := Lib.hid hy
  clear hx hy
  have hx0 : ((x : Int) == 0) = false := by simp; omega
  have hlt : decide ((x : Int) < (y : Int)) = false := by simp; omega
  have hlt2 : decide (x < y) = false := by simp; omega
  clear h0 h1
  go_enter Tryd.func16, Tryd.ntmps16
  go_wp2_with (first | (refine wpList_val rfl (exec_box rfl rfl) ?_) | (refine wpList_val rfl (exec_load rfl rfl HA.out) ?_) | fail)
  refine (pget_any a _ _ (Lib.hid rfl) HT.out).mono ?_
  rintro e w1 ⟨v, rfl, hv, hb1⟩
  have HB1 := Lib.hid (range_below HB.out HS.out hb1)
  have H3 := Lib.hid (H2.out.trans (hb1.mono (by simp only [World.size_alloc]; omega)))
  have HT2 := Lib.hid (HT.out.below hb1)
  clear hv hb1
  rw [HX.out]
  go_wp2_with (first | (refine wpList_val rfl (exec_load rfl rfl HB1.out) ?_) | fail)
  refine (pget_any b _ _ (Lib.hid rfl) HT2.out).mono ?_
  rintro e w2 ⟨v2, rfl, hv2, hb2⟩
  have H4 := Lib.hid (H3.out.trans (hb2.mono H3.out.size))
  clear hv2 hb2
  rw [HY.out]
  go_wp2_with fail
  go_ret2
  exact ⟨rfl, H4.out⟩
theorem pnew_any (a b : Blk) (w : World) (T : Tab w) : Calls Tryd.prog 16 #[blk a, blk b] w fun e w' => e = .returned (.tuple #[.int .i64 (newW a.toList b.toList : Nat), .int .i64 (newE a.toList b.toList : Nat)]) ∧ Below w.heap.size w w' := by
  unfold newW newE
  by_cases hlt : getN a.toList < getN b.toList
  · rw [if_pos hlt, if_neg (by omega)]
    exact pnew_second a b w T hlt
  · rw [if_neg hlt]
    by_cases h0 : getN a.toList = 0
    · rw [if_pos (by omega)]
      exact pnew_none a b w T h0 (by omega)
    · rw [if_neg (by omega)]
      exact pnew_first a b w T hlt h0
end Go.Proofs.YtdinnbmeolojgaaDoor
