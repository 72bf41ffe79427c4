/-
  The walk of SealPuts.
-/
import Derived.Test.YtdinnbmeolojgaaDoorSlv
import Derived.Test.YtdinnbmeolojgaaDoorSrp
import Derived.Test.YtdinnbmeolojgaaDoorWide
namespace Go.Proofs.YtdinnbmeolojgaaDoor
open Go.RowKit
set_option linter.unusedVariables false
set_option maxRecDepth 100000

set_option maxHeartbeats 4000000 in
theorem sealPuts_walk (n m c : Nat) (A : Option Addr) (b : List UInt8) (w : World) (T : Tab w) (hn : n < 18446744073709551616) (hb : Rd w w.heap.size A m b) (hm : m ≤ 140737488351232) :
    Calls Tryd.prog 3 #[.int .u64 n, .slice A m c] w fun e w' => e = .returned (.bool true) ∧ Below w.heap.size w w' := by
  have HN := Lib.hid hn
  have HT := Lib.hid T
  have HR := Lib.hid hb
  have HL := Lib.hid hb.1
  have HM : Hid (m ≤ maxLen) := Lib.hid (by unfold maxLen; omega)
  clear hn T hb
  go_enter Tryd.func3, Tryd.ntmps3
  go_wp2_with fail
  refine (wide_any A m c _ _ b w (Lib.hid rfl) HR.out (Nat.le_refl _) hm).mono ?_
  rintro e w1 ⟨g, rfl, hg, hw1, hb1⟩
  have HW1 := Lib.hid hw1
  have HB1 := Lib.hid hb1
  have HG1 : Hid (g < w1.heap.size) := Lib.hid hw1.lt
  have HR1 : Hid (Rd w1 w1.heap.size (some ⟨g, 0, none⟩) m b) := Lib.hid (by have := hw1.rd; rwa [HL.out] at this)
  clear hw1 hb1 hg
  go_wp2_with fail
  refine (put_all n m (m + 3) _ _ b w1 (HT.out.below HB1.out) HN.out HR1.out (Nat.le_refl _) HM.out).mono ?_
  rintro e w2 ⟨rfl, hb2⟩
  obtain ⟨x, hx⟩ : ∃ x, putB n b = x := ⟨_, rfl⟩
  obtain ⟨z, hz⟩ : ∃ z, putE n b = z := ⟨_, rfl⟩
  rw [hx, hz]
  have HX := Lib.hid hx
  have HZ := Lib.hid hz
  have h12 := hb2.alloc hb2.size (.cells (cel x).toArray 26)
  have HW2 := Lib.hid (HW1.out.below h12)
  have HB2 := Lib.hid (HB1.out.trans (h12.mono HB1.out.size))
  have HR2 := Lib.hid (range_new w2 (cel x) 26)
  have HS2 := Lib.hid (World.size_alloc w2 (.cells (cel x).toArray 26))
  have HG2 : Hid (g < w2.heap.size) := Lib.hid (by have := hb2.size; have := HG1.out; omega)
  clear hx hz hb2 h12 HW1 HR1 HG1
  go_wp2_with (first | (refine wpList_val rfl (exec_alloc rfl) ?_) | (refine wpList_nul rfl (exec_fillN rfl rfl rfl) ?_) | fail)
  generalize hw2 : w2.alloc (.cells (cel x).toArray 26) = v2 at *
  generalize hr2 : w2.heap.size = r2 at *
  clear hw2 hr2
  refine (rsput_all n m c _ A b v2 HN.out (HR.out.below HB2.out) HB2.out.size HM.out).mono ?_
  rintro e w3 ⟨rfl, hb3⟩
  rw [HX.out, HZ.out]
  have h3 := hb3.alloc hb3.size (.cells (cel x).toArray 26)
  have HW3 := Lib.hid (HW2.out.below h3)
  have HB3 := Lib.hid (HB2.out.trans (h3.mono HB2.out.size))
  have HR3 := Lib.hid (range_below HR2.out (by rw [HS2.out]; omega) h3)
  have HR4 := Lib.hid (range_new w3 (cel x) 26)
  clear hb3 h3 HW2 HB2 HR2 HS2 HG2 HB1
  go_wp2_with (first | (refine wpList_val rfl (exec_alloc rfl) ?_) | (refine wpList_nul rfl (exec_fillN rfl rfl rfl) ?_) | (refine wpList_val rfl (exec_load rfl rfl HR3.out) ?_) | (refine wpList_val rfl (exec_load rfl rfl HR4.out) ?_) | (refine wpList_val rfl (exec_eql rfl rfl rfl) ?_) | fail)
  refine (left_yes A m c _ g _ b _ (Lib.hid rfl) HW3.out (HR.out.below HB3.out) HB3.out.size hm).mono ?_
  rintro e w4 ⟨rfl, hb4⟩
  have HB4 := Lib.hid (HB3.out.trans (hb4.mono HB3.out.size))
  clear hb4 HR3 HR4 HW3 HB3
  go_wp2_with fail
  refine (seal_lives w4 (HT.out.below HB4.out)).mono ?_
  rintro e w5 ⟨rfl, hb5⟩
  have HB5 := Lib.hid (HB4.out.trans (hb5.mono HB4.out.size))
  clear hb5
  go_wp2
  go_ret
  exact ⟨rfl, HB5.out⟩
end Go.Proofs.YtdinnbmeolojgaaDoor
