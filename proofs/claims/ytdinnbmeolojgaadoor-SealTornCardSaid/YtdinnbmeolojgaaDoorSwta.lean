/-
  The walk of SealTorn: what is refused.
-/
import Derived.Test.YtdinnbmeolojgaaDoorSwt
namespace Go.Proofs.YtdinnbmeolojgaaDoor
open Go.RowKit
set_option linter.unusedVariables false
set_option maxRecDepth 100000

set_option maxHeartbeats 8000000 in
theorem sealTorn_no (n o m c m2 c2 : Nat) (A A2 : Option Addr) (b b2 : List UInt8) (t : Int) (w : World) (T : Tab w) (hn : n < 18446744073709551616) (ho : o < 18446744073709551616) (hb : Rd w w.heap.size A m b) (hb2 : Rd w w.heap.size A2 m2 b2) (hm : m ≤ 140737488351232) (hm2 : m2 ≤ 140737488351232) (h : putE n b ≠ 0) :
    Calls Tryd.prog 6 #[.int .u64 n, .int .u64 o, .slice A m c, .slice A2 m2 c2, .int .i64 t] w fun e w' => e = .returned (.bool true) ∧ Below w.heap.size w w' := by
  have HT := Lib.hid T
  have HP := Lib.hid (put_all n m c _ A b w T hn hb (Nat.le_refl _) (by unfold maxLen; omega))
  clear T hb hn hb2 ho
  generalize putB n b = x at *
  generalize putE n b = z at *
  have hz : ((z : Int) != 0) = true := by simp; omega
  go_enter Tryd.func6, Tryd.ntmps6
  go_wp2_with fail
  refine HP.out.mono ?_
  rintro e w1 ⟨rfl, hb1⟩
  have HB1 := Lib.hid (hb1.alloc hb1.size (.cells (cel x).toArray 26))
  clear hb1 HP
  go_wp2_with (first | (refine wpList_valn rfl (exec_alloc rfl) ?_) | (refine wpList_nuln rfl (exec_fillN rfl rfl rfl) ?_) | fail)
  refine (seal_lives _ (HT.out.below HB1.out)).mono ?_
  rintro e w9 ⟨rfl, hb9⟩
  have HB9 := Lib.hid (HB1.out.trans (hb9.mono HB1.out.size))
  clear hb9
  go_wp2
  go_ret
  exact ⟨rfl, HB9.out⟩
set_option maxHeartbeats 8000000 in
theorem sealTorn_same (n o m c m2 c2 : Nat) (A A2 : Option Addr) (b b2 : List UInt8) (t : Int) (w : World) (T : Tab w) (hn : n < 18446744073709551616) (ho : o < 18446744073709551616) (hb : Rd w w.heap.size A m b) (hb2 : Rd w w.heap.size A2 m2 b2) (hm : m ≤ 140737488351232) (hm2 : m2 ≤ 140737488351232) (h : putE n b = 0) (hno : n = o) :
    Calls Tryd.prog 6 #[.int .u64 n, .int .u64 o, .slice A m c, .slice A2 m2 c2, .int .i64 t] w fun e w' => e = .returned (.bool true) ∧ Below w.heap.size w w' := by
  have HT := Lib.hid T
  have HP := Lib.hid (put_all n m c _ A b w T hn hb (Nat.le_refl _) (by unfold maxLen; omega))
  rw [h] at HP
  clear T hb hn hb2 ho h
  generalize putB n b = x at *
  have hz : ((n : Int) == (o : Int)) = true := by simp; omega
  clear hno
  go_enter Tryd.func6, Tryd.ntmps6
  go_wp2_with fail
  refine HP.out.mono ?_
  rintro e w1 ⟨rfl, hb1⟩
  have HB1 := Lib.hid (hb1.alloc hb1.size (.cells (cel x).toArray 26))
  clear hb1 HP
  go_wp2_with (first | (refine wpList_valn rfl (exec_alloc rfl) ?_) | (refine wpList_nuln rfl (exec_fillN rfl rfl rfl) ?_) | fail)
  refine (seal_lives _ (HT.out.below HB1.out)).mono ?_
  rintro e w9 ⟨rfl, hb9⟩
  have HB9 := Lib.hid (HB1.out.trans (hb9.mono HB1.out.size))
  clear hb9
  go_wp2
  go_ret
  exact ⟨rfl, HB9.out⟩
set_option maxHeartbeats 8000000 in
theorem sealTorn_refused (n o m c m2 c2 : Nat) (A A2 : Option Addr) (b b2 : List UInt8) (t : Int) (w : World) (T : Tab w) (hn : n < 18446744073709551616) (ho : o < 18446744073709551616) (hb : Rd w w.heap.size A m b) (hb2 : Rd w w.heap.size A2 m2 b2) (hm : m ≤ 140737488351232) (hm2 : m2 ≤ 140737488351232) (h : putE n b = 0) (hno : n ≠ o) (h0 : 0 < o) (h2 : putE o b2 ≠ 0) :
    Calls Tryd.prog 6 #[.int .u64 n, .int .u64 o, .slice A m c, .slice A2 m2 c2, .int .i64 t] w fun e w' => e = .returned (.bool true) ∧ Below w.heap.size w w' := by
  have HT := Lib.hid T
  have HP := Lib.hid (put_all n m c _ A b w T hn hb (Nat.le_refl _) (by unfold maxLen; omega))
  rw [h] at HP
  have HP2 : Hid (∀ w1, Below w.heap.size w w1 → Calls Tryd.prog 10 #[.int .u64 o, .slice A2 m2 c2] w1 fun e w' => e = .returned (.tuple #[blk (putB o b2), .int .i64 (putE o b2 : Nat)]) ∧ Below w1.heap.size w1 w') :=
    Lib.hid fun w1 h1 => put_all o m2 c2 _ A2 b2 w1 (HT.out.below h1) ho (hb2.below h1) h1.size (by unfold maxLen; omega)
  clear T hb hn hb2 ho h
  generalize putB n b = x at *
  generalize putB o b2 = x2 at *
  generalize putE o b2 = z at *
  have hz : ((n : Int) == (o : Int)) = false := by simp; omega
  have hz2 : ((z : Int) != 0) = true := by simp; omega
  have hgt : decide ((0 : Int) < (o : Int)) = true := by simp; omega
  clear hno h2
  go_enter Tryd.func6, Tryd.ntmps6
  go_wp2_with fail
  refine HP.out.mono ?_
  rintro e w1 ⟨rfl, hb1⟩
  have HN1 := Lib.hid (range_new w1 (cel x) 26)
  have h1 := hb1.alloc hb1.size (.cells (cel x).toArray 26)
  have h2 := h1.alloc h1.size (.cells (cel zeroB).toArray 26)
  have hx2 : ((w1.alloc (.cells (cel x).toArray 26)).alloc (.cells (cel zeroB).toArray 26)).rangeAt w1.heap.size 0 (cel x) := World.rangeAt_alloc (range_new w1 (cel x) 26) _
  have ho2 : RowL ((w1.alloc (.cells (cel x).toArray 26)).alloc (.cells (cel zeroB).toArray 26)) (w1.heap.size + 1) 26 zeroB.toList := by
    have := RowL.blk (w1.alloc (.cells (cel x).toArray 26)) zeroB 26
    rwa [World.size_alloc] at this
  have hs2 : w1.heap.size + 1 < ((w1.alloc (.cells (cel x).toArray 26)).alloc (.cells (cel zeroB).toArray 26)).heap.size := by simp only [World.size_alloc]; omega
  have HX2 := Lib.hid hx2
  have HO2 := Lib.hid ho2
  have HS2 := Lib.hid hs2
  have HB2 := Lib.hid h2
  have HL1 : Hid (w.heap.size ≤ w1.heap.size) := Lib.hid hb1.size
  clear hb1 h1 h2 hx2 ho2 hs2 HP HN1
  go_wp2_with (first | (refine wpList_valn rfl (exec_alloc rfl) ?_) | (refine wpList_nuln rfl (exec_fillN rfl rfl rfl) ?_) | (refine wpList_valn rfl (exec_build (c := zeroB) (parts := []) rfl rfl) ?_) | fail)
  generalize (w1.alloc (.cells (cel x).toArray 26)).alloc (.cells (cel zeroB).toArray 26) = w2 at *
  generalize w1.heap.size = r1 at *
  refine (HP2.out w2 HB2.out).mono ?_
  rintro e w3 ⟨rfl, hb3⟩
  have h3 := HB2.out.trans (hb3.mono HB2.out.size)
  have HB3 := Lib.hid (h3.alloc h3.size (.cells (cel x2).toArray 26))
  clear hb3 h3
  go_wp2_with (first | (refine wpList_valn rfl (exec_alloc rfl) ?_) | (refine wpList_nuln rfl (exec_fillN rfl rfl rfl) ?_) | fail)
  refine (seal_lives _ (HT.out.below HB3.out)).mono ?_
  rintro e w9 ⟨rfl, hb9⟩
  have HB9 := Lib.hid (HB3.out.trans (hb9.mono HB3.out.size))
  clear hb9
  go_wp2
  go_ret
  exact ⟨rfl, HB9.out⟩
end Go.Proofs.YtdinnbmeolojgaaDoor
