/-
  The walk of SealNewest.
-/
import Derived.Test.YtdinnbmeolojgaaDoorSlv
namespace Go.Proofs.YtdinnbmeolojgaaDoor
open Go.RowKit
set_option linter.unusedVariables false
set_option maxRecDepth 100000

set_option maxHeartbeats 8000000 in
theorem sealNewest_first (n m k1 c1 k2 c2 : Nat) (A1 A2 : Option Addr) (a b : List UInt8) (s : Blk) (w : World) (T : Tab w) (hn : n < 18446744073709551616) (hm : m < 18446744073709551616) (ha : Rd w w.heap.size A1 k1 a) (hb : Rd w w.heap.size A2 k2 b) (hk1 : k1 ≤ 140737488351232) (hk2 : k2 ≤ 140737488351232) (h : putE n a ≠ 0) :
    Calls Tryd.prog 8 #[.int .u64 n, .int .u64 m, .slice A1 k1 c1, .slice A2 k2 c2, blk s] w fun e w' => e = .returned (.bool true) ∧ Below w.heap.size w w' := by
  have HT := Lib.hid T
  have h0 := (Below.refl w.heap.size w).alloc (Nat.le_refl _) (.cells (cel s).toArray 26)
  have HB0 := Lib.hid h0
  have HS0 := Lib.hid (range_new w (cel s) 26)
  have HP1 : Hid (∀ w1, Below w.heap.size w w1 → Calls Tryd.prog 10 #[.int .u64 n, .slice A1 k1 c1] w1 fun e w' => e = .returned (.tuple #[blk (putB n a), .int .i64 (putE n a : Nat)]) ∧ Below w1.heap.size w1 w') :=
    Lib.hid fun w1 h1 => put_all n k1 c1 _ A1 a w1 (HT.out.below h1) hn (ha.below h1) h1.size (by unfold maxLen; omega)
  have HP2 : Hid (∀ w1, Below w.heap.size w w1 → Calls Tryd.prog 10 #[.int .u64 m, .slice A2 k2 c2] w1 fun e w' => e = .returned (.tuple #[blk (putB m b), .int .i64 (putE m b : Nat)]) ∧ Below w1.heap.size w1 w') :=
    Lib.hid fun w1 h1 => put_all m k2 c2 _ A2 b w1 (HT.out.below h1) hm (hb.below h1) h1.size (by unfold maxLen; omega)
  have HSZ : Hid (w.heap.size < (w.alloc (.cells (cel s).toArray 26)).heap.size) := Lib.hid (by simp only [World.size_alloc]; omega)
  clear h0
  clear T ha hb hn hm
  generalize putE m b = z2 at *
  generalize putB n a = x at *
  generalize putB m b = y at *
  generalize putE n a = z at *
  have hz : ((z : Int) != 0) = true := by simp; omega
  go_enter Tryd.func8, Tryd.ntmps8
  go_wp2_with (first | (refine wpList_valn rfl (exec_box rfl rfl) ?_) | fail)
  generalize hw0 : w.alloc (.cells (cel s).toArray 26) = w0 at *
  clear hw0
  refine (HP1.out w0 HB0.out).mono ?_
  rintro e w1 ⟨rfl, hb1⟩
  have h1 := hb1.alloc hb1.size (.cells (cel x).toArray 26)
  have HB1 := Lib.hid (HB0.out.trans (h1.mono HB0.out.size))
  have HS1 := Lib.hid (range_below HS0.out HSZ.out h1)
  have HX1 := Lib.hid (range_new w1 (cel x) 26)
  have HZ1 : Hid (w.heap.size < (w1.alloc (.cells (cel x).toArray 26)).heap.size ∧ w1.heap.size < (w1.alloc (.cells (cel x).toArray 26)).heap.size) := Lib.hid (by have := hb1.size; have := HSZ.out; simp only [World.size_alloc]; omega)
  clear hb1 h1 HP1 HS0 HSZ HB0
  go_wp2_with (first | (refine wpList_valn rfl (exec_alloc rfl) ?_) | (refine wpList_nuln rfl (exec_fillN rfl rfl rfl) ?_) | fail)
  generalize w1.alloc (.cells (cel x).toArray 26) = v1 at *
  generalize w1.heap.size = r1 at *
  refine (HP2.out v1 HB1.out).mono ?_
  rintro e w2 ⟨rfl, hb2⟩
  have h2 := hb2.alloc hb2.size (.cells (cel y).toArray 26)
  have HB2 := Lib.hid (HB1.out.trans (h2.mono HB1.out.size))
  have HS2 := Lib.hid (range_below HS1.out HZ1.out.1 h2)
  have HX2 := Lib.hid (range_below HX1.out HZ1.out.2 h2)
  have HY2 := Lib.hid (range_new w2 (cel y) 26)
  have HZ2 : Hid (w.heap.size < (w2.alloc (.cells (cel y).toArray 26)).heap.size ∧ r1 < (w2.alloc (.cells (cel y).toArray 26)).heap.size ∧ w2.heap.size < (w2.alloc (.cells (cel y).toArray 26)).heap.size) := Lib.hid (by have := hb2.size; have := HZ1.out; simp only [World.size_alloc]; omega)
  clear hb2 h2 HP2 HS1 HX1 HB1 HZ1
  go_wp2_with (first | (refine wpList_valn rfl (exec_alloc rfl) ?_) | (refine wpList_nuln rfl (exec_fillN rfl rfl rfl) ?_) | fail)
  refine (seal_lives _ (HT.out.below HB2.out)).mono ?_
  rintro e w9 ⟨rfl, hb9⟩
  have HB99 := Lib.hid (HB2.out.trans (hb9.mono HB2.out.size))
  clear hb9
  go_wp2
  go_ret
  exact ⟨rfl, HB99.out⟩
set_option maxHeartbeats 8000000 in
theorem sealNewest_second (n m k1 c1 k2 c2 : Nat) (A1 A2 : Option Addr) (a b : List UInt8) (s : Blk) (w : World) (T : Tab w) (hn : n < 18446744073709551616) (hm : m < 18446744073709551616) (ha : Rd w w.heap.size A1 k1 a) (hb : Rd w w.heap.size A2 k2 b) (hk1 : k1 ≤ 140737488351232) (hk2 : k2 ≤ 140737488351232) (h : putE n a = 0) (h2 : putE m b ≠ 0) :
    Calls Tryd.prog 8 #[.int .u64 n, .int .u64 m, .slice A1 k1 c1, .slice A2 k2 c2, blk s] w fun e w' => e = .returned (.bool true) ∧ Below w.heap.size w w' := by
  have HT := Lib.hid T
  have h0 := (Below.refl w.heap.size w).alloc (Nat.le_refl _) (.cells (cel s).toArray 26)
  have HB0 := Lib.hid h0
  have HS0 := Lib.hid (range_new w (cel s) 26)
  have HP1 : Hid (∀ w1, Below w.heap.size w w1 → Calls Tryd.prog 10 #[.int .u64 n, .slice A1 k1 c1] w1 fun e w' => e = .returned (.tuple #[blk (putB n a), .int .i64 (putE n a : Nat)]) ∧ Below w1.heap.size w1 w') :=
    Lib.hid fun w1 h1 => put_all n k1 c1 _ A1 a w1 (HT.out.below h1) hn (ha.below h1) h1.size (by unfold maxLen; omega)
  have HP2 : Hid (∀ w1, Below w.heap.size w w1 → Calls Tryd.prog 10 #[.int .u64 m, .slice A2 k2 c2] w1 fun e w' => e = .returned (.tuple #[blk (putB m b), .int .i64 (putE m b : Nat)]) ∧ Below w1.heap.size w1 w') :=
    Lib.hid fun w1 h1 => put_all m k2 c2 _ A2 b w1 (HT.out.below h1) hm (hb.below h1) h1.size (by unfold maxLen; omega)
  have HSZ : Hid (w.heap.size < (w.alloc (.cells (cel s).toArray 26)).heap.size) := Lib.hid (by simp only [World.size_alloc]; omega)
  clear h0
  rw [h] at HP1
  clear T ha hb hn hm h
  generalize putB n a = x at *
  generalize putB m b = y at *
  generalize putE m b = z2 at *
  have hz2 : ((z2 : Int) != 0) = true := by simp; omega
  go_enter Tryd.func8, Tryd.ntmps8
  go_wp2_with (first | (refine wpList_valn rfl (exec_box rfl rfl) ?_) | fail)
  generalize hw0 : w.alloc (.cells (cel s).toArray 26) = w0 at *
  clear hw0
  refine (HP1.out w0 HB0.out).mono ?_
  rintro e w1 ⟨rfl, hb1⟩
  have h1 := hb1.alloc hb1.size (.cells (cel x).toArray 26)
  have HB1 := Lib.hid (HB0.out.trans (h1.mono HB0.out.size))
  have HS1 := Lib.hid (range_below HS0.out HSZ.out h1)
  have HX1 := Lib.hid (range_new w1 (cel x) 26)
  have HZ1 : Hid (w.heap.size < (w1.alloc (.cells (cel x).toArray 26)).heap.size ∧ w1.heap.size < (w1.alloc (.cells (cel x).toArray 26)).heap.size) := Lib.hid (by have := hb1.size; have := HSZ.out; simp only [World.size_alloc]; omega)
  clear hb1 h1 HP1 HS0 HSZ HB0
  go_wp2_with (first | (refine wpList_valn rfl (exec_alloc rfl) ?_) | (refine wpList_nuln rfl (exec_fillN rfl rfl rfl) ?_) | fail)
  generalize w1.alloc (.cells (cel x).toArray 26) = v1 at *
  generalize w1.heap.size = r1 at *
  refine (HP2.out v1 HB1.out).mono ?_
  rintro e w2 ⟨rfl, hb2⟩
  have h2 := hb2.alloc hb2.size (.cells (cel y).toArray 26)
  have HB2 := Lib.hid (HB1.out.trans (h2.mono HB1.out.size))
  have HS2 := Lib.hid (range_below HS1.out HZ1.out.1 h2)
  have HX2 := Lib.hid (range_below HX1.out HZ1.out.2 h2)
  have HY2 := Lib.hid (range_new w2 (cel y) 26)
  have HZ2 : Hid (w.heap.size < (w2.alloc (.cells (cel y).toArray 26)).heap.size ∧ r1 < (w2.alloc (.cells (cel y).toArray 26)).heap.size ∧ w2.heap.size < (w2.alloc (.cells (cel y).toArray 26)).heap.size) := Lib.hid (by have := hb2.size; have := HZ1.out; simp only [World.size_alloc]; omega)
  clear hb2 h2 HP2 HS1 HX1 HB1 HZ1
  go_wp2_with (first | (refine wpList_valn rfl (exec_alloc rfl) ?_) | (refine wpList_nuln rfl (exec_fillN rfl rfl rfl) ?_) | fail)
  refine (seal_lives _ (HT.out.below HB2.out)).mono ?_
  rintro e w9 ⟨rfl, hb9⟩
  have HB99 := Lib.hid (HB2.out.trans (hb9.mono HB2.out.size))
  clear hb9
  go_wp2
  go_ret
  exact ⟨rfl, HB99.out⟩
set_option maxHeartbeats 8000000 in
theorem sealNewest_both11 (n m k1 c1 k2 c2 : Nat) (A1 A2 : Option Addr) (a b : List UInt8) (s : Blk) (w : World) (T : Tab w) (hn : n < 18446744073709551616) (hm : m < 18446744073709551616) (ha : Rd w w.heap.size A1 k1 a) (hb : Rd w w.heap.size A2 k2 b) (hk1 : k1 ≤ 140737488351232) (hk2 : k2 ≤ 140737488351232) (h : putE n a = 0) (h2 : putE m b = 0) (hlt : n < m) (hs : getE s.toList = 0) :
    Calls Tryd.prog 8 #[.int .u64 n, .int .u64 m, .slice A1 k1 c1, .slice A2 k2 c2, blk s] w fun e w' => e = .returned (.bool true) ∧ Below w.heap.size w w' := by
  have HT := Lib.hid T
  have h0 := (Below.refl w.heap.size w).alloc (Nat.le_refl _) (.cells (cel s).toArray 26)
  have HB0 := Lib.hid h0
  have HS0 := Lib.hid (range_new w (cel s) 26)
  have HP1 : Hid (∀ w1, Below w.heap.size w w1 → Calls Tryd.prog 10 #[.int .u64 n, .slice A1 k1 c1] w1 fun e w' => e = .returned (.tuple #[blk (putB n a), .int .i64 (putE n a : Nat)]) ∧ Below w1.heap.size w1 w') :=
    Lib.hid fun w1 h1 => put_all n k1 c1 _ A1 a w1 (HT.out.below h1) hn (ha.below h1) h1.size (by unfold maxLen; omega)
  have HP2 : Hid (∀ w1, Below w.heap.size w w1 → Calls Tryd.prog 10 #[.int .u64 m, .slice A2 k2 c2] w1 fun e w' => e = .returned (.tuple #[blk (putB m b), .int .i64 (putE m b : Nat)]) ∧ Below w1.heap.size w1 w') :=
    Lib.hid fun w1 h1 => put_all m k2 c2 _ A2 b w1 (HT.out.below h1) hm (hb.below h1) h1.size (by unfold maxLen; omega)
  have HSZ : Hid (w.heap.size < (w.alloc (.cells (cel s).toArray 26)).heap.size) := Lib.hid (by simp only [World.size_alloc]; omega)
  clear h0
  rw [h] at HP1
  rw [h2] at HP2
  have gx := put_getN hn h
  have gy := put_getN hm h2
  have n0 := (of_putE h).1
  have m0 := (of_putE h2).1
  have hW : newW (putB n a).toList (putB m b).toList = 1 := by unfold newW; rw [gx, gy]; exact if_pos hlt
  have hE : newE (putB n a).toList (putB m b).toList = 0 := by unfold newE; rw [gx, gy]; exact if_neg (by omega)
  have hd1 : decide ((n : Int) < (m : Int)) = true := by simp; omega
  have hd2 : decide (n < m) = true := by simp; omega
  clear T ha hb hn hm h h2 gx gy n0 m0 hlt
  generalize putB n a = x at *
  generalize putB m b = y at *
  have HW := Lib.hid hW
  have HE := Lib.hid hE
  clear hW hE
  have HGE := Lib.hid hs
  clear hs
  go_enter Tryd.func8, Tryd.ntmps8
  go_wp2_with (first | (refine wpList_valn rfl (exec_box rfl rfl) ?_) | fail)
  generalize hw0 : w.alloc (.cells (cel s).toArray 26) = w0 at *
  clear hw0
  refine (HP1.out w0 HB0.out).mono ?_
  rintro e w1 ⟨rfl, hb1⟩
  have h1 := hb1.alloc hb1.size (.cells (cel x).toArray 26)
  have HB1 := Lib.hid (HB0.out.trans (h1.mono HB0.out.size))
  have HS1 := Lib.hid (range_below HS0.out HSZ.out h1)
  have HX1 := Lib.hid (range_new w1 (cel x) 26)
  have HZ1 : Hid (w.heap.size < (w1.alloc (.cells (cel x).toArray 26)).heap.size ∧ w1.heap.size < (w1.alloc (.cells (cel x).toArray 26)).heap.size) := Lib.hid (by have := hb1.size; have := HSZ.out; simp only [World.size_alloc]; omega)
  clear hb1 h1 HP1 HS0 HSZ HB0
  go_wp2_with (first | (refine wpList_valn rfl (exec_alloc rfl) ?_) | (refine wpList_nuln rfl (exec_fillN rfl rfl rfl) ?_) | fail)
  generalize w1.alloc (.cells (cel x).toArray 26) = v1 at *
  generalize w1.heap.size = r1 at *
  refine (HP2.out v1 HB1.out).mono ?_
  rintro e w2 ⟨rfl, hb2⟩
  have h2 := hb2.alloc hb2.size (.cells (cel y).toArray 26)
  have HB2 := Lib.hid (HB1.out.trans (h2.mono HB1.out.size))
  have HS2 := Lib.hid (range_below HS1.out HZ1.out.1 h2)
  have HX2 := Lib.hid (range_below HX1.out HZ1.out.2 h2)
  have HY2 := Lib.hid (range_new w2 (cel y) 26)
  have HZ2 : Hid (w.heap.size < (w2.alloc (.cells (cel y).toArray 26)).heap.size ∧ r1 < (w2.alloc (.cells (cel y).toArray 26)).heap.size ∧ w2.heap.size < (w2.alloc (.cells (cel y).toArray 26)).heap.size) := Lib.hid (by have := hb2.size; have := HZ1.out; simp only [World.size_alloc]; omega)
  clear hb2 h2 HP2 HS1 HX1 HB1 HZ1
  go_wp2_with (first | (refine wpList_valn rfl (exec_alloc rfl) ?_) | (refine wpList_nuln rfl (exec_fillN rfl rfl rfl) ?_) | (refine wpList_valn rfl (exec_load (c := x) rfl rfl ?_) ?_; (with_reducible exact HX2.out)) | (refine wpList_valn rfl (exec_load (c := y) rfl rfl ?_) ?_; (with_reducible exact HY2.out)) | fail)
  generalize w2.alloc (.cells (cel y).toArray 26) = v2 at *
  generalize w2.heap.size = r2 at *
  refine (pnew_any x y v2 (HT.out.below HB2.out)).mono ?_
  rintro e w3 ⟨rfl, hb3⟩
  rw [HW.out, HE.out]
  have HB3 := Lib.hid (HB2.out.trans (hb3.mono HB2.out.size))
  have HS3 := Lib.hid (range_below HS2.out HZ2.out.1 hb3)
  have HX3 := Lib.hid (range_below HX2.out HZ2.out.2.1 hb3)
  have HY3 := Lib.hid (range_below HY2.out HZ2.out.2.2 hb3)
  have HZ3 : Hid (w.heap.size < w3.heap.size ∧ r1 < w3.heap.size ∧ r2 < w3.heap.size) := Lib.hid (by have := hb3.size; have := HZ2.out; omega)
  clear hb3 HB2 HS2 HX2 HY2 HZ2
  go_wp2_with (first | (refine wpList_valn rfl (exec_load rfl rfl HS3.out) ?_) | fail)
  refine (pget_any s _ w3 (Lib.hid rfl) (HT.out.below HB3.out)).mono ?_
  rintro e w4 ⟨v4, rfl, _, hb4⟩
  rw [HGE.out]
  have HB4 := Lib.hid (HB3.out.trans (hb4.mono HB3.out.size))
  clear hb4
  go_wp2_with fail
  refine (seal_lives _ (HT.out.below HB4.out)).mono ?_
  rintro e w9 ⟨rfl, hb9⟩
  have HB99 := Lib.hid (HB4.out.trans (hb9.mono HB4.out.size))
  clear hb9
  go_wp2
  go_ret
  exact ⟨rfl, HB99.out⟩
set_option maxHeartbeats 8000000 in
theorem sealNewest_both10 (n m k1 c1 k2 c2 : Nat) (A1 A2 : Option Addr) (a b : List UInt8) (s : Blk) (w : World) (T : Tab w) (hn : n < 18446744073709551616) (hm : m < 18446744073709551616) (ha : Rd w w.heap.size A1 k1 a) (hb : Rd w w.heap.size A2 k2 b) (hk1 : k1 ≤ 140737488351232) (hk2 : k2 ≤ 140737488351232) (h : putE n a = 0) (h2 : putE m b = 0) (hlt : n < m) (hs : getE s.toList ≠ 0) :
    Calls Tryd.prog 8 #[.int .u64 n, .int .u64 m, .slice A1 k1 c1, .slice A2 k2 c2, blk s] w fun e w' => e = .returned (.bool true) ∧ Below w.heap.size w w' := by
  have HT := Lib.hid T
  have h0 := (Below.refl w.heap.size w).alloc (Nat.le_refl _) (.cells (cel s).toArray 26)
  have HB0 := Lib.hid h0
  have HS0 := Lib.hid (range_new w (cel s) 26)
  have HP1 : Hid (∀ w1, Below w.heap.size w w1 → Calls Tryd.prog 10 #[.int .u64 n, .slice A1 k1 c1] w1 fun e w' => e = .returned (.tuple #[blk (putB n a), .int .i64 (putE n a : Nat)]) ∧ Below w1.heap.size w1 w') :=
    Lib.hid fun w1 h1 => put_all n k1 c1 _ A1 a w1 (HT.out.below h1) hn (ha.below h1) h1.size (by unfold maxLen; omega)
  have HP2 : Hid (∀ w1, Below w.heap.size w w1 → Calls Tryd.prog 10 #[.int .u64 m, .slice A2 k2 c2] w1 fun e w' => e = .returned (.tuple #[blk (putB m b), .int .i64 (putE m b : Nat)]) ∧ Below w1.heap.size w1 w') :=
    Lib.hid fun w1 h1 => put_all m k2 c2 _ A2 b w1 (HT.out.below h1) hm (hb.below h1) h1.size (by unfold maxLen; omega)
  have HSZ : Hid (w.heap.size < (w.alloc (.cells (cel s).toArray 26)).heap.size) := Lib.hid (by simp only [World.size_alloc]; omega)
  clear h0
  rw [h] at HP1
  rw [h2] at HP2
  have gx := put_getN hn h
  have gy := put_getN hm h2
  have n0 := (of_putE h).1
  have m0 := (of_putE h2).1
  have hW : newW (putB n a).toList (putB m b).toList = 1 := by unfold newW; rw [gx, gy]; exact if_pos hlt
  have hE : newE (putB n a).toList (putB m b).toList = 0 := by unfold newE; rw [gx, gy]; exact if_neg (by omega)
  have gs := getN_no hs
  have hW1 : newW s.toList (putB m b).toList = 1 := by unfold newW; rw [gs, gy]; exact if_pos (by omega)
  have hE1 : newE s.toList (putB m b).toList = 0 := by unfold newE; rw [gs, gy]; exact if_neg (by omega)
  have hW2 : newW (putB n a).toList s.toList = 0 := by unfold newW; rw [gx, gs]; exact if_neg (by omega)
  have hE2 : newE (putB n a).toList s.toList = 0 := by unfold newE; rw [gx, gs]; exact if_neg (by omega)
  have hE3 : newE s.toList s.toList = 7 := by unfold newE; rw [gs]; rfl
  have hd1 : decide ((n : Int) < (m : Int)) = true := by simp; omega
  have hd2 : decide (n < m) = true := by simp; omega
  clear T ha hb hn hm h h2 gx gy n0 m0 hlt gs
  generalize putB n a = x at *
  generalize putB m b = y at *
  have HW := Lib.hid hW
  have HE := Lib.hid hE
  have HW1 := Lib.hid hW1
  have HE1 := Lib.hid hE1
  have HW2 := Lib.hid hW2
  have HE2 := Lib.hid hE2
  have HE3 := Lib.hid hE3
  clear hW1 hE1 hW2 hE2 hE3
  clear hW hE
  obtain ⟨z, hz⟩ : ∃ z, getE s.toList = z := ⟨_, rfl⟩
  rw [hz] at hs
  have HGE := Lib.hid hz
  have hz0 : ((z : Int) == 0) = false := by simp; omega
  clear hz hs
  go_enter Tryd.func8, Tryd.ntmps8
  go_wp2_with (first | (refine wpList_valn rfl (exec_box rfl rfl) ?_) | fail)
  generalize hw0 : w.alloc (.cells (cel s).toArray 26) = w0 at *
  clear hw0
  refine (HP1.out w0 HB0.out).mono ?_
  rintro e w1 ⟨rfl, hb1⟩
  have h1 := hb1.alloc hb1.size (.cells (cel x).toArray 26)
  have HB1 := Lib.hid (HB0.out.trans (h1.mono HB0.out.size))
  have HS1 := Lib.hid (range_below HS0.out HSZ.out h1)
  have HX1 := Lib.hid (range_new w1 (cel x) 26)
  have HZ1 : Hid (w.heap.size < (w1.alloc (.cells (cel x).toArray 26)).heap.size ∧ w1.heap.size < (w1.alloc (.cells (cel x).toArray 26)).heap.size) := Lib.hid (by have := hb1.size; have := HSZ.out; simp only [World.size_alloc]; omega)
  clear hb1 h1 HP1 HS0 HSZ HB0
  go_wp2_with (first | (refine wpList_valn rfl (exec_alloc rfl) ?_) | (refine wpList_nuln rfl (exec_fillN rfl rfl rfl) ?_) | fail)
  generalize w1.alloc (.cells (cel x).toArray 26) = v1 at *
  generalize w1.heap.size = r1 at *
  refine (HP2.out v1 HB1.out).mono ?_
  rintro e w2 ⟨rfl, hb2⟩
  have h2 := hb2.alloc hb2.size (.cells (cel y).toArray 26)
  have HB2 := Lib.hid (HB1.out.trans (h2.mono HB1.out.size))
  have HS2 := Lib.hid (range_below HS1.out HZ1.out.1 h2)
  have HX2 := Lib.hid (range_below HX1.out HZ1.out.2 h2)
  have HY2 := Lib.hid (range_new w2 (cel y) 26)
  have HZ2 : Hid (w.heap.size < (w2.alloc (.cells (cel y).toArray 26)).heap.size ∧ r1 < (w2.alloc (.cells (cel y).toArray 26)).heap.size ∧ w2.heap.size < (w2.alloc (.cells (cel y).toArray 26)).heap.size) := Lib.hid (by have := hb2.size; have := HZ1.out; simp only [World.size_alloc]; omega)
  clear hb2 h2 HP2 HS1 HX1 HB1 HZ1
  go_wp2_with (first | (refine wpList_valn rfl (exec_alloc rfl) ?_) | (refine wpList_nuln rfl (exec_fillN rfl rfl rfl) ?_) | (refine wpList_valn rfl (exec_load (c := x) rfl rfl ?_) ?_; (with_reducible exact HX2.out)) | (refine wpList_valn rfl (exec_load (c := y) rfl rfl ?_) ?_; (with_reducible exact HY2.out)) | fail)
  generalize w2.alloc (.cells (cel y).toArray 26) = v2 at *
  generalize w2.heap.size = r2 at *
  refine (pnew_any x y v2 (HT.out.below HB2.out)).mono ?_
  rintro e w3 ⟨rfl, hb3⟩
  rw [HW.out, HE.out]
  have HB3 := Lib.hid (HB2.out.trans (hb3.mono HB2.out.size))
  have HS3 := Lib.hid (range_below HS2.out HZ2.out.1 hb3)
  have HX3 := Lib.hid (range_below HX2.out HZ2.out.2.1 hb3)
  have HY3 := Lib.hid (range_below HY2.out HZ2.out.2.2 hb3)
  have HZ3 : Hid (w.heap.size < w3.heap.size ∧ r1 < w3.heap.size ∧ r2 < w3.heap.size) := Lib.hid (by have := hb3.size; have := HZ2.out; omega)
  clear hb3 HB2 HS2 HX2 HY2 HZ2
  go_wp2_with (first | (refine wpList_valn rfl (exec_load rfl rfl HS3.out) ?_) | fail)
  refine (pget_any s _ w3 (Lib.hid rfl) (HT.out.below HB3.out)).mono ?_
  rintro e w4 ⟨v4, rfl, _, hb4⟩
  rw [HGE.out]
  have HB4 := Lib.hid (HB3.out.trans (hb4.mono HB3.out.size))
  have HS4 := Lib.hid (range_below HS3.out HZ3.out.1 hb4)
  have HX4 := Lib.hid (range_below HX3.out HZ3.out.2.1 hb4)
  have HY4 := Lib.hid (range_below HY3.out HZ3.out.2.2 hb4)
  have HZ4 : Hid (w.heap.size < w4.heap.size ∧ r1 < w4.heap.size ∧ r2 < w4.heap.size) := Lib.hid (by have := hb4.size; have := HZ3.out; omega)
  clear hb4 HB3 HS3 HX3 HY3 HZ3
  go_wp2_with (first | (refine wpList_valn rfl (exec_load rfl rfl HS4.out) ?_) | (refine wpList_valn rfl (exec_load rfl rfl HY4.out) ?_) | fail)
  refine (pnew_any s y w4 (HT.out.below HB4.out)).mono ?_
  rintro e w5 ⟨rfl, hb5⟩
  rw [HW1.out, HE1.out]
  have HB5 := Lib.hid (HB4.out.trans (hb5.mono HB4.out.size))
  have HS5 := Lib.hid (range_below HS4.out HZ4.out.1 hb5)
  have HX5 := Lib.hid (range_below HX4.out HZ4.out.2.1 hb5)
  have HZ5 : Hid (w.heap.size < w5.heap.size) := Lib.hid (by have := hb5.size; have := HZ4.out; omega)
  clear hb5 HB4 HS4 HX4 HY4 HZ4
  go_wp2_with (first | (refine wpList_valn rfl (exec_load rfl rfl HX5.out) ?_) | (refine wpList_valn rfl (exec_load rfl rfl HS5.out) ?_) | fail)
  refine (pnew_any x s w5 (HT.out.below HB5.out)).mono ?_
  rintro e w6 ⟨rfl, hb6⟩
  rw [HW2.out, HE2.out]
  have HB6 := Lib.hid (HB5.out.trans (hb6.mono HB5.out.size))
  have HS6 := Lib.hid (range_below HS5.out HZ5.out hb6)
  clear hb6 HB5 HS5 HX5 HZ5
  go_wp2_with (first | (refine wpList_valn rfl (exec_load rfl rfl HS6.out) ?_) | fail)
  refine (pnew_any s s w6 (HT.out.below HB6.out)).mono ?_
  rintro e w7 ⟨rfl, hb7⟩
  rw [HE3.out]
  have HB7 := Lib.hid (HB6.out.trans (hb7.mono HB6.out.size))
  clear hb7 HB6 HS6
  go_wp2_with fail
  refine (seal_lives _ (HT.out.below HB7.out)).mono ?_
  rintro e w9 ⟨rfl, hb9⟩
  have HB99 := Lib.hid (HB7.out.trans (hb9.mono HB7.out.size))
  clear hb9
  go_wp2
  go_ret
  exact ⟨rfl, HB99.out⟩
set_option maxHeartbeats 8000000 in
theorem sealNewest_both01 (n m k1 c1 k2 c2 : Nat) (A1 A2 : Option Addr) (a b : List UInt8) (s : Blk) (w : World) (T : Tab w) (hn : n < 18446744073709551616) (hm : m < 18446744073709551616) (ha : Rd w w.heap.size A1 k1 a) (hb : Rd w w.heap.size A2 k2 b) (hk1 : k1 ≤ 140737488351232) (hk2 : k2 ≤ 140737488351232) (h : putE n a = 0) (h2 : putE m b = 0) (hlt : ¬ n < m) (hs : getE s.toList = 0) :
    Calls Tryd.prog 8 #[.int .u64 n, .int .u64 m, .slice A1 k1 c1, .slice A2 k2 c2, blk s] w fun e w' => e = .returned (.bool true) ∧ Below w.heap.size w w' := by
  have HT := Lib.hid T
  have h0 := (Below.refl w.heap.size w).alloc (Nat.le_refl _) (.cells (cel s).toArray 26)
  have HB0 := Lib.hid h0
  have HS0 := Lib.hid (range_new w (cel s) 26)
  have HP1 : Hid (∀ w1, Below w.heap.size w w1 → Calls Tryd.prog 10 #[.int .u64 n, .slice A1 k1 c1] w1 fun e w' => e = .returned (.tuple #[blk (putB n a), .int .i64 (putE n a : Nat)]) ∧ Below w1.heap.size w1 w') :=
    Lib.hid fun w1 h1 => put_all n k1 c1 _ A1 a w1 (HT.out.below h1) hn (ha.below h1) h1.size (by unfold maxLen; omega)
  have HP2 : Hid (∀ w1, Below w.heap.size w w1 → Calls Tryd.prog 10 #[.int .u64 m, .slice A2 k2 c2] w1 fun e w' => e = .returned (.tuple #[blk (putB m b), .int .i64 (putE m b : Nat)]) ∧ Below w1.heap.size w1 w') :=
    Lib.hid fun w1 h1 => put_all m k2 c2 _ A2 b w1 (HT.out.below h1) hm (hb.below h1) h1.size (by unfold maxLen; omega)
  have HSZ : Hid (w.heap.size < (w.alloc (.cells (cel s).toArray 26)).heap.size) := Lib.hid (by simp only [World.size_alloc]; omega)
  clear h0
  rw [h] at HP1
  rw [h2] at HP2
  have gx := put_getN hn h
  have gy := put_getN hm h2
  have n0 := (of_putE h).1
  have m0 := (of_putE h2).1
  have hW : newW (putB n a).toList (putB m b).toList = 0 := by unfold newW; rw [gx, gy]; exact if_neg hlt
  have hE : newE (putB n a).toList (putB m b).toList = 0 := by unfold newE; rw [gx, gy]; exact if_neg (by omega)
  have hd1 : decide ((n : Int) < (m : Int)) = false := by simp; omega
  have hd2 : decide (n < m) = false := by simp; omega
  clear T ha hb hn hm h h2 gx gy n0 m0 hlt
  generalize putB n a = x at *
  generalize putB m b = y at *
  have HW := Lib.hid hW
  have HE := Lib.hid hE
  clear hW hE
  have HGE := Lib.hid hs
  clear hs
  go_enter Tryd.func8, Tryd.ntmps8
  go_wp2_with (first | (refine wpList_valn rfl (exec_box rfl rfl) ?_) | fail)
  generalize hw0 : w.alloc (.cells (cel s).toArray 26) = w0 at *
  clear hw0
  refine (HP1.out w0 HB0.out).mono ?_
  rintro e w1 ⟨rfl, hb1⟩
  have h1 := hb1.alloc hb1.size (.cells (cel x).toArray 26)
  have HB1 := Lib.hid (HB0.out.trans (h1.mono HB0.out.size))
  have HS1 := Lib.hid (range_below HS0.out HSZ.out h1)
  have HX1 := Lib.hid (range_new w1 (cel x) 26)
  have HZ1 : Hid (w.heap.size < (w1.alloc (.cells (cel x).toArray 26)).heap.size ∧ w1.heap.size < (w1.alloc (.cells (cel x).toArray 26)).heap.size) := Lib.hid (by have := hb1.size; have := HSZ.out; simp only [World.size_alloc]; omega)
  clear hb1 h1 HP1 HS0 HSZ HB0
  go_wp2_with (first | (refine wpList_valn rfl (exec_alloc rfl) ?_) | (refine wpList_nuln rfl (exec_fillN rfl rfl rfl) ?_) | fail)
  generalize w1.alloc (.cells (cel x).toArray 26) = v1 at *
  generalize w1.heap.size = r1 at *
  refine (HP2.out v1 HB1.out).mono ?_
  rintro e w2 ⟨rfl, hb2⟩
  have h2 := hb2.alloc hb2.size (.cells (cel y).toArray 26)
  have HB2 := Lib.hid (HB1.out.trans (h2.mono HB1.out.size))
  have HS2 := Lib.hid (range_below HS1.out HZ1.out.1 h2)
  have HX2 := Lib.hid (range_below HX1.out HZ1.out.2 h2)
  have HY2 := Lib.hid (range_new w2 (cel y) 26)
  have HZ2 : Hid (w.heap.size < (w2.alloc (.cells (cel y).toArray 26)).heap.size ∧ r1 < (w2.alloc (.cells (cel y).toArray 26)).heap.size ∧ w2.heap.size < (w2.alloc (.cells (cel y).toArray 26)).heap.size) := Lib.hid (by have := hb2.size; have := HZ1.out; simp only [World.size_alloc]; omega)
  clear hb2 h2 HP2 HS1 HX1 HB1 HZ1
  go_wp2_with (first | (refine wpList_valn rfl (exec_alloc rfl) ?_) | (refine wpList_nuln rfl (exec_fillN rfl rfl rfl) ?_) | (refine wpList_valn rfl (exec_load (c := x) rfl rfl ?_) ?_; (with_reducible exact HX2.out)) | (refine wpList_valn rfl (exec_load (c := y) rfl rfl ?_) ?_; (with_reducible exact HY2.out)) | fail)
  generalize w2.alloc (.cells (cel y).toArray 26) = v2 at *
  generalize w2.heap.size = r2 at *
  refine (pnew_any x y v2 (HT.out.below HB2.out)).mono ?_
  rintro e w3 ⟨rfl, hb3⟩
  rw [HW.out, HE.out]
  have HB3 := Lib.hid (HB2.out.trans (hb3.mono HB2.out.size))
  have HS3 := Lib.hid (range_below HS2.out HZ2.out.1 hb3)
  have HX3 := Lib.hid (range_below HX2.out HZ2.out.2.1 hb3)
  have HY3 := Lib.hid (range_below HY2.out HZ2.out.2.2 hb3)
  have HZ3 : Hid (w.heap.size < w3.heap.size ∧ r1 < w3.heap.size ∧ r2 < w3.heap.size) := Lib.hid (by have := hb3.size; have := HZ2.out; omega)
  clear hb3 HB2 HS2 HX2 HY2 HZ2
  go_wp2_with (first | (refine wpList_valn rfl (exec_load rfl rfl HS3.out) ?_) | fail)
  refine (pget_any s _ w3 (Lib.hid rfl) (HT.out.below HB3.out)).mono ?_
  rintro e w4 ⟨v4, rfl, _, hb4⟩
  rw [HGE.out]
  have HB4 := Lib.hid (HB3.out.trans (hb4.mono HB3.out.size))
  clear hb4
  go_wp2_with fail
  refine (seal_lives _ (HT.out.below HB4.out)).mono ?_
  rintro e w9 ⟨rfl, hb9⟩
  have HB99 := Lib.hid (HB4.out.trans (hb9.mono HB4.out.size))
  clear hb9
  go_wp2
  go_ret
  exact ⟨rfl, HB99.out⟩
set_option maxHeartbeats 8000000 in
theorem sealNewest_both00 (n m k1 c1 k2 c2 : Nat) (A1 A2 : Option Addr) (a b : List UInt8) (s : Blk) (w : World) (T : Tab w) (hn : n < 18446744073709551616) (hm : m < 18446744073709551616) (ha : Rd w w.heap.size A1 k1 a) (hb : Rd w w.heap.size A2 k2 b) (hk1 : k1 ≤ 140737488351232) (hk2 : k2 ≤ 140737488351232) (h : putE n a = 0) (h2 : putE m b = 0) (hlt : ¬ n < m) (hs : getE s.toList ≠ 0) :
    Calls Tryd.prog 8 #[.int .u64 n, .int .u64 m, .slice A1 k1 c1, .slice A2 k2 c2, blk s] w fun e w' => e = .returned (.bool true) ∧ Below w.heap.size w w' := by
  have HT := Lib.hid T
  have h0 := (Below.refl w.heap.size w).alloc (Nat.le_refl _) (.cells (cel s).toArray 26)
  have HB0 := Lib.hid h0
  have HS0 := Lib.hid (range_new w (cel s) 26)
  have HP1 : Hid (∀ w1, Below w.heap.size w w1 → Calls Tryd.prog 10 #[.int .u64 n, .slice A1 k1 c1] w1 fun e w' => e = .returned (.tuple #[blk (putB n a), .int .i64 (putE n a : Nat)]) ∧ Below w1.heap.size w1 w') :=
    Lib.hid fun w1 h1 => put_all n k1 c1 _ A1 a w1 (HT.out.below h1) hn (ha.below h1) h1.size (by unfold maxLen; omega)
  have HP2 : Hid (∀ w1, Below w.heap.size w w1 → Calls Tryd.prog 10 #[.int .u64 m, .slice A2 k2 c2] w1 fun e w' => e = .returned (.tuple #[blk (putB m b), .int .i64 (putE m b : Nat)]) ∧ Below w1.heap.size w1 w') :=
    Lib.hid fun w1 h1 => put_all m k2 c2 _ A2 b w1 (HT.out.below h1) hm (hb.below h1) h1.size (by unfold maxLen; omega)
  have HSZ : Hid (w.heap.size < (w.alloc (.cells (cel s).toArray 26)).heap.size) := Lib.hid (by simp only [World.size_alloc]; omega)
  clear h0
  rw [h] at HP1
  rw [h2] at HP2
  have gx := put_getN hn h
  have gy := put_getN hm h2
  have n0 := (of_putE h).1
  have m0 := (of_putE h2).1
  have hW : newW (putB n a).toList (putB m b).toList = 0 := by unfold newW; rw [gx, gy]; exact if_neg hlt
  have hE : newE (putB n a).toList (putB m b).toList = 0 := by unfold newE; rw [gx, gy]; exact if_neg (by omega)
  have gs := getN_no hs
  have hW1 : newW s.toList (putB m b).toList = 1 := by unfold newW; rw [gs, gy]; exact if_pos (by omega)
  have hE1 : newE s.toList (putB m b).toList = 0 := by unfold newE; rw [gs, gy]; exact if_neg (by omega)
  have hW2 : newW (putB n a).toList s.toList = 0 := by unfold newW; rw [gx, gs]; exact if_neg (by omega)
  have hE2 : newE (putB n a).toList s.toList = 0 := by unfold newE; rw [gx, gs]; exact if_neg (by omega)
  have hE3 : newE s.toList s.toList = 7 := by unfold newE; rw [gs]; rfl
  have hd1 : decide ((n : Int) < (m : Int)) = false := by simp; omega
  have hd2 : decide (n < m) = false := by simp; omega
  clear T ha hb hn hm h h2 gx gy n0 m0 hlt gs
  generalize putB n a = x at *
  generalize putB m b = y at *
  have HW := Lib.hid hW
  have HE := Lib.hid hE
  have HW1 := Lib.hid hW1
  have HE1 := Lib.hid hE1
  have HW2 := Lib.hid hW2
  have HE2 := Lib.hid hE2
  have HE3 := Lib.hid hE3
  clear hW1 hE1 hW2 hE2 hE3
  clear hW hE
  obtain ⟨z, hz⟩ : ∃ z, getE s.toList = z := ⟨_, rfl⟩
  rw [hz] at hs
  have HGE := Lib.hid hz
  have hz0 : ((z : Int) == 0) = false := by simp; omega
  clear hz hs
  go_enter Tryd.func8, Tryd.ntmps8
  go_wp2_with (first | (refine wpList_valn rfl (exec_box rfl rfl) ?_) | fail)
  generalize hw0 : w.alloc (.cells (cel s).toArray 26) = w0 at *
  clear hw0
  refine (HP1.out w0 HB0.out).mono ?_
  rintro e w1 ⟨rfl, hb1⟩
  have h1 := hb1.alloc hb1.size (.cells (cel x).toArray 26)
  have HB1 := Lib.hid (HB0.out.trans (h1.mono HB0.out.size))
  have HS1 := Lib.hid (range_below HS0.out HSZ.out h1)
  have HX1 := Lib.hid (range_new w1 (cel x) 26)
  have HZ1 : Hid (w.heap.size < (w1.alloc (.cells (cel x).toArray 26)).heap.size ∧ w1.heap.size < (w1.alloc (.cells (cel x).toArray 26)).heap.size) := Lib.hid (by have := hb1.size; have := HSZ.out; simp only [World.size_alloc]; omega)
  clear hb1 h1 HP1 HS0 HSZ HB0
  go_wp2_with (first | (refine wpList_valn rfl (exec_alloc rfl) ?_) | (refine wpList_nuln rfl (exec_fillN rfl rfl rfl) ?_) | fail)
  generalize w1.alloc (.cells (cel x).toArray 26) = v1 at *
  generalize w1.heap.size = r1 at *
  refine (HP2.out v1 HB1.out).mono ?_
  rintro e w2 ⟨rfl, hb2⟩
  have h2 := hb2.alloc hb2.size (.cells (cel y).toArray 26)
  have HB2 := Lib.hid (HB1.out.trans (h2.mono HB1.out.size))
  have HS2 := Lib.hid (range_below HS1.out HZ1.out.1 h2)
  have HX2 := Lib.hid (range_below HX1.out HZ1.out.2 h2)
  have HY2 := Lib.hid (range_new w2 (cel y) 26)
  have HZ2 : Hid (w.heap.size < (w2.alloc (.cells (cel y).toArray 26)).heap.size ∧ r1 < (w2.alloc (.cells (cel y).toArray 26)).heap.size ∧ w2.heap.size < (w2.alloc (.cells (cel y).toArray 26)).heap.size) := Lib.hid (by have := hb2.size; have := HZ1.out; simp only [World.size_alloc]; omega)
  clear hb2 h2 HP2 HS1 HX1 HB1 HZ1
  go_wp2_with (first | (refine wpList_valn rfl (exec_alloc rfl) ?_) | (refine wpList_nuln rfl (exec_fillN rfl rfl rfl) ?_) | (refine wpList_valn rfl (exec_load (c := x) rfl rfl ?_) ?_; (with_reducible exact HX2.out)) | (refine wpList_valn rfl (exec_load (c := y) rfl rfl ?_) ?_; (with_reducible exact HY2.out)) | fail)
  generalize w2.alloc (.cells (cel y).toArray 26) = v2 at *
  generalize w2.heap.size = r2 at *
  refine (pnew_any x y v2 (HT.out.below HB2.out)).mono ?_
  rintro e w3 ⟨rfl, hb3⟩
  rw [HW.out, HE.out]
  have HB3 := Lib.hid (HB2.out.trans (hb3.mono HB2.out.size))
  have HS3 := Lib.hid (range_below HS2.out HZ2.out.1 hb3)
  have HX3 := Lib.hid (range_below HX2.out HZ2.out.2.1 hb3)
  have HY3 := Lib.hid (range_below HY2.out HZ2.out.2.2 hb3)
  have HZ3 : Hid (w.heap.size < w3.heap.size ∧ r1 < w3.heap.size ∧ r2 < w3.heap.size) := Lib.hid (by have := hb3.size; have := HZ2.out; omega)
  clear hb3 HB2 HS2 HX2 HY2 HZ2
  go_wp2_with (first | (refine wpList_valn rfl (exec_load rfl rfl HS3.out) ?_) | fail)
  refine (pget_any s _ w3 (Lib.hid rfl) (HT.out.below HB3.out)).mono ?_
  rintro e w4 ⟨v4, rfl, _, hb4⟩
  rw [HGE.out]
  have HB4 := Lib.hid (HB3.out.trans (hb4.mono HB3.out.size))
  have HS4 := Lib.hid (range_below HS3.out HZ3.out.1 hb4)
  have HX4 := Lib.hid (range_below HX3.out HZ3.out.2.1 hb4)
  have HY4 := Lib.hid (range_below HY3.out HZ3.out.2.2 hb4)
  have HZ4 : Hid (w.heap.size < w4.heap.size ∧ r1 < w4.heap.size ∧ r2 < w4.heap.size) := Lib.hid (by have := hb4.size; have := HZ3.out; omega)
  clear hb4 HB3 HS3 HX3 HY3 HZ3
  go_wp2_with (first | (refine wpList_valn rfl (exec_load rfl rfl HS4.out) ?_) | (refine wpList_valn rfl (exec_load rfl rfl HY4.out) ?_) | fail)
  refine (pnew_any s y w4 (HT.out.below HB4.out)).mono ?_
  rintro e w5 ⟨rfl, hb5⟩
  rw [HW1.out, HE1.out]
  have HB5 := Lib.hid (HB4.out.trans (hb5.mono HB4.out.size))
  have HS5 := Lib.hid (range_below HS4.out HZ4.out.1 hb5)
  have HX5 := Lib.hid (range_below HX4.out HZ4.out.2.1 hb5)
  have HZ5 : Hid (w.heap.size < w5.heap.size) := Lib.hid (by have := hb5.size; have := HZ4.out; omega)
  clear hb5 HB4 HS4 HX4 HY4 HZ4
  go_wp2_with (first | (refine wpList_valn rfl (exec_load rfl rfl HX5.out) ?_) | (refine wpList_valn rfl (exec_load rfl rfl HS5.out) ?_) | fail)
  refine (pnew_any x s w5 (HT.out.below HB5.out)).mono ?_
  rintro e w6 ⟨rfl, hb6⟩
  rw [HW2.out, HE2.out]
  have HB6 := Lib.hid (HB5.out.trans (hb6.mono HB5.out.size))
  have HS6 := Lib.hid (range_below HS5.out HZ5.out hb6)
  clear hb6 HB5 HS5 HX5 HZ5
  go_wp2_with (first | (refine wpList_valn rfl (exec_load rfl rfl HS6.out) ?_) | fail)
  refine (pnew_any s s w6 (HT.out.below HB6.out)).mono ?_
  rintro e w7 ⟨rfl, hb7⟩
  rw [HE3.out]
  have HB7 := Lib.hid (HB6.out.trans (hb7.mono HB6.out.size))
  clear hb7 HB6 HS6
  go_wp2_with fail
  refine (seal_lives _ (HT.out.below HB7.out)).mono ?_
  rintro e w9 ⟨rfl, hb9⟩
  have HB99 := Lib.hid (HB7.out.trans (hb9.mono HB7.out.size))
  clear hb9
  go_wp2
  go_ret
  exact ⟨rfl, HB99.out⟩
theorem sealNewest_walk (n m k1 c1 k2 c2 : Nat) (A1 A2 : Option Addr) (a b : List UInt8) (s : Blk) (w : World) (T : Tab w) (hn : n < 18446744073709551616) (hm : m < 18446744073709551616) (ha : Rd w w.heap.size A1 k1 a) (hb : Rd w w.heap.size A2 k2 b) (hk1 : k1 ≤ 140737488351232) (hk2 : k2 ≤ 140737488351232) :
    Calls Tryd.prog 8 #[.int .u64 n, .int .u64 m, .slice A1 k1 c1, .slice A2 k2 c2, blk s] w fun e w' => e = .returned (.bool true) ∧ Below w.heap.size w w' := by
  by_cases h : putE n a = 0
  · by_cases h2 : putE m b = 0
    · by_cases hlt : n < m
      · by_cases hs : getE s.toList = 0
        · exact sealNewest_both11 n m k1 c1 k2 c2 A1 A2 a b s w T hn hm ha hb hk1 hk2 h h2 hlt hs
        · exact sealNewest_both10 n m k1 c1 k2 c2 A1 A2 a b s w T hn hm ha hb hk1 hk2 h h2 hlt hs
      · by_cases hs : getE s.toList = 0
        · exact sealNewest_both01 n m k1 c1 k2 c2 A1 A2 a b s w T hn hm ha hb hk1 hk2 h h2 hlt hs
        · exact sealNewest_both00 n m k1 c1 k2 c2 A1 A2 a b s w T hn hm ha hb hk1 hk2 h h2 hlt hs
    · exact sealNewest_second n m k1 c1 k2 c2 A1 A2 a b s w T hn hm ha hb hk1 hk2 h h2
  · exact sealNewest_first n m k1 c1 k2 c2 A1 A2 a b s w T hn hm ha hb hk1 hk2 h
end Go.Proofs.YtdinnbmeolojgaaDoor
