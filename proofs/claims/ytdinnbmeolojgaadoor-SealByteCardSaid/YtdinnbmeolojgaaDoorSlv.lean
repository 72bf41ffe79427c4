/-
  ashlarlaw07.lives answers true; nothing that was there changes.
-/
import Derived.Test.YtdinnbmeolojgaaDoorSpe
namespace Go.Proofs.YtdinnbmeolojgaaDoor
open Go.RowKit
set_option linter.unusedVariables false
set_option maxRecDepth 100000

theorem seal_byte0 (n : Nat) (b : List UInt8) (h : putE n b = 0) : byt (putB n b) 0 = (n : Int) % 256 := by
  have hb := (of_putE h).2
  unfold byt
  rw [putB_list h, bt_seal hb, if_pos (by omega), bt_head, if_pos (by omega), bt_digL8 _ _ _ (by omega)]
  simp
theorem seal_byte56 (n : Nat) (b : List UInt8) (h : putE n b = 0) : byt (putB n b) 56 = (n : Int) % 256 := by
  have hb := (of_putE h).2
  unfold byt
  rw [putB_list h, bt_seal hb, if_neg (by omega), if_neg (by omega), bt_digL8 _ _ _ (by omega)]
  simp
theorem blk_of (w : World) (c : Blk) {w' : World} {B : Nat} (hB : w.heap.size < B) (hb : Below B (w.alloc (.cells (cel c).toArray 26)) w') :
    w'.rangeAt w.heap.size 0 (cel c) := range_below (range_new w (cel c) 26) hB hb
theorem exec_fillN {ρ : Operand → Value} {o : Oper} {x y : Operand} {w : World} {c : Blk} (ho : o.op = .store 26 x y) (hx : ρ x = .pointer (some ⟨w.heap.size, 0, none⟩)) (hy : ρ y = blk c) : (execOp ρ o).run Tryd.prog (w.alloc (.cells (cel zeroB).toArray 26)) = .ok .skip (w.alloc (.cells (cel c).toArray 26)) := exec_fill ho hx hy

set_option maxHeartbeats 4000000 in
theorem seal_lives (w : World) (T : Tab w) : Calls Tryd.prog 13 #[] w fun e w' => e = .returned (.bool true) ∧ Below w.heap.size w w' := by
  have p5 : putE 5 [] = 0 := rfl
  have p6 : putE 6 [] = 0 := rfl
  have x0 := seal_byte0 5 [] p5
  have x56 := seal_byte56 5 [] p5
  have ex := put_getE (by omega) p5
  have gx := put_getN (by omega) p5
  have bx := put_getB (by omega) p5
  have gy := put_getN (by omega) p6
  have HPB := Lib.hid (put_all 5 0 0 0 none [] w T (by omega) (Rd.nil _ _ _) (Nat.zero_le _) (Nat.zero_le _))
  rw [p5] at HPB
  have HP6 : Hid (∀ w1, Tab w1 → Calls Tryd.prog 10 #[.int .u64 6, .slice none 0 0] w1 fun e w' => e = .returned (.tuple #[blk (putB 6 []), .int .i64 (0 : Nat)]) ∧ Below w1.heap.size w1 w') :=
    Lib.hid fun w1 T1 => put_all 6 0 0 0 none [] w1 T1 (by omega) (Rd.nil _ _ _) (Nat.zero_le _) (Nat.zero_le _)
  generalize putB 5 [] = x at *
  generalize putB 6 [] = y at *
  have hW : newW x.toList y.toList = 1 := by unfold newW; rw [gx, gy]; rfl
  have hE : newE x.toList y.toList = 0 := by unfold newE; rw [gx, gy]; rfl
  have hz : newE zeroB.toList zeroB.toList = 7 := by unfold newE; rw [getN_no (by rw [zero_getE]; omega)]; rfl
  have HX0 := Lib.hid x0
  have HX56 := Lib.hid x56
  have HEX := Lib.hid ex
  have HGX := Lib.hid gx
  have HBX := Lib.hid bx
  have HW := Lib.hid hW
  have HE := Lib.hid hE
  have HZ := Lib.hid hz
  have HT := Lib.hid T
  clear p5 p6 x0 x56 ex gx bx gy hW hE hz T
  go_enter Tryd.func13, Tryd.ntmps13
  go_wp2_with fail
  refine HPB.out.mono ?_
  rintro e w1 ⟨rfl, hb1⟩
  have h1 := hb1.alloc hb1.size (.cells (cel x).toArray 26)
  have HR1 := Lib.hid (range_new w1 (cel x) 26)
  have HS1 := Lib.hid (World.size_alloc w1 (.cells (cel x).toArray 26))
  have HB1 := Lib.hid h1
  have HT1 := Lib.hid (HT.out.below h1)
  clear hb1 h1 HPB
  go_wp2_with (first | (refine wpList_val rfl (exec_alloc rfl) ?_) | (refine wpList_nul rfl (exec_fillN rfl rfl rfl) ?_) | fail)
  generalize hw1 : w1.alloc (.cells (cel x).toArray 26) = v1 at *
  generalize hr1 : w1.heap.size = r1 at *
  clear hw1 hr1
  refine (HP6.out v1 HT1.out).mono ?_
  rintro e w2 ⟨rfl, hb2⟩
  have h2 := HB1.out.trans (hb2.mono HB1.out.size)
  have h3 := h2.alloc h2.size (.cells (cel y).toArray 26)
  have h22 := hb2.alloc hb2.size (.cells (cel y).toArray 26)
  have HRX := Lib.hid (range_below HR1.out (by rw [HS1.out]; omega) h22)
  have HRY := Lib.hid (range_new w2 (cel y) 26)
  have HS2 := Lib.hid (World.size_alloc w2 (.cells (cel y).toArray 26))
  have HS3 : Hid (r1 < w2.heap.size) := Lib.hid (by have := hb2.size; rw [HS1.out] at this; omega)
  have HB2 := Lib.hid h3
  have HT2 := Lib.hid (HT.out.below h3)
  clear hb2 h2 h3 h22 HP6 HR1 HS1 HB1 HT1
  go_wp2_with (first | (refine wpList_val rfl (exec_alloc rfl) ?_) | (refine wpList_nul rfl (exec_fillN rfl rfl rfl) ?_) | (refine wpList_val rfl (exec_load rfl rfl HRX.out) ?_) | fail)
  generalize hw2 : w2.alloc (.cells (cel y).toArray 26) = v2 at *
  generalize hr2 : w2.heap.size = r2 at *
  clear hw2 hr2
  refine (pget_any x _ v2 (Lib.hid rfl) HT2.out).mono ?_
  rintro e w3 ⟨vb, rfl, hv3, hb3⟩
  rw [HBX.out] at hv3
  obtain ⟨A3, c3, rfl, _, _, _⟩ := hv3.made.open_ (padL_length (b := []) (by simp))
  rw [HGX.out, HEX.out]
  have HRX3 := Lib.hid (range_below HRX.out (by rw [HS2.out]; have := HS3.out; omega) hb3)
  have HRY3 := Lib.hid (range_below HRY.out (by rw [HS2.out]; omega) hb3)
  have HB3 := Lib.hid (HB2.out.trans (hb3.mono HB2.out.size))
  have HT3 := Lib.hid (HT2.out.below hb3)
  have HS4 : Hid (r1 < w3.heap.size ∧ r2 < w3.heap.size) := Lib.hid (by have := hb3.size; rw [HS2.out] at this; have := HS3.out; omega)
  clear hv3 hb3 HRX HRY HB2 HT2 HS2 HS3
  go_wp2_with (first | (refine wpList_val rfl (exec_build (c := zeroB) (parts := []) rfl rfl) ?_) | fail)
  refine (pget_any zeroB _ w3 (Lib.hid rfl) HT3.out).mono ?_
  rintro e w4 ⟨v4, rfl, _, hb4⟩
  rw [zero_getE]
  have HRX4 := Lib.hid (range_below HRX3.out HS4.out.1 hb4)
  have HRY4 := Lib.hid (range_below HRY3.out HS4.out.2 hb4)
  have HB4 := Lib.hid (HB3.out.trans (hb4.mono HB3.out.size))
  have HT4 := Lib.hid (HT3.out.below hb4)
  have HS5 : Hid (r1 < w4.heap.size ∧ r2 < w4.heap.size) := Lib.hid (by have := hb4.size; have := HS4.out; omega)
  clear hb4 HRX3 HRY3 HB3 HT3 HS4
  go_wp2_with (first | (refine wpList_val rfl (exec_load rfl rfl HRX4.out) ?_) | (refine wpList_val rfl (exec_load rfl rfl HRY4.out) ?_) | fail)
  refine (pnew_any x y w4 HT4.out).mono ?_
  rintro e w5 ⟨rfl, hb5⟩
  rw [HW.out, HE.out]
  have HRX5 := Lib.hid (range_below HRX4.out HS5.out.1 hb5)
  have HB5 := Lib.hid (HB4.out.trans (hb5.mono HB4.out.size))
  have HT5 := Lib.hid (HT4.out.below hb5)
  have HS6 : Hid (r1 < w5.heap.size) := Lib.hid (by have := hb5.size; have := HS5.out; omega)
  clear hb5 HRX4 HRY4 HB4 HT4 HS5
  go_wp2_with (first | (refine wpList_val rfl (exec_build (c := zeroB) (parts := []) rfl rfl) ?_) | fail)
  refine (pnew_any zeroB zeroB w5 HT5.out).mono ?_
  rintro e w6 ⟨rfl, hb6⟩
  rw [HZ.out]
  have hr6 := range_below HRX5.out HS6.out hb6
  have c0 := hr6 0 _ (cel_at x (by omega))
  have c56 := hr6 56 _ (cel_at x (by omega))
  rw [HX0.out] at c0
  rw [HX56.out] at c56
  have HB6 := Lib.hid (HB5.out.trans (hb6.mono HB5.out.size))
  clear hb6 hr6 HRX5 HB5 HT5 HS6
  go_wp2
  go_ret
  exact ⟨rfl, HB6.out⟩
end Go.Proofs.YtdinnbmeolojgaaDoor
