/-
  The walk of SealTorn: over a sealed one.
-/
import Derived.Test.YtdinnbmeolojgaaDoorSwt
namespace Go.Proofs.YtdinnbmeolojgaaDoor
open Go.RowKit
set_option linter.unusedVariables false
set_option maxRecDepth 100000

set_option maxHeartbeats 8000000 in
theorem sealTorn_over (n o m c m2 c2 : Nat) (A A2 : Option Addr) (b b2 : List UInt8) (t : Int) (w : World) (T : Tab w) (hn : n < 18446744073709551616) (ho : o < 18446744073709551616) (hb : Rd w w.heap.size A m b) (hb2 : Rd w w.heap.size A2 m2 b2) (hm : m ≤ 140737488351232) (hm2 : m2 ≤ 140737488351232) (h : putE n b = 0) (hno : n ≠ o) (h0 : 0 < o) (h2 : putE o b2 = 0) :
    Calls Tryd.prog 6 #[.int .u64 n, .int .u64 o, .slice A m c, .slice A2 m2 c2, .int .i64 t] w fun e w' => e = .returned (.bool true) ∧ Below w.heap.size w w' := by
  have HT := Lib.hid T
  have HP := Lib.hid (put_all n m c _ A b w T hn hb (Nat.le_refl _) (by unfold maxLen; omega))
  rw [h] at HP
  have HP2 : Hid (∀ w1, Below w.heap.size w w1 → Calls Tryd.prog 10 #[.int .u64 o, .slice A2 m2 c2] w1 fun e w' => e = .returned (.tuple #[blk (putB o b2), .int .i64 (putE o b2 : Nat)]) ∧ Below w1.heap.size w1 w') :=
    Lib.hid fun w1 h1 => put_all o m2 c2 _ A2 b2 w1 (HT.out.below h1) ho (hb2.below h1) h1.size (by unfold maxLen; omega)
  rw [h2] at HP2
  obtain ⟨d, hd⟩ : ∃ d, torn (putB o b2) (putB n b) t = d := ⟨_, rfl⟩
  have HLAW := Lib.hid (torn_law (put_getE hn h) (put_getN hn h) hno (.inr ⟨put_getE ho h2, put_getN ho h2⟩) t hd)
  have HD := Lib.hid hd
  clear hd
  clear T hb hn hb2 ho h h2
  generalize putB n b = x at *
  generalize putB o b2 = x2 at *
  have hz : ((n : Int) == (o : Int)) = false := by simp; omega
  have hgt : decide ((0 : Int) < (o : Int)) = true := by simp; omega
  have hgt2 : decide (0 < o) = true := by simp; omega
  clear hno
  go_enter Tryd.func6, Tryd.ntmps6
  go_wp2_with fail
  refine HP.out.mono ?_
  rintro e w1 ⟨rfl, hb1⟩
  have HN1 := Lib.hid (range_new w1 (cel x) 26)
  have h1 := hb1.alloc hb1.size (.cells (cel x).toArray 26)
  have h2 := h1.alloc h1.size (.cells (cel zeroB).toArray 26)
  have hx2 : ((w1.alloc (.cells (cel x).toArray 26)).alloc (.cells (cel zeroB).toArray 26)).rangeAt w1.heap.size 0 (cel x) := World.rangeAt_alloc (range_new w1 (cel x) 26) _
  have ho2 : RowL ((w1.alloc (.cells (cel x).toArray 26)).alloc (.cells (cel zeroB).toArray 26)) (w1.heap.size + 1) 26 zeroB.toList := by
    have := RowL.blk (w1.alloc (.cells (cel x).toArray 26)) zeroB 26
    rwa [World.size_alloc] at this
  have hs2 : w1.heap.size + 1 < ((w1.alloc (.cells (cel x).toArray 26)).alloc (.cells (cel zeroB).toArray 26)).heap.size := by simp only [World.size_alloc]; omega
  have HX2 := Lib.hid hx2
  have HO2 := Lib.hid ho2
  have HS2 := Lib.hid hs2
  have HB2 := Lib.hid h2
  have HL1 : Hid (w.heap.size ≤ w1.heap.size) := Lib.hid hb1.size
  clear hb1 h1 h2 hx2 ho2 hs2 HP HN1
  go_wp2_with (first | (refine wpList_valn rfl (exec_alloc rfl) ?_) | (refine wpList_nuln rfl (exec_fillN rfl rfl rfl) ?_) | (refine wpList_valn rfl (exec_build (c := zeroB) (parts := []) rfl rfl) ?_) | fail)
  generalize (w1.alloc (.cells (cel x).toArray 26)).alloc (.cells (cel zeroB).toArray 26) = w2 at *
  generalize w1.heap.size = r1 at *
  refine (HP2.out w2 HB2.out).mono ?_
  rintro e w3 ⟨rfl, hb3⟩
  have h33 := hb3.alloc hb3.size (.cells (cel x2).toArray 26)
  have HX3 := Lib.hid (range_below HX2.out (by have := HS2.out; omega) h33)
  have HO3 := Lib.hid (HO2.out.below HS2.out h33)
  have HN3 := Lib.hid (range_new w3 (cel x2) 26)
  have HB3 := Lib.hid (HB2.out.trans (h33.mono HB2.out.size))
  have HT3 : Hid ((w3.alloc (.cells (cel x2).toArray 26)).there (r1 + 1) 0 64) := Lib.hid (there_row HO3.out.row (by simp))
  have HS3 : Hid (r1 + 1 < (w3.alloc (.cells (cel x2).toArray 26)).heap.size) := Lib.hid (by have := h33.size; have := HS2.out; omega)
  have hbs := below_setCells (Below.refl (r1 + 1) (w3.alloc (.cells (cel x2).toArray 26))) (Nat.le_refl (r1 + 1)) (o := 0) (cel x2)
  have HXT := Lib.hid (range_below HX3.out (by omega) hbs)
  have HOT := Lib.hid (World.rangeAt_setCells_same (w3.alloc (.cells (cel x2).toArray 26)) (r1 + 1) 0 (cel x2) (by rw [cel_length]; exact HT3.out))
  have HBT := Lib.hid (HB3.out.trans (hbs.mono (by have := HL1.out; omega)))
  have HST : Hid (r1 < ((w3.alloc (.cells (cel x2).toArray 26)).setCells (r1 + 1) 0 (cel x2)).heap.size ∧ r1 + 1 < ((w3.alloc (.cells (cel x2).toArray 26)).setCells (r1 + 1) 0 (cel x2)).heap.size) := Lib.hid (by have := hbs.size; have := HS3.out; omega)
  clear hb3 h33 hbs HX2 HO2 HB2 HS2 HX3 HO3 HB3 HS3
  go_upto_region 10 with (first | (refine wpList_valn rfl (exec_alloc rfl) ?_) | (refine wpList_nuln rfl (exec_fillN rfl rfl rfl) ?_) | (refine wpList_valn rfl (exec_load (c := x2) rfl rfl ?_) ?_; (with_reducible exact HN3.out)) | (refine wpList_nuln rfl (exec_store rfl rfl rfl ?_) ?_; (with_reducible exact HT3.out)) | fail)
  generalize (w3.alloc (.cells (cel x2).toArray 26)).setCells (r1 + 1) 0 (cel x2) = w4 at *
  go_wp2_with (first | (refine wpList_val rfl (exec_load rfl rfl HXT.out) ?_) | (refine wpList_val rfl (exec_load rfl rfl HOT.out) ?_) | fail)
  refine (refTorn_any x2 x t _).mono ?_
  rintro e w5 ⟨rfl, hb5⟩
  rw [HD.out]
  have h5 := hb5.alloc hb5.size (.cells (cel d).toArray 26)
  have HX5 := Lib.hid (range_below HXT.out HST.out.1 h5)
  have HO5 := Lib.hid (range_below HOT.out HST.out.2 h5)
  have HD5 := Lib.hid (range_new w5 (cel d) 26)
  have HB5 := Lib.hid (HBT.out.trans (h5.mono HBT.out.size))
  have HS5 : Hid (r1 < (w5.alloc (.cells (cel d).toArray 26)).heap.size ∧ r1 + 1 < (w5.alloc (.cells (cel d).toArray 26)).heap.size ∧ w5.heap.size < (w5.alloc (.cells (cel d).toArray 26)).heap.size) := Lib.hid (by have := hb5.size; have := HST.out; simp only [World.size_alloc]; omega)
  clear hb5 h5 HXT HOT HBT HST
  go_wp2_with (first | (refine wpList_valn rfl (exec_alloc rfl) ?_) | (refine wpList_nuln rfl (exec_fillN rfl rfl rfl) ?_) | (refine wpList_valn rfl (exec_load (c := d) rfl rfl ?_) ?_; (with_reducible exact HD5.out)) | fail)
  generalize w5.alloc (.cells (cel d).toArray 26) = w6 at *
  generalize w5.heap.size = r5 at *
  refine (pget_any d _ w6 (Lib.hid rfl) (HT.out.below HB5.out)).mono ?_
  rintro e w7 ⟨v7, rfl, _, hb7⟩
  have HX7 := Lib.hid (range_below HX5.out HS5.out.1 hb7)
  have HO7 := Lib.hid (range_below HO5.out HS5.out.2.1 hb7)
  have HD7 := Lib.hid (range_below HD5.out HS5.out.2.2 hb7)
  have HB7 := Lib.hid (HB5.out.trans (hb7.mono HB5.out.size))
  clear hb7 HX5 HO5 HD5 HB5 HS5
  rcases HLAW.out with ⟨e1, e2, e3⟩ | ⟨e1, e2, e3, e4⟩ | ⟨e1, e2, e3⟩ | ⟨e1, e2, e3, e4⟩
  · rw [e1, e3]
    have HE1 : Hid (decide (d = x) = true) := Lib.hid (by simpa using e2)
    have hnn : ((n : Int) == (n : Int)) = true := by simp
    clear e1 e2 e3
    go_upto_region 13 with fail
    refine wp_region_lit ?_
    refine wpList_valn rfl (exec_load rfl (ev rfl) HD7.out) ?_
    simp only [Act.put, List.setIfInBounds_toArray, List.set_cons_succ, List.set_cons_zero]
    refine wpList_valn rfl (exec_load rfl (ev rfl) HX7.out) ?_
    simp only [Act.put, List.setIfInBounds_toArray, List.set_cons_succ, List.set_cons_zero]
    refine wpList_valn (v := .bool true) rfl (exec_eqlB true rfl (ev rfl) (ev rfl) HE1.out) ?_
    simp only [Act.put, List.setIfInBounds_toArray, List.set_cons_succ, List.set_cons_zero]
    refine wpList_valn (v := .bool true) rfl (exec_mv rfl (ev rfl)) ?_
    simp only [Act.put, List.setIfInBounds_toArray, List.set_cons_succ, List.set_cons_zero]
    refine wpList_val (wanted_of rfl rfl rfl rfl) (exec_mv rfl (ev rfl)) ?_
    simp only [Act.put, List.setIfInBounds_toArray, List.set_cons_succ, List.set_cons_zero]
    refine wpList_val (wanted_of rfl rfl rfl rfl) (exec_mv rfl (ev rfl)) ?_
    simp only [Act.put, List.setIfInBounds_toArray, List.set_cons_succ, List.set_cons_zero]
    refine wpList_val (v := .bool true) (wanted_of rfl rfl rfl rfl) (exec_eqInt true rfl (ev rfl) (ev rfl) hnn) ?_
    simp only [Act.put, List.setIfInBounds_toArray, List.set_cons_succ, List.set_cons_zero]
    refine wpList_valn (v := .bool true) rfl (exec_pt rfl (ev rfl) (ev rfl)) ?_
    simp only [Act.put, List.setIfInBounds_toArray, List.set_cons_succ, List.set_cons_zero]
    refine wpList_skips 8 (v := .bool true) rfl (exec_mv rfl (ev rfl)) (by kernel_rfl) ?_
    simp only [skipAct, List.take_succ_cons, List.take_zero, List.drop_succ_cons, List.drop_zero, Act.put, List.setIfInBounds_toArray, List.set_cons_succ, List.set_cons_zero]
    refine wpList_valn (v := .bool true) rfl (exec_pt rfl (ev rfl) evk) ?_
    simp only [Act.put, List.setIfInBounds_toArray, List.set_cons_succ, List.set_cons_zero]
    refine wpList_valn (v := .bool true) rfl (exec_mv rfl (ev rfl)) ?_
    simp only [Act.put, List.setIfInBounds_toArray, List.set_cons_succ, List.set_cons_zero]
    refine wpList_call (wanted_of rfl rfl rfl rfl) (exec_cl Tryd.call13 rfl evn) ?_
    refine (seal_lives _ (HT.out.below HB7.out)).mono ?_
    rintro e w9 ⟨rfl, hb9⟩
    have HB9 := Lib.hid (HB7.out.trans (hb9.mono HB7.out.size))
    clear hb9
    refine ⟨_, rfl, ?_⟩
    simp only [Act.put, List.setIfInBounds_toArray, List.set_cons_succ, List.set_cons_zero]
    refine wpList_valn (v := .bool true) rfl (exec_pt rfl (ev rfl) (ev rfl)) ?_
    simp only [Act.put, List.setIfInBounds_toArray, List.set_cons_succ, List.set_cons_zero]
    refine wpList_valn (v := .bool true) rfl (exec_as rfl (ev rfl)) ?_
    simp only [Act.put, List.setIfInBounds_toArray, List.set_cons_succ, List.set_cons_zero]
    refine wpList_nil ?_
    go_wp2
    go_ret
    exact ⟨rfl, HB9.out⟩
  · rw [e1, e4]
    have HE1 : Hid (decide (d = x) = false) := Lib.hid (by simpa using e2)
    have HE2 : Hid (decide (d = x2) = true) := Lib.hid (by simpa using e3)
    clear e1 e2 e3 e4
    go_wp2_with (first | (refine wpList_val rfl (exec_load rfl rfl HD7.out) ?_) | (refine wpList_val rfl (exec_load rfl rfl HX7.out) ?_) | (refine wpList_val rfl (exec_load rfl rfl HO7.out) ?_) | (refine wpList_val rfl (exec_eqlB false rfl rfl rfl HE1.out) ?_) | (refine wpList_val rfl (exec_eqlB true rfl rfl rfl HE2.out) ?_) | fail)
    refine (seal_lives _ (HT.out.below HB7.out)).mono ?_
    rintro e w9 ⟨rfl, hb9⟩
    have HB9 := Lib.hid (HB7.out.trans (hb9.mono HB7.out.size))
    clear hb9
    go_wp2
    go_ret
    exact ⟨rfl, HB9.out⟩
  · have hE : ((getE d.toList : Int) == 0) = false := by simp; omega
    have HE1 : Hid (decide (d = x) = false) := Lib.hid (by simpa using e2)
    have HE2 : Hid (decide (d = x2) = false) := Lib.hid (by simpa using e3)
    clear e1 e2 e3
    go_wp2_with (first | (refine wpList_val rfl (exec_load rfl rfl HD7.out) ?_) | (refine wpList_val rfl (exec_load rfl rfl HX7.out) ?_) | (refine wpList_val rfl (exec_load rfl rfl HO7.out) ?_) | (refine wpList_val rfl (exec_neqB false rfl rfl rfl HE1.out) ?_) | (refine wpList_val rfl (exec_neqB false rfl rfl rfl HE2.out) ?_) | fail)
    refine (seal_lives _ (HT.out.below HB7.out)).mono ?_
    rintro e w9 ⟨rfl, hb9⟩
    have HB9 := Lib.hid (HB7.out.trans (hb9.mono HB7.out.size))
    clear hb9
    go_wp2
    go_ret
    exact ⟨rfl, HB9.out⟩
  · have hE : ((getE d.toList : Int) == 0) = false := by simp; omega
    have ho0 : ((o : Int) == 0) = true := by simp; omega
    have HE1 : Hid (decide (d = x) = false) := Lib.hid (by simpa using e2)
    have HE2 : Hid (decide (d = x2) = true) := Lib.hid (by simpa using e3)
    clear e1 e2 e3 e4
    go_wp2_with (first | (refine wpList_val rfl (exec_load rfl rfl HD7.out) ?_) | (refine wpList_val rfl (exec_load rfl rfl HX7.out) ?_) | (refine wpList_val rfl (exec_load rfl rfl HO7.out) ?_) | (refine wpList_val rfl (exec_neqB false rfl rfl rfl HE1.out) ?_) | (refine wpList_val rfl (exec_neqB true rfl rfl rfl HE2.out) ?_) | fail)
    refine (seal_lives _ (HT.out.below HB7.out)).mono ?_
    rintro e w9 ⟨rfl, hb9⟩
    have HB9 := Lib.hid (HB7.out.trans (hb9.mono HB7.out.size))
    clear hb9
    go_wp2
    go_ret
    exact ⟨rfl, HB9.out⟩
end Go.Proofs.YtdinnbmeolojgaaDoor
