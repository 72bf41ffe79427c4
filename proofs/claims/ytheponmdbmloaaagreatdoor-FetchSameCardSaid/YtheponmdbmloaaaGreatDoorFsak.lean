import Derived.Test.YtheponmdbmloaaaGreatDoorFsaj
import Derived.Test.YtheponmdbmloaaaGreatDoorFsaa
import Derived.Test.YtheponmdbmloaaaGreatDoorProg
import Derived.WalkKit
import Derived.RegionTactic
import Derived.ChangeAlike
import Derived.Deep.QuietTactic
import Derived.BigQuiet
import Derived.Lib.Hide
import Derived.Test.YtheponmdbmloaaaGreatDoorFsai
import Derived.Test.YtheponmdbmloaaaGreatDoorFsae
import Derived.Test.YtheponmdbmloaaaGreatDoorFsag
import Derived.Test.YtheponmdbmloaaaGreatDoorFsah
import Derived.Test.YtheponmdbmloaaaGreatDoorFsaf
import Derived.Test.YtheponmdbmloaaaGreatDoorFsab
import Derived.Test.YtheponmdbmloaaaGreatDoorFsZ
namespace Go.Proofs.YtheponmdbmloaaaGreatDoor
open Go.RowKit
set_option linter.unusedVariables false
set_option linter.unusedSimpArgs false
set_option maxRecDepth 100000
theorem two_new (w : World) (a b : Blk) : ((w.alloc (.cells (cel a).toArray 38)).alloc (.cells (cel b).toArray 38)).rangeAt w.heap.size 0 (cel a) ∧ ((w.alloc (.cells (cel a).toArray 38)).alloc (.cells (cel b).toArray 38)).rangeAt (w.heap.size + 1) 0 (cel b) ∧ Below w.heap.size w ((w.alloc (.cells (cel a).toArray 38)).alloc (.cells (cel b).toArray 38)) ∧ w.heap.size + 1 < ((w.alloc (.cells (cel a).toArray 38)).alloc (.cells (cel b).toArray 38)).heap.size := by
  have e1 := World.size_alloc (w := w) (o := Obj.cells (cel a).toArray 38)
  refine ⟨World.rangeAt_alloc (bY w (cel a) _) _, ?_, ?_, by simp only [World.size_alloc]; omega⟩
  · rw [← e1]; exact bY _ (cel b) _
  · exact ((Below.refl _ w).alloc (Nat.le_refl _) _).alloc (by omega) _
theorem slot_of (a b : Blk) : sloT a b = if nwN a b ≠ 0 ∧ nwW a b = 0 then 1 else 0 := by
  unfold sloT nwN nwW
  by_cases h : gsN a < gsN b
  · rw [if_pos h, if_pos h, if_neg (by omega), if_neg (by omega)]
  · rw [if_neg h, if_neg h]
    by_cases h0 : gsN a ≠ 0
    · rw [if_pos ⟨h0, h⟩, if_pos ⟨h0, rfl⟩]
    · rw [if_neg (by omega), if_neg (by omega)]
theorem nwW_two (a b : Blk) : nwW a b = 0 ∨ nwW a b = 1 := by unfold nwW; split <;> omega
set_option maxHeartbeats 2000000 in
theorem pslot (a b : Blk) (w : World) (T : Tab w) : Calls Tryz.prog 87 #[blk a, blk b] w fun e w' => e = .returned (.int .i64 (sloT a b : Nat)) ∧ Below w.heap.size w w' := by
  obtain ⟨h1, h2, h4, h5⟩ := two_new w a b
  have HSL := Lib.hid (slot_of a b)
  have h2w := nwW_two a b
  obtain ⟨n, hn⟩ : ∃ n, nwN a b = n := ⟨_, rfl⟩
  obtain ⟨k, hk⟩ : ∃ k, nwW a b = k := ⟨_, rfl⟩
  obtain ⟨p, hp⟩ : ∃ p, nwS a b = p := ⟨_, rfl⟩
  rw [hn, hk] at HSL
  rw [hk] at h2w
  have HA := Lib.hid h1
  have HBK := Lib.hid h2
  have HB := Lib.hid h4
  have HT := Lib.hid (T.below h4)
  have HN := Lib.hid hn
  have HK := Lib.hid hk
  have HP := Lib.hid hp
  clear h1 h2 h4 h5 T hn hk hp
  go_enter Tryz.func87, Tryz.ntmps87
  go_wp2_with (first | (refine af rfl (bH rfl rfl) ?_) | (refine af rfl (aG (c := a) rfl rfl ?_) ?_; (with_reducible exact HA.out)) | (refine af rfl (aG (c := b) rfl rfl ?_) ?_; (with_reducible exact HBK.out)) | fail)
  refine (pnewest a b _ HT.out).mono ?_
  rintro e w1 ⟨rfl, hb⟩
  rw [HN.out, HK.out, HP.out]
  have hb1 := HB.out.trans (hb.mono HB.out.size)
  have HB1 := Lib.hid (hb1.alloc hb1.size (.cells (aZ p).toArray 128))
  clear hb hb1 HA HBK HB HT
  by_cases hn0 : n = 0
  · subst hn0
    rw [if_neg (by omega)] at HSL
    go_wp2_with (first | (refine af rfl (bq rfl) ?_) | (refine av rfl (cG rfl rfl rfl) ?_) | fail)
    go_ret
    exact ⟨by rw [HSL.out]; rfl, HB1.out⟩
  · have hne : ((n : Int) != 0) = true := by simp; omega
    rcases h2w with rfl | rfl
    · rw [if_pos ⟨hn0, rfl⟩] at HSL
      clear hn0
      go_wp2_with (first | (refine af rfl (bq rfl) ?_) | (refine av rfl (cG rfl rfl rfl) ?_) | fail)
      go_ret
      exact ⟨by rw [HSL.out]; rfl, HB1.out⟩
    · rw [if_neg (by omega)] at HSL
      clear hn0
      go_wp2_with (first | (refine af rfl (bq rfl) ?_) | (refine av rfl (cG rfl rfl rfl) ?_) | fail)
      go_ret
      exact ⟨by rw [HSL.out]; rfl, HB1.out⟩
def same (a b : List UInt8) : Bool := a == b
set_option maxHeartbeats 1000000 in
theorem pmember (x : Ros) (m : Int) (w : World) : Calls Tryz.prog 66 #[ros x, .int .i64 m] w fun e w' => e = .returned (.bool (hasM x m)) ∧ Below w.heap.size w w' := by
  obtain ⟨h1, h2, h3⟩ := bW w x
  have HR := Lib.hid h1
  have HB := Lib.hid h2
  have HC := Lib.hid h1.cells.1
  clear h1 h2 h3
  have HF : Hid (hasM x m = decide (0 ≤ m ∧ m < x.m)) := Lib.hid rfl
  go_enter Tryz.func66, Tryz.ntmps66
  go_upto_region 1 with (first | (refine af rfl (aL rfl rfl) ?_) | fail)
  generalize w.alloc (.cells (aE x).toArray 32) = w1 at *
  generalize x.m = k at *
  by_cases h0 : 0 ≤ m
  · have H0 : Hid (decide ((0 : Int) ≤ m) = true) := Lib.hid (decide_eq_true h0)
    by_cases h1 : m < k
    · have H1 : Hid (decide (m < k) = true) := Lib.hid (decide_eq_true h1)
      have HE : Hid (hasM x m = true) := Lib.hid (by rw [HF.out, decide_eq_true ⟨h0, h1⟩])
      clear h0 h1
      refine wp_region_lit ?_
      refine af rfl (ag rfl (ev rfl)) ?_
      simp only [Act.put, aa, ac, ae]
      refine af (v := .bool true) rfl (bV true rfl (ev rfl) evk H0.out) ?_
      simp only [Act.put, aa, ac, ae]
      refine af (v := .bool true) rfl (ag rfl (ev rfl)) ?_
      simp only [Act.put, aa, ac, ae]
      refine ah (ai rfl rfl rfl rfl) (ag rfl (ev rfl)) ?_
      simp only [Act.put, aa, ac, ae]
      refine ah (ai rfl rfl rfl rfl) (am rfl (ev rfl) faR0) ?_
      simp only [Act.put, aa, ac, ae]
      refine ah (ai rfl rfl rfl rfl) (am rfl (ev rfl) faG0) ?_
      simp only [Act.put, aa, ac, ae]
      refine ah (ai rfl rfl rfl rfl) (au rfl (ev rfl) (bF HC.out)) ?_
      simp only [Act.put, aa, ac, ae]
      refine ah (v := .bool true) (ai rfl rfl rfl rfl) (bi true rfl (ev rfl) (ev rfl) H1.out) ?_
      simp only [Act.put, aa, ac, ae]
      refine af (v := .bool true) rfl (aJ rfl (ev rfl) (ev rfl)) ?_
      simp only [Act.put, aa, ac, ae]
      refine af (v := .bool true) rfl (aj rfl (ev rfl)) ?_
      simp only [Act.put, aa, ac, ae]
      refine wpList_nil ?_
      go_wp2_with fail
      go_ret
      exact ⟨aO (by rw [HE.out]), HB.out⟩
    · have H1 : Hid (decide (m < k) = false) := Lib.hid (decide_eq_false h1)
      have HE : Hid (hasM x m = false) := Lib.hid (by rw [HF.out, decide_eq_false (fun e => h1 e.2)])
      clear h0 h1
      refine wp_region_lit ?_
      refine af rfl (ag rfl (ev rfl)) ?_
      simp only [Act.put, aa, ac, ae]
      refine af (v := .bool true) rfl (bV true rfl (ev rfl) evk H0.out) ?_
      simp only [Act.put, aa, ac, ae]
      refine af (v := .bool true) rfl (ag rfl (ev rfl)) ?_
      simp only [Act.put, aa, ac, ae]
      refine ah (ai rfl rfl rfl rfl) (ag rfl (ev rfl)) ?_
      simp only [Act.put, aa, ac, ae]
      refine ah (ai rfl rfl rfl rfl) (am rfl (ev rfl) faR0) ?_
      simp only [Act.put, aa, ac, ae]
      refine ah (ai rfl rfl rfl rfl) (am rfl (ev rfl) faG0) ?_
      simp only [Act.put, aa, ac, ae]
      refine ah (ai rfl rfl rfl rfl) (au rfl (ev rfl) (bF HC.out)) ?_
      simp only [Act.put, aa, ac, ae]
      refine ah (v := .bool false) (ai rfl rfl rfl rfl) (bi false rfl (ev rfl) (ev rfl) H1.out) ?_
      simp only [Act.put, aa, ac, ae]
      refine af (v := .bool false) rfl (aJ rfl (ev rfl) (ev rfl)) ?_
      simp only [Act.put, aa, ac, ae]
      refine af (v := .bool false) rfl (aj rfl (ev rfl)) ?_
      simp only [Act.put, aa, ac, ae]
      refine wpList_nil ?_
      go_wp2_with fail
      go_ret
      exact ⟨aO (by rw [HE.out]), HB.out⟩
  · have H0 : Hid (decide ((0 : Int) ≤ m) = false) := Lib.hid (decide_eq_false h0)
    have HE : Hid (hasM x m = false) := Lib.hid (by rw [HF.out, decide_eq_false (fun e => h0 e.1)])
    clear h0
    refine wp_region_lit ?_
    refine af rfl (ag rfl (ev rfl)) ?_
    simp only [Act.put, aa, ac, ae]
    refine af (v := .bool false) rfl (bV false rfl (ev rfl) evk H0.out) ?_
    simp only [Act.put, aa, ac, ae]
    refine aR 5 (v := .bool false) rfl (ag rfl (ev rfl)) (by kernel_rfl) ?_
    simp only [bj, List.take_succ_cons, List.take_zero, List.drop_succ_cons, List.drop_zero, Act.put, List.setIfInBounds_toArray, List.set_cons_succ, List.set_cons_zero]
    refine af (v := .bool false) rfl (aM rfl (ev rfl) evk) ?_
    simp only [Act.put, aa, ac, ae]
    refine af (v := .bool false) rfl (aj rfl (ev rfl)) ?_
    simp only [Act.put, aa, ac, ae]
    refine wpList_nil ?_
    go_wp2_with fail
    go_ret
    exact ⟨aO (by rw [HE.out]), HB.out⟩
set_option maxHeartbeats 1000000 in
theorem pstripe (x : Ros) (m : Int) (w : World) : Calls Tryz.prog 67 #[ros x, .int .i64 m] w fun e w' => e = .returned (.bool (hasC x m)) ∧ Below w.heap.size w w' := by
  obtain ⟨h1, h2, h3⟩ := bW w x
  have HR := Lib.hid h1
  have HB := Lib.hid h2
  have HC := Lib.hid h1.cells.2.1
  clear h1 h2 h3
  have HF : Hid (hasC x m = decide (0 ≤ m ∧ m < x.s)) := Lib.hid rfl
  go_enter Tryz.func67, Tryz.ntmps67
  go_upto_region 1 with (first | (refine af rfl (aL rfl rfl) ?_) | fail)
  generalize w.alloc (.cells (aE x).toArray 32) = w1 at *
  generalize x.s = k at *
  by_cases h0 : 0 ≤ m
  · have H0 : Hid (decide ((0 : Int) ≤ m) = true) := Lib.hid (decide_eq_true h0)
    by_cases h1 : m < k
    · have H1 : Hid (decide (m < k) = true) := Lib.hid (decide_eq_true h1)
      have HE : Hid (hasC x m = true) := Lib.hid (by rw [HF.out, decide_eq_true ⟨h0, h1⟩])
      clear h0 h1
      refine wp_region_lit ?_
      refine af rfl (ag rfl (ev rfl)) ?_
      simp only [Act.put, aa, ac, ae]
      refine af (v := .bool true) rfl (bV true rfl (ev rfl) evk H0.out) ?_
      simp only [Act.put, aa, ac, ae]
      refine af (v := .bool true) rfl (ag rfl (ev rfl)) ?_
      simp only [Act.put, aa, ac, ae]
      refine ah (ai rfl rfl rfl rfl) (ag rfl (ev rfl)) ?_
      simp only [Act.put, aa, ac, ae]
      refine ah (ai rfl rfl rfl rfl) (am rfl (ev rfl) faR0) ?_
      simp only [Act.put, aa, ac, ae]
      refine ah (ai rfl rfl rfl rfl) (am rfl (ev rfl) faG1) ?_
      simp only [Act.put, aa, ac, ae]
      refine ah (ai rfl rfl rfl rfl) (au rfl (ev rfl) (bF HC.out)) ?_
      simp only [Act.put, aa, ac, ae]
      refine ah (v := .bool true) (ai rfl rfl rfl rfl) (bi true rfl (ev rfl) (ev rfl) H1.out) ?_
      simp only [Act.put, aa, ac, ae]
      refine af (v := .bool true) rfl (aJ rfl (ev rfl) (ev rfl)) ?_
      simp only [Act.put, aa, ac, ae]
      refine af (v := .bool true) rfl (aj rfl (ev rfl)) ?_
      simp only [Act.put, aa, ac, ae]
      refine wpList_nil ?_
      go_wp2_with fail
      go_ret
      exact ⟨aO (by rw [HE.out]), HB.out⟩
    · have H1 : Hid (decide (m < k) = false) := Lib.hid (decide_eq_false h1)
      have HE : Hid (hasC x m = false) := Lib.hid (by rw [HF.out, decide_eq_false (fun e => h1 e.2)])
      clear h0 h1
      refine wp_region_lit ?_
      refine af rfl (ag rfl (ev rfl)) ?_
      simp only [Act.put, aa, ac, ae]
      refine af (v := .bool true) rfl (bV true rfl (ev rfl) evk H0.out) ?_
      simp only [Act.put, aa, ac, ae]
      refine af (v := .bool true) rfl (ag rfl (ev rfl)) ?_
      simp only [Act.put, aa, ac, ae]
      refine ah (ai rfl rfl rfl rfl) (ag rfl (ev rfl)) ?_
      simp only [Act.put, aa, ac, ae]
      refine ah (ai rfl rfl rfl rfl) (am rfl (ev rfl) faR0) ?_
      simp only [Act.put, aa, ac, ae]
      refine ah (ai rfl rfl rfl rfl) (am rfl (ev rfl) faG1) ?_
      simp only [Act.put, aa, ac, ae]
      refine ah (ai rfl rfl rfl rfl) (au rfl (ev rfl) (bF HC.out)) ?_
      simp only [Act.put, aa, ac, ae]
      refine ah (v := .bool false) (ai rfl rfl rfl rfl) (bi false rfl (ev rfl) (ev rfl) H1.out) ?_
      simp only [Act.put, aa, ac, ae]
      refine af (v := .bool false) rfl (aJ rfl (ev rfl) (ev rfl)) ?_
      simp only [Act.put, aa, ac, ae]
      refine af (v := .bool false) rfl (aj rfl (ev rfl)) ?_
      simp only [Act.put, aa, ac, ae]
      refine wpList_nil ?_
      go_wp2_with fail
      go_ret
      exact ⟨aO (by rw [HE.out]), HB.out⟩
  · have H0 : Hid (decide ((0 : Int) ≤ m) = false) := Lib.hid (decide_eq_false h0)
    have HE : Hid (hasC x m = false) := Lib.hid (by rw [HF.out, decide_eq_false (fun e => h0 e.1)])
    clear h0
    refine wp_region_lit ?_
    refine af rfl (ag rfl (ev rfl)) ?_
    simp only [Act.put, aa, ac, ae]
    refine af (v := .bool false) rfl (bV false rfl (ev rfl) evk H0.out) ?_
    simp only [Act.put, aa, ac, ae]
    refine aR 5 (v := .bool false) rfl (ag rfl (ev rfl)) (by kernel_rfl) ?_
    simp only [bj, List.take_succ_cons, List.take_zero, List.drop_succ_cons, List.drop_zero, Act.put, List.setIfInBounds_toArray, List.set_cons_succ, List.set_cons_zero]
    refine af (v := .bool false) rfl (aM rfl (ev rfl) evk) ?_
    simp only [Act.put, aa, ac, ae]
    refine af (v := .bool false) rfl (aj rfl (ev rfl)) ?_
    simp only [Act.put, aa, ac, ae]
    refine wpList_nil ?_
    go_wp2_with fail
    go_ret
    exact ⟨aO (by rw [HE.out]), HB.out⟩
set_option maxHeartbeats 1000000 in
theorem pmany (x : Ros) (c : Int) (w : World) : Calls Tryz.prog 72 #[ros x, .int .u8 c] w fun e w' => e = .returned (.int .i64 (many x c : Nat)) ∧ Below w.heap.size w w' := by
  obtain ⟨h1, h2, h3⟩ := bW w x
  have HR := Lib.hid h1
  have HB := Lib.hid h2
  clear h1 h2 h3
  have HL := Lib.hid (stL_length x.st)
  have HH := Lib.hid (many_def x c)
  go_enter Tryz.func72, Tryz.ntmps72
  go_wp2_with (first | (refine af rfl (aL rfl rfl) ?_) | (refine af rfl (cF HL.out rfl rfl ?_) ?_; (with_reducible exact HR.out.sts)) | fail)
  generalize w.alloc (.cells (aE x).toArray 32) = w1 at *
  generalize x.st.toList = l at *
  go_loop [5, 10] (fun n i => ∃ j : Nat, j ≤ 16 ∧ i = .int .i64 j ∧ n = .int .i64 (cntK l c j : Nat)) (fun _ i => 16 - (intOf i).toNat)
  case atStart => exact ⟨0, Nat.zero_le _, rfl, rfl⟩
  case round =>
    obtain ⟨j, hj, rfl, rfl⟩ := hrel
    by_cases hlt : j < 16
    · have hs := Lib.hid (dv l c j)
      have hle := cntK_le l c j
      generalize cntK l c j = n at *
      by_cases h2 : bt l j = c
      · rw [if_pos h2] at hs
        have hd : (bt l j == c) = true := by simpa using h2
        clear h2
        go_wp2_with (first | (refine af rfl (cP (l := l) (j := j) HL.out hlt rfl rfl rfl) ?_) | fail)
        go_round
        case rel => exact ⟨j + 1, by omega, by go_num, by rw [hs.out]; go_num⟩
        case measure => simp [intOf]; omega
      · rw [if_neg h2] at hs
        have hd : (bt l j == c) = false := by simpa using h2
        clear h2
        go_wp2_with (first | (refine af rfl (cP (l := l) (j := j) HL.out hlt rfl rfl rfl) ?_) | fail)
        go_round
        case rel => exact ⟨j + 1, by omega, by go_num, by rw [hs.out, Nat.add_zero]⟩
        case measure => simp [intOf]; omega
    · have e : j = 16 := by omega
      subst e
      go_wp2
      go_ret
      exact ⟨by rw [HH.out]; rfl, HB.out⟩
set_option maxHeartbeats 1000000 in
theorem pcursor (x : Ros) (w : World) : Calls Tryz.prog 61 #[ros x] w fun e w' => e = .returned (.bool (curB x)) ∧ Below w.heap.size w w' := by
  obtain ⟨h1, h2, h3⟩ := bW w x
  have HR := Lib.hid h1
  have HB := Lib.hid h2
  have HZ := Lib.hid h3
  clear h1 h2 h3
  have HC : Hid (curB x = if many x 2 = 0 then decide (x.cur = 0) else hasC x x.cur) := Lib.hid (by rw [← dW]; rfl)
  go_enter Tryz.func61, Tryz.ntmps61
  go_wp2_with (first | (refine af rfl (aL rfl rfl) ?_) | (refine af rfl (aQ (c := x) rfl rfl ?_) ?_; (with_reducible exact HR.out.range)) | fail)
  generalize w.alloc (.cells (aE x).toArray 32) = w1 at *
  refine (pmany x 2 w1).mono ?_
  rintro e w2 ⟨rfl, hb⟩
  have HR2 := Lib.hid (HR.out.below HZ.out hb)
  obtain ⟨c0, c1, c2, c3, c4⟩ := HR2.out.cells
  have HB2 := Lib.hid (HB.out.trans (hb.mono (Nat.le_of_lt HZ.out)))
  have HZ2 := Lib.hid (aH HR2.out)
  clear hb
  by_cases h0 : many x 2 = 0
  · rw [if_pos h0] at HC
    rw [h0]
    go_wp2
    go_ret
    exact ⟨aO (by rw [HC.out, Bool.eq_iff_iff]; simp), HB2.out⟩
  · rw [if_neg h0] at HC
    have hd : ((many x 2 : Int) == 0) = false := by simp; omega
    clear h0
    generalize many x 2 = n at *
    go_wp2_with (first | (refine af rfl (aQ (c := x) rfl rfl ?_) ?_; (with_reducible exact HR2.out.range)) | fail)
    refine (pstripe x x.cur w2).mono ?_
    rintro e w3 ⟨rfl, hb⟩
    have HB3 := Lib.hid (HB2.out.trans (hb.mono (Nat.le_of_lt HZ2.out)))
    clear hb
    go_wp2_with fail
    go_ret
    exact ⟨aO (by rw [HC.out]), HB3.out⟩
theorem stm_ok {x : Ros} (h1 : ∀ k, k < 16 → sta x k ≤ 2) (h2 : ∀ k : Nat, k < 16 → sta x k ≠ 0 → hasM x (k : Int) = true) : staB x = true :=
  staB_iff.2 ⟨h1, fun k hk hm => Classical.byContradiction fun h0 => by have := of_hasM (h2 k hk h0); omega⟩
theorem stm_big {x : Ros} {k : Nat} (hk : k < 16) (h : 2 < sta x k) : staB x = false := Bool.eq_false_iff.2 fun hs => by have := (of_staB hs).1 k hk; omega
theorem stm_far {x : Ros} {k : Nat} (hk : k < 16) (h0 : sta x k ≠ 0) (h : hasM x (k : Int) = false) : staB x = false := Bool.eq_false_iff.2 fun hs => by
  have h1 := of_decide_eq_false h
  exact h0 ((of_staB hs).2 k hk (by omega))
set_option maxHeartbeats 2000000 in
theorem pmstates (x : Ros) (w : World) : Calls Tryz.prog 60 #[ros x] w fun e w' => e = .returned (.bool (staB x && decide (cq x ≤ 1))) ∧ Below w.heap.size w w' := by
  obtain ⟨h1, h2, h3⟩ := bW w x
  have HR := Lib.hid h1
  have HB := Lib.hid h2
  have HZ := Lib.hid h3
  clear h1 h2 h3
  have HL := Lib.hid (stL_length x.st)
  have HOK : Hid ((∀ k, k < 16 → bt x.st.toList k ≤ 2) → (∀ k : Nat, k < 16 → bt x.st.toList k ≠ 0 → hasM x (k : Int) = true) → staB x = true) := Lib.hid stm_ok
  have HBIG : Hid (∀ k, k < 16 → 2 < bt x.st.toList k → staB x = false) := Lib.hid fun k => stm_big
  have HFAR : Hid (∀ k : Nat, k < 16 → bt x.st.toList k ≠ 0 → hasM x (k : Int) = false → staB x = false) := Lib.hid fun k => stm_far
  go_enter Tryz.func60, Tryz.ntmps60
  go_wp2_with (first | (refine af rfl (aL rfl rfl) ?_) | (refine af rfl (cF HL.out rfl rfl ?_) ?_; (with_reducible exact HR.out.sts)) | fail)
  generalize w.alloc (.cells (aE x).toArray 32) = w1 at *
  have hb0 := HB.out
  have hr0 := HR.out
  clear HB HR HZ
  go_loopw [7] (fun i wr => ∃ j : Nat, j ≤ 16 ∧ i = .int .i64 j ∧ Below w.heap.size w wr ∧ bf wr w.heap.size x ∧ (∀ k, k < j → bt x.st.toList k ≤ 2) ∧ (∀ k : Nat, k < j → bt x.st.toList k ≠ 0 → hasM x (k : Int) = true)) (fun i _ => 16 - (intOf i).toNat)
  case atStart => exact ⟨0, Nat.zero_le _, rfl, hb0, hr0, fun k hk => absurd hk (by omega), fun k hk => absurd hk (by omega)⟩
  case round =>
    clear hb0 hr0
    obtain ⟨j, hj, rfl, hb, hr, h1, h2⟩ := hrel
    have HB := Lib.hid hb
    have HR := Lib.hid hr
    have HZ := Lib.hid (aH hr)
    have HA1 := Lib.hid h1
    have HA2 := Lib.hid h2
    clear hb hr h1 h2
    by_cases hlt : j < 16
    · have HS : Hid (bt x.st.toList j ≤ 2 → ∀ k, k < j + 1 → bt x.st.toList k ≤ 2) := Lib.hid fun hv k hk => by
        by_cases e : k = j
        · rw [e]; exact hv
        · exact HA1.out k (by omega)
      have HT : Hid ((bt x.st.toList j ≠ 0 → hasM x (j : Int) = true) → ∀ k : Nat, k < j + 1 → bt x.st.toList k ≠ 0 → hasM x (k : Int) = true) := Lib.hid fun hv k hk h0 => by
        by_cases e : k = j
        · rw [e] at h0 ⊢; exact hv h0
        · exact HA2.out k (by omega) h0
      have HLO := Lib.hid (bt_lo x.st.toList j)
      have HG := Lib.hid (HBIG.out j hlt)
      have HFR := Lib.hid (HFAR.out j hlt)
      clear HOK HBIG HFAR HA1 HA2
      obtain ⟨v, hv⟩ : ∃ v, bt x.st.toList j = v := ⟨_, rfl⟩
      rw [hv] at HS HT HLO HG HFR
      have HV := Lib.hid hv
      clear hv
      by_cases v0 : v = 0
      · have HN1 := Lib.hid (HS.out (by omega))
        have HN2 := Lib.hid (HT.out (fun h => absurd v0 h))
        have d0 : (v == 0) = true := by simpa using v0
        clear v0
        go_wp2_with (first | (refine af rfl (cP (l := x.st.toList) (j := j) HL.out hlt rfl rfl rfl) ?_; rw [HV.out]) | fail)
        go_roundw
        case rel => exact ⟨j + 1, by omega, by go_num, HB.out, HR.out, HN1.out, HN2.out⟩
        case measure => simp [intOf]; omega
      · by_cases vb : 2 < v
        · have HF := Lib.hid (HG.out vb)
          have d0 : (v == 0) = false := by simp; omega
          have d1 : (v == 1) = false := by simp; omega
          have d2 : (v == 2) = false := by simp; omega
          clear v0 vb
          go_wp2_with (first | (refine af rfl (cP (l := x.st.toList) (j := j) HL.out hlt rfl rfl rfl) ?_; rw [HV.out]) | fail)
          go_ret
          exact ⟨aO (by rw [HF.out]; rfl), HB.out⟩
        · have HN1 := Lib.hid (HS.out (by omega))
          have HV0 := Lib.hid v0
          have d0 : (v == 0) = false := by simpa using v0
          obtain ⟨q, hq⟩ : ∃ q, hasM x (j : Int) = q := ⟨_, rfl⟩
          have HQ := Lib.hid hq
          rw [hq] at HT HFR
          clear hq
          have hv2 : v = 1 ∨ v = 2 := by have := HLO.out; omega
          rcases hv2 with e | e
          · have d1 : (v == 1) = true := by simpa using e
            clear e v0 vb
            go_wp2_with (first | (refine af rfl (cP (l := x.st.toList) (j := j) HL.out hlt rfl rfl rfl) ?_; rw [HV.out]) | (refine af rfl (aQ (c := x) rfl rfl ?_) ?_; (with_reducible exact HR.out.range)) | fail)
            refine (pmember x (j : Int) wr).mono ?_
            rintro e w3 ⟨rfl, hb⟩
            rw [HQ.out]
            have HB3 := Lib.hid (HB.out.trans (hb.mono (Nat.le_of_lt HZ.out)))
            have HR3 := Lib.hid (HR.out.below HZ.out hb)
            clear hb HR HB HZ
            cases q
            · have HF := Lib.hid (HFR.out HV0.out rfl)
              go_wp2_with fail
              go_ret
              exact ⟨aO (by rw [HF.out]; rfl), HB3.out⟩
            · have HN2 := Lib.hid (HT.out (fun _ => rfl))
              go_wp2_with fail
              go_roundw
              case rel => exact ⟨j + 1, by omega, by go_num, HB3.out, HR3.out, HN1.out, HN2.out⟩
              case measure => simp [intOf]; omega
          · have d1 : (v == 1) = false := by simp; omega
            have d2 : (v == 2) = true := by simpa using e
            clear e v0 vb
            go_wp2_with (first | (refine af rfl (cP (l := x.st.toList) (j := j) HL.out hlt rfl rfl rfl) ?_; rw [HV.out]) | (refine af rfl (aQ (c := x) rfl rfl ?_) ?_; (with_reducible exact HR.out.range)) | fail)
            refine (pmember x (j : Int) wr).mono ?_
            rintro e w3 ⟨rfl, hb⟩
            rw [HQ.out]
            have HB3 := Lib.hid (HB.out.trans (hb.mono (Nat.le_of_lt HZ.out)))
            have HR3 := Lib.hid (HR.out.below HZ.out hb)
            clear hb HR HB HZ
            cases q
            · have HF := Lib.hid (HFR.out HV0.out rfl)
              go_wp2_with fail
              go_ret
              exact ⟨aO (by rw [HF.out]; rfl), HB3.out⟩
            · have HN2 := Lib.hid (HT.out (fun _ => rfl))
              go_wp2_with fail
              go_roundw
              case rel => exact ⟨j + 1, by omega, by go_num, HB3.out, HR3.out, HN1.out, HN2.out⟩
              case measure => simp [intOf]; omega
    · have e : j = 16 := by omega
      subst e
      have HE := Lib.hid (HOK.out HA1.out HA2.out)
      clear HOK HBIG HFAR HA1 HA2 hlt hj
      go_wp2_with (first | (refine af rfl (aQ (c := x) rfl rfl ?_) ?_; (with_reducible exact HR.out.range)) | fail)
      refine (pmany x 2 wr).mono ?_
      rintro e w3 ⟨rfl, hb⟩
      have HB3 := Lib.hid (HB.out.trans (hb.mono (Nat.le_of_lt HZ.out)))
      clear hb
      have hm := Lib.hid (dW x)
      generalize many x 2 = n at *
      go_wp2
      go_ret
      exact ⟨aO (by rw [HE.out, Bool.true_and, hm.out, decide_eq_decide]; omega), HB3.out⟩
set_option maxHeartbeats 2000000 in
theorem pmay (x : Ros) (w : World) : Calls Tryz.prog 34 #[ros x] w fun e w' => e = .returned (.bool (aI x)) ∧ Below w.heap.size w w' := by
  have HF := Lib.hid (fine_split x)
  obtain ⟨h1, h2, h3⟩ := bW w x
  have HR := Lib.hid h1
  have HB := Lib.hid h2
  have HZ := Lib.hid h3
  clear h1 h2 h3
  go_enter Tryz.func34, Tryz.ntmps34
  go_wp2_with (first | (refine af rfl (aL rfl rfl) ?_) | (refine af rfl (cT (c := x) rfl rfl ?_) ?_; (with_reducible exact HR.out.geo)) | fail)
  generalize w.alloc (.cells (aE x).toArray 32) = w1 at *
  refine (pgmay x w1).mono ?_
  rintro e w2 ⟨rfl, hb⟩
  have HR2 := Lib.hid (HR.out.below HZ.out hb)
  have HB2 := Lib.hid (HB.out.trans (hb.mono (Nat.le_of_lt HZ.out)))
  have HZ2 := Lib.hid (aH HR2.out)
  clear hb HR HB HZ
  generalize geoB x = g at *
  cases g
  · go_wp2_with fail
    go_ret
    exact ⟨aO (by rw [HF.out]; rfl), HB2.out⟩
  · go_wp2_with (first | (refine ah (by rfl) (aQ (c := x) rfl rfl ?_) ?_; (with_reducible exact HR2.out.range)) | fail)
    refine (pmstates x w2).mono ?_
    rintro e w3 ⟨rfl, hb⟩
    have HR3 := Lib.hid (HR2.out.below HZ2.out hb)
    have HB3 := Lib.hid (HB2.out.trans (hb.mono (Nat.le_of_lt HZ2.out)))
    have HZ3 := Lib.hid (aH HR3.out)
    clear hb HR2 HB2 HZ2
    generalize (staB x && decide (cq x ≤ 1)) = p at *
    cases p
    · go_wp2_with fail
      go_ret
      exact ⟨aO (by rw [HF.out]; rfl), HB3.out⟩
    · go_wp2_with (first | (refine ah (by rfl) (aQ (c := x) rfl rfl ?_) ?_; (with_reducible exact HR3.out.range)) | fail)
      refine (pcursor x w3).mono ?_
      rintro e w4 ⟨rfl, hb⟩
      have HB4 := Lib.hid (HB3.out.trans (hb.mono (Nat.le_of_lt HZ3.out)))
      clear hb
      generalize curB x = q at *
      go_wp2_with fail
      go_ret
      exact ⟨aO (by rw [HF.out]; rfl), HB4.out⟩
set_option maxHeartbeats 1000000 in
theorem rmay (x : Ros) (w : World) : Calls Tryz.prog 36 #[ros x] w fun e w' => e = .returned (.bool (aI x)) ∧ Below w.heap.size w w' := by
  obtain ⟨h1, h2, h3⟩ := bW w x
  have HR := Lib.hid h1
  have HB := Lib.hid h2
  have HZ := Lib.hid h3
  clear h1 h2 h3
  go_enter Tryz.func36, Tryz.ntmps36
  go_wp2_with (first | (refine af rfl (aL rfl rfl) ?_) | (refine af rfl (aQ (c := x) rfl rfl ?_) ?_; (with_reducible exact HR.out.range)) | fail)
  generalize w.alloc (.cells (aE x).toArray 32) = w1 at *
  refine (rfine x w1).mono ?_
  rintro e w2 ⟨rfl, hb⟩
  have HB2 := Lib.hid (HB.out.trans (hb.mono (Nat.le_of_lt HZ.out)))
  clear hb
  go_wp2_with fail
  go_ret
  exact ⟨rfl, HB2.out⟩
def setW (w : World) (b o : Nat) (v : Value) : World := w.setCell ⟨b, o, none⟩ v
def putW (w : World) (b : Nat) (x : Ros) : World := w.setCells b 0 (aE x)
section
variable {w w0 : World} {b k o : Nat} {v : Value} {x y : Ros}
theorem setW_below {B : Nat} (h : Below B w0 w) (hb : B ≤ b) : Below B w0 (setW w b o v) := below_setCells h hb [v]
theorem setW_off (hne : k ≠ b) : (setW w b o v).heap[k]? = w.heap[k]? := heap_setCell_other w ⟨b, o, none⟩ k v hne
theorem putW_size : (putW w b x).heap.size = w.heap.size := (cM b _ 0 w).1
theorem dZ {B : Nat} (h : Below B w0 w) (hb : B ≤ b) : Below B w0 (putW w b x) := below_setCells h hb _
theorem putW_off (hne : k ≠ b) : (putW w b x).heap[k]? = w.heap[k]? := cW b _ 0 w k hne
theorem putW_at (h : bf w b y) : bf (putW w b x) b x := by
  have h' : w.heap[b]? = some (.cells ([] ++ aE y ++ []).toArray 32 (0, 0)) := by rw [List.nil_append, List.append_nil]; exact h
  have := heap_put b 32 [] (aE x) (aE y) [] w (by rw [aV, aV]) h'
  rw [List.nil_append, List.append_nil] at this
  exact this
theorem celR_set (x : Ros) {j : Nat} (hj : j < 16) (u : UInt8) : (aE x).set (3 + j) (.int .u8 (u.toNat : Int)) = aE (setS x j u) := by
  rw [celR_eq x, celR_eq (setS x j u), setS_list]
  have e1 : celG (setS x j u) = celG x := rfl
  rw [e1, List.set_append_right _ _ (by simp [celG]), show 3 + j - (celG x).length = j from by simp [celG], List.set_append_left _ _ (by rw [aS]; simp; omega)]
  unfold vals
  rw [List.map_set]
  rfl
theorem celR_cur (x : Ros) (c : Int) : (aE x).set 19 (.int .i64 c) = aE (curS x c) := by
  rw [celR_eq x, celR_eq (curS x c)]
  have e1 : celG (curS x c) = celG x := rfl
  rw [e1, List.set_append_right _ _ (by simp [celG]), show 19 - (celG x).length = 16 from rfl, List.set_append_right _ _ (by rw [aS]; simp), show 16 - (vals x.st.toList).length = 0 from by rw [aS]; simp]
  rfl
theorem bf.setW (h : bf w b x) (hy : (aE x).set o v = aE y) : bf (setW w b o v) b y := by
  have := heap_setCell_same w b o _ 32 v h
  rw [List.setIfInBounds_toArray, hy] at this
  exact this
theorem bf.there (h : bf w b x) {o n : Nat} (hn : o + n ≤ 21) : w.there b o n := cI h (by rw [aV]; exact hn)
end
section
variable {ρ : Operand → Value} {o : Oper} {x y : Operand} {w : World} {b off : Nat} {c d : Ros}
theorem cu (ho : o.op = .store 32 x y) (hx : ρ x = .pointer (some ⟨b, 0, none⟩)) (hy : ρ y = ros c) (h : bf w b d) : (execOp ρ o).run Tryz.prog w = .ok .skip (putW w b c) :=
  exec_putT (by rw [aV]; exact sizeR) (celR_one c) ho hx hy (by rw [aV]; exact h.there (by omega))
theorem there1 (h : w.there b off 1) : ∃ v, w.cell? ⟨b, off, none⟩ = some v ∧ w.frozen? ⟨b, off, none⟩ = false := by
  have := h 0 (by omega)
  rw [Nat.add_zero] at this
  obtain ⟨h1, h2⟩ := this
  obtain ⟨v, hv⟩ := Option.isSome_iff_exists.1 h1
  exact ⟨v, hv, h2⟩
theorem exec_stS {u : Int} (ho : o.op = .store 5 x y) (hx : ρ x = .pointer (some ⟨b, off, none⟩)) (hy : ρ y = .int .u8 u) (h : w.there b off 1) : (execOp ρ o).run Tryz.prog w = .ok .skip (setW w b off (.int .u8 u)) := by
  obtain ⟨v, hc, hf⟩ := there1 h
  exact exec_st ho hx hy (by simp [go_sem, hc, hf, setW])
theorem exec_stI {u : Int} (ho : o.op = .store 3 x y) (hx : ρ x = .pointer (some ⟨b, off, none⟩)) (hy : ρ y = .int .i64 u) (h : w.there b off 1) : (execOp ρ o).run Tryz.prog w = .ok .skip (setW w b off (.int .i64 u)) := by
  obtain ⟨v, hc, hf⟩ := there1 h
  exact exec_st ho hx hy (by simp [go_sem, hc, hf, setW])
theorem aF (ho : o.op = .load 32 x) (hx : ρ x = .pointer (some ⟨b, 0, none⟩)) (h : bf w b c) : (execOp ρ o).run Tryz.prog w = .ok (.value (ros c)) w := aQ ho hx h.range
theorem run_bldR0 (w : World) : (Instr.build 32 #[]).run Tryz.prog w = .ok (ros bh) w := by kernel_rfl
theorem exec_bldR0 (ho : o.op = .build 32 #[]) : (execOp ρ o).run Tryz.prog w = .ok (.value (ros bh)) w := exec_bld0 ho (run_bldR0 w)
theorem ldBo {ad : Addr} {n : Bool} (h : w.cell? ad = some (.bool n)) : (Instr.loadAt 4 (.pointer (some ad))).run Tryz.prog w = .ok (.bool n) w := by simp [go_sem, h]
theorem faR3 {b : Nat} : (Instr.fieldAt 32 (.pointer (some ⟨b, 0, none⟩)) 3).run Tryz.prog w = .ok (.pointer (some ⟨b, 20, none⟩)) w := by kernel_rfl
theorem res_rt {fn : Func} {p u : Tmp} (h : fn.results = #[.cell p 32, .tmp u]) (tmps : Array Value) (w : World) (b : Nat) (hp : tmps.getD p undef = .pointer (some ⟨b, 0, none⟩)) (hc : bf w b c) :
    (results fn tmps).run Tryz.prog w = .ok (.tuple #[ros c, tmps.getD u undef]) w := by
  have hl : (loadVar 32 ⟨b, 0, none⟩).run Tryz.prog w = .ok (ros c) w := run_loadVar_mid w b 0 32 (aE c) _ hc.range Tryz.underlying32 rfl (by rw [aV]; exact sizeR)
  have hp' : tmps[p]?.getD undef = .pointer (some ⟨b, 0, none⟩) := by simpa using hp
  simp [results, h, hp', asAddr, hl]
end
structure TwoR (w0 w : World) (x y : Ros) : Prop where
  bel : Below w0.heap.size w0 w
  at0 : bf w w0.heap.size x
  at1 : bf w (w0.heap.size + 1) y
theorem TwoR.new (w : World) (x : Ros) : TwoR w ((w.alloc (.cells (aE x).toArray 32)).alloc (.cells (aE bh).toArray 32)) x bh := by
  refine ⟨((Below.refl _ w).alloc (Nat.le_refl _) _).alloc (by simp) _, (bf.new w x).past _, ?_⟩
  have := bf.new (w.alloc (.cells (aE x).toArray 32)) bh
  rwa [World.size_alloc] at this
section
variable {w0 w w' : World} {x y z : Ros}
theorem TwoR.call (h : TwoR w0 w x y) (hb : Below w.heap.size w w') : TwoR w0 w' x y :=
  ⟨h.bel.trans (hb.mono h.bel.size), h.at0.below (aH h.at0) hb, h.at1.below (aH h.at1) hb⟩
theorem TwoR.put (h : TwoR w0 w x y) (z : Ros) : TwoR w0 (putW w (w0.heap.size + 1) z) x z :=
  ⟨dZ h.bel (by omega), (putW_off (by omega)).trans h.at0, putW_at h.at1⟩
theorem TwoR.set (h : TwoR w0 w x y) {o : Nat} {v : Value} (hy : (aE x).set o v = aE z) : TwoR w0 (setW w w0.heap.size o v) z y :=
  ⟨setW_below h.bel (Nat.le_refl _), h.at0.setW hy, (setW_off (by omega)).trans h.at1⟩
end
structure OneR (w0 w : World) (x : Ros) : Prop where
  bel : Below w0.heap.size w0 w
  at0 : bf w w0.heap.size x
theorem OneR.new (w : World) (x : Ros) : OneR w (w.alloc (.cells (aE x).toArray 32)) x := ⟨(bW w x).2.1, (bW w x).1⟩
theorem OneR.call {w0 w w' : World} {x : Ros} (h : OneR w0 w x) (hb : Below w.heap.size w w') : OneR w0 w' x :=
  ⟨h.bel.trans (hb.mono h.bel.size), h.at0.below (aH h.at0) hb⟩
theorem OneR.above {w0 w w' : World} {x : Ros} (h : OneR w0 w x) (hb : Below w.heap.size w w') : bf w' w0.heap.size x := h.at0.below (aH h.at0) hb
section
variable {x : Ros} {m : Int} {c : Int} {b : Bool} (w : World)
theorem ct (h : aI x = b) : Calls Tryz.prog 34 #[ros x] w fun e w' => e = .returned (.bool b) ∧ Below w.heap.size w w' := by subst h; exact pmay x w
theorem rmay_b (h : aI x = b) : Calls Tryz.prog 36 #[ros x] w fun e w' => e = .returned (.bool b) ∧ Below w.heap.size w w' := by subst h; exact rmay x w
theorem cO (h : hasM x m = b) : Calls Tryz.prog 66 #[ros x, .int .i64 m] w fun e w' => e = .returned (.bool b) ∧ Below w.heap.size w w' := by subst h; exact pmember x m w
theorem pstripe_b (h : hasC x m = b) : Calls Tryz.prog 67 #[ros x, .int .i64 m] w fun e w' => e = .returned (.bool b) ∧ Below w.heap.size w w' := by subst h; exact pstripe x m w
theorem db {n : Nat} (h : many x c = n) : Calls Tryz.prog 72 #[ros x, .int .u8 c] w fun e w' => e = .returned (.int .i64 (n : Nat)) ∧ Below w.heap.size w w' := by subst h; exact pmany x c w
end
set_option maxHeartbeats 1000000 in
theorem phas_0 {x : Ros} {m s : Int} (hf : aI x = false) (w : World) : Calls Tryz.prog 42 #[ros x, .int .i64 m, .int .i64 s] w fun e w' => e = .returned (.bool false) ∧ Below w.heap.size w w' := by
  have HT1 := Lib.hid (OneR.new w x)
  have HF := Lib.hid hf
  clear hf
  go_enter Tryz.func42, Tryz.ntmps42
  go_upto_region 1 with (first | (refine af rfl (aL rfl rfl) ?_) | fail)
  generalize w.alloc (.cells (aE x).toArray 32) = w1 at *
  refine wp_region_lit ?_
  refine af rfl (aF rfl (ev rfl) (HT1.out.at0)) ?_
  simp only [Act.put, aa, ac, ae]
  refine ak rfl (ap Tryz.call34 rfl (evc (ev rfl) evn)) ?_
  refine (ct w1 HF.out).mono ?_
  rintro e w2 ⟨rfl, hb⟩
  have HT2 := Lib.hid (HT1.out.call hb)
  clear hb HT1
  refine ⟨_, rfl, ?_⟩
  simp only [Act.put, aa, ac, ae]
  refine af (v := .bool true) rfl (aA false rfl (ev rfl)) ?_
  simp only [Act.put, aa, ac, ae]
  refine aR 4 (v := .bool true) rfl (ag rfl (ev rfl)) (by kernel_rfl) ?_
  simp only [bj, List.take_succ_cons, List.take_zero, List.drop_succ_cons, List.drop_zero, Act.put, List.setIfInBounds_toArray, List.set_cons_succ, List.set_cons_zero]
  refine af (v := .bool true) rfl (aJ rfl (ev rfl) evk) ?_
  simp only [Act.put, aa, ac, ae]
  refine aR 4 (v := .bool true) rfl (ag rfl (ev rfl)) (by kernel_rfl) ?_
  simp only [bj, List.take_succ_cons, List.take_zero, List.drop_succ_cons, List.drop_zero, Act.put, List.setIfInBounds_toArray, List.set_cons_succ, List.set_cons_zero]
  refine af (v := .bool true) rfl (aJ rfl (ev rfl) evk) ?_
  simp only [Act.put, aa, ac, ae]
  refine wpList_nil ?_
  go_upto_region 2 with fail
  refine wp_region_lit ?_
  refine af (v := .bool false) rfl (aj rfl evk) ?_
  simp only [Act.put, aa, ac, ae]
  refine wpList_nil ?_
  go_wp2_with fail
  go_ret
  exact ⟨rfl, HT2.out.bel⟩
set_option maxHeartbeats 1000000 in
theorem phas_1 {x : Ros} {m s : Int} (hf : aI x = true) (hq : hasM x m = false) (w : World) : Calls Tryz.prog 42 #[ros x, .int .i64 m, .int .i64 s] w fun e w' => e = .returned (.bool false) ∧ Below w.heap.size w w' := by
  have HT1 := Lib.hid (OneR.new w x)
  have HF := Lib.hid hf
  have HQ := Lib.hid hq
  clear hf hq
  go_enter Tryz.func42, Tryz.ntmps42
  go_upto_region 1 with (first | (refine af rfl (aL rfl rfl) ?_) | fail)
  generalize w.alloc (.cells (aE x).toArray 32) = w1 at *
  refine wp_region_lit ?_
  refine af rfl (aF rfl (ev rfl) (HT1.out.at0)) ?_
  simp only [Act.put, aa, ac, ae]
  refine ak rfl (ap Tryz.call34 rfl (evc (ev rfl) evn)) ?_
  refine (ct w1 HF.out).mono ?_
  rintro e w2 ⟨rfl, hb⟩
  have HT2 := Lib.hid (HT1.out.call hb)
  clear hb HT1
  refine ⟨_, rfl, ?_⟩
  simp only [Act.put, aa, ac, ae]
  refine af (v := .bool false) rfl (aA true rfl (ev rfl)) ?_
  simp only [Act.put, aa, ac, ae]
  refine af (v := .bool false) rfl (ag rfl (ev rfl)) ?_
  simp only [Act.put, aa, ac, ae]
  refine ah (ai rfl rfl rfl rfl) (aF rfl (ev rfl) (HT2.out.at0)) ?_
  simp only [Act.put, aa, ac, ae]
  refine ah (ai rfl rfl rfl rfl) (ag rfl (ev rfl)) ?_
  simp only [Act.put, aa, ac, ae]
  refine ak (ai rfl rfl rfl rfl) (ap Tryz.call66 rfl (evc (ev rfl) (evc (ev rfl) evn))) ?_
  refine (cO w2 HQ.out).mono ?_
  rintro e w3 ⟨rfl, hb⟩
  have HT3 := Lib.hid (HT2.out.call hb)
  clear hb HT2
  refine ⟨_, rfl, ?_⟩
  simp only [Act.put, aa, ac, ae]
  refine ah (v := .bool true) (ai rfl rfl rfl rfl) (aA false rfl (ev rfl)) ?_
  simp only [Act.put, aa, ac, ae]
  refine af (v := .bool true) rfl (aM rfl (ev rfl) (ev rfl)) ?_
  simp only [Act.put, aa, ac, ae]
  refine aR 4 (v := .bool true) rfl (ag rfl (ev rfl)) (by kernel_rfl) ?_
  simp only [bj, List.take_succ_cons, List.take_zero, List.drop_succ_cons, List.drop_zero, Act.put, List.setIfInBounds_toArray, List.set_cons_succ, List.set_cons_zero]
  refine af (v := .bool true) rfl (aJ rfl (ev rfl) evk) ?_
  simp only [Act.put, aa, ac, ae]
  refine wpList_nil ?_
  go_upto_region 2 with fail
  refine wp_region_lit ?_
  refine af (v := .bool false) rfl (aj rfl evk) ?_
  simp only [Act.put, aa, ac, ae]
  refine wpList_nil ?_
  go_wp2_with fail
  go_ret
  exact ⟨rfl, HT3.out.bel⟩
set_option maxHeartbeats 1000000 in
theorem phas_2 {x : Ros} {m s : Int} (hf : aI x = true) (hq : hasM x m = true) (hc : hasC x s = false) (w : World) : Calls Tryz.prog 42 #[ros x, .int .i64 m, .int .i64 s] w fun e w' => e = .returned (.bool false) ∧ Below w.heap.size w w' := by
  have HT1 := Lib.hid (OneR.new w x)
  have HF := Lib.hid hf
  have HQ := Lib.hid hq
  have HC := Lib.hid hc
  clear hf hq hc
  go_enter Tryz.func42, Tryz.ntmps42
  go_upto_region 1 with (first | (refine af rfl (aL rfl rfl) ?_) | fail)
  generalize w.alloc (.cells (aE x).toArray 32) = w1 at *
  refine wp_region_lit ?_
  refine af rfl (aF rfl (ev rfl) (HT1.out.at0)) ?_
  simp only [Act.put, aa, ac, ae]
  refine ak rfl (ap Tryz.call34 rfl (evc (ev rfl) evn)) ?_
  refine (ct w1 HF.out).mono ?_
  rintro e w2 ⟨rfl, hb⟩
  have HT2 := Lib.hid (HT1.out.call hb)
  clear hb HT1
  refine ⟨_, rfl, ?_⟩
  simp only [Act.put, aa, ac, ae]
  refine af (v := .bool false) rfl (aA true rfl (ev rfl)) ?_
  simp only [Act.put, aa, ac, ae]
  refine af (v := .bool false) rfl (ag rfl (ev rfl)) ?_
  simp only [Act.put, aa, ac, ae]
  refine ah (ai rfl rfl rfl rfl) (aF rfl (ev rfl) (HT2.out.at0)) ?_
  simp only [Act.put, aa, ac, ae]
  refine ah (ai rfl rfl rfl rfl) (ag rfl (ev rfl)) ?_
  simp only [Act.put, aa, ac, ae]
  refine ak (ai rfl rfl rfl rfl) (ap Tryz.call66 rfl (evc (ev rfl) (evc (ev rfl) evn))) ?_
  refine (cO w2 HQ.out).mono ?_
  rintro e w3 ⟨rfl, hb⟩
  have HT3 := Lib.hid (HT2.out.call hb)
  clear hb HT2
  refine ⟨_, rfl, ?_⟩
  simp only [Act.put, aa, ac, ae]
  refine ah (v := .bool false) (ai rfl rfl rfl rfl) (aA true rfl (ev rfl)) ?_
  simp only [Act.put, aa, ac, ae]
  refine af (v := .bool false) rfl (aM rfl (ev rfl) (ev rfl)) ?_
  simp only [Act.put, aa, ac, ae]
  refine af (v := .bool false) rfl (ag rfl (ev rfl)) ?_
  simp only [Act.put, aa, ac, ae]
  refine ah (ai rfl rfl rfl rfl) (aF rfl (ev rfl) (HT3.out.at0)) ?_
  simp only [Act.put, aa, ac, ae]
  refine ah (ai rfl rfl rfl rfl) (ag rfl (ev rfl)) ?_
  simp only [Act.put, aa, ac, ae]
  refine ak (ai rfl rfl rfl rfl) (ap Tryz.call67 rfl (evc (ev rfl) (evc (ev rfl) evn))) ?_
  refine (pstripe_b w3 HC.out).mono ?_
  rintro e w4 ⟨rfl, hb⟩
  have HT4 := Lib.hid (HT3.out.call hb)
  clear hb HT3
  refine ⟨_, rfl, ?_⟩
  simp only [Act.put, aa, ac, ae]
  refine ah (v := .bool true) (ai rfl rfl rfl rfl) (aA false rfl (ev rfl)) ?_
  simp only [Act.put, aa, ac, ae]
  refine af (v := .bool true) rfl (aM rfl (ev rfl) (ev rfl)) ?_
  simp only [Act.put, aa, ac, ae]
  refine wpList_nil ?_
  go_upto_region 2 with fail
  refine wp_region_lit ?_
  refine af (v := .bool false) rfl (aj rfl evk) ?_
  simp only [Act.put, aa, ac, ae]
  refine wpList_nil ?_
  go_wp2_with fail
  go_ret
  exact ⟨rfl, HT4.out.bel⟩
set_option maxHeartbeats 1000000 in
theorem phas_3 {x : Ros} {j : Nat} {s : Int} (hj : j < 16) (hf : aI x = true) (hq : hasM x (j : Int) = true) (hc : hasC x s = true) (h0 : (sta x j == 0) = true) (w : World) : Calls Tryz.prog 42 #[ros x, .int .i64 (j : Int), .int .i64 s] w fun e w' => e = .returned (.bool true) ∧ Below w.heap.size w w' := by
  have HT1 := Lib.hid (OneR.new w x)
  have HF := Lib.hid hf
  have HQ := Lib.hid hq
  have HC := Lib.hid hc
  have H0 := Lib.hid h0
  clear hf hq hc h0
  go_enter Tryz.func42, Tryz.ntmps42
  go_upto_region 1 with (first | (refine af rfl (aL rfl rfl) ?_) | fail)
  generalize w.alloc (.cells (aE x).toArray 32) = w1 at *
  refine wp_region_lit ?_
  refine af rfl (aF rfl (ev rfl) (HT1.out.at0)) ?_
  simp only [Act.put, aa, ac, ae]
  refine ak rfl (ap Tryz.call34 rfl (evc (ev rfl) evn)) ?_
  refine (ct w1 HF.out).mono ?_
  rintro e w2 ⟨rfl, hb⟩
  have HT2 := Lib.hid (HT1.out.call hb)
  clear hb HT1
  refine ⟨_, rfl, ?_⟩
  simp only [Act.put, aa, ac, ae]
  refine af (v := .bool false) rfl (aA true rfl (ev rfl)) ?_
  simp only [Act.put, aa, ac, ae]
  refine af (v := .bool false) rfl (ag rfl (ev rfl)) ?_
  simp only [Act.put, aa, ac, ae]
  refine ah (ai rfl rfl rfl rfl) (aF rfl (ev rfl) (HT2.out.at0)) ?_
  simp only [Act.put, aa, ac, ae]
  refine ah (ai rfl rfl rfl rfl) (ag rfl (ev rfl)) ?_
  simp only [Act.put, aa, ac, ae]
  refine ak (ai rfl rfl rfl rfl) (ap Tryz.call66 rfl (evc (ev rfl) (evc (ev rfl) evn))) ?_
  refine (cO w2 HQ.out).mono ?_
  rintro e w3 ⟨rfl, hb⟩
  have HT3 := Lib.hid (HT2.out.call hb)
  clear hb HT2
  refine ⟨_, rfl, ?_⟩
  simp only [Act.put, aa, ac, ae]
  refine ah (v := .bool false) (ai rfl rfl rfl rfl) (aA true rfl (ev rfl)) ?_
  simp only [Act.put, aa, ac, ae]
  refine af (v := .bool false) rfl (aM rfl (ev rfl) (ev rfl)) ?_
  simp only [Act.put, aa, ac, ae]
  refine af (v := .bool false) rfl (ag rfl (ev rfl)) ?_
  simp only [Act.put, aa, ac, ae]
  refine ah (ai rfl rfl rfl rfl) (aF rfl (ev rfl) (HT3.out.at0)) ?_
  simp only [Act.put, aa, ac, ae]
  refine ah (ai rfl rfl rfl rfl) (ag rfl (ev rfl)) ?_
  simp only [Act.put, aa, ac, ae]
  refine ak (ai rfl rfl rfl rfl) (ap Tryz.call67 rfl (evc (ev rfl) (evc (ev rfl) evn))) ?_
  refine (pstripe_b w3 HC.out).mono ?_
  rintro e w4 ⟨rfl, hb⟩
  have HT4 := Lib.hid (HT3.out.call hb)
  clear hb HT3
  refine ⟨_, rfl, ?_⟩
  simp only [Act.put, aa, ac, ae]
  refine ah (v := .bool false) (ai rfl rfl rfl rfl) (aA true rfl (ev rfl)) ?_
  simp only [Act.put, aa, ac, ae]
  refine af (v := .bool false) rfl (aM rfl (ev rfl) (ev rfl)) ?_
  simp only [Act.put, aa, ac, ae]
  refine wpList_nil ?_
  go_upto_region 3 with fail
  refine wp_region_lit ?_
  refine af rfl (ag rfl (ev rfl)) ?_
  simp only [Act.put, aa, ac, ae]
  refine af rfl (am rfl (ev rfl) faR1) ?_
  simp only [Act.put, aa, ac, ae]
  refine af rfl (cd rfl (ev rfl) (ev rfl) (ix16 hj)) ?_
  simp only [Act.put, aa, ac, ae]
  refine af rfl (au rfl (ev rfl) (ldU8 ((HT4.out.at0).sta hj))) ?_
  simp only [Act.put, aa, ac, ae]
  refine wpList_nil ?_
  go_upto_region 4 with fail
  refine wp_region_lit ?_
  refine af (v := .bool true) rfl (ar true rfl (ev rfl) evk H0.out) ?_
  simp only [Act.put, aa, ac, ae]
  refine af (v := .bool true) rfl (aj rfl (ev rfl)) ?_
  simp only [Act.put, aa, ac, ae]
  refine wpList_nil ?_
  go_upto_region 5 with fail
  refine wp_region_lit ?_
  refine af (v := .bool true) rfl (aj rfl evk) ?_
  simp only [Act.put, aa, ac, ae]
  refine wpList_nil ?_
  go_wp2_with fail
  go_ret
  exact ⟨rfl, HT4.out.bel⟩
set_option maxHeartbeats 1000000 in
theorem phas_4 {x : Ros} {j : Nat} {s : Int} (hj : j < 16) (hf : aI x = true) (hq : hasM x (j : Int) = true) (hc : hasC x s = true) (h0 : (sta x j == 0) = false) (h2 : (sta x j == 2) = true) (hl : decide (s < x.cur) = true) (w : World) : Calls Tryz.prog 42 #[ros x, .int .i64 (j : Int), .int .i64 s] w fun e w' => e = .returned (.bool true) ∧ Below w.heap.size w w' := by
  have HT1 := Lib.hid (OneR.new w x)
  have HF := Lib.hid hf
  have HQ := Lib.hid hq
  have HC := Lib.hid hc
  have H0 := Lib.hid h0
  have H2 := Lib.hid h2
  have HL := Lib.hid hl
  clear hf hq hc h0 h2 hl
  go_enter Tryz.func42, Tryz.ntmps42
  go_upto_region 1 with (first | (refine af rfl (aL rfl rfl) ?_) | fail)
  generalize w.alloc (.cells (aE x).toArray 32) = w1 at *
  refine wp_region_lit ?_
  refine af rfl (aF rfl (ev rfl) (HT1.out.at0)) ?_
  simp only [Act.put, aa, ac, ae]
  refine ak rfl (ap Tryz.call34 rfl (evc (ev rfl) evn)) ?_
  refine (ct w1 HF.out).mono ?_
  rintro e w2 ⟨rfl, hb⟩
  have HT2 := Lib.hid (HT1.out.call hb)
  clear hb HT1
  refine ⟨_, rfl, ?_⟩
  simp only [Act.put, aa, ac, ae]
  refine af (v := .bool false) rfl (aA true rfl (ev rfl)) ?_
  simp only [Act.put, aa, ac, ae]
  refine af (v := .bool false) rfl (ag rfl (ev rfl)) ?_
  simp only [Act.put, aa, ac, ae]
  refine ah (ai rfl rfl rfl rfl) (aF rfl (ev rfl) (HT2.out.at0)) ?_
  simp only [Act.put, aa, ac, ae]
  refine ah (ai rfl rfl rfl rfl) (ag rfl (ev rfl)) ?_
  simp only [Act.put, aa, ac, ae]
  refine ak (ai rfl rfl rfl rfl) (ap Tryz.call66 rfl (evc (ev rfl) (evc (ev rfl) evn))) ?_
  refine (cO w2 HQ.out).mono ?_
  rintro e w3 ⟨rfl, hb⟩
  have HT3 := Lib.hid (HT2.out.call hb)
  clear hb HT2
  refine ⟨_, rfl, ?_⟩
  simp only [Act.put, aa, ac, ae]
  refine ah (v := .bool false) (ai rfl rfl rfl rfl) (aA true rfl (ev rfl)) ?_
  simp only [Act.put, aa, ac, ae]
  refine af (v := .bool false) rfl (aM rfl (ev rfl) (ev rfl)) ?_
  simp only [Act.put, aa, ac, ae]
  refine af (v := .bool false) rfl (ag rfl (ev rfl)) ?_
  simp only [Act.put, aa, ac, ae]
  refine ah (ai rfl rfl rfl rfl) (aF rfl (ev rfl) (HT3.out.at0)) ?_
  simp only [Act.put, aa, ac, ae]
  refine ah (ai rfl rfl rfl rfl) (ag rfl (ev rfl)) ?_
  simp only [Act.put, aa, ac, ae]
  refine ak (ai rfl rfl rfl rfl) (ap Tryz.call67 rfl (evc (ev rfl) (evc (ev rfl) evn))) ?_
  refine (pstripe_b w3 HC.out).mono ?_
  rintro e w4 ⟨rfl, hb⟩
  have HT4 := Lib.hid (HT3.out.call hb)
  clear hb HT3
  refine ⟨_, rfl, ?_⟩
  simp only [Act.put, aa, ac, ae]
  refine ah (v := .bool false) (ai rfl rfl rfl rfl) (aA true rfl (ev rfl)) ?_
  simp only [Act.put, aa, ac, ae]
  refine af (v := .bool false) rfl (aM rfl (ev rfl) (ev rfl)) ?_
  simp only [Act.put, aa, ac, ae]
  refine wpList_nil ?_
  go_upto_region 3 with fail
  refine wp_region_lit ?_
  refine af rfl (ag rfl (ev rfl)) ?_
  simp only [Act.put, aa, ac, ae]
  refine af rfl (am rfl (ev rfl) faR1) ?_
  simp only [Act.put, aa, ac, ae]
  refine af rfl (cd rfl (ev rfl) (ev rfl) (ix16 hj)) ?_
  simp only [Act.put, aa, ac, ae]
  refine af rfl (au rfl (ev rfl) (ldU8 ((HT4.out.at0).sta hj))) ?_
  simp only [Act.put, aa, ac, ae]
  refine wpList_nil ?_
  go_upto_region 4 with fail
  refine wp_region_lit ?_
  refine af (v := .bool false) rfl (ar false rfl (ev rfl) evk H0.out) ?_
  simp only [Act.put, aa, ac, ae]
  refine af (v := .bool false) rfl (aj rfl (ev rfl)) ?_
  simp only [Act.put, aa, ac, ae]
  refine wpList_nil ?_
  go_upto_region 6 with fail
  refine wp_region_lit ?_
  refine af (v := .bool true) rfl (ar true rfl (ev rfl) evk H2.out) ?_
  simp only [Act.put, aa, ac, ae]
  refine af (v := .bool true) rfl (aj rfl (ev rfl)) ?_
  simp only [Act.put, aa, ac, ae]
  refine wpList_nil ?_
  go_upto_region 7 with fail
  refine wp_region_lit ?_
  refine af rfl (ag rfl (ev rfl)) ?_
  simp only [Act.put, aa, ac, ae]
  refine af rfl (am rfl (ev rfl) faR2) ?_
  simp only [Act.put, aa, ac, ae]
  refine af rfl (au rfl (ev rfl) (bF (HT4.out.at0).cells.2.2.2.1)) ?_
  simp only [Act.put, aa, ac, ae]
  refine af (v := .bool true) rfl (bi true rfl (ev rfl) (ev rfl) HL.out) ?_
  simp only [Act.put, aa, ac, ae]
  refine af (v := .bool true) rfl (aj rfl (ev rfl)) ?_
  simp only [Act.put, aa, ac, ae]
  refine wpList_nil ?_
  go_wp2_with fail
  go_ret
  exact ⟨rfl, HT4.out.bel⟩
set_option maxHeartbeats 1000000 in
theorem phas_5 {x : Ros} {j : Nat} {s : Int} (hj : j < 16) (hf : aI x = true) (hq : hasM x (j : Int) = true) (hc : hasC x s = true) (h0 : (sta x j == 0) = false) (h2 : (sta x j == 2) = true) (hl : decide (s < x.cur) = false) (w : World) : Calls Tryz.prog 42 #[ros x, .int .i64 (j : Int), .int .i64 s] w fun e w' => e = .returned (.bool false) ∧ Below w.heap.size w w' := by
  have HT1 := Lib.hid (OneR.new w x)
  have HF := Lib.hid hf
  have HQ := Lib.hid hq
  have HC := Lib.hid hc
  have H0 := Lib.hid h0
  have H2 := Lib.hid h2
  have HL := Lib.hid hl
  clear hf hq hc h0 h2 hl
  go_enter Tryz.func42, Tryz.ntmps42
  go_upto_region 1 with (first | (refine af rfl (aL rfl rfl) ?_) | fail)
  generalize w.alloc (.cells (aE x).toArray 32) = w1 at *
  refine wp_region_lit ?_
  refine af rfl (aF rfl (ev rfl) (HT1.out.at0)) ?_
  simp only [Act.put, aa, ac, ae]
  refine ak rfl (ap Tryz.call34 rfl (evc (ev rfl) evn)) ?_
  refine (ct w1 HF.out).mono ?_
  rintro e w2 ⟨rfl, hb⟩
  have HT2 := Lib.hid (HT1.out.call hb)
  clear hb HT1
  refine ⟨_, rfl, ?_⟩
  simp only [Act.put, aa, ac, ae]
  refine af (v := .bool false) rfl (aA true rfl (ev rfl)) ?_
  simp only [Act.put, aa, ac, ae]
  refine af (v := .bool false) rfl (ag rfl (ev rfl)) ?_
  simp only [Act.put, aa, ac, ae]
  refine ah (ai rfl rfl rfl rfl) (aF rfl (ev rfl) (HT2.out.at0)) ?_
  simp only [Act.put, aa, ac, ae]
  refine ah (ai rfl rfl rfl rfl) (ag rfl (ev rfl)) ?_
  simp only [Act.put, aa, ac, ae]
  refine ak (ai rfl rfl rfl rfl) (ap Tryz.call66 rfl (evc (ev rfl) (evc (ev rfl) evn))) ?_
  refine (cO w2 HQ.out).mono ?_
  rintro e w3 ⟨rfl, hb⟩
  have HT3 := Lib.hid (HT2.out.call hb)
  clear hb HT2
  refine ⟨_, rfl, ?_⟩
  simp only [Act.put, aa, ac, ae]
  refine ah (v := .bool false) (ai rfl rfl rfl rfl) (aA true rfl (ev rfl)) ?_
  simp only [Act.put, aa, ac, ae]
  refine af (v := .bool false) rfl (aM rfl (ev rfl) (ev rfl)) ?_
  simp only [Act.put, aa, ac, ae]
  refine af (v := .bool false) rfl (ag rfl (ev rfl)) ?_
  simp only [Act.put, aa, ac, ae]
  refine ah (ai rfl rfl rfl rfl) (aF rfl (ev rfl) (HT3.out.at0)) ?_
  simp only [Act.put, aa, ac, ae]
  refine ah (ai rfl rfl rfl rfl) (ag rfl (ev rfl)) ?_
  simp only [Act.put, aa, ac, ae]
  refine ak (ai rfl rfl rfl rfl) (ap Tryz.call67 rfl (evc (ev rfl) (evc (ev rfl) evn))) ?_
  refine (pstripe_b w3 HC.out).mono ?_
  rintro e w4 ⟨rfl, hb⟩
  have HT4 := Lib.hid (HT3.out.call hb)
  clear hb HT3
  refine ⟨_, rfl, ?_⟩
  simp only [Act.put, aa, ac, ae]
  refine ah (v := .bool false) (ai rfl rfl rfl rfl) (aA true rfl (ev rfl)) ?_
  simp only [Act.put, aa, ac, ae]
  refine af (v := .bool false) rfl (aM rfl (ev rfl) (ev rfl)) ?_
  simp only [Act.put, aa, ac, ae]
  refine wpList_nil ?_
  go_upto_region 3 with fail
  refine wp_region_lit ?_
  refine af rfl (ag rfl (ev rfl)) ?_
  simp only [Act.put, aa, ac, ae]
  refine af rfl (am rfl (ev rfl) faR1) ?_
  simp only [Act.put, aa, ac, ae]
  refine af rfl (cd rfl (ev rfl) (ev rfl) (ix16 hj)) ?_
  simp only [Act.put, aa, ac, ae]
  refine af rfl (au rfl (ev rfl) (ldU8 ((HT4.out.at0).sta hj))) ?_
  simp only [Act.put, aa, ac, ae]
  refine wpList_nil ?_
  go_upto_region 4 with fail
  refine wp_region_lit ?_
  refine af (v := .bool false) rfl (ar false rfl (ev rfl) evk H0.out) ?_
  simp only [Act.put, aa, ac, ae]
  refine af (v := .bool false) rfl (aj rfl (ev rfl)) ?_
  simp only [Act.put, aa, ac, ae]
  refine wpList_nil ?_
  go_upto_region 6 with fail
  refine wp_region_lit ?_
  refine af (v := .bool true) rfl (ar true rfl (ev rfl) evk H2.out) ?_
  simp only [Act.put, aa, ac, ae]
  refine af (v := .bool true) rfl (aj rfl (ev rfl)) ?_
  simp only [Act.put, aa, ac, ae]
  refine wpList_nil ?_
  go_upto_region 7 with fail
  refine wp_region_lit ?_
  refine af rfl (ag rfl (ev rfl)) ?_
  simp only [Act.put, aa, ac, ae]
  refine af rfl (am rfl (ev rfl) faR2) ?_
  simp only [Act.put, aa, ac, ae]
  refine af rfl (au rfl (ev rfl) (bF (HT4.out.at0).cells.2.2.2.1)) ?_
  simp only [Act.put, aa, ac, ae]
  refine af (v := .bool false) rfl (bi false rfl (ev rfl) (ev rfl) HL.out) ?_
  simp only [Act.put, aa, ac, ae]
  refine af (v := .bool false) rfl (aj rfl (ev rfl)) ?_
  simp only [Act.put, aa, ac, ae]
  refine wpList_nil ?_
  go_wp2_with fail
  go_ret
  exact ⟨rfl, HT4.out.bel⟩
set_option maxHeartbeats 1000000 in
theorem phas_6 {x : Ros} {j : Nat} {s : Int} (hj : j < 16) (hf : aI x = true) (hq : hasM x (j : Int) = true) (hc : hasC x s = true) (h0 : (sta x j == 0) = false) (h2 : (sta x j == 2) = false) (w : World) : Calls Tryz.prog 42 #[ros x, .int .i64 (j : Int), .int .i64 s] w fun e w' => e = .returned (.bool false) ∧ Below w.heap.size w w' := by
  have HT1 := Lib.hid (OneR.new w x)
  have HF := Lib.hid hf
  have HQ := Lib.hid hq
  have HC := Lib.hid hc
  have H0 := Lib.hid h0
  have H2 := Lib.hid h2
  clear hf hq hc h0 h2
  go_enter Tryz.func42, Tryz.ntmps42
  go_upto_region 1 with (first | (refine af rfl (aL rfl rfl) ?_) | fail)
  generalize w.alloc (.cells (aE x).toArray 32) = w1 at *
  refine wp_region_lit ?_
  refine af rfl (aF rfl (ev rfl) (HT1.out.at0)) ?_
  simp only [Act.put, aa, ac, ae]
  refine ak rfl (ap Tryz.call34 rfl (evc (ev rfl) evn)) ?_
  refine (ct w1 HF.out).mono ?_
  rintro e w2 ⟨rfl, hb⟩
  have HT2 := Lib.hid (HT1.out.call hb)
  clear hb HT1
  refine ⟨_, rfl, ?_⟩
  simp only [Act.put, aa, ac, ae]
  refine af (v := .bool false) rfl (aA true rfl (ev rfl)) ?_
  simp only [Act.put, aa, ac, ae]
  refine af (v := .bool false) rfl (ag rfl (ev rfl)) ?_
  simp only [Act.put, aa, ac, ae]
  refine ah (ai rfl rfl rfl rfl) (aF rfl (ev rfl) (HT2.out.at0)) ?_
  simp only [Act.put, aa, ac, ae]
  refine ah (ai rfl rfl rfl rfl) (ag rfl (ev rfl)) ?_
  simp only [Act.put, aa, ac, ae]
  refine ak (ai rfl rfl rfl rfl) (ap Tryz.call66 rfl (evc (ev rfl) (evc (ev rfl) evn))) ?_
  refine (cO w2 HQ.out).mono ?_
  rintro e w3 ⟨rfl, hb⟩
  have HT3 := Lib.hid (HT2.out.call hb)
  clear hb HT2
  refine ⟨_, rfl, ?_⟩
  simp only [Act.put, aa, ac, ae]
  refine ah (v := .bool false) (ai rfl rfl rfl rfl) (aA true rfl (ev rfl)) ?_
  simp only [Act.put, aa, ac, ae]
  refine af (v := .bool false) rfl (aM rfl (ev rfl) (ev rfl)) ?_
  simp only [Act.put, aa, ac, ae]
  refine af (v := .bool false) rfl (ag rfl (ev rfl)) ?_
  simp only [Act.put, aa, ac, ae]
  refine ah (ai rfl rfl rfl rfl) (aF rfl (ev rfl) (HT3.out.at0)) ?_
  simp only [Act.put, aa, ac, ae]
  refine ah (ai rfl rfl rfl rfl) (ag rfl (ev rfl)) ?_
  simp only [Act.put, aa, ac, ae]
  refine ak (ai rfl rfl rfl rfl) (ap Tryz.call67 rfl (evc (ev rfl) (evc (ev rfl) evn))) ?_
  refine (pstripe_b w3 HC.out).mono ?_
  rintro e w4 ⟨rfl, hb⟩
  have HT4 := Lib.hid (HT3.out.call hb)
  clear hb HT3
  refine ⟨_, rfl, ?_⟩
  simp only [Act.put, aa, ac, ae]
  refine ah (v := .bool false) (ai rfl rfl rfl rfl) (aA true rfl (ev rfl)) ?_
  simp only [Act.put, aa, ac, ae]
  refine af (v := .bool false) rfl (aM rfl (ev rfl) (ev rfl)) ?_
  simp only [Act.put, aa, ac, ae]
  refine wpList_nil ?_
  go_upto_region 3 with fail
  refine wp_region_lit ?_
  refine af rfl (ag rfl (ev rfl)) ?_
  simp only [Act.put, aa, ac, ae]
  refine af rfl (am rfl (ev rfl) faR1) ?_
  simp only [Act.put, aa, ac, ae]
  refine af rfl (cd rfl (ev rfl) (ev rfl) (ix16 hj)) ?_
  simp only [Act.put, aa, ac, ae]
  refine af rfl (au rfl (ev rfl) (ldU8 ((HT4.out.at0).sta hj))) ?_
  simp only [Act.put, aa, ac, ae]
  refine wpList_nil ?_
  go_upto_region 4 with fail
  refine wp_region_lit ?_
  refine af (v := .bool false) rfl (ar false rfl (ev rfl) evk H0.out) ?_
  simp only [Act.put, aa, ac, ae]
  refine af (v := .bool false) rfl (aj rfl (ev rfl)) ?_
  simp only [Act.put, aa, ac, ae]
  refine wpList_nil ?_
  go_upto_region 6 with fail
  refine wp_region_lit ?_
  refine af (v := .bool false) rfl (ar false rfl (ev rfl) evk H2.out) ?_
  simp only [Act.put, aa, ac, ae]
  refine af (v := .bool false) rfl (aj rfl (ev rfl)) ?_
  simp only [Act.put, aa, ac, ae]
  refine wpList_nil ?_
  go_upto_region 8 with fail
  refine wp_region_lit ?_
  refine af (v := .bool false) rfl (aj rfl evk) ?_
  simp only [Act.put, aa, ac, ae]
  refine wpList_nil ?_
  go_wp2_with fail
  go_ret
  exact ⟨rfl, HT4.out.bel⟩
theorem has_z {x : Ros} {j : Nat} {s : Int} (hf : aI x = true) (hq : hasM x (j : Int) = true) (hc : hasC x s = true) : hasB x (j : Int) s = (decide (sta x j = 0) || (decide (sta x j = 2) && decide (s < x.cur))) := by
  unfold hasB
  rw [hf, hq, hc]
  rfl
theorem phas (x : Ros) (m s : Int) (w : World) : Calls Tryz.prog 42 #[ros x, .int .i64 m, .int .i64 s] w fun e w' => e = .returned (.bool (hasB x m s)) ∧ Below w.heap.size w w' := by
  cases hf : aI x
  · rw [show hasB x m s = false from by unfold hasB; rw [hf]; rfl]; exact phas_0 hf w
  cases hq : hasM x m
  · rw [show hasB x m s = false from by unfold hasB; rw [hf, hq]; rfl]; exact phas_1 hf hq w
  cases hc : hasC x s
  · rw [show hasB x m s = false from by unfold hasB; rw [hf, hq, hc]; rfl]; exact phas_2 hf hq hc w
  have hm := of_hasM hq
  have hg := cX (cv hf).1
  obtain ⟨j, rfl⟩ := Int.eq_ofNat_of_zero_le hm.1
  have hj : j < 16 := by omega
  rw [has_z hf hq hc]
  by_cases h0 : sta x j = 0
  · rw [decide_eq_true h0]; exact phas_3 hj hf hq hc (by simpa using h0) w
  rw [decide_eq_false h0]
  by_cases h2 : sta x j = 2
  · rw [decide_eq_true h2]
    by_cases hl : s < x.cur
    · rw [decide_eq_true hl]; exact phas_4 hj hf hq hc (by simpa using h0) (by simpa using h2) (decide_eq_true hl) w
    · rw [decide_eq_false hl]; exact phas_5 hj hf hq hc (by simpa using h0) (by simpa using h2) (decide_eq_false hl) w
  · rw [decide_eq_false h2]; exact phas_6 hj hf hq hc (by simpa using h0) (by simpa using h2) w
end Go.Proofs.YtheponmdbmloaaaGreatDoor
