/-
  slices.Equal over sectors; the program's Put and Get.
-/
import Derived.Test.YtfemlaombdeebaaDoorCpb
import Derived.Test.YtfemlaombdeebaaDoorCpu
import Derived.Test.YtfemlaombdeebaaDoorBlkX
namespace Go.Proofs.YtfemlaombdeebaaDoor
open Go.RowKit
set_option linter.unusedVariables false
set_option linter.unusedSimpArgs false
set_option maxRecDepth 100000

set_option maxHeartbeats 800000 in
theorem pequal (A B : Option Addr) (n m c d N : Nat) (a b : List Blk) (w : World) (ha : RdB w N A n a) (hb : RdB w N B m b) (hN : N ≤ w.heap.size) (hn : n ≤ maxLen) :
    Calls Tryd.prog 21 #[.slice A n c, .slice B m d] w fun e w' => e = .returned (.bool (decide (a = b))) ∧ Below w.heap.size w w' := by
  unfold maxLen at hn
  by_cases hnm : n = m
  · subst hnm
    go_enter Tryd.func21, Tryd.ntmps21
    go_wp2_with fail
    go_loopw [13] (fun i wr => ∃ k : Nat, k ≤ n ∧ i = .int .i64 k ∧ (∀ j, j < k → a.getD j zeroB = b.getD j zeroB) ∧ Below w.heap.size w wr) (fun i _ => n - (intOf i).toNat)
    case atStart => exact ⟨0, Nat.zero_le _, rfl, fun j hj => absurd hj (by omega), Below.refl _ _⟩
    case round =>
      obtain ⟨k, hk, rfl, hj, hbl⟩ := hrel
      have HJ := Lib.hid hj
      clear hj
      by_cases hlt : k < n
      · obtain ⟨bA, oA, rfl, hA, cA⟩ := (ha.below (hbl.mono hN)).2 k hlt
        obtain ⟨bB, oB, rfl, hB, cB⟩ := (hb.below (hbl.mono hN)).2 k hlt
        have HX := Lib.hid (rfl : a.getD k zeroB = a.getD k zeroB)
        generalize hx : a.getD k zeroB = x at *
        generalize hy : b.getD k zeroB = y at *
        have HA := Lib.hid cA
        have HB := Lib.hid cB
        have HXX := Lib.hid hx
        have HYY := Lib.hid hy
        clear cA cB hx hy HX
        go_wp2_with fail
        by_cases hxy : x = y
        · have hd : (!decide (x = y)) = false := by simpa using hxy
          refine wp_region_read (by kernel_rfl) ?_
          refine st_val rfl (exec_move rfl) ?_
          simp only [Act.put, List.setIfInBounds_toArray, List.set_cons_succ, List.set_cons_zero]
          refine st_val rfl (exec_move rfl) ?_
          simp only [Act.put, List.setIfInBounds_toArray, List.set_cons_succ, List.set_cons_zero]
          refine st_val rfl (exec_index rfl rfl rfl hlt) ?_
          simp only [Act.put, List.setIfInBounds_toArray, List.set_cons_succ, List.set_cons_zero]
          refine st_val rfl (exec_load rfl rfl HA.out) ?_
          simp only [Act.put, List.setIfInBounds_toArray, List.set_cons_succ, List.set_cons_zero]
          refine st_val rfl (exec_move rfl) ?_
          simp only [Act.put, List.setIfInBounds_toArray, List.set_cons_succ, List.set_cons_zero]
          refine st_val rfl (exec_move rfl) ?_
          simp only [Act.put, List.setIfInBounds_toArray, List.set_cons_succ, List.set_cons_zero]
          refine st_val rfl (exec_index rfl rfl rfl hlt) ?_
          simp only [Act.put, List.setIfInBounds_toArray, List.set_cons_succ, List.set_cons_zero]
          refine st_val rfl (exec_load rfl rfl HB.out) ?_
          simp only [Act.put, List.setIfInBounds_toArray, List.set_cons_succ, List.set_cons_zero]
          refine st_val rfl (exec_neqb false rfl rfl rfl hd) ?_
          simp only [Act.put, List.setIfInBounds_toArray, List.set_cons_succ, List.set_cons_zero]
          refine wpStill_nil ?_
          clear hd
          go_wp2_with fail
          go_roundw
          case rel =>
            refine ⟨k + 1, by omega, by go_num, ?_, bd hbl⟩
            intro j hj
            by_cases h : j = k
            · subst h; rw [HXX.out, HYY.out]; exact hxy
            · exact HJ.out j (by omega)
          case measure => simp [intOf]; omega
        · have hd : (!decide (x = y)) = true := by simpa using hxy
          refine wp_region_read (by kernel_rfl) ?_
          refine st_val rfl (exec_move rfl) ?_
          simp only [Act.put, List.setIfInBounds_toArray, List.set_cons_succ, List.set_cons_zero]
          refine st_val rfl (exec_move rfl) ?_
          simp only [Act.put, List.setIfInBounds_toArray, List.set_cons_succ, List.set_cons_zero]
          refine st_val rfl (exec_index rfl rfl rfl hlt) ?_
          simp only [Act.put, List.setIfInBounds_toArray, List.set_cons_succ, List.set_cons_zero]
          refine st_val rfl (exec_load rfl rfl HA.out) ?_
          simp only [Act.put, List.setIfInBounds_toArray, List.set_cons_succ, List.set_cons_zero]
          refine st_val rfl (exec_move rfl) ?_
          simp only [Act.put, List.setIfInBounds_toArray, List.set_cons_succ, List.set_cons_zero]
          refine st_val rfl (exec_move rfl) ?_
          simp only [Act.put, List.setIfInBounds_toArray, List.set_cons_succ, List.set_cons_zero]
          refine st_val rfl (exec_index rfl rfl rfl hlt) ?_
          simp only [Act.put, List.setIfInBounds_toArray, List.set_cons_succ, List.set_cons_zero]
          refine st_val rfl (exec_load rfl rfl HB.out) ?_
          simp only [Act.put, List.setIfInBounds_toArray, List.set_cons_succ, List.set_cons_zero]
          refine st_val rfl (exec_neqb true rfl rfl rfl hd) ?_
          simp only [Act.put, List.setIfInBounds_toArray, List.set_cons_succ, List.set_cons_zero]
          refine wpStill_nil ?_
          clear hd
          go_wp2_with fail
          go_ret
          refine ⟨?_, bd hbl⟩
          rw [decide_eq_false]
          · rfl
          · rintro rfl
            exact hxy (HXX.out.symm.trans HYY.out)
      · go_wp2_with fail
        go_ret
        refine ⟨?_, hbl⟩
        rw [decide_eq_true]
        · rfl
        · exact getD_ext (by rw [ha.1, hb.1]) fun k h => HJ.out k (by have := ha.1; omega)
  · have hne : ((n : Int) != (m : Int)) = true := by simp; omega
    go_enter Tryd.func21, Tryd.ntmps21
    go_wp2_with fail
    go_ret
    refine ⟨?_, Below.refl _ _⟩
    rw [decide_eq_false]
    · rfl
    · rintro rfl
      exact hnm (ha.1.symm.trans hb.1)

theorem hmd2 {w w' : World} {B : Nat} {v : Value} {l : List Cl} (h : MadeE CellE w B v l) (hb : Below w.heap.size w w') : MadeE CellE w' B v l := h.below hb
set_option maxHeartbeats 2000000 in
theorem pcput (A : Option Addr) (n c N B : Nat) (l : List Cl) (w : World) (HB : Hid (B = w.heap.size)) (hl : RdE CellE w N A n l) (hN : N ≤ B) (hn : n ≤ maxLen) :
    Calls Tryd.prog 14 #[.slice A n c] w fun e w' => ∃ v, e = .returned (.tuple #[v, .int .i64 (recE l : Nat)]) ∧ MadeB w' B v (recP l) ∧ Below B w w' := by
  have HL := Lib.hid hl.1
  have HBL := Lib.hid (Nat.le_of_eq HB.out)
  have hrd : RdE CellE w w.heap.size A n l := hl.more (Nat.le_trans hN (Nat.le_of_eq HB.out))
  by_cases h0 : n = 0
  · have HE := Lib.hid (recE_bad (l := l) (.inl (by rw [HL.out]; exact h0)))
    have HP := Lib.hid (recP_no (l := l) (by rw [HE.out]; omega))
    subst h0
    go_enter Tryd.func14, Tryd.ntmps14
    go_wp2_with fail
    go_ret2
    exact ⟨_, by rw [HE.out]; rfl, by rw [HP.out]; exact MadeB.nil _ _, Below.refl _ _⟩
  · cases hb : badC l
    · by_cases h32 : n ≤ 32
      · have HE := Lib.hid (recE_ok (l := l) (by rw [HL.out]; exact h0) hb (by rw [HL.out]; exact h32))
        have HP := Lib.hid (recP_ok (l := l) HE.out)
        have HBD := Lib.hid hb
        have HRD := Lib.hid hrd
        clear hb hrd hl
        go_enter Tryd.func14, Tryd.ntmps14
        go_wp2_with fail
        refine (pcontains A n c l w HRD.out hn).mono ?_
        rintro e w1 ⟨rfl, hb1⟩
        rw [HBD.out]
        have HB1 := Lib.hid hb1
        clear hb1
        go_wp2_with fail
        refine (pclaid A n c w.heap.size w1.heap.size l w1 (Lib.hid rfl) (HRD.out.below HB1.out) HB1.out.size (by omega) h32 HBD.out).mono ?_
        rintro e w2 ⟨v, rfl, hm, hb2⟩
        have HM := Lib.hid (MadeB.base hm (Nat.le_trans HBL.out HB1.out.size))
        have HB2 := Lib.hid ((HB1.out.mono HBL.out).trans (hb2.mono (Nat.le_trans HBL.out HB1.out.size)))
        clear hm hb2
        go_wp2_with fail
        go_ret2
        exact ⟨_, by rw [HE.out]; rfl, by rw [HP.out]; exact HM.out, HB2.out⟩
      · have HE := Lib.hid (recE_long (l := l) (by rw [HL.out]; exact h0) hb (by rw [HL.out]; omega))
        have HP := Lib.hid (recP_no (l := l) (by rw [HE.out]; omega))
        have HBD := Lib.hid hb
        have HRD := Lib.hid hrd
        clear hb hrd hl
        go_enter Tryd.func14, Tryd.ntmps14
        go_wp2_with fail
        refine (pcontains A n c l w HRD.out hn).mono ?_
        rintro e w1 ⟨rfl, hb1⟩
        rw [HBD.out]
        have HB1 := Lib.hid (hb1.mono HBL.out)
        clear hb1
        go_wp2_with fail
        go_ret2
        exact ⟨_, by rw [HE.out]; rfl, by rw [HP.out]; exact MadeB.nil _ _, HB1.out⟩
    · have HE := Lib.hid (recE_bad (l := l) (.inr hb))
      have HP := Lib.hid (recP_no (l := l) (by rw [HE.out]; omega))
      have HBD := Lib.hid hb
      have HRD := Lib.hid hrd
      clear hb hrd hl
      go_enter Tryd.func14, Tryd.ntmps14
      go_wp2_with fail
      refine (pcontains A n c l w HRD.out hn).mono ?_
      rintro e w1 ⟨rfl, hb1⟩
      rw [HBD.out]
      have HB1 := Lib.hid (hb1.mono HBL.out)
      clear hb1
      go_wp2_with fail
      go_ret2
      exact ⟨_, by rw [HE.out]; rfl, by rw [HP.out]; exact MadeB.nil _ _, HB1.out⟩
set_option maxHeartbeats 2000000 in
theorem pcget_no (A : Option Addr) (m c N B : Nat) (l : List Blk) (n : Int) (w : World) (HB : Hid (B = w.heap.size)) (hl : RdB w N A m l) (hN : N ≤ B) (hm : m ≤ c) (hx : m ≤ maxLen) (hno : sizN n = 0 ∨ m ≠ sizN n) :
    Calls Tryd.prog 7 #[.slice A m c, .int .i64 n] w fun e w' => ∃ v, e = .returned (.tuple #[v, .int .i64 (rgE l n : Nat)]) ∧ MadeE CellE w' B v (rgC l n) ∧ Below B w w' := by
  have HL := Lib.hid hl.1
  obtain ⟨s, hs⟩ : ∃ s, sizN n = s := ⟨_, rfl⟩
  have HS := Lib.hid hs
  have hs34 : s ≤ 34 := by
    rw [← hs]
    unfold sizN hd
    split
    · omega
    · omega
  unfold maxLen at hx
  rw [hs] at hno
  by_cases h0 : s = 0
  · have HE := Lib.hid (rgE_arg (l := l) (n := n) (by rw [hs, h0]))
    have HC := Lib.hid (rgC_no (l := l) (n := n) (by rw [HE.out]; omega))
    clear hs hno
    subst h0
    go_enter Tryd.func7, Tryd.ntmps7
    go_wp2_with fail
    refine (psize n w).mono ?_
    rintro e w' ⟨rfl, rfl⟩
    rw [HS.out]
    go_wp2_with fail
    go_ret2
    exact ⟨_, by rw [HE.out]; rfl, by rw [HC.out]; exact MadeE.nil _ _, Below.refl _ _⟩
  · by_cases hlt : m < s
    · have HE := Lib.hid (rgE_short (l := l) (n := n) (by rw [hs]; exact h0) (by rw [HL.out, hs]; exact hlt))
      have HC := Lib.hid (rgC_no (l := l) (n := n) (by rw [HE.out]; omega))
      clear hs hno
      go_enter Tryd.func7, Tryd.ntmps7
      go_wp2_with fail
      refine (psize n w).mono ?_
      rintro e w' ⟨rfl, rfl⟩
      rw [HS.out]
      go_wp2_with fail
      go_ret2
      exact ⟨_, by rw [HE.out]; rfl, by rw [HC.out]; exact MadeE.nil _ _, Below.refl _ _⟩
    · have HE := Lib.hid (rgE_more (l := l) (n := n) (by rw [hs]; exact h0) (by rw [HL.out, hs]; omega))
      have HC := Lib.hid (rgC_no (l := l) (n := n) (by rw [HE.out]; omega))
      have hgt : s < m := by omega
      clear hs hno hlt
      go_enter Tryd.func7, Tryd.ntmps7
      go_wp2_with fail
      refine (psize n w).mono ?_
      rintro e w' ⟨rfl, rfl⟩
      rw [HS.out]
      go_wp2_with fail
      go_ret2
      exact ⟨_, by rw [HE.out]; rfl, by rw [HC.out]; exact MadeE.nil _ _, Below.refl _ _⟩
set_option maxHeartbeats 4000000 in
theorem pcget_bad (b off m c N B : Nat) (l : List Blk) (n : Nat) (w : World) (HB : Hid (B = w.heap.size)) (hl : RdB w N (some ⟨b, off, none⟩) m l) (hN : N ≤ B) (hm : m ≤ c) (h1 : 1 ≤ n) (h32 : n ≤ 32) (hs : m = hd n + n) (HQ : Hid (badC (tol l n) = true)) :
    Calls Tryd.prog 7 #[.slice (some ⟨b, off, none⟩) m c, .int .i64 (n : Int)] w fun e w' => ∃ v, e = .returned (.tuple #[v, .int .i64 (5)]) ∧ MadeE CellE w' B v ([]) ∧ Below B w w' := by
  have HRL : Hid ((recL (tol l n)).length = m) := Lib.hid (by rw [recL_length, tol_length, hs])
  have HRD := Lib.hid hl
  have HM := Lib.hid hs
  have HX := Lib.hid (show m ≤ maxLen by have : hd n ≤ 2 := by unfold hd; omega
                                         rw [hs]; unfold maxLen; omega)
  have HBL := Lib.hid (Nat.le_of_eq HB.out)
  have HSIZ := Lib.hid (sizN_of h1 h32)
  have HTL := Lib.hid (tol_length l n)
  have HN0 : Hid ((((hd n + n : Nat) : Int) == 0) = false) := Lib.hid (by simp; omega)
  have HN1 : Hid (decide ((m : Int) < ((hd n + n : Nat) : Int)) = false) := Lib.hid (decide_eq_false (by omega))
  have HN2 : Hid (decide (((hd n + n : Nat) : Int) < (m : Int)) = false) := Lib.hid (decide_eq_false (by omega))
  clear hl hs
  go_enter Tryd.func7, Tryd.ntmps7
  go_upto_region 1 with fail
  refine wp_region_lit ?_
  refine wpList_valn rfl (exec_mv rfl (ev rfl)) ?_
  simp only [Act.put, List.setIfInBounds_toArray, List.set_cons_succ, List.set_cons_zero]
  refine wpList_call rfl (exec_cl Tryd.call17 rfl (evc (ev rfl) evn)) ?_
  refine (psize n w).mono ?_
  rintro e w' ⟨rfl, rfl⟩
  rw [HSIZ.out]
  refine ⟨_, rfl, ?_⟩
  simp only [Act.put, List.setIfInBounds_toArray, List.set_cons_succ, List.set_cons_zero]
  refine wpList_valn rfl (exec_as rfl (ev rfl)) ?_
  simp only [Act.put, List.setIfInBounds_toArray, List.set_cons_succ, List.set_cons_zero]
  refine wpList_nil ?_
  go_upto_region 2 with fail
  refine wp_region_lit ?_
  refine wpList_valn rfl (exec_mv rfl (ev rfl)) ?_
  simp only [Act.put, List.setIfInBounds_toArray, List.set_cons_succ, List.set_cons_zero]
  refine wpList_valn (v := .bool false) rfl (exec_eqInt false rfl (ev rfl) evk HN0.out) ?_
  simp only [Act.put, List.setIfInBounds_toArray, List.set_cons_succ, List.set_cons_zero]
  refine wpList_valn (v := .bool false) rfl (exec_as rfl (ev rfl)) ?_
  simp only [Act.put, List.setIfInBounds_toArray, List.set_cons_succ, List.set_cons_zero]
  refine wpList_nil ?_
  go_upto_region 4 with fail
  refine wp_region_lit ?_
  refine wpList_valn rfl (exec_mv rfl (ev rfl)) ?_
  simp only [Act.put, List.setIfInBounds_toArray, List.set_cons_succ, List.set_cons_zero]
  refine wpList_valn rfl (exec_lenB rfl (ev rfl)) ?_
  simp only [Act.put, List.setIfInBounds_toArray, List.set_cons_succ, List.set_cons_zero]
  refine wpList_valn rfl (exec_mv rfl (ev rfl)) ?_
  simp only [Act.put, List.setIfInBounds_toArray, List.set_cons_succ, List.set_cons_zero]
  refine wpList_valn (v := .bool false) rfl (exec_lss false rfl (ev rfl) (ev rfl) HN1.out) ?_
  simp only [Act.put, List.setIfInBounds_toArray, List.set_cons_succ, List.set_cons_zero]
  refine wpList_valn (v := .bool false) rfl (exec_as rfl (ev rfl)) ?_
  simp only [Act.put, List.setIfInBounds_toArray, List.set_cons_succ, List.set_cons_zero]
  refine wpList_nil ?_
  go_upto_region 6 with fail
  refine wp_region_lit ?_
  refine wpList_valn rfl (exec_mv rfl (ev rfl)) ?_
  simp only [Act.put, List.setIfInBounds_toArray, List.set_cons_succ, List.set_cons_zero]
  refine wpList_valn rfl (exec_lenB rfl (ev rfl)) ?_
  simp only [Act.put, List.setIfInBounds_toArray, List.set_cons_succ, List.set_cons_zero]
  refine wpList_valn rfl (exec_mv rfl (ev rfl)) ?_
  simp only [Act.put, List.setIfInBounds_toArray, List.set_cons_succ, List.set_cons_zero]
  refine wpList_valn (v := .bool false) rfl (exec_gtr false rfl (ev rfl) (ev rfl) HN2.out) ?_
  simp only [Act.put, List.setIfInBounds_toArray, List.set_cons_succ, List.set_cons_zero]
  refine wpList_valn (v := .bool false) rfl (exec_as rfl (ev rfl)) ?_
  simp only [Act.put, List.setIfInBounds_toArray, List.set_cons_succ, List.set_cons_zero]
  refine wpList_nil ?_
  go_upto_region 8 with fail
  refine wp_region_lit ?_
  refine wpList_valn rfl (exec_mv rfl (ev rfl)) ?_
  simp only [Act.put, List.setIfInBounds_toArray, List.set_cons_succ, List.set_cons_zero]
  refine wpList_valn rfl (exec_mv rfl (ev rfl)) ?_
  simp only [Act.put, List.setIfInBounds_toArray, List.set_cons_succ, List.set_cons_zero]
  refine wpList_call rfl (exec_cl Tryd.call18 rfl (evc (ev rfl) (evc (ev rfl) evn))) ?_
  refine (pctold b off m c N B l n w HB HRD.out hN h1 h32 HM.out hm).mono ?_
  rintro e w1 ⟨v, rfl, hmd, hb1⟩
  have HMD := Lib.hid hmd
  have HB1 := Lib.hid hb1
  obtain ⟨A1, c1, rfl, hr1, hc1, hc2⟩ := hmd.open_ HTL.out
  have HR1 := Lib.hid hr1
  clear hmd hb1 hr1
  refine ⟨_, rfl, ?_⟩
  simp only [Act.put, List.setIfInBounds_toArray, List.set_cons_succ, List.set_cons_zero]
  refine wpList_valn rfl (exec_as rfl (ev rfl)) ?_
  simp only [Act.put, List.setIfInBounds_toArray, List.set_cons_succ, List.set_cons_zero]
  refine wpList_nil ?_
  go_upto_region 9 with fail
  refine wp_region_lit ?_
  refine wpList_valn rfl (exec_mv rfl (ev rfl)) ?_
  simp only [Act.put, List.setIfInBounds_toArray, List.set_cons_succ, List.set_cons_zero]
  refine wpList_call rfl (exec_cl Tryd.call19 rfl (evc (ev rfl) (evc rfl evn))) ?_
  refine (pcontains A1 n c1 (tol l n) w1 HR1.out (by unfold maxLen; omega)).mono ?_
  rintro e w2 ⟨rfl, hb2⟩
  rw [HQ.out]
  have HB2 := Lib.hid (HB1.out.trans (hb2.mono (Nat.le_trans HBL.out HB1.out.size)))
  have HMD2 := Lib.hid (hmd2 HMD.out hb2)
  have HR2 := Lib.hid (HR1.out.step hb2)
  clear hb2 HMD HR1
  refine ⟨_, rfl, ?_⟩
  simp only [Act.put, List.setIfInBounds_toArray, List.set_cons_succ, List.set_cons_zero]
  refine wpList_skips 5 (v := .bool true) rfl (exec_mv rfl (ev rfl)) (by kernel_rfl) ?_
  simp only [skipAct, List.take_succ_cons, List.take_zero, List.drop_succ_cons, List.drop_zero, Act.put, List.setIfInBounds_toArray, List.set_cons_succ, List.set_cons_zero]
  refine wpList_valn (v := .bool true) rfl (exec_pt rfl (ev rfl) evk) ?_
  simp only [Act.put, List.setIfInBounds_toArray, List.set_cons_succ, List.set_cons_zero]
  refine wpList_nil ?_
  go_upto_region 10 with fail
  refine wp_region_lit ?_
  refine wpList_valn rfl (exec_as rfl evk) ?_
  simp only [Act.put, List.setIfInBounds_toArray, List.set_cons_succ, List.set_cons_zero]
  refine wpList_valn rfl (exec_as rfl evk) ?_
  simp only [Act.put, List.setIfInBounds_toArray, List.set_cons_succ, List.set_cons_zero]
  refine wpList_nil ?_
  go_wp2_with fail
  go_ret2
  exact ⟨_, rfl, MadeE.nil _ _, HB2.out⟩
set_option maxHeartbeats 4000000 in
theorem pcget_dif (b off m c N B : Nat) (l : List Blk) (n : Nat) (w : World) (HB : Hid (B = w.heap.size)) (hl : RdB w N (some ⟨b, off, none⟩) m l) (hN : N ≤ B) (hm : m ≤ c) (h1 : 1 ≤ n) (h32 : n ≤ 32) (hs : m = hd n + n) (HQ : Hid (badC (tol l n) = false)) (HEQ : Hid (decide (recL (tol l n) = l) = false)) :
    Calls Tryd.prog 7 #[.slice (some ⟨b, off, none⟩) m c, .int .i64 (n : Int)] w fun e w' => ∃ v, e = .returned (.tuple #[v, .int .i64 (5)]) ∧ MadeE CellE w' B v ([]) ∧ Below B w w' := by
  have HRL : Hid ((recL (tol l n)).length = m) := Lib.hid (by rw [recL_length, tol_length, hs])
  have HRD := Lib.hid hl
  have HM := Lib.hid hs
  have HX := Lib.hid (show m ≤ maxLen by have : hd n ≤ 2 := by unfold hd; omega
                                         rw [hs]; unfold maxLen; omega)
  have HBL := Lib.hid (Nat.le_of_eq HB.out)
  have HSIZ := Lib.hid (sizN_of h1 h32)
  have HTL := Lib.hid (tol_length l n)
  have HN0 : Hid ((((hd n + n : Nat) : Int) == 0) = false) := Lib.hid (by simp; omega)
  have HN1 : Hid (decide ((m : Int) < ((hd n + n : Nat) : Int)) = false) := Lib.hid (decide_eq_false (by omega))
  have HN2 : Hid (decide (((hd n + n : Nat) : Int) < (m : Int)) = false) := Lib.hid (decide_eq_false (by omega))
  clear hl hs
  go_enter Tryd.func7, Tryd.ntmps7
  go_upto_region 1 with fail
  refine wp_region_lit ?_
  refine wpList_valn rfl (exec_mv rfl (ev rfl)) ?_
  simp only [Act.put, List.setIfInBounds_toArray, List.set_cons_succ, List.set_cons_zero]
  refine wpList_call rfl (exec_cl Tryd.call17 rfl (evc (ev rfl) evn)) ?_
  refine (psize n w).mono ?_
  rintro e w' ⟨rfl, rfl⟩
  rw [HSIZ.out]
  refine ⟨_, rfl, ?_⟩
  simp only [Act.put, List.setIfInBounds_toArray, List.set_cons_succ, List.set_cons_zero]
  refine wpList_valn rfl (exec_as rfl (ev rfl)) ?_
  simp only [Act.put, List.setIfInBounds_toArray, List.set_cons_succ, List.set_cons_zero]
  refine wpList_nil ?_
  go_upto_region 2 with fail
  refine wp_region_lit ?_
  refine wpList_valn rfl (exec_mv rfl (ev rfl)) ?_
  simp only [Act.put, List.setIfInBounds_toArray, List.set_cons_succ, List.set_cons_zero]
  refine wpList_valn (v := .bool false) rfl (exec_eqInt false rfl (ev rfl) evk HN0.out) ?_
  simp only [Act.put, List.setIfInBounds_toArray, List.set_cons_succ, List.set_cons_zero]
  refine wpList_valn (v := .bool false) rfl (exec_as rfl (ev rfl)) ?_
  simp only [Act.put, List.setIfInBounds_toArray, List.set_cons_succ, List.set_cons_zero]
  refine wpList_nil ?_
  go_upto_region 4 with fail
  refine wp_region_lit ?_
  refine wpList_valn rfl (exec_mv rfl (ev rfl)) ?_
  simp only [Act.put, List.setIfInBounds_toArray, List.set_cons_succ, List.set_cons_zero]
  refine wpList_valn rfl (exec_lenB rfl (ev rfl)) ?_
  simp only [Act.put, List.setIfInBounds_toArray, List.set_cons_succ, List.set_cons_zero]
  refine wpList_valn rfl (exec_mv rfl (ev rfl)) ?_
  simp only [Act.put, List.setIfInBounds_toArray, List.set_cons_succ, List.set_cons_zero]
  refine wpList_valn (v := .bool false) rfl (exec_lss false rfl (ev rfl) (ev rfl) HN1.out) ?_
  simp only [Act.put, List.setIfInBounds_toArray, List.set_cons_succ, List.set_cons_zero]
  refine wpList_valn (v := .bool false) rfl (exec_as rfl (ev rfl)) ?_
  simp only [Act.put, List.setIfInBounds_toArray, List.set_cons_succ, List.set_cons_zero]
  refine wpList_nil ?_
  go_upto_region 6 with fail
  refine wp_region_lit ?_
  refine wpList_valn rfl (exec_mv rfl (ev rfl)) ?_
  simp only [Act.put, List.setIfInBounds_toArray, List.set_cons_succ, List.set_cons_zero]
  refine wpList_valn rfl (exec_lenB rfl (ev rfl)) ?_
  simp only [Act.put, List.setIfInBounds_toArray, List.set_cons_succ, List.set_cons_zero]
  refine wpList_valn rfl (exec_mv rfl (ev rfl)) ?_
  simp only [Act.put, List.setIfInBounds_toArray, List.set_cons_succ, List.set_cons_zero]
  refine wpList_valn (v := .bool false) rfl (exec_gtr false rfl (ev rfl) (ev rfl) HN2.out) ?_
  simp only [Act.put, List.setIfInBounds_toArray, List.set_cons_succ, List.set_cons_zero]
  refine wpList_valn (v := .bool false) rfl (exec_as rfl (ev rfl)) ?_
  simp only [Act.put, List.setIfInBounds_toArray, List.set_cons_succ, List.set_cons_zero]
  refine wpList_nil ?_
  go_upto_region 8 with fail
  refine wp_region_lit ?_
  refine wpList_valn rfl (exec_mv rfl (ev rfl)) ?_
  simp only [Act.put, List.setIfInBounds_toArray, List.set_cons_succ, List.set_cons_zero]
  refine wpList_valn rfl (exec_mv rfl (ev rfl)) ?_
  simp only [Act.put, List.setIfInBounds_toArray, List.set_cons_succ, List.set_cons_zero]
  refine wpList_call rfl (exec_cl Tryd.call18 rfl (evc (ev rfl) (evc (ev rfl) evn))) ?_
  refine (pctold b off m c N B l n w HB HRD.out hN h1 h32 HM.out hm).mono ?_
  rintro e w1 ⟨v, rfl, hmd, hb1⟩
  have HMD := Lib.hid hmd
  have HB1 := Lib.hid hb1
  obtain ⟨A1, c1, rfl, hr1, hc1, hc2⟩ := hmd.open_ HTL.out
  have HR1 := Lib.hid hr1
  clear hmd hb1 hr1
  refine ⟨_, rfl, ?_⟩
  simp only [Act.put, List.setIfInBounds_toArray, List.set_cons_succ, List.set_cons_zero]
  refine wpList_valn rfl (exec_as rfl (ev rfl)) ?_
  simp only [Act.put, List.setIfInBounds_toArray, List.set_cons_succ, List.set_cons_zero]
  refine wpList_nil ?_
  go_upto_region 9 with fail
  refine wp_region_lit ?_
  refine wpList_valn rfl (exec_mv rfl (ev rfl)) ?_
  simp only [Act.put, List.setIfInBounds_toArray, List.set_cons_succ, List.set_cons_zero]
  refine wpList_call rfl (exec_cl Tryd.call19 rfl (evc (ev rfl) (evc rfl evn))) ?_
  refine (pcontains A1 n c1 (tol l n) w1 HR1.out (by unfold maxLen; omega)).mono ?_
  rintro e w2 ⟨rfl, hb2⟩
  rw [HQ.out]
  have HB2 := Lib.hid (HB1.out.trans (hb2.mono (Nat.le_trans HBL.out HB1.out.size)))
  have HMD2 := Lib.hid (hmd2 HMD.out hb2)
  have HR2 := Lib.hid (HR1.out.step hb2)
  clear hb2 HMD HR1
  refine ⟨_, rfl, ?_⟩
  simp only [Act.put, List.setIfInBounds_toArray, List.set_cons_succ, List.set_cons_zero]
  refine wpList_valn (v := .bool false) rfl (exec_mv rfl (ev rfl)) ?_
  simp only [Act.put, List.setIfInBounds_toArray, List.set_cons_succ, List.set_cons_zero]
  refine wpList_val (wanted_of rfl rfl rfl rfl) (exec_mv rfl (ev rfl)) ?_
  simp only [Act.put, List.setIfInBounds_toArray, List.set_cons_succ, List.set_cons_zero]
  refine wpList_call (wanted_of rfl rfl rfl rfl) (exec_cl Tryd.call22 rfl (evc (ev rfl) evn)) ?_
  refine (pclaid A1 n c1 w2.heap.size w2.heap.size (tol l n) w2 (Lib.hid rfl) HR2.out (Nat.le_refl _) h1 h32 HQ.out).mono ?_
  rintro e w3 ⟨v3, rfl, hm3, hb3⟩
  obtain ⟨A3, c3, rfl, hr3, hc3, hc4⟩ := hm3.open_ HRL.out
  have HR3 := Lib.hid hr3
  have HB3 := Lib.hid (HB2.out.trans (hb3.mono (Nat.le_trans HBL.out HB2.out.size)))
  have HMD3 := Lib.hid (hmd2 HMD2.out hb3)
  clear hm3 hr3 hb3 HMD2 HR2
  refine ⟨_, rfl, ?_⟩
  simp only [Act.put, List.setIfInBounds_toArray, List.set_cons_succ, List.set_cons_zero]
  refine wpList_val (wanted_of rfl rfl rfl rfl) (exec_mv rfl (ev rfl)) ?_
  simp only [Act.put, List.setIfInBounds_toArray, List.set_cons_succ, List.set_cons_zero]
  refine wpList_call (wanted_of rfl rfl rfl rfl) (exec_cl Tryd.call21 rfl (evc (ev rfl) (evc (ev rfl) evn))) ?_
  refine (pequal A3 (some ⟨b, off, none⟩) m m c3 c w3.heap.size (recL (tol l n)) l w3 HR3.out ((HRD.out.below (HB3.out.mono hN)).more (Nat.le_trans hN (Nat.le_trans HBL.out HB3.out.size))) (Nat.le_refl _) HX.out).mono ?_
  rintro e w4 ⟨rfl, hb4⟩
  rw [HEQ.out]
  have HB4 := Lib.hid (HB3.out.trans (hb4.mono (Nat.le_trans HBL.out HB3.out.size)))
  have HMD4 := Lib.hid (hmd2 HMD3.out hb4)
  clear hb4 HMD3
  refine ⟨_, rfl, ?_⟩
  simp only [Act.put, List.setIfInBounds_toArray, List.set_cons_succ, List.set_cons_zero]
  refine wpList_val (v := .bool true) (wanted_of rfl rfl rfl rfl) (exec_not false rfl (ev rfl)) ?_
  simp only [Act.put, List.setIfInBounds_toArray, List.set_cons_succ, List.set_cons_zero]
  refine wpList_valn (v := .bool true) rfl (exec_pf rfl (ev rfl) (ev rfl)) ?_
  simp only [Act.put, List.setIfInBounds_toArray, List.set_cons_succ, List.set_cons_zero]
  refine wpList_nil ?_
  go_upto_region 10 with fail
  refine wp_region_lit ?_
  refine wpList_valn rfl (exec_as rfl evk) ?_
  simp only [Act.put, List.setIfInBounds_toArray, List.set_cons_succ, List.set_cons_zero]
  refine wpList_valn rfl (exec_as rfl evk) ?_
  simp only [Act.put, List.setIfInBounds_toArray, List.set_cons_succ, List.set_cons_zero]
  refine wpList_nil ?_
  go_wp2_with fail
  go_ret2
  exact ⟨_, rfl, MadeE.nil _ _, HB4.out⟩
set_option maxHeartbeats 4000000 in
theorem pcget_yes (b off m c N B : Nat) (l : List Blk) (n : Nat) (w : World) (HB : Hid (B = w.heap.size)) (hl : RdB w N (some ⟨b, off, none⟩) m l) (hN : N ≤ B) (hm : m ≤ c) (h1 : 1 ≤ n) (h32 : n ≤ 32) (hs : m = hd n + n) (HQ : Hid (badC (tol l n) = false)) (HEQ : Hid (decide (recL (tol l n) = l) = true)) :
    Calls Tryd.prog 7 #[.slice (some ⟨b, off, none⟩) m c, .int .i64 (n : Int)] w fun e w' => ∃ v, e = .returned (.tuple #[v, .int .i64 (0)]) ∧ MadeE CellE w' B v (tol l n) ∧ Below B w w' := by
  have HRL : Hid ((recL (tol l n)).length = m) := Lib.hid (by rw [recL_length, tol_length, hs])
  have HRD := Lib.hid hl
  have HM := Lib.hid hs
  have HX := Lib.hid (show m ≤ maxLen by have : hd n ≤ 2 := by unfold hd; omega
                                         rw [hs]; unfold maxLen; omega)
  have HBL := Lib.hid (Nat.le_of_eq HB.out)
  have HSIZ := Lib.hid (sizN_of h1 h32)
  have HTL := Lib.hid (tol_length l n)
  have HN0 : Hid ((((hd n + n : Nat) : Int) == 0) = false) := Lib.hid (by simp; omega)
  have HN1 : Hid (decide ((m : Int) < ((hd n + n : Nat) : Int)) = false) := Lib.hid (decide_eq_false (by omega))
  have HN2 : Hid (decide (((hd n + n : Nat) : Int) < (m : Int)) = false) := Lib.hid (decide_eq_false (by omega))
  clear hl hs
  go_enter Tryd.func7, Tryd.ntmps7
  go_upto_region 1 with fail
  refine wp_region_lit ?_
  refine wpList_valn rfl (exec_mv rfl (ev rfl)) ?_
  simp only [Act.put, List.setIfInBounds_toArray, List.set_cons_succ, List.set_cons_zero]
  refine wpList_call rfl (exec_cl Tryd.call17 rfl (evc (ev rfl) evn)) ?_
  refine (psize n w).mono ?_
  rintro e w' ⟨rfl, rfl⟩
  rw [HSIZ.out]
  refine ⟨_, rfl, ?_⟩
  simp only [Act.put, List.setIfInBounds_toArray, List.set_cons_succ, List.set_cons_zero]
  refine wpList_valn rfl (exec_as rfl (ev rfl)) ?_
  simp only [Act.put, List.setIfInBounds_toArray, List.set_cons_succ, List.set_cons_zero]
  refine wpList_nil ?_
  go_upto_region 2 with fail
  refine wp_region_lit ?_
  refine wpList_valn rfl (exec_mv rfl (ev rfl)) ?_
  simp only [Act.put, List.setIfInBounds_toArray, List.set_cons_succ, List.set_cons_zero]
  refine wpList_valn (v := .bool false) rfl (exec_eqInt false rfl (ev rfl) evk HN0.out) ?_
  simp only [Act.put, List.setIfInBounds_toArray, List.set_cons_succ, List.set_cons_zero]
  refine wpList_valn (v := .bool false) rfl (exec_as rfl (ev rfl)) ?_
  simp only [Act.put, List.setIfInBounds_toArray, List.set_cons_succ, List.set_cons_zero]
  refine wpList_nil ?_
  go_upto_region 4 with fail
  refine wp_region_lit ?_
  refine wpList_valn rfl (exec_mv rfl (ev rfl)) ?_
  simp only [Act.put, List.setIfInBounds_toArray, List.set_cons_succ, List.set_cons_zero]
  refine wpList_valn rfl (exec_lenB rfl (ev rfl)) ?_
  simp only [Act.put, List.setIfInBounds_toArray, List.set_cons_succ, List.set_cons_zero]
  refine wpList_valn rfl (exec_mv rfl (ev rfl)) ?_
  simp only [Act.put, List.setIfInBounds_toArray, List.set_cons_succ, List.set_cons_zero]
  refine wpList_valn (v := .bool false) rfl (exec_lss false rfl (ev rfl) (ev rfl) HN1.out) ?_
  simp only [Act.put, List.setIfInBounds_toArray, List.set_cons_succ, List.set_cons_zero]
  refine wpList_valn (v := .bool false) rfl (exec_as rfl (ev rfl)) ?_
  simp only [Act.put, List.setIfInBounds_toArray, List.set_cons_succ, List.set_cons_zero]
  refine wpList_nil ?_
  go_upto_region 6 with fail
  refine wp_region_lit ?_
  refine wpList_valn rfl (exec_mv rfl (ev rfl)) ?_
  simp only [Act.put, List.setIfInBounds_toArray, List.set_cons_succ, List.set_cons_zero]
  refine wpList_valn rfl (exec_lenB rfl (ev rfl)) ?_
  simp only [Act.put, List.setIfInBounds_toArray, List.set_cons_succ, List.set_cons_zero]
  refine wpList_valn rfl (exec_mv rfl (ev rfl)) ?_
  simp only [Act.put, List.setIfInBounds_toArray, List.set_cons_succ, List.set_cons_zero]
  refine wpList_valn (v := .bool false) rfl (exec_gtr false rfl (ev rfl) (ev rfl) HN2.out) ?_
  simp only [Act.put, List.setIfInBounds_toArray, List.set_cons_succ, List.set_cons_zero]
  refine wpList_valn (v := .bool false) rfl (exec_as rfl (ev rfl)) ?_
  simp only [Act.put, List.setIfInBounds_toArray, List.set_cons_succ, List.set_cons_zero]
  refine wpList_nil ?_
  go_upto_region 8 with fail
  refine wp_region_lit ?_
  refine wpList_valn rfl (exec_mv rfl (ev rfl)) ?_
  simp only [Act.put, List.setIfInBounds_toArray, List.set_cons_succ, List.set_cons_zero]
  refine wpList_valn rfl (exec_mv rfl (ev rfl)) ?_
  simp only [Act.put, List.setIfInBounds_toArray, List.set_cons_succ, List.set_cons_zero]
  refine wpList_call rfl (exec_cl Tryd.call18 rfl (evc (ev rfl) (evc (ev rfl) evn))) ?_
  refine (pctold b off m c N B l n w HB HRD.out hN h1 h32 HM.out hm).mono ?_
  rintro e w1 ⟨v, rfl, hmd, hb1⟩
  have HMD := Lib.hid hmd
  have HB1 := Lib.hid hb1
  obtain ⟨A1, c1, rfl, hr1, hc1, hc2⟩ := hmd.open_ HTL.out
  have HR1 := Lib.hid hr1
  clear hmd hb1 hr1
  refine ⟨_, rfl, ?_⟩
  simp only [Act.put, List.setIfInBounds_toArray, List.set_cons_succ, List.set_cons_zero]
  refine wpList_valn rfl (exec_as rfl (ev rfl)) ?_
  simp only [Act.put, List.setIfInBounds_toArray, List.set_cons_succ, List.set_cons_zero]
  refine wpList_nil ?_
  go_upto_region 9 with fail
  refine wp_region_lit ?_
  refine wpList_valn rfl (exec_mv rfl (ev rfl)) ?_
  simp only [Act.put, List.setIfInBounds_toArray, List.set_cons_succ, List.set_cons_zero]
  refine wpList_call rfl (exec_cl Tryd.call19 rfl (evc (ev rfl) (evc rfl evn))) ?_
  refine (pcontains A1 n c1 (tol l n) w1 HR1.out (by unfold maxLen; omega)).mono ?_
  rintro e w2 ⟨rfl, hb2⟩
  rw [HQ.out]
  have HB2 := Lib.hid (HB1.out.trans (hb2.mono (Nat.le_trans HBL.out HB1.out.size)))
  have HMD2 := Lib.hid (hmd2 HMD.out hb2)
  have HR2 := Lib.hid (HR1.out.step hb2)
  clear hb2 HMD HR1
  refine ⟨_, rfl, ?_⟩
  simp only [Act.put, List.setIfInBounds_toArray, List.set_cons_succ, List.set_cons_zero]
  refine wpList_valn (v := .bool false) rfl (exec_mv rfl (ev rfl)) ?_
  simp only [Act.put, List.setIfInBounds_toArray, List.set_cons_succ, List.set_cons_zero]
  refine wpList_val (wanted_of rfl rfl rfl rfl) (exec_mv rfl (ev rfl)) ?_
  simp only [Act.put, List.setIfInBounds_toArray, List.set_cons_succ, List.set_cons_zero]
  refine wpList_call (wanted_of rfl rfl rfl rfl) (exec_cl Tryd.call22 rfl (evc (ev rfl) evn)) ?_
  refine (pclaid A1 n c1 w2.heap.size w2.heap.size (tol l n) w2 (Lib.hid rfl) HR2.out (Nat.le_refl _) h1 h32 HQ.out).mono ?_
  rintro e w3 ⟨v3, rfl, hm3, hb3⟩
  obtain ⟨A3, c3, rfl, hr3, hc3, hc4⟩ := hm3.open_ HRL.out
  have HR3 := Lib.hid hr3
  have HB3 := Lib.hid (HB2.out.trans (hb3.mono (Nat.le_trans HBL.out HB2.out.size)))
  have HMD3 := Lib.hid (hmd2 HMD2.out hb3)
  clear hm3 hr3 hb3 HMD2 HR2
  refine ⟨_, rfl, ?_⟩
  simp only [Act.put, List.setIfInBounds_toArray, List.set_cons_succ, List.set_cons_zero]
  refine wpList_val (wanted_of rfl rfl rfl rfl) (exec_mv rfl (ev rfl)) ?_
  simp only [Act.put, List.setIfInBounds_toArray, List.set_cons_succ, List.set_cons_zero]
  refine wpList_call (wanted_of rfl rfl rfl rfl) (exec_cl Tryd.call21 rfl (evc (ev rfl) (evc (ev rfl) evn))) ?_
  refine (pequal A3 (some ⟨b, off, none⟩) m m c3 c w3.heap.size (recL (tol l n)) l w3 HR3.out ((HRD.out.below (HB3.out.mono hN)).more (Nat.le_trans hN (Nat.le_trans HBL.out HB3.out.size))) (Nat.le_refl _) HX.out).mono ?_
  rintro e w4 ⟨rfl, hb4⟩
  rw [HEQ.out]
  have HB4 := Lib.hid (HB3.out.trans (hb4.mono (Nat.le_trans HBL.out HB3.out.size)))
  have HMD4 := Lib.hid (hmd2 HMD3.out hb4)
  clear hb4 HMD3
  refine ⟨_, rfl, ?_⟩
  simp only [Act.put, List.setIfInBounds_toArray, List.set_cons_succ, List.set_cons_zero]
  refine wpList_val (v := .bool false) (wanted_of rfl rfl rfl rfl) (exec_not true rfl (ev rfl)) ?_
  simp only [Act.put, List.setIfInBounds_toArray, List.set_cons_succ, List.set_cons_zero]
  refine wpList_valn (v := .bool false) rfl (exec_pf rfl (ev rfl) (ev rfl)) ?_
  simp only [Act.put, List.setIfInBounds_toArray, List.set_cons_succ, List.set_cons_zero]
  refine wpList_nil ?_
  go_upto_region 11 with fail
  refine wp_region_lit ?_
  refine wpList_valn rfl (exec_mv rfl (ev rfl)) ?_
  simp only [Act.put, List.setIfInBounds_toArray, List.set_cons_succ, List.set_cons_zero]
  refine wpList_valn rfl (exec_as rfl (ev rfl)) ?_
  simp only [Act.put, List.setIfInBounds_toArray, List.set_cons_succ, List.set_cons_zero]
  refine wpList_valn rfl (exec_as rfl evk) ?_
  simp only [Act.put, List.setIfInBounds_toArray, List.set_cons_succ, List.set_cons_zero]
  refine wpList_nil ?_
  go_wp2_with fail
  go_ret2
  exact ⟨_, rfl, HMD4.out, HB4.out⟩
theorem pcget_at (b off m c N B : Nat) (l : List Blk) (n : Nat) (w : World) (HB : Hid (B = w.heap.size)) (hl : RdB w N (some ⟨b, off, none⟩) m l) (hN : N ≤ B) (hm : m ≤ c) (h1 : 1 ≤ n) (h32 : n ≤ 32) (hs : m = hd n + n) :
    Calls Tryd.prog 7 #[.slice (some ⟨b, off, none⟩) m c, .int .i64 (n : Int)] w fun e w' => ∃ v, e = .returned (.tuple #[v, .int .i64 (rgE l (n : Int) : Nat)]) ∧ MadeE CellE w' B v (rgC l (n : Int)) ∧ Below B w w' := by
  have hlen : l.length = hd n + n := by rw [hl.1, hs]
  cases hq : badC (tol l n)
  · by_cases he : recL (tol l n) = l
    · have hE := rgE_ok h1 h32 hlen hq he
      have hC := rgC_ok hE
      rw [Int.toNat_natCast] at hC
      rw [hE, hC]
      exact pcget_yes b off m c N B l n w HB hl hN hm h1 h32 hs (Lib.hid hq) (Lib.hid (decide_eq_true he))
    · have hE := rgE_form h1 h32 hlen (.inr he)
      rw [hE, rgC_no (by omega)]
      exact pcget_dif b off m c N B l n w HB hl hN hm h1 h32 hs (Lib.hid hq) (Lib.hid (decide_eq_false he))
  · have hE := rgE_form h1 h32 hlen (.inl hq)
    rw [hE, rgC_no (by omega)]
    exact pcget_bad b off m c N B l n w HB hl hN hm h1 h32 hs (Lib.hid hq)
theorem pcget (A : Option Addr) (m c N B : Nat) (l : List Blk) (n : Int) (w : World) (HB : Hid (B = w.heap.size)) (hl : RdB w N A m l) (hN : N ≤ B) (hm : m ≤ c) (hx : m ≤ maxLen) :
    Calls Tryd.prog 7 #[.slice A m c, .int .i64 n] w fun e w' => ∃ v, e = .returned (.tuple #[v, .int .i64 (rgE l n : Nat)]) ∧ MadeE CellE w' B v (rgC l n) ∧ Below B w w' := by
  by_cases hno : sizN n = 0 ∨ m ≠ sizN n
  · exact pcget_no A m c N B l n w HB hl hN hm hx hno
  · have h0 : sizN n ≠ 0 := fun e => hno (.inl e)
    have h2 : m = sizN n := Classical.byContradiction fun e => hno (.inr e)
    obtain ⟨k, rfl, h3, h4⟩ := of_sizN h0
    rw [sizN_of h3 h4] at h2
    obtain ⟨b, off, rfl, _⟩ := hl.2 0 (by omega)
    exact pcget_at b off m c N B l k w HB hl hN hm h3 h4 h2
end Go.Proofs.YtfemlaombdeebaaDoor
