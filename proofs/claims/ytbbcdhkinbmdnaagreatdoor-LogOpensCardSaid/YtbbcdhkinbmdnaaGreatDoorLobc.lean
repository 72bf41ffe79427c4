import Derived.Test.YtbbcdhkinbmdnaaGreatDoorLobb
import Derived.Test.YtbbcdhkinbmdnaaGreatDoorLoam
import Derived.Test.YtbbcdhkinbmdnaaGreatDoorLoae
import Derived.Test.YtbbcdhkinbmdnaaGreatDoorLoaj
import Derived.Test.YtbbcdhkinbmdnaaGreatDoorLoag
import Derived.Test.YtbbcdhkinbmdnaaGreatDoorLoab
import Derived.Test.YtbbcdhkinbmdnaaGreatDoorLoaf
import Derived.Deep.DeepCutAuto
import Derived.Test.YtbbcdhkinbmdnaaGreatDoorLoZ
namespace Go.Proofs.YtbbcdhkinbmdnaaGreatDoor
open Go.RowKit
set_option linter.unusedVariables false
set_option linter.unusedSimpArgs false
set_option maxRecDepth 100000
set_option maxHeartbeats 800000 in
theorem pequal (A B : Option Addr) (n m c d N : Nat) (a b : List Blk) (w : World) (ha : RdB w N A n a) (hb : RdB w N B m b) (hN : N ≤ w.heap.size) (hn : n ≤ maxLen) :
  Calls Tryz.prog 134 #[.slice A n c, .slice B m d] w fun e w' => e = .returned (.bool (decide (a = b))) ∧ Below w.heap.size w w' := by
 unfold maxLen at hn
 by_cases hnm : n = m
 ·subst hnm
  go_enter Tryz.func134, Tryz.ntmps134
  go_wp2_with fail
  go_loopw [13] (fun i wr => ∃ k : Nat, k ≤ n ∧ i = .int .i64 k ∧ (∀ j, j < k → a.getD j ap = b.getD j ap) ∧ Below w.heap.size w wr) (fun i _ => n - (intOf i).toNat)
  case atStart => exact ⟨0, Nat.zero_le _, rfl, fun j hj => absurd hj (by omega), Below.refl _ _⟩
  case round =>
   obtain ⟨k, hk, rfl, hj, hbl⟩ := hrel
   have HJ := af hj
   clear hj
   by_cases hlt : k < n
   ·obtain ⟨bA, oA, rfl, hA, cA⟩ := (ha.below (hbl.mono hN)).2 k hlt
    obtain ⟨bB, oB, rfl, hB, cB⟩ := (hb.below (hbl.mono hN)).2 k hlt
    have HX := af (rfl : a.getD k ap = a.getD k ap)
    generalize hx : a.getD k ap = x at *
    generalize hy : b.getD k ap = y at *
    have HA := af cA
    have HB := af cB
    have HXX := af hx
    have HYY := af hy
    clear cA cB hx hy HX
    go_wp2_with fail
    refine wp_region_read (by kernel_rfl) ?_
    refine aF rfl (eq rfl) ?_;simp only [aa]
    refine aF rfl (eq rfl) ?_;simp only [aa]
    refine aF rfl (dD rfl rfl rfl hlt) ?_;simp only [aa]
    refine aF rfl (aS rfl rfl HA.out) ?_;simp only [aa]
    refine aF rfl (eq rfl) ?_;simp only [aa]
    refine aF rfl (eq rfl) ?_;simp only [aa]
    refine aF rfl (dD rfl rfl rfl hlt) ?_;simp only [aa]
    refine aF rfl (aS rfl rfl HB.out) ?_;simp only [aa]
    by_cases hxy : x = y
    ·have hd : (!decide (x = y)) = false := by simpa using hxy
     refine aF rfl (exec_neqb false rfl rfl rfl hd) ?_;simp only [aa]
     refine wpStill_nil ?_
     clear hd
     go_wp2_with fail
     go_roundw
     case rel =>
      refine ⟨k + 1, by omega, by go_num, ?_, bd hbl⟩
      intro j hj
      by_cases h : j = k
      ·subst h; rw [HXX.out, HYY.out]; exact hxy
      ·exact HJ.out j (by omega)
     case measure => simp [intOf]; omega
    ·have hd : (!decide (x = y)) = true := by simpa using hxy
     refine aF rfl (exec_neqb true rfl rfl rfl hd) ?_;simp only [aa]
     refine wpStill_nil ?_
     clear hd
     go_wp2_with fail
     go_ret
     refine ⟨?_, bd hbl⟩
     rw [decide_eq_false]
     ·rfl
     ·rintro rfl
      exact hxy (HXX.out.symm.trans HYY.out)
   ·go_wp2_with fail
    go_ret
    refine ⟨?_, hbl⟩
    rw [decide_eq_true]
    ·rfl
    ·exact getD_ext (by rw [ha.1, hb.1]) fun k h => HJ.out k (by have := ha.1; omega)
 ·have hne : ((n : Int) != (m : Int)) = true := by simp; omega
  go_enter Tryz.func134, Tryz.ntmps134
  go_wp2_with fail
  go_ret
  refine ⟨?_, Below.refl _ _⟩
  rw [decide_eq_false]
  ·rfl
  ·rintro rfl
   exact hnm (ha.1.symm.trans hb.1)
theorem hmd2 {w w' : World} {B : Nat} {v : Value} {l : List Cl} (h : aH bY w B v l) (hb : Below w.heap.size w w') : aH bY w' B v l := h.below hb
set_option maxHeartbeats 2000000 in
theorem pcput (A : Option Addr) (n c N B : Nat) (l : List Cl) (w : World) (HB : Hid (B = w.heap.size)) (hl : RdE bY w N A n l) (hN : N ≤ B) (hn : n ≤ maxLen) :
  Calls Tryz.prog 82 #[.slice A n c] w fun e w' => ∃ v, e = .returned (.tuple #[v, .int .i64 (recE l : Nat)]) ∧ dr w' B v (recP l) ∧ Below B w w' := by
 have HL := af hl.1
 have HBL := af (Nat.le_of_eq HB.out)
 have hrd : RdE bY w w.heap.size A n l := hl.more (Nat.le_trans hN (Nat.le_of_eq HB.out))
 by_cases h0 : n = 0
 ·have HE := af (recE_bad (l := l) (.inl (by rw [HL.out]; exact h0)))
  have HP := af (recP_no (l := l) (by rw [HE.out]; omega))
  subst h0
  go_enter Tryz.func82, Tryz.ntmps82
  go_wp2_with fail
  go_ret2
  exact ⟨_, by rw [HE.out]; rfl, by rw [HP.out]; exact dr.nil _ _, Below.refl _ _⟩
 ·cases hb : badC l
  ·by_cases h32 : n ≤ 32
   ·have HE := af (recE_ok (l := l) (by rw [HL.out]; exact h0) hb (by rw [HL.out]; exact h32))
    have HP := af (recP_ok (l := l) HE.out)
    have HBD := af hb
    have HRD := af hrd
    clear hb hrd hl
    go_enter Tryz.func82, Tryz.ntmps82
    go_wp2_with fail
    refine (fQ A n c l w HRD.out hn).mono ?_
    rintro e w1 ⟨rfl, hb1⟩
    rw [HBD.out]
    have HB1 := af hb1
    clear hb1
    go_wp2_with fail
    refine (pclaid A n c w.heap.size w1.heap.size l w1 (af rfl) (HRD.out.below HB1.out) HB1.out.size (by omega) h32 HBD.out).mono ?_
    rintro e w2 ⟨v, rfl, hm, hb2⟩
    have HM := af (dr.base hm (Nat.le_trans HBL.out HB1.out.size))
    have HB2 := af ((HB1.out.mono HBL.out).trans (hb2.mono (Nat.le_trans HBL.out HB1.out.size)))
    clear hm hb2
    go_wp2_with fail
    go_ret2
    exact ⟨_, by rw [HE.out]; rfl, by rw [HP.out]; exact HM.out, HB2.out⟩
   ·have HE := af (recE_long (l := l) (by rw [HL.out]; exact h0) hb (by rw [HL.out]; omega))
    have HP := af (recP_no (l := l) (by rw [HE.out]; omega))
    have HBD := af hb
    have HRD := af hrd
    clear hb hrd hl
    go_enter Tryz.func82, Tryz.ntmps82
    go_wp2_with fail
    refine (fQ A n c l w HRD.out hn).mono ?_
    rintro e w1 ⟨rfl, hb1⟩
    rw [HBD.out]
    have HB1 := af (hb1.mono HBL.out)
    clear hb1
    go_wp2_with fail
    go_ret2
    exact ⟨_, by rw [HE.out]; rfl, by rw [HP.out]; exact dr.nil _ _, HB1.out⟩
  ·have HE := af (recE_bad (l := l) (.inr hb))
   have HP := af (recP_no (l := l) (by rw [HE.out]; omega))
   have HBD := af hb
   have HRD := af hrd
   clear hb hrd hl
   go_enter Tryz.func82, Tryz.ntmps82
   go_wp2_with fail
   refine (fQ A n c l w HRD.out hn).mono ?_
   rintro e w1 ⟨rfl, hb1⟩
   rw [HBD.out]
   have HB1 := af (hb1.mono HBL.out)
   clear hb1
   go_wp2_with fail
   go_ret2
   exact ⟨_, by rw [HE.out]; rfl, by rw [HP.out]; exact dr.nil _ _, HB1.out⟩
set_option maxHeartbeats 2000000 in
theorem pcget_no (A : Option Addr) (m c N B : Nat) (l : List Blk) (n : Int) (w : World) (HB : Hid (B = w.heap.size)) (hl : RdB w N A m l) (hN : N ≤ B) (hm : m ≤ c) (hx : m ≤ maxLen) (hno : dZ n = 0 ∨ m ≠ dZ n) :
  Calls Tryz.prog 93 #[.slice A m c, .int .i64 n] w fun e w' => ∃ v, e = .returned (.tuple #[v, .int .i64 (rgE l n : Nat)]) ∧ aH bY w' B v (rgC l n) ∧ Below B w w' := by
 have HL := af hl.1
 obtain ⟨s, hs⟩ : ∃ s, dZ n = s := ⟨_, rfl⟩
 have HS := af hs
 have hs34 : s ≤ 34 := by
  rw [← hs]
  unfold dZ hd
  split
  ·omega
  ·omega
 unfold maxLen at hx
 rw [hs] at hno
 by_cases h0 : s = 0
 ·have HE := af (rgE_arg (l := l) (n := n) (by rw [hs, h0]))
  have HC := af (rgC_no (l := l) (n := n) (by rw [HE.out]; omega))
  clear hs hno
  subst h0
  go_enter Tryz.func93, Tryz.ntmps93
  go_wp2_with fail
  refine (psize n w).mono ?_
  rintro e w' ⟨rfl, rfl⟩
  rw [HS.out]
  go_wp2_with fail
  go_ret2
  exact ⟨_, by rw [HE.out]; rfl, by rw [HC.out]; exact aH.nil _ _, Below.refl _ _⟩
 ·by_cases hlt : m < s
  ·have HE := af (rgE_short (l := l) (n := n) (by rw [hs]; exact h0) (by rw [HL.out, hs]; exact hlt))
   have HC := af (rgC_no (l := l) (n := n) (by rw [HE.out]; omega))
   clear hs hno
   go_enter Tryz.func93, Tryz.ntmps93
   go_wp2_with fail
   refine (psize n w).mono ?_
   rintro e w' ⟨rfl, rfl⟩
   rw [HS.out]
   go_wp2_with fail
   go_ret2
   exact ⟨_, by rw [HE.out]; rfl, by rw [HC.out]; exact aH.nil _ _, Below.refl _ _⟩
  ·have HE := af (rgE_more (l := l) (n := n) (by rw [hs]; exact h0) (by rw [HL.out, hs]; omega))
   have HC := af (rgC_no (l := l) (n := n) (by rw [HE.out]; omega))
   have hgt : s < m := by omega
   clear hs hno hlt
   go_enter Tryz.func93, Tryz.ntmps93
   go_wp2_with fail
   refine (psize n w).mono ?_
   rintro e w' ⟨rfl, rfl⟩
   rw [HS.out]
   go_wp2_with fail
   go_ret2
   exact ⟨_, by rw [HE.out]; rfl, by rw [HC.out]; exact aH.nil _ _, Below.refl _ _⟩
set_option maxHeartbeats 4000000 in
theorem pcget_bad (b off m c N B : Nat) (l : List Blk) (n : Nat) (w : World) (HB : Hid (B = w.heap.size)) (hl : RdB w N (some ⟨b, off, none⟩) m l) (hN : N ≤ B) (hm : m ≤ c) (h1 : 1 ≤ n) (h32 : n ≤ 32) (hs : m = hd n + n) (HQ : Hid (badC (tol l n) = true)) :
  Calls Tryz.prog 93 #[.slice (some ⟨b, off, none⟩) m c, .int .i64 (n : Int)] w fun e w' => ∃ v, e = .returned (.tuple #[v, .int .i64 (5)]) ∧ aH bY w' B v ([]) ∧ Below B w w' := by
 have HRL : Hid ((bS (tol l n)).length = m) := af (by rw [ca, b9, hs])
 have HRD := af hl
 have HM := af hs
 have HX := af (show m ≤ maxLen by have : hd n ≤ 2 := (by unfold hd; omega); rw [hs]; unfold maxLen; omega)
 have HBL := af (Nat.le_of_eq HB.out)
 have HSIZ := af (fv h1 h32)
 have HTL := af (b9 l n)
 have HN0 : Hid ((((hd n + n : Nat) : Int) == 0) = false) := af (by simp; omega)
 have HN1 : Hid (decide ((m : Int) < ((hd n + n : Nat) : Int)) = false) := af (decide_eq_false (by omega))
 have HN2 : Hid (decide (((hd n + n : Nat) : Int) < (m : Int)) = false) := af (decide_eq_false (by omega))
 clear hl hs
 go_enter Tryz.func93, Tryz.ntmps93
 go_upto_region 1 with fail
 refine ag ?_
 refine ai rfl (aj rfl (ev rfl)) ?_;simp only [aa]
 refine ar rfl (av Tryz.call121 rfl (evc (ev rfl) evn)) ?_
 refine (psize n w).mono ?_
 rintro e w' ⟨rfl, rfl⟩
 rw [HSIZ.out]
 refine ⟨_, rfl, ?_⟩
 simp only [aa]
 refine ai rfl (aq rfl (ev rfl)) ?_;simp only [aa]
 refine ah ?_
 go_upto_region 2 with fail
 refine ag ?_
 refine ai rfl (aj rfl (ev rfl)) ?_;simp only [aa]
 refine ai (v := .bool false) rfl (aP false rfl (ev rfl) evk HN0.out) ?_;simp only [aa]
 refine ai (v := .bool false) rfl (aq rfl (ev rfl)) ?_;simp only [aa]
 refine ah ?_
 go_upto_region 4 with fail
 refine ag ?_
 refine ai rfl (aj rfl (ev rfl)) ?_;simp only [aa]
 refine ai rfl (ep rfl (ev rfl)) ?_;simp only [aa]
 refine ai rfl (aj rfl (ev rfl)) ?_;simp only [aa]
 refine ai (v := .bool false) rfl (aZ false rfl (ev rfl) (ev rfl) HN1.out) ?_;simp only [aa]
 refine ai (v := .bool false) rfl (aq rfl (ev rfl)) ?_;simp only [aa]
 refine ah ?_
 go_upto_region 6 with fail
 refine ag ?_
 refine ai rfl (aj rfl (ev rfl)) ?_;simp only [aa]
 refine ai rfl (ep rfl (ev rfl)) ?_;simp only [aa]
 refine ai rfl (aj rfl (ev rfl)) ?_;simp only [aa]
 refine ai (v := .bool false) rfl (bp false rfl (ev rfl) (ev rfl) HN2.out) ?_;simp only [aa]
 refine ai (v := .bool false) rfl (aq rfl (ev rfl)) ?_;simp only [aa]
 refine ah ?_
 go_upto_region 8 with fail
 refine ag ?_
 refine ai rfl (aj rfl (ev rfl)) ?_;simp only [aa]
 refine ai rfl (aj rfl (ev rfl)) ?_;simp only [aa]
 refine ar rfl (av Tryz.call133 rfl (evc (ev rfl) (evc (ev rfl) evn))) ?_
 refine (pctold b off m c N B l n w HB HRD.out hN h1 h32 HM.out hm).mono ?_
 rintro e w1 ⟨v, rfl, hmd, hb1⟩
 have HMD := af hmd
 have HB1 := af hb1
 obtain ⟨A1, c1, rfl, hr1, hc1, hc2⟩ := hmd.open_ HTL.out
 have HR1 := af hr1
 clear hmd hb1 hr1
 refine ⟨_, rfl, ?_⟩
 simp only [aa]
 refine ai rfl (aq rfl (ev rfl)) ?_;simp only [aa]
 refine ah ?_
 go_upto_region 9 with fail
 refine ag ?_
 refine ai rfl (aj rfl (ev rfl)) ?_;simp only [aa]
 refine ar rfl (av Tryz.call115 rfl (evc (ev rfl) (evc rfl evn))) ?_
 refine (fQ A1 n c1 (tol l n) w1 HR1.out (by unfold maxLen; omega)).mono ?_
 rintro e w2 ⟨rfl, hb2⟩
 rw [HQ.out]
 have HB2 := af (HB1.out.trans (hb2.mono (Nat.le_trans HBL.out HB1.out.size)))
 have HMD2 := af (hmd2 HMD.out hb2)
 have HR2 := af (HR1.out.step hb2)
 clear hb2 HMD HR1
 refine ⟨_, rfl, ?_⟩
 simp only [aa]
 refine aC 5 (v := .bool true) rfl (aj rfl (ev rfl)) (by kernel_rfl) ?_
 simp only [aJ, ae, aa]
 refine ai (v := .bool true) rfl (aG rfl (ev rfl) evk) ?_;simp only [aa]
 refine ah ?_
 go_upto_region 10 with fail
 refine ag ?_
 refine ai rfl (aq rfl evk) ?_;simp only [aa]
 refine ai rfl (aq rfl evk) ?_;simp only [aa]
 refine ah ?_
 go_wp2_with fail
 go_ret2
 exact ⟨_, rfl, aH.nil _ _, HB2.out⟩
set_option maxHeartbeats 4000000 in
theorem pcget_dif (b off m c N B : Nat) (l : List Blk) (n : Nat) (w : World) (HB : Hid (B = w.heap.size)) (hl : RdB w N (some ⟨b, off, none⟩) m l) (hN : N ≤ B) (hm : m ≤ c) (h1 : 1 ≤ n) (h32 : n ≤ 32) (hs : m = hd n + n) (HQ : Hid (badC (tol l n) = false)) (HEQ : Hid (decide (bS (tol l n) = l) = false)) :
  Calls Tryz.prog 93 #[.slice (some ⟨b, off, none⟩) m c, .int .i64 (n : Int)] w fun e w' => ∃ v, e = .returned (.tuple #[v, .int .i64 (5)]) ∧ aH bY w' B v ([]) ∧ Below B w w' := by
 have HRL : Hid ((bS (tol l n)).length = m) := af (by rw [ca, b9, hs])
 have HRD := af hl
 have HM := af hs
 have HX := af (show m ≤ maxLen by have : hd n ≤ 2 := (by unfold hd; omega); rw [hs]; unfold maxLen; omega)
 have HBL := af (Nat.le_of_eq HB.out)
 have HSIZ := af (fv h1 h32)
 have HTL := af (b9 l n)
 have HN0 : Hid ((((hd n + n : Nat) : Int) == 0) = false) := af (by simp; omega)
 have HN1 : Hid (decide ((m : Int) < ((hd n + n : Nat) : Int)) = false) := af (decide_eq_false (by omega))
 have HN2 : Hid (decide (((hd n + n : Nat) : Int) < (m : Int)) = false) := af (decide_eq_false (by omega))
 clear hl hs
 go_enter Tryz.func93, Tryz.ntmps93
 go_upto_region 1 with fail
 refine ag ?_
 refine ai rfl (aj rfl (ev rfl)) ?_;simp only [aa]
 refine ar rfl (av Tryz.call121 rfl (evc (ev rfl) evn)) ?_
 refine (psize n w).mono ?_
 rintro e w' ⟨rfl, rfl⟩
 rw [HSIZ.out]
 refine ⟨_, rfl, ?_⟩
 simp only [aa]
 refine ai rfl (aq rfl (ev rfl)) ?_;simp only [aa]
 refine ah ?_
 go_upto_region 2 with fail
 refine ag ?_
 refine ai rfl (aj rfl (ev rfl)) ?_;simp only [aa]
 refine ai (v := .bool false) rfl (aP false rfl (ev rfl) evk HN0.out) ?_;simp only [aa]
 refine ai (v := .bool false) rfl (aq rfl (ev rfl)) ?_;simp only [aa]
 refine ah ?_
 go_upto_region 4 with fail
 refine ag ?_
 refine ai rfl (aj rfl (ev rfl)) ?_;simp only [aa]
 refine ai rfl (ep rfl (ev rfl)) ?_;simp only [aa]
 refine ai rfl (aj rfl (ev rfl)) ?_;simp only [aa]
 refine ai (v := .bool false) rfl (aZ false rfl (ev rfl) (ev rfl) HN1.out) ?_;simp only [aa]
 refine ai (v := .bool false) rfl (aq rfl (ev rfl)) ?_;simp only [aa]
 refine ah ?_
 go_upto_region 6 with fail
 refine ag ?_
 refine ai rfl (aj rfl (ev rfl)) ?_;simp only [aa]
 refine ai rfl (ep rfl (ev rfl)) ?_;simp only [aa]
 refine ai rfl (aj rfl (ev rfl)) ?_;simp only [aa]
 refine ai (v := .bool false) rfl (bp false rfl (ev rfl) (ev rfl) HN2.out) ?_;simp only [aa]
 refine ai (v := .bool false) rfl (aq rfl (ev rfl)) ?_;simp only [aa]
 refine ah ?_
 go_upto_region 8 with fail
 refine ag ?_
 refine ai rfl (aj rfl (ev rfl)) ?_;simp only [aa]
 refine ai rfl (aj rfl (ev rfl)) ?_;simp only [aa]
 refine ar rfl (av Tryz.call133 rfl (evc (ev rfl) (evc (ev rfl) evn))) ?_
 refine (pctold b off m c N B l n w HB HRD.out hN h1 h32 HM.out hm).mono ?_
 rintro e w1 ⟨v, rfl, hmd, hb1⟩
 have HMD := af hmd
 have HB1 := af hb1
 obtain ⟨A1, c1, rfl, hr1, hc1, hc2⟩ := hmd.open_ HTL.out
 have HR1 := af hr1
 clear hmd hb1 hr1
 refine ⟨_, rfl, ?_⟩
 simp only [aa]
 refine ai rfl (aq rfl (ev rfl)) ?_;simp only [aa]
 refine ah ?_
 go_upto_region 9 with fail
 refine ag ?_
 refine ai rfl (aj rfl (ev rfl)) ?_;simp only [aa]
 refine ar rfl (av Tryz.call115 rfl (evc (ev rfl) (evc rfl evn))) ?_
 refine (fQ A1 n c1 (tol l n) w1 HR1.out (by unfold maxLen; omega)).mono ?_
 rintro e w2 ⟨rfl, hb2⟩
 rw [HQ.out]
 have HB2 := af (HB1.out.trans (hb2.mono (Nat.le_trans HBL.out HB1.out.size)))
 have HMD2 := af (hmd2 HMD.out hb2)
 have HR2 := af (HR1.out.step hb2)
 clear hb2 HMD HR1
 refine ⟨_, rfl, ?_⟩
 simp only [aa]
 refine ai (v := .bool false) rfl (aj rfl (ev rfl)) ?_;simp only [aa]
 refine al gr (aj rfl (ev rfl)) ?_;simp only [aa]
 refine ar gr (av Tryz.call117 rfl (evc (ev rfl) evn)) ?_
 refine (pclaid A1 n c1 w2.heap.size w2.heap.size (tol l n) w2 (af rfl) HR2.out (Nat.le_refl _) h1 h32 HQ.out).mono ?_
 rintro e w3 ⟨v3, rfl, hm3, hb3⟩
 obtain ⟨A3, c3, rfl, hr3, hc3, hc4⟩ := hm3.open_ HRL.out
 have HR3 := af hr3
 have HB3 := af (HB2.out.trans (hb3.mono (Nat.le_trans HBL.out HB2.out.size)))
 have HMD3 := af (hmd2 HMD2.out hb3)
 clear hm3 hr3 hb3 HMD2 HR2
 refine ⟨_, rfl, ?_⟩
 simp only [aa]
 refine al gr (aj rfl (ev rfl)) ?_;simp only [aa]
 refine ar gr (av Tryz.call134 rfl (evc (ev rfl) (evc (ev rfl) evn))) ?_
 refine (pequal A3 (some ⟨b, off, none⟩) m m c3 c w3.heap.size (bS (tol l n)) l w3 HR3.out ((HRD.out.below (HB3.out.mono hN)).more (Nat.le_trans hN (Nat.le_trans HBL.out HB3.out.size))) (Nat.le_refl _) HX.out).mono ?_
 rintro e w4 ⟨rfl, hb4⟩
 rw [HEQ.out]
 have HB4 := af (HB3.out.trans (hb4.mono (Nat.le_trans HBL.out HB3.out.size)))
 have HMD4 := af (hmd2 HMD3.out hb4)
 clear hb4 HMD3
 refine ⟨_, rfl, ?_⟩
 simp only [aa]
 refine al (v := .bool true) gr (bf false rfl (ev rfl)) ?_;simp only [aa]
 refine ai (v := .bool true) rfl (aE rfl (ev rfl) (ev rfl)) ?_;simp only [aa]
 refine ah ?_
 go_upto_region 10 with fail
 refine ag ?_
 refine ai rfl (aq rfl evk) ?_;simp only [aa]
 refine ai rfl (aq rfl evk) ?_;simp only [aa]
 refine ah ?_
 go_wp2_with fail
 go_ret2
 exact ⟨_, rfl, aH.nil _ _, HB4.out⟩
set_option maxHeartbeats 4000000 in
theorem pcget_yes (b off m c N B : Nat) (l : List Blk) (n : Nat) (w : World) (HB : Hid (B = w.heap.size)) (hl : RdB w N (some ⟨b, off, none⟩) m l) (hN : N ≤ B) (hm : m ≤ c) (h1 : 1 ≤ n) (h32 : n ≤ 32) (hs : m = hd n + n) (HQ : Hid (badC (tol l n) = false)) (HEQ : Hid (decide (bS (tol l n) = l) = true)) :
  Calls Tryz.prog 93 #[.slice (some ⟨b, off, none⟩) m c, .int .i64 (n : Int)] w fun e w' => ∃ v, e = .returned (.tuple #[v, .int .i64 (0)]) ∧ aH bY w' B v (tol l n) ∧ Below B w w' := by
 have HRL : Hid ((bS (tol l n)).length = m) := af (by rw [ca, b9, hs])
 have HRD := af hl
 have HM := af hs
 have HX := af (show m ≤ maxLen by have : hd n ≤ 2 := (by unfold hd; omega); rw [hs]; unfold maxLen; omega)
 have HBL := af (Nat.le_of_eq HB.out)
 have HSIZ := af (fv h1 h32)
 have HTL := af (b9 l n)
 have HN0 : Hid ((((hd n + n : Nat) : Int) == 0) = false) := af (by simp; omega)
 have HN1 : Hid (decide ((m : Int) < ((hd n + n : Nat) : Int)) = false) := af (decide_eq_false (by omega))
 have HN2 : Hid (decide (((hd n + n : Nat) : Int) < (m : Int)) = false) := af (decide_eq_false (by omega))
 clear hl hs
 go_enter Tryz.func93, Tryz.ntmps93
 go_upto_region 1 with fail
 refine ag ?_
 refine ai rfl (aj rfl (ev rfl)) ?_;simp only [aa]
 refine ar rfl (av Tryz.call121 rfl (evc (ev rfl) evn)) ?_
 refine (psize n w).mono ?_
 rintro e w' ⟨rfl, rfl⟩
 rw [HSIZ.out]
 refine ⟨_, rfl, ?_⟩
 simp only [aa]
 refine ai rfl (aq rfl (ev rfl)) ?_;simp only [aa]
 refine ah ?_
 go_upto_region 2 with fail
 refine ag ?_
 refine ai rfl (aj rfl (ev rfl)) ?_;simp only [aa]
 refine ai (v := .bool false) rfl (aP false rfl (ev rfl) evk HN0.out) ?_;simp only [aa]
 refine ai (v := .bool false) rfl (aq rfl (ev rfl)) ?_;simp only [aa]
 refine ah ?_
 go_upto_region 4 with fail
 refine ag ?_
 refine ai rfl (aj rfl (ev rfl)) ?_;simp only [aa]
 refine ai rfl (ep rfl (ev rfl)) ?_;simp only [aa]
 refine ai rfl (aj rfl (ev rfl)) ?_;simp only [aa]
 refine ai (v := .bool false) rfl (aZ false rfl (ev rfl) (ev rfl) HN1.out) ?_;simp only [aa]
 refine ai (v := .bool false) rfl (aq rfl (ev rfl)) ?_;simp only [aa]
 refine ah ?_
 go_upto_region 6 with fail
 refine ag ?_
 refine ai rfl (aj rfl (ev rfl)) ?_;simp only [aa]
 refine ai rfl (ep rfl (ev rfl)) ?_;simp only [aa]
 refine ai rfl (aj rfl (ev rfl)) ?_;simp only [aa]
 refine ai (v := .bool false) rfl (bp false rfl (ev rfl) (ev rfl) HN2.out) ?_;simp only [aa]
 refine ai (v := .bool false) rfl (aq rfl (ev rfl)) ?_;simp only [aa]
 refine ah ?_
 go_upto_region 8 with fail
 refine ag ?_
 refine ai rfl (aj rfl (ev rfl)) ?_;simp only [aa]
 refine ai rfl (aj rfl (ev rfl)) ?_;simp only [aa]
 refine ar rfl (av Tryz.call133 rfl (evc (ev rfl) (evc (ev rfl) evn))) ?_
 refine (pctold b off m c N B l n w HB HRD.out hN h1 h32 HM.out hm).mono ?_
 rintro e w1 ⟨v, rfl, hmd, hb1⟩
 have HMD := af hmd
 have HB1 := af hb1
 obtain ⟨A1, c1, rfl, hr1, hc1, hc2⟩ := hmd.open_ HTL.out
 have HR1 := af hr1
 clear hmd hb1 hr1
 refine ⟨_, rfl, ?_⟩
 simp only [aa]
 refine ai rfl (aq rfl (ev rfl)) ?_;simp only [aa]
 refine ah ?_
 go_upto_region 9 with fail
 refine ag ?_
 refine ai rfl (aj rfl (ev rfl)) ?_;simp only [aa]
 refine ar rfl (av Tryz.call115 rfl (evc (ev rfl) (evc rfl evn))) ?_
 refine (fQ A1 n c1 (tol l n) w1 HR1.out (by unfold maxLen; omega)).mono ?_
 rintro e w2 ⟨rfl, hb2⟩
 rw [HQ.out]
 have HB2 := af (HB1.out.trans (hb2.mono (Nat.le_trans HBL.out HB1.out.size)))
 have HMD2 := af (hmd2 HMD.out hb2)
 have HR2 := af (HR1.out.step hb2)
 clear hb2 HMD HR1
 refine ⟨_, rfl, ?_⟩
 simp only [aa]
 refine ai (v := .bool false) rfl (aj rfl (ev rfl)) ?_;simp only [aa]
 refine al gr (aj rfl (ev rfl)) ?_;simp only [aa]
 refine ar gr (av Tryz.call117 rfl (evc (ev rfl) evn)) ?_
 refine (pclaid A1 n c1 w2.heap.size w2.heap.size (tol l n) w2 (af rfl) HR2.out (Nat.le_refl _) h1 h32 HQ.out).mono ?_
 rintro e w3 ⟨v3, rfl, hm3, hb3⟩
 obtain ⟨A3, c3, rfl, hr3, hc3, hc4⟩ := hm3.open_ HRL.out
 have HR3 := af hr3
 have HB3 := af (HB2.out.trans (hb3.mono (Nat.le_trans HBL.out HB2.out.size)))
 have HMD3 := af (hmd2 HMD2.out hb3)
 clear hm3 hr3 hb3 HMD2 HR2
 refine ⟨_, rfl, ?_⟩
 simp only [aa]
 refine al gr (aj rfl (ev rfl)) ?_;simp only [aa]
 refine ar gr (av Tryz.call134 rfl (evc (ev rfl) (evc (ev rfl) evn))) ?_
 refine (pequal A3 (some ⟨b, off, none⟩) m m c3 c w3.heap.size (bS (tol l n)) l w3 HR3.out ((HRD.out.below (HB3.out.mono hN)).more (Nat.le_trans hN (Nat.le_trans HBL.out HB3.out.size))) (Nat.le_refl _) HX.out).mono ?_
 rintro e w4 ⟨rfl, hb4⟩
 rw [HEQ.out]
 have HB4 := af (HB3.out.trans (hb4.mono (Nat.le_trans HBL.out HB3.out.size)))
 have HMD4 := af (hmd2 HMD3.out hb4)
 clear hb4 HMD3
 refine ⟨_, rfl, ?_⟩
 simp only [aa]
 refine al (v := .bool false) gr (bf true rfl (ev rfl)) ?_;simp only [aa]
 refine ai (v := .bool false) rfl (aE rfl (ev rfl) (ev rfl)) ?_;simp only [aa]
 refine ah ?_
 go_upto_region 11 with fail
 refine ag ?_
 refine ai rfl (aj rfl (ev rfl)) ?_;simp only [aa]
 refine ai rfl (aq rfl (ev rfl)) ?_;simp only [aa]
 refine ai rfl (aq rfl evk) ?_;simp only [aa]
 refine ah ?_
 go_wp2_with fail
 go_ret2
 exact ⟨_, rfl, HMD4.out, HB4.out⟩
theorem pcget_at (b off m c N B : Nat) (l : List Blk) (n : Nat) (w : World) (HB : Hid (B = w.heap.size)) (hl : RdB w N (some ⟨b, off, none⟩) m l) (hN : N ≤ B) (hm : m ≤ c) (h1 : 1 ≤ n) (h32 : n ≤ 32) (hs : m = hd n + n) :
  Calls Tryz.prog 93 #[.slice (some ⟨b, off, none⟩) m c, .int .i64 (n : Int)] w fun e w' => ∃ v, e = .returned (.tuple #[v, .int .i64 (rgE l (n : Int) : Nat)]) ∧ aH bY w' B v (rgC l (n : Int)) ∧ Below B w w' := by
 have hlen : l.length = hd n + n := by rw [hl.1, hs]
 cases hq : badC (tol l n)
 ·by_cases he : bS (tol l n) = l
  ·have hE := rgE_ok h1 h32 hlen hq he
   have hC := rgC_ok hE
   rw [Int.toNat_natCast] at hC
   rw [hE, hC]
   exact pcget_yes b off m c N B l n w HB hl hN hm h1 h32 hs (af hq) (af (decide_eq_true he))
  ·have hE := rgE_form h1 h32 hlen (.inr he)
   rw [hE, rgC_no (by omega)]
   exact pcget_dif b off m c N B l n w HB hl hN hm h1 h32 hs (af hq) (af (decide_eq_false he))
 ·have hE := rgE_form h1 h32 hlen (.inl hq)
  rw [hE, rgC_no (by omega)]
  exact pcget_bad b off m c N B l n w HB hl hN hm h1 h32 hs (af hq)
theorem pcget (A : Option Addr) (m c N B : Nat) (l : List Blk) (n : Int) (w : World) (HB : Hid (B = w.heap.size)) (hl : RdB w N A m l) (hN : N ≤ B) (hm : m ≤ c) (hx : m ≤ maxLen) :
  Calls Tryz.prog 93 #[.slice A m c, .int .i64 n] w fun e w' => ∃ v, e = .returned (.tuple #[v, .int .i64 (rgE l n : Nat)]) ∧ aH bY w' B v (rgC l n) ∧ Below B w w' := by
 by_cases hno : dZ n = 0 ∨ m ≠ dZ n
 ·exact pcget_no A m c N B l n w HB hl hN hm hx hno
 ·have h0 : dZ n ≠ 0 := fun e => hno (.inl e)
  have h2 : m = dZ n := Classical.byContradiction fun e => hno (.inr e)
  obtain ⟨k, rfl, h3, h4⟩ := of_sizN h0
  rw [fv h3 h4] at h2
  obtain ⟨b, off, rfl, _⟩ := hl.2 0 (by omega)
  exact pcget_at b off m c N B l k w HB hl hN hm h3 h4 h2
theorem rd_rng {w : World} {b o N : Nat} {x : Blk} (h : w.rangeAt b o (cel x)) (hb : b < N) : Rd w N (some ⟨b, o, none⟩) 64 x.toList :=
 ⟨bz x, fun k hk => ⟨b, o, rfl, hb, h k _ (cel_at x hk)⟩⟩
set_option maxHeartbeats 2000000 in
theorem psum (A : Option Addr) (n c N : Nat) (l : List Blk) (w : World) (T : Tab w) (hl : RdB w N A n l) (hn : n ≤ 2199023255552) :
  Calls Tryz.prog 83 #[.slice A n c] w fun e w' => e = .returned (.int .u32 (sumB l : Nat)) ∧ w = w' := by
 have HL := af hl.1
 have HRD := af hl
 have HZ : Hid (more 0 [] = 0) := af (by decide)
 have HZ0 : Hid (sumB (l.take 0) = 0) := af (by rw [List.take_zero]; exact HZ.out)
 have HALL : Hid (sumB (l.take n) = sumB l) := af (by rw [List.take_of_length_le (by rw [hl.1]; exact Nat.le_refl _)])
 clear hl
 go_enter Tryz.func83, Tryz.ntmps83
 go_wp2_with fail
 refine (of_any none 0 0 0 [] w T (Rd.nil _ _ _) (by unfold maxLen; omega)).mono ?_
 rintro e w' ⟨rfl, rfl⟩
 rw [HZ.out]
 go_wp2_with fail
 go_loop [3, 8] (fun x i => ∃ k : Nat, k ≤ n ∧ i = .int .i64 k ∧ x = .int .u32 (sumB (l.take k) : Nat)) (fun _ i => n - (intOf i).toNat)
 case atStart => exact ⟨0, Nat.zero_le _, rfl, by rw [HZ0.out]; rfl⟩
 case round =>
  obtain ⟨k, hk, rfl, rfl⟩ := hrel
  by_cases hlt : k < n
  ·obtain ⟨b, off, rfl, hb, hr⟩ := HRD.out.2 k hlt
   have HR := af (rd_rng hr hb)
   have HT1 : Hid (decide ((k : Int) < (n : Int)) = true) := af (decide_eq_true (by omega))
   have HLT := af hlt
   have HS := af (sumB_lt (l.take k))
   have HNX := af (sumB_succ (l := l) (k := k) (by rw [HL.out]; exact hlt))
   clear hr
   go_upto_region 3 with fail
   refine ag ?_
   refine ai (v := .bool true) rfl (aZ true rfl (ev rfl) (ev rfl) HT1.out) ?_;simp only [aa]
   refine ah ?_
   go_upto_region 4 with fail
   refine ag ?_
   refine ai rfl (aj rfl (ev rfl)) ?_;simp only [aa]
   refine ai rfl (aq rfl (ev rfl)) ?_;simp only [aa]
   refine ah ?_
   go_upto_region 5 with fail
   refine ag ?_
   iterate 3 (refine ai rfl (aj rfl (ev rfl)) ?_;simp only [aa])
   refine ai rfl (dD rfl (ev rfl) (ev rfl) HLT.out) ?_;simp only [aa]
   refine ai rfl (exec_allB rfl (ev rfl)) ?_;simp only [aa]
   refine ar rfl (av Tryz.call119 rfl (evc (ev rfl) (evc (ev rfl) evn))) ?_
   refine (more_any (sumB (l.take k)) _ 64 64 N (l.getD k ap).toList w T HS.out HR.out (by unfold maxLen; omega)).mono ?_
   rintro e w' ⟨rfl, rfl⟩
   rw [← HNX.out]
   refine ⟨_, rfl, ?_⟩
   simp only [aa]
   refine ai rfl (aq rfl (ev rfl)) ?_;simp only [aa]
   refine ah ?_
   go_wp2_with fail
   go_round
   case rel => exact ⟨k + 1, by have := HLT.out; omega, by go_num, rfl⟩
   case measure => simp [intOf]; have := HLT.out; omega
  ·have e : k = n := by omega
   subst e
   rw [HALL.out]
   go_wp2_with fail
   go_ret
   exact ⟨rfl, rfl⟩
set_option maxHeartbeats 2000000 in
theorem rsum (A : Option Addr) (n c N : Nat) (l : List Blk) (w : World) (hl : RdB w N A n l) (hn : n ≤ 2199023255552) :
  Calls Tryz.prog 91 #[.slice A n c] w fun e w' => e = .returned (.int .u32 (sumB l : Nat)) ∧ w = w' := by
 have HL := af hl.1
 have HRD := af hl
 have HZ : Hid (more 0 [] = 0) := af (by decide)
 have HZ0 : Hid (sumB (l.take 0) = 0) := af (by rw [List.take_zero]; exact HZ.out)
 have HALL : Hid (sumB (l.take n) = sumB l) := af (by rw [List.take_of_length_le (by rw [hl.1]; exact Nat.le_refl _)])
 clear hl
 go_enter Tryz.func91, Tryz.ntmps91
 go_wp2_with fail
 go_loop [3, 4] (fun x i => ∃ k : Nat, k ≤ n ∧ i = .int .i64 k ∧ x = .int .u32 (sumB (l.take k) : Nat)) (fun _ i => n - (intOf i).toNat)
 case atStart => exact ⟨0, Nat.zero_le _, rfl, by rw [HZ0.out]; rfl⟩
 case round =>
  obtain ⟨k, hk, rfl, rfl⟩ := hrel
  by_cases hlt : k < n
  ·obtain ⟨b, off, rfl, hb, hr⟩ := HRD.out.2 k hlt
   have HR := af (rd_rng hr hb)
   have HT1 : Hid (decide ((k : Int) < (n : Int)) = true) := af (decide_eq_true (by omega))
   have HLT := af hlt
   have HS := af (sumB_lt (l.take k))
   have HNX := af (sumB_succ (l := l) (k := k) (by rw [HL.out]; exact hlt))
   clear hr
   go_upto_region 3 with fail
   refine ag ?_
   refine ai rfl (aj rfl (ev rfl)) ?_;simp only [aa]
   refine ai rfl (aj rfl (ev rfl)) ?_;simp only [aa]
   refine ai rfl (ep rfl (ev rfl)) ?_;simp only [aa]
   refine ai (v := .bool true) rfl (aZ true rfl (ev rfl) (ev rfl) HT1.out) ?_;simp only [aa]
   refine ah ?_
   go_upto_region 5 with fail
   refine ag ?_
   iterate 3 (refine ai rfl (aj rfl (ev rfl)) ?_;simp only [aa])
   refine ai rfl (dD rfl (ev rfl) (ev rfl) HLT.out) ?_;simp only [aa]
   refine ai rfl (exec_allB rfl (ev rfl)) ?_;simp only [aa]
   refine ar rfl (av Tryz.call132 rfl (evc (ev rfl) (evc (ev rfl) evn))) ?_
   refine (refMore_any (sumB (l.take k)) _ 64 64 N (l.getD k ap).toList w HS.out HR.out (by unfold maxLen; omega)).mono ?_
   rintro e w' ⟨rfl, rfl⟩
   rw [← HNX.out]
   refine ⟨_, rfl, ?_⟩
   simp only [aa]
   refine ai rfl (aq rfl (ev rfl)) ?_;simp only [aa]
   refine ah ?_
   go_wp2_with fail
   go_round
   case rel => exact ⟨k + 1, by have := HLT.out; omega, by go_num, rfl⟩
   case measure => simp [intOf]; have := HLT.out; omega
  ·have e : k = n := by omega
   subst e
   rw [HALL.out]
   go_wp2_with fail
   go_ret
   exact ⟨rfl, rfl⟩
end Go.Proofs.YtbbcdhkinbmdnaaGreatDoor
