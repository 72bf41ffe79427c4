import Derived.Test.YtcafafdimcecpaaGreatDoorLcau
import Derived.Test.YtcafafdimcecpaaGreatDoorLcah
import Derived.Deep.DeepCutAuto
import Derived.Test.YtcafafdimcecpaaGreatDoorLcan
import Derived.Test.YtcafafdimcecpaaGreatDoorLcZ
namespace Go.Proofs.YtcafafdimcecpaaGreatDoor
open Go.RowKit
set_option linter.unusedVariables false
set_option linter.unusedSimpArgs false
set_option maxRecDepth 100000
theorem tail_at (b off c k : Nat) (h : k < c) : tailAt (some ⟨b, off, none⟩) c k = some ⟨b, off + k * 64, none⟩ := by
  unfold tailAt
  rw [if_neg (by omega)]
  simp [Addr.add_mid]
set_option maxHeartbeats 4000000 in
theorem pctold (b off m c N B : Nat) (l : List Blk) (n : Nat) (w : World) (HB : Hid (B = w.heap.size)) (hl : RdB w N (some ⟨b, off, none⟩) m l) (hN : N ≤ B) (h1 : 1 ≤ n) (h32 : n ≤ 32) (hm : m = hd n + n) (hc : m ≤ c) :
    Calls Tryz.prog 137 #[.slice (some ⟨b, off, none⟩) m c, .int .i64 (n : Int)] w fun e w' => ∃ v, e = .returned v ∧ aA bn w' B v (tol l n) ∧ Below B w w' := by
  have hlen : l.length = hd n + n := by rw [hl.1, hm]
  have HM := Lib.hid hm
  have HHD := Lib.hid (show hd n ≤ 2 ∧ n ≤ 16 * hd n by unfold hd; omega)
  have HBY : Hid (∀ w' : World, Below B w w' → Rd w' N (some ⟨b, off, none⟩) (64 * m) (cT l)) := Lib.hid fun w' hb => (hl.below (hb.mono hN)).cT
  have HRG : Hid (∀ (w' : World) (k : Nat), Below B w w' → k < n → w'.rangeAt b (off + hd n * 64 + k * 64) (cel (l.getD (hd n + k) al))) := Lib.hid fun w' k hb hk => by
    obtain ⟨b', off', e, _, hr⟩ := (hl.below (hb.mono hN)).2 (hd n + k) (by omega)
    injection e with e
    injection e with e1 e2
    subst e1 e2
    rwa [show off + (hd n + k) * 64 = off + hd n * 64 + k * 64 by omega] at hr
  have HLE := Lib.hid (Nat.le_of_eq HB.out)
  have HR0 := Lib.hid (cells_made w n B (Nat.le_of_eq HB.out) (by omega))
  have HB0 := Lib.hid ((Below.refl B w).alloc (Nat.le_of_eq HB.out) (.cells (madeCells bn.z.cells (n * bn.n)) bn.t))
  have HTL := Lib.hid (dN l n)
  have HTA : Hid (∀ k, k < n → (tol l n).getD k cf = ⟨val 8 (piece (cT l) (4 * k) 2), val 8 (piece (cT l) (4 * k + 2) 1), l.getD (hd n + k) al⟩) := Lib.hid fun k hk => tol_at hk
  have HZ := Lib.hid (tlK_zero (tol l n))
  have HALL := Lib.hid (tlK_all (tol l n))
  have HTT := Lib.hid (tail_at b off c (hd n) (by omega))
  have HGB := Lib.hid (show B ≤ w.heap.size from Nat.le_of_eq HB.out)
  clear hl hm hlen
  rw [HTL.out] at HZ HALL
  generalize tol l n = T at *
  go_enter Tryz.func137, Tryz.ntmps137
  go_upto_region 1 with fail
  refine wp_region_lit ?_
  refine ag rfl (ah rfl (ev rfl)) ?_
  simp only [Act.put, aa, ae, af]
  refine ag rfl (exec_makeE (E := bn) rfl (ev rfl) (ev rfl) (by omega)) ?_
  simp only [Act.put, aa, ae, af]
  generalize w.alloc (.cells (madeCells bn.z.cells (n * bn.n)) bn.t) = w1 at *
  generalize hg : w.heap.size = g at HR0 ⊢
  have HG := Lib.hid hg
  clear hg
  refine ag rfl (aq rfl (ev rfl)) ?_
  simp only [Act.put, aa, ae, af]
  refine wpList_nil ?_
  go_upto_region 2 with fail
  refine wp_region_lit ?_
  refine ag rfl (ah rfl (ev rfl)) ?_
  simp only [Act.put, aa, ae, af]
  refine ag rfl (ah rfl (ev rfl)) ?_
  simp only [Act.put, aa, ae, af]
  refine ao rfl (au Tryz.call161 rfl (evc (ev rfl) evn)) ?_
  refine (pheads n w1 (by omega)).mono ?_
  rintro e w' ⟨rfl, rfl⟩
  refine ⟨_, rfl, ?_⟩
  simp only [Act.put, aa, ae, af]
  refine ag rfl (exec_tail rfl (ev rfl) (ev rfl) (by have := HM.out; omega)) ?_
  simp only [Act.put, aa, ae, af]
  refine ag rfl (aq rfl (ev rfl)) ?_
  simp only [Act.put, aa, ae, af]
  refine wpList_nil ?_
  rw [HTT.out]
  have HMN := Lib.hid (show m - hd n = n by have := HM.out; omega)
  rw [HMN.out]
  go_wp2_with fail
  go_loopw [17] (fun i wr => ∃ k : Nat, k ≤ n ∧ i = .int .i64 k ∧ aA bn wr B (.slice (some ⟨g, 0, none⟩) n n) (tlK T k) ∧ Below B w wr) (fun i _ => n - (intOf i).toNat)
  case atStart => exact ⟨0, Nat.zero_le _, rfl, by rw [HZ.out]; exact HR0.out, HB0.out⟩
  case round =>
    clear HR0 HB0 HZ
    obtain ⟨k, hk, rfl, hrow, hbl⟩ := hrel
    have HROW := Lib.hid hrow
    have HBL := Lib.hid hbl
    clear hrow hbl
    by_cases hlt : k < n
    · have hkT : k < T.length := by rw [HTL.out]; exact hlt
      have HLT := Lib.hid hlt
      have HNX := Lib.hid (tlK_set hkT)
      rw [HTA.out k hlt] at HNX
      have HAT := Lib.hid (tlK_at hkT)
      have HTN := Lib.hid (show k < (tlK T k).length by rw [tlK_len hkT]; exact hkT)
      have HP1 : Hid (∀ w' : World, Below B w w' → Rd w' N (some ⟨b, off + 4 * k, none⟩) 2 (piece (cT l) (4 * k) 2)) := Lib.hid fun w' hb => (HBY.out w' hb).sub (by have := HM.out; have := HHD.out; omega)
      have HP2 : Hid (∀ w' : World, Below B w w' → Rd w' N (some ⟨b, off + 4 * k + 2, none⟩) 1 (piece (cT l) (4 * k + 2) 1)) := Lib.hid fun w' hb => (HBY.out w' hb).sub (p := 4 * k + 2) (by have := HM.out; have := HHD.out; omega)
      clear hkT
      go_upto_region 5 with fail
      refine wp_region_lit ?_
      refine ag rfl (ah rfl (ev rfl)) ?_
      simp only [Act.put, aa, ae, af]
      refine ag rfl (aq rfl (ev rfl)) ?_
      simp only [Act.put, aa, ae, af]
      refine wpList_nil ?_
      go_upto_region 6 with fail
      refine wp_region_lit ?_
      refine ag rfl (ah rfl (ev rfl)) ?_
      simp only [Act.put, aa, ae, af]
      refine ag rfl (ah rfl (ev rfl)) ?_
      simp only [Act.put, aa, ae, af]
      refine ao rfl (au Tryz.call167 rfl (evc (ev rfl) (evc (ev rfl) evn))) ?_
      refine (pplace b off m c k wr (by have := HM.out; have := HLT.out; omega) (by have := HLT.out; omega)).mono ?_
      rintro e w3 ⟨rfl, rfl⟩
      refine ⟨_, rfl, ?_⟩
      simp only [Act.put, aa, ae, af]
      refine ag rfl (aq rfl (ev rfl)) ?_
      simp only [Act.put, aa, ae, af]
      refine wpList_nil ?_
      go_upto_region 7 with fail
      refine wp_region_lit ?_
      refine ag rfl (ah rfl (ev rfl)) ?_
      simp only [Act.put, aa, ae, af]
      refine ag rfl (ah rfl (ev rfl)) ?_
      simp only [Act.put, aa, ae, af]
      refine ag rfl (ah rfl (ev rfl)) ?_
      simp only [Act.put, aa, ae, af]
      refine ag rfl (exec_cutH 2 rfl (ev rfl) evk (by omega)) ?_
      simp only [Act.put, aa, ae, af]
      refine ao rfl (au Tryz.call179 rfl (evc (ev rfl) evn)) ?_
      refine (ptell _ 2 _ _ _ wr (HP1.out _ HBL.out) (by omega) (by omega)).mono ?_
      rintro e w3 ⟨rfl, rfl⟩
      refine ⟨_, rfl, ?_⟩
      simp only [Act.put, aa, ae, af]
      refine ag rfl (exec_indexC rfl (ev rfl) (ev rfl) HLT.out) ?_
      simp only [Act.put, aa, ae, af]
      refine ag rfl (ak rfl (ev rfl) faC0) ?_
      simp only [Act.put, aa, ae, af]
      refine ag rfl (ak rfl (ev rfl) faPl0) ?_
      simp only [Act.put, aa, ae, af]
      refine aB rfl (exec_stInt rfl (ev rfl) (ev rfl) (HROW.out.cl_there HLT.out (j := 0) (by omega))) ?_
      simp only [Act.put, aa, ae, af]
      have HR2 := Lib.hid (HROW.out.cl_s HLT.out HAT.out (val 8 (piece (cT l) (4 * k) 2) : Nat))
      have HB2 := Lib.hid (below_setCells HBL.out (by have := HG.out; have := HGB.out; omega : B ≤ g) (o := k * 66) [.int .i64 (val 8 (piece (cT l) (4 * k) 2) : Nat)])
      generalize wr.setCells g (k * 66) [.int .i64 ((val 8 (piece (cT l) (4 * k) 2) : Nat) : Int)] = w4 at *
      clear HROW HBL
      refine wpList_nil ?_
      go_upto_region 8 with fail
      refine wp_region_lit ?_
      refine ag rfl (ah rfl (ev rfl)) ?_
      simp only [Act.put, aa, ae, af]
      refine ag rfl (ah rfl (ev rfl)) ?_
      simp only [Act.put, aa, ae, af]
      refine ag rfl (ah rfl (ev rfl)) ?_
      simp only [Act.put, aa, ae, af]
      refine ag rfl (exec_cutM 2 3 rfl (ev rfl) evk evk (by omega) (by omega) (by omega)) ?_
      simp only [Act.put, aa, ae, af]
      refine ao rfl (au Tryz.call179 rfl (evc (ev rfl) evn)) ?_
      refine (ptell _ 1 _ _ _ w4 (HP2.out _ HB2.out) (by omega) (by omega)).mono ?_
      rintro e w3 ⟨rfl, rfl⟩
      refine ⟨_, rfl, ?_⟩
      simp only [Act.put, aa, ae, af]
      refine ag rfl (exec_indexC rfl (ev rfl) (ev rfl) HLT.out) ?_
      simp only [Act.put, aa, ae, af]
      refine ag rfl (ak rfl (ev rfl) faC0) ?_
      simp only [Act.put, aa, ae, af]
      refine ag rfl (ak rfl (ev rfl) faPl1) ?_
      simp only [Act.put, aa, ae, af]
      refine aB rfl (exec_stInt rfl (ev rfl) (ev rfl) (HR2.out.cl_there HLT.out (j := 1) (by omega))) ?_
      simp only [Act.put, aa, ae, af]
      have HR3 := Lib.hid (HR2.out.cl_m HLT.out (set_at HTN.out _) (val 8 (piece (cT l) (4 * k + 2) 1) : Nat))
      rw [List.set_set] at HR3
      have HB3 := Lib.hid (below_setCells HB2.out (by have := HG.out; have := HGB.out; omega : B ≤ g) (o := k * 66 + 1) [.int .i64 (val 8 (piece (cT l) (4 * k + 2) 1) : Nat)])
      generalize w4.setCells g (k * 66 + 1) [.int .i64 ((val 8 (piece (cT l) (4 * k + 2) 1) : Nat) : Int)] = w5 at *
      clear HR2 HB2
      refine wpList_nil ?_
      go_upto_region 9 with fail
      refine wp_region_lit ?_
      refine ag rfl (ah rfl (ev rfl)) ?_
      simp only [Act.put, aa, ae, af]
      refine ag rfl (ah rfl (ev rfl)) ?_
      simp only [Act.put, aa, ae, af]
      refine ag rfl (ah rfl (ev rfl)) ?_
      simp only [Act.put, aa, ae, af]
      refine ag rfl (ah rfl (ev rfl)) ?_
      simp only [Act.put, aa, ae, af]
      refine ag rfl (dz rfl (ev rfl) (ev rfl) HLT.out) ?_
      simp only [Act.put, aa, ae, af]
      refine ag rfl (aJ rfl (ev rfl) (HRG.out w5 k HB3.out HLT.out)) ?_
      simp only [Act.put, aa, ae, af]
      refine ag rfl (exec_indexC rfl (ev rfl) (ev rfl) HLT.out) ?_
      simp only [Act.put, aa, ae, af]
      refine ag rfl (ak rfl (ev rfl) faC1) ?_
      simp only [Act.put, aa, ae, af]
      refine aB rfl (aH rfl (ev rfl) (ev rfl) (HR3.out.cl_there HLT.out (j := 2) (by omega))) ?_
      simp only [Act.put, aa, ae, af]
      have HR4 := Lib.hid (HR3.out.cl_b HLT.out (set_at HTN.out _) (l.getD (hd n + k) al))
      rw [List.set_set, HNX.out] at HR4
      have HB4 := Lib.hid (below_setCells HB3.out (by have := HG.out; have := HGB.out; omega : B ≤ g) (o := k * 66 + 2) (cel (l.getD (hd n + k) al)))
      generalize w5.setCells g (k * 66 + 2) (cel (l.getD (hd n + k) al)) = w6 at *
      clear HR3 HB3
      refine wpList_nil ?_
      go_wp2_with fail
      go_roundw
      case rel => exact ⟨k + 1, by omega, by go_num, HR4.out, HB4.out⟩
      case measure => simp [intOf]; omega
    · have e : k = n := by omega
      subst e
      rw [HALL.out] at HROW
      go_wp2_with fail
      go_ret
      exact ⟨_, rfl, HROW.out, HBL.out⟩
theorem eP (w : World) (cs : List Value) (t : TypeId) : (w.alloc (.cells cs.toArray t)).rangeAt w.heap.size 0 cs := b7 w cs t
set_option maxHeartbeats 1000000 in
theorem pstr_0 {c : Cl} (h0 : decide (c.s < 0) = true) (w : World) : Calls Tryz.prog 121 #[clV c] w fun e w' => e = .returned (.bool true) ∧ Below w.heap.size w w' := by
  have H0 := Lib.hid h0
  clear h0
  have HR := Lib.hid (eP w (cp c) 104)
  have HB := Lib.hid ((Below.refl w.heap.size w).alloc (Nat.le_refl _) (.cells (cp c).toArray 104))
  go_enter Tryz.func121, Tryz.ntmps121
  go_upto_region 1 with (first | (refine ag rfl (exec_boxC rfl rfl) ?_) | fail)
  generalize w.alloc (.cells (cp c).toArray 104) = w1 at *
  refine wp_region_lit ?_
  refine ag rfl (ak rfl (ev rfl) faC0) ?_
  simp only [Act.put, aa, ae, af]
  refine ag rfl (fd rfl (ev rfl) (cl_place HR.out)) ?_
  simp only [Act.put, aa, ae, af]
  refine ag rfl (ew rfl) ?_
  simp only [Act.put, aa, ae, af]
  refine aB rfl (eZ rfl (ev rfl) (ev rfl)) ?_
  simp only [Act.put, aa, ae, af]
  have HP := Lib.hid (pl_cells (eP w1 (celP c.s c.m) 102))
  have HB2 := Lib.hid (HB.out.alloc HB.out.size (.cells (celP c.s c.m).toArray 102))
  generalize w1.alloc (.cells (celP c.s c.m).toArray 102) = w2 at *
  generalize w1.heap.size = g at *
  clear HR HB
  refine wpList_nil ?_
  go_upto_region 2 with fail
  refine wp_region_lit ?_
  refine ag rfl (ak rfl (ev rfl) faPl0) ?_
  simp only [Act.put, aa, ae, af]
  refine ag rfl (av rfl (ev rfl) (bW HP.out.1)) ?_
  simp only [Act.put, aa, ae, af]
  refine ag (v := .bool true) rfl (br true rfl (ev rfl) evk H0.out) ?_
  simp only [Act.put, aa, ae, af]
  refine aO 3 (v := .bool true) rfl (ah rfl (ev rfl)) (by kernel_rfl) ?_
  simp only [bc, List.take_succ_cons, List.take_zero, List.drop_succ_cons, List.drop_zero, Act.put, List.setIfInBounds_toArray, List.set_cons_succ, List.set_cons_zero]
  refine ag (v := .bool true) rfl (aM rfl (ev rfl) evk) ?_
  simp only [Act.put, aa, ae, af]
  refine aO 3 (v := .bool true) rfl (ah rfl (ev rfl)) (by kernel_rfl) ?_
  simp only [bc, List.take_succ_cons, List.take_zero, List.drop_succ_cons, List.drop_zero, Act.put, List.setIfInBounds_toArray, List.set_cons_succ, List.set_cons_zero]
  refine ag (v := .bool true) rfl (aM rfl (ev rfl) evk) ?_
  simp only [Act.put, aa, ae, af]
  refine aO 3 (v := .bool true) rfl (ah rfl (ev rfl)) (by kernel_rfl) ?_
  simp only [bc, List.take_succ_cons, List.take_zero, List.drop_succ_cons, List.drop_zero, Act.put, List.setIfInBounds_toArray, List.set_cons_succ, List.set_cons_zero]
  refine ag (v := .bool true) rfl (aM rfl (ev rfl) evk) ?_
  simp only [Act.put, aa, ae, af]
  refine ag (v := .bool true) rfl (aq rfl (ev rfl)) ?_
  simp only [Act.put, aa, ae, af]
  refine wpList_nil ?_
  go_wp2_with fail
  go_ret
  exact ⟨rfl, HB2.out⟩
set_option maxHeartbeats 1000000 in
theorem pstr_1 {c : Cl} (h0 : decide (c.s < 0) = false) (h1 : decide (64 ≤ c.s) = true) (w : World) : Calls Tryz.prog 121 #[clV c] w fun e w' => e = .returned (.bool true) ∧ Below w.heap.size w w' := by
  have H0 := Lib.hid h0
  have H1 := Lib.hid h1
  clear h0 h1
  have HR := Lib.hid (eP w (cp c) 104)
  have HB := Lib.hid ((Below.refl w.heap.size w).alloc (Nat.le_refl _) (.cells (cp c).toArray 104))
  go_enter Tryz.func121, Tryz.ntmps121
  go_upto_region 1 with (first | (refine ag rfl (exec_boxC rfl rfl) ?_) | fail)
  generalize w.alloc (.cells (cp c).toArray 104) = w1 at *
  refine wp_region_lit ?_
  refine ag rfl (ak rfl (ev rfl) faC0) ?_
  simp only [Act.put, aa, ae, af]
  refine ag rfl (fd rfl (ev rfl) (cl_place HR.out)) ?_
  simp only [Act.put, aa, ae, af]
  refine ag rfl (ew rfl) ?_
  simp only [Act.put, aa, ae, af]
  refine aB rfl (eZ rfl (ev rfl) (ev rfl)) ?_
  simp only [Act.put, aa, ae, af]
  have HP := Lib.hid (pl_cells (eP w1 (celP c.s c.m) 102))
  have HB2 := Lib.hid (HB.out.alloc HB.out.size (.cells (celP c.s c.m).toArray 102))
  generalize w1.alloc (.cells (celP c.s c.m).toArray 102) = w2 at *
  generalize w1.heap.size = g at *
  clear HR HB
  refine wpList_nil ?_
  go_upto_region 2 with fail
  refine wp_region_lit ?_
  refine ag rfl (ak rfl (ev rfl) faPl0) ?_
  simp only [Act.put, aa, ae, af]
  refine ag rfl (av rfl (ev rfl) (bW HP.out.1)) ?_
  simp only [Act.put, aa, ae, af]
  refine ag (v := .bool false) rfl (br false rfl (ev rfl) evk H0.out) ?_
  simp only [Act.put, aa, ae, af]
  refine ag (v := .bool false) rfl (ah rfl (ev rfl)) ?_
  simp only [Act.put, aa, ae, af]
  refine ai (aj rfl rfl rfl rfl) (ak rfl (ev rfl) faPl0) ?_
  simp only [Act.put, aa, ae, af]
  refine ai (aj rfl rfl rfl rfl) (av rfl (ev rfl) (bW HP.out.1)) ?_
  simp only [Act.put, aa, ae, af]
  refine ai (v := .bool true) (aj rfl rfl rfl rfl) (fc true rfl (ev rfl) evk H1.out) ?_
  simp only [Act.put, aa, ae, af]
  refine ag (v := .bool true) rfl (aN rfl (ev rfl) (ev rfl)) ?_
  simp only [Act.put, aa, ae, af]
  refine aO 3 (v := .bool true) rfl (ah rfl (ev rfl)) (by kernel_rfl) ?_
  simp only [bc, List.take_succ_cons, List.take_zero, List.drop_succ_cons, List.drop_zero, Act.put, List.setIfInBounds_toArray, List.set_cons_succ, List.set_cons_zero]
  refine ag (v := .bool true) rfl (aM rfl (ev rfl) evk) ?_
  simp only [Act.put, aa, ae, af]
  refine aO 3 (v := .bool true) rfl (ah rfl (ev rfl)) (by kernel_rfl) ?_
  simp only [bc, List.take_succ_cons, List.take_zero, List.drop_succ_cons, List.drop_zero, Act.put, List.setIfInBounds_toArray, List.set_cons_succ, List.set_cons_zero]
  refine ag (v := .bool true) rfl (aM rfl (ev rfl) evk) ?_
  simp only [Act.put, aa, ae, af]
  refine ag (v := .bool true) rfl (aq rfl (ev rfl)) ?_
  simp only [Act.put, aa, ae, af]
  refine wpList_nil ?_
  go_wp2_with fail
  go_ret
  exact ⟨rfl, HB2.out⟩
set_option maxHeartbeats 1000000 in
theorem pstr_2 {c : Cl} (h0 : decide (c.s < 0) = false) (h1 : decide (64 ≤ c.s) = false) (h2 : decide (c.m < 0) = true) (w : World) : Calls Tryz.prog 121 #[clV c] w fun e w' => e = .returned (.bool true) ∧ Below w.heap.size w w' := by
  have H0 := Lib.hid h0
  have H1 := Lib.hid h1
  have H2 := Lib.hid h2
  clear h0 h1 h2
  have HR := Lib.hid (eP w (cp c) 104)
  have HB := Lib.hid ((Below.refl w.heap.size w).alloc (Nat.le_refl _) (.cells (cp c).toArray 104))
  go_enter Tryz.func121, Tryz.ntmps121
  go_upto_region 1 with (first | (refine ag rfl (exec_boxC rfl rfl) ?_) | fail)
  generalize w.alloc (.cells (cp c).toArray 104) = w1 at *
  refine wp_region_lit ?_
  refine ag rfl (ak rfl (ev rfl) faC0) ?_
  simp only [Act.put, aa, ae, af]
  refine ag rfl (fd rfl (ev rfl) (cl_place HR.out)) ?_
  simp only [Act.put, aa, ae, af]
  refine ag rfl (ew rfl) ?_
  simp only [Act.put, aa, ae, af]
  refine aB rfl (eZ rfl (ev rfl) (ev rfl)) ?_
  simp only [Act.put, aa, ae, af]
  have HP := Lib.hid (pl_cells (eP w1 (celP c.s c.m) 102))
  have HB2 := Lib.hid (HB.out.alloc HB.out.size (.cells (celP c.s c.m).toArray 102))
  generalize w1.alloc (.cells (celP c.s c.m).toArray 102) = w2 at *
  generalize w1.heap.size = g at *
  clear HR HB
  refine wpList_nil ?_
  go_upto_region 2 with fail
  refine wp_region_lit ?_
  refine ag rfl (ak rfl (ev rfl) faPl0) ?_
  simp only [Act.put, aa, ae, af]
  refine ag rfl (av rfl (ev rfl) (bW HP.out.1)) ?_
  simp only [Act.put, aa, ae, af]
  refine ag (v := .bool false) rfl (br false rfl (ev rfl) evk H0.out) ?_
  simp only [Act.put, aa, ae, af]
  refine ag (v := .bool false) rfl (ah rfl (ev rfl)) ?_
  simp only [Act.put, aa, ae, af]
  refine ai (aj rfl rfl rfl rfl) (ak rfl (ev rfl) faPl0) ?_
  simp only [Act.put, aa, ae, af]
  refine ai (aj rfl rfl rfl rfl) (av rfl (ev rfl) (bW HP.out.1)) ?_
  simp only [Act.put, aa, ae, af]
  refine ai (v := .bool false) (aj rfl rfl rfl rfl) (fc false rfl (ev rfl) evk H1.out) ?_
  simp only [Act.put, aa, ae, af]
  refine ag (v := .bool false) rfl (aN rfl (ev rfl) (ev rfl)) ?_
  simp only [Act.put, aa, ae, af]
  refine ag (v := .bool false) rfl (ah rfl (ev rfl)) ?_
  simp only [Act.put, aa, ae, af]
  refine ai (aj rfl rfl rfl rfl) (ak rfl (ev rfl) faPl1) ?_
  simp only [Act.put, aa, ae, af]
  refine ai (aj rfl rfl rfl rfl) (av rfl (ev rfl) (bW HP.out.2)) ?_
  simp only [Act.put, aa, ae, af]
  refine ai (v := .bool true) (aj rfl rfl rfl rfl) (br true rfl (ev rfl) evk H2.out) ?_
  simp only [Act.put, aa, ae, af]
  refine ag (v := .bool true) rfl (aN rfl (ev rfl) (ev rfl)) ?_
  simp only [Act.put, aa, ae, af]
  refine aO 3 (v := .bool true) rfl (ah rfl (ev rfl)) (by kernel_rfl) ?_
  simp only [bc, List.take_succ_cons, List.take_zero, List.drop_succ_cons, List.drop_zero, Act.put, List.setIfInBounds_toArray, List.set_cons_succ, List.set_cons_zero]
  refine ag (v := .bool true) rfl (aM rfl (ev rfl) evk) ?_
  simp only [Act.put, aa, ae, af]
  refine ag (v := .bool true) rfl (aq rfl (ev rfl)) ?_
  simp only [Act.put, aa, ae, af]
  refine wpList_nil ?_
  go_wp2_with fail
  go_ret
  exact ⟨rfl, HB2.out⟩
set_option maxHeartbeats 1000000 in
theorem pstr_3 {c : Cl} (h0 : decide (c.s < 0) = false) (h1 : decide (64 ≤ c.s) = false) (h2 : decide (c.m < 0) = false) (h3 : decide (16 ≤ c.m) = true) (w : World) : Calls Tryz.prog 121 #[clV c] w fun e w' => e = .returned (.bool true) ∧ Below w.heap.size w w' := by
  have H0 := Lib.hid h0
  have H1 := Lib.hid h1
  have H2 := Lib.hid h2
  have H3 := Lib.hid h3
  clear h0 h1 h2 h3
  have HR := Lib.hid (eP w (cp c) 104)
  have HB := Lib.hid ((Below.refl w.heap.size w).alloc (Nat.le_refl _) (.cells (cp c).toArray 104))
  go_enter Tryz.func121, Tryz.ntmps121
  go_upto_region 1 with (first | (refine ag rfl (exec_boxC rfl rfl) ?_) | fail)
  generalize w.alloc (.cells (cp c).toArray 104) = w1 at *
  refine wp_region_lit ?_
  refine ag rfl (ak rfl (ev rfl) faC0) ?_
  simp only [Act.put, aa, ae, af]
  refine ag rfl (fd rfl (ev rfl) (cl_place HR.out)) ?_
  simp only [Act.put, aa, ae, af]
  refine ag rfl (ew rfl) ?_
  simp only [Act.put, aa, ae, af]
  refine aB rfl (eZ rfl (ev rfl) (ev rfl)) ?_
  simp only [Act.put, aa, ae, af]
  have HP := Lib.hid (pl_cells (eP w1 (celP c.s c.m) 102))
  have HB2 := Lib.hid (HB.out.alloc HB.out.size (.cells (celP c.s c.m).toArray 102))
  generalize w1.alloc (.cells (celP c.s c.m).toArray 102) = w2 at *
  generalize w1.heap.size = g at *
  clear HR HB
  refine wpList_nil ?_
  go_upto_region 2 with fail
  refine wp_region_lit ?_
  refine ag rfl (ak rfl (ev rfl) faPl0) ?_
  simp only [Act.put, aa, ae, af]
  refine ag rfl (av rfl (ev rfl) (bW HP.out.1)) ?_
  simp only [Act.put, aa, ae, af]
  refine ag (v := .bool false) rfl (br false rfl (ev rfl) evk H0.out) ?_
  simp only [Act.put, aa, ae, af]
  refine ag (v := .bool false) rfl (ah rfl (ev rfl)) ?_
  simp only [Act.put, aa, ae, af]
  refine ai (aj rfl rfl rfl rfl) (ak rfl (ev rfl) faPl0) ?_
  simp only [Act.put, aa, ae, af]
  refine ai (aj rfl rfl rfl rfl) (av rfl (ev rfl) (bW HP.out.1)) ?_
  simp only [Act.put, aa, ae, af]
  refine ai (v := .bool false) (aj rfl rfl rfl rfl) (fc false rfl (ev rfl) evk H1.out) ?_
  simp only [Act.put, aa, ae, af]
  refine ag (v := .bool false) rfl (aN rfl (ev rfl) (ev rfl)) ?_
  simp only [Act.put, aa, ae, af]
  refine ag (v := .bool false) rfl (ah rfl (ev rfl)) ?_
  simp only [Act.put, aa, ae, af]
  refine ai (aj rfl rfl rfl rfl) (ak rfl (ev rfl) faPl1) ?_
  simp only [Act.put, aa, ae, af]
  refine ai (aj rfl rfl rfl rfl) (av rfl (ev rfl) (bW HP.out.2)) ?_
  simp only [Act.put, aa, ae, af]
  refine ai (v := .bool false) (aj rfl rfl rfl rfl) (br false rfl (ev rfl) evk H2.out) ?_
  simp only [Act.put, aa, ae, af]
  refine ag (v := .bool false) rfl (aN rfl (ev rfl) (ev rfl)) ?_
  simp only [Act.put, aa, ae, af]
  refine ag (v := .bool false) rfl (ah rfl (ev rfl)) ?_
  simp only [Act.put, aa, ae, af]
  refine ai (aj rfl rfl rfl rfl) (ak rfl (ev rfl) faPl1) ?_
  simp only [Act.put, aa, ae, af]
  refine ai (aj rfl rfl rfl rfl) (av rfl (ev rfl) (bW HP.out.2)) ?_
  simp only [Act.put, aa, ae, af]
  refine ai (v := .bool true) (aj rfl rfl rfl rfl) (fc true rfl (ev rfl) evk H3.out) ?_
  simp only [Act.put, aa, ae, af]
  refine ag (v := .bool true) rfl (aN rfl (ev rfl) (ev rfl)) ?_
  simp only [Act.put, aa, ae, af]
  refine ag (v := .bool true) rfl (aq rfl (ev rfl)) ?_
  simp only [Act.put, aa, ae, af]
  refine wpList_nil ?_
  go_wp2_with fail
  go_ret
  exact ⟨rfl, HB2.out⟩
set_option maxHeartbeats 1000000 in
theorem pstr_4 {c : Cl} (h0 : decide (c.s < 0) = false) (h1 : decide (64 ≤ c.s) = false) (h2 : decide (c.m < 0) = false) (h3 : decide (16 ≤ c.m) = false) (w : World) : Calls Tryz.prog 121 #[clV c] w fun e w' => e = .returned (.bool false) ∧ Below w.heap.size w w' := by
  have H0 := Lib.hid h0
  have H1 := Lib.hid h1
  have H2 := Lib.hid h2
  have H3 := Lib.hid h3
  clear h0 h1 h2 h3
  have HR := Lib.hid (eP w (cp c) 104)
  have HB := Lib.hid ((Below.refl w.heap.size w).alloc (Nat.le_refl _) (.cells (cp c).toArray 104))
  go_enter Tryz.func121, Tryz.ntmps121
  go_upto_region 1 with (first | (refine ag rfl (exec_boxC rfl rfl) ?_) | fail)
  generalize w.alloc (.cells (cp c).toArray 104) = w1 at *
  refine wp_region_lit ?_
  refine ag rfl (ak rfl (ev rfl) faC0) ?_
  simp only [Act.put, aa, ae, af]
  refine ag rfl (fd rfl (ev rfl) (cl_place HR.out)) ?_
  simp only [Act.put, aa, ae, af]
  refine ag rfl (ew rfl) ?_
  simp only [Act.put, aa, ae, af]
  refine aB rfl (eZ rfl (ev rfl) (ev rfl)) ?_
  simp only [Act.put, aa, ae, af]
  have HP := Lib.hid (pl_cells (eP w1 (celP c.s c.m) 102))
  have HB2 := Lib.hid (HB.out.alloc HB.out.size (.cells (celP c.s c.m).toArray 102))
  generalize w1.alloc (.cells (celP c.s c.m).toArray 102) = w2 at *
  generalize w1.heap.size = g at *
  clear HR HB
  refine wpList_nil ?_
  go_upto_region 2 with fail
  refine wp_region_lit ?_
  refine ag rfl (ak rfl (ev rfl) faPl0) ?_
  simp only [Act.put, aa, ae, af]
  refine ag rfl (av rfl (ev rfl) (bW HP.out.1)) ?_
  simp only [Act.put, aa, ae, af]
  refine ag (v := .bool false) rfl (br false rfl (ev rfl) evk H0.out) ?_
  simp only [Act.put, aa, ae, af]
  refine ag (v := .bool false) rfl (ah rfl (ev rfl)) ?_
  simp only [Act.put, aa, ae, af]
  refine ai (aj rfl rfl rfl rfl) (ak rfl (ev rfl) faPl0) ?_
  simp only [Act.put, aa, ae, af]
  refine ai (aj rfl rfl rfl rfl) (av rfl (ev rfl) (bW HP.out.1)) ?_
  simp only [Act.put, aa, ae, af]
  refine ai (v := .bool false) (aj rfl rfl rfl rfl) (fc false rfl (ev rfl) evk H1.out) ?_
  simp only [Act.put, aa, ae, af]
  refine ag (v := .bool false) rfl (aN rfl (ev rfl) (ev rfl)) ?_
  simp only [Act.put, aa, ae, af]
  refine ag (v := .bool false) rfl (ah rfl (ev rfl)) ?_
  simp only [Act.put, aa, ae, af]
  refine ai (aj rfl rfl rfl rfl) (ak rfl (ev rfl) faPl1) ?_
  simp only [Act.put, aa, ae, af]
  refine ai (aj rfl rfl rfl rfl) (av rfl (ev rfl) (bW HP.out.2)) ?_
  simp only [Act.put, aa, ae, af]
  refine ai (v := .bool false) (aj rfl rfl rfl rfl) (br false rfl (ev rfl) evk H2.out) ?_
  simp only [Act.put, aa, ae, af]
  refine ag (v := .bool false) rfl (aN rfl (ev rfl) (ev rfl)) ?_
  simp only [Act.put, aa, ae, af]
  refine ag (v := .bool false) rfl (ah rfl (ev rfl)) ?_
  simp only [Act.put, aa, ae, af]
  refine ai (aj rfl rfl rfl rfl) (ak rfl (ev rfl) faPl1) ?_
  simp only [Act.put, aa, ae, af]
  refine ai (aj rfl rfl rfl rfl) (av rfl (ev rfl) (bW HP.out.2)) ?_
  simp only [Act.put, aa, ae, af]
  refine ai (v := .bool false) (aj rfl rfl rfl rfl) (fc false rfl (ev rfl) evk H3.out) ?_
  simp only [Act.put, aa, ae, af]
  refine ag (v := .bool false) rfl (aN rfl (ev rfl) (ev rfl)) ?_
  simp only [Act.put, aa, ae, af]
  refine ag (v := .bool false) rfl (aq rfl (ev rfl)) ?_
  simp only [Act.put, aa, ae, af]
  refine wpList_nil ?_
  go_wp2_with fail
  go_ret
  exact ⟨rfl, HB2.out⟩
theorem pstrange (c : Cl) (w : World) : Calls Tryz.prog 121 #[clV c] w fun e w' => e = .returned (.bool (!okC c)) ∧ Below w.heap.size w w' := by
  by_cases h0 : c.s < 0
  · rw [show okC c = false from decide_eq_false (by omega)]; exact pstr_0 (decide_eq_true h0) w
  by_cases h1 : 64 ≤ c.s
  · rw [show okC c = false from decide_eq_false (by omega)]; exact pstr_1 (decide_eq_false h0) (decide_eq_true h1) w
  by_cases h2 : c.m < 0
  · rw [show okC c = false from decide_eq_false (by omega)]; exact pstr_2 (decide_eq_false h0) (decide_eq_false h1) (decide_eq_true h2) w
  by_cases h3 : 16 ≤ c.m
  · rw [show okC c = false from decide_eq_false (by omega)]; exact pstr_3 (decide_eq_false h0) (decide_eq_false h1) (decide_eq_false h2) (decide_eq_true h3) w
  rw [show okC c = true from decide_eq_true (by omega)]; exact pstr_4 (decide_eq_false h0) (decide_eq_false h1) (decide_eq_false h2) (decide_eq_false h3) w
set_option maxHeartbeats 1000000 in
theorem pindex (A : Option Addr) (n c : Nat) (l : List Cl) (w : World) (hl : RdE bn w w.heap.size A n l) (hn : n ≤ maxLen) :
    Calls Tryz.prog 166 #[.slice A n c, .func (.func 121) #[] #[]] w fun e w' => ∃ r : Int, e = .returned (.int .i64 r) ∧ decide (0 ≤ r) = badC l ∧ Below w.heap.size w w' := by
  unfold maxLen at hn
  have HL := Lib.hid hl
  have HN := Lib.hid hl.1
  clear hl
  go_enter Tryz.func166, Tryz.ntmps166
  go_wp2_with fail
  go_loopw [8] (fun i wr => ∃ k : Nat, k ≤ n ∧ i = .int .i64 k ∧ (∀ j, j < k → okC (l.getD j cf) = true) ∧ Below w.heap.size w wr) (fun i _ => n - (intOf i).toNat)
  case atStart => exact ⟨0, Nat.zero_le _, rfl, fun j hj => absurd hj (by omega), Below.refl _ _⟩
  case round =>
    obtain ⟨k, hk, rfl, hj, hbl⟩ := hrel
    have HJ := Lib.hid hj
    have HB := Lib.hid hbl
    clear hj hbl
    by_cases hlt : k < n
    · obtain ⟨bA, oA, rfl, hA, cA⟩ := (HL.out.below HB.out).cl hlt
      have HA := Lib.hid cA
      have HX := Lib.hid (rfl : l.getD k cf = l.getD k cf)
      generalize hx : l.getD k cf = x at *
      have HXX := Lib.hid hx
      clear cA hx HX
      go_wp2_with (first | (refine ai rfl (eH rfl rfl HA.out) ?_) | fail)
      refine (pstrange x wr).mono ?_
      rintro e w1 ⟨rfl, hb1⟩
      have HB1 := Lib.hid (HB.out.trans (hb1.mono HB.out.size))
      clear hb1
      cases hq : okC x
      · have HQ := Lib.hid hq
        clear hq
        go_wp2_with fail
        go_ret
        refine ⟨_, rfl, ?_, HB1.out⟩
        rw [badC_of (k := k) (by rw [HN.out]; exact hlt) (by rw [HXX.out]; exact HQ.out)]
        exact decide_eq_true (by omega)
      · have HQ := Lib.hid hq
        clear hq
        go_wp2_with fail
        go_roundw
        case rel =>
          refine ⟨k + 1, by omega, by go_num, ?_, HB1.out⟩
          intro j hj
          by_cases h : j = k
          · subst h; rw [HXX.out]; exact HQ.out
          · exact HJ.out j (by omega)
        case measure => simp [intOf]; omega
    · go_wp2_with fail
      go_ret
      refine ⟨_, rfl, ?_, HB.out⟩
      rw [badC_no fun j h => HJ.out j (by have := HN.out; omega)]
      rfl
theorem fA (A : Option Addr) (n c : Nat) (l : List Cl) (w : World) (hl : RdE bn w w.heap.size A n l) (hn : n ≤ maxLen) :
    Calls Tryz.prog 120 #[.slice A n c, .func (.func 121) #[] #[]] w fun e w' => e = .returned (.bool (badC l)) ∧ Below w.heap.size w w' := by
  go_enter Tryz.func120, Tryz.ntmps120
  go_wp2_with fail
  refine (pindex A n c l w hl hn).mono ?_
  rintro e w1 ⟨r, rfl, hr, hb⟩
  have HR := Lib.hid hr
  have HB := Lib.hid hb
  clear hr hb
  go_wp2_with fail
  go_ret
  exact ⟨bO HR.out, HB.out⟩
set_option maxHeartbeats 800000 in
theorem pequal (A B : Option Addr) (n m c d N : Nat) (a b : List Blk) (w : World) (ha : RdB w N A n a) (hb : RdB w N B m b) (hN : N ≤ w.heap.size) (hn : n ≤ maxLen) :
    Calls Tryz.prog 138 #[.slice A n c, .slice B m d] w fun e w' => e = .returned (.bool (decide (a = b))) ∧ Below w.heap.size w w' := by
  unfold maxLen at hn
  by_cases hnm : n = m
  · subst hnm
    go_enter Tryz.func138, Tryz.ntmps138
    go_wp2_with fail
    go_loopw [13] (fun i wr => ∃ k : Nat, k ≤ n ∧ i = .int .i64 k ∧ (∀ j, j < k → a.getD j al = b.getD j al) ∧ Below w.heap.size w wr) (fun i _ => n - (intOf i).toNat)
    case atStart => exact ⟨0, Nat.zero_le _, rfl, fun j hj => absurd hj (by omega), Below.refl _ _⟩
    case round =>
      obtain ⟨k, hk, rfl, hj, hbl⟩ := hrel
      have HJ := Lib.hid hj
      clear hj
      by_cases hlt : k < n
      · obtain ⟨bA, oA, rfl, hA, cA⟩ := (ha.below (hbl.mono hN)).2 k hlt
        obtain ⟨bB, oB, rfl, hB, cB⟩ := (hb.below (hbl.mono hN)).2 k hlt
        have HX := Lib.hid (rfl : a.getD k al = a.getD k al)
        generalize hx : a.getD k al = x at *
        generalize hy : b.getD k al = y at *
        have HA := Lib.hid cA
        have HB := Lib.hid cB
        have HXX := Lib.hid hx
        have HYY := Lib.hid hy
        clear cA cB hx hy HX
        go_wp2_with fail
        by_cases hxy : x = y
        · have hd : (!decide (x = y)) = false := by simpa using hxy
          refine eC (by kernel_rfl) ?_
          refine aw rfl (cj rfl) ?_
          simp only [Act.put, aa, ae, af]
          refine aw rfl (cj rfl) ?_
          simp only [Act.put, aa, ae, af]
          refine aw rfl (dz rfl rfl rfl hlt) ?_
          simp only [Act.put, aa, ae, af]
          refine aw rfl (aJ rfl rfl HA.out) ?_
          simp only [Act.put, aa, ae, af]
          refine aw rfl (cj rfl) ?_
          simp only [Act.put, aa, ae, af]
          refine aw rfl (cj rfl) ?_
          simp only [Act.put, aa, ae, af]
          refine aw rfl (dz rfl rfl rfl hlt) ?_
          simp only [Act.put, aa, ae, af]
          refine aw rfl (aJ rfl rfl HB.out) ?_
          simp only [Act.put, aa, ae, af]
          refine aw rfl (exec_neqb false rfl rfl rfl hd) ?_
          simp only [Act.put, aa, ae, af]
          refine wpStill_nil ?_
          clear hd
          go_wp2_with fail
          go_roundw
          case rel =>
            refine ⟨k + 1, by omega, by go_num, ?_, bd hbl⟩
            intro j hj
            by_cases h : j = k
            · subst h; rw [HXX.out, HYY.out]; exact hxy
            · exact HJ.out j (by omega)
          case measure => simp [intOf]; omega
        · have hd : (!decide (x = y)) = true := by simpa using hxy
          refine eC (by kernel_rfl) ?_
          refine aw rfl (cj rfl) ?_
          simp only [Act.put, aa, ae, af]
          refine aw rfl (cj rfl) ?_
          simp only [Act.put, aa, ae, af]
          refine aw rfl (dz rfl rfl rfl hlt) ?_
          simp only [Act.put, aa, ae, af]
          refine aw rfl (aJ rfl rfl HA.out) ?_
          simp only [Act.put, aa, ae, af]
          refine aw rfl (cj rfl) ?_
          simp only [Act.put, aa, ae, af]
          refine aw rfl (cj rfl) ?_
          simp only [Act.put, aa, ae, af]
          refine aw rfl (dz rfl rfl rfl hlt) ?_
          simp only [Act.put, aa, ae, af]
          refine aw rfl (aJ rfl rfl HB.out) ?_
          simp only [Act.put, aa, ae, af]
          refine aw rfl (exec_neqb true rfl rfl rfl hd) ?_
          simp only [Act.put, aa, ae, af]
          refine wpStill_nil ?_
          clear hd
          go_wp2_with fail
          go_ret
          refine ⟨?_, bd hbl⟩
          rw [decide_eq_false]
          · rfl
          · rintro rfl
            exact hxy (HXX.out.symm.trans HYY.out)
      · go_wp2_with fail
        go_ret
        refine ⟨?_, hbl⟩
        rw [decide_eq_true]
        · rfl
        · exact getD_ext (by rw [ha.1, hb.1]) fun k h => HJ.out k (by have := ha.1; omega)
  · have hne : ((n : Int) != (m : Int)) = true := by simp; omega
    go_enter Tryz.func138, Tryz.ntmps138
    go_wp2_with fail
    go_ret
    refine ⟨?_, Below.refl _ _⟩
    rw [decide_eq_false]
    · rfl
    · rintro rfl
      exact hnm (ha.1.symm.trans hb.1)
theorem hmd2 {w w' : World} {B : Nat} {v : Value} {l : List Cl} (h : aA bn w B v l) (hb : Below w.heap.size w w') : aA bn w' B v l := h.below hb
set_option maxHeartbeats 2000000 in
theorem pcput (A : Option Addr) (n c N B : Nat) (l : List Cl) (w : World) (HB : Hid (B = w.heap.size)) (hl : RdE bn w N A n l) (hN : N ≤ B) (hn : n ≤ maxLen) :
    Calls Tryz.prog 63 #[.slice A n c] w fun e w' => ∃ v, e = .returned (.tuple #[v, .int .i64 (recE l : Nat)]) ∧ MadeB w' B v (recP l) ∧ Below B w w' := by
  have HL := Lib.hid hl.1
  have HBL := Lib.hid (Nat.le_of_eq HB.out)
  have hrd : RdE bn w w.heap.size A n l := hl.more (Nat.le_trans hN (Nat.le_of_eq HB.out))
  by_cases h0 : n = 0
  · have HE := Lib.hid (recE_bad (l := l) (.inl (by rw [HL.out]; exact h0)))
    have HP := Lib.hid (recP_no (l := l) (by rw [HE.out]; omega))
    subst h0
    go_enter Tryz.func63, Tryz.ntmps63
    go_wp2_with fail
    go_ret2
    exact ⟨_, by rw [HE.out]; rfl, by rw [HP.out]; exact MadeB.nil _ _, Below.refl _ _⟩
  · cases hb : badC l
    · by_cases h32 : n ≤ 32
      · have HE := Lib.hid (recE_ok (l := l) (by rw [HL.out]; exact h0) hb (by rw [HL.out]; exact h32))
        have HP := Lib.hid (recP_ok (l := l) HE.out)
        have HBD := Lib.hid hb
        have HRD := Lib.hid hrd
        clear hb hrd hl
        go_enter Tryz.func63, Tryz.ntmps63
        go_wp2_with fail
        refine (fA A n c l w HRD.out hn).mono ?_
        rintro e w1 ⟨rfl, hb1⟩
        rw [HBD.out]
        have HB1 := Lib.hid hb1
        clear hb1
        go_wp2_with fail
        refine (pclaid A n c w.heap.size w1.heap.size l w1 (Lib.hid rfl) (HRD.out.below HB1.out) HB1.out.size (by omega) h32 HBD.out).mono ?_
        rintro e w2 ⟨v, rfl, hm, hb2⟩
        have HM := Lib.hid (MadeB.base hm (Nat.le_trans HBL.out HB1.out.size))
        have HB2 := Lib.hid ((HB1.out.mono HBL.out).trans (hb2.mono (Nat.le_trans HBL.out HB1.out.size)))
        clear hm hb2
        go_wp2_with fail
        go_ret2
        exact ⟨_, by rw [HE.out]; rfl, by rw [HP.out]; exact HM.out, HB2.out⟩
      · have HE := Lib.hid (recE_long (l := l) (by rw [HL.out]; exact h0) hb (by rw [HL.out]; omega))
        have HP := Lib.hid (recP_no (l := l) (by rw [HE.out]; omega))
        have HBD := Lib.hid hb
        have HRD := Lib.hid hrd
        clear hb hrd hl
        go_enter Tryz.func63, Tryz.ntmps63
        go_wp2_with fail
        refine (fA A n c l w HRD.out hn).mono ?_
        rintro e w1 ⟨rfl, hb1⟩
        rw [HBD.out]
        have HB1 := Lib.hid (hb1.mono HBL.out)
        clear hb1
        go_wp2_with fail
        go_ret2
        exact ⟨_, by rw [HE.out]; rfl, by rw [HP.out]; exact MadeB.nil _ _, HB1.out⟩
    · have HE := Lib.hid (recE_bad (l := l) (.inr hb))
      have HP := Lib.hid (recP_no (l := l) (by rw [HE.out]; omega))
      have HBD := Lib.hid hb
      have HRD := Lib.hid hrd
      clear hb hrd hl
      go_enter Tryz.func63, Tryz.ntmps63
      go_wp2_with fail
      refine (fA A n c l w HRD.out hn).mono ?_
      rintro e w1 ⟨rfl, hb1⟩
      rw [HBD.out]
      have HB1 := Lib.hid (hb1.mono HBL.out)
      clear hb1
      go_wp2_with fail
      go_ret2
      exact ⟨_, by rw [HE.out]; rfl, by rw [HP.out]; exact MadeB.nil _ _, HB1.out⟩
set_option maxHeartbeats 2000000 in
theorem pcget_no (A : Option Addr) (m c N B : Nat) (l : List Blk) (n : Int) (w : World) (HB : Hid (B = w.heap.size)) (hl : RdB w N A m l) (hN : N ≤ B) (hm : m ≤ c) (hx : m ≤ maxLen) (hno : sizN n = 0 ∨ m ≠ sizN n) :
    Calls Tryz.prog 75 #[.slice A m c, .int .i64 n] w fun e w' => ∃ v, e = .returned (.tuple #[v, .int .i64 (rgE l n : Nat)]) ∧ aA bn w' B v (rgC l n) ∧ Below B w w' := by
  have HL := Lib.hid hl.1
  obtain ⟨s, hs⟩ : ∃ s, sizN n = s := ⟨_, rfl⟩
  have HS := Lib.hid hs
  have hs34 : s ≤ 34 := by
    rw [← hs]
    unfold sizN hd
    split
    · omega
    · omega
  unfold maxLen at hx
  rw [hs] at hno
  by_cases h0 : s = 0
  · have HE := Lib.hid (rgE_arg (l := l) (n := n) (by rw [hs, h0]))
    have HC := Lib.hid (rgC_no (l := l) (n := n) (by rw [HE.out]; omega))
    clear hs hno
    subst h0
    go_enter Tryz.func75, Tryz.ntmps75
    go_wp2_with fail
    refine (psize n w).mono ?_
    rintro e w' ⟨rfl, rfl⟩
    rw [HS.out]
    go_wp2_with fail
    go_ret2
    exact ⟨_, by rw [HE.out]; rfl, by rw [HC.out]; exact aA.nil _ _, Below.refl _ _⟩
  · by_cases hlt : m < s
    · have HE := Lib.hid (rgE_short (l := l) (n := n) (by rw [hs]; exact h0) (by rw [HL.out, hs]; exact hlt))
      have HC := Lib.hid (rgC_no (l := l) (n := n) (by rw [HE.out]; omega))
      clear hs hno
      go_enter Tryz.func75, Tryz.ntmps75
      go_wp2_with fail
      refine (psize n w).mono ?_
      rintro e w' ⟨rfl, rfl⟩
      rw [HS.out]
      go_wp2_with fail
      go_ret2
      exact ⟨_, by rw [HE.out]; rfl, by rw [HC.out]; exact aA.nil _ _, Below.refl _ _⟩
    · have HE := Lib.hid (rgE_more (l := l) (n := n) (by rw [hs]; exact h0) (by rw [HL.out, hs]; omega))
      have HC := Lib.hid (rgC_no (l := l) (n := n) (by rw [HE.out]; omega))
      have hgt : s < m := by omega
      clear hs hno hlt
      go_enter Tryz.func75, Tryz.ntmps75
      go_wp2_with fail
      refine (psize n w).mono ?_
      rintro e w' ⟨rfl, rfl⟩
      rw [HS.out]
      go_wp2_with fail
      go_ret2
      exact ⟨_, by rw [HE.out]; rfl, by rw [HC.out]; exact aA.nil _ _, Below.refl _ _⟩
set_option maxHeartbeats 4000000 in
theorem pcget_bad (b off m c N B : Nat) (l : List Blk) (n : Nat) (w : World) (HB : Hid (B = w.heap.size)) (hl : RdB w N (some ⟨b, off, none⟩) m l) (hN : N ≤ B) (hm : m ≤ c) (h1 : 1 ≤ n) (h32 : n ≤ 32) (hs : m = hd n + n) (HQ : Hid (badC (tol l n) = true)) :
    Calls Tryz.prog 75 #[.slice (some ⟨b, off, none⟩) m c, .int .i64 (n : Int)] w fun e w' => ∃ v, e = .returned (.tuple #[v, .int .i64 (5)]) ∧ aA bn w' B v ([]) ∧ Below B w w' := by
  have HRL : Hid ((bE (tol l n)).length = m) := Lib.hid (by rw [bL, dN, hs])
  have HRD := Lib.hid hl
  have HM := Lib.hid hs
  have HX := Lib.hid (show m ≤ maxLen by have : hd n ≤ 2 := by unfold hd; omega
                                         rw [hs]; unfold maxLen; omega)
  have HBL := Lib.hid (Nat.le_of_eq HB.out)
  have HSIZ := Lib.hid (sizN_of h1 h32)
  have HTL := Lib.hid (dN l n)
  have HN0 : Hid ((((hd n + n : Nat) : Int) == 0) = false) := Lib.hid (by simp; omega)
  have HN1 : Hid (decide ((m : Int) < ((hd n + n : Nat) : Int)) = false) := Lib.hid (decide_eq_false (by omega))
  have HN2 : Hid (decide (((hd n + n : Nat) : Int) < (m : Int)) = false) := Lib.hid (decide_eq_false (by omega))
  clear hl hs
  go_enter Tryz.func75, Tryz.ntmps75
  go_upto_region 1 with fail
  refine wp_region_lit ?_
  refine ag rfl (ah rfl (ev rfl)) ?_
  simp only [Act.put, aa, ae, af]
  refine ao rfl (au Tryz.call115 rfl (evc (ev rfl) evn)) ?_
  refine (psize n w).mono ?_
  rintro e w' ⟨rfl, rfl⟩
  rw [HSIZ.out]
  refine ⟨_, rfl, ?_⟩
  simp only [Act.put, aa, ae, af]
  refine ag rfl (aq rfl (ev rfl)) ?_
  simp only [Act.put, aa, ae, af]
  refine wpList_nil ?_
  go_upto_region 2 with fail
  refine wp_region_lit ?_
  refine ag rfl (ah rfl (ev rfl)) ?_
  simp only [Act.put, aa, ae, af]
  refine ag (v := .bool false) rfl (aI false rfl (ev rfl) evk HN0.out) ?_
  simp only [Act.put, aa, ae, af]
  refine ag (v := .bool false) rfl (aq rfl (ev rfl)) ?_
  simp only [Act.put, aa, ae, af]
  refine wpList_nil ?_
  go_upto_region 4 with fail
  refine wp_region_lit ?_
  refine ag rfl (ah rfl (ev rfl)) ?_
  simp only [Act.put, aa, ae, af]
  refine ag rfl (fz rfl (ev rfl)) ?_
  simp only [Act.put, aa, ae, af]
  refine ag rfl (ah rfl (ev rfl)) ?_
  simp only [Act.put, aa, ae, af]
  refine ag (v := .bool false) rfl (br false rfl (ev rfl) (ev rfl) HN1.out) ?_
  simp only [Act.put, aa, ae, af]
  refine ag (v := .bool false) rfl (aq rfl (ev rfl)) ?_
  simp only [Act.put, aa, ae, af]
  refine wpList_nil ?_
  go_upto_region 6 with fail
  refine wp_region_lit ?_
  refine ag rfl (ah rfl (ev rfl)) ?_
  simp only [Act.put, aa, ae, af]
  refine ag rfl (fz rfl (ev rfl)) ?_
  simp only [Act.put, aa, ae, af]
  refine ag rfl (ah rfl (ev rfl)) ?_
  simp only [Act.put, aa, ae, af]
  refine ag (v := .bool false) rfl (cY false rfl (ev rfl) (ev rfl) HN2.out) ?_
  simp only [Act.put, aa, ae, af]
  refine ag (v := .bool false) rfl (aq rfl (ev rfl)) ?_
  simp only [Act.put, aa, ae, af]
  refine wpList_nil ?_
  go_upto_region 8 with fail
  refine wp_region_lit ?_
  refine ag rfl (ah rfl (ev rfl)) ?_
  simp only [Act.put, aa, ae, af]
  refine ag rfl (ah rfl (ev rfl)) ?_
  simp only [Act.put, aa, ae, af]
  refine ao rfl (au Tryz.call137 rfl (evc (ev rfl) (evc (ev rfl) evn))) ?_
  refine (pctold b off m c N B l n w HB HRD.out hN h1 h32 HM.out hm).mono ?_
  rintro e w1 ⟨v, rfl, hmd, hb1⟩
  have HMD := Lib.hid hmd
  have HB1 := Lib.hid hb1
  obtain ⟨A1, c1, rfl, hr1, hc1, hc2⟩ := hmd.open_ HTL.out
  have HR1 := Lib.hid hr1
  clear hmd hb1 hr1
  refine ⟨_, rfl, ?_⟩
  simp only [Act.put, aa, ae, af]
  refine ag rfl (aq rfl (ev rfl)) ?_
  simp only [Act.put, aa, ae, af]
  refine wpList_nil ?_
  go_upto_region 9 with fail
  refine wp_region_lit ?_
  refine ag rfl (ah rfl (ev rfl)) ?_
  simp only [Act.put, aa, ae, af]
  refine ao rfl (au Tryz.call120 rfl (evc (ev rfl) (evc rfl evn))) ?_
  refine (fA A1 n c1 (tol l n) w1 HR1.out (by unfold maxLen; omega)).mono ?_
  rintro e w2 ⟨rfl, hb2⟩
  rw [HQ.out]
  have HB2 := Lib.hid (HB1.out.trans (hb2.mono (Nat.le_trans HBL.out HB1.out.size)))
  have HMD2 := Lib.hid (hmd2 HMD.out hb2)
  have HR2 := Lib.hid (HR1.out.step hb2)
  clear hb2 HMD HR1
  refine ⟨_, rfl, ?_⟩
  simp only [Act.put, aa, ae, af]
  refine aO 5 (v := .bool true) rfl (ah rfl (ev rfl)) (by kernel_rfl) ?_
  simp only [bc, List.take_succ_cons, List.take_zero, List.drop_succ_cons, List.drop_zero, Act.put, List.setIfInBounds_toArray, List.set_cons_succ, List.set_cons_zero]
  refine ag (v := .bool true) rfl (aM rfl (ev rfl) evk) ?_
  simp only [Act.put, aa, ae, af]
  refine wpList_nil ?_
  go_upto_region 10 with fail
  refine wp_region_lit ?_
  refine ag rfl (aq rfl evk) ?_
  simp only [Act.put, aa, ae, af]
  refine ag rfl (aq rfl evk) ?_
  simp only [Act.put, aa, ae, af]
  refine wpList_nil ?_
  go_wp2_with fail
  go_ret2
  exact ⟨_, rfl, aA.nil _ _, HB2.out⟩
set_option maxHeartbeats 4000000 in
theorem pcget_dif (b off m c N B : Nat) (l : List Blk) (n : Nat) (w : World) (HB : Hid (B = w.heap.size)) (hl : RdB w N (some ⟨b, off, none⟩) m l) (hN : N ≤ B) (hm : m ≤ c) (h1 : 1 ≤ n) (h32 : n ≤ 32) (hs : m = hd n + n) (HQ : Hid (badC (tol l n) = false)) (HEQ : Hid (decide (bE (tol l n) = l) = false)) :
    Calls Tryz.prog 75 #[.slice (some ⟨b, off, none⟩) m c, .int .i64 (n : Int)] w fun e w' => ∃ v, e = .returned (.tuple #[v, .int .i64 (5)]) ∧ aA bn w' B v ([]) ∧ Below B w w' := by
  have HRL : Hid ((bE (tol l n)).length = m) := Lib.hid (by rw [bL, dN, hs])
  have HRD := Lib.hid hl
  have HM := Lib.hid hs
  have HX := Lib.hid (show m ≤ maxLen by have : hd n ≤ 2 := by unfold hd; omega
                                         rw [hs]; unfold maxLen; omega)
  have HBL := Lib.hid (Nat.le_of_eq HB.out)
  have HSIZ := Lib.hid (sizN_of h1 h32)
  have HTL := Lib.hid (dN l n)
  have HN0 : Hid ((((hd n + n : Nat) : Int) == 0) = false) := Lib.hid (by simp; omega)
  have HN1 : Hid (decide ((m : Int) < ((hd n + n : Nat) : Int)) = false) := Lib.hid (decide_eq_false (by omega))
  have HN2 : Hid (decide (((hd n + n : Nat) : Int) < (m : Int)) = false) := Lib.hid (decide_eq_false (by omega))
  clear hl hs
  go_enter Tryz.func75, Tryz.ntmps75
  go_upto_region 1 with fail
  refine wp_region_lit ?_
  refine ag rfl (ah rfl (ev rfl)) ?_
  simp only [Act.put, aa, ae, af]
  refine ao rfl (au Tryz.call115 rfl (evc (ev rfl) evn)) ?_
  refine (psize n w).mono ?_
  rintro e w' ⟨rfl, rfl⟩
  rw [HSIZ.out]
  refine ⟨_, rfl, ?_⟩
  simp only [Act.put, aa, ae, af]
  refine ag rfl (aq rfl (ev rfl)) ?_
  simp only [Act.put, aa, ae, af]
  refine wpList_nil ?_
  go_upto_region 2 with fail
  refine wp_region_lit ?_
  refine ag rfl (ah rfl (ev rfl)) ?_
  simp only [Act.put, aa, ae, af]
  refine ag (v := .bool false) rfl (aI false rfl (ev rfl) evk HN0.out) ?_
  simp only [Act.put, aa, ae, af]
  refine ag (v := .bool false) rfl (aq rfl (ev rfl)) ?_
  simp only [Act.put, aa, ae, af]
  refine wpList_nil ?_
  go_upto_region 4 with fail
  refine wp_region_lit ?_
  refine ag rfl (ah rfl (ev rfl)) ?_
  simp only [Act.put, aa, ae, af]
  refine ag rfl (fz rfl (ev rfl)) ?_
  simp only [Act.put, aa, ae, af]
  refine ag rfl (ah rfl (ev rfl)) ?_
  simp only [Act.put, aa, ae, af]
  refine ag (v := .bool false) rfl (br false rfl (ev rfl) (ev rfl) HN1.out) ?_
  simp only [Act.put, aa, ae, af]
  refine ag (v := .bool false) rfl (aq rfl (ev rfl)) ?_
  simp only [Act.put, aa, ae, af]
  refine wpList_nil ?_
  go_upto_region 6 with fail
  refine wp_region_lit ?_
  refine ag rfl (ah rfl (ev rfl)) ?_
  simp only [Act.put, aa, ae, af]
  refine ag rfl (fz rfl (ev rfl)) ?_
  simp only [Act.put, aa, ae, af]
  refine ag rfl (ah rfl (ev rfl)) ?_
  simp only [Act.put, aa, ae, af]
  refine ag (v := .bool false) rfl (cY false rfl (ev rfl) (ev rfl) HN2.out) ?_
  simp only [Act.put, aa, ae, af]
  refine ag (v := .bool false) rfl (aq rfl (ev rfl)) ?_
  simp only [Act.put, aa, ae, af]
  refine wpList_nil ?_
  go_upto_region 8 with fail
  refine wp_region_lit ?_
  refine ag rfl (ah rfl (ev rfl)) ?_
  simp only [Act.put, aa, ae, af]
  refine ag rfl (ah rfl (ev rfl)) ?_
  simp only [Act.put, aa, ae, af]
  refine ao rfl (au Tryz.call137 rfl (evc (ev rfl) (evc (ev rfl) evn))) ?_
  refine (pctold b off m c N B l n w HB HRD.out hN h1 h32 HM.out hm).mono ?_
  rintro e w1 ⟨v, rfl, hmd, hb1⟩
  have HMD := Lib.hid hmd
  have HB1 := Lib.hid hb1
  obtain ⟨A1, c1, rfl, hr1, hc1, hc2⟩ := hmd.open_ HTL.out
  have HR1 := Lib.hid hr1
  clear hmd hb1 hr1
  refine ⟨_, rfl, ?_⟩
  simp only [Act.put, aa, ae, af]
  refine ag rfl (aq rfl (ev rfl)) ?_
  simp only [Act.put, aa, ae, af]
  refine wpList_nil ?_
  go_upto_region 9 with fail
  refine wp_region_lit ?_
  refine ag rfl (ah rfl (ev rfl)) ?_
  simp only [Act.put, aa, ae, af]
  refine ao rfl (au Tryz.call120 rfl (evc (ev rfl) (evc rfl evn))) ?_
  refine (fA A1 n c1 (tol l n) w1 HR1.out (by unfold maxLen; omega)).mono ?_
  rintro e w2 ⟨rfl, hb2⟩
  rw [HQ.out]
  have HB2 := Lib.hid (HB1.out.trans (hb2.mono (Nat.le_trans HBL.out HB1.out.size)))
  have HMD2 := Lib.hid (hmd2 HMD.out hb2)
  have HR2 := Lib.hid (HR1.out.step hb2)
  clear hb2 HMD HR1
  refine ⟨_, rfl, ?_⟩
  simp only [Act.put, aa, ae, af]
  refine ag (v := .bool false) rfl (ah rfl (ev rfl)) ?_
  simp only [Act.put, aa, ae, af]
  refine ai (aj rfl rfl rfl rfl) (ah rfl (ev rfl)) ?_
  simp only [Act.put, aa, ae, af]
  refine ao (aj rfl rfl rfl rfl) (au Tryz.call122 rfl (evc (ev rfl) evn)) ?_
  refine (pclaid A1 n c1 w2.heap.size w2.heap.size (tol l n) w2 (Lib.hid rfl) HR2.out (Nat.le_refl _) h1 h32 HQ.out).mono ?_
  rintro e w3 ⟨v3, rfl, hm3, hb3⟩
  obtain ⟨A3, c3, rfl, hr3, hc3, hc4⟩ := hm3.open_ HRL.out
  have HR3 := Lib.hid hr3
  have HB3 := Lib.hid (HB2.out.trans (hb3.mono (Nat.le_trans HBL.out HB2.out.size)))
  have HMD3 := Lib.hid (hmd2 HMD2.out hb3)
  clear hm3 hr3 hb3 HMD2 HR2
  refine ⟨_, rfl, ?_⟩
  simp only [Act.put, aa, ae, af]
  refine ai (aj rfl rfl rfl rfl) (ah rfl (ev rfl)) ?_
  simp only [Act.put, aa, ae, af]
  refine ao (aj rfl rfl rfl rfl) (au Tryz.call138 rfl (evc (ev rfl) (evc (ev rfl) evn))) ?_
  refine (pequal A3 (some ⟨b, off, none⟩) m m c3 c w3.heap.size (bE (tol l n)) l w3 HR3.out ((HRD.out.below (HB3.out.mono hN)).more (Nat.le_trans hN (Nat.le_trans HBL.out HB3.out.size))) (Nat.le_refl _) HX.out).mono ?_
  rintro e w4 ⟨rfl, hb4⟩
  rw [HEQ.out]
  have HB4 := Lib.hid (HB3.out.trans (hb4.mono (Nat.le_trans HBL.out HB3.out.size)))
  have HMD4 := Lib.hid (hmd2 HMD3.out hb4)
  clear hb4 HMD3
  refine ⟨_, rfl, ?_⟩
  simp only [Act.put, aa, ae, af]
  refine ai (v := .bool true) (aj rfl rfl rfl rfl) (aX false rfl (ev rfl)) ?_
  simp only [Act.put, aa, ae, af]
  refine ag (v := .bool true) rfl (aN rfl (ev rfl) (ev rfl)) ?_
  simp only [Act.put, aa, ae, af]
  refine wpList_nil ?_
  go_upto_region 10 with fail
  refine wp_region_lit ?_
  refine ag rfl (aq rfl evk) ?_
  simp only [Act.put, aa, ae, af]
  refine ag rfl (aq rfl evk) ?_
  simp only [Act.put, aa, ae, af]
  refine wpList_nil ?_
  go_wp2_with fail
  go_ret2
  exact ⟨_, rfl, aA.nil _ _, HB4.out⟩
set_option maxHeartbeats 4000000 in
theorem pcget_yes (b off m c N B : Nat) (l : List Blk) (n : Nat) (w : World) (HB : Hid (B = w.heap.size)) (hl : RdB w N (some ⟨b, off, none⟩) m l) (hN : N ≤ B) (hm : m ≤ c) (h1 : 1 ≤ n) (h32 : n ≤ 32) (hs : m = hd n + n) (HQ : Hid (badC (tol l n) = false)) (HEQ : Hid (decide (bE (tol l n) = l) = true)) :
    Calls Tryz.prog 75 #[.slice (some ⟨b, off, none⟩) m c, .int .i64 (n : Int)] w fun e w' => ∃ v, e = .returned (.tuple #[v, .int .i64 (0)]) ∧ aA bn w' B v (tol l n) ∧ Below B w w' := by
  have HRL : Hid ((bE (tol l n)).length = m) := Lib.hid (by rw [bL, dN, hs])
  have HRD := Lib.hid hl
  have HM := Lib.hid hs
  have HX := Lib.hid (show m ≤ maxLen by have : hd n ≤ 2 := by unfold hd; omega
                                         rw [hs]; unfold maxLen; omega)
  have HBL := Lib.hid (Nat.le_of_eq HB.out)
  have HSIZ := Lib.hid (sizN_of h1 h32)
  have HTL := Lib.hid (dN l n)
  have HN0 : Hid ((((hd n + n : Nat) : Int) == 0) = false) := Lib.hid (by simp; omega)
  have HN1 : Hid (decide ((m : Int) < ((hd n + n : Nat) : Int)) = false) := Lib.hid (decide_eq_false (by omega))
  have HN2 : Hid (decide (((hd n + n : Nat) : Int) < (m : Int)) = false) := Lib.hid (decide_eq_false (by omega))
  clear hl hs
  go_enter Tryz.func75, Tryz.ntmps75
  go_upto_region 1 with fail
  refine wp_region_lit ?_
  refine ag rfl (ah rfl (ev rfl)) ?_
  simp only [Act.put, aa, ae, af]
  refine ao rfl (au Tryz.call115 rfl (evc (ev rfl) evn)) ?_
  refine (psize n w).mono ?_
  rintro e w' ⟨rfl, rfl⟩
  rw [HSIZ.out]
  refine ⟨_, rfl, ?_⟩
  simp only [Act.put, aa, ae, af]
  refine ag rfl (aq rfl (ev rfl)) ?_
  simp only [Act.put, aa, ae, af]
  refine wpList_nil ?_
  go_upto_region 2 with fail
  refine wp_region_lit ?_
  refine ag rfl (ah rfl (ev rfl)) ?_
  simp only [Act.put, aa, ae, af]
  refine ag (v := .bool false) rfl (aI false rfl (ev rfl) evk HN0.out) ?_
  simp only [Act.put, aa, ae, af]
  refine ag (v := .bool false) rfl (aq rfl (ev rfl)) ?_
  simp only [Act.put, aa, ae, af]
  refine wpList_nil ?_
  go_upto_region 4 with fail
  refine wp_region_lit ?_
  refine ag rfl (ah rfl (ev rfl)) ?_
  simp only [Act.put, aa, ae, af]
  refine ag rfl (fz rfl (ev rfl)) ?_
  simp only [Act.put, aa, ae, af]
  refine ag rfl (ah rfl (ev rfl)) ?_
  simp only [Act.put, aa, ae, af]
  refine ag (v := .bool false) rfl (br false rfl (ev rfl) (ev rfl) HN1.out) ?_
  simp only [Act.put, aa, ae, af]
  refine ag (v := .bool false) rfl (aq rfl (ev rfl)) ?_
  simp only [Act.put, aa, ae, af]
  refine wpList_nil ?_
  go_upto_region 6 with fail
  refine wp_region_lit ?_
  refine ag rfl (ah rfl (ev rfl)) ?_
  simp only [Act.put, aa, ae, af]
  refine ag rfl (fz rfl (ev rfl)) ?_
  simp only [Act.put, aa, ae, af]
  refine ag rfl (ah rfl (ev rfl)) ?_
  simp only [Act.put, aa, ae, af]
  refine ag (v := .bool false) rfl (cY false rfl (ev rfl) (ev rfl) HN2.out) ?_
  simp only [Act.put, aa, ae, af]
  refine ag (v := .bool false) rfl (aq rfl (ev rfl)) ?_
  simp only [Act.put, aa, ae, af]
  refine wpList_nil ?_
  go_upto_region 8 with fail
  refine wp_region_lit ?_
  refine ag rfl (ah rfl (ev rfl)) ?_
  simp only [Act.put, aa, ae, af]
  refine ag rfl (ah rfl (ev rfl)) ?_
  simp only [Act.put, aa, ae, af]
  refine ao rfl (au Tryz.call137 rfl (evc (ev rfl) (evc (ev rfl) evn))) ?_
  refine (pctold b off m c N B l n w HB HRD.out hN h1 h32 HM.out hm).mono ?_
  rintro e w1 ⟨v, rfl, hmd, hb1⟩
  have HMD := Lib.hid hmd
  have HB1 := Lib.hid hb1
  obtain ⟨A1, c1, rfl, hr1, hc1, hc2⟩ := hmd.open_ HTL.out
  have HR1 := Lib.hid hr1
  clear hmd hb1 hr1
  refine ⟨_, rfl, ?_⟩
  simp only [Act.put, aa, ae, af]
  refine ag rfl (aq rfl (ev rfl)) ?_
  simp only [Act.put, aa, ae, af]
  refine wpList_nil ?_
  go_upto_region 9 with fail
  refine wp_region_lit ?_
  refine ag rfl (ah rfl (ev rfl)) ?_
  simp only [Act.put, aa, ae, af]
  refine ao rfl (au Tryz.call120 rfl (evc (ev rfl) (evc rfl evn))) ?_
  refine (fA A1 n c1 (tol l n) w1 HR1.out (by unfold maxLen; omega)).mono ?_
  rintro e w2 ⟨rfl, hb2⟩
  rw [HQ.out]
  have HB2 := Lib.hid (HB1.out.trans (hb2.mono (Nat.le_trans HBL.out HB1.out.size)))
  have HMD2 := Lib.hid (hmd2 HMD.out hb2)
  have HR2 := Lib.hid (HR1.out.step hb2)
  clear hb2 HMD HR1
  refine ⟨_, rfl, ?_⟩
  simp only [Act.put, aa, ae, af]
  refine ag (v := .bool false) rfl (ah rfl (ev rfl)) ?_
  simp only [Act.put, aa, ae, af]
  refine ai (aj rfl rfl rfl rfl) (ah rfl (ev rfl)) ?_
  simp only [Act.put, aa, ae, af]
  refine ao (aj rfl rfl rfl rfl) (au Tryz.call122 rfl (evc (ev rfl) evn)) ?_
  refine (pclaid A1 n c1 w2.heap.size w2.heap.size (tol l n) w2 (Lib.hid rfl) HR2.out (Nat.le_refl _) h1 h32 HQ.out).mono ?_
  rintro e w3 ⟨v3, rfl, hm3, hb3⟩
  obtain ⟨A3, c3, rfl, hr3, hc3, hc4⟩ := hm3.open_ HRL.out
  have HR3 := Lib.hid hr3
  have HB3 := Lib.hid (HB2.out.trans (hb3.mono (Nat.le_trans HBL.out HB2.out.size)))
  have HMD3 := Lib.hid (hmd2 HMD2.out hb3)
  clear hm3 hr3 hb3 HMD2 HR2
  refine ⟨_, rfl, ?_⟩
  simp only [Act.put, aa, ae, af]
  refine ai (aj rfl rfl rfl rfl) (ah rfl (ev rfl)) ?_
  simp only [Act.put, aa, ae, af]
  refine ao (aj rfl rfl rfl rfl) (au Tryz.call138 rfl (evc (ev rfl) (evc (ev rfl) evn))) ?_
  refine (pequal A3 (some ⟨b, off, none⟩) m m c3 c w3.heap.size (bE (tol l n)) l w3 HR3.out ((HRD.out.below (HB3.out.mono hN)).more (Nat.le_trans hN (Nat.le_trans HBL.out HB3.out.size))) (Nat.le_refl _) HX.out).mono ?_
  rintro e w4 ⟨rfl, hb4⟩
  rw [HEQ.out]
  have HB4 := Lib.hid (HB3.out.trans (hb4.mono (Nat.le_trans HBL.out HB3.out.size)))
  have HMD4 := Lib.hid (hmd2 HMD3.out hb4)
  clear hb4 HMD3
  refine ⟨_, rfl, ?_⟩
  simp only [Act.put, aa, ae, af]
  refine ai (v := .bool false) (aj rfl rfl rfl rfl) (aX true rfl (ev rfl)) ?_
  simp only [Act.put, aa, ae, af]
  refine ag (v := .bool false) rfl (aN rfl (ev rfl) (ev rfl)) ?_
  simp only [Act.put, aa, ae, af]
  refine wpList_nil ?_
  go_upto_region 11 with fail
  refine wp_region_lit ?_
  refine ag rfl (ah rfl (ev rfl)) ?_
  simp only [Act.put, aa, ae, af]
  refine ag rfl (aq rfl (ev rfl)) ?_
  simp only [Act.put, aa, ae, af]
  refine ag rfl (aq rfl evk) ?_
  simp only [Act.put, aa, ae, af]
  refine wpList_nil ?_
  go_wp2_with fail
  go_ret2
  exact ⟨_, rfl, HMD4.out, HB4.out⟩
theorem pcget_at (b off m c N B : Nat) (l : List Blk) (n : Nat) (w : World) (HB : Hid (B = w.heap.size)) (hl : RdB w N (some ⟨b, off, none⟩) m l) (hN : N ≤ B) (hm : m ≤ c) (h1 : 1 ≤ n) (h32 : n ≤ 32) (hs : m = hd n + n) :
    Calls Tryz.prog 75 #[.slice (some ⟨b, off, none⟩) m c, .int .i64 (n : Int)] w fun e w' => ∃ v, e = .returned (.tuple #[v, .int .i64 (rgE l (n : Int) : Nat)]) ∧ aA bn w' B v (rgC l (n : Int)) ∧ Below B w w' := by
  have hlen : l.length = hd n + n := by rw [hl.1, hs]
  cases hq : badC (tol l n)
  · by_cases he : bE (tol l n) = l
    · have hE := rgE_ok h1 h32 hlen hq he
      have hC := rgC_ok hE
      rw [Int.toNat_natCast] at hC
      rw [hE, hC]
      exact pcget_yes b off m c N B l n w HB hl hN hm h1 h32 hs (Lib.hid hq) (Lib.hid (decide_eq_true he))
    · have hE := rgE_form h1 h32 hlen (.inr he)
      rw [hE, rgC_no (by omega)]
      exact pcget_dif b off m c N B l n w HB hl hN hm h1 h32 hs (Lib.hid hq) (Lib.hid (decide_eq_false he))
  · have hE := rgE_form h1 h32 hlen (.inl hq)
    rw [hE, rgC_no (by omega)]
    exact pcget_bad b off m c N B l n w HB hl hN hm h1 h32 hs (Lib.hid hq)
theorem pcget (A : Option Addr) (m c N B : Nat) (l : List Blk) (n : Int) (w : World) (HB : Hid (B = w.heap.size)) (hl : RdB w N A m l) (hN : N ≤ B) (hm : m ≤ c) (hx : m ≤ maxLen) :
    Calls Tryz.prog 75 #[.slice A m c, .int .i64 n] w fun e w' => ∃ v, e = .returned (.tuple #[v, .int .i64 (rgE l n : Nat)]) ∧ aA bn w' B v (rgC l n) ∧ Below B w w' := by
  by_cases hno : sizN n = 0 ∨ m ≠ sizN n
  · exact pcget_no A m c N B l n w HB hl hN hm hx hno
  · have h0 : sizN n ≠ 0 := fun e => hno (.inl e)
    have h2 : m = sizN n := Classical.byContradiction fun e => hno (.inr e)
    obtain ⟨k, rfl, h3, h4⟩ := of_sizN h0
    rw [sizN_of h3 h4] at h2
    obtain ⟨b, off, rfl, _⟩ := hl.2 0 (by omega)
    exact pcget_at b off m c N B l k w HB hl hN hm h3 h4 h2
end Go.Proofs.YtcafafdimcecpaaGreatDoor
