/-
  The program's cells: told (the cells of sectors, as they stand there).
-/
import Derived.Test.YtfemlaombdeebaaDoorCpk
import Derived.Test.YtfemlaombdeebaaDoorCpa
namespace Go.Proofs.YtfemlaombdeebaaDoor
open Go.RowKit
set_option linter.unusedVariables false
set_option linter.unusedSimpArgs false
set_option maxRecDepth 100000

theorem tail_at (b off c k : Nat) (h : k < c) : tailAt (some ⟨b, off, none⟩) c k = some ⟨b, off + k * 64, none⟩ := by
  unfold tailAt
  rw [if_neg (by omega)]
  simp [Addr.add_mid]
set_option maxHeartbeats 4000000 in
theorem pctold (b off m c N B : Nat) (l : List Blk) (n : Nat) (w : World) (HB : Hid (B = w.heap.size)) (hl : RdB w N (some ⟨b, off, none⟩) m l) (hN : N ≤ B) (h1 : 1 ≤ n) (h32 : n ≤ 32) (hm : m = hd n + n) (hc : m ≤ c) :
    Calls Tryd.prog 18 #[.slice (some ⟨b, off, none⟩) m c, .int .i64 (n : Int)] w fun e w' => ∃ v, e = .returned v ∧ MadeE CellE w' B v (tol l n) ∧ Below B w w' := by
  have hlen : l.length = hd n + n := by rw [hl.1, hm]
  have HM := Lib.hid hm
  have HHD := Lib.hid (show hd n ≤ 2 ∧ n ≤ 16 * hd n by unfold hd; omega)
  have HBY : Hid (∀ w' : World, Below B w w' → Rd w' N (some ⟨b, off, none⟩) (64 * m) (byts l)) := Lib.hid fun w' hb => (hl.below (hb.mono hN)).byts
  have HRG : Hid (∀ (w' : World) (k : Nat), Below B w w' → k < n → w'.rangeAt b (off + hd n * 64 + k * 64) (cel (l.getD (hd n + k) zeroB))) := Lib.hid fun w' k hb hk => by
    obtain ⟨b', off', e, _, hr⟩ := (hl.below (hb.mono hN)).2 (hd n + k) (by omega)
    injection e with e
    injection e with e1 e2
    subst e1 e2
    rwa [show off + (hd n + k) * 64 = off + hd n * 64 + k * 64 by omega] at hr
  have HLE := Lib.hid (Nat.le_of_eq HB.out)
  have HR0 := Lib.hid (cells_made w n B (Nat.le_of_eq HB.out) (by omega))
  have HB0 := Lib.hid ((Below.refl B w).alloc (Nat.le_of_eq HB.out) (.cells (madeCells CellE.z.cells (n * CellE.n)) CellE.t))
  have HTL := Lib.hid (tol_length l n)
  have HTA : Hid (∀ k, k < n → (tol l n).getD k zeroC = ⟨val 8 (piece (byts l) (4 * k) 2), val 8 (piece (byts l) (4 * k + 2) 1), l.getD (hd n + k) zeroB⟩) := Lib.hid fun k hk => tol_at hk
  have HZ := Lib.hid (tlK_zero (tol l n))
  have HALL := Lib.hid (tlK_all (tol l n))
  have HTT := Lib.hid (tail_at b off c (hd n) (by omega))
  have HGB := Lib.hid (show B ≤ w.heap.size from Nat.le_of_eq HB.out)
  clear hl hm hlen
  rw [HTL.out] at HZ HALL
  generalize tol l n = T at *
  go_enter Tryd.func18, Tryd.ntmps18
  go_upto_region 1 with fail
  refine wp_region_lit ?_
  refine wpList_valn rfl (exec_mv rfl (ev rfl)) ?_
  simp only [Act.put, List.setIfInBounds_toArray, List.set_cons_succ, List.set_cons_zero]
  refine wpList_valn rfl (exec_makeE (E := CellE) rfl (ev rfl) (ev rfl) (by omega)) ?_
  simp only [Act.put, List.setIfInBounds_toArray, List.set_cons_succ, List.set_cons_zero]
  generalize w.alloc (.cells (madeCells CellE.z.cells (n * CellE.n)) CellE.t) = w1 at *
  generalize hg : w.heap.size = g at HR0 ⊢
  have HG := Lib.hid hg
  clear hg
  refine wpList_valn rfl (exec_as rfl (ev rfl)) ?_
  simp only [Act.put, List.setIfInBounds_toArray, List.set_cons_succ, List.set_cons_zero]
  refine wpList_nil ?_
  go_upto_region 2 with fail
  refine wp_region_lit ?_
  refine wpList_valn rfl (exec_mv rfl (ev rfl)) ?_
  simp only [Act.put, List.setIfInBounds_toArray, List.set_cons_succ, List.set_cons_zero]
  refine wpList_valn rfl (exec_mv rfl (ev rfl)) ?_
  simp only [Act.put, List.setIfInBounds_toArray, List.set_cons_succ, List.set_cons_zero]
  refine wpList_call rfl (exec_cl Tryd.call30 rfl (evc (ev rfl) evn)) ?_
  refine (pheads n w1 (by omega)).mono ?_
  rintro e w' ⟨rfl, rfl⟩
  refine ⟨_, rfl, ?_⟩
  simp only [Act.put, List.setIfInBounds_toArray, List.set_cons_succ, List.set_cons_zero]
  refine wpList_valn rfl (exec_tail rfl (ev rfl) (ev rfl) (by have := HM.out; omega)) ?_
  simp only [Act.put, List.setIfInBounds_toArray, List.set_cons_succ, List.set_cons_zero]
  refine wpList_valn rfl (exec_as rfl (ev rfl)) ?_
  simp only [Act.put, List.setIfInBounds_toArray, List.set_cons_succ, List.set_cons_zero]
  refine wpList_nil ?_
  rw [HTT.out]
  have HMN := Lib.hid (show m - hd n = n by have := HM.out; omega)
  rw [HMN.out]
  go_wp2_with fail
  go_loopw [17] (fun i wr => ∃ k : Nat, k ≤ n ∧ i = .int .i64 k ∧ MadeE CellE wr B (.slice (some ⟨g, 0, none⟩) n n) (tlK T k) ∧ Below B w wr) (fun i _ => n - (intOf i).toNat)
  case atStart => exact ⟨0, Nat.zero_le _, rfl, by rw [HZ.out]; exact HR0.out, HB0.out⟩
  case round =>
    clear HR0 HB0 HZ
    obtain ⟨k, hk, rfl, hrow, hbl⟩ := hrel
    have HROW := Lib.hid hrow
    have HBL := Lib.hid hbl
    clear hrow hbl
    by_cases hlt : k < n
    · have hkT : k < T.length := by rw [HTL.out]; exact hlt
      have HLT := Lib.hid hlt
      have HNX := Lib.hid (tlK_set hkT)
      rw [HTA.out k hlt] at HNX
      have HAT := Lib.hid (tlK_at hkT)
      have HTN := Lib.hid (show k < (tlK T k).length by rw [tlK_len hkT]; exact hkT)
      have HP1 : Hid (∀ w' : World, Below B w w' → Rd w' N (some ⟨b, off + 4 * k, none⟩) 2 (piece (byts l) (4 * k) 2)) := Lib.hid fun w' hb => (HBY.out w' hb).sub (by have := HM.out; have := HHD.out; omega)
      have HP2 : Hid (∀ w' : World, Below B w w' → Rd w' N (some ⟨b, off + 4 * k + 2, none⟩) 1 (piece (byts l) (4 * k + 2) 1)) := Lib.hid fun w' hb => (HBY.out w' hb).sub (p := 4 * k + 2) (by have := HM.out; have := HHD.out; omega)
      clear hkT
      go_upto_region 5 with fail
      refine wp_region_lit ?_
      refine wpList_valn rfl (exec_mv rfl (ev rfl)) ?_
      simp only [Act.put, List.setIfInBounds_toArray, List.set_cons_succ, List.set_cons_zero]
      refine wpList_valn rfl (exec_as rfl (ev rfl)) ?_
      simp only [Act.put, List.setIfInBounds_toArray, List.set_cons_succ, List.set_cons_zero]
      refine wpList_nil ?_
      go_upto_region 6 with fail
      refine wp_region_lit ?_
      refine wpList_valn rfl (exec_mv rfl (ev rfl)) ?_
      simp only [Act.put, List.setIfInBounds_toArray, List.set_cons_succ, List.set_cons_zero]
      refine wpList_valn rfl (exec_mv rfl (ev rfl)) ?_
      simp only [Act.put, List.setIfInBounds_toArray, List.set_cons_succ, List.set_cons_zero]
      refine wpList_call rfl (exec_cl Tryd.call31 rfl (evc (ev rfl) (evc (ev rfl) evn))) ?_
      refine (pplace b off m c k wr (by have := HM.out; have := HLT.out; omega) (by have := HLT.out; omega)).mono ?_
      rintro e w3 ⟨rfl, rfl⟩
      refine ⟨_, rfl, ?_⟩
      simp only [Act.put, List.setIfInBounds_toArray, List.set_cons_succ, List.set_cons_zero]
      refine wpList_valn rfl (exec_as rfl (ev rfl)) ?_
      simp only [Act.put, List.setIfInBounds_toArray, List.set_cons_succ, List.set_cons_zero]
      refine wpList_nil ?_
      go_upto_region 7 with fail
      refine wp_region_lit ?_
      refine wpList_valn rfl (exec_mv rfl (ev rfl)) ?_
      simp only [Act.put, List.setIfInBounds_toArray, List.set_cons_succ, List.set_cons_zero]
      refine wpList_valn rfl (exec_mv rfl (ev rfl)) ?_
      simp only [Act.put, List.setIfInBounds_toArray, List.set_cons_succ, List.set_cons_zero]
      refine wpList_valn rfl (exec_mv rfl (ev rfl)) ?_
      simp only [Act.put, List.setIfInBounds_toArray, List.set_cons_succ, List.set_cons_zero]
      refine wpList_valn rfl (exec_cutH 2 rfl (ev rfl) evk (by omega)) ?_
      simp only [Act.put, List.setIfInBounds_toArray, List.set_cons_succ, List.set_cons_zero]
      refine wpList_call rfl (exec_cl Tryd.call32 rfl (evc (ev rfl) evn)) ?_
      refine (ptell _ 2 _ _ _ wr (HP1.out _ HBL.out) (by omega) (by omega)).mono ?_
      rintro e w3 ⟨rfl, rfl⟩
      refine ⟨_, rfl, ?_⟩
      simp only [Act.put, List.setIfInBounds_toArray, List.set_cons_succ, List.set_cons_zero]
      refine wpList_valn rfl (exec_indexC rfl (ev rfl) (ev rfl) HLT.out) ?_
      simp only [Act.put, List.setIfInBounds_toArray, List.set_cons_succ, List.set_cons_zero]
      refine wpList_valn rfl (exec_faddr rfl (ev rfl) faC0) ?_
      simp only [Act.put, List.setIfInBounds_toArray, List.set_cons_succ, List.set_cons_zero]
      refine wpList_valn rfl (exec_faddr rfl (ev rfl) faPl0) ?_
      simp only [Act.put, List.setIfInBounds_toArray, List.set_cons_succ, List.set_cons_zero]
      refine wpList_nuln rfl (exec_stInt rfl (ev rfl) (ev rfl) (HROW.out.cl_there HLT.out (j := 0) (by omega))) ?_
      simp only [Act.put, List.setIfInBounds_toArray, List.set_cons_succ, List.set_cons_zero]
      have HR2 := Lib.hid (HROW.out.cl_s HLT.out HAT.out (val 8 (piece (byts l) (4 * k) 2) : Nat))
      have HB2 := Lib.hid (below_setCells HBL.out (by have := HG.out; have := HGB.out; omega : B ≤ g) (o := k * 66) [.int .i64 (val 8 (piece (byts l) (4 * k) 2) : Nat)])
      generalize wr.setCells g (k * 66) [.int .i64 ((val 8 (piece (byts l) (4 * k) 2) : Nat) : Int)] = w4 at *
      clear HROW HBL
      refine wpList_nil ?_
      go_upto_region 8 with fail
      refine wp_region_lit ?_
      refine wpList_valn rfl (exec_mv rfl (ev rfl)) ?_
      simp only [Act.put, List.setIfInBounds_toArray, List.set_cons_succ, List.set_cons_zero]
      refine wpList_valn rfl (exec_mv rfl (ev rfl)) ?_
      simp only [Act.put, List.setIfInBounds_toArray, List.set_cons_succ, List.set_cons_zero]
      refine wpList_valn rfl (exec_mv rfl (ev rfl)) ?_
      simp only [Act.put, List.setIfInBounds_toArray, List.set_cons_succ, List.set_cons_zero]
      refine wpList_valn rfl (exec_cutM 2 3 rfl (ev rfl) evk evk (by omega) (by omega) (by omega)) ?_
      simp only [Act.put, List.setIfInBounds_toArray, List.set_cons_succ, List.set_cons_zero]
      refine wpList_call rfl (exec_cl Tryd.call32 rfl (evc (ev rfl) evn)) ?_
      refine (ptell _ 1 _ _ _ w4 (HP2.out _ HB2.out) (by omega) (by omega)).mono ?_
      rintro e w3 ⟨rfl, rfl⟩
      refine ⟨_, rfl, ?_⟩
      simp only [Act.put, List.setIfInBounds_toArray, List.set_cons_succ, List.set_cons_zero]
      refine wpList_valn rfl (exec_indexC rfl (ev rfl) (ev rfl) HLT.out) ?_
      simp only [Act.put, List.setIfInBounds_toArray, List.set_cons_succ, List.set_cons_zero]
      refine wpList_valn rfl (exec_faddr rfl (ev rfl) faC0) ?_
      simp only [Act.put, List.setIfInBounds_toArray, List.set_cons_succ, List.set_cons_zero]
      refine wpList_valn rfl (exec_faddr rfl (ev rfl) faPl1) ?_
      simp only [Act.put, List.setIfInBounds_toArray, List.set_cons_succ, List.set_cons_zero]
      refine wpList_nuln rfl (exec_stInt rfl (ev rfl) (ev rfl) (HR2.out.cl_there HLT.out (j := 1) (by omega))) ?_
      simp only [Act.put, List.setIfInBounds_toArray, List.set_cons_succ, List.set_cons_zero]
      have HR3 := Lib.hid (HR2.out.cl_m HLT.out (set_at HTN.out _) (val 8 (piece (byts l) (4 * k + 2) 1) : Nat))
      rw [List.set_set] at HR3
      have HB3 := Lib.hid (below_setCells HB2.out (by have := HG.out; have := HGB.out; omega : B ≤ g) (o := k * 66 + 1) [.int .i64 (val 8 (piece (byts l) (4 * k + 2) 1) : Nat)])
      generalize w4.setCells g (k * 66 + 1) [.int .i64 ((val 8 (piece (byts l) (4 * k + 2) 1) : Nat) : Int)] = w5 at *
      clear HR2 HB2
      refine wpList_nil ?_
      go_upto_region 9 with fail
      refine wp_region_lit ?_
      refine wpList_valn rfl (exec_mv rfl (ev rfl)) ?_
      simp only [Act.put, List.setIfInBounds_toArray, List.set_cons_succ, List.set_cons_zero]
      refine wpList_valn rfl (exec_mv rfl (ev rfl)) ?_
      simp only [Act.put, List.setIfInBounds_toArray, List.set_cons_succ, List.set_cons_zero]
      refine wpList_valn rfl (exec_mv rfl (ev rfl)) ?_
      simp only [Act.put, List.setIfInBounds_toArray, List.set_cons_succ, List.set_cons_zero]
      refine wpList_valn rfl (exec_mv rfl (ev rfl)) ?_
      simp only [Act.put, List.setIfInBounds_toArray, List.set_cons_succ, List.set_cons_zero]
      refine wpList_valn rfl (exec_index rfl (ev rfl) (ev rfl) HLT.out) ?_
      simp only [Act.put, List.setIfInBounds_toArray, List.set_cons_succ, List.set_cons_zero]
      refine wpList_valn rfl (exec_load rfl (ev rfl) (HRG.out w5 k HB3.out HLT.out)) ?_
      simp only [Act.put, List.setIfInBounds_toArray, List.set_cons_succ, List.set_cons_zero]
      refine wpList_valn rfl (exec_indexC rfl (ev rfl) (ev rfl) HLT.out) ?_
      simp only [Act.put, List.setIfInBounds_toArray, List.set_cons_succ, List.set_cons_zero]
      refine wpList_valn rfl (exec_faddr rfl (ev rfl) faC1) ?_
      simp only [Act.put, List.setIfInBounds_toArray, List.set_cons_succ, List.set_cons_zero]
      refine wpList_nuln rfl (exec_store rfl (ev rfl) (ev rfl) (HR3.out.cl_there HLT.out (j := 2) (by omega))) ?_
      simp only [Act.put, List.setIfInBounds_toArray, List.set_cons_succ, List.set_cons_zero]
      have HR4 := Lib.hid (HR3.out.cl_b HLT.out (set_at HTN.out _) (l.getD (hd n + k) zeroB))
      rw [List.set_set, HNX.out] at HR4
      have HB4 := Lib.hid (below_setCells HB3.out (by have := HG.out; have := HGB.out; omega : B ≤ g) (o := k * 66 + 2) (cel (l.getD (hd n + k) zeroB)))
      generalize w5.setCells g (k * 66 + 2) (cel (l.getD (hd n + k) zeroB)) = w6 at *
      clear HR3 HB3
      refine wpList_nil ?_
      go_wp2_with fail
      go_roundw
      case rel => exact ⟨k + 1, by omega, by go_num, HR4.out, HB4.out⟩
      case measure => simp [intOf]; omega
    · have e : k = n := by omega
      subst e
      rw [HALL.out] at HROW
      go_wp2_with fail
      go_ret
      exact ⟨_, rfl, HROW.out, HBL.out⟩
end Go.Proofs.YtfemlaombdeebaaDoor
