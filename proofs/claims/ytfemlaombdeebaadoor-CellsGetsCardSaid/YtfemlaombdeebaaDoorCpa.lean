/-
  The program's cells: laid (a record of cells that may be).
-/
import Derived.Test.YtfemlaombdeebaaDoorCpm
namespace Go.Proofs.YtfemlaombdeebaaDoor
open Go.RowKit
set_option linter.unusedVariables false
set_option linter.unusedSimpArgs false
set_option maxRecDepth 100000

theorem psize_n (n : Nat) (w : World) (h1 : 1 ≤ n) (h2 : n ≤ 32) : Calls Tryd.prog 17 #[.int .i64 (n : Int)] w fun e w' => e = .returned (.int .i64 (hd n + n : Nat)) ∧ w = w' := by
  have := psize (n : Int) w
  rwa [sizN_of h1 h2] at this
theorem pplace0 (b n c i : Nat) (w : World) (hi : i / 16 < n) (h : i ≤ 1000) :
    Calls Tryd.prog 31 #[.slice (some ⟨b, 0, none⟩) n c, .int .i64 (i : Int)] w fun e w' => e = .returned (.slice (some ⟨b, 4 * i, none⟩) 4 (64 - i % 16 * 4)) ∧ w = w' := by
  have := pplace b 0 n c i w hi h
  rwa [Nat.zero_add] at this
theorem cl_split {c : Cl} (h : okC c = true) : ∃ (s m : Nat) (b : Blk), c = ⟨(s : Int), (m : Int), b⟩ ∧ s < 64 ∧ m < 16 := by
  obtain ⟨h1, h2, h3, h4⟩ := of_okC h
  obtain ⟨s, m, b⟩ := c
  obtain ⟨s, rfl⟩ := Int.eq_ofNat_of_zero_le h1
  obtain ⟨m, rfl⟩ := Int.eq_ofNat_of_zero_le h3
  exact ⟨s, m, b, rfl, by simp only at h2; omega, by simp only at h4; omega⟩
set_option maxHeartbeats 4000000 in
theorem pclaid (A : Option Addr) (n c N B : Nat) (l : List Cl) (w : World) (HB : Hid (B = w.heap.size)) (hl : RdE CellE w N A n l) (hN : N ≤ B) (h1 : 1 ≤ n) (h32 : n ≤ 32) (hb : badC l = false) :
    Calls Tryd.prog 22 #[.slice A n c] w fun e w' => ∃ v, e = .returned v ∧ MadeB w' B v (recL l) ∧ Below B w w' := by
  have HL := Lib.hid hl.1
  have HRL := Lib.hid hl
  have HOK : Hid (∀ k, k < n → ∃ (s m : Nat) (b : Blk), l.getD k zeroC = ⟨(s : Int), (m : Int), b⟩ ∧ s < 64 ∧ m < 16) := Lib.hid fun k hk => cl_split (of_badC hb (by rw [hl.1]; exact hk))
  have HLE := Lib.hid (Nat.le_of_eq HB.out)
  have HHD := Lib.hid (show hd n ≤ 2 ∧ n ≤ 16 * hd n by unfold hd; omega)
  have HR0 := Lib.hid (rowL_made w (hd n + n))
  have HB0 := Lib.hid ((Below.refl B w).alloc (Nat.le_of_eq HB.out) (.cells (madeCells (cel zeroB).toArray ((hd n + n) * 64)) 38))
  have HZ := Lib.hid (lyL_zero l)
  have HALL := Lib.hid (lyL_all l)
  clear hl hb
  go_enter Tryd.func22, Tryd.ntmps22
  go_upto_region 1 with fail
  refine wp_region_lit ?_
  refine wpList_valn rfl (exec_mv rfl (ev rfl)) ?_
  simp only [Act.put, List.setIfInBounds_toArray, List.set_cons_succ, List.set_cons_zero]
  refine wpList_valn rfl (exec_lenC rfl (ev rfl)) ?_
  simp only [Act.put, List.setIfInBounds_toArray, List.set_cons_succ, List.set_cons_zero]
  refine wpList_call rfl (exec_cl Tryd.call30 rfl (evc (ev rfl) evn)) ?_
  refine (pheads n w (by omega)).mono ?_
  rintro e w' ⟨rfl, rfl⟩
  refine ⟨_, rfl, ?_⟩
  simp only [Act.put, List.setIfInBounds_toArray, List.set_cons_succ, List.set_cons_zero]
  refine wpList_valn rfl (exec_mv rfl (ev rfl)) ?_
  simp only [Act.put, List.setIfInBounds_toArray, List.set_cons_succ, List.set_cons_zero]
  refine wpList_valn rfl (exec_lenC rfl (ev rfl)) ?_
  simp only [Act.put, List.setIfInBounds_toArray, List.set_cons_succ, List.set_cons_zero]
  refine wpList_call rfl (exec_cl Tryd.call17 rfl (evc (ev rfl) evn)) ?_
  refine (psize_n n w h1 h32).mono ?_
  rintro e w' ⟨rfl, rfl⟩
  refine ⟨_, rfl, ?_⟩
  simp only [Act.put, List.setIfInBounds_toArray, List.set_cons_succ, List.set_cons_zero]
  refine wpList_valn rfl (exec_makeC rfl (ev rfl) (ev rfl) (by omega) (by have := HHD.out; omega)) ?_
  simp only [Act.put, List.setIfInBounds_toArray, List.set_cons_succ, List.set_cons_zero]
  refine wpList_valn rfl (exec_as rfl (ev rfl)) ?_
  simp only [Act.put, List.setIfInBounds_toArray, List.set_cons_succ, List.set_cons_zero]
  refine wpList_nil ?_
  generalize w.alloc (.cells (madeCells (cel zeroB).toArray ((hd n + n) * 64)) 38) = w1 at *
  generalize hg : w.heap.size = g at *
  have HG := Lib.hid (Nat.le_of_eq HB.out)
  have HWG := Lib.hid hg
  have HLW := Lib.hid (show B ≤ w.heap.size by have := HG.out; omega)
  clear hg HB HLE
  go_wp2_with fail
  go_loopw [3, 16] (fun v i wr => ∃ k : Nat, k ≤ n ∧ v = .slice (some ⟨g, 0, none⟩) (hd n + k) (hd n + n) ∧ i = .int .i64 k ∧ RowL wr g 38 (lyL l k) ∧ Below B w wr) (fun _ i _ => n - (intOf i).toNat)
  case atStart =>
    refine ⟨0, Nat.zero_le _, rfl, rfl, ?_, HB0.out⟩
    rw [HZ.out, HL.out]
    exact HR0.out
  case round =>
    clear HR0 HB0 HZ
    obtain ⟨k, hk, rfl, rfl, hrow, hbl⟩ := hrel
    have HROW := Lib.hid hrow
    have HBL := Lib.hid hbl
    clear hrow hbl
    by_cases hlt : k < n
    · obtain ⟨bA, oA, rfl, hA, cA⟩ := ((HRL.out.more hN).below HBL.out).cl hlt
      obtain ⟨s, m, b, hx, hs, hm⟩ := HOK.out k hlt
      have hkl : k < l.length := by rw [HL.out]; exact hlt
      have HNX := Lib.hid (lyL_next hkl hx)
      have HLA := Lib.hid (lyL_length hkl)
      have HLB := Lib.hid (lyA_length (s := s) hkl)
      have HLC := Lib.hid (lyB_length (s := s) (m := m) hkl)
      rw [HL.out] at HNX HLA HLB HLC
      rw [hx] at cA
      have HA := Lib.hid cA
      have HBW := Lib.hid (show B ≤ wr.heap.size from Nat.le_trans HLW.out HBL.out.size)
      have HQ := Lib.hid (show wr.heap.size ≠ g by have := HROW.out.lt; omega)
      have HLT := Lib.hid hlt
      have HH := Lib.hid (show hd n ≤ 2 ∧ n ≤ 16 * hd n from HHD.out)
      clear cA hx hkl
      generalize hxx : (⟨(s : Int), (m : Int), b⟩ : Cl) = x at *
      have hxs : x.s = (s : Int) := by rw [← hxx]
      have hxm : x.m = (m : Int) := by rw [← hxx]
      have hxb : x.b = b := by rw [← hxx]
      have HXS := Lib.hid hxs
      have HXM := Lib.hid hxm
      have HXB := Lib.hid hxb
      clear hxs hxm hxb hxx
      go_upto_region 4 with fail
      refine wp_region_lit ?_
      refine wpList_valn rfl (exec_mv rfl (ev rfl)) ?_
      simp only [Act.put, List.setIfInBounds_toArray, List.set_cons_succ, List.set_cons_zero]
      refine wpList_valn rfl (exec_indexE (E := CellE) rfl (ev rfl) (ev rfl) HLT.out) ?_
      simp only [Act.put, List.setIfInBounds_toArray, List.set_cons_succ, List.set_cons_zero]
      refine wpList_valn rfl (exec_loadC rfl (ev rfl) HA.out) ?_
      simp only [Act.put, List.setIfInBounds_toArray, List.set_cons_succ, List.set_cons_zero]
      refine wpList_valn rfl (exec_allocC rfl) ?_
      simp only [Act.put, List.setIfInBounds_toArray, List.set_cons_succ, List.set_cons_zero]
      refine wpList_valn rfl (exec_as rfl (ev rfl)) ?_
      simp only [Act.put, List.setIfInBounds_toArray, List.set_cons_succ, List.set_cons_zero]
      refine wpList_nuln rfl (exec_fillC rfl (ev rfl) (ev rfl)) ?_
      simp only [Act.put, List.setIfInBounds_toArray, List.set_cons_succ, List.set_cons_zero]
      have HT : Hid (LaidC B w (wr.alloc (.cells (celC x).toArray 46)) g wr.heap.size x (lyL l k)) := Lib.hid ⟨HROW.out.past _, heap_alloc_new wr _, HBL.out.alloc HBW.out _, HG.out, HQ.out⟩
      generalize wr.alloc (.cells (celC x).toArray 46) = w2 at *
      generalize wr.heap.size = q at *
      clear HA HROW HBL HQ HBW
      refine wpList_nil ?_
      go_upto_region 5 with fail
      refine wp_region_lit ?_
      refine wpList_valn rfl (exec_mv rfl (ev rfl)) ?_
      simp only [Act.put, List.setIfInBounds_toArray, List.set_cons_succ, List.set_cons_zero]
      refine wpList_valn rfl (exec_mv rfl (ev rfl)) ?_
      simp only [Act.put, List.setIfInBounds_toArray, List.set_cons_succ, List.set_cons_zero]
      refine wpList_call rfl (exec_cl Tryd.call31 rfl (evc (ev rfl) (evc (ev rfl) evn))) ?_
      refine (pplace0 g (hd n + k) (hd n + n) k w2 (by have := HH.out; have := HLT.out; omega) (by have := HLT.out; omega)).mono ?_
      rintro e w3 ⟨rfl, rfl⟩
      refine ⟨_, rfl, ?_⟩
      simp only [Act.put, List.setIfInBounds_toArray, List.set_cons_succ, List.set_cons_zero]
      refine wpList_valn rfl (exec_as rfl (ev rfl)) ?_
      simp only [Act.put, List.setIfInBounds_toArray, List.set_cons_succ, List.set_cons_zero]
      refine wpList_nil ?_
      have HT2 := Lib.hid HT.out.draw
      clear HT
      go_upto_region 6 with fail
      refine wp_region_still_tail 5 (by kernel_rfl) (by kernel_rfl) ?_
      simp only [List.take_succ_cons, List.take_zero, List.drop_succ_cons, List.drop_zero]
      refine st_val rfl (exec_mv rfl (ev rfl)) ?_
      simp only [Act.put, List.setIfInBounds_toArray, List.set_cons_succ, List.set_cons_zero]
      refine st_val rfl (exec_cutH 2 rfl (ev rfl) evk (by omega)) ?_
      simp only [Act.put, List.setIfInBounds_toArray, List.set_cons_succ, List.set_cons_zero]
      refine st_val rfl (exec_faddr rfl (ev rfl) faC0) ?_
      simp only [Act.put, List.setIfInBounds_toArray, List.set_cons_succ, List.set_cons_zero]
      refine st_val rfl (exec_faddr rfl (ev rfl) faPl0) ?_
      simp only [Act.put, List.setIfInBounds_toArray, List.set_cons_succ, List.set_cons_zero]
      refine st_val rfl (exec_ld (q := .int .i64 (s : Int)) rfl (ev rfl) (by rw [← HXS.out]; exact ldInt HT2.out.cells.1)) ?_
      simp only [Act.put, List.setIfInBounds_toArray, List.set_cons_succ, List.set_cons_zero]
      refine wpStill_nil ?_
      change wpList _ _ _ _ _ (World.drew _)
      refine wpList_call rfl (exec_cl Tryd.call34 rfl (evc (ev rfl) (evc (ev rfl) evn))) ?_
      refine (play g (4 * k) 2 _ 38 (lyL l k) s w2.drew HT2.out.row (by omega) (by omega) (by have := HLT.out; omega) (by rw [HLA.out]; have := HLT.out; omega)).mono ?_
      rintro e w3 ⟨rfl, hr, hg⟩
      have HT3 := Lib.hid (HT2.out.grow HLW.out hr hg)
      clear hr hg HT2
      refine ⟨_, rfl, ?_⟩
      simp only [Act.put, List.setIfInBounds_toArray, List.set_cons_succ, List.set_cons_zero]
      refine wpList_nil ?_
      change Hid (LaidC B w w3 g q x (lyA l k s)) at HT3
      have HT4 := Lib.hid HT3.out.draw
      clear HT3
      go_upto_region 7 with fail
      refine wp_region_still_tail 5 (by kernel_rfl) (by kernel_rfl) ?_
      simp only [List.take_succ_cons, List.take_zero, List.drop_succ_cons, List.drop_zero]
      refine st_val rfl (exec_mv rfl (ev rfl)) ?_
      simp only [Act.put, List.setIfInBounds_toArray, List.set_cons_succ, List.set_cons_zero]
      refine st_val rfl (exec_cutM 2 3 rfl (ev rfl) evk evk (by omega) (by omega) (by omega)) ?_
      simp only [Act.put, List.setIfInBounds_toArray, List.set_cons_succ, List.set_cons_zero]
      refine st_val rfl (exec_faddr rfl (ev rfl) faC0) ?_
      simp only [Act.put, List.setIfInBounds_toArray, List.set_cons_succ, List.set_cons_zero]
      refine st_val rfl (exec_faddr rfl (ev rfl) faPl1) ?_
      simp only [Act.put, List.setIfInBounds_toArray, List.set_cons_succ, List.set_cons_zero]
      refine st_val rfl (exec_ld (q := .int .i64 (m : Int)) rfl (ev rfl) (by rw [← HXM.out]; exact ldInt HT4.out.cells.2.1)) ?_
      simp only [Act.put, List.setIfInBounds_toArray, List.set_cons_succ, List.set_cons_zero]
      refine wpStill_nil ?_
      change wpList _ _ _ _ _ (World.drew _)
      refine wpList_call rfl (exec_cl Tryd.call34 rfl (evc (ev rfl) (evc (ev rfl) evn))) ?_
      refine (play g (4 * k + 2) 1 _ 38 (lyA l k s) m w3.drew HT4.out.row (by omega) (by omega) (by have := HLT.out; omega) (by rw [HLB.out]; have := HLT.out; omega)).mono ?_
      rintro e w5 ⟨rfl, hr, hg⟩
      have HT5 := Lib.hid (HT4.out.grow HLW.out hr hg)
      clear hr hg HT4
      refine ⟨_, rfl, ?_⟩
      simp only [Act.put, List.setIfInBounds_toArray, List.set_cons_succ, List.set_cons_zero]
      refine wpList_nil ?_
      change Hid (LaidC B w w5 g q x (lyB l k s m)) at HT5
      go_upto_region 8 with fail
      refine wp_region_lit ?_
      refine wpList_valn rfl (exec_mv rfl (ev rfl)) ?_
      simp only [Act.put, List.setIfInBounds_toArray, List.set_cons_succ, List.set_cons_zero]
      refine wpList_valn rfl (exec_faddr rfl (ev rfl) faC1) ?_
      simp only [Act.put, List.setIfInBounds_toArray, List.set_cons_succ, List.set_cons_zero]
      refine wpList_valn rfl (exec_load rfl (ev rfl) HT5.out.cells.2.2) ?_
      simp only [Act.put, List.setIfInBounds_toArray, List.set_cons_succ, List.set_cons_zero]
      refine wpList_valn rfl (exec_mk1B rfl (ev rfl)) ?_
      simp only [Act.put, List.setIfInBounds_toArray, List.set_cons_succ, List.set_cons_zero]
      refine wpList_appL rfl _ _ rfl g (hd n + k) (hd n + n) w5.heap.size (lyB l k s m) x.b rfl rfl (HT5.out.row.past _) ?_ (by have := HLT.out; omega) (by rw [HLC.out]; have := HLT.out; omega) ?_
      · exact range_new w5 (cel x.b) _
      intro w6 hr hg
      have HT6 := Lib.hid ((HT5.out.past HLW.out _).grow HLW.out hr hg)
      clear hr hg HT5
      simp only [Act.put, List.setIfInBounds_toArray, List.set_cons_succ, List.set_cons_zero]
      refine wpList_valn rfl (exec_as rfl (ev rfl)) ?_
      simp only [Act.put, List.setIfInBounds_toArray, List.set_cons_succ, List.set_cons_zero]
      refine wpList_nil ?_
      rw [HXB.out] at HT6
      rw [HNX.out] at HT6
      go_wp2_with fail
      go_roundw
      case rel => exact ⟨k + 1, by omega, rfl, by go_num, HT6.out.row, HT6.out.bel⟩
      case measure => simp [intOf]; omega
    · have e : k = n := by omega
      subst e
      have hr := HROW.out
      rw [← HL.out, HALL.out] at hr
      have hh := hr.holds
      have HM := Lib.hid (hh.made HG.out (by rw [recL_length, HL.out]; have := HHD.out; unfold maxLen; omega))
      rw [recL_length, HL.out] at HM
      clear hr hh
      go_wp2_with fail
      go_ret
      exact ⟨_, rfl, HM.out, HBL.out⟩
end Go.Proofs.YtfemlaombdeebaaDoor
