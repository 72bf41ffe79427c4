import Derived.Test.YtbbcdhkinbmdnaaGreatDoorLoam
import Derived.Test.YtbbcdhkinbmdnaaGreatDoorLoba
import Derived.Test.YtbbcdhkinbmdnaaGreatDoorLoad
import Derived.Test.YtbbcdhkinbmdnaaGreatDoorLoaf
import Derived.Deep.DeepCutAuto
import Derived.Test.YtbbcdhkinbmdnaaGreatDoorLoZ
namespace Go.Proofs.YtbbcdhkinbmdnaaGreatDoor
open Go.RowKit
set_option linter.unusedVariables false
set_option linter.unusedSimpArgs false
set_option maxRecDepth 100000
theorem psize_n (n : Nat) (w : World) (h1 : 1 ≤ n) (h2 : n ≤ 32) : Calls Tryz.prog 121 #[.int .i64 (n : Int)] w fun e w' => e = .returned (.int .i64 (hd n + n : Nat)) ∧ w = w' := by
 have := psize (n : Int) w
 rwa [fv h1 h2] at this
theorem pplace0 (b n c i : Nat) (w : World) (hi : i / 16 < n) (h : i ≤ 1000) :
  Calls Tryz.prog 154 #[.slice (some ⟨b, 0, none⟩) n c, .int .i64 (i : Int)] w fun e w' => e = .returned (.slice (some ⟨b, 4 * i, none⟩) 4 (64 - i % 16 * 4)) ∧ w = w' := by
 have := pplace b 0 n c i w hi h
 rwa [Nat.zero_add] at this
theorem cl_split {c : Cl} (h : okC c = true) : ∃ (s m : Nat) (b : Blk), c = ⟨(s : Int), (m : Int), b⟩ ∧ s < 64 ∧ m < 16 := by
 obtain ⟨h1, h2, h3, h4⟩ := of_okC h
 obtain ⟨s, m, b⟩ := c
 obtain ⟨s, rfl⟩ := Int.eq_ofNat_of_zero_le h1
 obtain ⟨m, rfl⟩ := Int.eq_ofNat_of_zero_le h3
 exact ⟨s, m, b, rfl, by simp only at h2; omega, by simp only at h4; omega⟩
set_option maxHeartbeats 4000000 in
theorem pclaid (A : Option Addr) (n c N B : Nat) (l : List Cl) (w : World) (HB : Hid (B = w.heap.size)) (hl : RdE bY w N A n l) (hN : N ≤ B) (h1 : 1 ≤ n) (h32 : n ≤ 32) (hb : badC l = false) :
  Calls Tryz.prog 117 #[.slice A n c] w fun e w' => ∃ v, e = .returned v ∧ dr w' B v (bS l) ∧ Below B w w' := by
 have HL := af hl.1
 have HRL := af hl
 have HOK : Hid (∀ k, k < n → ∃ (s m : Nat) (b : Blk), l.getD k cC = ⟨(s : Int), (m : Int), b⟩ ∧ s < 64 ∧ m < 16) := af fun k hk => cl_split (of_badC hb (by rw [hl.1]; exact hk))
 have HLE := af (Nat.le_of_eq HB.out)
 have HHD := af (show hd n ≤ 2 ∧ n ≤ 16 * hd n by unfold hd; omega)
 have HR0 := af (rowL_made w (hd n + n))
 have HB0 := af ((Below.refl B w).alloc (Nat.le_of_eq HB.out) (.cells (madeCells (cel ap).toArray ((hd n + n) * 64)) 29))
 have HZ := af (lyL_zero l)
 have HALL := af (lyL_all l)
 clear hl hb
 go_enter Tryz.func117, Tryz.ntmps117
 go_upto_region 1 with fail
 refine ag ?_
 refine ai rfl (aj rfl (ev rfl)) ?_;simp only [aa]
 refine ai rfl (exec_lenC rfl (ev rfl)) ?_;simp only [aa]
 refine ar rfl (av Tryz.call153 rfl (evc (ev rfl) evn)) ?_
 refine (pheads n w (by omega)).mono ?_
 rintro e w' ⟨rfl, rfl⟩
 refine ⟨_, rfl, ?_⟩
 simp only [aa]
 refine ai rfl (aj rfl (ev rfl)) ?_;simp only [aa]
 refine ai rfl (exec_lenC rfl (ev rfl)) ?_;simp only [aa]
 refine ar rfl (av Tryz.call121 rfl (evc (ev rfl) evn)) ?_
 refine (psize_n n w h1 h32).mono ?_
 rintro e w' ⟨rfl, rfl⟩
 refine ⟨_, rfl, ?_⟩
 simp only [aa]
 refine ai rfl (exec_makeC rfl (ev rfl) (ev rfl) (by omega) (by have := HHD.out; omega)) ?_;simp only [aa]
 refine ai rfl (aq rfl (ev rfl)) ?_;simp only [aa]
 refine ah ?_
 generalize w.alloc (.cells (madeCells (cel ap).toArray ((hd n + n) * 64)) 29) = w1 at *
 generalize hg : w.heap.size = g at *
 have HG := af (Nat.le_of_eq HB.out)
 have HWG := af hg
 have HLW := af (show B ≤ w.heap.size by have := HG.out; omega)
 clear hg HB HLE
 go_wp2_with fail
 go_loopw [3, 16] (fun v i wr => ∃ k : Nat, k ≤ n ∧ v = .slice (some ⟨g, 0, none⟩) (hd n + k) (hd n + n) ∧ i = .int .i64 k ∧ bR wr g 29 (lyL l k) ∧ Below B w wr) (fun _ i _ => n - (intOf i).toNat)
 case atStart =>
  refine ⟨0, Nat.zero_le _, rfl, rfl, ?_, HB0.out⟩
  rw [HZ.out, HL.out]
  exact HR0.out
 case round =>
  clear HR0 HB0 HZ
  obtain ⟨k, hk, rfl, rfl, hrow, hbl⟩ := hrel
  have HROW := af hrow
  have HBL := af hbl
  clear hrow hbl
  by_cases hlt : k < n
  ·obtain ⟨bA, oA, rfl, hA, cA⟩ := ((HRL.out.more hN).below HBL.out).cl hlt
   obtain ⟨s, m, b, hx, hs, hm⟩ := HOK.out k hlt
   have hkl : k < l.length := by rw [HL.out]; exact hlt
   have HNX := af (lyL_next hkl hx)
   have HLA := af (lyL_length hkl)
   have HLB := af (lyA_length (s := s) hkl)
   have HLC := af (lyB_length (s := s) (m := m) hkl)
   rw [HL.out] at HNX HLA HLB HLC
   rw [hx] at cA
   have HA := af cA
   have HBW := af (show B ≤ wr.heap.size from Nat.le_trans HLW.out HBL.out.size)
   have HQ := af (show wr.heap.size ≠ g by have := HROW.out.lt; omega)
   have HLT := af hlt
   have HH := af (show hd n ≤ 2 ∧ n ≤ 16 * hd n from HHD.out)
   clear cA hx hkl
   generalize hxx : (⟨(s : Int), (m : Int), b⟩ : Cl) = x at *
   have hxs : x.s = (s : Int) := by rw [← hxx]
   have hxm : x.m = (m : Int) := by rw [← hxx]
   have hxb : x.b = b := by rw [← hxx]
   have HXS := af hxs
   have HXM := af hxm
   have HXB := af hxb
   clear hxs hxm hxb hxx
   go_upto_region 4 with fail
   refine ag ?_
   refine ai rfl (aj rfl (ev rfl)) ?_;simp only [aa]
   refine ai rfl (bQ (E := bY) rfl (ev rfl) (ev rfl) HLT.out) ?_;simp only [aa]
   refine ai rfl (exec_loadC rfl (ev rfl) HA.out) ?_;simp only [aa]
   refine ai rfl (exec_allocC rfl) ?_;simp only [aa]
   refine ai rfl (aq rfl (ev rfl)) ?_;simp only [aa]
   refine az rfl (exec_fillC rfl (ev rfl) (ev rfl)) ?_;simp only [aa]
   have HT : Hid (LaidC B w (wr.alloc (.cells (cG x).toArray 110)) g wr.heap.size x (lyL l k)) := af ⟨HROW.out.past _, heap_alloc_new wr _, HBL.out.alloc HBW.out _, HG.out, HQ.out⟩
   generalize wr.alloc (.cells (cG x).toArray 110) = w2 at *
   generalize wr.heap.size = q at *
   clear HA HROW HBL HQ HBW
   refine ah ?_
   go_upto_region 5 with fail
   refine ag ?_
   refine ai rfl (aj rfl (ev rfl)) ?_;simp only [aa]
   refine ai rfl (aj rfl (ev rfl)) ?_;simp only [aa]
   refine ar rfl (av Tryz.call154 rfl (evc (ev rfl) (evc (ev rfl) evn))) ?_
   refine (pplace0 g (hd n + k) (hd n + n) k w2 (by have := HH.out; have := HLT.out; omega) (by have := HLT.out; omega)).mono ?_
   rintro e w3 ⟨rfl, rfl⟩
   refine ⟨_, rfl, ?_⟩
   simp only [aa]
   refine ai rfl (aq rfl (ev rfl)) ?_;simp only [aa]
   refine ah ?_
   have HT2 := af HT.out.draw
   clear HT
   go_upto_region 6 with fail
   refine wp_region_still_tail 5 (by kernel_rfl) (by kernel_rfl) ?_
   simp only [ae]
   refine aF rfl (aj rfl (ev rfl)) ?_;simp only [aa]
   refine aF rfl (exec_cutH 2 rfl (ev rfl) evk (by omega)) ?_;simp only [aa]
   refine aF rfl (am rfl (ev rfl) faC0) ?_;simp only [aa]
   refine aF rfl (am rfl (ev rfl) eI) ?_;simp only [aa]
   refine aF rfl (au (q := .int .i64 (s : Int)) rfl (ev rfl) (by rw [← HXS.out]; exact bj HT2.out.cells.1)) ?_;simp only [aa]
   refine wpStill_nil ?_
   change wpList _ _ _ _ _ (World.drew _)
   refine ar rfl (av Tryz.call155 rfl (evc (ev rfl) (evc (ev rfl) evn))) ?_
   refine (play g (4 * k) 2 _ 29 (lyL l k) s w2.drew HT2.out.row (by omega) (by omega) (by have := HLT.out; omega) (by rw [HLA.out]; have := HLT.out; omega)).mono ?_
   rintro e w3 ⟨rfl, hr, hg⟩
   have HT3 := af (HT2.out.grow HLW.out hr hg)
   clear hr hg HT2
   refine ⟨_, rfl, ?_⟩
   simp only [aa]
   refine ah ?_
   change Hid (LaidC B w w3 g q x (lyA l k s)) at HT3
   have HT4 := af HT3.out.draw
   clear HT3
   go_upto_region 7 with fail
   refine wp_region_still_tail 5 (by kernel_rfl) (by kernel_rfl) ?_
   simp only [ae]
   refine aF rfl (aj rfl (ev rfl)) ?_;simp only [aa]
   refine aF rfl (exec_cutM 2 3 rfl (ev rfl) evk evk (by omega) (by omega) (by omega)) ?_;simp only [aa]
   refine aF rfl (am rfl (ev rfl) faC0) ?_;simp only [aa]
   refine aF rfl (am rfl (ev rfl) faPl1) ?_;simp only [aa]
   refine aF rfl (au (q := .int .i64 (m : Int)) rfl (ev rfl) (by rw [← HXM.out]; exact bj HT4.out.cells.2.1)) ?_;simp only [aa]
   refine wpStill_nil ?_
   change wpList _ _ _ _ _ (World.drew _)
   refine ar rfl (av Tryz.call155 rfl (evc (ev rfl) (evc (ev rfl) evn))) ?_
   refine (play g (4 * k + 2) 1 _ 29 (lyA l k s) m w3.drew HT4.out.row (by omega) (by omega) (by have := HLT.out; omega) (by rw [HLB.out]; have := HLT.out; omega)).mono ?_
   rintro e w5 ⟨rfl, hr, hg⟩
   have HT5 := af (HT4.out.grow HLW.out hr hg)
   clear hr hg HT4
   refine ⟨_, rfl, ?_⟩
   simp only [aa]
   refine ah ?_
   change Hid (LaidC B w w5 g q x (lyB l k s m)) at HT5
   go_upto_region 8 with fail
   refine ag ?_
   refine ai rfl (aj rfl (ev rfl)) ?_;simp only [aa]
   refine ai rfl (am rfl (ev rfl) faC1) ?_;simp only [aa]
   refine ai rfl (aS rfl (ev rfl) HT5.out.cells.2.2) ?_;simp only [aa]
   refine ai rfl (exec_mk1B rfl (ev rfl)) ?_;simp only [aa]
   refine wpList_appL rfl _ _ rfl g (hd n + k) (hd n + n) w5.heap.size (lyB l k s m) x.b rfl rfl (HT5.out.row.past _) ?_ (by have := HLT.out; omega) (by rw [HLC.out]; have := HLT.out; omega) ?_
   ·exact cf w5 (cel x.b) _
   intro w6 hr hg
   have HT6 := af ((HT5.out.past HLW.out _).grow HLW.out hr hg)
   clear hr hg HT5
   simp only [aa]
   refine ai rfl (aq rfl (ev rfl)) ?_;simp only [aa]
   refine ah ?_
   rw [HXB.out] at HT6
   rw [HNX.out] at HT6
   go_wp2_with fail
   go_roundw
   case rel => exact ⟨k + 1, by omega, rfl, by go_num, HT6.out.row, HT6.out.bel⟩
   case measure => simp [intOf]; omega
  ·have e : k = n := by omega
   subst e
   have hr := HROW.out
   rw [← HL.out, HALL.out] at hr
   have hh := hr.holds
   have HM := af (hh.made HG.out (by rw [ca, HL.out]; have := HHD.out; unfold maxLen; omega))
   rw [ca, HL.out] at HM
   clear hr hh
   go_wp2_with fail
   go_ret
   exact ⟨_, rfl, HM.out, HBL.out⟩
theorem tail_at (b off c k : Nat) (h : k < c) : tailAt (some ⟨b, off, none⟩) c k = some ⟨b, off + k * 64, none⟩ := by
 unfold tailAt
 rw [if_neg (by omega)]
 simp [Addr.add_mid]
set_option maxHeartbeats 4000000 in
theorem pctold (b off m c N B : Nat) (l : List Blk) (n : Nat) (w : World) (HB : Hid (B = w.heap.size)) (hl : RdB w N (some ⟨b, off, none⟩) m l) (hN : N ≤ B) (h1 : 1 ≤ n) (h32 : n ≤ 32) (hm : m = hd n + n) (hc : m ≤ c) :
  Calls Tryz.prog 133 #[.slice (some ⟨b, off, none⟩) m c, .int .i64 (n : Int)] w fun e w' => ∃ v, e = .returned v ∧ aH bY w' B v (tol l n) ∧ Below B w w' := by
 have hlen : l.length = hd n + n := by rw [hl.1, hm]
 have HM := af hm
 have HHD := af (show hd n ≤ 2 ∧ n ≤ 16 * hd n by unfold hd; omega)
 have HBY : Hid (∀ w' : World, Below B w w' → Rd w' N (some ⟨b, off, none⟩) (64 * m) (bJ l)) := af fun w' hb => (hl.below (hb.mono hN)).bJ
 have HRG : Hid (∀ (w' : World) (k : Nat), Below B w w' → k < n → w'.rangeAt b (off + hd n * 64 + k * 64) (cel (l.getD (hd n + k) ap))) := af fun w' k hb hk => by
  obtain ⟨b', off', e, _, hr⟩ := (hl.below (hb.mono hN)).2 (hd n + k) (by omega)
  injection e with e
  injection e with e1 e2
  subst e1 e2
  rwa [show off + (hd n + k) * 64 = off + hd n * 64 + k * 64 by omega] at hr
 have HLE := af (Nat.le_of_eq HB.out)
 have HR0 := af (cells_made w n B (Nat.le_of_eq HB.out) (by omega))
 have HB0 := af ((Below.refl B w).alloc (Nat.le_of_eq HB.out) (.cells (madeCells bY.z.cells (n * bY.n)) bY.t))
 have HTL := af (b9 l n)
 have HTA : Hid (∀ k, k < n → (tol l n).getD k cC = ⟨val 8 (piece (bJ l) (4 * k) 2), val 8 (piece (bJ l) (4 * k + 2) 1), l.getD (hd n + k) ap⟩) := af fun k hk => tol_at hk
 have HZ := af (tlK_zero (tol l n))
 have HALL := af (tlK_all (tol l n))
 have HTT := af (tail_at b off c (hd n) (by omega))
 have HGB := af (show B ≤ w.heap.size from Nat.le_of_eq HB.out)
 clear hl hm hlen
 rw [HTL.out] at HZ HALL
 generalize tol l n = T at *
 go_enter Tryz.func133, Tryz.ntmps133
 go_upto_region 1 with fail
 refine ag ?_
 refine ai rfl (aj rfl (ev rfl)) ?_;simp only [aa]
 refine ai rfl (exec_makeE (E := bY) rfl (ev rfl) (ev rfl) (by omega)) ?_;simp only [aa]
 generalize w.alloc (.cells (madeCells bY.z.cells (n * bY.n)) bY.t) = w1 at *
 generalize hg : w.heap.size = g at HR0 ⊢
 have HG := af hg
 clear hg
 refine ai rfl (aq rfl (ev rfl)) ?_;simp only [aa]
 refine ah ?_
 go_upto_region 2 with fail
 refine ag ?_
 refine ai rfl (aj rfl (ev rfl)) ?_;simp only [aa]
 refine ai rfl (aj rfl (ev rfl)) ?_;simp only [aa]
 refine ar rfl (av Tryz.call153 rfl (evc (ev rfl) evn)) ?_
 refine (pheads n w1 (by omega)).mono ?_
 rintro e w' ⟨rfl, rfl⟩
 refine ⟨_, rfl, ?_⟩
 simp only [aa]
 refine ai rfl (exec_tail rfl (ev rfl) (ev rfl) (by have := HM.out; omega)) ?_;simp only [aa]
 refine ai rfl (aq rfl (ev rfl)) ?_;simp only [aa]
 refine ah ?_
 rw [HTT.out]
 have HMN := af (show m - hd n = n by have := HM.out; omega)
 rw [HMN.out]
 go_wp2_with fail
 go_loopw [17] (fun i wr => ∃ k : Nat, k ≤ n ∧ i = .int .i64 k ∧ aH bY wr B (.slice (some ⟨g, 0, none⟩) n n) (tlK T k) ∧ Below B w wr) (fun i _ => n - (intOf i).toNat)
 case atStart => exact ⟨0, Nat.zero_le _, rfl, by rw [HZ.out]; exact HR0.out, HB0.out⟩
 case round =>
  clear HR0 HB0 HZ
  obtain ⟨k, hk, rfl, hrow, hbl⟩ := hrel
  have HROW := af hrow
  have HBL := af hbl
  clear hrow hbl
  by_cases hlt : k < n
  ·have hkT : k < T.length := by rw [HTL.out]; exact hlt
   have HLT := af hlt
   have HNX := af (tlK_set hkT)
   rw [HTA.out k hlt] at HNX
   have HAT := af (tlK_at hkT)
   have HTN := af (show k < (tlK T k).length by rw [tlK_len hkT]; exact hkT)
   have HP1 : Hid (∀ w' : World, Below B w w' → Rd w' N (some ⟨b, off + 4 * k, none⟩) 2 (piece (bJ l) (4 * k) 2)) := af fun w' hb => (HBY.out w' hb).sub (by have := HM.out; have := HHD.out; omega)
   have HP2 : Hid (∀ w' : World, Below B w w' → Rd w' N (some ⟨b, off + 4 * k + 2, none⟩) 1 (piece (bJ l) (4 * k + 2) 1)) := af fun w' hb => (HBY.out w' hb).sub (p := 4 * k + 2) (by have := HM.out; have := HHD.out; omega)
   clear hkT
   go_upto_region 5 with fail
   refine ag ?_
   refine ai rfl (aj rfl (ev rfl)) ?_;simp only [aa]
   refine ai rfl (aq rfl (ev rfl)) ?_;simp only [aa]
   refine ah ?_
   go_upto_region 6 with fail
   refine ag ?_
   refine ai rfl (aj rfl (ev rfl)) ?_;simp only [aa]
   refine ai rfl (aj rfl (ev rfl)) ?_;simp only [aa]
   refine ar rfl (av Tryz.call154 rfl (evc (ev rfl) (evc (ev rfl) evn))) ?_
   refine (pplace b off m c k wr (by have := HM.out; have := HLT.out; omega) (by have := HLT.out; omega)).mono ?_
   rintro e w3 ⟨rfl, rfl⟩
   refine ⟨_, rfl, ?_⟩
   simp only [aa]
   refine ai rfl (aq rfl (ev rfl)) ?_;simp only [aa]
   refine ah ?_
   go_upto_region 7 with fail
   refine ag ?_
   iterate 3 (refine ai rfl (aj rfl (ev rfl)) ?_;simp only [aa])
   refine ai rfl (exec_cutH 2 rfl (ev rfl) evk (by omega)) ?_;simp only [aa]
   refine ar rfl (av Tryz.call164 rfl (evc (ev rfl) evn)) ?_
   refine (ptell _ 2 _ _ _ wr (HP1.out _ HBL.out) (by omega) (by omega)).mono ?_
   rintro e w3 ⟨rfl, rfl⟩
   refine ⟨_, rfl, ?_⟩
   simp only [aa]
   refine ai rfl (exec_indexC rfl (ev rfl) (ev rfl) HLT.out) ?_;simp only [aa]
   refine ai rfl (am rfl (ev rfl) faC0) ?_;simp only [aa]
   refine ai rfl (am rfl (ev rfl) eI) ?_;simp only [aa]
   refine az rfl (exec_stInt rfl (ev rfl) (ev rfl) (HROW.out.cl_there HLT.out (j := 0) (by omega))) ?_;simp only [aa]
   have HR2 := af (HROW.out.cl_s HLT.out HAT.out (val 8 (piece (bJ l) (4 * k) 2) : Nat))
   have HB2 := af (below_setCells HBL.out (by have := HG.out; have := HGB.out; omega : B ≤ g) (o := k * 66) [.int .i64 (val 8 (piece (bJ l) (4 * k) 2) : Nat)])
   generalize wr.setCells g (k * 66) [.int .i64 ((val 8 (piece (bJ l) (4 * k) 2) : Nat) : Int)] = w4 at *
   clear HROW HBL
   refine ah ?_
   go_upto_region 8 with fail
   refine ag ?_
   iterate 3 (refine ai rfl (aj rfl (ev rfl)) ?_;simp only [aa])
   refine ai rfl (exec_cutM 2 3 rfl (ev rfl) evk evk (by omega) (by omega) (by omega)) ?_;simp only [aa]
   refine ar rfl (av Tryz.call164 rfl (evc (ev rfl) evn)) ?_
   refine (ptell _ 1 _ _ _ w4 (HP2.out _ HB2.out) (by omega) (by omega)).mono ?_
   rintro e w3 ⟨rfl, rfl⟩
   refine ⟨_, rfl, ?_⟩
   simp only [aa]
   refine ai rfl (exec_indexC rfl (ev rfl) (ev rfl) HLT.out) ?_;simp only [aa]
   refine ai rfl (am rfl (ev rfl) faC0) ?_;simp only [aa]
   refine ai rfl (am rfl (ev rfl) faPl1) ?_;simp only [aa]
   refine az rfl (exec_stInt rfl (ev rfl) (ev rfl) (HR2.out.cl_there HLT.out (j := 1) (by omega))) ?_;simp only [aa]
   have HR3 := af (HR2.out.cl_m HLT.out (set_at HTN.out _) (val 8 (piece (bJ l) (4 * k + 2) 1) : Nat))
   rw [List.set_set] at HR3
   have HB3 := af (below_setCells HB2.out (by have := HG.out; have := HGB.out; omega : B ≤ g) (o := k * 66 + 1) [.int .i64 (val 8 (piece (bJ l) (4 * k + 2) 1) : Nat)])
   generalize w4.setCells g (k * 66 + 1) [.int .i64 ((val 8 (piece (bJ l) (4 * k + 2) 1) : Nat) : Int)] = w5 at *
   clear HR2 HB2
   refine ah ?_
   go_upto_region 9 with fail
   refine ag ?_
   iterate 4 (refine ai rfl (aj rfl (ev rfl)) ?_;simp only [aa])
   refine ai rfl (dD rfl (ev rfl) (ev rfl) HLT.out) ?_;simp only [aa]
   refine ai rfl (aS rfl (ev rfl) (HRG.out w5 k HB3.out HLT.out)) ?_;simp only [aa]
   refine ai rfl (exec_indexC rfl (ev rfl) (ev rfl) HLT.out) ?_;simp only [aa]
   refine ai rfl (am rfl (ev rfl) faC1) ?_;simp only [aa]
   refine az rfl (aR rfl (ev rfl) (ev rfl) (HR3.out.cl_there HLT.out (j := 2) (by omega))) ?_;simp only [aa]
   have HR4 := af (HR3.out.cl_b HLT.out (set_at HTN.out _) (l.getD (hd n + k) ap))
   rw [List.set_set, HNX.out] at HR4
   have HB4 := af (below_setCells HB3.out (by have := HG.out; have := HGB.out; omega : B ≤ g) (o := k * 66 + 2) (cel (l.getD (hd n + k) ap)))
   generalize w5.setCells g (k * 66 + 2) (cel (l.getD (hd n + k) ap)) = w6 at *
   clear HR3 HB3
   refine ah ?_
   go_wp2_with fail
   go_roundw
   case rel => exact ⟨k + 1, by omega, by go_num, HR4.out, HB4.out⟩
   case measure => simp [intOf]; omega
  ·have e : k = n := by omega
   subst e
   rw [HALL.out] at HROW
   go_wp2_with fail
   go_ret
   exact ⟨_, rfl, HROW.out, HBL.out⟩
theorem dY (w : World) (cs : List Value) (t : TypeId) : (w.alloc (.cells cs.toArray t)).rangeAt w.heap.size 0 cs := cf w cs t
set_option maxHeartbeats 1000000 in
theorem pstr_0 {c : Cl} (h0 : decide (c.s < 0) = true) (w : World) : Calls Tryz.prog 116 #[clV c] w fun e w' => e = .returned (.bool true) ∧ Below w.heap.size w w' := by
 have H0 := af h0
 clear h0
 have HR := af (dY w (cG c) 110)
 have HB := af ((Below.refl w.heap.size w).alloc (Nat.le_refl _) (.cells (cG c).toArray 110))
 go_enter Tryz.func116, Tryz.ntmps116
 go_upto_region 1 with (first | (refine ai rfl (exec_boxC rfl rfl) ?_) | fail)
 generalize w.alloc (.cells (cG c).toArray 110) = w1 at *
 refine ag ?_
 refine ai rfl (am rfl (ev rfl) faC0) ?_;simp only [aa]
 refine ai rfl (dN rfl (ev rfl) (cl_place HR.out)) ?_;simp only [aa]
 refine ai rfl (ej rfl) ?_;simp only [aa]
 refine az rfl (eQ rfl (ev rfl) (ev rfl)) ?_;simp only [aa]
 have HP := af (ed (dY w1 (cK c.s c.m) 108))
 have HB2 := af (HB.out.alloc HB.out.size (.cells (cK c.s c.m).toArray 108))
 generalize w1.alloc (.cells (cK c.s c.m).toArray 108) = w2 at *
 generalize w1.heap.size = g at *
 clear HR HB
 refine ah ?_
 go_upto_region 2 with fail
 refine ag ?_
 refine ai rfl (am rfl (ev rfl) eI) ?_;simp only [aa]
 refine ai rfl (au rfl (ev rfl) (bj HP.out.1)) ?_;simp only [aa]
 refine ai (v := .bool true) rfl (aZ true rfl (ev rfl) evk H0.out) ?_;simp only [aa]
 refine aC 3 (v := .bool true) rfl (aj rfl (ev rfl)) (by kernel_rfl) ?_
 simp only [aJ, ae, aa]
 refine ai (v := .bool true) rfl (aG rfl (ev rfl) evk) ?_;simp only [aa]
 refine aC 3 (v := .bool true) rfl (aj rfl (ev rfl)) (by kernel_rfl) ?_
 simp only [aJ, ae, aa]
 refine ai (v := .bool true) rfl (aG rfl (ev rfl) evk) ?_;simp only [aa]
 refine aC 3 (v := .bool true) rfl (aj rfl (ev rfl)) (by kernel_rfl) ?_
 simp only [aJ, ae, aa]
 refine ai (v := .bool true) rfl (aG rfl (ev rfl) evk) ?_;simp only [aa]
 refine ai (v := .bool true) rfl (aq rfl (ev rfl)) ?_;simp only [aa]
 refine ah ?_
 go_wp2_with fail
 go_ret
 exact ⟨rfl, HB2.out⟩
set_option maxHeartbeats 1000000 in
theorem pstr_1 {c : Cl} (h0 : decide (c.s < 0) = false) (h1 : decide (64 ≤ c.s) = true) (w : World) : Calls Tryz.prog 116 #[clV c] w fun e w' => e = .returned (.bool true) ∧ Below w.heap.size w w' := by
 have H0 := af h0
 have H1 := af h1
 clear h0 h1
 have HR := af (dY w (cG c) 110)
 have HB := af ((Below.refl w.heap.size w).alloc (Nat.le_refl _) (.cells (cG c).toArray 110))
 go_enter Tryz.func116, Tryz.ntmps116
 go_upto_region 1 with (first | (refine ai rfl (exec_boxC rfl rfl) ?_) | fail)
 generalize w.alloc (.cells (cG c).toArray 110) = w1 at *
 refine ag ?_
 refine ai rfl (am rfl (ev rfl) faC0) ?_;simp only [aa]
 refine ai rfl (dN rfl (ev rfl) (cl_place HR.out)) ?_;simp only [aa]
 refine ai rfl (ej rfl) ?_;simp only [aa]
 refine az rfl (eQ rfl (ev rfl) (ev rfl)) ?_;simp only [aa]
 have HP := af (ed (dY w1 (cK c.s c.m) 108))
 have HB2 := af (HB.out.alloc HB.out.size (.cells (cK c.s c.m).toArray 108))
 generalize w1.alloc (.cells (cK c.s c.m).toArray 108) = w2 at *
 generalize w1.heap.size = g at *
 clear HR HB
 refine ah ?_
 go_upto_region 2 with fail
 refine ag ?_
 refine ai rfl (am rfl (ev rfl) eI) ?_;simp only [aa]
 refine ai rfl (au rfl (ev rfl) (bj HP.out.1)) ?_;simp only [aa]
 refine ai (v := .bool false) rfl (aZ false rfl (ev rfl) evk H0.out) ?_;simp only [aa]
 refine ai (v := .bool false) rfl (aj rfl (ev rfl)) ?_;simp only [aa]
 refine al gr (am rfl (ev rfl) eI) ?_;simp only [aa]
 refine al gr (au rfl (ev rfl) (bj HP.out.1)) ?_;simp only [aa]
 refine al (v := .bool true) gr (ce true rfl (ev rfl) evk H1.out) ?_;simp only [aa]
 refine ai (v := .bool true) rfl (aE rfl (ev rfl) (ev rfl)) ?_;simp only [aa]
 refine aC 3 (v := .bool true) rfl (aj rfl (ev rfl)) (by kernel_rfl) ?_
 simp only [aJ, ae, aa]
 refine ai (v := .bool true) rfl (aG rfl (ev rfl) evk) ?_;simp only [aa]
 refine aC 3 (v := .bool true) rfl (aj rfl (ev rfl)) (by kernel_rfl) ?_
 simp only [aJ, ae, aa]
 refine ai (v := .bool true) rfl (aG rfl (ev rfl) evk) ?_;simp only [aa]
 refine ai (v := .bool true) rfl (aq rfl (ev rfl)) ?_;simp only [aa]
 refine ah ?_
 go_wp2_with fail
 go_ret
 exact ⟨rfl, HB2.out⟩
set_option maxHeartbeats 1000000 in
theorem pstr_2 {c : Cl} (h0 : decide (c.s < 0) = false) (h1 : decide (64 ≤ c.s) = false) (h2 : decide (c.m < 0) = true) (w : World) : Calls Tryz.prog 116 #[clV c] w fun e w' => e = .returned (.bool true) ∧ Below w.heap.size w w' := by
 have H0 := af h0
 have H1 := af h1
 have H2 := af h2
 clear h0 h1 h2
 have HR := af (dY w (cG c) 110)
 have HB := af ((Below.refl w.heap.size w).alloc (Nat.le_refl _) (.cells (cG c).toArray 110))
 go_enter Tryz.func116, Tryz.ntmps116
 go_upto_region 1 with (first | (refine ai rfl (exec_boxC rfl rfl) ?_) | fail)
 generalize w.alloc (.cells (cG c).toArray 110) = w1 at *
 refine ag ?_
 refine ai rfl (am rfl (ev rfl) faC0) ?_;simp only [aa]
 refine ai rfl (dN rfl (ev rfl) (cl_place HR.out)) ?_;simp only [aa]
 refine ai rfl (ej rfl) ?_;simp only [aa]
 refine az rfl (eQ rfl (ev rfl) (ev rfl)) ?_;simp only [aa]
 have HP := af (ed (dY w1 (cK c.s c.m) 108))
 have HB2 := af (HB.out.alloc HB.out.size (.cells (cK c.s c.m).toArray 108))
 generalize w1.alloc (.cells (cK c.s c.m).toArray 108) = w2 at *
 generalize w1.heap.size = g at *
 clear HR HB
 refine ah ?_
 go_upto_region 2 with fail
 refine ag ?_
 refine ai rfl (am rfl (ev rfl) eI) ?_;simp only [aa]
 refine ai rfl (au rfl (ev rfl) (bj HP.out.1)) ?_;simp only [aa]
 refine ai (v := .bool false) rfl (aZ false rfl (ev rfl) evk H0.out) ?_;simp only [aa]
 refine ai (v := .bool false) rfl (aj rfl (ev rfl)) ?_;simp only [aa]
 refine al gr (am rfl (ev rfl) eI) ?_;simp only [aa]
 refine al gr (au rfl (ev rfl) (bj HP.out.1)) ?_;simp only [aa]
 refine al (v := .bool false) gr (ce false rfl (ev rfl) evk H1.out) ?_;simp only [aa]
 refine ai (v := .bool false) rfl (aE rfl (ev rfl) (ev rfl)) ?_;simp only [aa]
 refine ai (v := .bool false) rfl (aj rfl (ev rfl)) ?_;simp only [aa]
 refine al gr (am rfl (ev rfl) faPl1) ?_;simp only [aa]
 refine al gr (au rfl (ev rfl) (bj HP.out.2)) ?_;simp only [aa]
 refine al (v := .bool true) gr (aZ true rfl (ev rfl) evk H2.out) ?_;simp only [aa]
 refine ai (v := .bool true) rfl (aE rfl (ev rfl) (ev rfl)) ?_;simp only [aa]
 refine aC 3 (v := .bool true) rfl (aj rfl (ev rfl)) (by kernel_rfl) ?_
 simp only [aJ, ae, aa]
 refine ai (v := .bool true) rfl (aG rfl (ev rfl) evk) ?_;simp only [aa]
 refine ai (v := .bool true) rfl (aq rfl (ev rfl)) ?_;simp only [aa]
 refine ah ?_
 go_wp2_with fail
 go_ret
 exact ⟨rfl, HB2.out⟩
set_option maxHeartbeats 1000000 in
theorem pstr_3 {c : Cl} (h0 : decide (c.s < 0) = false) (h1 : decide (64 ≤ c.s) = false) (h2 : decide (c.m < 0) = false) (h3 : decide (16 ≤ c.m) = true) (w : World) : Calls Tryz.prog 116 #[clV c] w fun e w' => e = .returned (.bool true) ∧ Below w.heap.size w w' := by
 have H0 := af h0
 have H1 := af h1
 have H2 := af h2
 have H3 := af h3
 clear h0 h1 h2 h3
 have HR := af (dY w (cG c) 110)
 have HB := af ((Below.refl w.heap.size w).alloc (Nat.le_refl _) (.cells (cG c).toArray 110))
 go_enter Tryz.func116, Tryz.ntmps116
 go_upto_region 1 with (first | (refine ai rfl (exec_boxC rfl rfl) ?_) | fail)
 generalize w.alloc (.cells (cG c).toArray 110) = w1 at *
 refine ag ?_
 refine ai rfl (am rfl (ev rfl) faC0) ?_;simp only [aa]
 refine ai rfl (dN rfl (ev rfl) (cl_place HR.out)) ?_;simp only [aa]
 refine ai rfl (ej rfl) ?_;simp only [aa]
 refine az rfl (eQ rfl (ev rfl) (ev rfl)) ?_;simp only [aa]
 have HP := af (ed (dY w1 (cK c.s c.m) 108))
 have HB2 := af (HB.out.alloc HB.out.size (.cells (cK c.s c.m).toArray 108))
 generalize w1.alloc (.cells (cK c.s c.m).toArray 108) = w2 at *
 generalize w1.heap.size = g at *
 clear HR HB
 refine ah ?_
 go_upto_region 2 with fail
 refine ag ?_
 refine ai rfl (am rfl (ev rfl) eI) ?_;simp only [aa]
 refine ai rfl (au rfl (ev rfl) (bj HP.out.1)) ?_;simp only [aa]
 refine ai (v := .bool false) rfl (aZ false rfl (ev rfl) evk H0.out) ?_;simp only [aa]
 refine ai (v := .bool false) rfl (aj rfl (ev rfl)) ?_;simp only [aa]
 refine al gr (am rfl (ev rfl) eI) ?_;simp only [aa]
 refine al gr (au rfl (ev rfl) (bj HP.out.1)) ?_;simp only [aa]
 refine al (v := .bool false) gr (ce false rfl (ev rfl) evk H1.out) ?_;simp only [aa]
 refine ai (v := .bool false) rfl (aE rfl (ev rfl) (ev rfl)) ?_;simp only [aa]
 refine ai (v := .bool false) rfl (aj rfl (ev rfl)) ?_;simp only [aa]
 refine al gr (am rfl (ev rfl) faPl1) ?_;simp only [aa]
 refine al gr (au rfl (ev rfl) (bj HP.out.2)) ?_;simp only [aa]
 refine al (v := .bool false) gr (aZ false rfl (ev rfl) evk H2.out) ?_;simp only [aa]
 refine ai (v := .bool false) rfl (aE rfl (ev rfl) (ev rfl)) ?_;simp only [aa]
 refine ai (v := .bool false) rfl (aj rfl (ev rfl)) ?_;simp only [aa]
 refine al gr (am rfl (ev rfl) faPl1) ?_;simp only [aa]
 refine al gr (au rfl (ev rfl) (bj HP.out.2)) ?_;simp only [aa]
 refine al (v := .bool true) gr (ce true rfl (ev rfl) evk H3.out) ?_;simp only [aa]
 refine ai (v := .bool true) rfl (aE rfl (ev rfl) (ev rfl)) ?_;simp only [aa]
 refine ai (v := .bool true) rfl (aq rfl (ev rfl)) ?_;simp only [aa]
 refine ah ?_
 go_wp2_with fail
 go_ret
 exact ⟨rfl, HB2.out⟩
set_option maxHeartbeats 1000000 in
theorem pstr_4 {c : Cl} (h0 : decide (c.s < 0) = false) (h1 : decide (64 ≤ c.s) = false) (h2 : decide (c.m < 0) = false) (h3 : decide (16 ≤ c.m) = false) (w : World) : Calls Tryz.prog 116 #[clV c] w fun e w' => e = .returned (.bool false) ∧ Below w.heap.size w w' := by
 have H0 := af h0
 have H1 := af h1
 have H2 := af h2
 have H3 := af h3
 clear h0 h1 h2 h3
 have HR := af (dY w (cG c) 110)
 have HB := af ((Below.refl w.heap.size w).alloc (Nat.le_refl _) (.cells (cG c).toArray 110))
 go_enter Tryz.func116, Tryz.ntmps116
 go_upto_region 1 with (first | (refine ai rfl (exec_boxC rfl rfl) ?_) | fail)
 generalize w.alloc (.cells (cG c).toArray 110) = w1 at *
 refine ag ?_
 refine ai rfl (am rfl (ev rfl) faC0) ?_;simp only [aa]
 refine ai rfl (dN rfl (ev rfl) (cl_place HR.out)) ?_;simp only [aa]
 refine ai rfl (ej rfl) ?_;simp only [aa]
 refine az rfl (eQ rfl (ev rfl) (ev rfl)) ?_;simp only [aa]
 have HP := af (ed (dY w1 (cK c.s c.m) 108))
 have HB2 := af (HB.out.alloc HB.out.size (.cells (cK c.s c.m).toArray 108))
 generalize w1.alloc (.cells (cK c.s c.m).toArray 108) = w2 at *
 generalize w1.heap.size = g at *
 clear HR HB
 refine ah ?_
 go_upto_region 2 with fail
 refine ag ?_
 refine ai rfl (am rfl (ev rfl) eI) ?_;simp only [aa]
 refine ai rfl (au rfl (ev rfl) (bj HP.out.1)) ?_;simp only [aa]
 refine ai (v := .bool false) rfl (aZ false rfl (ev rfl) evk H0.out) ?_;simp only [aa]
 refine ai (v := .bool false) rfl (aj rfl (ev rfl)) ?_;simp only [aa]
 refine al gr (am rfl (ev rfl) eI) ?_;simp only [aa]
 refine al gr (au rfl (ev rfl) (bj HP.out.1)) ?_;simp only [aa]
 refine al (v := .bool false) gr (ce false rfl (ev rfl) evk H1.out) ?_;simp only [aa]
 refine ai (v := .bool false) rfl (aE rfl (ev rfl) (ev rfl)) ?_;simp only [aa]
 refine ai (v := .bool false) rfl (aj rfl (ev rfl)) ?_;simp only [aa]
 refine al gr (am rfl (ev rfl) faPl1) ?_;simp only [aa]
 refine al gr (au rfl (ev rfl) (bj HP.out.2)) ?_;simp only [aa]
 refine al (v := .bool false) gr (aZ false rfl (ev rfl) evk H2.out) ?_;simp only [aa]
 refine ai (v := .bool false) rfl (aE rfl (ev rfl) (ev rfl)) ?_;simp only [aa]
 refine ai (v := .bool false) rfl (aj rfl (ev rfl)) ?_;simp only [aa]
 refine al gr (am rfl (ev rfl) faPl1) ?_;simp only [aa]
 refine al gr (au rfl (ev rfl) (bj HP.out.2)) ?_;simp only [aa]
 refine al (v := .bool false) gr (ce false rfl (ev rfl) evk H3.out) ?_;simp only [aa]
 refine ai (v := .bool false) rfl (aE rfl (ev rfl) (ev rfl)) ?_;simp only [aa]
 refine ai (v := .bool false) rfl (aq rfl (ev rfl)) ?_;simp only [aa]
 refine ah ?_
 go_wp2_with fail
 go_ret
 exact ⟨rfl, HB2.out⟩
theorem pstrange (c : Cl) (w : World) : Calls Tryz.prog 116 #[clV c] w fun e w' => e = .returned (.bool (!okC c)) ∧ Below w.heap.size w w' := by
 by_cases h0 : c.s < 0
 ·rw [show okC c = false from decide_eq_false (by omega)]; exact pstr_0 (decide_eq_true h0) w
 by_cases h1 : 64 ≤ c.s
 ·rw [show okC c = false from decide_eq_false (by omega)]; exact pstr_1 (decide_eq_false h0) (decide_eq_true h1) w
 by_cases h2 : c.m < 0
 ·rw [show okC c = false from decide_eq_false (by omega)]; exact pstr_2 (decide_eq_false h0) (decide_eq_false h1) (decide_eq_true h2) w
 by_cases h3 : 16 ≤ c.m
 ·rw [show okC c = false from decide_eq_false (by omega)]; exact pstr_3 (decide_eq_false h0) (decide_eq_false h1) (decide_eq_false h2) (decide_eq_true h3) w
 rw [show okC c = true from decide_eq_true (by omega)]; exact pstr_4 (decide_eq_false h0) (decide_eq_false h1) (decide_eq_false h2) (decide_eq_false h3) w
set_option maxHeartbeats 1000000 in
theorem rmayc_0 {s m : Int} (h0 : decide (0 ≤ s) = false) (w : World) : Calls Tryz.prog 127 #[plV s m] w fun e w' => e = .returned (.bool false) ∧ Below w.heap.size w w' := by
 have H0 := af h0
 clear h0
 have HP := af (ed (dY w (cK s m) 108))
 have HB := af ((Below.refl w.heap.size w).alloc (Nat.le_refl _) (.cells (cK s m).toArray 108))
 go_enter Tryz.func127, Tryz.ntmps127
 go_upto_region 1 with (first | (refine ai rfl (f9 rfl rfl) ?_) | fail)
 generalize w.alloc (.cells (cK s m).toArray 108) = w1 at *
 refine ag ?_
 refine ai rfl (am rfl (ev rfl) eI) ?_;simp only [aa]
 refine ai rfl (au rfl (ev rfl) (bj HP.out.1)) ?_;simp only [aa]
 refine ai (v := .bool false) rfl (ce false rfl (ev rfl) evk H0.out) ?_;simp only [aa]
 refine aC 3 (v := .bool false) rfl (aj rfl (ev rfl)) (by kernel_rfl) ?_
 simp only [aJ, ae, aa]
 refine ai (v := .bool false) rfl (aE rfl (ev rfl) evk) ?_;simp only [aa]
 refine aC 3 (v := .bool false) rfl (aj rfl (ev rfl)) (by kernel_rfl) ?_
 simp only [aJ, ae, aa]
 refine ai (v := .bool false) rfl (aE rfl (ev rfl) evk) ?_;simp only [aa]
 refine aC 3 (v := .bool false) rfl (aj rfl (ev rfl)) (by kernel_rfl) ?_
 simp only [aJ, ae, aa]
 refine ai (v := .bool false) rfl (aE rfl (ev rfl) evk) ?_;simp only [aa]
 refine ai (v := .bool false) rfl (aq rfl (ev rfl)) ?_;simp only [aa]
 refine ah ?_
 go_wp2_with fail
 go_ret
 exact ⟨rfl, HB.out⟩
set_option maxHeartbeats 1000000 in
theorem rmayc_1 {s m : Int} (h0 : decide (0 ≤ s) = true) (h1 : decide (s < 64) = false) (w : World) : Calls Tryz.prog 127 #[plV s m] w fun e w' => e = .returned (.bool false) ∧ Below w.heap.size w w' := by
 have H0 := af h0
 have H1 := af h1
 clear h0 h1
 have HP := af (ed (dY w (cK s m) 108))
 have HB := af ((Below.refl w.heap.size w).alloc (Nat.le_refl _) (.cells (cK s m).toArray 108))
 go_enter Tryz.func127, Tryz.ntmps127
 go_upto_region 1 with (first | (refine ai rfl (f9 rfl rfl) ?_) | fail)
 generalize w.alloc (.cells (cK s m).toArray 108) = w1 at *
 refine ag ?_
 refine ai rfl (am rfl (ev rfl) eI) ?_;simp only [aa]
 refine ai rfl (au rfl (ev rfl) (bj HP.out.1)) ?_;simp only [aa]
 refine ai (v := .bool true) rfl (ce true rfl (ev rfl) evk H0.out) ?_;simp only [aa]
 refine ai (v := .bool true) rfl (aj rfl (ev rfl)) ?_;simp only [aa]
 refine al gr (am rfl (ev rfl) eI) ?_;simp only [aa]
 refine al gr (au rfl (ev rfl) (bj HP.out.1)) ?_;simp only [aa]
 refine al (v := .bool false) gr (aZ false rfl (ev rfl) evk H1.out) ?_;simp only [aa]
 refine ai (v := .bool false) rfl (aG rfl (ev rfl) (ev rfl)) ?_;simp only [aa]
 refine aC 3 (v := .bool false) rfl (aj rfl (ev rfl)) (by kernel_rfl) ?_
 simp only [aJ, ae, aa]
 refine ai (v := .bool false) rfl (aE rfl (ev rfl) evk) ?_;simp only [aa]
 refine aC 3 (v := .bool false) rfl (aj rfl (ev rfl)) (by kernel_rfl) ?_
 simp only [aJ, ae, aa]
 refine ai (v := .bool false) rfl (aE rfl (ev rfl) evk) ?_;simp only [aa]
 refine ai (v := .bool false) rfl (aq rfl (ev rfl)) ?_;simp only [aa]
 refine ah ?_
 go_wp2_with fail
 go_ret
 exact ⟨rfl, HB.out⟩
set_option maxHeartbeats 1000000 in
theorem rmayc_2 {s m : Int} (h0 : decide (0 ≤ s) = true) (h1 : decide (s < 64) = true) (h2 : decide (0 ≤ m) = false) (w : World) : Calls Tryz.prog 127 #[plV s m] w fun e w' => e = .returned (.bool false) ∧ Below w.heap.size w w' := by
 have H0 := af h0
 have H1 := af h1
 have H2 := af h2
 clear h0 h1 h2
 have HP := af (ed (dY w (cK s m) 108))
 have HB := af ((Below.refl w.heap.size w).alloc (Nat.le_refl _) (.cells (cK s m).toArray 108))
 go_enter Tryz.func127, Tryz.ntmps127
 go_upto_region 1 with (first | (refine ai rfl (f9 rfl rfl) ?_) | fail)
 generalize w.alloc (.cells (cK s m).toArray 108) = w1 at *
 refine ag ?_
 refine ai rfl (am rfl (ev rfl) eI) ?_;simp only [aa]
 refine ai rfl (au rfl (ev rfl) (bj HP.out.1)) ?_;simp only [aa]
 refine ai (v := .bool true) rfl (ce true rfl (ev rfl) evk H0.out) ?_;simp only [aa]
 refine ai (v := .bool true) rfl (aj rfl (ev rfl)) ?_;simp only [aa]
 refine al gr (am rfl (ev rfl) eI) ?_;simp only [aa]
 refine al gr (au rfl (ev rfl) (bj HP.out.1)) ?_;simp only [aa]
 refine al (v := .bool true) gr (aZ true rfl (ev rfl) evk H1.out) ?_;simp only [aa]
 refine ai (v := .bool true) rfl (aG rfl (ev rfl) (ev rfl)) ?_;simp only [aa]
 refine ai (v := .bool true) rfl (aj rfl (ev rfl)) ?_;simp only [aa]
 refine al gr (am rfl (ev rfl) faPl1) ?_;simp only [aa]
 refine al gr (au rfl (ev rfl) (bj HP.out.2)) ?_;simp only [aa]
 refine al (v := .bool false) gr (ce false rfl (ev rfl) evk H2.out) ?_;simp only [aa]
 refine ai (v := .bool false) rfl (aG rfl (ev rfl) (ev rfl)) ?_;simp only [aa]
 refine aC 3 (v := .bool false) rfl (aj rfl (ev rfl)) (by kernel_rfl) ?_
 simp only [aJ, ae, aa]
 refine ai (v := .bool false) rfl (aE rfl (ev rfl) evk) ?_;simp only [aa]
 refine ai (v := .bool false) rfl (aq rfl (ev rfl)) ?_;simp only [aa]
 refine ah ?_
 go_wp2_with fail
 go_ret
 exact ⟨rfl, HB.out⟩
set_option maxHeartbeats 1000000 in
theorem rmayc_3 {s m : Int} (h0 : decide (0 ≤ s) = true) (h1 : decide (s < 64) = true) (h2 : decide (0 ≤ m) = true) (h3 : decide (m < 16) = false) (w : World) : Calls Tryz.prog 127 #[plV s m] w fun e w' => e = .returned (.bool false) ∧ Below w.heap.size w w' := by
 have H0 := af h0
 have H1 := af h1
 have H2 := af h2
 have H3 := af h3
 clear h0 h1 h2 h3
 have HP := af (ed (dY w (cK s m) 108))
 have HB := af ((Below.refl w.heap.size w).alloc (Nat.le_refl _) (.cells (cK s m).toArray 108))
 go_enter Tryz.func127, Tryz.ntmps127
 go_upto_region 1 with (first | (refine ai rfl (f9 rfl rfl) ?_) | fail)
 generalize w.alloc (.cells (cK s m).toArray 108) = w1 at *
 refine ag ?_
 refine ai rfl (am rfl (ev rfl) eI) ?_;simp only [aa]
 refine ai rfl (au rfl (ev rfl) (bj HP.out.1)) ?_;simp only [aa]
 refine ai (v := .bool true) rfl (ce true rfl (ev rfl) evk H0.out) ?_;simp only [aa]
 refine ai (v := .bool true) rfl (aj rfl (ev rfl)) ?_;simp only [aa]
 refine al gr (am rfl (ev rfl) eI) ?_;simp only [aa]
 refine al gr (au rfl (ev rfl) (bj HP.out.1)) ?_;simp only [aa]
 refine al (v := .bool true) gr (aZ true rfl (ev rfl) evk H1.out) ?_;simp only [aa]
 refine ai (v := .bool true) rfl (aG rfl (ev rfl) (ev rfl)) ?_;simp only [aa]
 refine ai (v := .bool true) rfl (aj rfl (ev rfl)) ?_;simp only [aa]
 refine al gr (am rfl (ev rfl) faPl1) ?_;simp only [aa]
 refine al gr (au rfl (ev rfl) (bj HP.out.2)) ?_;simp only [aa]
 refine al (v := .bool true) gr (ce true rfl (ev rfl) evk H2.out) ?_;simp only [aa]
 refine ai (v := .bool true) rfl (aG rfl (ev rfl) (ev rfl)) ?_;simp only [aa]
 refine ai (v := .bool true) rfl (aj rfl (ev rfl)) ?_;simp only [aa]
 refine al gr (am rfl (ev rfl) faPl1) ?_;simp only [aa]
 refine al gr (au rfl (ev rfl) (bj HP.out.2)) ?_;simp only [aa]
 refine al (v := .bool false) gr (aZ false rfl (ev rfl) evk H3.out) ?_;simp only [aa]
 refine ai (v := .bool false) rfl (aG rfl (ev rfl) (ev rfl)) ?_;simp only [aa]
 refine ai (v := .bool false) rfl (aq rfl (ev rfl)) ?_;simp only [aa]
 refine ah ?_
 go_wp2_with fail
 go_ret
 exact ⟨rfl, HB.out⟩
set_option maxHeartbeats 1000000 in
theorem rmayc_4 {s m : Int} (h0 : decide (0 ≤ s) = true) (h1 : decide (s < 64) = true) (h2 : decide (0 ≤ m) = true) (h3 : decide (m < 16) = true) (w : World) : Calls Tryz.prog 127 #[plV s m] w fun e w' => e = .returned (.bool true) ∧ Below w.heap.size w w' := by
 have H0 := af h0
 have H1 := af h1
 have H2 := af h2
 have H3 := af h3
 clear h0 h1 h2 h3
 have HP := af (ed (dY w (cK s m) 108))
 have HB := af ((Below.refl w.heap.size w).alloc (Nat.le_refl _) (.cells (cK s m).toArray 108))
 go_enter Tryz.func127, Tryz.ntmps127
 go_upto_region 1 with (first | (refine ai rfl (f9 rfl rfl) ?_) | fail)
 generalize w.alloc (.cells (cK s m).toArray 108) = w1 at *
 refine ag ?_
 refine ai rfl (am rfl (ev rfl) eI) ?_;simp only [aa]
 refine ai rfl (au rfl (ev rfl) (bj HP.out.1)) ?_;simp only [aa]
 refine ai (v := .bool true) rfl (ce true rfl (ev rfl) evk H0.out) ?_;simp only [aa]
 refine ai (v := .bool true) rfl (aj rfl (ev rfl)) ?_;simp only [aa]
 refine al gr (am rfl (ev rfl) eI) ?_;simp only [aa]
 refine al gr (au rfl (ev rfl) (bj HP.out.1)) ?_;simp only [aa]
 refine al (v := .bool true) gr (aZ true rfl (ev rfl) evk H1.out) ?_;simp only [aa]
 refine ai (v := .bool true) rfl (aG rfl (ev rfl) (ev rfl)) ?_;simp only [aa]
 refine ai (v := .bool true) rfl (aj rfl (ev rfl)) ?_;simp only [aa]
 refine al gr (am rfl (ev rfl) faPl1) ?_;simp only [aa]
 refine al gr (au rfl (ev rfl) (bj HP.out.2)) ?_;simp only [aa]
 refine al (v := .bool true) gr (ce true rfl (ev rfl) evk H2.out) ?_;simp only [aa]
 refine ai (v := .bool true) rfl (aG rfl (ev rfl) (ev rfl)) ?_;simp only [aa]
 refine ai (v := .bool true) rfl (aj rfl (ev rfl)) ?_;simp only [aa]
 refine al gr (am rfl (ev rfl) faPl1) ?_;simp only [aa]
 refine al gr (au rfl (ev rfl) (bj HP.out.2)) ?_;simp only [aa]
 refine al (v := .bool true) gr (aZ true rfl (ev rfl) evk H3.out) ?_;simp only [aa]
 refine ai (v := .bool true) rfl (aG rfl (ev rfl) (ev rfl)) ?_;simp only [aa]
 refine ai (v := .bool true) rfl (aq rfl (ev rfl)) ?_;simp only [aa]
 refine ah ?_
 go_wp2_with fail
 go_ret
 exact ⟨rfl, HB.out⟩
theorem rmayc (s m : Int) (w : World) : Calls Tryz.prog 127 #[plV s m] w fun e w' => e = .returned (.bool (okP s m)) ∧ Below w.heap.size w w' := by
 by_cases h0 : 0 ≤ s
 ·by_cases h1 : s < 64
  ·by_cases h2 : 0 ≤ m
   ·by_cases h3 : m < 16
    ·rw [show okP s m = true from decide_eq_true (by omega)]; exact rmayc_4 (decide_eq_true h0) (decide_eq_true h1) (decide_eq_true h2) (decide_eq_true h3) w
    ·rw [show okP s m = false from decide_eq_false (by omega)]; exact rmayc_3 (decide_eq_true h0) (decide_eq_true h1) (decide_eq_true h2) (decide_eq_false h3) w
   ·rw [show okP s m = false from decide_eq_false (by omega)]; exact rmayc_2 (decide_eq_true h0) (decide_eq_true h1) (decide_eq_false h2) w
  ·rw [show okP s m = false from decide_eq_false (by omega)]; exact rmayc_1 (decide_eq_true h0) (decide_eq_false h1) w
 ·rw [show okP s m = false from decide_eq_false (by omega)]; exact rmayc_0 (decide_eq_false h0) w
set_option maxHeartbeats 1000000 in
theorem pindex (A : Option Addr) (n c : Nat) (l : List Cl) (w : World) (hl : RdE bY w w.heap.size A n l) (hn : n ≤ maxLen) :
  Calls Tryz.prog 152 #[.slice A n c, .func (.func 116) #[] #[]] w fun e w' => ∃ r : Int, e = .returned (.int .i64 r) ∧ decide (0 ≤ r) = badC l ∧ Below w.heap.size w w' := by
 unfold maxLen at hn
 have HL := af hl
 have HN := af hl.1
 clear hl
 go_enter Tryz.func152, Tryz.ntmps152
 go_wp2_with fail
 go_loopw [8] (fun i wr => ∃ k : Nat, k ≤ n ∧ i = .int .i64 k ∧ (∀ j, j < k → okC (l.getD j cC) = true) ∧ Below w.heap.size w wr) (fun i _ => n - (intOf i).toNat)
 case atStart => exact ⟨0, Nat.zero_le _, rfl, fun j hj => absurd hj (by omega), Below.refl _ _⟩
 case round =>
  obtain ⟨k, hk, rfl, hj, hbl⟩ := hrel
  have HJ := af hj
  have HB := af hbl
  clear hj hbl
  by_cases hlt : k < n
  ·obtain ⟨bA, oA, rfl, hA, cA⟩ := (HL.out.below HB.out).cl hlt
   have HA := af cA
   have HX := af (rfl : l.getD k cC = l.getD k cC)
   generalize hx : l.getD k cC = x at *
   have HXX := af hx
   clear cA hx HX
   go_wp2_with (first | (refine al rfl (exec_loadC rfl rfl HA.out) ?_) | fail)
   refine (pstrange x wr).mono ?_
   rintro e w1 ⟨rfl, hb1⟩
   have HB1 := af (HB.out.trans (hb1.mono HB.out.size))
   clear hb1
   cases hq : okC x
   ·have HQ := af hq
    clear hq
    go_wp2_with fail
    go_ret
    refine ⟨_, rfl, ?_, HB1.out⟩
    rw [badC_of (k := k) (by rw [HN.out]; exact hlt) (by rw [HXX.out]; exact HQ.out)]
    exact decide_eq_true (by omega)
   ·have HQ := af hq
    clear hq
    go_wp2_with fail
    go_roundw
    case rel =>
     refine ⟨k + 1, by omega, by go_num, ?_, HB1.out⟩
     intro j hj
     by_cases h : j = k
     ·subst h; rw [HXX.out]; exact HQ.out
     ·exact HJ.out j (by omega)
    case measure => simp [intOf]; omega
  ·go_wp2_with fail
   go_ret
   refine ⟨_, rfl, ?_, HB.out⟩
   rw [badC_no fun j h => HJ.out j (by have := HN.out; omega)]
   rfl
theorem fQ (A : Option Addr) (n c : Nat) (l : List Cl) (w : World) (hl : RdE bY w w.heap.size A n l) (hn : n ≤ maxLen) :
  Calls Tryz.prog 115 #[.slice A n c, .func (.func 116) #[] #[]] w fun e w' => e = .returned (.bool (badC l)) ∧ Below w.heap.size w w' := by
 go_enter Tryz.func115, Tryz.ntmps115
 go_wp2_with fail
 refine (pindex A n c l w hl hn).mono ?_
 rintro e w1 ⟨r, rfl, hr, hb⟩
 have HR := af hr
 have HB := af hb
 clear hr hb
 go_wp2_with fail
 go_ret
 exact ⟨bm HR.out, HB.out⟩
end Go.Proofs.YtbbcdhkinbmdnaaGreatDoor
