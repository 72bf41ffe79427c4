/-
  The document's cells: sectors (a row of bytes as sectors, 0s behind it).
-/
import Derived.Test.YtfemlaombdeebaaCpk
import Derived.Test.YtfemlaombdeebaaBlkX
import Derived.Deep.DeepCutAuto
namespace Go.Proofs.Ytfemlaombdeebaa
open Go.RowKit
set_option linter.unusedVariables false
set_option linter.unusedSimpArgs false
set_option maxRecDepth 100000

/-! ### Bytes laid one by one -/
theorem zeroB_zer : zeroB.toList = zer 64 := by decide
/-- A sector's bytes behind k of them. -/
def chK (row : List UInt8) (p k : Nat) : List UInt8 := piece row p k ++ zer (64 - k)
theorem chK_zero (row : List UInt8) (p : Nat) : chK row p 0 = zeroB.toList := by
  rw [zeroB_zer]
  unfold chK piece
  rw [List.take_zero]
  rfl
theorem chK_len {row : List UInt8} {p k : Nat} (h : p + k ≤ row.length) (hk : k ≤ 64) : (chK row p k).length = 64 := by
  unfold chK
  rw [List.length_append, length_piece h, zer_length]
  omega
theorem chK_set {row : List UInt8} {p k : Nat} (h : p + k < row.length) (hk : k < 64) : (chK row p k).set k row[p + k] = chK row p (k + 1) := by
  have hl : (piece row p k).length = k := length_piece (by omega)
  have hd : k < (row.drop p).length := by rw [List.length_drop]; omega
  have e : piece row p (k + 1) = piece row p k ++ [row[p + k]] := by
    unfold piece
    rw [List.take_succ_eq_append_getElem hd, List.getElem_drop]
  unfold chK
  rw [e, List.set_append_right _ _ (by omega), hl, Nat.sub_self, show 64 - k = 1 + (64 - (k + 1)) by omega, zer_add, List.append_assoc]
  rfl
theorem chK_done {row : List UInt8} {p k : Nat} (h : p + k ≤ row.length) (hk : k ≤ 64) (he : k = 64 ∨ p + k = row.length) : chK row p k = (ofL (row.drop p)).toList := by
  refine eq_of_bt (by rw [chK_len h hk, toList_len]) fun j hj => ?_
  rw [chK_len h hk] at hj
  have hr : bt (ofL (row.drop p)).toList j = bt row (p + j) := by
    have := ofL_byt (row.drop p) hj
    unfold byt at this
    rw [this]
    unfold bt
    simp [List.getD, List.getElem?_drop]
  rw [hr]
  unfold chK
  by_cases hjk : j < k
  · rw [bt_append_lo (by rw [length_piece h]; exact hjk), bt_piece hjk]
  · rw [bt_append_hi (by rw [length_piece h]; omega), length_piece h]
    unfold zer
    rw [bt_noughts, bt_beyond (by omega)]
theorem RowL.set {w : World} {g j : Nat} {t : TypeId} {l : List UInt8} (h : RowL w g t l) (u : UInt8) : RowL (w.setCell ⟨g, j, none⟩ (.int .u8 (u.toNat : Int))) g t (l.set j u) := by
  have := heap_setCell_same w g j _ t (.int .u8 (u.toNat : Int)) h
  unfold RowL
  rw [this, List.setIfInBounds_toArray]
  unfold vals
  rw [List.map_set]
theorem RowL.fro {w : World} {g j : Nat} {t : TypeId} {l : List UInt8} (h : RowL w g t l) : w.frozen? ⟨g, j, none⟩ = false := frozen_of_row w g j _ t h
section
variable {w : World} {b off n c j : Nat} {k : Int}
theorem ixU (hj : j < n) : (Instr.indexAt 46 (.slice (some ⟨b, off, none⟩) n c) (.int .i64 (j : Int))).run Try.prog w = .ok (.pointer (some ⟨b, off + j, none⟩)) w := by
  simp [Instr.indexAt, asIntOf, run_underlying Try.underlying46, Try.sizeOf5, Addr.add_mid, hj]
theorem ixBk (hj : j < 64) : (Instr.indexAt 34 (.pointer (some ⟨b, 0, none⟩)) (.int .i64 (j : Int))).run Try.prog w = .ok (.pointer (some ⟨b, j, none⟩)) w := by
  have e : (0 ≤ (j : Int) ∧ (j : Int) < 64) := by omega
  simp [Instr.indexAt, Instr.sureAddr, asIntOf, run_underlying undB, Try.sizeOf5, Addr.add_mid, e, hj]
theorem stU8 {a : Addr} {v : Value} (h : w.cell? a = some v) (hf : w.frozen? a = false) : (Instr.storeAt 5 (.pointer (some a)) (.int .u8 k)).run Try.prog w = .ok () (w.setCell a (.int .u8 k)) := by simp [go_sem, h, hf]
end
theorem sec_range {w : World} {g : Nat} {t : TypeId} {b : Blk} (h : RowL w g t b.toList) : w.rangeAt g 0 (cel b) := rng_at (cs := cel b) h
set_option maxHeartbeats 4000000 in
theorem rsectors (A : Option Addr) (n c N B : Nat) (row : List UInt8) (w : World) (HB : Hid (B = w.heap.size)) (hr : Rd w N A n row) (hN : N ≤ B) (hn : n ≤ 1000) :
    Calls Try.prog 19 #[.slice A n c] w fun e w' => ∃ v, e = .returned v ∧ MadeB w' B v (secs ((n + 63) / 64) row) ∧ Below B w w' := by
  have HL := Lib.hid hr.1
  have HRD : Hid (∀ w' : World, Below B w w' → Rd w' N A n row) := Lib.hid fun w' hb => hr.below (hb.mono hN)
  have HLE := Lib.hid (Nat.le_of_eq HB.out)
  clear hr
  go_enter Try.func19, Try.ntmps19
  go_wp2_with fail
  go_loopw [3, 4] (fun v i wr => ∃ q : Nat, i = .int .i64 ((64 * q : Nat) : Int) ∧ 64 * q ≤ n + 63 ∧ MadeB wr B v (secs q row) ∧ Below B w wr) (fun _ i _ => n + 64 - (intOf i).toNat)
  case atStart => exact ⟨0, rfl, by omega, MadeB.nil _ _, Below.refl _ _⟩
  case round =>
    obtain ⟨q, rfl, hq, hm, hbl⟩ := hrel
    have HM := Lib.hid hm
    have HBL := Lib.hid hbl
    clear hm hbl
    obtain ⟨wA, rfl⟩ : ∃ x, x = wr := ⟨_, rfl⟩
    by_cases hlt : 64 * q < n
    · have HT1 : Hid (decide (((64 * q : Nat) : Int) < (n : Int)) = true) := Lib.hid (decide_eq_true (by omega))
      have HRW := Lib.hid (RowL.blk wA zeroB 34)
      have HBW := Lib.hid ((Below.refl wA.heap.size wA).alloc (Nat.le_refl _) (.cells (cel zeroB).toArray 34))
      go_upto_region 3 with fail
      refine wp_region_lit ?_
      refine wpList_valn rfl (exec_mv rfl (ev rfl)) ?_
      simp only [Act.put, List.setIfInBounds_toArray, List.set_cons_succ, List.set_cons_zero]
      refine wpList_valn rfl (exec_mv rfl (ev rfl)) ?_
      simp only [Act.put, List.setIfInBounds_toArray, List.set_cons_succ, List.set_cons_zero]
      refine wpList_valn rfl (exec_lenU rfl (ev rfl)) ?_
      simp only [Act.put, List.setIfInBounds_toArray, List.set_cons_succ, List.set_cons_zero]
      refine wpList_valn (v := .bool true) rfl (exec_lss true rfl (ev rfl) (ev rfl) HT1.out) ?_
      simp only [Act.put, List.setIfInBounds_toArray, List.set_cons_succ, List.set_cons_zero]
      refine wpList_nil ?_
      go_upto_region 5 with fail
      refine wp_region_lit ?_
      refine wpList_valn rfl (exec_alloc rfl) ?_
      simp only [Act.put, List.setIfInBounds_toArray, List.set_cons_succ, List.set_cons_zero]
      generalize hwB : wA.alloc (.cells (cel zeroB).toArray 34) = wB at *
      generalize hg : wA.heap.size = g at HRW HBW ⊢
      have HG := Lib.hid hg
      clear hg hwB
      refine wpList_nil ?_
      go_wp2_with fail
      go_loopw [6] (fun i wr => ∃ k : Nat, i = .int .i64 k ∧ k ≤ 64 ∧ 64 * q + k ≤ n ∧ RowL wr g 34 (chK row (64 * q) k) ∧ Below g wA wr) (fun i _ => 64 - (intOf i).toNat)
      case atStart => exact ⟨0, rfl, by omega, by omega, by rw [chK_zero]; exact HRW.out, HBW.out⟩
      case round =>
        clear HRW HBW
        obtain ⟨k, rfl, hk, hkn, hrow, hbi⟩ := hrel
        have HROW := Lib.hid hrow
        have HBI := Lib.hid hbi
        clear hrow hbi
        by_cases hmore : k < 64 ∧ 64 * q + k < n
        · obtain ⟨hk1, hk2⟩ := hmore
          have HD1 : Hid (decide ((k : Int) < 64) = true) := Lib.hid (decide_eq_true (by omega))
          have HS : Hid (IntKind.i64.wrap (((64 * q : Nat) : Int) + (k : Int)) = ((64 * q + k : Nat) : Int)) := Lib.hid (wrap_small _ (by omega) _ (by omega))
          have HD2 : Hid (decide (((64 * q + k : Nat) : Int) < (n : Int)) = true) := Lib.hid (decide_eq_true (by omega))
          have hbw : Below B w wr := HBL.out.trans (HBI.out.mono (by rw [← HG.out]; exact Nat.le_trans HLE.out HBL.out.size))
          obtain ⟨bA, oA, rfl, hA, cA⟩ := (HRD.out wr hbw).2 (64 * q + k) hk2
          have HC := Lib.hid cA
          have hkl : 64 * q + k < row.length := by rw [HL.out]; exact hk2
          rw [bt_get hkl] at HC
          have HK1 := Lib.hid hk1
          have HK2 := Lib.hid hk2
          have HCELL := Lib.hid (HROW.out.cell (j := k) (by rw [chK_len (by omega) (by omega)]; exact hk1))
          have HR2 := Lib.hid (HROW.out.set (j := k) row[64 * q + k])
          rw [chK_set hkl hk1] at HR2
          have HB2 := Lib.hid (HBI.out.setCell (p := ⟨g, k, none⟩) (Nat.le_refl g) (.int .u8 (row[64 * q + k].toNat : Int)))
          clear cA hbw
          go_upto_region 7 with fail
          refine wp_region_lit ?_
          refine wpList_valn rfl (exec_mv rfl (ev rfl)) ?_
          simp only [Act.put, List.setIfInBounds_toArray, List.set_cons_succ, List.set_cons_zero]
          refine wpList_valn (v := .bool true) rfl (exec_lss true rfl (ev rfl) evk HD1.out) ?_
          simp only [Act.put, List.setIfInBounds_toArray, List.set_cons_succ, List.set_cons_zero]
          refine wpList_valn (v := .bool true) rfl (exec_mv rfl (ev rfl)) ?_
          simp only [Act.put, List.setIfInBounds_toArray, List.set_cons_succ, List.set_cons_zero]
          refine wpList_val (wanted_of rfl rfl rfl rfl) (exec_mv rfl (ev rfl)) ?_
          simp only [Act.put, List.setIfInBounds_toArray, List.set_cons_succ, List.set_cons_zero]
          refine wpList_val (wanted_of rfl rfl rfl rfl) (exec_mv rfl (ev rfl)) ?_
          simp only [Act.put, List.setIfInBounds_toArray, List.set_cons_succ, List.set_cons_zero]
          refine wpList_val (wanted_of rfl rfl rfl rfl) (exec_add rfl (ev rfl) (ev rfl) HS.out) ?_
          simp only [Act.put, List.setIfInBounds_toArray, List.set_cons_succ, List.set_cons_zero]
          refine wpList_val (wanted_of rfl rfl rfl rfl) (exec_mv rfl (ev rfl)) ?_
          simp only [Act.put, List.setIfInBounds_toArray, List.set_cons_succ, List.set_cons_zero]
          refine wpList_val (wanted_of rfl rfl rfl rfl) (exec_lenU rfl (ev rfl)) ?_
          simp only [Act.put, List.setIfInBounds_toArray, List.set_cons_succ, List.set_cons_zero]
          refine wpList_val (v := .bool true) (wanted_of rfl rfl rfl rfl) (exec_lss true rfl (ev rfl) (ev rfl) HD2.out) ?_
          simp only [Act.put, List.setIfInBounds_toArray, List.set_cons_succ, List.set_cons_zero]
          refine wpList_valn (v := .bool true) rfl (exec_pt rfl (ev rfl) (ev rfl)) ?_
          simp only [Act.put, List.setIfInBounds_toArray, List.set_cons_succ, List.set_cons_zero]
          refine wpList_nil ?_
          go_upto_region 9 with fail
          refine wp_region_lit ?_
          refine wpList_valn rfl (exec_mv rfl (ev rfl)) ?_
          simp only [Act.put, List.setIfInBounds_toArray, List.set_cons_succ, List.set_cons_zero]
          refine wpList_valn rfl (exec_mv rfl (ev rfl)) ?_
          simp only [Act.put, List.setIfInBounds_toArray, List.set_cons_succ, List.set_cons_zero]
          refine wpList_valn rfl (exec_mv rfl (ev rfl)) ?_
          simp only [Act.put, List.setIfInBounds_toArray, List.set_cons_succ, List.set_cons_zero]
          refine wpList_valn rfl (exec_mv rfl (ev rfl)) ?_
          simp only [Act.put, List.setIfInBounds_toArray, List.set_cons_succ, List.set_cons_zero]
          refine wpList_valn rfl (exec_add rfl (ev rfl) (ev rfl) HS.out) ?_
          simp only [Act.put, List.setIfInBounds_toArray, List.set_cons_succ, List.set_cons_zero]
          refine wpList_valn rfl (exec_ix rfl (ev rfl) (ev rfl) (ixU HK2.out)) ?_
          simp only [Act.put, List.setIfInBounds_toArray, List.set_cons_succ, List.set_cons_zero]
          refine wpList_valn rfl (exec_ld rfl (ev rfl) (ldU8 HC.out)) ?_
          simp only [Act.put, List.setIfInBounds_toArray, List.set_cons_succ, List.set_cons_zero]
          refine wpList_valn rfl (exec_ix rfl (ev rfl) (ev rfl) (ixBk HK1.out)) ?_
          simp only [Act.put, List.setIfInBounds_toArray, List.set_cons_succ, List.set_cons_zero]
          refine wpList_nuln rfl (exec_st rfl (ev rfl) (ev rfl) (stU8 HCELL.out HROW.out.fro)) ?_
          simp only [Act.put, List.setIfInBounds_toArray, List.set_cons_succ, List.set_cons_zero]
          generalize wr.setCell ⟨g, k, none⟩ (.int .u8 (row[64 * q + k].toNat : Int)) = w5 at *
          clear HCELL HROW HBI HC
          refine wpList_nil ?_
          go_wp2_with fail
          go_roundw
          case rel => exact ⟨k + 1, by go_num, by omega, by omega, HR2.out, HB2.out⟩
          case measure => simp [intOf]; omega
        · by_cases hk6 : k < 64
          · have HD1 : Hid (decide ((k : Int) < 64) = true) := Lib.hid (decide_eq_true (by omega))
            have HS : Hid (IntKind.i64.wrap (((64 * q : Nat) : Int) + (k : Int)) = ((64 * q + k : Nat) : Int)) := Lib.hid (wrap_small _ (by omega) _ (by omega))
            have HD2 : Hid (decide (((64 * q + k : Nat) : Int) < (n : Int)) = false) := Lib.hid (decide_eq_false (by omega))
            have HDONE := Lib.hid (chK_done (row := row) (p := 64 * q) (k := k) (by rw [HL.out]; exact hkn) hk (by rw [HL.out]; omega))
            rw [HDONE.out] at HROW
            have HRNG := Lib.hid (sec_range HROW.out)
            have HM2 := Lib.hid (HM.out.below (by rw [HG.out]; exact HBI.out))
            have HB3 := Lib.hid (HBL.out.trans (HBI.out.mono (by rw [← HG.out]; exact Nat.le_trans HLE.out HBL.out.size)))
            have HN3 := Lib.hid (Nat.le_trans HLE.out HB3.out.size)
            have HSUC := Lib.hid (secs_succ q row)
            have HSL := Lib.hid (secs_length q row)
            go_upto_region 7 with fail
            refine wp_region_lit ?_
            refine wpList_valn rfl (exec_mv rfl (ev rfl)) ?_
            simp only [Act.put, List.setIfInBounds_toArray, List.set_cons_succ, List.set_cons_zero]
            refine wpList_valn (v := .bool true) rfl (exec_lss true rfl (ev rfl) evk HD1.out) ?_
            simp only [Act.put, List.setIfInBounds_toArray, List.set_cons_succ, List.set_cons_zero]
            refine wpList_valn (v := .bool true) rfl (exec_mv rfl (ev rfl)) ?_
            simp only [Act.put, List.setIfInBounds_toArray, List.set_cons_succ, List.set_cons_zero]
            refine wpList_val (wanted_of rfl rfl rfl rfl) (exec_mv rfl (ev rfl)) ?_
            simp only [Act.put, List.setIfInBounds_toArray, List.set_cons_succ, List.set_cons_zero]
            refine wpList_val (wanted_of rfl rfl rfl rfl) (exec_mv rfl (ev rfl)) ?_
            simp only [Act.put, List.setIfInBounds_toArray, List.set_cons_succ, List.set_cons_zero]
            refine wpList_val (wanted_of rfl rfl rfl rfl) (exec_add rfl (ev rfl) (ev rfl) HS.out) ?_
            simp only [Act.put, List.setIfInBounds_toArray, List.set_cons_succ, List.set_cons_zero]
            refine wpList_val (wanted_of rfl rfl rfl rfl) (exec_mv rfl (ev rfl)) ?_
            simp only [Act.put, List.setIfInBounds_toArray, List.set_cons_succ, List.set_cons_zero]
            refine wpList_val (wanted_of rfl rfl rfl rfl) (exec_lenU rfl (ev rfl)) ?_
            simp only [Act.put, List.setIfInBounds_toArray, List.set_cons_succ, List.set_cons_zero]
            refine wpList_val (v := .bool false) (wanted_of rfl rfl rfl rfl) (exec_lss false rfl (ev rfl) (ev rfl) HD2.out) ?_
            simp only [Act.put, List.setIfInBounds_toArray, List.set_cons_succ, List.set_cons_zero]
            refine wpList_valn (v := .bool false) rfl (exec_pt rfl (ev rfl) (ev rfl)) ?_
            simp only [Act.put, List.setIfInBounds_toArray, List.set_cons_succ, List.set_cons_zero]
            refine wpList_nil ?_
            go_upto_region 10 with fail
            refine wp_region_lit ?_
            refine wpList_valn rfl (exec_mv rfl (ev rfl)) ?_
            simp only [Act.put, List.setIfInBounds_toArray, List.set_cons_succ, List.set_cons_zero]
            refine wpList_valn rfl (exec_load rfl (ev rfl) HRNG.out) ?_
            simp only [Act.put, List.setIfInBounds_toArray, List.set_cons_succ, List.set_cons_zero]
            refine wpList_valn rfl (exec_mk1B rfl (ev rfl)) ?_
            simp only [Act.put, List.setIfInBounds_toArray, List.set_cons_succ, List.set_cons_zero]
            refine wpList_appB rfl _ _ rfl B (wr.heap.size + 1) 1 1 _ (secs q row) [ofL (row.drop (64 * q))] (some ⟨wr.heap.size, 0, none⟩) rfl rfl (HM2.out.below ((Below.refl _ wr).alloc (Nat.le_refl _) _)) ?_ (by rw [World.size_alloc]; exact Nat.le_succ_of_le HN3.out) (by rw [HSL.out]; omega) ?_
            · exact rdB_new1 wr (ofL (row.drop (64 * q)))
            intro v2 w2 hm2 hg2
            rw [← HSUC.out] at hm2
            have HM3 := Lib.hid hm2
            have HB4 := Lib.hid ((HB3.out.alloc HN3.out _).grown hg2 (by rw [World.size_alloc]; exact Nat.le_succ_of_le HN3.out) (fun k hk => HM2.out.ltB k hk))
            clear hm2 hg2
            simp only [Act.put, List.setIfInBounds_toArray, List.set_cons_succ, List.set_cons_zero]
            refine wpList_valn rfl (exec_as rfl (ev rfl)) ?_
            simp only [Act.put, List.setIfInBounds_toArray, List.set_cons_succ, List.set_cons_zero]
            refine wpList_nil ?_
            go_wp2_with fail
            go_roundw
            case rel => exact ⟨q + 1, by go_num, by omega, HM3.out, HB4.out⟩
            case measure => simp [intOf]; omega
          · have HD1 : Hid (decide ((k : Int) < 64) = false) := Lib.hid (decide_eq_false (by omega))
            have HDONE := Lib.hid (chK_done (row := row) (p := 64 * q) (k := k) (by rw [HL.out]; exact hkn) hk (by rw [HL.out]; omega))
            rw [HDONE.out] at HROW
            have HRNG := Lib.hid (sec_range HROW.out)
            have HM2 := Lib.hid (HM.out.below (by rw [HG.out]; exact HBI.out))
            have HB3 := Lib.hid (HBL.out.trans (HBI.out.mono (by rw [← HG.out]; exact Nat.le_trans HLE.out HBL.out.size)))
            have HN3 := Lib.hid (Nat.le_trans HLE.out HB3.out.size)
            have HSUC := Lib.hid (secs_succ q row)
            have HSL := Lib.hid (secs_length q row)
            go_upto_region 7 with fail
            refine wp_region_lit ?_
            refine wpList_valn rfl (exec_mv rfl (ev rfl)) ?_
            simp only [Act.put, List.setIfInBounds_toArray, List.set_cons_succ, List.set_cons_zero]
            refine wpList_valn (v := .bool false) rfl (exec_lss false rfl (ev rfl) evk HD1.out) ?_
            simp only [Act.put, List.setIfInBounds_toArray, List.set_cons_succ, List.set_cons_zero]
            refine wpList_skips 6 (v := .bool false) rfl (exec_mv rfl (ev rfl)) (by kernel_rfl) ?_
            simp only [skipAct, List.take_succ_cons, List.take_zero, List.drop_succ_cons, List.drop_zero, Act.put, List.setIfInBounds_toArray, List.set_cons_succ, List.set_cons_zero]
            refine wpList_valn (v := .bool false) rfl (exec_pf rfl (ev rfl) evk) ?_
            simp only [Act.put, List.setIfInBounds_toArray, List.set_cons_succ, List.set_cons_zero]
            refine wpList_nil ?_
            go_upto_region 10 with fail
            refine wp_region_lit ?_
            refine wpList_valn rfl (exec_mv rfl (ev rfl)) ?_
            simp only [Act.put, List.setIfInBounds_toArray, List.set_cons_succ, List.set_cons_zero]
            refine wpList_valn rfl (exec_load rfl (ev rfl) HRNG.out) ?_
            simp only [Act.put, List.setIfInBounds_toArray, List.set_cons_succ, List.set_cons_zero]
            refine wpList_valn rfl (exec_mk1B rfl (ev rfl)) ?_
            simp only [Act.put, List.setIfInBounds_toArray, List.set_cons_succ, List.set_cons_zero]
            refine wpList_appB rfl _ _ rfl B (wr.heap.size + 1) 1 1 _ (secs q row) [ofL (row.drop (64 * q))] (some ⟨wr.heap.size, 0, none⟩) rfl rfl (HM2.out.below ((Below.refl _ wr).alloc (Nat.le_refl _) _)) ?_ (by rw [World.size_alloc]; exact Nat.le_succ_of_le HN3.out) (by rw [HSL.out]; omega) ?_
            · exact rdB_new1 wr (ofL (row.drop (64 * q)))
            intro v2 w2 hm2 hg2
            rw [← HSUC.out] at hm2
            have HM3 := Lib.hid hm2
            have HB4 := Lib.hid ((HB3.out.alloc HN3.out _).grown hg2 (by rw [World.size_alloc]; exact Nat.le_succ_of_le HN3.out) (fun k hk => HM2.out.ltB k hk))
            clear hm2 hg2
            simp only [Act.put, List.setIfInBounds_toArray, List.set_cons_succ, List.set_cons_zero]
            refine wpList_valn rfl (exec_as rfl (ev rfl)) ?_
            simp only [Act.put, List.setIfInBounds_toArray, List.set_cons_succ, List.set_cons_zero]
            refine wpList_nil ?_
            go_wp2_with fail
            go_roundw
            case rel => exact ⟨q + 1, by go_num, by omega, HM3.out, HB4.out⟩
            case measure => simp [intOf]; omega
    · have hqe : q = (n + 63) / 64 := by omega
      have HQ := Lib.hid hqe
      go_wp2_with fail
      go_ret
      exact ⟨_, rfl, by rw [← HQ.out]; exact HM.out, HBL.out⟩
end Go.Proofs.Ytfemlaombdeebaa
