/-
  The walk of SealBack.
-/
import Derived.Test.YtdinnbmeolojgaaDoorSlv
namespace Go.Proofs.YtdinnbmeolojgaaDoor
open Go.RowKit
set_option linter.unusedVariables false
set_option maxRecDepth 100000

set_option maxHeartbeats 4000000 in
theorem sealBack_arg (m c : Nat) (A : Option Addr) (b : List UInt8) (w : World) (T : Tab w) (hb : Rd w w.heap.size A m b) (hm : m ≤ 140737488351232) :
    Calls Tryd.prog 5 #[.int .u64 0, .slice A m c] w fun e w' => e = .returned (.bool true) ∧ Below w.heap.size w w' := by
  have HT := Lib.hid T
  have HP := Lib.hid (put_all 0 m c _ A b w T (by omega) hb (Nat.le_refl _) (by unfold maxLen; omega))
  rw [show putE 0 b = 2 from rfl] at HP
  clear T hb
  go_enter Tryd.func5, Tryd.ntmps5
  go_wp2_with fail
  refine HP.out.mono ?_
  rintro e w1 ⟨rfl, hb1⟩
  generalize putB 0 b = x at *
  have HB1 := Lib.hid (hb1.alloc hb1.size (.cells (cel x).toArray 26))
  clear hb1 HP
  go_wp2_with (first | (refine wpList_val rfl (exec_alloc rfl) ?_) | (refine wpList_nul rfl (exec_fillN rfl rfl rfl) ?_) | fail)
  refine (seal_lives _ (HT.out.below HB1.out)).mono ?_
  rintro e w5 ⟨rfl, hb5⟩
  have HB5 := Lib.hid (HB1.out.trans (hb5.mono HB1.out.size))
  clear hb5
  go_wp2
  go_ret
  exact ⟨rfl, HB5.out⟩
set_option maxHeartbeats 4000000 in
theorem sealBack_long (n m c : Nat) (A : Option Addr) (b : List UInt8) (w : World) (T : Tab w) (hn : n < 18446744073709551616) (h0 : 0 < n) (hb : Rd w w.heap.size A m b) (h44 : 44 < m) (hm : m ≤ 140737488351232) :
    Calls Tryd.prog 5 #[.int .u64 n, .slice A m c] w fun e w' => e = .returned (.bool true) ∧ Below w.heap.size w w' := by
  have HT := Lib.hid T
  have HP := Lib.hid (put_all n m c _ A b w T hn hb (Nat.le_refl _) (by unfold maxLen; omega))
  have hE : putE n b = 3 := by unfold putE; rw [if_neg (by omega), if_pos (by have := hb.1; omega)]
  rw [hE] at HP
  have hz : ((n : Int) == 0) = false := by simp; omega
  clear T hb hE hn
  go_enter Tryd.func5, Tryd.ntmps5
  go_wp2_with fail
  refine HP.out.mono ?_
  rintro e w1 ⟨rfl, hb1⟩
  generalize putB n b = x at *
  have HB1 := Lib.hid (hb1.alloc hb1.size (.cells (cel x).toArray 26))
  clear hb1 HP
  go_wp2_with (first | (refine wpList_val rfl (exec_alloc rfl) ?_) | (refine wpList_nul rfl (exec_fillN rfl rfl rfl) ?_) | fail)
  refine (seal_lives _ (HT.out.below HB1.out)).mono ?_
  rintro e w5 ⟨rfl, hb5⟩
  have HB5 := Lib.hid (HB1.out.trans (hb5.mono HB1.out.size))
  clear hb5
  go_wp2
  go_ret
  exact ⟨rfl, HB5.out⟩
set_option maxHeartbeats 4000000 in
theorem sealBack_yes (n m c : Nat) (A : Option Addr) (b : List UInt8) (w : World) (T : Tab w) (hn : n < 18446744073709551616) (h0 : 0 < n) (hb : Rd w w.heap.size A m b) (h44 : m ≤ 44) :
    Calls Tryd.prog 5 #[.int .u64 n, .slice A m c] w fun e w' => e = .returned (.bool true) ∧ Below w.heap.size w w' := by
  have HT := Lib.hid T
  have HP := Lib.hid (put_all n m c _ A b w T hn hb (Nat.le_refl _) (by unfold maxLen; omega))
  have hE : putE n b = 0 := putE_ok (by omega) (by have := hb.1; omega)
  rw [hE] at HP
  have HE := Lib.hid (put_getE hn hE)
  have HN := Lib.hid (put_getN hn hE)
  have HBB := Lib.hid (put_getB hn hE)
  have HPL := Lib.hid (padL_length (b := b) (by have := hb.1; omega))
  have HR := Lib.hid hb
  have HL := Lib.hid hb.1
  have HPAD : Hid (∀ j, bt (padL b) j = if j < m then bt b j else 0) := Lib.hid fun j => by rw [bt_pad, hb.1]
  clear T hb hE hn
  go_enter Tryd.func5, Tryd.ntmps5
  go_wp2_with fail
  refine HP.out.mono ?_
  rintro e w1 ⟨rfl, hb1⟩
  generalize putB n b = x at *
  have HA1 := Lib.hid (range_new w1 (cel x) 26)
  have HB1 := Lib.hid (hb1.alloc hb1.size (.cells (cel x).toArray 26))
  clear hb1 HP
  go_wp2_with (first | (refine wpList_val rfl (exec_alloc rfl) ?_) | (refine wpList_nul rfl (exec_fillN rfl rfl rfl) ?_) | (refine wpList_val rfl (exec_load rfl rfl HA1.out) ?_) | fail)
  refine (pget_any x _ _ (Lib.hid rfl) (HT.out.below HB1.out)).mono ?_
  rintro e w2 ⟨v, rfl, hv, hb2⟩
  rw [HE.out, HN.out]
  rw [HBB.out] at hv
  obtain ⟨Ax, cx, rfl, hrx, hcx, hmx⟩ := hv.made.open_ HPL.out
  obtain ⟨l, hl⟩ : ∃ l, padL b = l := ⟨_, rfl⟩
  rw [hl] at hrx HPAD
  unfold maxLen at hmx
  have HRX := Lib.hid hrx
  have HB2 := Lib.hid (HB1.out.trans (hb2.mono HB1.out.size))
  have hnn : ((n : Int) != (n : Int)) = false := by simp
  clear hv hb2 hl hrx HB1 HA1
  have HLE := Lib.hid HB2.out.size
  go_wp2_with fail
  go_loopw [10] (fun i wr => ∃ k : Nat, k ≤ 44 ∧ i = .int .i64 k ∧ Below w2.heap.size w2 wr) (fun i _ => 44 - (intOf i).toNat)
  case atStart => exact ⟨0, Nat.zero_le _, rfl, Below.refl _ _⟩
  case round =>
    obtain ⟨k, hk, rfl, hbl⟩ := hrel
    by_cases hlt : k < 44
    · have hp := HPAD.out k
      obtain ⟨bX, oX, rfl, hX, cX⟩ := (HRX.out.below hbl).2 k hlt
      by_cases hkm : k < m
      · obtain ⟨bB, oB, rfl, hB, cB⟩ := ((HR.out.below HB2.out).below (hbl.mono HLE.out)).2 k hkm
        rw [if_pos hkm] at hp
        have hne : (bt l k != bt b k) = false := by rw [hp]; simp
        have hd1 : decide (k < m) = true := by simpa using hkm
        have hd2 : decide (m ≤ k) = false := by simpa using hkm
        clear hp
        go_wp2_with fail
        go_quiet (fail)
        all_goals (go_wp2_with fail)
        go_roundw
        case rel => exact ⟨k + 1, by omega, by go_num, bdn hbl _⟩
        case measure => simp [intOf]; omega
      · rw [if_neg hkm] at hp
        have hne : (bt l k != 0) = false := by rw [hp]; simp
        have hkm2 : m ≤ k := by omega
        have hd1 : decide (k < m) = false := by simpa using hkm2
        have hd2 : decide (m ≤ k) = true := by simpa using hkm2
        clear hp
        go_wp2_with fail
        go_quiet (fail)
        all_goals (go_wp2_with fail)
        go_roundw
        case rel => exact ⟨k + 1, by omega, by go_num, bdn hbl _⟩
        case measure => simp [intOf]; omega
    · have hk44 : k = 44 := by omega
      subst hk44
      have HBX := Lib.hid (HB2.out.trans (hbl.mono HB2.out.size))
      clear hbl
      go_wp2_with fail
      refine (seal_lives _ (HT.out.below HBX.out)).mono ?_
      rintro e w5 ⟨rfl, hb5⟩
      have HB5 := Lib.hid (HBX.out.trans (hb5.mono HBX.out.size))
      clear hb5
      go_wp2
      go_ret
      exact ⟨rfl, HB5.out⟩
theorem sealBack_walk (n m c : Nat) (A : Option Addr) (b : List UInt8) (w : World) (T : Tab w) (hn : n < 18446744073709551616) (hb : Rd w w.heap.size A m b) (hm : m ≤ 140737488351232) :
    Calls Tryd.prog 5 #[.int .u64 n, .slice A m c] w fun e w' => e = .returned (.bool true) ∧ Below w.heap.size w w' := by
  by_cases h0 : n = 0
  · subst h0
    exact sealBack_arg m c A b w T hb hm
  · by_cases h44 : m ≤ 44
    · exact sealBack_yes n m c A b w T hn (by omega) hb h44
    · exact sealBack_long n m c A b w T hn (by omega) hb (by omega) hm
end Go.Proofs.YtdinnbmeolojgaaDoor
