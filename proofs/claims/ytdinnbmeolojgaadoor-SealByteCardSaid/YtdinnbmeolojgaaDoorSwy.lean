/-
  The walk of SealByte.
-/
import Derived.Test.YtdinnbmeolojgaaDoorSlv
import Derived.Laws.BitsAllLaws
namespace Go.Proofs.YtdinnbmeolojgaaDoor
open Go.RowKit
set_option linter.unusedVariables false
set_option maxRecDepth 100000

/-- Wherever Put refuses, the law asks for the lives alone. -/
theorem sealByte_no (n m c a v : Nat) (A : Option Addr) (b : List UInt8) (w : World) (T : Tab w) (hn : n < 18446744073709551616) (hb : Rd w w.heap.size A m b) (hm : m ≤ 140737488351232) (h : putE n b ≠ 0) :
    Calls Tryd.prog 7 #[.int .u64 n, .slice A m c, .int .u8 a, .int .u8 v] w fun e w' => e = .returned (.bool true) ∧ Below w.heap.size w w' := by
  have HT := Lib.hid T
  have HP := Lib.hid (put_all n m c _ A b w T hn hb (Nat.le_refl _) (by unfold maxLen; omega))
  clear T hb hn
  generalize putB n b = x at *
  generalize putE n b = z at *
  have hz : ((z : Int) != 0) = true := by simp; omega
  go_enter Tryd.func7, Tryd.ntmps7
  go_wp2_with fail
  refine HP.out.mono ?_
  rintro e w1 ⟨rfl, hb1⟩
  have HB1 := Lib.hid (hb1.alloc hb1.size (.cells (cel x).toArray 26))
  clear hb1 HP
  go_wp2_with (first | (refine wpList_val rfl (exec_alloc rfl) ?_) | (refine wpList_nul rfl (exec_fillN rfl rfl rfl) ?_) | fail)
  refine (seal_lives _ (HT.out.below HB1.out)).mono ?_
  rintro e w5 ⟨rfl, hb5⟩
  have HB5 := Lib.hid (HB1.out.trans (hb5.mono HB1.out.size))
  clear hb5
  go_wp2
  go_ret
  exact ⟨rfl, HB5.out⟩
/-- What the law asks of the error. -/
theorem byte_three {x c : Blk} {k : Nat} {u : UInt8} (hk : k < 64) (h : getE x.toList = 0) (hc : c = x.set k (x[k] ^^^ u)) : (u = 0 ∧ getE c.toList = 0) ∨ (u ≠ 0 ∧ (getE c.toList = 5 ∨ getE c.toList = 6)) := by
  by_cases hu : u = 0
  · left
    refine ⟨hu, ?_⟩
    have : c = x := by rw [hc, hu]; simp
    rw [this, h]
  · right
    refine ⟨hu, ?_⟩
    have hne : getE c.toList ≠ 0 := byte_no hk h (fun j hj hjk => by
      rw [hc, byt_get _ hj, byt_get _ hj, Vector.getElem_set_ne]
      omega) (by
      rw [hc, byt_get _ hk, byt_get _ hk, Vector.getElem_set_self]
      intro e
      apply hu
      have e2 : x[k] ^^^ u = x[k] := UInt8.toNat_inj.1 (by omega)
      have e3 : x[k] ^^^ (x[k] ^^^ u) = x[k] ^^^ x[k] := by rw [e2]
      simpa [← UInt8.xor_assoc] using e3)
    have := getE_three c.toList
    omega
set_option maxHeartbeats 4000000 in
theorem sealByte_yes (n m c a : Nat) (u : UInt8) (A : Option Addr) (b : List UInt8) (w : World) (T : Tab w) (hn : n < 18446744073709551616) (hb : Rd w w.heap.size A m b) (hm : m ≤ 140737488351232) (ha : a < 256) (h : putE n b = 0) :
    Calls Tryd.prog 7 #[.int .u64 n, .slice A m c, .int .u8 a, .int .u8 (u.toNat : Int)] w fun e w' => e = .returned (.bool true) ∧ Below w.heap.size w w' := by
  have HT := Lib.hid T
  have HP := Lib.hid (put_all n m c _ A b w T hn hb (Nat.le_refl _) (by unfold maxLen; omega))
  rw [h] at HP
  have hE := put_getE hn h
  clear T hb hn h
  generalize putB n b = x at *
  obtain ⟨k, hk, hk1, hk2⟩ : ∃ k : Nat, k < 64 ∧ ((a : Int) % 64) = (k : Int) ∧ (a : Int).tmod 64 = (k : Int) := ⟨a % 64, by omega, by omega, by rw [Int.tmod_eq_emod_of_nonneg (by omega)]; omega⟩
  obtain ⟨d, hd⟩ : ∃ d, d = x.set k (x[k] ^^^ u) := ⟨_, rfl⟩
  have H3 := Lib.hid (byte_three hk hE hd)
  have hxor : bits .xor .u8 (byt x k) (u.toNat : Int) = byt d k := by
    rw [hd, byt_get _ hk, byt_get _ hk, Vector.getElem_set_self, u8_xor_nat _ _ (UInt8.toNat_lt _) (UInt8.toNat_lt _), UInt8.toNat_xor]
  have hset : (cel x).set k (.int .u8 (byt d k)) = cel d := by
    have : byt d k = ((x[k] ^^^ u).toNat : Int) := by rw [byt_get _ hk, hd, Vector.getElem_set_self]
    rw [this, cel_set x hk, ← hd]
  have hu := UInt8.toNat_lt u
  have hu0 := Lib.hid (show u = 0 ↔ u.toNat = 0 from ⟨fun e => by rw [e]; rfl, fun e => UInt8.toNat_inj.1 e⟩)
  generalize u.toNat = v at *
  have hkl : k < 64 := hk
  clear hE hd
  go_enter Tryd.func7, Tryd.ntmps7
  go_wp2_with fail
  refine HP.out.mono ?_
  rintro e w1 ⟨rfl, hb1⟩
  have HA1 := Lib.hid (range_new w1 (cel x) 26)
  have h1 := hb1.alloc hb1.size (.cells (cel x).toArray 26)
  have hrd := range_new (w1.alloc (.cells (cel x).toArray 26)) (cel d) 26
  rw [World.size_alloc] at hrd
  have hck := cel_at x hk
  have HRD := Lib.hid hrd
  have HB3 := Lib.hid (h1.alloc h1.size (.cells (cel d).toArray 26))
  clear hb1 h1 HP hrd
  go_wp2_with (first | (refine wpList_val rfl (exec_alloc rfl) ?_) | (refine wpList_nul rfl (exec_fillN rfl rfl rfl) ?_) | (refine wpList_val rfl (exec_load rfl rfl HA1.out) ?_) | (refine wpList_val rfl (exec_load (c := d) rfl rfl ?_) ?_; (with_reducible exact HRD.out)) | fail)
  refine (pget_any d _ _ (Lib.hid rfl) (HT.out.below HB3.out)).mono ?_
  rintro e w7 ⟨v7, rfl, _, hb7⟩
  have HB7 := Lib.hid (HB3.out.trans (hb7.mono HB3.out.size))
  clear hb7 hck hxor hset hk1 hk2
  rcases H3.out with ⟨hu1, he⟩ | ⟨hu1, he | he⟩
  · obtain rfl : v = 0 := hu0.out.1 hu1
    rw [he]
    clear he hu1
    go_wp2_with fail
    refine (seal_lives _ (HT.out.below HB7.out)).mono ?_
    rintro e w8 ⟨rfl, hb8⟩
    have HB8 := Lib.hid (HB7.out.trans (hb8.mono HB7.out.size))
    clear hb8
    go_wp2
    go_ret
    exact ⟨rfl, HB8.out⟩
  all_goals
    have hv : ((v : Int) == 0) = false := by
      have := mt hu0.out.2 hu1
      simp
      omega
    rw [he]
    clear he hu1
    go_wp2_with fail
    refine (seal_lives _ (HT.out.below HB7.out)).mono ?_
    rintro e w8 ⟨rfl, hb8⟩
    have HB8 := Lib.hid (HB7.out.trans (hb8.mono HB7.out.size))
    clear hb8
    go_wp2
    go_ret
    exact ⟨rfl, HB8.out⟩
theorem sealByte_walk (n m c a : Nat) (u : UInt8) (A : Option Addr) (b : List UInt8) (w : World) (T : Tab w) (hn : n < 18446744073709551616) (hb : Rd w w.heap.size A m b) (hm : m ≤ 140737488351232) (ha : a < 256) :
    Calls Tryd.prog 7 #[.int .u64 n, .slice A m c, .int .u8 a, .int .u8 (u.toNat : Int)] w fun e w' => e = .returned (.bool true) ∧ Below w.heap.size w w' := by
  by_cases h : putE n b = 0
  · exact sealByte_yes n m c a u A b w T hn hb hm ha h
  · exact sealByte_no n m c a _ A b w T hn hb hm h
end Go.Proofs.YtdinnbmeolojgaaDoor
