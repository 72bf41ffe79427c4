/-
  RingApart's walk.
-/
import Derived.Test.YtiobcacleppceaaRiv
namespace Go.Proofs.Ytiobcacleppceaa
open Go.RowKit
set_option linter.unusedVariables false
set_option linter.unusedSimpArgs false

theorem sec_ne {r t : Int} {i j : Nat} (h1 : 1 ≤ r) (hji : j < i) (hir : (i : Int) < r) : (t + (i : Int)) % r ≠ (t + (j : Int)) % r := by
  intro e
  have d1 := Int.mul_ediv_add_emod (t + (i : Int)) r
  have d2 := Int.mul_ediv_add_emod (t + (j : Int)) r
  rw [e] at d1
  generalize (t + (i : Int)) / r = q1 at *
  generalize (t + (j : Int)) / r = q2 at *
  generalize (t + (j : Int)) % r = m at *
  have h : r * (q1 - q2) = (i : Int) - (j : Int) := by rw [Int.mul_sub]; omega
  by_cases hq : 1 ≤ q1 - q2
  · have := Int.mul_le_mul_of_nonneg_left hq (show 0 ≤ r by omega)
    omega
  · have := Int.mul_le_mul_of_nonneg_left (show q1 - q2 ≤ 0 by omega) (show 0 ≤ r by omega)
    omega
set_option maxRecDepth 100000 in
set_option maxHeartbeats 2000000 in
theorem apart_walk (a t n : Int) (w : World) (ha0 : 0 ≤ a) (ha1 : a ≤ 255) (ht0 : 0 ≤ t) (ht1 : t ≤ 18446744073709551615) (hn0 : 0 ≤ n) (hn1 : n ≤ 65535) :
    Calls Try.prog 4 #[.int .u8 a, .int .u64 t, .int .u16 n] w fun e w' => e = .returned (.bool true) ∧ Below w.heap.size w w' := by
  have hk0 := Int.emod_nonneg n (show 1 + a + 1 ≠ 0 by omega)
  have hk1 := Int.emod_lt_of_pos n (show 0 < 1 + a + 1 by omega)
  obtain ⟨K, hK⟩ : ∃ K : Nat, n % (1 + a + 1) = (K : Int) := ⟨(n % (1 + a + 1)).toNat, by omega⟩
  go_enter Try.func4, Try.ntmps4
  go_wp2_with fail
  have hr1 : 1 ≤ 1 + a := by omega
  have hr2 : 1 + a ≤ 256 := by omega
  have hk2 : (K : Int) ≤ 1 + a := by omega
  rw [← hK]
  generalize n % (1 + a + 1) = k at *
  subst hK
  clear hk0 hk1 hn0 hn1
  generalize 1 + a = r at *
  clear ha0 ha1
  refine (plis r t K _ w (Lib.hid rfl) ht0 ht1 (by omega) (by omega)).mono ?_
  rintro e w1 ⟨v, rfl, hv, hb⟩
  have HB1 := Lib.hid hb
  cases h : lisB r t K
  · have hq : ¬(t ≤ 4611686018427387904 ∧ t + (K : Int) ≤ 4611686018427387905) := fun x => by have := lis_not.1 h; omega
    have hgt : 4611686018427387648 < t := by omega
    rw [(lis_no h).2]
    clear h hv hq hb
    go_wp2_with fail
    refine (lives_yes w1).mono ?_
    rintro e w2 ⟨rfl, hb2⟩
    have HB2 := Lib.hid (HB1.out.trans (hb2.mono HB1.out.size))
    clear hb2
    go_wp2
    go_ret
    exact ⟨rfl, HB2.out⟩
  · rw [(lis_in h).2]
    rw [(lis_in h).1] at hv
    obtain ⟨-, -, g3, -, -, g6⟩ := lis_iff.1 h
    obtain ⟨A, c, rfl, hrd, hc1, hc2⟩ := hv.open_ (n := K) (secL_len ..)
    have HRD := Lib.hid hrd
    clear h hv hrd hb
    go_wp2_with fail
    go_loopw [11, 12] (fun i j wr => ∃ m : Nat, m ≤ K ∧ i = .int .i64 m ∧ Below w1.heap.size w1 wr) (fun i _ _ => K - (intOf i).toNat)
    case atStart => exact ⟨0, Nat.zero_le _, rfl, Below.refl _ _⟩
    case round =>
      obtain ⟨m, hm, rfl, hbl⟩ := hrel
      obtain ⟨wA, rfl⟩ : ∃ x, x = wr := ⟨_, rfl⟩
      by_cases hlt : m < K
      · obtain ⟨bA, oA, hA, hA', cA⟩ := (HRD.out.below hbl).int hlt
        rw [secL_at hlt] at cA
        have hx0 := Int.emod_nonneg (t + (m : Int)) (show r ≠ 0 by omega)
        have hx1 := Int.emod_lt_of_pos (t + (m : Int)) (show 0 < r by omega)
        have HNE := Lib.hid (fun (j : Nat) (hj : j < m) => sec_ne (r := r) (t := t) hr1 hj (by omega))
        have HS := Lib.hid (show ∀ j, j < K → (secL r t K).getD j 0 = (t + (j : Int)) % r from fun j hj => secL_at hj)
        subst hA
        generalize hx : (t + (m : Int)) % r = x at *
        have HX := Lib.hid hx
        clear hx
        go_wp2_with fail
        have hgA : w1.heap.size ≤ wA.heap.size := hbl.size
        go_loopw [12] (fun j wr => ∃ q : Nat, q ≤ m ∧ j = .int .i64 q ∧ Below wA.heap.size wA wr) (fun j _ => m - (intOf j).toNat)
        case atStart => exact ⟨0, Nat.zero_le _, rfl, Below.refl _ _⟩
        case round =>
          obtain ⟨q, hq, rfl, hbl2⟩ := hrel
          have B2 := Lib.hid (hbl.trans (hbl2.mono hgA))
          have B3 := Lib.hid hbl2
          by_cases hlt2 : q < m
          · obtain ⟨bB, oB, hB, hB', cB⟩ := (HRD.out.below B2.out).int (show q < K by omega)
            rw [HS.out q (by omega)] at cB
            have hn := HNE.out q hlt2
            have cA2 := (hbl2.cell (p := ⟨bA, oA + m, none⟩) (by show bA < _; omega)).trans cA
            obtain ⟨rfl, rfl⟩ : bA = bB ∧ oA = oB := by simpa using hB
            generalize (t + (q : Int)) % r = y at *
            have hgd : (x == y) = false := by simpa using hn
            clear cA hbl2 hB hn
            go_wp2_with fail
            go_quiet (fail)
            go_wp2_with fail
            go_roundw
            case rel => exact ⟨q + 1, by omega, by go_num, bdn B3.out _⟩
            case measure => simp [intOf]; omega
          · clear hbl2
            go_wp2_with fail
            go_roundw
            case rel => exact ⟨m + 1, by omega, by go_num, B2.out⟩
            case measure => simp [intOf]; omega
      · have B2 := Lib.hid (HB1.out.trans (hbl.mono HB1.out.size))
        clear hbl
        go_wp2_with fail
        refine (lives_yes _).mono ?_
        rintro e w2 ⟨rfl, hb2⟩
        have HB2 := Lib.hid (B2.out.trans (hb2.mono B2.out.size))
        clear hb2
        go_wp2
        go_ret
        exact ⟨rfl, HB2.out⟩
end Go.Proofs.Ytiobcacleppceaa
