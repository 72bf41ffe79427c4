/-
  ring.Sector, Free, Take, and the document's.
-/
import Derived.Test.YtiobcacleppceaaRin
namespace Go.Proofs.Ytiobcacleppceaa
open Go.RowKit
set_option linter.unusedVariables false
set_option linter.unusedSimpArgs false

theorem ring_true {r : Int} (h : 1 ≤ r ∧ r ≤ 256) : ringB r = true := decide_eq_true h
theorem ring_false {r : Int} (h : ¬(1 ≤ r ∧ r ≤ 256)) : ringB r = false := decide_eq_false h
theorem pos_true {r : Int} (h : r ≤ 4611686018427387904) : posB r = true := decide_eq_true h
theorem pos_false {r : Int} (h : ¬r ≤ 4611686018427387904) : posB r = false := decide_eq_false h
theorem use_iff {r t h : Int} : useB r t h = true ↔ t ≤ h ∧ h ≤ 4611686018427387904 ∧ h - t ≤ r := by unfold useB; exact decide_eq_true_iff
theorem may_use {r t h : Int} : mayB r t h = (ringB r && useB r t h) := by
  rw [Bool.eq_iff_iff, mayB_iff, Bool.and_eq_true]
  unfold ringB useB
  rw [decide_eq_true_iff, decide_eq_true_iff]
  omega
theorem may_one {r t : Int} : mayB r t t = (ringB r && posB t) := by
  rw [Bool.eq_iff_iff, mayB_iff, Bool.and_eq_true]
  unfold ringB posB
  rw [decide_eq_true_iff, decide_eq_true_iff]
  omega
theorem sec_no {r t : Int} (h : mayB r t t = false) : secN r t = 0 ∧ secE r t = 2 := by unfold secN secE; rw [h]; exact ⟨rfl, rfl⟩
theorem sec_in {r t : Int} (h : mayB r t t = true) : secN r t = t % r ∧ secE r t = 0 := by unfold secN secE; rw [h]; exact ⟨rfl, rfl⟩
theorem fre_no {r t h : Int} (hm : mayB r t h = false) : freN r t h = 0 ∧ freE r t h = 2 := by unfold freN freE; rw [hm]; exact ⟨rfl, rfl⟩
theorem fre_in {r t h : Int} (hm : mayB r t h = true) : freN r t h = r - (h - t) ∧ freE r t h = 0 := by unfold freN freE; rw [hm]; exact ⟨rfl, rfl⟩
theorem ret_pair {k k' : IntKind} {a b a' b' : Int} (h : a = b ∧ a' = b') : Ending.returned (.tuple #[.int k b, .int k' b']) = .returned (.tuple #[.int k a, .int k' a']) := by rw [h.1, h.2]

theorem psec (r t : Int) (w : World) (h0 : 0 ≤ t) (h1 : t ≤ 18446744073709551615) : Calls Try.prog 6 #[.int .i64 r, .int .u64 t] w fun e w' => e = .returned (.tuple #[.int .i64 (secN r t), .int .i64 (secE r t)]) ∧ w = w' := by
  go_enter Try.func6, Try.ntmps6
  go_wp2_with fail
  refine (ring_ok r w).mono ?_
  rintro e w1 ⟨rfl, rfl⟩
  by_cases hr : 1 ≤ r ∧ r ≤ 256
  · rw [ring_true hr]
    go_wp2_with fail
    refine (pos_ok t w).mono ?_
    rintro e w1 ⟨rfl, rfl⟩
    by_cases ht : t ≤ 4611686018427387904
    · have hs := Lib.hid (sec_in (r := r) (t := t) (by rw [may_one, ring_true hr, pos_true ht]; rfl))
      rw [pos_true ht]
      go_wp2_with fail
      refine (sector_ok r t w hr.1 hr.2 h0 h1).mono ?_
      rintro e w1 ⟨rfl, rfl⟩
      go_wp2
      go_ret2
      exact ⟨ret_pair hs.out, rfl⟩
    · have hs := Lib.hid (sec_no (r := r) (t := t) (by rw [may_one, pos_false ht, Bool.and_false]))
      rw [pos_false ht]
      go_wp2
      go_ret2
      exact ⟨ret_pair hs.out, rfl⟩
  · have hs := Lib.hid (sec_no (r := r) (t := t) (by rw [may_one, ring_false hr, Bool.false_and]))
    rw [ring_false hr]
    go_wp2
    go_ret2
    exact ⟨ret_pair hs.out, rfl⟩
theorem rsec (r t : Int) (w : World) (h0 : 0 ≤ t) (h1 : t ≤ 18446744073709551615) : Calls Try.prog 7 #[.int .i64 r, .int .u64 t] w fun e w' => e = .returned (.tuple #[.int .i64 (secN r t), .int .i64 (secE r t)]) ∧ w = w' := by
  go_enter Try.func7, Try.ntmps7
  go_wp2_with fail
  refine (rmay r t t w h0 h1 h0 h1).mono ?_
  rintro e w1 ⟨rfl, rfl⟩
  cases hm : mayB r t t
  · have hs := Lib.hid (sec_no hm)
    clear hm
    go_wp2
    go_ret2
    exact ⟨ret_pair hs.out, rfl⟩
  · have hs := Lib.hid (sec_in hm)
    obtain ⟨g1, g2, -, g3, -⟩ := mayB_iff.1 hm
    have hm0 := Int.emod_nonneg t (show r ≠ 0 by omega)
    have hm1 := Int.emod_lt_of_pos t (show 0 < r by omega)
    clear hm
    go_wp2
    go_ret2
    exact ⟨ret_pair ⟨hs.out.1.trans (by omega), hs.out.2⟩, rfl⟩
theorem pfre (r t h : Int) (w : World) (ht0 : 0 ≤ t) (ht1 : t ≤ 18446744073709551615) (hh0 : 0 ≤ h) (hh1 : h ≤ 18446744073709551615) : Calls Try.prog 8 #[.int .i64 r, .int .u64 t, .int .u64 h] w fun e w' => e = .returned (.tuple #[.int .i64 (freN r t h), .int .i64 (freE r t h)]) ∧ w = w' := by
  go_enter Try.func8, Try.ntmps8
  go_wp2_with fail
  refine (ring_ok r w).mono ?_
  rintro e w1 ⟨rfl, rfl⟩
  by_cases hr : 1 ≤ r ∧ r ≤ 256
  · rw [ring_true hr]
    go_wp2_with fail
    refine (use_ok r t h w hr.1 hr.2 ht0 ht1 hh0 hh1).mono ?_
    rintro e w1 ⟨rfl, rfl⟩
    cases hu : useB r t h
    · have hs := Lib.hid (fre_no (r := r) (t := t) (h := h) (by rw [may_use, hu, Bool.and_false]))
      clear hu
      go_wp2
      go_ret2
      exact ⟨ret_pair hs.out, rfl⟩
    · have hs := Lib.hid (fre_in (r := r) (t := t) (h := h) (by rw [may_use, hu, ring_true hr]; rfl))
      obtain ⟨g1, g2, g3⟩ := use_iff.1 hu
      clear hu
      go_wp2
      go_ret2
      exact ⟨ret_pair ⟨hs.out.1.trans (by omega), hs.out.2⟩, rfl⟩
  · have hs := Lib.hid (fre_no (r := r) (t := t) (h := h) (by rw [may_use, ring_false hr, Bool.false_and]))
    rw [ring_false hr]
    go_wp2
    go_ret2
    exact ⟨ret_pair hs.out, rfl⟩
theorem rfre (r t h : Int) (w : World) (ht0 : 0 ≤ t) (ht1 : t ≤ 18446744073709551615) (hh0 : 0 ≤ h) (hh1 : h ≤ 18446744073709551615) : Calls Try.prog 9 #[.int .i64 r, .int .u64 t, .int .u64 h] w fun e w' => e = .returned (.tuple #[.int .i64 (freN r t h), .int .i64 (freE r t h)]) ∧ w = w' := by
  go_enter Try.func9, Try.ntmps9
  go_wp2_with fail
  refine (rmay r t h w ht0 ht1 hh0 hh1).mono ?_
  rintro e w1 ⟨rfl, rfl⟩
  cases hm : mayB r t h
  · have hs := Lib.hid (fre_no hm)
    clear hm
    go_wp2
    go_ret2
    exact ⟨ret_pair hs.out, rfl⟩
  · have hs := Lib.hid (fre_in hm)
    obtain ⟨g1, g2, g3, g4, g5⟩ := mayB_iff.1 hm
    clear hm
    go_wp2
    go_ret2
    exact ⟨ret_pair ⟨hs.out.1.trans (by omega), hs.out.2⟩, rfl⟩
end Go.Proofs.Ytiobcacleppceaa
