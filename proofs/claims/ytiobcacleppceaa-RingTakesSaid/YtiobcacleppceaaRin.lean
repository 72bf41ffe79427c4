/-
  ring: room in the log; numbers alone (Sector, Free, Take), the program's and the document's.
-/
import Derived.Test.YtiobcacleppceaaBase
import Derived.Test.YtiobcacleppceaaPre
namespace Go.Proofs.Ytiobcacleppceaa
open Go.RowKit
set_option linter.unusedVariables false
set_option linter.unusedSimpArgs false

def mayB (r t h : Int) : Bool := decide (1 ≤ r ∧ r ≤ 256 ∧ t ≤ h ∧ h ≤ 4611686018427387904 ∧ h - t ≤ r)
theorem mayB_iff {r t h : Int} : mayB r t h = true ↔ 1 ≤ r ∧ r ≤ 256 ∧ t ≤ h ∧ h ≤ 4611686018427387904 ∧ h - t ≤ r := by unfold mayB; exact decide_eq_true_iff
theorem mayB_not {r t h : Int} : mayB r t h = false ↔ ¬(1 ≤ r ∧ r ≤ 256 ∧ t ≤ h ∧ h ≤ 4611686018427387904 ∧ h - t ≤ r) := by unfold mayB; rw [decide_eq_false_iff_not]
def secN (r t : Int) : Int := if mayB r t t then t % r else 0
def secE (r t : Int) : Int := if mayB r t t then 0 else 2
def freN (r t h : Int) : Int := if mayB r t h then r - (h - t) else 0
def freE (r t h : Int) : Int := if mayB r t h then 0 else 2
/-- May so many be asked of a ring? Is there room? -/
def tolB (r t h n : Int) : Bool := decide (mayB r t h = true ∧ 0 ≤ n)
def romB (r t h n : Int) : Bool := decide (n ≤ r - (h - t) ∧ h + n ≤ 4611686018427387904)
def takN (r t h n : Int) : Int := if tolB r t h n && romB r t h n then h + n else 0
def takE (r t h n : Int) : Int := if tolB r t h n then (if romB r t h n then 0 else 10) else 2

def ringB (r : Int) : Bool := decide (1 ≤ r ∧ r ≤ 256)
def posB (t : Int) : Bool := decide (t ≤ 4611686018427387904)
theorem ring_ok (r : Int) (w : World) : Calls Try.prog 16 #[.int .i64 r] w fun e w' => e = .returned (.bool (ringB r)) ∧ w = w' := by
  go_enter Try.func16, Try.ntmps16
  go_wp2
  all_goals
    go_ret
    refine ⟨ret_bool ?_, rfl⟩
    unfold ringB
    first
      | (refine Eq.symm (decide_eq_false ?_); omega)
      | (rw [Bool.eq_iff_iff, decide_eq_true_iff, decide_eq_true_iff]; omega)
theorem pos_ok (t : Int) (w : World) : Calls Try.prog 17 #[.int .u64 t] w fun e w' => e = .returned (.bool (posB t)) ∧ w = w' := by
  go_enter Try.func17, Try.ntmps17
  go_wp2
  go_ret
  exact ⟨rfl, rfl⟩
theorem ahead_ok (t : Int) (w : World) (h0 : 0 ≤ t) (h1 : t ≤ 4611686018427387904) : Calls Try.prog 21 #[.int .u64 t] w fun e w' => e = .returned (.int .u64 (4611686018427387904 - t)) ∧ w = w' := by
  go_enter Try.func21, Try.ntmps21
  go_wp2
  go_ret
  exact ⟨ret_int (by omega), rfl⟩
theorem sector_ok (r t : Int) (w : World) (h1 : 1 ≤ r) (h2 : r ≤ 256) (h0 : 0 ≤ t) (h3 : t ≤ 18446744073709551615) : Calls Try.prog 18 #[.int .i64 r, .int .u64 t] w fun e w' => e = .returned (.int .i64 (t % r)) ∧ w = w' := by
  have hm0 := Int.emod_nonneg t (show r ≠ 0 by omega)
  have hm1 := Int.emod_lt_of_pos t (show 0 < r by omega)
  go_enter Try.func18, Try.ntmps18
  go_wp2
  go_ret
  exact ⟨ret_int (by omega), rfl⟩
set_option maxHeartbeats 1000000 in
theorem rmay (r t h : Int) (w : World) (ht0 : 0 ≤ t) (ht1 : t ≤ 18446744073709551615) (hh0 : 0 ≤ h) (hh1 : h ≤ 18446744073709551615) : Calls Try.prog 19 #[.int .i64 r, .int .u64 t, .int .u64 h] w fun e w' => e = .returned (.bool (mayB r t h)) ∧ w = w' := by
  go_enter Try.func19, Try.ntmps19
  go_wp2
  all_goals
    go_ret
    refine ⟨ret_bool ?_, rfl⟩
    first
      | (refine Eq.symm (mayB_not.2 ?_); omega)
      | (rw [Bool.eq_iff_iff, mayB_iff, decide_eq_true_iff]; omega)
def useB (r t h : Int) : Bool := decide (t ≤ h ∧ h ≤ 4611686018427387904 ∧ h - t ≤ r)
set_option maxHeartbeats 1000000 in
theorem use_ok (r t h : Int) (w : World) (hr1 : 1 ≤ r) (hr2 : r ≤ 256) (ht0 : 0 ≤ t) (ht1 : t ≤ 18446744073709551615) (hh0 : 0 ≤ h) (hh1 : h ≤ 18446744073709551615) : Calls Try.prog 20 #[.int .i64 r, .int .u64 t, .int .u64 h] w fun e w' => e = .returned (.bool (useB r t h)) ∧ w = w' := by
  go_enter Try.func20, Try.ntmps20
  go_wp2_with fail
  refine (pos_ok h w).mono ?_
  rintro e w1 ⟨rfl, rfl⟩
  by_cases h1 : h ≤ 4611686018427387904
  · rw [show posB h = true from decide_eq_true h1]
    go_wp2
    all_goals
      go_ret
      refine ⟨ret_bool ?_, rfl⟩
      unfold useB
      first
        | (refine Eq.symm (decide_eq_false ?_); omega)
        | (rw [Bool.eq_iff_iff, decide_eq_true_iff, decide_eq_true_iff]; omega)
  · rw [show posB h = false from decide_eq_false h1]
    go_wp2
    go_ret
    refine ⟨ret_bool ?_, rfl⟩
    unfold useB
    refine Eq.symm (decide_eq_false ?_); omega
end Go.Proofs.Ytiobcacleppceaa
