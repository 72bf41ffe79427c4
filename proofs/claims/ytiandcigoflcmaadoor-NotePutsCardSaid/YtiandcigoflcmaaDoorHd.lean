/-
  How many sectors a record has, no program. (Out of layer 11's plain mathematics.)
-/
import Derived.Test.YtiandcigoflcmaaDoorReg
namespace Go.Proofs.YtiandcigoflcmaaDoor
open Go.RowKit
set_option linter.unusedVariables false

/-- How many sectors the places of so many cells take. -/
def hd (n : Nat) : Nat := (n + 15) / 16
theorem hd_le (n : Nat) : 4 * n ≤ 64 * hd n := by unfold hd; omega
theorem hd_sec (n : Nat) : (4 * n + 63) / 64 = hd n := by unfold hd; omega
/-- How many sectors a record has. -/
def sizN (n : Int) : Nat := if n < 1 ∨ 32 < n then 0 else hd n.toNat + n.toNat
theorem sizN_no {n : Int} (h : n < 1 ∨ 32 < n) : sizN n = 0 := if_pos h
theorem sizN_of {n : Nat} (h1 : 1 ≤ n) (h2 : n ≤ 32) : sizN (n : Int) = hd n + n := by unfold sizN; rw [if_neg (by omega), Int.toNat_natCast]
theorem of_sizN {n : Int} (h : sizN n ≠ 0) : ∃ k : Nat, n = (k : Int) ∧ 1 ≤ k ∧ k ≤ 32 := by
  by_cases h1 : n < 1 ∨ 32 < n
  · exact absurd (sizN_no h1) h
  · exact ⟨n.toNat, by omega, by omega, by omega⟩
end Go.Proofs.YtiandcigoflcmaaDoor
