/-
  What goes round: the places of data behind the parity.
-/
import Derived.Test.YthephlgdjbdaoaaGeoC
namespace Go.Proofs.Ythephlgdjbdaoaa
open Go.RowKit
set_option linter.unusedVariables false

theorem mod2 {x M : Nat} (h : x < 2 * M) : x % M = if x < M then x else x - M := by
  split
  · exact Nat.mod_eq_of_lt (by assumption)
  · rw [Nat.mod_eq_sub_mod (by omega), Nat.mod_eq_of_lt (by omega)]
/-- The number of the data that a member has. -/
def nth (M T m : Nat) : Nat := (m + M - par M T - 1) % M
section
variable {M T m d : Nat}
theorem dat_eq (h3 : 3 ≤ M) (hd : d < M - 1) : dat M T d = if par M T + 1 + d < M then par M T + 1 + d else par M T + 1 + d - M := mod2 (by have := par_lt T h3; omega)
theorem nth_eq (h3 : 3 ≤ M) (hm : m < M) : nth M T m = if par M T < m then m - par M T - 1 else m + M - par M T - 1 := by
  unfold nth
  have := par_lt T h3
  rw [mod2 (by omega)]
  split <;> split <;> omega
theorem dat_ne (h3 : 3 ≤ M) (hd : d < M - 1) : dat M T d ≠ par M T := by
  have := par_lt T h3
  rw [dat_eq h3 hd]; split <;> omega
theorem nth_dat (h3 : 3 ≤ M) (hd : d < M - 1) : nth M T (dat M T d) = d := by
  have := par_lt T h3
  rw [nth_eq h3 (dat_lt T d h3), dat_eq h3 hd]
  split <;> split <;> omega
theorem dat_nth (h3 : 3 ≤ M) (hm : m < M) (hne : m ≠ par M T) : nth M T m < M - 1 ∧ dat M T (nth M T m) = m := by
  have := par_lt T h3
  have h1 : nth M T m < M - 1 := by rw [nth_eq h3 hm]; split <;> omega
  refine ⟨h1, ?_⟩
  rw [dat_eq h3 h1, nth_eq h3 hm]
  split <;> split <;> omega
end
theorem nth_int {M : Nat} (T m : Nat) (h3 : 3 ≤ M) : ((m : Int) + (M : Int) - ((par M T : Nat) : Int) - 1) % (M : Int) = ((nth M T m : Nat) : Int) := by
  have := par_lt T h3
  have e : ((m : Int) + (M : Int) - ((par M T : Nat) : Int) - 1) = ((m + M - par M T - 1 : Nat) : Int) := by omega
  rw [e]; rfl
/-- The members of a stripe's data. -/
def datR (M T : Nat) : List Int := (List.range (M - 1)).map fun d => ((dat M T d : Nat) : Int)
theorem datR_len (M T : Nat) : (datR M T).length = M - 1 := by simp [datR]
theorem datR_at {M T d : Nat} (h : d < M - 1) : (datR M T).getD d 0 = ((dat M T d : Nat) : Int) := by
  unfold datR
  simp [List.getD, List.getElem?_map, List.getElem?_range h]
def datL (m s r t : Int) : List Int := if may m s r = true then (if has s t = true then datR m.toNat t.toNat else []) else []
theorem datL_no {m s r : Int} (t : Int) (h : may m s r = false) : datL m s r t = [] := by simp [datL, h]
theorem datL_out {m s r t : Int} (h : may m s r = true) (h' : has s t = false) : datL m s r t = [] := by simp [datL, h, h']
theorem datL_in {M S T : Nat} {r : Int} (h : may M S r = true) (h' : has S T = true) : datL M S r T = datR M T := by unfold datL; rw [if_pos h, if_pos h']; rfl
theorem datL_len (m s r t : Int) : (datL m s r t).length ≤ 4096 := by
  unfold datL
  split
  · rename_i h
    have := may_iff.1 h
    split
    · rw [datR_len]; omega
    · simp
  · simp
end Go.Proofs.Ythephlgdjbdaoaa
