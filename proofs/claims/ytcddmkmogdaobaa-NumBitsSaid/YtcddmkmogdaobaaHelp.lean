/-
  num's helpers: widths, how many bytes so many numbers take, where a number begins, whether it reaches into the next byte.
-/
import Derived.Test.YtcddmkmogdaobaaPut
namespace Go.Proofs.Ytcddmkmogdaobaa
open Go.RowKit
set_option linter.unusedVariables false

theorem mayWidth_yes (s : Int) (w : World) (h1 : 1 ≤ s) (h2 : s ≤ 8) : Calls Try.prog 24 #[.int .i64 s] w fun e w' => e = .returned (.bool true) ∧ w = w' := by
  go_enter Try.func24, Try.ntmps24
  go_wp2
  go_ret
  exact ⟨rfl, rfl⟩
theorem mayWidth_no (s : Int) (w : World) (h : ¬ (1 ≤ s ∧ s ≤ 8)) : Calls Try.prog 24 #[.int .i64 s] w fun e w' => e = .returned (.bool false) ∧ w = w' := by
  by_cases h1 : 1 ≤ s
  · have h2 : 8 < s := by omega
    clear h
    go_enter Try.func24, Try.ntmps24
    go_wp2
    go_ret
    exact ⟨ret_bool (by simp; omega), rfl⟩
  · clear h
    have h2 : s < 1 := by omega
    go_enter Try.func24, Try.ntmps24
    go_wp2
    go_ret
    exact ⟨rfl, rfl⟩
theorem widths {d : Nat} (h1 : 1 ≤ d) (h2 : d ≤ 8) : d = 1 ∨ d = 2 ∨ d = 3 ∨ d = 4 ∨ d = 5 ∨ d = 6 ∨ d = 7 ∨ d = 8 := by omega
/-- So many numbers of a width take so many bytes. -/
def bytesOf (m d : Nat) : Nat := (m * d + 7) / 8
set_option maxHeartbeats 1000000 in
theorem taken_any (m d : Nat) (w : World) (h1 : 1 ≤ d) (h2 : d ≤ 8) (hm : m ≤ 4611686018427387904) : Calls Try.prog 25 #[.int .i64 m, .int .i64 d] w fun e w' => e = .returned (.int .i64 (bytesOf m d)) ∧ w = w' := by
  rcases widths h1 h2 with rfl | rfl | rfl | rfl | rfl | rfl | rfl | rfl
  all_goals
    clear h1 h2
    go_enter Try.func25, Try.ntmps25
    go_wp2
    go_ret
    exact ⟨ret_int (by unfold bytesOf; omega), rfl⟩
set_option maxHeartbeats 1000000 in
theorem place_any (m d : Nat) (w : World) (h1 : 1 ≤ d) (h2 : d ≤ 8) (hm : m ≤ 4611686018427387904) : Calls Try.prog 26 #[.int .i64 m, .int .i64 d] w fun e w' => e = .returned (.tuple #[.int .i64 (m * d / 8 : Nat), .int .i64 (m * d % 8 : Nat)]) ∧ w = w' := by
  rcases widths h1 h2 with rfl | rfl | rfl | rfl | rfl | rfl | rfl | rfl
  all_goals
    clear h1 h2
    go_enter Try.func26, Try.ntmps26
    go_wp2
    go_ret2
    exact ⟨ret_ints (by omega) (by omega), rfl⟩
theorem spills_yes (a d : Nat) (w : World) (ha : a ≤ 8) (h2 : d ≤ 8) (h : 8 < a + d) : Calls Try.prog 27 #[.int .i64 a, .int .i64 d] w fun e w' => e = .returned (.bool true) ∧ w = w' := by
  go_enter Try.func27, Try.ntmps27
  go_wp2
  go_ret
  exact ⟨ret_bool (by simp; omega), rfl⟩
theorem spills_no (a d : Nat) (w : World) (ha : a ≤ 8) (h2 : d ≤ 8) (h : ¬ 8 < a + d) : Calls Try.prog 27 #[.int .i64 a, .int .i64 d] w fun e w' => e = .returned (.bool false) ∧ w = w' := by
  go_enter Try.func27, Try.ntmps27
  go_wp2
  go_ret
  exact ⟨ret_bool (by simp; omega), rfl⟩
end Go.Proofs.Ytcddmkmogdaobaa
