/-
  The document's cells: places, Size. (Out of XCps.)
-/
import Derived.Test.YtiandcigoflcmaaDoorHd
import Derived.Test.YtiandcigoflcmaaDoorSkip
import Derived.Deep.DeepCutAuto
namespace Go.Proofs.YtiandcigoflcmaaDoor
open Go.RowKit
set_option linter.unusedVariables false
set_option linter.unusedSimpArgs false
set_option maxRecDepth 100000

theorem rplaces (n : Nat) (w : World) (h : n ≤ 1000) : Calls Tryd.prog 37 #[.int .i64 (n : Int)] w fun e w' => e = .returned (.int .i64 (hd n : Nat)) ∧ w = w' := by
  go_enter Tryd.func37, Tryd.ntmps37
  go_wp2
  go_loop [3] (fun i => ∃ k : Nat, i = .int .i64 k ∧ 16 * k ≤ n + 15) (fun i => n + 16 - (intOf i).toNat)
  case atStart => exact ⟨0, rfl, by omega⟩
  case round =>
    obtain ⟨k, rfl, hk⟩ := hrel
    by_cases hlt : 16 * k < n
    · go_wp2
      go_round
      case rel => exact ⟨k + 1, by go_num, by omega⟩
      case measure => simp [intOf]; omega
    · go_wp2
      go_ret
      refine ⟨ret_int ?_, rfl⟩
      unfold hd
      omega
theorem rsize (n : Int) (w : World) : Calls Tryd.prog 25 #[.int .i64 n] w fun e w' => e = .returned (.int .i64 (sizN n : Nat)) ∧ w = w' := by
  by_cases h1 : n < 1
  · have HS := Lib.hid (sizN_no (.inl h1))
    go_enter Tryd.func25, Tryd.ntmps25
    go_wp2
    go_ret
    exact ⟨by rw [HS.out]; rfl, rfl⟩
  · by_cases h2 : 32 < n
    · have HS := Lib.hid (sizN_no (.inr h2))
      go_enter Tryd.func25, Tryd.ntmps25
      go_wp2
      go_ret
      exact ⟨by rw [HS.out]; rfl, rfl⟩
    · obtain ⟨k, rfl⟩ := Int.eq_ofNat_of_zero_le (show 0 ≤ n by omega)
      have hk1 : 1 ≤ k := by omega
      have hk2 : k ≤ 32 := by omega
      have HS := Lib.hid (sizN_of hk1 hk2)
      have hh : hd k ≤ 2 := by unfold hd; omega
      clear h1 h2
      go_enter Tryd.func25, Tryd.ntmps25
      go_wp2_with fail
      refine (rplaces k w (by omega)).mono ?_
      rintro e w' ⟨rfl, rfl⟩
      go_wp2
      go_ret
      exact ⟨by rw [HS.out]; simp, rfl⟩
end Go.Proofs.YtiandcigoflcmaaDoor
