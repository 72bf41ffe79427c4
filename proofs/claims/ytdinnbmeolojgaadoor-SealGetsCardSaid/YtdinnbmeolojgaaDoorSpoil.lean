/-
  ashlarref00.Spoil.
-/
import Derived.Test.YtdinnbmeolojgaaDoorWide
namespace Go.Proofs.YtdinnbmeolojgaaDoor
open Go.RowKit
set_option linter.unusedVariables false

theorem grown_set {a w : World} {g i : Nat} (h : a.grownBy w (some g)) (u : Value) : a.grownBy (w.setCell ⟨g, i, none⟩ u) (some g) :=
  ⟨h.os, h.tape, h.output, by simpa [World.setCell] using h.size, fun k hk hne => (Below.heap_setCell w _ u k (fun e => hne (by rw [e]))).trans (h.block k hk hne)⟩

set_option maxHeartbeats 800000 in
/-- Spoil writes to its own slice's block alone. -/
theorem spoil_row (g n c : Nat) (f : Nat → Int) (x : Int) (w : World) (hrow : w.rowIs g 5 c (fun j => .int .u8 (f j))) (hn : n ≤ c) (hc : c ≤ maxLen) :
    Calls Tryd.prog 19 #[.slice (some ⟨g, 0, none⟩) n c, .int .u8 x] w fun e w' => e = .returned (.tuple #[]) ∧ w.grownBy w' (some g) := by
  unfold maxLen at hc
  go_enter Tryd.func19, Tryd.ntmps19
  go_wp2
  go_loopw [5] (fun i wr => ∃ (j : Nat) (f : Nat → Int), j ≤ c ∧ i = .int .i64 j ∧ wr.rowIs g 5 c (fun j => .int .u8 (f j)) ∧ w.grownBy wr (some g)) (fun i _ => c - (intOf i).toNat)
  case atStart => exact ⟨0, f, Nat.zero_le _, rfl, hrow, World.grownBy.refl w _⟩
  case round =>
    clear hrow
    obtain ⟨j, f, hj, rfl, hrow, hg⟩ := hrel
    by_cases hlt : j < c
    · have hc := hrow.cell (i := j) (by omega)
      have hfr := hrow.frozen j
      go_wp2
      go_roundw
      case rel => exact ⟨j + 1, _, by omega, by go_num, row_put hrow _, grown_set hg _⟩
      case measure => simp [intOf]; omega
    · go_wp2
      go_end0
      exact ⟨rfl, hg⟩
theorem spoil_nil (x : Int) (w : World) :
    Calls Tryd.prog 19 #[.slice none 0 0, .int .u8 x] w fun e w' => e = .returned (.tuple #[]) ∧ w = w' := by
  go_enter Tryd.func19, Tryd.ntmps19
  go_wp2
  refine wp_loop_rounds 1 ?_
  rw [rounds_succ]
  go_wp2
  go_end0
  exact ⟨rfl, rfl⟩
end Go.Proofs.YtdinnbmeolojgaaDoor
