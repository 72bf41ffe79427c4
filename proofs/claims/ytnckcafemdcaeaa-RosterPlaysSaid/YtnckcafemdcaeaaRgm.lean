/-
  May a geometry be: the program's geom, the document's.
-/
import Derived.Test.YtnckcafemdcaeaaRos
import Derived.Deep.DeepCutAuto
namespace Go.Proofs.Ytnckcafemdcaeaa
open Go.RowKit
set_option linter.unusedVariables false
set_option maxRecDepth 100000

set_option maxHeartbeats 1000000 in
theorem pgmay (x : Ros) (w : World) : Calls Try.prog 30 #[geo x] w fun e w' => e = .returned (.bool (geoB x)) ∧ Below w.heap.size w w' := by
  have h1 := geoB_iff (x := x)
  have h2 := geoB_not (x := x)
  generalize geoB x = g at *
  obtain ⟨m, s, r, st, cur, gone⟩ := x
  simp only at h1 h2
  have H1 := Lib.hid h1
  have H2 := Lib.hid h2
  clear h1 h2
  show Calls Try.prog 30 #[.agg #[.int .i64 m, .int .i64 s, .int .i64 r]] w _
  go_enter Try.func30, Try.ntmps30
  go_wp2
  all_goals
    go_ret
    refine ⟨ret_bool ?_, (Below.refl _ _).alloc (Nat.le_refl _) _⟩
    first
      | (refine Eq.symm (H2.out.2 ?_); omega)
      | (rw [Bool.eq_iff_iff, H1.out, decide_eq_true_iff]; omega)
set_option maxHeartbeats 1000000 in
theorem rgmay (x : Ros) (w : World) : Calls Try.prog 39 #[geo x] w fun e w' => e = .returned (.bool (geoB x)) ∧ Below w.heap.size w w' := by
  have h1 := geoB_iff (x := x)
  have h2 := geoB_not (x := x)
  generalize geoB x = g at *
  obtain ⟨m, s, r, st, cur, gone⟩ := x
  simp only at h1 h2
  have H1 := Lib.hid h1
  have H2 := Lib.hid h2
  clear h1 h2
  show Calls Try.prog 39 #[.agg #[.int .i64 m, .int .i64 s, .int .i64 r]] w _
  go_enter Try.func39, Try.ntmps39
  go_wp2
  all_goals
    go_ret
    refine ⟨ret_bool ?_, (Below.refl _ _).alloc (Nat.le_refl _) _⟩
    first
      | (refine Eq.symm (H2.out.2 ?_); omega)
      | (rw [Bool.eq_iff_iff, H1.out, decide_eq_true_iff]; omega)
end Go.Proofs.Ytnckcafemdcaeaa
