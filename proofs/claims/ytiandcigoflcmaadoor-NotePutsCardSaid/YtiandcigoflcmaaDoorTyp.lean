/-
  Structs and arrays by value, of sealed sectors' layers: XTypA, and bytes laid into a body.
-/
import Derived.Test.YtiandcigoflcmaaDoorSpb
import Derived.Test.YtiandcigoflcmaaDoorTypA
namespace Go.Proofs.YtiandcigoflcmaaDoor
open Go.RowKit
set_option linter.unusedVariables false

theorem splice_pad {a x : List UInt8} (h : a.length + x.length ≤ 44) : splice (padL a) a.length x = padL (a ++ x) := by
  unfold splice padL
  rw [List.take_append_of_le_length (Nat.le_refl _), List.take_length, List.drop_append]
  rw [List.drop_of_length_le (by omega), List.nil_append, List.drop_replicate, List.append_assoc, List.length_append]
  congr 3
  omega
/-- A body that is all 0. -/
def z44 : List UInt8 := List.replicate 44 0
theorem z44_pad : z44 = padL [] := rfl
theorem z44_length : z44.length = 44 := rfl
end Go.Proofs.YtiandcigoflcmaaDoor
