/-
  Regions that draw their order, walked quietly: an operation, and so many behind it that are not wanted, taken at once.
-/
import Derived.Test.YtplanbjjfaihbaaSkip
namespace Go.Proofs.Ytplanbjjfaihbaa
open Go.RowKit
set_option maxRecDepth 100000
set_option linter.unusedVariables false

section
variable {P : Program} {ops : Array Oper} {C : World → Prop} {Q : Act → Prop} {a : Act} {o : Oper} {rest l : List Oper} {v : Value}
theorem wpQuiet_unw : ∀ (rs : List Oper) (a : Act), unw ops rs a = true → wpQuiet P ops C Q rest (skipAct rs a) → wpQuiet P ops C Q (rs ++ rest) a
  | [], _, _, h => h
  | r :: rs, a, hu, h => by
    simp only [unw, Bool.and_eq_true, Bool.not_eq_true'] at hu
    exact qv_skip hu.1 (wpQuiet_unw rs _ hu.2 h)
theorem qv_vals (n : Nat) (hw : Region.wanted o (yielded ops a.tmps) = true) (h : ∀ w, C w → (execOp a.eval o).run P w = .ok (.value v) w) (hu : unw ops (l.take n) (a.put o.dst v) = true) (hr : wpQuiet P ops C Q (l.drop n) (skipAct (l.take n) (a.put o.dst v))) : wpQuiet P ops C Q (o :: l) a :=
  qv_val hw h (by have := wpQuiet_unw (P := P) (C := C) (Q := Q) (l.take n) _ hu hr; rwa [List.take_append_drop] at this)
end
end Go.Proofs.Ytplanbjjfaihbaa
