/-
  Plain regions: an operation, and so many behind it that are not wanted, taken at once (no goal's head is one that is not wanted).
-/
import Derived.Test.YtmhcpiafhbnclaaReg
namespace Go.Proofs.Ytmhcpiafhbnclaa
open Go.RowKit
set_option maxRecDepth 100000
set_option linter.unusedVariables false

/-- Operations that are not wanted, one behind the other. -/
def unw (ops : Array Oper) : List Oper → Act → Bool
  | [], _ => true
  | r :: rs, a => !(Region.wanted r (yielded ops a.tmps)) && unw ops rs (a.put r.dst undef)
def skipAct : List Oper → Act → Act
  | [], a => a
  | r :: rs, a => skipAct rs (a.put r.dst undef)
section
variable {P : Program} {ops : Array Oper} {rest l : List Oper} {o : Oper} {a : Act} {w w' : World} {Q : Exit → Act → World → Prop} {v : Value}
theorem wpList_unw : ∀ (rs : List Oper) (a : Act), unw ops rs a = true → wpList P ops Q rest (skipAct rs a) w → wpList P ops Q (rs ++ rest) a w
  | [], _, _, h => h
  | r :: rs, a, hu, h => by
    simp only [unw, Bool.and_eq_true, Bool.not_eq_true'] at hu
    refine wpList_step fun K hK => ?_
    rw [if_neg (by rw [hu.1]; exact Bool.false_ne_true)]
    exact hK _ _ (wpList_unw rs _ hu.2 h)
/-- An operation, and so many behind it that are not wanted. -/
theorem wpList_skips (n : Nat) (hw : Region.wanted o (yielded ops a.tmps) = true) (h : (execOp a.eval o).run P w = .ok (.value v) w') (hu : unw ops (l.take n) (a.put o.dst v) = true) (hr : wpList P ops Q (l.drop n) (skipAct (l.take n) (a.put o.dst v)) w') : wpList P ops Q (o :: l) a w :=
  wpList_val hw h (by have := wpList_unw (P := P) (Q := Q) (l.take n) _ hu hr; rwa [List.take_append_drop] at this)
end
end Go.Proofs.Ytmhcpiafhbnclaa
