/-
  Conversions and remainders of numbers, operation by operation. (Out of XCvt.)
-/
import Derived.Test.YtmhcpiafhbnclaaReg
namespace Go.Proofs.Ytmhcpiafhbnclaa
open Go.RowKit
set_option linter.unusedVariables false
set_option maxRecDepth 100000

section
variable {ρ : Operand → Value} {o : Oper} {x y : Operand} {w : World} {a : Int}
theorem exec_remU {t r : TypeId} {b c : Int} (ho : o.op = .binOp .rem t x y r) (hx : ρ x = .int .u64 a) (hy : ρ y = .int .u64 b) (h0 : b ≠ 0) (h : a.tmod b = c) : (execOp ρ o).run Try.prog w = .ok (.value (.int .u64 c)) w := by
  unfold execOp
  simp [ho, hx, hy, eqGuard, binOp, Op.intDiv, h, h0]
end
/-- A number by a remainder of what it is without a sign. -/
theorem place_u (a : Int) (n : Nat) (h : 0 < n) : ∃ k : Nat, k < n ∧ (IntKind.u64.wrap a).tmod (n : Int) = (k : Int) := by
  have h1 : 0 ≤ IntKind.u64.wrap a := by rw [IntKind.wrap_u64]; omega
  have h2 := Int.tmod_eq_emod_of_nonneg (b := (n : Int)) h1
  have h3 := Int.emod_nonneg (IntKind.u64.wrap a) (b := (n : Int)) (by omega)
  have h4 := Int.emod_lt_of_pos (IntKind.u64.wrap a) (b := (n : Int)) (by omega)
  obtain ⟨k, hk⟩ := Int.eq_ofNat_of_zero_le h3
  exact ⟨k, by omega, by rw [h2, hk]⟩
section
variable {ρ : Operand → Value} {o : Oper} {x y : Operand} {w : World} {a : Int}
theorem exec_rem8 {t r : TypeId} {b c : Int} (ho : o.op = .binOp .rem t x y r) (hx : ρ x = .int .u8 a) (hy : ρ y = .int .u8 b) (h0 : b ≠ 0) (h : a.tmod b = c) : (execOp ρ o).run Try.prog w = .ok (.value (.int .u8 c)) w := by
  unfold execOp
  simp [ho, hx, hy, eqGuard, binOp, Op.intDiv, h, h0]
theorem run_cv8 (h : IntKind.i64.wrap a = a) : (convert 5 3 (.int .u8 a)).run Try.prog w = .ok (.int .i64 a) w := by
  simp [convert, go_sem, h]
theorem exec_cv8 (ho : o.op = .convert 5 3 x) (hx : ρ x = .int .u8 a) (h : IntKind.i64.wrap a = a) : (execOp ρ o).run Try.prog w = .ok (.value (.int .i64 a)) w := by
  unfold execOp
  simp only [ho, hx, Sem.run_bind, run_cv8 h, Result.andThen_ok, Sem.run_pure]
end
theorem rem8 (z : Int) (h : 0 ≤ z) (n : Nat) (hn : 0 < n) : ∃ k : Nat, k < n ∧ z.tmod (n : Int) = (k : Int) := by
  have h2 := Int.tmod_eq_emod_of_nonneg (b := (n : Int)) h
  have h3 := Int.emod_nonneg z (b := (n : Int)) (by omega)
  have h4 := Int.emod_lt_of_pos z (b := (n : Int)) (by omega)
  obtain ⟨k, hk⟩ := Int.eq_ofNat_of_zero_le h3
  exact ⟨k, by omega, by rw [h2, hk]⟩
end Go.Proofs.Ytmhcpiafhbnclaa
