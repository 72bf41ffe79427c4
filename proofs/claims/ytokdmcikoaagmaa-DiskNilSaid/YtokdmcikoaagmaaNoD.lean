/-
  What DiskNil leans on: a device that is none (nil, or nothing yet made), told by what its methods answer. Whoever shows the fields of a landed disk has the law.
-/
import Derived.Test.YtokdmcikoaagmaaDlives
import Derived.Test.YtokdmcikoaagmaaDboth
namespace Go.Proofs.Ytokdmcikoaagmaa
open Go.RowKit
set_option linter.unusedVariables false

structure NoD where
  No : World → Value → Prop
  zv : Value
  zo : Obj
  below : ∀ {w w' v}, No w v → Below w.heap.size w w' → No w' v
  nil : ∀ w : World, No w (.pointer none)
  build : ∀ w : World, (Instr.build 61 #[]).run Try.prog w = .ok zv w
  box : ∀ w : World, (Instr.box 61 zv).run Try.prog w = .ok (.pointer (some ⟨w.heap.size, 0, none⟩)) (w.alloc zo)
  zero : ∀ w : World, No (w.alloc zo) (.pointer (some ⟨w.heap.size, 0, none⟩))
  read : ∀ {w : World} {v : Value} (n : Int), No w v → Calls Try.prog 15 #[v, .int .i64 n] w fun e w' => e = .returned (.tuple #[blk zeroB, .int .i64 1]) ∧ Below w.heap.size w w'
  sure : ∀ {w v} (n : Int), No w v → Calls Try.prog 18 #[v, .int .i64 n] w fun e w' => e = .returned (.tuple #[blk zeroB, .int .i64 1]) ∧ Below w.heap.size w w'
  write : ∀ {w v} (n : Int) (b : Blk), No w v → Calls Try.prog 16 #[v, .int .i64 n, blk b] w fun e w' => e = .returned (.int .i64 1) ∧ Below w.heap.size w w'
  flush : ∀ {w v}, No w v → Calls Try.prog 14 #[v] w fun e w' => e = .returned (.int .i64 1) ∧ Below w.heap.size w w'
  fail : ∀ {w v}, No w v → Calls Try.prog 23 #[v] w fun e w' => e = .returned (.int .i64 1) ∧ Below w.heap.size w w'
  rot : ∀ {w v} (n i : Int) (u : UInt8), No w v → Calls Try.prog 21 #[v, .int .i64 n, .int .i64 i, .int .u8 (u.toNat : Int)] w fun e w' => e = .returned (.int .i64 1) ∧ Below w.heap.size w w'
  crash : ∀ {w v} (A : Option Addr) (n c : Nat), No w v → Calls Try.prog 17 #[v, .slice A n c] w fun e w' => e = .returned (.tuple #[.int .i64 0, .int .i64 1]) ∧ Below w.heap.size w w'
  dead : ∀ {w v}, No w v → Calls Try.prog 24 #[v] w fun e w' => e = .returned (.bool false) ∧ Below w.heap.size w w'
  sectors : ∀ {w v}, No w v → Calls Try.prog 25 #[v] w fun e w' => e = .returned (.int .i64 0) ∧ Below w.heap.size w w'
  loose : ∀ {w v}, No w v → Calls Try.prog 19 #[v] w fun e w' => e = .returned (.int .i64 0) ∧ Below w.heap.size w w'
  copy : ∀ {w v}, No w v → Calls Try.prog 20 #[v] w fun e w' => e = .returned (.pointer none) ∧ Below w.heap.size w w'
theorem exec_buildZ (N : NoD) {ρ : Operand → Value} {o : Oper} {w : World} (ho : o.op = .build 61 #[]) : (execOp ρ o).run Try.prog w = .ok (.value N.zv) w := by
  have h := N.build w
  unfold execOp
  simp [ho, h]
theorem exec_boxZ (N : NoD) {ρ : Operand → Value} {o : Oper} {x : Operand} {w : World} (ho : o.op = .box 61 x) (hx : ρ x = N.zv) : (execOp ρ o).run Try.prog w = .ok (.value (.pointer (some ⟨w.heap.size, 0, none⟩))) (w.alloc N.zo) := by
  have h := N.box w
  unfold execOp
  simp [ho, hx, h]
theorem ldN {w : World} {a : Addr} {A : Option Addr} {n c : Nat} (h : w.cell? a = some (.slice A n c)) : (Instr.loadAt 34 (.pointer (some a))).run Try.prog w = .ok (.slice A n c) w := by simp [go_sem, h]
/-- What a call of one that is none leaves: it and the act's box. -/
def NoIn (N : NoD) (w0 : World) (x : Nat) (a : ActT) (v : Value) (w : World) : Prop := N.No w v ∧ ActIn w x a ∧ x < w.heap.size ∧ Below w0.heap.size w0 w
theorem NoIn.below {N : NoD} {w0 w w' : World} {x : Nat} {a : ActT} {v : Value} (h : NoIn N w0 x a v w) (k : Below w.heap.size w w') : NoIn N w0 x a v w' :=
  ⟨N.below h.1 k, h.2.1.below h.2.2.1 k, Nat.lt_of_lt_of_le h.2.2.1 k.size, h.2.2.2.trans (k.mono h.2.2.2.size)⟩
theorem NoIn.laid {N : NoD} {w0 w : World} {x : Nat} {a : ActT} {v : Value} (h : NoIn N w0 x a v w) (o : Obj) : NoIn N w0 x a v (w.alloc o) := h.below ((Below.refl _ _).alloc (Nat.le_refl _) o)
end Go.Proofs.Ytokdmcikoaagmaa
