/-
  Pieces of byte slices, of blocks: what a slice expression comes to, what reads through it.
-/
import Derived.Test.YtiandcigoflcmaaDoorBlkW
import Derived.Test.YtiandcigoflcmaaDoorByt
namespace Go.Proofs.YtiandcigoflcmaaDoor
open Go.RowKit
set_option linter.unusedVariables false

section
variable {ρ : Operand → Value} {o : Oper} {x y z : Operand} {w : World} {b off n c t u : Nat}
theorem undU : Tryd.prog.underlying 35 = some (.slice 5) := Tryd.underlying35
theorem run_headU (h : t ≤ c) : (Instr.sliceAt 35 (.slice (some ⟨b, off, none⟩) n c) none (some (.int .i64 (t : Int))) none).run Tryd.prog w = .ok (.slice (some ⟨b, off, none⟩) t c) w := by
  simp [Instr.sliceAt, Instr.slice, Instr.sliceBounds, Instr.sliceBound, asIntOf, run_underlying undU, Tryd.sizeOf5, Addr.add_mid]
  intro hh; omega
theorem run_midU (h1 : u ≤ t) (h : t ≤ c) (h2 : u < c) : (Instr.sliceAt 35 (.slice (some ⟨b, off, none⟩) n c) (some (.int .i64 (u : Int))) (some (.int .i64 (t : Int))) none).run Tryd.prog w = .ok (.slice (some ⟨b, off + u, none⟩) (t - u) (c - u)) w := by
  have e1 : (0 ≤ (t : Int) ∧ (t : Int) ≤ (c : Int)) := by omega
  have e2 : (0 ≤ (u : Int) ∧ (u : Int) ≤ (t : Int)) := by omega
  have e3 : c ≠ u := by omega
  simp [Instr.sliceAt, Instr.slice, Instr.sliceBounds, Instr.sliceBound, asIntOf, run_underlying undU, Tryd.sizeOf5, Addr.add_mid, e1, e2, e3, h, h1]
theorem exec_cutH (t : Nat) (ho : o.op = .slice 35 x none (some y) none) (hx : ρ x = .slice (some ⟨b, off, none⟩) n c) (hy : ρ y = .int .i64 (t : Int)) (h : t ≤ c) : (execOp ρ o).run Tryd.prog w = .ok (.value (.slice (some ⟨b, off, none⟩) t c)) w := by
  unfold execOp
  simp only [ho, hx, hy, Option.map_some, Option.map_none, Sem.run_bind, run_headU h, Result.andThen_ok, Sem.run_pure]
theorem exec_cutM (u t : Nat) (ho : o.op = .slice 35 x (some z) (some y) none) (hx : ρ x = .slice (some ⟨b, off, none⟩) n c) (hz : ρ z = .int .i64 (u : Int)) (hy : ρ y = .int .i64 (t : Int)) (h1 : u ≤ t) (h : t ≤ c) (h2 : u < c) : (execOp ρ o).run Tryd.prog w = .ok (.value (.slice (some ⟨b, off + u, none⟩) (t - u) (c - u))) w := by
  unfold execOp
  simp only [ho, hx, hy, hz, Option.map_some, Option.map_none, Sem.run_bind, run_midU h1 h h2, Result.andThen_ok, Sem.run_pure]
theorem run_allB : (Instr.sliceAt 27 (.pointer (some ⟨b, off, none⟩)) none none none).run Tryd.prog w = .ok (.slice (some ⟨b, off, none⟩) 64 64) w := by
  simp [Instr.sliceAt, Instr.sliceBounds, Instr.sureAddr, run_underlying undB, Tryd.sizeOf5, Addr.add_mid]
theorem exec_allB (ho : o.op = .slice 27 x none none none) (hx : ρ x = .pointer (some ⟨b, off, none⟩)) : (execOp ρ o).run Tryd.prog w = .ok (.value (.slice (some ⟨b, off, none⟩) 64 64)) w := by
  unfold execOp
  simp only [ho, hx, Option.map_none, Sem.run_bind, run_allB, Result.andThen_ok, Sem.run_pure]
end
section
variable {w : World} {b off n c j : Nat} {k : Int}
theorem ixU (hj : j < n) : (Instr.indexAt 35 (.slice (some ⟨b, off, none⟩) n c) (.int .i64 (j : Int))).run Tryd.prog w = .ok (.pointer (some ⟨b, off + j, none⟩)) w := by
  simp [Instr.indexAt, asIntOf, run_underlying Tryd.underlying35, Tryd.sizeOf5, Addr.add_mid, hj]
theorem ixBk (hj : j < 64) : (Instr.indexAt 27 (.pointer (some ⟨b, 0, none⟩)) (.int .i64 (j : Int))).run Tryd.prog w = .ok (.pointer (some ⟨b, j, none⟩)) w := by
  have e : (0 ≤ (j : Int) ∧ (j : Int) < 64) := by omega
  simp [Instr.indexAt, Instr.sureAddr, asIntOf, run_underlying undB, Tryd.sizeOf5, Addr.add_mid, e, hj]
theorem stU8 {a : Addr} {v : Value} (h : w.cell? a = some v) (hf : w.frozen? a = false) : (Instr.storeAt 5 (.pointer (some a)) (.int .u8 k)).run Tryd.prog w = .ok () (w.setCell a (.int .u8 k)) := by simp [go_sem, h, hf]
end
/-- A piece of what reads as a list, wherever it stands. -/
theorem Rd.sub {w : World} {N g q n p k : Nat} {l : List UInt8} (h : Rd w N (some ⟨g, q, none⟩) n l) (hk : p + k ≤ n) : Rd w N (some ⟨g, q + p, none⟩) k (piece l p k) :=
  ⟨length_piece (by have := h.1; omega), fun j hj => by
    obtain ⟨b, off, e, hb, hc⟩ := h.2 (p + j) (by omega)
    injection e with e
    injection e with e1 e2
    subst e1 e2
    refine ⟨g, q + p, rfl, hb, ?_⟩
    rw [bt_piece hj, ← hc, Nat.add_assoc]⟩
end Go.Proofs.YtiandcigoflcmaaDoor
