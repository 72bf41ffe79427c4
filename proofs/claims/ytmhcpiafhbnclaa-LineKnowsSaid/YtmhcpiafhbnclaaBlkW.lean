/-
  What a walk meets of blocks: boxes, loads, stores, comparisons, results; ranges kept by whatever lies above. (Regions: XReg.)
-/
import Derived.Test.YtmhcpiafhbnclaaBlk
import Derived.Test.YtmhcpiafhbnclaaReg
import Derived.Test.YtmhcpiafhbnclaaVal
import Derived.StillTailTactics
import Derived.Deep.WholeRow
namespace Go.Proofs.Ytmhcpiafhbnclaa
open Go.RowKit
set_option maxRecDepth 100000
set_option linter.unusedVariables false

/-! ### What one operation does -/
section
variable {ρ : Operand → Value} {o : Oper} {x y : Operand} {w : World} {b off : Nat} {c d : Blk}
theorem exec_load (ho : o.op = .load 33 x) (hx : ρ x = .pointer (some ⟨b, off, none⟩)) (hc : w.rangeAt b off (cel c)) : (execOp ρ o).run Try.prog w = .ok (.value (blk c)) w := by
  unfold execOp
  simp only [ho, hx, Sem.run_bind, run_load hc, Result.andThen_ok, Sem.run_pure]
theorem exec_store (ho : o.op = .store 33 x y) (hx : ρ x = .pointer (some ⟨b, off, none⟩)) (hy : ρ y = blk c) (ht : w.there b off 64) : (execOp ρ o).run Try.prog w = .ok .skip (w.setCells b off (cel c)) := by
  unfold execOp
  simp only [ho, hx, hy, Sem.run_bind, run_store ht, Result.andThen_ok, Sem.run_pure]
theorem exec_fill (ho : o.op = .store 33 x y) (hx : ρ x = .pointer (some ⟨w.heap.size, 0, none⟩)) (hy : ρ y = blk c) : (execOp ρ o).run Try.prog (w.alloc (.cells (cel d).toArray 33)) = .ok .skip (w.alloc (.cells (cel c).toArray 33)) := by
  have h := run_storeAt_new (P := Try.prog) w 33 (cel d).toArray (cel c).toArray (by simpa [cel_length] using sizeB) (by simp [cel_length]) (all_oneCell_toArray (cel_one c))
  unfold execOp
  simp only [ho, hx, hy, Sem.run_bind]
  unfold blk
  rw [h]
  simp
theorem exec_box (ho : o.op = .box 33 x) (hx : ρ x = blk c) : (execOp ρ o).run Try.prog w = .ok (.value (.pointer (some ⟨w.heap.size, 0, none⟩))) (w.alloc (.cells (cel c).toArray 33)) := by
  unfold execOp
  simp only [ho, hx, Sem.run_bind, run_box, Result.andThen_ok, Sem.run_pure]
theorem exec_alloc (ho : o.op = .alloc 33) : (execOp ρ o).run Try.prog w = .ok (.value (.pointer (some ⟨w.heap.size, 0, none⟩))) (w.alloc (.cells (cel zeroB).toArray 33)) := by
  unfold execOp
  simp only [ho, Sem.run_bind, run_alloc, Result.andThen_ok, Sem.run_pure]
theorem run_guardB (op : BinOp) (x y : Operand) (c d : Blk) (w : World) : (eqGuard op 33 x y (blk c) (blk d)).run Try.prog w = .ok () w := run_eqGuard_agg w op _ x y _ _ guardB
theorem exec_eql {t : TypeId} (ho : o.op = .binOp .eql 33 x y t) (hx : ρ x = blk c) (hy : ρ y = blk d) : (execOp ρ o).run Try.prog w = .ok (.value (.bool (decide (c = d)))) w := by
  have h := run_eql_struct (P := Try.prog) w 33 (cel c).toArray (cel d).toArray
  have he := run_eqB w c d 9998
  unfold blk at he
  rw [he] at h
  unfold execOp
  simp only [ho, hx, hy, Sem.run_bind, run_guardB, Result.andThen_ok]
  unfold blk
  rw [h]
  simp
theorem exec_neq {t : TypeId} (ho : o.op = .binOp .neq 33 x y t) (hx : ρ x = blk c) (hy : ρ y = blk d) : (execOp ρ o).run Try.prog w = .ok (.value (.bool (!decide (c = d)))) w := by
  have h := run_neq_struct (P := Try.prog) w 33 (cel c).toArray (cel d).toArray
  have he := run_eqB w c d 9998
  unfold blk at he
  rw [he] at h
  unfold execOp
  simp only [ho, hx, hy, Sem.run_bind, run_guardB, Result.andThen_ok]
  unfold blk
  rw [h]
  simp
theorem run_build {parts : List (Nat × Value)} (h : Instr.fill (fun i => some (i * 1, 1)) (cel zeroB).toArray parts = some (cel c).toArray) (w : World) : (Instr.build 33 parts.toArray).run Try.prog w = .ok (blk c) w := by
  simp only [Instr.build, Sem.run_bind, run_zeroB, run_underlying undB, Result.andThen_ok, Try.sizeOf5, cells_blk, h, Sem.run_pure]
  rfl
theorem exec_build {parts : List (Nat × Operand)} (ho : o.op = .build 33 parts.toArray) (h : Instr.fill (fun i => some (i * 1, 1)) (cel zeroB).toArray (parts.map fun (i, x) => (i, ρ x)) = some (cel c).toArray) : (execOp ρ o).run Try.prog w = .ok (.value (blk c)) w := by
  unfold execOp
  simp only [ho, List.map_toArray, Sem.run_bind, run_build h, Result.andThen_ok, Sem.run_pure]
end

theorem exec_fillN {ρ : Operand → Value} {o : Oper} {x y : Operand} {w : World} {c : Blk} (ho : o.op = .store 33 x y) (hx : ρ x = .pointer (some ⟨w.heap.size, 0, none⟩)) (hy : ρ y = blk c) : (execOp ρ o).run Try.prog (w.alloc (.cells (cel zeroB).toArray 33)) = .ok .skip (w.alloc (.cells (cel c).toArray 33)) := exec_fill ho hx hy
theorem exec_eqlB {ρ : Operand → Value} {o : Oper} {x y : Operand} {w : World} {c d : Blk} {t : TypeId} (b : Bool) (ho : o.op = .binOp .eql 33 x y t) (hx : ρ x = blk c) (hy : ρ y = blk d) (h : decide (c = d) = b) : (execOp ρ o).run Try.prog w = .ok (.value (.bool b)) w := by
  subst h; exact exec_eql ho hx hy

/-! ### Results -/
theorem res_blk {fn : Func} {p : Tmp} {c : Blk} (h : fn.results = #[.cell p 33]) (tmps : Array Value) (w : World) (b : Nat) (hp : tmps.getD p undef = .pointer (some ⟨b, 0, none⟩)) (hc : w.rangeAt b 0 (cel c)) :
    (results fn tmps).run Try.prog w = .ok (blk c) w := by
  have hl : (loadVar 33 ⟨b, 0, none⟩).run Try.prog w = .ok (blk c) w := run_loadVar_mid w b 0 33 (cel c) _ hc undB rfl (by rw [cel_length]; exact sizeB)
  have hp' : tmps[p]?.getD undef = .pointer (some ⟨b, 0, none⟩) := by simpa using hp
  simp [results, h, hp', asAddr, hl]
theorem res_blk2 {fn : Func} {p u : Tmp} {c : Blk} (h : fn.results = #[.cell p 33, .tmp u]) (tmps : Array Value) (w : World) (b : Nat) (hp : tmps.getD p undef = .pointer (some ⟨b, 0, none⟩)) (hc : w.rangeAt b 0 (cel c)) :
    (results fn tmps).run Try.prog w = .ok (.tuple #[blk c, tmps.getD u undef]) w := by
  have hl : (loadVar 33 ⟨b, 0, none⟩).run Try.prog w = .ok (blk c) w := run_loadVar_mid w b 0 33 (cel c) _ hc undB rfl (by rw [cel_length]; exact sizeB)
  have hp' : tmps[p]?.getD undef = .pointer (some ⟨b, 0, none⟩) := by simpa using hp
  simp [results, h, hp', asAddr, hl]

/-! ### Ranges -/
section
variable {w w' : World} {B b o n : Nat} {cs : List Value} {c : Blk}
theorem there_new (w : World) (c : Blk) (t : TypeId) : (w.alloc (.cells (cel c).toArray t)).there w.heap.size 0 64 := fun j hj => by
  rw [cell_of_row _ _ (0 + j) _ t (0, 0) (heap_alloc_new w _), frozen_of_row _ _ (0 + j) _ t (heap_alloc_new w _)]
  exact ⟨by simp [cel_length]; omega, rfl⟩
theorem there_row {g m : Nat} {t : TypeId} {f : Nat → Value} (h : w.rowIs g t m f) (ho : o + n ≤ m) : w.there g o n := fun j hj => by
  rw [h.cell (i := o + j) (by omega), h.frozen (o + j)]
  exact ⟨rfl, rfl⟩
theorem range_row {g m : Nat} {t : TypeId} {f : Nat → Int} (h : w.rowIs g t m (fun j => .int .u8 (f j))) (ho : o + 64 ≤ m) (hf : ∀ j, j < 64 → f (o + j) = byt c j) : w.rangeAt g o (cel c) := fun j v hj => by
  have hlt : j < 64 := by have := (List.getElem?_eq_some_iff.1 hj).1; rwa [cel_length] at this
  rw [h.cell (i := o + j) (by omega), ← hj, cel_at c hlt]
  show some (Value.int .u8 (f (o + j))) = _
  rw [hf j hlt]
theorem row_new (w : World) (c : Blk) (t : TypeId) : (w.alloc (.cells (cel c).toArray t)).rowIs w.heap.size t 64 (fun j => .int .u8 (byt c j)) := by
  have h := World.rowIs_alloc w (cel c).toArray t (fun j => .int .u8 (byt c j)) (fun i hi => by
    have : i < 64 := by simpa [cel_length] using hi
    simpa using cel_at c this)
  simpa [cel_length] using h
/-- A whole row's content with a block laid into it. -/
def lay (f : Nat → Int) (o : Nat) (c : Blk) : Nat → Int := fun j => if o ≤ j ∧ j < o + 64 then byt c (j - o) else f j
end

theorem cel_set (c : Blk) {r : Nat} (hr : r < 64) (u : UInt8) : (cel c).set r (.int .u8 (u.toNat : Int)) = cel (c.set r u) := by
  unfold cel
  rw [← List.map_set, Vector.toList_set]
end Go.Proofs.Ytmhcpiafhbnclaa
