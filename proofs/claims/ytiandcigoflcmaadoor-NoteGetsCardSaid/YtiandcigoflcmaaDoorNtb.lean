/-
  The program's note: the table of sizes; numbers, bodies in memory.
-/
import Derived.Test.YtiandcigoflcmaaDoorNta
import Derived.Test.YtiandcigoflcmaaDoorNum
import Derived.Test.YtiandcigoflcmaaDoorCrcTab
namespace Go.Proofs.YtiandcigoflcmaaDoor
open Go.RowKit
set_option linter.unusedVariables false
set_option linter.unusedSimpArgs false
set_option maxRecDepth 100000

/-! ### The table of sizes -/
def sizLn : List Value := [.int .i64 8, .int .i64 2, .int .i64 4]
def sizVn : Value := .agg sizLn.toArray
/-- The sizes lie in their variable. -/
def SizNt (w : World) : Prop := w.rangeAt 0 0 sizLn
theorem SizNt.below {w w' : World} (h : SizNt w) (hb : Below w.heap.size w w') : SizNt w' :=
  range_below h (World.block_lt_of_cell? w _ (h 0 _ rfl)) hb
/-- Both tables lie in their variables. -/
structure TabNt (w : World) : Prop where
  tab : Tab w
  siz : SizNt w
theorem TabNt.below {w w' : World} (h : TabNt w) (hb : Below w.heap.size w w') : TabNt w' := ⟨h.tab.below hb, h.siz.below hb⟩
theorem size3i : (Tryd.prog.info? 60).map (·.size) = some 3 := by kernel_rfl
section
variable {ρ : Operand → Value} {o : Oper} {x y : Operand} {w : World} {t : TypeId} {p q u : Value}
theorem exec_loadZn (ho : o.op = .load 60 x) (hx : ρ x = .pointer (some ⟨0, 0, none⟩)) (h : SizNt w) : (execOp ρ o).run Tryd.prog w = .ok (.value sizVn) w :=
  exec_loadT Tryd.underlying60 rfl size3i ho hx h
theorem exec_idxn (ho : o.op = .index t x y) (hx : ρ x = p) (hy : ρ y = q) (h : (Instr.index t p q).run Tryd.prog w = .ok u w) : (execOp ρ o).run Tryd.prog w = .ok (.value u) w := by
  unfold execOp
  simp only [ho, hx, hy, Sem.run_bind, h, Result.andThen_ok, Sem.run_pure]
theorem ixZn0 : (Instr.index 60 sizVn (.int .i64 0)).run Tryd.prog w = .ok (.int .i64 8) w := by kernel_rfl
theorem ixZn1 : (Instr.index 60 sizVn (.int .i64 1)).run Tryd.prog w = .ok (.int .i64 2) w := by kernel_rfl
theorem ixZn2 : (Instr.index 60 sizVn (.int .i64 2)).run Tryd.prog w = .ok (.int .i64 4) w := by kernel_rfl
theorem exec_ixZn0 (ho : o.op = .index 60 x y) (hy : ρ y = .int .i64 0) (hx : ρ x = sizVn) : (execOp ρ o).run Tryd.prog w = .ok (.value (.int .i64 8)) w := exec_idxn ho hx hy ixZn0
theorem exec_ixZn1 (ho : o.op = .index 60 x y) (hy : ρ y = .int .i64 1) (hx : ρ x = sizVn) : (execOp ρ o).run Tryd.prog w = .ok (.value (.int .i64 2)) w := exec_idxn ho hx hy ixZn1
theorem exec_ixZn2 (ho : o.op = .index 60 x y) (hy : ρ y = .int .i64 2) (hx : ρ x = sizVn) : (execOp ρ o).run Tryd.prog w = .ok (.value (.int .i64 4)) w := exec_idxn ho hx hy ixZn2
end
/-! ### The numbers of a body -/
def celNn (a b c : Nat) : List Value := [.int .u64 a, .int .u64 b, .int .u64 c]
def numVn (a b c : Nat) : Value := .agg (celNn a b c).toArray
theorem celNn_one (a b c : Nat) : ∀ v ∈ celNn a b c, v.oneCell' = true := by
  intro v hv
  simp only [celNn, List.mem_cons, List.not_mem_nil, or_false] at hv
  rcases hv with rfl | rfl | rfl <;> rfl
theorem sizeNn : (Tryd.prog.info? 59).map (·.size) = some 3 := by kernel_rfl
theorem zeroNn_info : (Tryd.prog.info? 59).map (fun i => i.zero) = some (some (numVn 0 0 0)) := by kernel_rfl
/-- Block b holds three numbers. -/
def NumAtn (w : World) (g a b c : Nat) : Prop := w.heap[g]? = some (.cells (celNn a b c).toArray 59 (0, 0))
section
variable {w w' : World} {g a b c : Nat}
theorem NumAtn.cells (h : NumAtn w g a b c) : w.cell? ⟨g, 0, none⟩ = some (.int .u64 a) ∧ w.cell? ⟨g, 1, none⟩ = some (.int .u64 b) ∧ w.cell? ⟨g, 2, none⟩ = some (.int .u64 c) := by
  have hr := rng_at h
  exact ⟨hr 0 _ rfl, hr 1 _ rfl, hr 2 _ rfl⟩
theorem NumAtn.free (h : NumAtn w g a b c) (j : Nat) : w.frozen? ⟨g, j, none⟩ = false := frozen_of_row w g j _ _ h
theorem NumAtn.set {a' b' c' j n : Nat} (h : NumAtn w g a b c) (e : (celNn a b c).set j (.int .u64 n) = celNn a' b' c') : NumAtn (w.setCell ⟨g, j, none⟩ (.int .u64 n)) g a' b' c' := by
  have := heap_setCell_same w g j (celNn a b c).toArray 59 (.int .u64 n) h
  rw [List.setIfInBounds_toArray, e] at this
  exact this
end
section
variable {ρ : Operand → Value} {o : Oper} {x y z u v : Operand} {w : World} {g a b c : Nat}
theorem exec_allocNn (ho : o.op = .alloc 59) : (execOp ρ o).run Tryd.prog w = .ok (.value (.pointer (some ⟨w.heap.size, 0, none⟩))) (w.alloc (.cells (celNn 0 0 0).toArray 59)) := exec_allocT zeroNn_info ho
theorem exec_fillNn (ho : o.op = .store 59 x y) (hx : ρ x = .pointer (some ⟨w.heap.size, 0, none⟩)) (hy : ρ y = numVn a b c) : (execOp ρ o).run Tryd.prog (w.alloc (.cells (celNn 0 0 0).toArray 59)) = .ok .skip (w.alloc (.cells (celNn a b c).toArray 59)) :=
  exec_filT sizeNn rfl (celNn_one a b c) ho hx hy
theorem exec_bld3n {t : TypeId} {y0 y1 y2 q : Value} (ho : o.op = .build t #[(0, x), (1, y), (2, z)]) (h0 : ρ x = y0) (h1 : ρ y = y1) (h2 : ρ z = y2)
    (h : (Instr.build t #[(0, y0), (1, y1), (2, y2)]).run Tryd.prog w = .ok q w) : (execOp ρ o).run Tryd.prog w = .ok (.value q) w := by
  subst h0 h1 h2
  unfold execOp
  simp only [ho, List.map_toArray, List.map_cons, List.map_nil, Sem.run_bind, h, Result.andThen_ok, Sem.run_pure]
theorem run_bldNn (a b c : Nat) : (Instr.build 59 #[(0, .int .u64 a), (1, .int .u64 b), (2, .int .u64 c)]).run Tryd.prog w = .ok (numVn a b c) w := by kernel_rfl
theorem exec_bldNn3 (a b c : Nat) (ho : o.op = .build 59 #[(0, x), (1, y), (2, z)]) (h0 : ρ x = .int .u64 a) (h1 : ρ y = .int .u64 b) (h2 : ρ z = .int .u64 c) : (execOp ρ o).run Tryd.prog w = .ok (.value (numVn a b c)) w :=
  exec_bld3n ho h0 h1 h2 (run_bldNn a b c)
theorem ixNn {j : Nat} (hj : j < 3) : (Instr.indexAt 59 (.pointer (some ⟨g, 0, none⟩)) (.int .i64 (j : Int))).run Tryd.prog w = .ok (.pointer (some ⟨g, j, none⟩)) w := by
  have e : (0 ≤ (j : Int) ∧ (j : Int) < 3) := by omega
  simp [Instr.indexAt, Instr.sureAddr, asIntOf, run_underlying Tryd.underlying59, Tryd.sizeOf22, Addr.add_mid, e, hj]
theorem ixNn0 : (Instr.indexAt 59 (.pointer (some ⟨g, 0, none⟩)) (.int .i64 0)).run Tryd.prog w = .ok (.pointer (some ⟨g, 0, none⟩)) w := ixNn (j := 0) (by omega)
theorem ixNn1 : (Instr.indexAt 59 (.pointer (some ⟨g, 0, none⟩)) (.int .i64 1)).run Tryd.prog w = .ok (.pointer (some ⟨g, 1, none⟩)) w := ixNn (j := 1) (by omega)
theorem ixNn2 : (Instr.indexAt 59 (.pointer (some ⟨g, 0, none⟩)) (.int .i64 2)).run Tryd.prog w = .ok (.pointer (some ⟨g, 2, none⟩)) w := ixNn (j := 2) (by omega)
theorem exec_ixNn0 (ho : o.op = .indexAddr 59 x y) (hy : ρ y = .int .i64 0) (hx : ρ x = .pointer (some ⟨g, 0, none⟩)) : (execOp ρ o).run Tryd.prog w = .ok (.value (.pointer (some ⟨g, 0, none⟩))) w := exec_ix ho hx hy ixNn0
theorem exec_ixNn1 (ho : o.op = .indexAddr 59 x y) (hy : ρ y = .int .i64 1) (hx : ρ x = .pointer (some ⟨g, 0, none⟩)) : (execOp ρ o).run Tryd.prog w = .ok (.value (.pointer (some ⟨g, 1, none⟩))) w := exec_ix ho hx hy ixNn1
theorem exec_ixNn2 (ho : o.op = .indexAddr 59 x y) (hy : ρ y = .int .i64 2) (hx : ρ x = .pointer (some ⟨g, 0, none⟩)) : (execOp ρ o).run Tryd.prog w = .ok (.value (.pointer (some ⟨g, 2, none⟩))) w := exec_ix ho hx hy ixNn2
theorem exec_faNt0 {b : Nat} (ho : o.op = .fieldAddr 25 x 0) (hx : ρ x = .pointer (some ⟨b, 0, none⟩)) : (execOp ρ o).run Tryd.prog w = .ok (.value (.pointer (some ⟨b, 0, none⟩))) w := exec_faddr ho hx faNt0
theorem exec_faNt1 {b : Nat} (ho : o.op = .fieldAddr 25 x 1) (hx : ρ x = .pointer (some ⟨b, 0, none⟩)) : (execOp ρ o).run Tryd.prog w = .ok (.value (.pointer (some ⟨b, 1, none⟩))) w := exec_faddr ho hx faNt1
theorem exec_faNt2 {b : Nat} (ho : o.op = .fieldAddr 25 x 2) (hx : ρ x = .pointer (some ⟨b, 0, none⟩)) : (execOp ρ o).run Tryd.prog w = .ok (.value (.pointer (some ⟨b, 2, none⟩))) w := exec_faddr ho hx faNt2
theorem exec_faNt3 {b : Nat} (ho : o.op = .fieldAddr 25 x 3) (hx : ρ x = .pointer (some ⟨b, 0, none⟩)) : (execOp ρ o).run Tryd.prog w = .ok (.value (.pointer (some ⟨b, 3, none⟩))) w := exec_faddr ho hx faNt3
end
/-! ### Bodies as arrays -/
theorem size44n : (Tryd.prog.info? 43).map (·.size) = some 44 := by kernel_rfl
theorem zero44n_info : (Tryd.prog.info? 43).map (fun i => i.zero) = some (some (arr z44)) := by kernel_rfl
theorem guard44n : Tryd.prog.eqGuardType Tryd.prog.depth 43 = false := by kernel_rfl
section
variable {ρ : Operand → Value} {o : Oper} {x y : Operand} {w : World} {b off g c : Nat} {t : TypeId} {l : List UInt8}
theorem exec_load44n (hl : l.length = 44) (ho : o.op = .load 43 x) (hx : ρ x = .pointer (some ⟨b, off, none⟩)) (hc : w.rangeAt b off (vals l)) : (execOp ρ o).run Tryd.prog w = .ok (.value (arr l)) w :=
  exec_loadT Tryd.underlying43 rfl (by rw [vals_length, hl]; exact size44n) ho hx hc
theorem exec_alloc44n (ho : o.op = .alloc 43) : (execOp ρ o).run Tryd.prog w = .ok (.value (.pointer (some ⟨w.heap.size, 0, none⟩))) (w.alloc (.cells (vals z44).toArray 43)) := exec_allocT zero44n_info ho
theorem exec_fill44n (hl : l.length = 44) (ho : o.op = .store 43 x y) (hx : ρ x = .pointer (some ⟨w.heap.size, 0, none⟩)) (hy : ρ y = arr l) :
    (execOp ρ o).run Tryd.prog (w.alloc (.cells (vals z44).toArray 43)) = .ok .skip (w.alloc (.cells (vals l).toArray 43)) :=
  exec_filT (by rw [vals_length, hl]; exact size44n) (by rw [vals_length, vals_length, hl, z44_length]) (vals_one l) ho hx hy
theorem exec_put44n (hl : l.length = 44) (ho : o.op = .store 43 x y) (hx : ρ x = .pointer (some ⟨b, off, none⟩)) (hy : ρ y = arr l) (ht : w.there b off 44) : (execOp ρ o).run Tryd.prog w = .ok .skip (w.setCells b off (vals l)) :=
  exec_putT (by rw [vals_length, hl]; exact size44n) (vals_one l) ho hx hy (by rw [vals_length, hl]; exact ht)
theorem exec_ne44n {l' : List UInt8} (c : Bool) (ha : l.length = 44) (hb : l'.length = 44) (ho : o.op = .binOp .neq 43 x y t) (hx : ρ x = arr l) (hy : ρ y = arr l') (h : decide (l = l') = c) : (execOp ρ o).run Tryd.prog w = .ok (.value (.bool (!c))) w := by
  subst h; exact exec_neT guard44n (run_eqArr Tryd.underlying43 w l l' ha hb 9998) ho hx hy
theorem exec_all44n (ho : o.op = .slice 43 x none none none) (hx : ρ x = .pointer (some ⟨g, off, none⟩)) : (execOp ρ o).run Tryd.prog w = .ok (.value (.slice (some ⟨g, off, none⟩) 44 44)) w := by
  have h : (Instr.sliceAt 43 (.pointer (some ⟨g, off, none⟩)) none none none).run Tryd.prog w = .ok (.slice (some ⟨g, off, none⟩) 44 44) w := by
    simp [Instr.sliceAt, Instr.sliceBounds, Instr.sliceBound, Instr.sureAddr, asIntOf, run_underlying Tryd.underlying43, Tryd.sizeOf5, Addr.add_mid]
  unfold execOp
  simp only [ho, hx, Option.map_none, Sem.run_bind, h, Result.andThen_ok, Sem.run_pure]
theorem exec_from44n (p n : Nat) (hn : p + n = 44) (h0 : 0 < n) (ho : o.op = .slice 43 x (some y) none none) (hx : ρ x = .pointer (some ⟨g, 0, none⟩)) (hy : ρ y = .int .i64 (p : Int)) : (execOp ρ o).run Tryd.prog w = .ok (.value (.slice (some ⟨g, p, none⟩) n n)) w := by
  have e1 : (0 ≤ (p : Int) ∧ (p : Int) ≤ 44) := by omega
  have e2 : p ≤ 44 := by omega
  have e3 : 44 - p = n := by omega
  have e4 : n ≠ 0 := by omega
  have e5 : ¬ 44 = p := by omega
  have h : (Instr.sliceAt 43 (.pointer (some ⟨g, 0, none⟩)) (some (.int .i64 (p : Int))) none none).run Tryd.prog w = .ok (.slice (some ⟨g, p, none⟩) n n) w := by
    simp [Instr.sliceAt, Instr.sliceBounds, Instr.sliceBound, Instr.sureAddr, asIntOf, run_underlying Tryd.underlying43, Tryd.sizeOf5, Addr.add_mid, e1, e2, e3, e4, e5]
  unfold execOp
  simp only [ho, hx, hy, Option.map_none, Option.map_some, Sem.run_bind, h, Result.andThen_ok, Sem.run_pure]
theorem exec_s2an (ho : o.op = .sliceToArrayPointer 43 x) (hx : ρ x = .slice (some ⟨g, 0, none⟩) 44 c) : (execOp ρ o).run Tryd.prog w = .ok (.value (.pointer (some ⟨g, 0, none⟩))) w := by
  unfold execOp
  simp [ho, hx, Instr.arrayAt, run_underlying Tryd.underlying43]
end
end Go.Proofs.YtiandcigoflcmaaDoor
