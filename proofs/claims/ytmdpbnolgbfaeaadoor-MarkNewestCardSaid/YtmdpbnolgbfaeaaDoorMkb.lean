/-
  The program's mark: the table of sizes; a body laid, and told.
-/
import Derived.Test.YtmdpbnolgbfaeaaDoorMka
namespace Go.Proofs.YtmdpbnolgbfaeaaDoor
open Go.RowKit
set_option linter.unusedVariables false
set_option linter.unusedSimpArgs false
set_option maxRecDepth 100000

/-! ### The table of sizes -/
def sizL : List Value := [.int .i64 8, .int .i64 2, .int .i64 8, .int .i64 8]
def sizV : Value := .agg sizL.toArray
/-- The sizes lie in their variable. -/
def Siz (w : World) : Prop := w.rangeAt 0 0 sizL
theorem Siz.below {w w' : World} (h : Siz w) (hb : Below w.heap.size w w') : Siz w' :=
  range_below h (World.block_lt_of_cell? w _ (h 0 _ rfl)) hb
/-- Both tables lie in their variables. -/
structure TabM (w : World) : Prop where
  tab : Tab w
  siz : Siz w
theorem TabM.below {w w' : World} (h : TabM w) (hb : Below w.heap.size w w') : TabM w' := ⟨h.tab.below hb, h.siz.below hb⟩
theorem size4i : (Tryd.prog.info? 61).map (·.size) = some 4 := by kernel_rfl
section
variable {ρ : Operand → Value} {o : Oper} {x y : Operand} {w : World} {t : TypeId} {p q u : Value}
theorem exec_loadZ (ho : o.op = .load 61 x) (hx : ρ x = .pointer (some ⟨0, 0, none⟩)) (h : Siz w) : (execOp ρ o).run Tryd.prog w = .ok (.value sizV) w :=
  exec_loadT Tryd.underlying61 rfl size4i ho hx h
theorem exec_idx (ho : o.op = .index t x y) (hx : ρ x = p) (hy : ρ y = q) (h : (Instr.index t p q).run Tryd.prog w = .ok u w) : (execOp ρ o).run Tryd.prog w = .ok (.value u) w := by
  unfold execOp
  simp only [ho, hx, hy, Sem.run_bind, h, Result.andThen_ok, Sem.run_pure]
theorem ixZ0 : (Instr.index 61 sizV (.int .i64 0)).run Tryd.prog w = .ok (.int .i64 8) w := by kernel_rfl
theorem ixZ1 : (Instr.index 61 sizV (.int .i64 1)).run Tryd.prog w = .ok (.int .i64 2) w := by kernel_rfl
theorem ixZ2 : (Instr.index 61 sizV (.int .i64 2)).run Tryd.prog w = .ok (.int .i64 8) w := by kernel_rfl
theorem ixZ3 : (Instr.index 61 sizV (.int .i64 3)).run Tryd.prog w = .ok (.int .i64 8) w := by kernel_rfl
end
/-! ### The numbers of a body -/
def celN (a b c d : Nat) : List Value := [.int .u64 a, .int .u64 b, .int .u64 c, .int .u64 d]
def numV (a b c d : Nat) : Value := .agg (celN a b c d).toArray
theorem celN_one (a b c d : Nat) : ∀ v ∈ celN a b c d, v.oneCell' = true := by
  intro v hv
  simp only [celN, List.mem_cons, List.not_mem_nil, or_false] at hv
  rcases hv with rfl | rfl | rfl | rfl <;> rfl
theorem sizeN : (Tryd.prog.info? 60).map (·.size) = some 4 := by kernel_rfl
theorem zeroN_info : (Tryd.prog.info? 60).map (fun i => i.zero) = some (some (numV 0 0 0 0)) := by kernel_rfl
/-- Block b holds four numbers. -/
def NumAt (w : World) (g a b c d : Nat) : Prop := w.heap[g]? = some (.cells (celN a b c d).toArray 60 (0, 0))
section
variable {w w' : World} {g a b c d : Nat}
theorem NumAt.cells (h : NumAt w g a b c d) : w.cell? ⟨g, 0, none⟩ = some (.int .u64 a) ∧ w.cell? ⟨g, 1, none⟩ = some (.int .u64 b) ∧ w.cell? ⟨g, 2, none⟩ = some (.int .u64 c) ∧ w.cell? ⟨g, 3, none⟩ = some (.int .u64 d) := by
  have hr := rng_at h
  exact ⟨hr 0 _ rfl, hr 1 _ rfl, hr 2 _ rfl, hr 3 _ rfl⟩
theorem NumAt.free (h : NumAt w g a b c d) (j : Nat) : w.frozen? ⟨g, j, none⟩ = false := frozen_of_row w g j _ _ h
theorem NumAt.set {a' b' c' d' j n : Nat} (h : NumAt w g a b c d) (e : (celN a b c d).set j (.int .u64 n) = celN a' b' c' d') : NumAt (w.setCell ⟨g, j, none⟩ (.int .u64 n)) g a' b' c' d' := by
  have := heap_setCell_same w g j (celN a b c d).toArray 60 (.int .u64 n) h
  rw [List.setIfInBounds_toArray, e] at this
  exact this
end
section
variable {ρ : Operand → Value} {o : Oper} {x y z u v : Operand} {w : World} {g a b c d : Nat}
theorem exec_allocN (ho : o.op = .alloc 60) : (execOp ρ o).run Tryd.prog w = .ok (.value (.pointer (some ⟨w.heap.size, 0, none⟩))) (w.alloc (.cells (celN 0 0 0 0).toArray 60)) := exec_allocT zeroN_info ho
theorem exec_fillNm (ho : o.op = .store 60 x y) (hx : ρ x = .pointer (some ⟨w.heap.size, 0, none⟩)) (hy : ρ y = numV a b c d) : (execOp ρ o).run Tryd.prog (w.alloc (.cells (celN 0 0 0 0).toArray 60)) = .ok .skip (w.alloc (.cells (celN a b c d).toArray 60)) :=
  exec_filT sizeN rfl (celN_one a b c d) ho hx hy
theorem exec_bld4 {t : TypeId} {y0 y1 y2 y3 q : Value} (ho : o.op = .build t #[(0, x), (1, y), (2, z), (3, u)]) (h0 : ρ x = y0) (h1 : ρ y = y1) (h2 : ρ z = y2) (h3 : ρ u = y3)
    (h : (Instr.build t #[(0, y0), (1, y1), (2, y2), (3, y3)]).run Tryd.prog w = .ok q w) : (execOp ρ o).run Tryd.prog w = .ok (.value q) w := by
  subst h0 h1 h2 h3
  unfold execOp
  simp only [ho, List.map_toArray, List.map_cons, List.map_nil, Sem.run_bind, h, Result.andThen_ok, Sem.run_pure]
theorem run_bldN (a b c d : Nat) : (Instr.build 60 #[(0, .int .u64 a), (1, .int .u64 b), (2, .int .u64 c), (3, .int .u64 d)]).run Tryd.prog w = .ok (numV a b c d) w := by kernel_rfl
theorem exec_bldN4 (a b c d : Nat) (ho : o.op = .build 60 #[(0, x), (1, y), (2, z), (3, u)]) (h0 : ρ x = .int .u64 a) (h1 : ρ y = .int .u64 b) (h2 : ρ z = .int .u64 c) (h3 : ρ u = .int .u64 d) : (execOp ρ o).run Tryd.prog w = .ok (.value (numV a b c d)) w :=
  exec_bld4 ho h0 h1 h2 h3 (run_bldN a b c d)
theorem run_bldM4 (a : Nat) (r : Int) (c d : Nat) : (Instr.build 24 #[(0, .int .u64 a), (1, .int .i64 r), (2, .int .u64 c), (3, .int .u64 d)]).run Tryd.prog w = .ok (mrk ⟨a, r, c, d⟩) w := by kernel_rfl
theorem exec_bldM4 (a : Nat) (r : Int) (c d : Nat) (ho : o.op = .build 24 #[(0, x), (1, y), (2, z), (3, u)]) (h0 : ρ x = .int .u64 a) (h1 : ρ y = .int .i64 r) (h2 : ρ z = .int .u64 c) (h3 : ρ u = .int .u64 d) : (execOp ρ o).run Tryd.prog w = .ok (.value (mrk ⟨a, r, c, d⟩)) w :=
  exec_bld4 ho h0 h1 h2 h3 (run_bldM4 a r c d)
theorem ixN {j : Nat} (hj : j < 4) : (Instr.indexAt 60 (.pointer (some ⟨g, 0, none⟩)) (.int .i64 (j : Int))).run Tryd.prog w = .ok (.pointer (some ⟨g, j, none⟩)) w := by
  have e : (0 ≤ (j : Int) ∧ (j : Int) < 4) := by omega
  simp [Instr.indexAt, Instr.sureAddr, asIntOf, run_underlying Tryd.underlying60, Tryd.sizeOf22, Addr.add_mid, e, hj]
theorem ixN0 : (Instr.indexAt 60 (.pointer (some ⟨g, 0, none⟩)) (.int .i64 0)).run Tryd.prog w = .ok (.pointer (some ⟨g, 0, none⟩)) w := ixN (j := 0) (by omega)
theorem ixN1 : (Instr.indexAt 60 (.pointer (some ⟨g, 0, none⟩)) (.int .i64 1)).run Tryd.prog w = .ok (.pointer (some ⟨g, 1, none⟩)) w := ixN (j := 1) (by omega)
theorem ixN2 : (Instr.indexAt 60 (.pointer (some ⟨g, 0, none⟩)) (.int .i64 2)).run Tryd.prog w = .ok (.pointer (some ⟨g, 2, none⟩)) w := ixN (j := 2) (by omega)
theorem ixN3 : (Instr.indexAt 60 (.pointer (some ⟨g, 0, none⟩)) (.int .i64 3)).run Tryd.prog w = .ok (.pointer (some ⟨g, 3, none⟩)) w := ixN (j := 3) (by omega)
end
section
variable {ρ : Operand → Value} {o : Oper} {x y : Operand} {w : World} {g b : Nat} {k : Int} {n : Nat} {ad : Addr}
theorem exec_faM0 (ho : o.op = .fieldAddr 24 x 0) (hx : ρ x = .pointer (some ⟨b, 0, none⟩)) : (execOp ρ o).run Tryd.prog w = .ok (.value (.pointer (some ⟨b, 0, none⟩))) w := exec_faddr ho hx faM0
theorem exec_faM1 (ho : o.op = .fieldAddr 24 x 1) (hx : ρ x = .pointer (some ⟨b, 0, none⟩)) : (execOp ρ o).run Tryd.prog w = .ok (.value (.pointer (some ⟨b, 1, none⟩))) w := exec_faddr ho hx faM1
theorem exec_faM2 (ho : o.op = .fieldAddr 24 x 2) (hx : ρ x = .pointer (some ⟨b, 0, none⟩)) : (execOp ρ o).run Tryd.prog w = .ok (.value (.pointer (some ⟨b, 2, none⟩))) w := exec_faddr ho hx faM2
theorem exec_faM3 (ho : o.op = .fieldAddr 24 x 3) (hx : ρ x = .pointer (some ⟨b, 0, none⟩)) : (execOp ρ o).run Tryd.prog w = .ok (.value (.pointer (some ⟨b, 3, none⟩))) w := exec_faddr ho hx faM3
theorem exec_ixN0 (ho : o.op = .indexAddr 60 x y) (hy : ρ y = .int .i64 0) (hx : ρ x = .pointer (some ⟨g, 0, none⟩)) : (execOp ρ o).run Tryd.prog w = .ok (.value (.pointer (some ⟨g, 0, none⟩))) w := exec_ix ho hx hy ixN0
theorem exec_ixN1 (ho : o.op = .indexAddr 60 x y) (hy : ρ y = .int .i64 1) (hx : ρ x = .pointer (some ⟨g, 0, none⟩)) : (execOp ρ o).run Tryd.prog w = .ok (.value (.pointer (some ⟨g, 1, none⟩))) w := exec_ix ho hx hy ixN1
theorem exec_ixN2 (ho : o.op = .indexAddr 60 x y) (hy : ρ y = .int .i64 2) (hx : ρ x = .pointer (some ⟨g, 0, none⟩)) : (execOp ρ o).run Tryd.prog w = .ok (.value (.pointer (some ⟨g, 2, none⟩))) w := exec_ix ho hx hy ixN2
theorem exec_ixN3 (ho : o.op = .indexAddr 60 x y) (hy : ρ y = .int .i64 3) (hx : ρ x = .pointer (some ⟨g, 0, none⟩)) : (execOp ρ o).run Tryd.prog w = .ok (.value (.pointer (some ⟨g, 3, none⟩))) w := exec_ix ho hx hy ixN3
theorem exec_ixZ0 (ho : o.op = .index 61 x y) (hy : ρ y = .int .i64 0) (hx : ρ x = sizV) : (execOp ρ o).run Tryd.prog w = .ok (.value (.int .i64 8)) w := exec_idx ho hx hy ixZ0
theorem exec_ixZ1 (ho : o.op = .index 61 x y) (hy : ρ y = .int .i64 1) (hx : ρ x = sizV) : (execOp ρ o).run Tryd.prog w = .ok (.value (.int .i64 2)) w := exec_idx ho hx hy ixZ1
theorem exec_ixZ2 (ho : o.op = .index 61 x y) (hy : ρ y = .int .i64 2) (hx : ρ x = sizV) : (execOp ρ o).run Tryd.prog w = .ok (.value (.int .i64 8)) w := exec_idx ho hx hy ixZ2
theorem exec_ixZ3 (ho : o.op = .index 61 x y) (hy : ρ y = .int .i64 3) (hx : ρ x = sizV) : (execOp ρ o).run Tryd.prog w = .ok (.value (.int .i64 8)) w := exec_idx ho hx hy ixZ3
end
/-! ### Bodies as arrays -/
theorem size44m : (Tryd.prog.info? 44).map (·.size) = some 44 := by kernel_rfl
theorem zero44m_info : (Tryd.prog.info? 44).map (fun i => i.zero) = some (some (arr z44)) := by kernel_rfl
theorem guard44m : Tryd.prog.eqGuardType Tryd.prog.depth 44 = false := by kernel_rfl
section
variable {ρ : Operand → Value} {o : Oper} {x y : Operand} {w : World} {b off g c : Nat} {t : TypeId} {l : List UInt8}
theorem exec_load44m (hl : l.length = 44) (ho : o.op = .load 44 x) (hx : ρ x = .pointer (some ⟨b, off, none⟩)) (hc : w.rangeAt b off (vals l)) : (execOp ρ o).run Tryd.prog w = .ok (.value (arr l)) w :=
  exec_loadT Tryd.underlying44 rfl (by rw [vals_length, hl]; exact size44m) ho hx hc
theorem exec_alloc44m (ho : o.op = .alloc 44) : (execOp ρ o).run Tryd.prog w = .ok (.value (.pointer (some ⟨w.heap.size, 0, none⟩))) (w.alloc (.cells (vals z44).toArray 44)) := exec_allocT zero44m_info ho
theorem exec_fill44m (hl : l.length = 44) (ho : o.op = .store 44 x y) (hx : ρ x = .pointer (some ⟨w.heap.size, 0, none⟩)) (hy : ρ y = arr l) :
    (execOp ρ o).run Tryd.prog (w.alloc (.cells (vals z44).toArray 44)) = .ok .skip (w.alloc (.cells (vals l).toArray 44)) :=
  exec_filT (by rw [vals_length, hl]; exact size44m) (by rw [vals_length, vals_length, hl, z44_length]) (vals_one l) ho hx hy
theorem exec_put44m (hl : l.length = 44) (ho : o.op = .store 44 x y) (hx : ρ x = .pointer (some ⟨b, off, none⟩)) (hy : ρ y = arr l) (ht : w.there b off 44) : (execOp ρ o).run Tryd.prog w = .ok .skip (w.setCells b off (vals l)) :=
  exec_putT (by rw [vals_length, hl]; exact size44m) (vals_one l) ho hx hy (by rw [vals_length, hl]; exact ht)
theorem exec_ne44m {l' : List UInt8} (c : Bool) (ha : l.length = 44) (hb : l'.length = 44) (ho : o.op = .binOp .neq 44 x y t) (hx : ρ x = arr l) (hy : ρ y = arr l') (h : decide (l = l') = c) : (execOp ρ o).run Tryd.prog w = .ok (.value (.bool (!c))) w := by
  subst h; exact exec_neT guard44m (run_eqArr Tryd.underlying44 w l l' ha hb 9998) ho hx hy
theorem exec_all44m (ho : o.op = .slice 44 x none none none) (hx : ρ x = .pointer (some ⟨g, off, none⟩)) : (execOp ρ o).run Tryd.prog w = .ok (.value (.slice (some ⟨g, off, none⟩) 44 44)) w := by
  have h : (Instr.sliceAt 44 (.pointer (some ⟨g, off, none⟩)) none none none).run Tryd.prog w = .ok (.slice (some ⟨g, off, none⟩) 44 44) w := by
    simp [Instr.sliceAt, Instr.sliceBounds, Instr.sliceBound, Instr.sureAddr, asIntOf, run_underlying Tryd.underlying44, Tryd.sizeOf5, Addr.add_mid]
  unfold execOp
  simp only [ho, hx, Option.map_none, Sem.run_bind, h, Result.andThen_ok, Sem.run_pure]
theorem exec_from44m (p n : Nat) (hn : p + n = 44) (h0 : 0 < n) (ho : o.op = .slice 44 x (some y) none none) (hx : ρ x = .pointer (some ⟨g, 0, none⟩)) (hy : ρ y = .int .i64 (p : Int)) : (execOp ρ o).run Tryd.prog w = .ok (.value (.slice (some ⟨g, p, none⟩) n n)) w := by
  have e1 : (0 ≤ (p : Int) ∧ (p : Int) ≤ 44) := by omega
  have e2 : p ≤ 44 := by omega
  have e3 : 44 - p = n := by omega
  have e4 : n ≠ 0 := by omega
  have e5 : ¬ 44 = p := by omega
  have h : (Instr.sliceAt 44 (.pointer (some ⟨g, 0, none⟩)) (some (.int .i64 (p : Int))) none none).run Tryd.prog w = .ok (.slice (some ⟨g, p, none⟩) n n) w := by
    simp [Instr.sliceAt, Instr.sliceBounds, Instr.sliceBound, Instr.sureAddr, asIntOf, run_underlying Tryd.underlying44, Tryd.sizeOf5, Addr.add_mid, e1, e2, e3, e4, e5]
  unfold execOp
  simp only [ho, hx, hy, Option.map_none, Option.map_some, Sem.run_bind, h, Result.andThen_ok, Sem.run_pure]
theorem exec_s2am (ho : o.op = .sliceToArrayPointer 44 x) (hx : ρ x = .slice (some ⟨g, 0, none⟩) 44 c) : (execOp ρ o).run Tryd.prog w = .ok (.value (.pointer (some ⟨g, 0, none⟩))) w := by
  unfold execOp
  simp [ho, hx, Instr.arrayAt, run_underlying Tryd.underlying44]
end
end Go.Proofs.YtmdpbnolgbfaeaaDoor
