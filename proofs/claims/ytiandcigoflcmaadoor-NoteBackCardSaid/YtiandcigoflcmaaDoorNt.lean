/-
  Notes by value: their cells; how they are read, laid, boxed, compared, answered.
-/
import Derived.Test.YtiandcigoflcmaaDoorTyp
import Derived.Test.YtiandcigoflcmaaDoorNtM
namespace Go.Proofs.YtiandcigoflcmaaDoor
open Go.RowKit
set_option linter.unusedVariables false
set_option maxRecDepth 100000

def celNt (x : Nte) : List Value := [.int .u64 x.seq, .int .u64 x.pos, .int .i64 x.cells, .int .u32 x.sum]
def nte (x : Nte) : Value := .agg (celNt x).toArray
theorem celNt_length (x : Nte) : (celNt x).length = 4 := rfl
theorem celNt_one (x : Nte) : ∀ v ∈ celNt x, v.oneCell' = true := by
  intro v hv
  simp only [celNt, List.mem_cons, List.not_mem_nil, or_false] at hv
  rcases hv with rfl | rfl | rfl | rfl <;> rfl
theorem sizeNt : (Tryd.prog.info? 25).map (·.size) = some 4 := by kernel_rfl
theorem zeroNt_info : (Tryd.prog.info? 25).map (fun i => i.zero) = some (some (nte zeroNt)) := by kernel_rfl
section
variable {ρ : Operand → Value} {o : Oper} {x y : Operand} {w : World} {b off : Nat}
theorem exec_loadNt {c : Nte} (ho : o.op = .load 25 x) (hx : ρ x = .pointer (some ⟨b, off, none⟩)) (hc : w.rangeAt b off (celNt c)) : (execOp ρ o).run Tryd.prog w = .ok (.value (nte c)) w :=
  exec_loadT Tryd.underlying25 rfl sizeNt ho hx hc
theorem exec_boxNt {c : Nte} (ho : o.op = .box 25 x) (hx : ρ x = nte c) : (execOp ρ o).run Tryd.prog w = .ok (.value (.pointer (some ⟨w.heap.size, 0, none⟩))) (w.alloc (.cells (celNt c).toArray 25)) := exec_boxT ho hx
theorem exec_allocNt (ho : o.op = .alloc 25) : (execOp ρ o).run Tryd.prog w = .ok (.value (.pointer (some ⟨w.heap.size, 0, none⟩))) (w.alloc (.cells (celNt zeroNt).toArray 25)) := exec_allocT zeroNt_info ho
theorem exec_fillNt {c d : Nte} (ho : o.op = .store 25 x y) (hx : ρ x = .pointer (some ⟨w.heap.size, 0, none⟩)) (hy : ρ y = nte c) : (execOp ρ o).run Tryd.prog (w.alloc (.cells (celNt d).toArray 25)) = .ok .skip (w.alloc (.cells (celNt c).toArray 25)) :=
  exec_filT sizeNt rfl (celNt_one c) ho hx hy
theorem exec_putNt {c : Nte} (ho : o.op = .store 25 x y) (hx : ρ x = .pointer (some ⟨b, off, none⟩)) (hy : ρ y = nte c) (ht : w.there b off 4) : (execOp ρ o).run Tryd.prog w = .ok .skip (w.setCells b off (celNt c)) :=
  exec_putT sizeNt (celNt_one c) ho hx hy ht
theorem run_bldNt (w : World) : (Instr.build 25 #[]).run Tryd.prog w = .ok (nte zeroNt) w := by kernel_rfl
theorem exec_bldNt (ho : o.op = .build 25 #[]) : (execOp ρ o).run Tryd.prog w = .ok (.value (nte zeroNt)) w := exec_bld0 ho (run_bldNt w)
end
/-! ### Compared -/
theorem partNt_0 (w : World) (x : Nte) : (part 22 (celNt x).toArray 0).run Tryd.prog w = .ok (.int .u64 x.seq) w := by simp [part, celNt]
theorem partNt_1 (w : World) (x : Nte) : (part 22 (celNt x).toArray 1).run Tryd.prog w = .ok (.int .u64 x.pos) w := by simp [part, celNt]
theorem partNt_2 (w : World) (x : Nte) : (part 3 (celNt x).toArray 2).run Tryd.prog w = .ok (.int .i64 x.cells) w := by simp [part, celNt]
theorem partNt_3 (w : World) (x : Nte) : (part 23 (celNt x).toArray 3).run Tryd.prog w = .ok (.int .u32 x.sum) w := by simp [part, celNt]
theorem run_eqNt (w : World) (a b : Nte) (d : Nat) : (Op.equalIn (d + 2) 25 (nte a) (nte b)).run Tryd.prog w = .ok (decide (a = b)) w := by
  have h0 := run_equalIn_int (P := Tryd.prog) w d 22 .u64 .u64 a.seq b.seq Tryd.underlying22
  have h1 := run_equalIn_int (P := Tryd.prog) w d 22 .u64 .u64 a.pos b.pos Tryd.underlying22
  have h2 := run_equalIn_int (P := Tryd.prog) w d 3 .i64 .i64 a.cells b.cells Tryd.underlying3
  have h3 := run_equalIn_int (P := Tryd.prog) w d 23 .u32 .u32 a.sum b.sum Tryd.underlying23
  unfold nte
  rw [show d + 2 = (d + 1) + 1 from rfl, run_equalIn_struct w (d + 1) 25 _ _ (by kernel_rfl) (by kernel_rfl)]
  simp only [Program.fieldsOf, Tryd.underlying25]
  rw [eqF_step ?_ (partNt_0 w a) (partNt_0 w b) h0]
  rotate_left
  · simp
  rw [eqF_step ?_ (partNt_1 w a) (partNt_1 w b) h1]
  rotate_left
  · simp
  rw [eqF_step ?_ (partNt_2 w a) (partNt_2 w b) h2]
  rotate_left
  · simp
  rw [eqF_step ?_ (partNt_3 w a) (partNt_3 w b) h3]
  rotate_left
  · simp
  rw [eqF_nil]
  clear h0 h1 h2 h3
  obtain ⟨i, r, f, p⟩ := a
  obtain ⟨i', r', f', p'⟩ := b
  simp only [Nte.mk.injEq]
  by_cases k0 : i = i'
  · by_cases k1 : r = r'
    · by_cases k2 : f = f'
      · by_cases k3 : p = p'
        · simp [k0, k1, k2, k3]
        · have : ¬ ((p : Int) = (p' : Int)) := by omega
          simp [k0, k1, k2, k3, this]
      · simp [k0, k1, k2]
    · have : ¬ ((r : Int) = (r' : Int)) := by omega
      simp [k0, k1, this]
  · have : ¬ ((i : Int) = (i' : Int)) := by omega
    simp [k0, this]
section
variable {ρ : Operand → Value} {o : Oper} {x y : Operand} {w : World} {t : TypeId}
theorem guardNt : Tryd.prog.eqGuardType Tryd.prog.depth 25 = false := by kernel_rfl
theorem exec_eqNt {a b : Nte} (c : Bool) (ho : o.op = .binOp .eql 25 x y t) (hx : ρ x = nte a) (hy : ρ y = nte b) (h : decide (a = b) = c) : (execOp ρ o).run Tryd.prog w = .ok (.value (.bool c)) w := by
  subst h; exact exec_eqT guardNt (run_eqNt w a b 9998) ho hx hy
theorem exec_neNt {a b : Nte} (c : Bool) (ho : o.op = .binOp .neq 25 x y t) (hx : ρ x = nte a) (hy : ρ y = nte b) (h : decide (a = b) = c) : (execOp ρ o).run Tryd.prog w = .ok (.value (.bool (!c))) w := by
  subst h; exact exec_neT guardNt (run_eqNt w a b 9998) ho hx hy
end
/-! ### In memory -/
/-- Block b holds a note. -/
def NteAt (w : World) (b : Nat) (x : Nte) : Prop := w.heap[b]? = some (.cells (celNt x).toArray 25 (0, 0))
section
variable {w w' : World} {b : Nat} {x : Nte}
theorem NteAt.range (h : NteAt w b x) : w.rangeAt b 0 (celNt x) := rng_at h
theorem NteAt.cells (h : NteAt w b x) : w.cell? ⟨b, 0, none⟩ = some (.int .u64 x.seq) ∧ w.cell? ⟨b, 1, none⟩ = some (.int .u64 x.pos) ∧ w.cell? ⟨b, 2, none⟩ = some (.int .i64 x.cells) ∧ w.cell? ⟨b, 3, none⟩ = some (.int .u32 x.sum) :=
  ⟨h.range 0 _ rfl, h.range 1 _ rfl, h.range 2 _ rfl, h.range 3 _ rfl⟩
theorem NteAt.below {B : Nat} (h : NteAt w b x) (hB : b < B) (hb : Below B w w') : NteAt w' b x := blk_keep2 h hB hb
theorem NteAt.new (w : World) (x : Nte) : NteAt (w.alloc (.cells (celNt x).toArray 25)) w.heap.size x := heap_alloc_new w _
theorem NteAt.past (h : NteAt w b x) (o : Obj) : NteAt (w.alloc o) b x := blk_past h o
theorem NteAt.there (h : NteAt w b x) : w.there b 0 4 := there_at (o := 0) (n := 4) h (Nat.le_refl _)
theorem boxNt_new (w : World) (x : Nte) : NteAt (w.alloc (.cells (celNt x).toArray 25)) w.heap.size x ∧ Below w.heap.size w (w.alloc (.cells (celNt x).toArray 25)) ∧ w.heap.size < (w.alloc (.cells (celNt x).toArray 25)).heap.size :=
  ⟨NteAt.new w x, (Below.refl _ w).alloc (Nat.le_refl _) _, by rw [World.size_alloc]; omega⟩
end
end Go.Proofs.YtiandcigoflcmaaDoor
