/-
  Marks and bodies by value: their cells; how they are read, laid, boxed, compared, answered.
-/
import Derived.Test.YtmdpbnolgbfaeaaDoorTyp
import Derived.Test.YtmdpbnolgbfaeaaDoorMrkM
namespace Go.Proofs.YtmdpbnolgbfaeaaDoor
open Go.RowKit
set_option linter.unusedVariables false
set_option maxRecDepth 100000

def celM (x : Mrk) : List Value := [.int .u64 x.id, .int .i64 x.ring, .int .u64 x.first, .int .u64 x.pos]
def mrk (x : Mrk) : Value := .agg (celM x).toArray
theorem celM_length (x : Mrk) : (celM x).length = 4 := rfl
theorem celM_one (x : Mrk) : ∀ v ∈ celM x, v.oneCell' = true := by
  intro v hv
  simp only [celM, List.mem_cons, List.not_mem_nil, or_false] at hv
  rcases hv with rfl | rfl | rfl | rfl <;> rfl
theorem sizeM : (Tryd.prog.info? 24).map (·.size) = some 4 := by kernel_rfl
theorem zeroM_info : (Tryd.prog.info? 24).map (fun i => i.zero) = some (some (mrk zeroM)) := by kernel_rfl
section
variable {ρ : Operand → Value} {o : Oper} {x y : Operand} {w : World} {b off : Nat}
theorem exec_loadM {c : Mrk} (ho : o.op = .load 24 x) (hx : ρ x = .pointer (some ⟨b, off, none⟩)) (hc : w.rangeAt b off (celM c)) : (execOp ρ o).run Tryd.prog w = .ok (.value (mrk c)) w :=
  exec_loadT Tryd.underlying24 rfl sizeM ho hx hc
theorem exec_boxM {c : Mrk} (ho : o.op = .box 24 x) (hx : ρ x = mrk c) : (execOp ρ o).run Tryd.prog w = .ok (.value (.pointer (some ⟨w.heap.size, 0, none⟩))) (w.alloc (.cells (celM c).toArray 24)) := exec_boxT ho hx
theorem exec_allocM (ho : o.op = .alloc 24) : (execOp ρ o).run Tryd.prog w = .ok (.value (.pointer (some ⟨w.heap.size, 0, none⟩))) (w.alloc (.cells (celM zeroM).toArray 24)) := exec_allocT zeroM_info ho
theorem exec_fillM {c d : Mrk} (ho : o.op = .store 24 x y) (hx : ρ x = .pointer (some ⟨w.heap.size, 0, none⟩)) (hy : ρ y = mrk c) : (execOp ρ o).run Tryd.prog (w.alloc (.cells (celM d).toArray 24)) = .ok .skip (w.alloc (.cells (celM c).toArray 24)) :=
  exec_filT sizeM rfl (celM_one c) ho hx hy
theorem exec_putM {c : Mrk} (ho : o.op = .store 24 x y) (hx : ρ x = .pointer (some ⟨b, off, none⟩)) (hy : ρ y = mrk c) (ht : w.there b off 4) : (execOp ρ o).run Tryd.prog w = .ok .skip (w.setCells b off (celM c)) :=
  exec_putT sizeM (celM_one c) ho hx hy ht
theorem run_bldM (w : World) : (Instr.build 24 #[]).run Tryd.prog w = .ok (mrk zeroM) w := by kernel_rfl
theorem exec_bldM (ho : o.op = .build 24 #[]) : (execOp ρ o).run Tryd.prog w = .ok (.value (mrk zeroM)) w := exec_bld0 ho (run_bldM w)
end
/-! ### Compared -/
theorem partM_0 (w : World) (x : Mrk) : (part 22 (celM x).toArray 0).run Tryd.prog w = .ok (.int .u64 x.id) w := by simp [part, celM]
theorem partM_1 (w : World) (x : Mrk) : (part 3 (celM x).toArray 1).run Tryd.prog w = .ok (.int .i64 x.ring) w := by simp [part, celM]
theorem partM_2 (w : World) (x : Mrk) : (part 22 (celM x).toArray 2).run Tryd.prog w = .ok (.int .u64 x.first) w := by simp [part, celM]
theorem partM_3 (w : World) (x : Mrk) : (part 22 (celM x).toArray 3).run Tryd.prog w = .ok (.int .u64 x.pos) w := by simp [part, celM]
theorem run_eqM (w : World) (a b : Mrk) (d : Nat) : (Op.equalIn (d + 2) 24 (mrk a) (mrk b)).run Tryd.prog w = .ok (decide (a = b)) w := by
  have h0 := run_equalIn_int (P := Tryd.prog) w d 22 .u64 .u64 a.id b.id Tryd.underlying22
  have h1 := run_equalIn_int (P := Tryd.prog) w d 3 .i64 .i64 a.ring b.ring Tryd.underlying3
  have h2 := run_equalIn_int (P := Tryd.prog) w d 22 .u64 .u64 a.first b.first Tryd.underlying22
  have h3 := run_equalIn_int (P := Tryd.prog) w d 22 .u64 .u64 a.pos b.pos Tryd.underlying22
  unfold mrk
  rw [show d + 2 = (d + 1) + 1 from rfl, run_equalIn_struct w (d + 1) 24 _ _ (by kernel_rfl) (by kernel_rfl)]
  simp only [Program.fieldsOf, Tryd.underlying24]
  rw [eqF_step ?_ (partM_0 w a) (partM_0 w b) h0]
  rotate_left
  · simp
  rw [eqF_step ?_ (partM_1 w a) (partM_1 w b) h1]
  rotate_left
  · simp
  rw [eqF_step ?_ (partM_2 w a) (partM_2 w b) h2]
  rotate_left
  · simp
  rw [eqF_step ?_ (partM_3 w a) (partM_3 w b) h3]
  rotate_left
  · simp
  rw [eqF_nil]
  clear h0 h1 h2 h3
  obtain ⟨i, r, f, p⟩ := a
  obtain ⟨i', r', f', p'⟩ := b
  simp only [Mrk.mk.injEq]
  by_cases k0 : i = i'
  · by_cases k1 : r = r'
    · by_cases k2 : f = f'
      · by_cases k3 : p = p'
        · simp [k0, k1, k2, k3]
        · have : ¬ ((p : Int) = (p' : Int)) := by omega
          simp [k0, k1, k2, k3, this]
      · have : ¬ ((f : Int) = (f' : Int)) := by omega
        simp [k0, k1, k2, this]
    · simp [k0, k1]
  · have : ¬ ((i : Int) = (i' : Int)) := by omega
    simp [k0, this]
section
variable {ρ : Operand → Value} {o : Oper} {x y : Operand} {w : World} {t : TypeId}
theorem guardM : Tryd.prog.eqGuardType Tryd.prog.depth 24 = false := by kernel_rfl
theorem exec_eqM {a b : Mrk} (c : Bool) (ho : o.op = .binOp .eql 24 x y t) (hx : ρ x = mrk a) (hy : ρ y = mrk b) (h : decide (a = b) = c) : (execOp ρ o).run Tryd.prog w = .ok (.value (.bool c)) w := by
  subst h; exact exec_eqT guardM (run_eqM w a b 9998) ho hx hy
theorem exec_neM {a b : Mrk} (c : Bool) (ho : o.op = .binOp .neq 24 x y t) (hx : ρ x = mrk a) (hy : ρ y = mrk b) (h : decide (a = b) = c) : (execOp ρ o).run Tryd.prog w = .ok (.value (.bool (!c))) w := by
  subst h; exact exec_neT guardM (run_eqM w a b 9998) ho hx hy
end
/-! ### In memory -/
/-- Block b holds a mark. -/
def MrkAt (w : World) (b : Nat) (x : Mrk) : Prop := w.heap[b]? = some (.cells (celM x).toArray 24 (0, 0))
section
variable {w w' : World} {b : Nat} {x : Mrk}
theorem MrkAt.range (h : MrkAt w b x) : w.rangeAt b 0 (celM x) := rng_at h
theorem MrkAt.cells (h : MrkAt w b x) : w.cell? ⟨b, 0, none⟩ = some (.int .u64 x.id) ∧ w.cell? ⟨b, 1, none⟩ = some (.int .i64 x.ring) ∧ w.cell? ⟨b, 2, none⟩ = some (.int .u64 x.first) ∧ w.cell? ⟨b, 3, none⟩ = some (.int .u64 x.pos) :=
  ⟨h.range 0 _ rfl, h.range 1 _ rfl, h.range 2 _ rfl, h.range 3 _ rfl⟩
theorem MrkAt.below {B : Nat} (h : MrkAt w b x) (hB : b < B) (hb : Below B w w') : MrkAt w' b x := blk_keep2 h hB hb
theorem MrkAt.new (w : World) (x : Mrk) : MrkAt (w.alloc (.cells (celM x).toArray 24)) w.heap.size x := heap_alloc_new w _
theorem MrkAt.past (h : MrkAt w b x) (o : Obj) : MrkAt (w.alloc o) b x := blk_past h o
theorem MrkAt.there (h : MrkAt w b x) : w.there b 0 4 := there_at (o := 0) (n := 4) h (Nat.le_refl _)
theorem boxM_new (w : World) (x : Mrk) : MrkAt (w.alloc (.cells (celM x).toArray 24)) w.heap.size x ∧ Below w.heap.size w (w.alloc (.cells (celM x).toArray 24)) ∧ w.heap.size < (w.alloc (.cells (celM x).toArray 24)).heap.size :=
  ⟨MrkAt.new w x, (Below.refl _ w).alloc (Nat.le_refl _) _, by rw [World.size_alloc]; omega⟩
end
end Go.Proofs.YtmdpbnolgbfaeaaDoor
