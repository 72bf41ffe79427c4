/-
  Cells and places by value: their cells in memory; how they are read, laid, boxed, built, compared; rows of them.
-/
import Derived.Test.YtfemlaombdeebaaDoorCelM
import Derived.Test.YtfemlaombdeebaaDoorEltOps
import Derived.Test.YtfemlaombdeebaaDoorTypA
import Derived.Test.YtfemlaombdeebaaDoorBlkW
namespace Go.Proofs.YtfemlaombdeebaaDoor
open Go.RowKit
set_option linter.unusedVariables false
set_option linter.unusedSimpArgs false
set_option maxRecDepth 100000

def celP (s m : Int) : List Value := [.int .i64 s, .int .i64 m]
def plV (s m : Int) : Value := .agg (celP s m).toArray
def celC (c : Cl) : List Value := .int .i64 c.s :: .int .i64 c.m :: cel c.b
def clV (c : Cl) : Value := .agg (celC c).toArray
theorem celC_length (c : Cl) : (celC c).length = 66 := by simp [celC, cel_length]
theorem celC_one (c : Cl) : ∀ v ∈ celC c, v.oneCell' = true := by
  intro v hv
  simp only [celC, List.mem_cons] at hv
  rcases hv with rfl | rfl | hv
  · rfl
  · rfl
  · exact cel_one c.b v hv
theorem celP_one (s m : Int) : ∀ v ∈ celP s m, v.oneCell' = true := by
  intro v hv
  simp only [celP, List.mem_cons, List.not_mem_nil, or_false] at hv
  rcases hv with rfl | rfl <;> rfl
theorem sizeC : (Tryd.prog.info? 46).map (·.size) = some 66 := by kernel_rfl
theorem sizeP : (Tryd.prog.info? 44).map (·.size) = some 2 := by kernel_rfl
theorem infoC : (Tryd.prog.info? 46).map (fun i => (i.zero, i.size, i.bytes)) = some (some (clV zeroC), 66, 80) := by kernel_rfl
theorem zeroC_info : (Tryd.prog.info? 46).map (fun i => i.zero) = some (some (.agg (celC zeroC).toArray)) := by kernel_rfl
theorem zeroP_info : (Tryd.prog.info? 44).map (fun i => i.zero) = some (some (.agg (celP 0 0).toArray)) := by kernel_rfl
/-- Rows of cells. -/
def CellE : Elt Cl where
  s := 24
  t := 46
  n := 66
  by_ := 80
  cel := celC
  d := zeroC
  z := clV zeroC
  pos := by omega
  small := by omega
  len := celC_length
  one := celC_one
  und := Tryd.underlying24
  info := infoC
  zc := by show (Value.cells (.agg _)).size = 66; simp [Value.cells, celC_length]
theorem RdE.cl {w : World} {B n k : Nat} {A : Option Addr} {l : List Cl} (h : RdE CellE w B A n l) (hk : k < n) : ∃ b off, A = some ⟨b, off, none⟩ ∧ b < B ∧ w.rangeAt b (off + k * 66) (celC (l.getD k zeroC)) := h.2 k hk
section
variable {w : World} {b off : Nat} {c : Cl}
theorem cl_place (h : w.rangeAt b off (celC c)) : w.rangeAt b off (celP c.s c.m) := by
  have := rng_sub (ds := []) (es := celP c.s c.m) (fs := cel c.b) (k := 0) h rfl rfl
  rwa [Nat.add_zero] at this
theorem cl_blk (h : w.rangeAt b off (celC c)) : w.rangeAt b (off + 2) (cel c.b) := rng_sub (ds := celP c.s c.m) (es := cel c.b) (fs := []) (k := 2) h (by simp [celC, celP]) rfl
theorem pl_cells {s m : Int} (h : w.rangeAt b off (celP s m)) : w.cell? ⟨b, off, none⟩ = some (.int .i64 s) ∧ w.cell? ⟨b, off + 1, none⟩ = some (.int .i64 m) := by
  have h0 := h 0 _ rfl
  rw [Nat.add_zero] at h0
  exact ⟨h0, h 1 _ rfl⟩
end
/-! ### What one operation does -/
section
variable {ρ : Operand → Value} {o : Oper} {x y : Operand} {w : World} {b off : Nat} {c d : Cl} {s m s' m' : Int} {t : TypeId}
theorem exec_loadC (ho : o.op = .load 46 x) (hx : ρ x = .pointer (some ⟨b, off, none⟩)) (hc : w.rangeAt b off (celC c)) : (execOp ρ o).run Tryd.prog w = .ok (.value (clV c)) w :=
  exec_loadT Tryd.underlying46 rfl (by rw [celC_length]; exact sizeC) ho hx hc
theorem exec_loadPl (ho : o.op = .load 44 x) (hx : ρ x = .pointer (some ⟨b, off, none⟩)) (hc : w.rangeAt b off (celP s m)) : (execOp ρ o).run Tryd.prog w = .ok (.value (plV s m)) w :=
  exec_loadT Tryd.underlying44 rfl sizeP ho hx hc
theorem exec_boxC (ho : o.op = .box 46 x) (hx : ρ x = clV c) : (execOp ρ o).run Tryd.prog w = .ok (.value (.pointer (some ⟨w.heap.size, 0, none⟩))) (w.alloc (.cells (celC c).toArray 46)) := exec_boxT ho hx
theorem exec_boxPl (ho : o.op = .box 44 x) (hx : ρ x = plV s m) : (execOp ρ o).run Tryd.prog w = .ok (.value (.pointer (some ⟨w.heap.size, 0, none⟩))) (w.alloc (.cells (celP s m).toArray 44)) := exec_boxT ho hx
theorem exec_allocC (ho : o.op = .alloc 46) : (execOp ρ o).run Tryd.prog w = .ok (.value (.pointer (some ⟨w.heap.size, 0, none⟩))) (w.alloc (.cells (celC zeroC).toArray 46)) := exec_allocT zeroC_info ho
theorem exec_allocPl (ho : o.op = .alloc 44) : (execOp ρ o).run Tryd.prog w = .ok (.value (.pointer (some ⟨w.heap.size, 0, none⟩))) (w.alloc (.cells (celP 0 0).toArray 44)) := exec_allocT zeroP_info ho
theorem exec_fillC (ho : o.op = .store 46 x y) (hx : ρ x = .pointer (some ⟨w.heap.size, 0, none⟩)) (hy : ρ y = clV c) : (execOp ρ o).run Tryd.prog (w.alloc (.cells (celC d).toArray 46)) = .ok .skip (w.alloc (.cells (celC c).toArray 46)) :=
  exec_filT (by rw [celC_length]; exact sizeC) (by rw [celC_length, celC_length]) (celC_one c) ho hx hy
theorem exec_fillPl (ho : o.op = .store 44 x y) (hx : ρ x = .pointer (some ⟨w.heap.size, 0, none⟩)) (hy : ρ y = plV s m) : (execOp ρ o).run Tryd.prog (w.alloc (.cells (celP s' m').toArray 44)) = .ok .skip (w.alloc (.cells (celP s m).toArray 44)) :=
  exec_filT sizeP rfl (celP_one s m) ho hx hy
theorem faC0 : (Instr.fieldAt 46 (.pointer (some ⟨b, off, none⟩)) 0).run Tryd.prog w = .ok (.pointer (some ⟨b, off, none⟩)) w := by kernel_rfl
theorem faC1 : (Instr.fieldAt 46 (.pointer (some ⟨b, off, none⟩)) 1).run Tryd.prog w = .ok (.pointer (some ⟨b, off + 2, none⟩)) w := by kernel_rfl
theorem faPl0 : (Instr.fieldAt 44 (.pointer (some ⟨b, off, none⟩)) 0).run Tryd.prog w = .ok (.pointer (some ⟨b, off, none⟩)) w := by kernel_rfl
theorem faPl1 : (Instr.fieldAt 44 (.pointer (some ⟨b, off, none⟩)) 1).run Tryd.prog w = .ok (.pointer (some ⟨b, off + 1, none⟩)) w := by kernel_rfl
end
/-! ### Comparing -/
theorem run_eqP (w : World) (s m s' m' : Int) (d : Nat) : (Op.equalIn (d + 2) 44 (plV s m) (plV s' m')).run Tryd.prog w = .ok (decide (s = s' ∧ m = m')) w := by
  have he : ∀ x y : Int, (Op.equalIn (d + 1) 3 (.int .i64 x) (.int .i64 y)).run Tryd.prog w = .ok (x == y) w := fun x y => run_equalIn_int w d 3 .i64 .i64 x y Tryd.underlying3
  unfold plV
  rw [show d + 2 = (d + 1) + 1 from rfl, run_equalIn_struct w (d + 1) 44 _ _ (by kernel_rfl) (by kernel_rfl)]
  simp only [Program.fieldsOf, Tryd.underlying44, Op.eqFields, celP]
  simp [part, he]
  by_cases h1 : s = s' <;> by_cases h2 : m = m' <;> simp [h1, h2]
theorem partC_0 (w : World) (c : Cl) : (part 44 (celC c).toArray 0).run Tryd.prog w = .ok (plV c.s c.m) w := by
  simp [part, plV, celC, celP]
theorem partC_1 (w : World) (c : Cl) : (part 38 (celC c).toArray 2).run Tryd.prog w = .ok (blk c.b) w := by
  have h : ((celC c).drop 2).take 64 = cel c.b := List.take_of_length_le (by simp [celC, cel_length])
  simp [part, blk, h]
theorem cl_ext {a b : Cl} (h1 : a.s = b.s ∧ a.m = b.m) (h2 : a.b = b.b) : a = b := by
  obtain ⟨s, m, x⟩ := a
  obtain ⟨s', m', x'⟩ := b
  obtain ⟨rfl, rfl⟩ := h1
  obtain rfl := h2
  rfl
theorem run_eqC (w : World) (a b : Cl) (d : Nat) : (Op.equalIn (d + 3) 46 (clV a) (clV b)).run Tryd.prog w = .ok (decide (a = b)) w := by
  have hb := run_eqB w a.b b.b d
  have hp := run_eqP w a.s a.m b.s b.m d
  unfold clV
  rw [show d + 3 = (d + 2) + 1 from rfl, run_equalIn_struct w (d + 2) 46 _ _ (by kernel_rfl) (by kernel_rfl)]
  simp only [Program.fieldsOf, Tryd.underlying46]
  rw [eqF_step ?_ (partC_0 w a) (partC_0 w b) hp]
  rotate_left
  · simp
  rw [eqF_step ?_ (partC_1 w a) (partC_1 w b) hb]
  rotate_left
  · simp
  rw [eqF_nil]
  clear hb hp
  by_cases k1 : a.s = b.s ∧ a.m = b.m
  · by_cases k2 : a.b = b.b
    · rw [decide_eq_true k1, decide_eq_true k2, decide_eq_true (cl_ext k1 k2)]
      simp
    · rw [decide_eq_true k1, decide_eq_false k2, decide_eq_false (fun e : a = b => k2 (by rw [e]))]
      simp
  · rw [decide_eq_false k1, decide_eq_false (fun e : a = b => k1 (by rw [e]; exact ⟨rfl, rfl⟩))]
    simp
theorem guardC : Tryd.prog.eqGuardType Tryd.prog.depth 46 = false := by kernel_rfl
section
variable {ρ : Operand → Value} {o : Oper} {x y : Operand} {w : World} {t : TypeId} {a b : Cl}
theorem exec_neC (c : Bool) (ho : o.op = .binOp .neq 46 x y t) (hx : ρ x = clV a) (hy : ρ y = clV b) (h : (!decide (a = b)) = c) : (execOp ρ o).run Tryd.prog w = .ok (.value (.bool c)) w := by
  subst h; exact exec_neT guardC (run_eqC w a b 9997) ho hx hy
end
/-! ### Building -/
section
variable {ρ : Operand → Value} {o : Oper} {x y : Operand} {w : World} {s m : Int} {b : Blk}
theorem run_bldPl (s m : Int) : (Instr.build 44 #[(0, .int .i64 s), (1, .int .i64 m)]).run Tryd.prog w = .ok (plV s m) w := by kernel_rfl
theorem exec_bldPl (ho : o.op = .build 44 #[(0, x), (1, y)]) (hx : ρ x = .int .i64 s) (hy : ρ y = .int .i64 m) : (execOp ρ o).run Tryd.prog w = .ok (.value (plV s m)) w := by
  have h := run_bldPl (w := w) s m
  unfold execOp
  simp only [ho, List.map_toArray, List.map_cons, List.map_nil, hx, hy, Sem.run_bind, h, Result.andThen_ok, Sem.run_pure]
theorem run_bldC (s m : Int) (b : Blk) : (Instr.build 46 #[(0, plV s m), (1, blk b)]).run Tryd.prog w = .ok (clV ⟨s, m, b⟩) w := by
  have hz := run_zeroT zeroC_info w
  have h1 := fill_one (place := fun i => (#[(0, 2), (2, 64)] : Array (Nat × Nat))[i]?) (i := 0) (off := 0) (size := 2) (v := plV s m) (pre := []) (mid := celP 0 0) (post := cel zeroB) (vs := celP s m) (rest := [(1, blk b)]) rfl rfl rfl rfl rfl
  have h2 := fill_one (place := fun i => (#[(0, 2), (2, 64)] : Array (Nat × Nat))[i]?) (i := 1) (off := 2) (size := 64) (v := blk b) (pre := celP s m) (mid := cel zeroB) (post := []) (vs := cel b) (rest := []) rfl rfl (cel_length b) rfl (cel_length zeroB)
  simp only [List.nil_append, List.append_nil] at h1 h2
  have h3 := h1.trans h2
  have hz' : (zeroValue 46).run Tryd.prog w = .ok (.agg (celP 0 0 ++ cel zeroB).toArray) w := hz
  have hc : (Value.agg (celP 0 0 ++ cel zeroB).toArray).cells = (celP 0 0 ++ cel zeroB).toArray := rfl
  simp only [Instr.build, Sem.run_bind, hz', run_underlying Tryd.underlying46, Result.andThen_ok, hc]
  refine Eq.trans (congrArg (fun r => Result.andThen r _) (?h : _ = Result.ok #[(0, 2), (2, 64)] w)) ?_
  case h => kernel_rfl
  simp only [Result.andThen_ok]
  have h4 : Instr.fill (fun i => (#[(0, 2), (2, 64)] : Array (Nat × Nat))[i]?) (celP s m ++ cel b).toArray [] = some (celP s m ++ cel b).toArray := by rw [Instr.fill]
  rw [h3.trans h4]
  rfl
theorem exec_bldC (ho : o.op = .build 46 #[(0, x), (1, y)]) (hx : ρ x = plV s m) (hy : ρ y = blk b) : (execOp ρ o).run Tryd.prog w = .ok (.value (clV ⟨s, m, b⟩)) w := by
  have h := run_bldC (w := w) s m b
  unfold execOp
  simp only [ho, List.map_toArray, List.map_cons, List.map_nil, hx, hy, Sem.run_bind, h, Result.andThen_ok, Sem.run_pure]
end
/-! ### A list of one cell -/
theorem rdC_new1 (w : World) (c : Cl) : RdE CellE (w.alloc (.cells (celC c).toArray 46)) (w.heap.size + 1) (some ⟨w.heap.size, 0, none⟩) 1 [c] :=
  rdE_new w (celC c).toArray 46 (by simp [flatE]; rfl)
end Go.Proofs.YtfemlaombdeebaaDoor
