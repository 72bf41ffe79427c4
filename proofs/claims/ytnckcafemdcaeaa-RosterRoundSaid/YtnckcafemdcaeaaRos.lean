/-
  Rosters, geometries and arrays of 16 states by value: their cells; how they are read, laid, boxed, compared; in memory.
-/
import Derived.Test.YtnckcafemdcaeaaRosM
import Derived.Test.YtnckcafemdcaeaaTypA
namespace Go.Proofs.Ytnckcafemdcaeaa
open Go.RowKit
set_option linter.unusedVariables false
set_option maxRecDepth 100000

def celG (x : Ros) : List Value := [.int .i64 x.m, .int .i64 x.s, .int .i64 x.r]
def celR (x : Ros) : List Value := .int .i64 x.m :: .int .i64 x.s :: .int .i64 x.r :: (vals x.st.toList ++ [.int .i64 x.cur, .bool x.gone])
def ros (x : Ros) : Value := .agg (celR x).toArray
def geo (x : Ros) : Value := .agg (celG x).toArray
theorem celR_length (x : Ros) : (celR x).length = 21 := by simp [celR, vals_length]
theorem celR_one (x : Ros) : ∀ v ∈ celR x, v.oneCell' = true := by
  intro v hv
  simp only [celR, List.mem_cons, List.mem_append, List.not_mem_nil, or_false] at hv
  rcases hv with rfl | rfl | rfl | hv | rfl | rfl
  · rfl
  · rfl
  · rfl
  · exact vals_one _ v hv
  · rfl
  · rfl
theorem sizeR : (Try.prog.info? 26).map (·.size) = some 21 := by kernel_rfl
theorem sizeG : (Try.prog.info? 23).map (·.size) = some 3 := by kernel_rfl
theorem size16 : (Try.prog.info? 24).map (·.size) = some 16 := by kernel_rfl
theorem zeroR_info : (Try.prog.info? 26).map (fun i => i.zero) = some (some (ros zeroR)) := by kernel_rfl
theorem zero16_info : (Try.prog.info? 24).map (fun i => i.zero) = some (some (arr (List.replicate 16 0))) := by kernel_rfl
/-! ### The same, type by type -/
section
variable {ρ : Operand → Value} {o : Oper} {x y : Operand} {w : World} {b off : Nat}
theorem exec_loadR {c : Ros} (ho : o.op = .load 26 x) (hx : ρ x = .pointer (some ⟨b, off, none⟩)) (hc : w.rangeAt b off (celR c)) : (execOp ρ o).run Try.prog w = .ok (.value (ros c)) w :=
  exec_loadT Try.underlying26 rfl (by rw [celR_length]; exact sizeR) ho hx hc
theorem exec_loadG {c : Ros} (ho : o.op = .load 23 x) (hx : ρ x = .pointer (some ⟨b, off, none⟩)) (hc : w.rangeAt b off (celG c)) : (execOp ρ o).run Try.prog w = .ok (.value (geo c)) w :=
  exec_loadT Try.underlying23 rfl sizeG ho hx hc
theorem exec_load16 {l : List UInt8} (hl : l.length = 16) (ho : o.op = .load 24 x) (hx : ρ x = .pointer (some ⟨b, off, none⟩)) (hc : w.rangeAt b off (vals l)) : (execOp ρ o).run Try.prog w = .ok (.value (arr l)) w :=
  exec_loadT Try.underlying24 rfl (by rw [vals_length, hl]; exact size16) ho hx hc
theorem exec_boxR {c : Ros} (ho : o.op = .box 26 x) (hx : ρ x = ros c) : (execOp ρ o).run Try.prog w = .ok (.value (.pointer (some ⟨w.heap.size, 0, none⟩))) (w.alloc (.cells (celR c).toArray 26)) := exec_boxT ho hx
theorem exec_allocR (ho : o.op = .alloc 26) : (execOp ρ o).run Try.prog w = .ok (.value (.pointer (some ⟨w.heap.size, 0, none⟩))) (w.alloc (.cells (celR zeroR).toArray 26)) := exec_allocT zeroR_info ho
theorem exec_alloc16 (ho : o.op = .alloc 24) : (execOp ρ o).run Try.prog w = .ok (.value (.pointer (some ⟨w.heap.size, 0, none⟩))) (w.alloc (.cells (vals (List.replicate 16 0)).toArray 24)) := exec_allocT zero16_info ho
theorem exec_fillR {c d : Ros} (ho : o.op = .store 26 x y) (hx : ρ x = .pointer (some ⟨w.heap.size, 0, none⟩)) (hy : ρ y = ros c) : (execOp ρ o).run Try.prog (w.alloc (.cells (celR d).toArray 26)) = .ok .skip (w.alloc (.cells (celR c).toArray 26)) :=
  exec_filT (by rw [celR_length]; exact sizeR) (by rw [celR_length, celR_length]) (celR_one c) ho hx hy
theorem exec_putG {c : Ros} (ho : o.op = .store 23 x y) (hx : ρ x = .pointer (some ⟨b, off, none⟩)) (hy : ρ y = geo c) (ht : w.there b off 3) : (execOp ρ o).run Try.prog w = .ok .skip (w.setCells b off (celG c)) :=
  exec_putT sizeG (by intro v hv; simp only [celG, List.mem_cons, List.not_mem_nil, or_false] at hv; rcases hv with rfl | rfl | rfl <;> rfl) ho hx hy ht
end
/-! ### Comparing -/
theorem run_eqG (w : World) (a b : Ros) (d : Nat) : (Op.equalIn (d + 2) 23 (geo a) (geo b)).run Try.prog w = .ok (decide (a.m = b.m ∧ a.s = b.s ∧ a.r = b.r)) w := by
  have he : ∀ x y : Int, (Op.equalIn (d + 1) 3 (.int .i64 x) (.int .i64 y)).run Try.prog w = .ok (x == y) w := fun x y => run_equalIn_int w d 3 .i64 .i64 x y Try.underlying3
  unfold geo
  rw [show d + 2 = (d + 1) + 1 from rfl, run_equalIn_struct w (d + 1) 23 _ _ (by kernel_rfl) (by kernel_rfl)]
  simp only [Program.fieldsOf, Try.underlying23, Op.eqFields, celG]
  simp [part, he]
  by_cases h1 : a.m = b.m <;> by_cases h2 : a.s = b.s <;> by_cases h3 : a.r = b.r <;> simp [h1, h2, h3]
theorem celR_eq (x : Ros) : celR x = celG x ++ (vals x.st.toList ++ [.int .i64 x.cur, .bool x.gone]) := rfl
theorem partR_0 (w : World) (x : Ros) : (part 23 (celR x).toArray 0).run Try.prog w = .ok (geo x) w := by
  simp [part, geo, celR, celG]
theorem partR_1 (w : World) (x : Ros) : (part 24 (celR x).toArray 3).run Try.prog w = .ok (arr x.st.toList) w := by
  have h : ((celR x).drop 3).take 16 = vals x.st.toList := by
    show (vals x.st.toList ++ [Value.int .i64 x.cur, Value.bool x.gone]).take 16 = _
    rw [List.take_append_of_le_length (by simp [vals_length]), List.take_of_length_le (by simp [vals_length])]
  simp [part, arr, h]
theorem partR_2 (w : World) (x : Ros) : (part 3 (celR x).toArray 19).run Try.prog w = .ok (.int .i64 x.cur) w := by
  have h : (celR x)[19]? = some (.int .i64 x.cur) := by
    show (vals x.st.toList ++ [Value.int .i64 x.cur, Value.bool x.gone])[16]? = _
    rw [List.getElem?_append_right (by simp [vals_length])]
    simp [vals_length]
  simp [part, h]
theorem partR_3 (w : World) (x : Ros) : (part 4 (celR x).toArray 20).run Try.prog w = .ok (.bool x.gone) w := by
  have h : (celR x)[20]? = some (.bool x.gone) := by
    show (vals x.st.toList ++ [Value.int .i64 x.cur, Value.bool x.gone])[17]? = _
    rw [List.getElem?_append_right (by simp [vals_length])]
    simp [vals_length]
  simp [part, h]
theorem run_eqR (w : World) (a b : Ros) (d : Nat) : (Op.equalIn (d + 3) 26 (ros a) (ros b)).run Try.prog w = .ok (decide (a = b)) w := by
  have he := run_equalIn_int (P := Try.prog) w (d + 1) 3 .i64 .i64 a.cur b.cur Try.underlying3
  have hb := run_equalIn_bool' (P := Try.prog) w (d + 1) 4 a.gone b.gone Try.underlying4
  have ha := run_eqArr Try.underlying24 w a.st.toList b.st.toList (by simp) (by simp) d
  have hg := run_eqG w a b d
  unfold ros
  rw [show d + 3 = (d + 2) + 1 from rfl, run_equalIn_struct w (d + 2) 26 _ _ (by kernel_rfl) (by kernel_rfl)]
  simp only [Program.fieldsOf, Try.underlying26]
  rw [eqF_step ?_ (partR_0 w a) (partR_0 w b) hg]
  rotate_left
  · simp
  rw [eqF_step ?_ (partR_1 w a) (partR_1 w b) ha]
  rotate_left
  · simp
  rw [eqF_step ?_ (partR_2 w a) (partR_2 w b) he]
  rotate_left
  · simp
  rw [eqF_step ?_ (partR_3 w a) (partR_3 w b) hb]
  rotate_left
  · simp
  rw [eqF_nil]
  clear he hb ha hg
  by_cases k1 : a.m = b.m ∧ a.s = b.s ∧ a.r = b.r
  · by_cases k2 : a.st.toList = b.st.toList
    · by_cases k3 : a.cur = b.cur
      · by_cases k4 : a.gone = b.gone
        · rw [decide_eq_true k1, decide_eq_true k2, decide_eq_true (ros_ext k1 k2 k3 k4), k3, k4]
          simp
        · rw [decide_eq_true k1, decide_eq_true k2, decide_eq_false (fun e : a = b => k4 (by rw [e])), k3, beq_eq_false_iff_ne.2 k4]
          simp
      · rw [decide_eq_true k1, decide_eq_true k2, decide_eq_false (fun e : a = b => k3 (by rw [e])), beq_eq_false_iff_ne.2 k3]
        simp
    · rw [decide_eq_true k1, decide_eq_false k2, decide_eq_false (fun e : a = b => k2 (by rw [e]))]
      simp
  · rw [decide_eq_false k1, decide_eq_false (fun e : a = b => k1 (by rw [e]; exact ⟨rfl, rfl, rfl⟩))]
    simp
section
variable {ρ : Operand → Value} {o : Oper} {x y : Operand} {w : World} {t : TypeId}
theorem guardR : Try.prog.eqGuardType Try.prog.depth 26 = false := by kernel_rfl
theorem guard16 : Try.prog.eqGuardType Try.prog.depth 24 = false := by kernel_rfl
theorem exec_eqR {a b : Ros} (c : Bool) (ho : o.op = .binOp .eql 26 x y t) (hx : ρ x = ros a) (hy : ρ y = ros b) (h : decide (a = b) = c) : (execOp ρ o).run Try.prog w = .ok (.value (.bool c)) w := by
  subst h; exact exec_eqT guardR (run_eqR w a b 9997) ho hx hy
theorem exec_eq16 {a b : List UInt8} (c : Bool) (ha : a.length = 16) (hb : b.length = 16) (ho : o.op = .binOp .eql 24 x y t) (hx : ρ x = arr a) (hy : ρ y = arr b) (h : decide (a = b) = c) : (execOp ρ o).run Try.prog w = .ok (.value (.bool c)) w := by
  subst h; exact exec_eqT guard16 (run_eqArr Try.underlying24 w a b ha hb 9998) ho hx hy
/-- An array's element by value. -/
theorem exec_ix16 {l : List UInt8} {j : Nat} (hl : l.length = 16) (hj : j < 16) (ho : o.op = .index 24 x y) (hx : ρ x = arr l) (hy : ρ y = .int .i64 (j : Int)) : (execOp ρ o).run Try.prog w = .ok (.value (.int .u8 (bt l j))) w := by
  have hp : (part 5 (vals l).toArray (j * 1)).run Try.prog w = .ok (.int .u8 (bt l j)) w := by
    have := vals_at (l := l) (j := j) (by omega)
    simp [part, this]
  have h : (Instr.index 24 (arr l) (.int .i64 (j : Int))).run Try.prog w = .ok (.int .u8 (bt l j)) w := by
    have e : (0 ≤ (j : Int) ∧ (j : Int) < 16) := by omega
    unfold arr
    simp [Instr.index, asIntOf, run_underlying Try.underlying24, Try.sizeOf5, hj]
    simpa using hp
  unfold execOp
  simp only [ho, hx, hy, Sem.run_bind, h, Result.andThen_ok, Sem.run_pure]
end
/-! ### In memory -/
/-- Block b holds a roster; a superblock. -/
def RosAt (w : World) (b : Nat) (x : Ros) : Prop := w.heap[b]? = some (.cells (celR x).toArray 26 (0, 0))
section
variable {w w' : World} {b : Nat} {x : Ros}
theorem RosAt.range (h : RosAt w b x) : w.rangeAt b 0 (celR x) := rng_at h
theorem RosAt.geo (h : RosAt w b x) : w.rangeAt b 0 (celG x) := rng_sub (cs := celR x) (ds := []) (k := 0) h.range rfl rfl
theorem RosAt.sts (h : RosAt w b x) : w.rangeAt b 3 (vals x.st.toList) := by
  have := rng_sub (k := 3) h.range (celR_eq x) rfl
  rwa [Nat.zero_add] at this
theorem RosAt.cells (h : RosAt w b x) : w.cell? ⟨b, 0, none⟩ = some (.int .i64 x.m) ∧ w.cell? ⟨b, 1, none⟩ = some (.int .i64 x.s) ∧ w.cell? ⟨b, 2, none⟩ = some (.int .i64 x.r) ∧ w.cell? ⟨b, 19, none⟩ = some (.int .i64 x.cur) ∧ w.cell? ⟨b, 20, none⟩ = some (.bool x.gone) := by
  have hr := rng_sub (k := 19) (ds := celG x ++ vals x.st.toList) (es := [.int .i64 x.cur, .bool x.gone]) (fs := []) h.range (by simp [celR_eq]) (by simp [celG, vals_length])
  exact ⟨h.range 0 _ rfl, h.range 1 _ rfl, h.range 2 _ rfl, hr 0 _ rfl, hr 1 _ rfl⟩
theorem RosAt.sta (h : RosAt w b x) {j : Nat} (hj : j < 16) : w.cell? ⟨b, 3 + j, none⟩ = some (.int .u8 (sta x j)) := h.sts j _ (vals_at (by simpa using hj))
theorem RosAt.below {B : Nat} (h : RosAt w b x) (hB : b < B) (hb : Below B w w') : RosAt w' b x := blk_keep2 h hB hb
theorem RosAt.new (w : World) (x : Ros) : RosAt (w.alloc (.cells (celR x).toArray 26)) w.heap.size x := heap_alloc_new w _
theorem RosAt.past (h : RosAt w b x) (o : Obj) : RosAt (w.alloc o) b x := blk_past h o
theorem RosAt.rd (h : RosAt w b x) {m : Nat} (hm : m ≤ 16) : Rd w w.heap.size (some ⟨b, 3, none⟩) m (x.st.toList.take m) :=
  ⟨by simp; omega, fun k hk => ⟨b, 3, rfl, blk_lt h, by
    rw [h.sta (j := k) (by omega)]
    unfold Proofs.Ytnckcafemdcaeaa.sta bt
    simp [List.getD, List.getElem?_take_of_lt hk]⟩⟩
end
theorem boxR_new (w : World) (x : Ros) : RosAt (w.alloc (.cells (celR x).toArray 26)) w.heap.size x ∧ Below w.heap.size w (w.alloc (.cells (celR x).toArray 26)) ∧ w.heap.size < (w.alloc (.cells (celR x).toArray 26)).heap.size :=
  ⟨RosAt.new w x, (Below.refl w.heap.size w).alloc (Nat.le_refl _) _, by simp only [World.size_alloc]; omega⟩
section
variable {w : World} {b off : Nat}
theorem faR0 : (Instr.fieldAt 26 (.pointer (some ⟨b, 0, none⟩)) 0).run Try.prog w = .ok (.pointer (some ⟨b, 0, none⟩)) w := by kernel_rfl
theorem faR1 : (Instr.fieldAt 26 (.pointer (some ⟨b, 0, none⟩)) 1).run Try.prog w = .ok (.pointer (some ⟨b, 3, none⟩)) w := by kernel_rfl
theorem faG0 : (Instr.fieldAt 23 (.pointer (some ⟨b, 0, none⟩)) 0).run Try.prog w = .ok (.pointer (some ⟨b, 0, none⟩)) w := by kernel_rfl
theorem ix16 {g off j : Nat} (hj : j < 16) : (Instr.indexAt 24 (.pointer (some ⟨g, off, none⟩)) (.int .i64 (j : Int))).run Try.prog w = .ok (.pointer (some ⟨g, off + j, none⟩)) w := by
  have e : (0 ≤ (j : Int) ∧ (j : Int) < 16) := by omega
  simp [Instr.indexAt, Instr.sureAddr, asIntOf, run_underlying Try.underlying24, Try.sizeOf5, Addr.add_mid, e, hj]
theorem faR2 {b : Nat} : (Instr.fieldAt 26 (.pointer (some ⟨b, 0, none⟩)) 2).run Try.prog w = .ok (.pointer (some ⟨b, 19, none⟩)) w := by kernel_rfl
theorem faG1 {b : Nat} : (Instr.fieldAt 23 (.pointer (some ⟨b, 0, none⟩)) 1).run Try.prog w = .ok (.pointer (some ⟨b, 1, none⟩)) w := by kernel_rfl
end
end Go.Proofs.Ytnckcafemdcaeaa
