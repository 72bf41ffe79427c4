/-
  A function that holds a roster of its own, and answers one: its two blocks, what stores do to them; results; a list's part taken out.
-/
import Derived.Test.YtnckcafemdcaeaaRoM
import Derived.Test.YtnckcafemdcaeaaRos
import Derived.Test.YtnckcafemdcaeaaEltOps
namespace Go.Proofs.Ytnckcafemdcaeaa
open Go.RowKit
set_option linter.unusedVariables false
set_option maxRecDepth 100000

section
variable {ρ : Operand → Value} {o : Oper} {x y : Operand} {w : World} {i : Nat} {v : Value} {vs : List Value}
theorem exec_ext (ho : o.op = .extract x i) (hx : ρ x = .tuple vs.toArray) (hv : vs[i]? = some v) : (execOp ρ o).run Try.prog w = .ok (.value v) w := by
  have h : (Instr.extract (.tuple vs.toArray) i).run Try.prog w = .ok v w := by simp [Instr.extract, hv]
  unfold execOp
  simp only [ho, hx, Sem.run_bind, h, Result.andThen_ok, Sem.run_pure]
end
/-! ### Cells, rows -/
/-- One cell set. -/
def setW (w : World) (b o : Nat) (v : Value) : World := w.setCell ⟨b, o, none⟩ v
/-- A roster laid into a block. -/
def putW (w : World) (b : Nat) (x : Ros) : World := w.setCells b 0 (celR x)
section
variable {w w0 : World} {b k o : Nat} {v : Value} {x y : Ros}
theorem setW_size : (setW w b o v).heap.size = w.heap.size := by simp [setW, World.setCell]
theorem setW_below {B : Nat} (h : Below B w0 w) (hb : B ≤ b) : Below B w0 (setW w b o v) := below_setCells h hb [v]
theorem setW_off (hne : k ≠ b) : (setW w b o v).heap[k]? = w.heap[k]? := heap_setCell_other w ⟨b, o, none⟩ k v hne
theorem putW_size : (putW w b x).heap.size = w.heap.size := (heap_setCells b _ 0 w).1
theorem putW_below {B : Nat} (h : Below B w0 w) (hb : B ≤ b) : Below B w0 (putW w b x) := below_setCells h hb _
theorem putW_off (hne : k ≠ b) : (putW w b x).heap[k]? = w.heap[k]? := blk_setCells b _ 0 w k hne
theorem putW_at (h : RosAt w b y) : RosAt (putW w b x) b x := by
  have h' : w.heap[b]? = some (.cells ([] ++ celR y ++ []).toArray 26 (0, 0)) := by rw [List.nil_append, List.append_nil]; exact h
  have := heap_put b 26 [] (celR x) (celR y) [] w (by rw [celR_length, celR_length]) h'
  rw [List.nil_append, List.append_nil] at this
  exact this
theorem celR_set (x : Ros) {j : Nat} (hj : j < 16) (u : UInt8) : (celR x).set (3 + j) (.int .u8 (u.toNat : Int)) = celR (setS x j u) := by
  rw [celR_eq x, celR_eq (setS x j u), setS_list]
  have e1 : celG (setS x j u) = celG x := rfl
  rw [e1, List.set_append_right _ _ (by simp [celG]), show 3 + j - (celG x).length = j from by simp [celG], List.set_append_left _ _ (by rw [vals_length]; simp; omega)]
  unfold vals
  rw [List.map_set]
  rfl
theorem celR_cur (x : Ros) (c : Int) : (celR x).set 19 (.int .i64 c) = celR (curS x c) := by
  rw [celR_eq x, celR_eq (curS x c)]
  have e1 : celG (curS x c) = celG x := rfl
  rw [e1, List.set_append_right _ _ (by simp [celG]), show 19 - (celG x).length = 16 from rfl, List.set_append_right _ _ (by rw [vals_length]; simp), show 16 - (vals x.st.toList).length = 0 from by rw [vals_length]; simp]
  rfl
theorem celR_gone (x : Ros) (g : Bool) : (celR x).set 20 (.bool g) = celR (gonS x g) := by
  rw [celR_eq x, celR_eq (gonS x g)]
  have e1 : celG (gonS x g) = celG x := rfl
  rw [e1, List.set_append_right _ _ (by simp [celG]), show 20 - (celG x).length = 17 from rfl, List.set_append_right _ _ (by rw [vals_length]; simp), show 17 - (vals x.st.toList).length = 1 from by rw [vals_length]; simp]
  rfl
theorem RosAt.setW (h : RosAt w b x) (hy : (celR x).set o v = celR y) : RosAt (setW w b o v) b y := by
  have := heap_setCell_same w b o _ 26 v h
  rw [List.setIfInBounds_toArray, hy] at this
  exact this
theorem RosAt.there (h : RosAt w b x) {o n : Nat} (hn : o + n ≤ 21) : w.there b o n := there_at h (by rw [celR_length]; exact hn)
end
section
variable {ρ : Operand → Value} {o : Oper} {x y : Operand} {w : World} {b off : Nat} {c d : Ros}
theorem exec_putR (ho : o.op = .store 26 x y) (hx : ρ x = .pointer (some ⟨b, 0, none⟩)) (hy : ρ y = ros c) (h : RosAt w b d) : (execOp ρ o).run Try.prog w = .ok .skip (putW w b c) :=
  exec_putT (by rw [celR_length]; exact sizeR) (celR_one c) ho hx hy (by rw [celR_length]; exact h.there (by omega))
theorem there1 (h : w.there b off 1) : ∃ v, w.cell? ⟨b, off, none⟩ = some v ∧ w.frozen? ⟨b, off, none⟩ = false := by
  have := h 0 (by omega)
  rw [Nat.add_zero] at this
  obtain ⟨h1, h2⟩ := this
  obtain ⟨v, hv⟩ := Option.isSome_iff_exists.1 h1
  exact ⟨v, hv, h2⟩
theorem exec_stS {u : Int} (ho : o.op = .store 5 x y) (hx : ρ x = .pointer (some ⟨b, off, none⟩)) (hy : ρ y = .int .u8 u) (h : w.there b off 1) : (execOp ρ o).run Try.prog w = .ok .skip (setW w b off (.int .u8 u)) := by
  obtain ⟨v, hc, hf⟩ := there1 h
  exact exec_st ho hx hy (by simp [go_sem, hc, hf, setW])
theorem exec_stI {u : Int} (ho : o.op = .store 3 x y) (hx : ρ x = .pointer (some ⟨b, off, none⟩)) (hy : ρ y = .int .i64 u) (h : w.there b off 1) : (execOp ρ o).run Try.prog w = .ok .skip (setW w b off (.int .i64 u)) := by
  obtain ⟨v, hc, hf⟩ := there1 h
  exact exec_st ho hx hy (by simp [go_sem, hc, hf, setW])
theorem exec_stG {u : Bool} (ho : o.op = .store 4 x y) (hx : ρ x = .pointer (some ⟨b, off, none⟩)) (hy : ρ y = .bool u) (h : w.there b off 1) : (execOp ρ o).run Try.prog w = .ok .skip (setW w b off (.bool u)) := by
  obtain ⟨v, hc, hf⟩ := there1 h
  exact exec_st ho hx hy (by simp [go_sem, hc, hf, setW])
theorem exec_ldR (ho : o.op = .load 26 x) (hx : ρ x = .pointer (some ⟨b, 0, none⟩)) (h : RosAt w b c) : (execOp ρ o).run Try.prog w = .ok (.value (ros c)) w := exec_loadR ho hx h.range
theorem run_bldR0 (w : World) : (Instr.build 26 #[]).run Try.prog w = .ok (ros zeroR) w := by kernel_rfl
theorem exec_bldR0 (ho : o.op = .build 26 #[]) : (execOp ρ o).run Try.prog w = .ok (.value (ros zeroR)) w := exec_bld0 ho (run_bldR0 w)
theorem ldBo {ad : Addr} {n : Bool} (h : w.cell? ad = some (.bool n)) : (Instr.loadAt 4 (.pointer (some ad))).run Try.prog w = .ok (.bool n) w := by simp [go_sem, h]
theorem faR3 {b : Nat} : (Instr.fieldAt 26 (.pointer (some ⟨b, 0, none⟩)) 3).run Try.prog w = .ok (.pointer (some ⟨b, 20, none⟩)) w := by kernel_rfl
theorem res_rt {fn : Func} {p u : Tmp} (h : fn.results = #[.cell p 26, .tmp u]) (tmps : Array Value) (w : World) (b : Nat) (hp : tmps.getD p undef = .pointer (some ⟨b, 0, none⟩)) (hc : RosAt w b c) :
    (results fn tmps).run Try.prog w = .ok (.tuple #[ros c, tmps.getD u undef]) w := by
  have hl : (loadVar 26 ⟨b, 0, none⟩).run Try.prog w = .ok (ros c) w := run_loadVar_mid w b 0 26 (celR c) _ hc.range Try.underlying26 rfl (by rw [celR_length]; exact sizeR)
  have hp' : tmps[p]?.getD undef = .pointer (some ⟨b, 0, none⟩) := by simpa using hp
  simp [results, h, hp', asAddr, hl]
end
/-- A function's own roster in its first block, what it answers in its second one. -/
structure TwoR (w0 w : World) (x y : Ros) : Prop where
  bel : Below w0.heap.size w0 w
  at0 : RosAt w w0.heap.size x
  at1 : RosAt w (w0.heap.size + 1) y
theorem TwoR.new (w : World) (x : Ros) : TwoR w ((w.alloc (.cells (celR x).toArray 26)).alloc (.cells (celR zeroR).toArray 26)) x zeroR := by
  refine ⟨((Below.refl _ w).alloc (Nat.le_refl _) _).alloc (by simp) _, (RosAt.new w x).past _, ?_⟩
  have := RosAt.new (w.alloc (.cells (celR x).toArray 26)) zeroR
  rwa [World.size_alloc] at this
section
variable {w0 w w' : World} {x y z : Ros}
theorem TwoR.sz (h : TwoR w0 w x y) : w0.heap.size + 1 < w.heap.size := blk_lt h.at1
theorem TwoR.call (h : TwoR w0 w x y) (hb : Below w.heap.size w w') : TwoR w0 w' x y :=
  ⟨h.bel.trans (hb.mono h.bel.size), h.at0.below (blk_lt h.at0) hb, h.at1.below (blk_lt h.at1) hb⟩
theorem TwoR.put (h : TwoR w0 w x y) (z : Ros) : TwoR w0 (putW w (w0.heap.size + 1) z) x z :=
  ⟨putW_below h.bel (by omega), (putW_off (by omega)).trans h.at0, putW_at h.at1⟩
theorem TwoR.set (h : TwoR w0 w x y) {o : Nat} {v : Value} (hy : (celR x).set o v = celR z) : TwoR w0 (setW w w0.heap.size o v) z y :=
  ⟨setW_below h.bel (Nat.le_refl _), h.at0.setW hy, (setW_off (by omega)).trans h.at1⟩
end
end Go.Proofs.Ytnckcafemdcaeaa
