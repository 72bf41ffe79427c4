/-
  What comes in to layer 15's laws: acts, rows of keys.
-/
import Derived.Test.YtmnabdojlekjcaaEltP
import Derived.Test.YtmnabdojlekjcaaIntE
import Derived.Test.YtmnabdojlekjcaaTypA
namespace Go.Proofs.Ytmnabdojlekjcaa
open Go.RowKit Go.ChangeShapes Go.WideShapes Go.ChangeAt Go.Deep
set_option linter.unusedVariables false
set_option linter.unusedSimpArgs false
set_option maxRecDepth 100000

theorem bool_of_trod {H : Type} {enc : TypeId × Value → H} {W : World} (fuel : Nat) (cs : List Value) (x : DataW H × List MemPlace) (h : DataW.trod enc Try.prog W 0 (fun _ => true) true fuel 4 cs = some x) : ∃ a : Bool, cs = [.bool a] := by
  obtain ⟨k, e, _⟩ := DataW.trod_bool Try.underlying4 h
  exact ⟨k, e⟩
theorem split_at {α : Type} (l : List α) (a k : Nat) : l.drop a = (l.drop a).take k ++ l.drop (a + k) := by
  conv => lhs; rw [← List.take_append_drop k (l.drop a)]
  rw [List.drop_drop]
theorem open_keys {H : Type} {enc : TypeId × Value → H} {W : World} {base : Nat} {v : Value} {d : DataW H} {p : List MemPlace} (hv : Value.okWide Try.prog W .any base 35 v) (h : DataW.Trod enc Try.prog W 0 (fun _ => true) true 35 v d p) :
    ∃ (A : Option Addr) (n c : Nat) (l : List Int), v = .slice A n c ∧ RdE IntE W W.heap.size A n l ∧ n ≤ c ∧ c ≤ maxLen ∧ ∀ k, k < n → (Lit.int .i64 (l.getD k 0)).wf = true :=
  open_elts IntE (fun a => (Lit.int .i64 a).wf = true) (by kernel_rfl) hv h (fun fuel cs x h => int_of_trod fuel cs x h)
structure Act15 where
  Do : Int
  Key : Int
  Nth : Bool
  Is : Bool
def Act15.C (a : Act15) : List Value := [.int .i64 a.Do] ++ ([.int .i64 a.Key] ++ ([.bool a.Nth] ++ ([.bool a.Is])))
def Act15.V (a : Act15) : Value := .agg a.C.toArray
theorem Act15.C_len (a : Act15) : a.C.length = 4 := by simp [Act15.C]
theorem Act15.C_one (a : Act15) : ∀ v ∈ a.C, v.oneCell' = true := by
  intro v hv
  simp only [Act15.C, List.mem_append, List.mem_singleton] at hv
  rcases hv with rfl | rfl | rfl | rfl
  · rfl
  · rfl
  · rfl
  · rfl
def Act15.zero : Act15 := ⟨0, 0, false, false⟩
def Act15E : Elt Act15 where
  s := 22
  t := 33
  n := 4
  by_ := 24
  cel := Act15.C
  d := Act15.zero
  z := Act15.zero.V
  pos := by omega
  small := by omega
  len := Act15.C_len
  one := Act15.C_one
  und := Try.underlying22
  info := by kernel_rfl
  zc := by show (Value.cells (.agg _)).size = 4; simp [Value.cells, Act15.C_len]
/-- Its slices read as lists; its numbers are Go's. -/
def Act15.In (W : World) (a : Act15) : Prop := (-9223372036854775808 ≤ a.Do ∧ a.Do ≤ 9223372036854775807) ∧ (-9223372036854775808 ≤ a.Key ∧ a.Key ≤ 9223372036854775807)
section
variable {H : Type} {enc : TypeId × Value → H} {W : World} {base : Nat} {v : Value} {d : DataW H} {p : List MemPlace}
theorem Act15.of_trod (fuel : Nat) (cs : List Value) (x : DataW H × List MemPlace) (h : DataW.trod enc Try.prog W 0 (fun _ => true) true fuel 33 cs = some x) : ∃ a : Act15, cs = a.C ∧ a.In W := by
  obtain ⟨xs, m, _, _, hlen, hxl, hf⟩ := DataW.trod_struct Try.underlying33 h
  have h0 : DataW.trod enc Try.prog W 0 (fun _ => true) true m 3 ((cs.drop 0).take (Try.prog.cellsOf 3)) = xs[0]? := hf 0 _ rfl
  have h1 : DataW.trod enc Try.prog W 0 (fun _ => true) true m 3 ((cs.drop 1).take (Try.prog.cellsOf 3)) = xs[1]? := hf 1 _ rfl
  have h2 : DataW.trod enc Try.prog W 0 (fun _ => true) true m 4 ((cs.drop 2).take (Try.prog.cellsOf 4)) = xs[2]? := hf 2 _ rfl
  have h3 : DataW.trod enc Try.prog W 0 (fun _ => true) true m 4 ((cs.drop 3).take (Try.prog.cellsOf 4)) = xs[3]? := hf 3 _ rfl
  have hxl2 : xs.length = 4 := hxl
  have hln : cs.length = 4 := hlen.trans (by kernel_rfl)
  rw [show Try.prog.cellsOf 3 = 1 from by kernel_rfl, List.getElem?_eq_getElem (by omega)] at h0
  rw [show Try.prog.cellsOf 3 = 1 from by kernel_rfl, List.getElem?_eq_getElem (by omega)] at h1
  rw [show Try.prog.cellsOf 4 = 1 from by kernel_rfl, List.getElem?_eq_getElem (by omega)] at h2
  rw [show Try.prog.cellsOf 4 = 1 from by kernel_rfl, List.getElem?_eq_getElem (by omega)] at h3
  obtain ⟨a0, e0, w0⟩ := int_of_trod _ _ _ h0
  have b0 := bounds_i64 w0
  obtain ⟨a1, e1, w1⟩ := int_of_trod _ _ _ h1
  have b1 := bounds_i64 w1
  obtain ⟨a2, e2⟩ := bool_of_trod _ _ _ h2
  obtain ⟨a3, e3⟩ := bool_of_trod _ _ _ h3
  refine ⟨⟨a0, a1, a2, a3⟩, ?_, ⟨b0, b1⟩⟩
  have q3 : cs.drop 3 = [.bool a3] := by rw [← List.take_of_length_le (l := cs.drop 3) (i := 1) (by rw [List.length_drop]; omega)]; exact e3
  have q2 : cs.drop 2 = [.bool a2] ++ ([.bool a3]) := by rw [split_at cs 2 1, e2, show 2 + 1 = 3 from rfl, q3]
  have q1 : cs.drop 1 = [.int .i64 a1] ++ ([.bool a2] ++ ([.bool a3])) := by rw [split_at cs 1 1, e1, show 1 + 1 = 2 from rfl, q2]
  have q0 : cs.drop 0 = [.int .i64 a0] ++ ([.int .i64 a1] ++ ([.bool a2] ++ ([.bool a3]))) := by rw [split_at cs 0 1, e0, show 0 + 1 = 1 from rfl, q1]
  exact q0
theorem open_acts15 (hv : Value.okWide Try.prog W .any base 22 v) (h : DataW.Trod enc Try.prog W 0 (fun _ => true) true 22 v d p) :
    ∃ (A : Option Addr) (n c : Nat) (l : List Act15), v = .slice A n c ∧ RdE Act15E W W.heap.size A n l ∧ n ≤ c ∧ c ≤ maxLen ∧ ∀ k, k < n → (l.getD k Act15.zero).In W :=
  open_elts Act15E (Act15.In W) (by kernel_rfl) hv h (fun fuel cs x h => Act15.of_trod fuel cs x h)
theorem open_Act15 (hv : Value.okWide Try.prog W .any base 33 v) (h : DataW.Trod enc Try.prog W 0 (fun _ => true) true 33 v d p) : ∃ a : Act15, v = a.V ∧ a.In W := by
  obtain ⟨cs, rfl, hsz⟩ := okWide_struct Try.underlying33 hv
  obtain ⟨fuel, hf⟩ := h
  obtain ⟨a, ha, hp⟩ := Act15.of_trod _ _ _ hf
  refine ⟨a, ?_, hp⟩
  unfold Act15.V
  rw [← ha]
  simp [Value.cells]
end
theorem Act15.size : (Try.prog.info? 33).map (·.size) = some 4 := by kernel_rfl
theorem Act15.zinfo : (Try.prog.info? 33).map (fun i => i.zero) = some (some Act15.zero.V) := by kernel_rfl
section
variable {ρ : Operand → Value} {o : Oper} {x y : Operand} {w : World} {b off : Nat} {a c : Act15}
theorem exec_loadAct15 (ho : o.op = .load 33 x) (hx : ρ x = .pointer (some ⟨b, off, none⟩)) (hc : w.rangeAt b off a.C) : (execOp ρ o).run Try.prog w = .ok (.value a.V) w := exec_loadT Try.underlying33 rfl (by rw [Act15.C_len]; exact Act15.size) ho hx hc
theorem exec_boxAct15 (ho : o.op = .box 33 x) (hx : ρ x = a.V) : (execOp ρ o).run Try.prog w = .ok (.value (.pointer (some ⟨w.heap.size, 0, none⟩))) (w.alloc (.cells a.C.toArray 33)) := exec_boxT ho hx
theorem exec_allocAct15 (ho : o.op = .alloc 33) : (execOp ρ o).run Try.prog w = .ok (.value (.pointer (some ⟨w.heap.size, 0, none⟩))) (w.alloc (.cells Act15.zero.C.toArray 33)) := exec_allocT Act15.zinfo ho
theorem exec_fillAct15 (ho : o.op = .store 33 x y) (hx : ρ x = .pointer (some ⟨w.heap.size, 0, none⟩)) (hy : ρ y = a.V) : (execOp ρ o).run Try.prog (w.alloc (.cells c.C.toArray 33)) = .ok .skip (w.alloc (.cells a.C.toArray 33)) := exec_filT (by rw [Act15.C_len]; exact Act15.size) (by rw [Act15.C_len, Act15.C_len]) (Act15.C_one a) ho hx hy
end
section
variable {w w' : World} {b : Nat} {a : Act15}
theorem faAct150 : (Instr.fieldAt 33 (.pointer (some ⟨b, 0, none⟩)) 0).run Try.prog w = .ok (.pointer (some ⟨b, 0, none⟩)) w := by kernel_rfl
theorem faAct151 : (Instr.fieldAt 33 (.pointer (some ⟨b, 0, none⟩)) 1).run Try.prog w = .ok (.pointer (some ⟨b, 1, none⟩)) w := by kernel_rfl
theorem faAct152 : (Instr.fieldAt 33 (.pointer (some ⟨b, 0, none⟩)) 2).run Try.prog w = .ok (.pointer (some ⟨b, 2, none⟩)) w := by kernel_rfl
theorem faAct153 : (Instr.fieldAt 33 (.pointer (some ⟨b, 0, none⟩)) 3).run Try.prog w = .ok (.pointer (some ⟨b, 3, none⟩)) w := by kernel_rfl
/-- Block b holds one. -/
def Act15.At_ (w : World) (b : Nat) (a : Act15) : Prop := w.heap[b]? = some (.cells a.C.toArray 33 (0, 0))
theorem Act15.At_.range (h : Act15.At_ w b a) : w.rangeAt b 0 a.C := rng_at h
theorem Act15.At_.below {B : Nat} (h : Act15.At_ w b a) (hB : b < B) (hb : Below B w w') : Act15.At_ w' b a := blk_keep2 h hB hb
theorem Act15.At_.past (h : Act15.At_ w b a) (o : Obj) : Act15.At_ (w.alloc o) b a := blk_past h o
theorem Act15.At_.new (w : World) (a : Act15) : Act15.At_ (w.alloc (.cells a.C.toArray 33)) w.heap.size a := heap_alloc_new w _
theorem Act15.At_.f0 (h : Act15.At_ w b a) : w.cell? ⟨b, 0, none⟩ = some (.int .i64 a.Do) := by
  have := h.range 0 (.int .i64 a.Do) (by
    show a.C[0]? = _
    rw [show 0 = 0 + 0 from rfl, ← List.getElem?_drop]
    rw [show a.C.drop 0 = [.int .i64 a.Do] ++ ([.int .i64 a.Key] ++ ([.bool a.Nth] ++ ([.bool a.Is]))) from ?_]
    · rfl
    · rfl)
  rwa [Nat.zero_add] at this
theorem Act15.At_.f1 (h : Act15.At_ w b a) : w.cell? ⟨b, 1, none⟩ = some (.int .i64 a.Key) := by
  have := h.range 1 (.int .i64 a.Key) (by
    show a.C[1]? = _
    rw [show 1 = 1 + 0 from rfl, ← List.getElem?_drop]
    rw [show a.C.drop 1 = [.int .i64 a.Key] ++ ([.bool a.Nth] ++ ([.bool a.Is])) from ?_]
    · rfl
    · rfl)
  rwa [Nat.zero_add] at this
theorem Act15.At_.f2 (h : Act15.At_ w b a) : w.cell? ⟨b, 2, none⟩ = some (.bool a.Nth) := by
  have := h.range 2 (.bool a.Nth) (by
    show a.C[2]? = _
    rw [show 2 = 2 + 0 from rfl, ← List.getElem?_drop]
    rw [show a.C.drop 2 = [.bool a.Nth] ++ ([.bool a.Is]) from ?_]
    · rfl
    · rfl)
  rwa [Nat.zero_add] at this
theorem Act15.At_.f3 (h : Act15.At_ w b a) : w.cell? ⟨b, 3, none⟩ = some (.bool a.Is) := by
  have := h.range 3 (.bool a.Is) (by
    show a.C[3]? = _
    rw [show 3 = 3 + 0 from rfl, ← List.getElem?_drop]
    rw [show a.C.drop 3 = [.bool a.Is] from ?_]
    · rfl
    · rfl)
  rwa [Nat.zero_add] at this
end
end Go.Proofs.Ytmnabdojlekjcaa
