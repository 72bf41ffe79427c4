/-
  What comes in to layer 17's laws: acts.
-/
import Derived.Test.YtmhcpiafhbnclaaEltP
import Derived.Test.YtmhcpiafhbnclaaBlkO
import Derived.Test.YtmhcpiafhbnclaaTypA
namespace Go.Proofs.Ytmhcpiafhbnclaa
open Go.RowKit Go.ChangeShapes Go.WideShapes Go.ChangeAt Go.Deep
set_option linter.unusedVariables false
set_option linter.unusedSimpArgs false
set_option maxRecDepth 100000

theorem u64_of_trod {H : Type} {enc : TypeId × Value → H} {W : World} (fuel : Nat) (cs : List Value) (x : DataW H × List MemPlace) (h : DataW.trod enc Try.prog W 0 (fun _ => true) true fuel 34 cs = some x) : ∃ a : Nat, cs = [.int .u64 (a : Int)] ∧ a < 18446744073709551616 := by
  obtain ⟨k, e, _, hw⟩ := DataW.trod_int Try.underlying34 h
  have hr := bounds_u64 hw
  obtain ⟨n, rfl⟩ := Int.eq_ofNat_of_zero_le hr.1
  exact ⟨n, e, by omega⟩
theorem split_at {α : Type} (l : List α) (a k : Nat) : l.drop a = (l.drop a).take k ++ l.drop (a + k) := by
  conv => lhs; rw [← List.take_append_drop k (l.drop a)]
  rw [List.drop_drop]
structure Act17 where
  Do : Int
  Mem : Int
  B : Blk
  Seq : Nat
def Act17.C (a : Act17) : List Value := [.int .i64 a.Do] ++ ([.int .i64 a.Mem] ++ (cel a.B ++ ([.int .u64 (a.Seq : Int)])))
def Act17.V (a : Act17) : Value := .agg a.C.toArray
theorem Act17.C_len (a : Act17) : a.C.length = 67 := by simp [Act17.C, cel_length]
theorem Act17.C_one (a : Act17) : ∀ v ∈ a.C, v.oneCell' = true := by
  intro v hv
  simp only [Act17.C, List.mem_append, List.mem_singleton] at hv
  rcases hv with rfl | rfl | hv | rfl
  · rfl
  · rfl
  · exact cel_one _ v hv
  · rfl
def Act17.zero : Act17 := ⟨0, 0, zeroB, 0⟩
def Act17E : Elt Act17 where
  s := 22
  t := 36
  n := 67
  by_ := 88
  cel := Act17.C
  d := Act17.zero
  z := Act17.zero.V
  pos := by omega
  small := by omega
  len := Act17.C_len
  one := Act17.C_one
  und := Try.underlying22
  info := by kernel_rfl
  zc := by show (Value.cells (.agg _)).size = 67; simp [Value.cells, Act17.C_len]
/-- Its slices read as lists; its numbers are Go's. -/
def Act17.In (W : World) (a : Act17) : Prop := (-9223372036854775808 ≤ a.Do ∧ a.Do ≤ 9223372036854775807) ∧ (-9223372036854775808 ≤ a.Mem ∧ a.Mem ≤ 9223372036854775807) ∧ (a.Seq < 18446744073709551616)
section
variable {H : Type} {enc : TypeId × Value → H} {W : World} {base : Nat} {v : Value} {d : DataW H} {p : List MemPlace}
theorem Act17.of_trod (fuel : Nat) (cs : List Value) (x : DataW H × List MemPlace) (h : DataW.trod enc Try.prog W 0 (fun _ => true) true fuel 36 cs = some x) : ∃ a : Act17, cs = a.C ∧ a.In W := by
  obtain ⟨xs, m, _, _, hlen, hxl, hf⟩ := DataW.trod_struct Try.underlying36 h
  have h0 : DataW.trod enc Try.prog W 0 (fun _ => true) true m 3 ((cs.drop 0).take (Try.prog.cellsOf 3)) = xs[0]? := hf 0 _ rfl
  have h1 : DataW.trod enc Try.prog W 0 (fun _ => true) true m 3 ((cs.drop 1).take (Try.prog.cellsOf 3)) = xs[1]? := hf 1 _ rfl
  have h2 : DataW.trod enc Try.prog W 0 (fun _ => true) true m 33 ((cs.drop 2).take (Try.prog.cellsOf 33)) = xs[2]? := hf 2 _ rfl
  have h3 : DataW.trod enc Try.prog W 0 (fun _ => true) true m 34 ((cs.drop 66).take (Try.prog.cellsOf 34)) = xs[3]? := hf 3 _ rfl
  have hxl2 : xs.length = 4 := hxl
  have hln : cs.length = 67 := hlen.trans (by kernel_rfl)
  rw [show Try.prog.cellsOf 3 = 1 from by kernel_rfl, List.getElem?_eq_getElem (by omega)] at h0
  rw [show Try.prog.cellsOf 3 = 1 from by kernel_rfl, List.getElem?_eq_getElem (by omega)] at h1
  rw [show Try.prog.cellsOf 33 = 64 from by kernel_rfl, List.getElem?_eq_getElem (by omega)] at h2
  rw [show Try.prog.cellsOf 34 = 1 from by kernel_rfl, List.getElem?_eq_getElem (by omega)] at h3
  obtain ⟨a0, e0, w0⟩ := int_of_trod _ _ _ h0
  have b0 := bounds_i64 w0
  obtain ⟨a1, e1, w1⟩ := int_of_trod _ _ _ h1
  have b1 := bounds_i64 w1
  obtain ⟨a2, e2⟩ := cel_of_trod h2
  obtain ⟨a3, e3, b3⟩ := u64_of_trod _ _ _ h3
  refine ⟨⟨a0, a1, a2, a3⟩, ?_, ⟨b0, b1, b3⟩⟩
  have q3 : cs.drop 66 = [.int .u64 (a3 : Int)] := by rw [← List.take_of_length_le (l := cs.drop 66) (i := 1) (by rw [List.length_drop]; omega)]; exact e3
  have q2 : cs.drop 2 = cel a2 ++ ([.int .u64 (a3 : Int)]) := by rw [split_at cs 2 64, e2, show 2 + 64 = 66 from rfl, q3]
  have q1 : cs.drop 1 = [.int .i64 a1] ++ (cel a2 ++ ([.int .u64 (a3 : Int)])) := by rw [split_at cs 1 1, e1, show 1 + 1 = 2 from rfl, q2]
  have q0 : cs.drop 0 = [.int .i64 a0] ++ ([.int .i64 a1] ++ (cel a2 ++ ([.int .u64 (a3 : Int)]))) := by rw [split_at cs 0 1, e0, show 0 + 1 = 1 from rfl, q1]
  exact q0
theorem open_acts17 (hv : Value.okWide Try.prog W .any base 22 v) (h : DataW.Trod enc Try.prog W 0 (fun _ => true) true 22 v d p) :
    ∃ (A : Option Addr) (n c : Nat) (l : List Act17), v = .slice A n c ∧ RdE Act17E W W.heap.size A n l ∧ n ≤ c ∧ c ≤ maxLen ∧ ∀ k, k < n → (l.getD k Act17.zero).In W :=
  open_elts Act17E (Act17.In W) (by kernel_rfl) hv h (fun fuel cs x h => Act17.of_trod fuel cs x h)
theorem open_Act17 (hv : Value.okWide Try.prog W .any base 36 v) (h : DataW.Trod enc Try.prog W 0 (fun _ => true) true 36 v d p) : ∃ a : Act17, v = a.V ∧ a.In W := by
  obtain ⟨cs, rfl, hsz⟩ := okWide_struct Try.underlying36 hv
  obtain ⟨fuel, hf⟩ := h
  obtain ⟨a, ha, hp⟩ := Act17.of_trod _ _ _ hf
  refine ⟨a, ?_, hp⟩
  unfold Act17.V
  rw [← ha]
  simp [Value.cells]
end
theorem Act17.size : (Try.prog.info? 36).map (·.size) = some 67 := by kernel_rfl
theorem Act17.zinfo : (Try.prog.info? 36).map (fun i => i.zero) = some (some Act17.zero.V) := by kernel_rfl
section
variable {ρ : Operand → Value} {o : Oper} {x y : Operand} {w : World} {b off : Nat} {a c : Act17}
theorem exec_loadAct17 (ho : o.op = .load 36 x) (hx : ρ x = .pointer (some ⟨b, off, none⟩)) (hc : w.rangeAt b off a.C) : (execOp ρ o).run Try.prog w = .ok (.value a.V) w := exec_loadT Try.underlying36 rfl (by rw [Act17.C_len]; exact Act17.size) ho hx hc
theorem exec_boxAct17 (ho : o.op = .box 36 x) (hx : ρ x = a.V) : (execOp ρ o).run Try.prog w = .ok (.value (.pointer (some ⟨w.heap.size, 0, none⟩))) (w.alloc (.cells a.C.toArray 36)) := exec_boxT ho hx
theorem exec_allocAct17 (ho : o.op = .alloc 36) : (execOp ρ o).run Try.prog w = .ok (.value (.pointer (some ⟨w.heap.size, 0, none⟩))) (w.alloc (.cells Act17.zero.C.toArray 36)) := exec_allocT Act17.zinfo ho
theorem exec_fillAct17 (ho : o.op = .store 36 x y) (hx : ρ x = .pointer (some ⟨w.heap.size, 0, none⟩)) (hy : ρ y = a.V) : (execOp ρ o).run Try.prog (w.alloc (.cells c.C.toArray 36)) = .ok .skip (w.alloc (.cells a.C.toArray 36)) := exec_filT (by rw [Act17.C_len]; exact Act17.size) (by rw [Act17.C_len, Act17.C_len]) (Act17.C_one a) ho hx hy
end
section
variable {w w' : World} {b : Nat} {a : Act17}
theorem faAct170 : (Instr.fieldAt 36 (.pointer (some ⟨b, 0, none⟩)) 0).run Try.prog w = .ok (.pointer (some ⟨b, 0, none⟩)) w := by kernel_rfl
theorem faAct171 : (Instr.fieldAt 36 (.pointer (some ⟨b, 0, none⟩)) 1).run Try.prog w = .ok (.pointer (some ⟨b, 1, none⟩)) w := by kernel_rfl
theorem faAct172 : (Instr.fieldAt 36 (.pointer (some ⟨b, 0, none⟩)) 2).run Try.prog w = .ok (.pointer (some ⟨b, 2, none⟩)) w := by kernel_rfl
theorem faAct173 : (Instr.fieldAt 36 (.pointer (some ⟨b, 0, none⟩)) 3).run Try.prog w = .ok (.pointer (some ⟨b, 66, none⟩)) w := by kernel_rfl
/-- Block b holds one. -/
def Act17.At_ (w : World) (b : Nat) (a : Act17) : Prop := w.heap[b]? = some (.cells a.C.toArray 36 (0, 0))
theorem Act17.At_.range (h : Act17.At_ w b a) : w.rangeAt b 0 a.C := rng_at h
theorem Act17.At_.below {B : Nat} (h : Act17.At_ w b a) (hB : b < B) (hb : Below B w w') : Act17.At_ w' b a := blk_keep2 h hB hb
theorem Act17.At_.past (h : Act17.At_ w b a) (o : Obj) : Act17.At_ (w.alloc o) b a := blk_past h o
theorem Act17.At_.new (w : World) (a : Act17) : Act17.At_ (w.alloc (.cells a.C.toArray 36)) w.heap.size a := heap_alloc_new w _
theorem Act17.At_.f0 (h : Act17.At_ w b a) : w.cell? ⟨b, 0, none⟩ = some (.int .i64 a.Do) := by
  have := h.range 0 (.int .i64 a.Do) (by
    show a.C[0]? = _
    rw [show 0 = 0 + 0 from rfl, ← List.getElem?_drop]
    rw [show a.C.drop 0 = [.int .i64 a.Do] ++ ([.int .i64 a.Mem] ++ (cel a.B ++ ([.int .u64 (a.Seq : Int)]))) from ?_]
    · rfl
    · rfl)
  rwa [Nat.zero_add] at this
theorem Act17.At_.f1 (h : Act17.At_ w b a) : w.cell? ⟨b, 1, none⟩ = some (.int .i64 a.Mem) := by
  have := h.range 1 (.int .i64 a.Mem) (by
    show a.C[1]? = _
    rw [show 1 = 1 + 0 from rfl, ← List.getElem?_drop]
    rw [show a.C.drop 1 = [.int .i64 a.Mem] ++ (cel a.B ++ ([.int .u64 (a.Seq : Int)])) from ?_]
    · rfl
    · rfl)
  rwa [Nat.zero_add] at this
theorem Act17.At_.f2 (h : Act17.At_ w b a) : w.rangeAt b 2 (cel a.B) := fun j u hj => by
  have hl := (List.getElem?_eq_some_iff.1 hj).1
  have := h.range (2 + j) u (by
    show a.C[2 + j]? = some u
    rw [← List.getElem?_drop]
    rw [show a.C.drop 2 = cel a.B ++ ([.int .u64 (a.Seq : Int)]) from ?_]
    · first
      | exact hj
      | (rw [List.getElem?_append_left hl]; exact hj)
    · rfl)
  rwa [Nat.zero_add] at this
theorem Act17.At_.f3 (h : Act17.At_ w b a) : w.cell? ⟨b, 66, none⟩ = some (.int .u64 (a.Seq : Int)) := by
  have := h.range 66 (.int .u64 (a.Seq : Int)) (by
    show a.C[66]? = _
    rw [show 66 = 66 + 0 from rfl, ← List.getElem?_drop]
    rw [show a.C.drop 66 = [.int .u64 (a.Seq : Int)] from ?_]
    · rfl
    · unfold Act17.C; rw [show 66 = 1 + 65 from rfl, ← List.drop_drop, List.drop_left' (by rfl)]; rw [show 65 = 1 + 64 from rfl, ← List.drop_drop, List.drop_left' (by rfl)]; rw [List.drop_left' (by exact cel_length _)])
  rwa [Nat.zero_add] at this
end
end Go.Proofs.Ytmhcpiafhbnclaa
