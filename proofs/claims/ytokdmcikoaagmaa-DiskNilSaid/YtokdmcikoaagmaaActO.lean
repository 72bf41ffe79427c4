/-
  Acts (ashlarlaw05.Act) that came in: one by value, and slices of them.
-/
import Derived.Test.YtokdmcikoaagmaaWrO
namespace Go.Proofs.Ytokdmcikoaagmaa
open Go.RowKit Go.ChangeShapes Go.WideShapes Go.ChangeAt Go.Deep
set_option linter.unusedVariables false
/-- An act: what is done, of which sector, at which byte, by what, which block, and the slice of a cut's numbers. -/
structure ActT where
  Do : Int
  N : Int
  At : Int
  By : UInt8
  B : Blk
  A : Option Addr
  n : Nat
  c : Nat
def actC (a : ActT) : List Value := .int .i64 a.Do :: .int .i64 a.N :: .int .i64 a.At :: .int .u8 (a.By.toNat : Int) :: (cel a.B ++ [.slice a.A a.n a.c])
def actV (a : ActT) : Value := .agg (actC a).toArray
theorem actC_len (a : ActT) : (actC a).length = 69 := by simp [actC, cel_length]
theorem actC_one (a : ActT) : ∀ v ∈ actC a, v.oneCell' = true := by
  intro v hv
  simp only [actC, List.mem_cons, List.mem_append, List.mem_nil_iff, or_false] at hv
  rcases hv with rfl | rfl | rfl | rfl | hv | rfl
  · rfl
  · rfl
  · rfl
  · rfl
  · exact cel_one a.B v hv
  · rfl
def zeroAct : ActT := ⟨0, 0, 0, 0, zeroB, none, 0, 0⟩
def ActE : Elt ActT where
  s := 22
  t := 36
  n := 69
  by_ := 120
  cel := actC
  d := zeroAct
  z := actV zeroAct
  pos := by omega
  small := by omega
  len := actC_len
  one := actC_one
  und := Try.underlying22
  info := by kernel_rfl
  zc := by show (Value.cells (.agg _)).size = 69; simp [Value.cells, actC_len]
section
variable {H : Type} {enc : TypeId × Value → H} {W : World} {base : Nat} {v : Value} {d : DataW H} {p : List MemPlace}
/-- The numbers of an act read as a list. -/
def PicksIn (W : World) (a : ActT) : Prop := ∃ l, RdE IntE W W.heap.size a.A a.n l ∧ a.n ≤ a.c ∧ a.c ≤ maxLen
theorem act_of_trod (fuel : Nat) (cs : List Value) (x : DataW H × List MemPlace) (h : DataW.trod enc Try.prog W 0 (fun _ => true) true fuel 36 cs = some x) : ∃ a : ActT, cs = ActE.cel a ∧ PicksIn W a := by
  obtain ⟨xs, n, _, _, hlen, hxl, hf⟩ := DataW.trod_struct Try.underlying36 h
  have h0 : DataW.trod enc Try.prog W 0 (fun _ => true) true n 3 ((cs.drop 0).take (Try.prog.cellsOf 3)) = xs[0]? := hf 0 _ rfl
  have h1 : DataW.trod enc Try.prog W 0 (fun _ => true) true n 3 ((cs.drop 1).take (Try.prog.cellsOf 3)) = xs[1]? := hf 1 _ rfl
  have h2 : DataW.trod enc Try.prog W 0 (fun _ => true) true n 3 ((cs.drop 2).take (Try.prog.cellsOf 3)) = xs[2]? := hf 2 _ rfl
  have h3 : DataW.trod enc Try.prog W 0 (fun _ => true) true n 5 ((cs.drop 3).take (Try.prog.cellsOf 5)) = xs[3]? := hf 3 _ rfl
  have h4 : DataW.trod enc Try.prog W 0 (fun _ => true) true n 33 ((cs.drop 4).take (Try.prog.cellsOf 33)) = xs[4]? := hf 4 _ rfl
  have h5 : DataW.trod enc Try.prog W 0 (fun _ => true) true n 34 ((cs.drop 68).take (Try.prog.cellsOf 34)) = xs[5]? := hf 5 _ rfl
  have hxl2 : xs.length = 6 := hxl
  have hl69 : cs.length = 69 := hlen.trans (by kernel_rfl)
  rw [show Try.prog.cellsOf 3 = 1 from by kernel_rfl, List.getElem?_eq_getElem (by omega)] at h0 h1 h2
  rw [u8cells, List.getElem?_eq_getElem (by omega)] at h3
  rw [cellsB, List.getElem?_eq_getElem (by omega)] at h4
  rw [show Try.prog.cellsOf 34 = 1 from by kernel_rfl, List.getElem?_eq_getElem (by omega)] at h5
  obtain ⟨a0, e0, _⟩ := int_of_trod _ _ _ h0
  obtain ⟨a1, e1, _⟩ := int_of_trod _ _ _ h1
  obtain ⟨a2, e2, _⟩ := int_of_trod _ _ _ h2
  obtain ⟨a3, e3, _, w3⟩ := DataW.trod_int Try.underlying5 h3
  obtain ⟨b, e4⟩ := cel_of_trod h4
  obtain ⟨A, m, c, l, e5, hr, hc1, hc2, _⟩ := elts_of_trod IntE (fun a => (Lit.int .i64 a).wf = true) (by kernel_rfl) h5 (fun fuel cs x h => int_of_trod fuel cs x h)
  have hr3 : 0 ≤ a3 ∧ a3 ≤ 255 := bounds_u8 w3
  have hu : (((UInt8.ofNat a3.toNat).toNat : Nat) : Int) = a3 := by
    rw [UInt8.toNat_ofNat']
    omega
  refine ⟨⟨a0, a1, a2, UInt8.ofNat a3.toNat, b, A, m, c⟩, ?_, l, hr, hc1, hc2⟩
  show cs = .int .i64 a0 :: .int .i64 a1 :: .int .i64 a2 :: .int .u8 ((UInt8.ofNat a3.toNat).toNat : Int) :: (cel b ++ [.slice A m c])
  rw [hu]
  rw [List.drop_zero] at e0
  have p0 := List.take_append_drop 1 cs
  have p1 := List.take_append_drop 1 (cs.drop 1)
  have p2 := List.take_append_drop 1 (cs.drop 2)
  have p3 := List.take_append_drop 1 (cs.drop 3)
  have p4 := List.take_append_drop 64 (cs.drop 4)
  rw [List.take_of_length_le (by rw [List.length_drop]; omega)] at e5
  rw [e0] at p0
  rw [e1, List.drop_drop] at p1
  rw [e2, List.drop_drop] at p2
  rw [e3, List.drop_drop] at p3
  rw [e4, List.drop_drop, e5] at p4
  rw [← p0, ← p1, ← p2, ← p3, ← p4]
  rfl
theorem open_acts (hv : Value.okWide Try.prog W .any base 22 v) (h : DataW.Trod enc Try.prog W 0 (fun _ => true) true 22 v d p) :
    ∃ (A : Option Addr) (n c : Nat) (l : List ActT), v = .slice A n c ∧ RdE ActE W W.heap.size A n l ∧ n ≤ c ∧ c ≤ maxLen ∧ ∀ k, k < n → PicksIn W (l.getD k zeroAct) :=
  open_elts ActE (PicksIn W) (by kernel_rfl) hv h (fun fuel cs x h => act_of_trod fuel cs x h)
theorem open_act (hv : Value.okWide Try.prog W .any base 36 v) (h : DataW.Trod enc Try.prog W 0 (fun _ => true) true 36 v d p) : ∃ a : ActT, v = actV a ∧ PicksIn W a := by
  obtain ⟨cs, rfl, hsz⟩ := okWide_struct Try.underlying36 hv
  obtain ⟨fuel, hf⟩ := h
  obtain ⟨a, ha, hp⟩ := act_of_trod _ _ _ hf
  refine ⟨a, ?_, hp⟩
  unfold actV
  show Value.agg cs = Value.agg (ActE.cel a).toArray
  rw [← ha]
  simp [Value.cells]
end
end Go.Proofs.Ytokdmcikoaagmaa
