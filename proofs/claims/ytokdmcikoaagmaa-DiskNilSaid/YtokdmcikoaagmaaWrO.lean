/-
  Slices of api.Write that came in.
-/
import Derived.Test.YtokdmcikoaagmaaEltO
import Derived.Test.YtokdmcikoaagmaaBlkE
import Derived.Test.YtokdmcikoaagmaaBlkO
namespace Go.Proofs.Ytokdmcikoaagmaa
open Go.RowKit Go.ChangeShapes Go.WideShapes Go.ChangeAt Go.Deep
set_option linter.unusedVariables false
def WrE : Elt (Int × Blk) := pairE 39 47 Try.underlying39 (by kernel_rfl)
section
variable {H : Type} {enc : TypeId × Value → H} {W : World} {base : Nat} {v : Value} {d : DataW H} {p : List MemPlace}
theorem wr_of_trod (fuel : Nat) (cs : List Value) (x : DataW H × List MemPlace) (h : DataW.trod enc Try.prog W 0 (fun _ => true) true fuel 47 cs = some x) : ∃ a : Int × Blk, cs = WrE.cel a ∧ (Lit.int .i64 a.1).wf = true := by
  obtain ⟨xs, n, _, _, hlen, hxl, hf⟩ := DataW.trod_struct Try.underlying47 h
  have h0 : DataW.trod enc Try.prog W 0 (fun _ => true) true n 3 ((cs.drop 0).take (Try.prog.cellsOf 3)) = xs[0]? := hf 0 _ rfl
  have h1 : DataW.trod enc Try.prog W 0 (fun _ => true) true n 33 ((cs.drop 1).take (Try.prog.cellsOf 33)) = xs[1]? := hf 1 _ rfl
  have hxl2 : xs.length = 2 := hxl
  have hl65 : cs.length = 65 := hlen.trans (by kernel_rfl)
  rw [show Try.prog.cellsOf 3 = 1 from by kernel_rfl, List.getElem?_eq_getElem (by omega)] at h0
  rw [cellsB, List.getElem?_eq_getElem (by omega)] at h1
  obtain ⟨a, ha, hw⟩ := int_of_trod _ _ _ h0
  obtain ⟨b, hb⟩ := cel_of_trod h1
  refine ⟨(a, b), ?_, hw⟩
  show cs = .int .i64 a :: cel b
  rw [List.take_of_length_le (by rw [List.length_drop]; omega)] at hb
  have := List.take_append_drop 1 cs
  rw [List.drop_zero] at ha
  rw [ha, hb] at this
  exact this.symm
theorem open_writes (hv : Value.okWide Try.prog W .any base 39 v) (h : DataW.Trod enc Try.prog W 0 (fun _ => true) true 39 v d p) :
    ∃ (A : Option Addr) (n c : Nat) (l : List (Int × Blk)), v = .slice A n c ∧ RdE WrE W W.heap.size A n l ∧ n ≤ c ∧ c ≤ maxLen ∧ ∀ k, k < n → (Lit.int .i64 (l.getD k (0, zeroB)).1).wf = true :=
  open_elts WrE (fun a => (Lit.int .i64 a.1).wf = true) (by kernel_rfl) hv h (fun fuel cs x h => wr_of_trod fuel cs x h)
end
end Go.Proofs.Ytokdmcikoaagmaa
