import Derived.Test.YtcafafdimcecpaaGreatDoorLcba
import Derived.Test.YtcafafdimcecpaaGreatDoorLcZ
namespace Go.Proofs.YtcafafdimcecpaaGreatDoor
open Go.RowKit Go.ChangeShapes Go.WideShapes Go.ChangeAt Go.Deep
set_option linter.unusedVariables false
set_option maxRecDepth 100000
theorem open_ints14 {H : Type} {enc : TypeId × Value → H} {W : World} {base : Nat} {v : Value} {d : DataW H} {p : List MemPlace} (hv : Value.okWide Tryz.prog W .any base 36 v) (h : DataW.Trod enc Tryz.prog W 0 (fun _ => true) true 36 v d p) :
    ∃ (A : Option Addr) (n c : Nat) (l : List Int), v = .slice A n c ∧ RdE dq W W.heap.size A n l ∧ n ≤ c ∧ c ≤ maxLen ∧ True := by
  obtain ⟨A, n, c, l, h1, h2, h3, h4, _⟩ := open_elts dq (fun a => (Lit.int .i64 a).wf = true) (by kernel_rfl) hv h (fun fuel cs x h => int_of_trod fuel cs x h)
  exact ⟨A, n, c, l, h1, h2, h3, h4, trivial⟩
end Go.Proofs.YtcafafdimcecpaaGreatDoor
