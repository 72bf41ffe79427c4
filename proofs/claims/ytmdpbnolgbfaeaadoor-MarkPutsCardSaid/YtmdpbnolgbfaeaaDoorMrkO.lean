/-
  Marks that came in.
-/
import Derived.Test.YtmdpbnolgbfaeaaDoorMrk
import Derived.Test.YtmdpbnolgbfaeaaDoorTypO
namespace Go.Proofs.YtmdpbnolgbfaeaaDoor
open Go.RowKit Go.ChangeShapes Go.WideShapes Go.ChangeAt Go.Deep
set_option linter.unusedSimpArgs false

theorem cellsMk : Tryd.prog.cellsOf 24 = 4 := by kernel_rfl
section
variable {H : Type} {enc : TypeId × Value → H} {W : World} {base : Nat} {v : Value} {d : DataW H} {p : List MemPlace}
theorem at_mark {fuel : Nat} {cs : List Value} {x : DataW H × List MemPlace} (h : DataW.trod enc Tryd.prog W 0 (fun _ => true) true fuel 24 cs = some x) : ∃ m : Mrk, cs = celM m ∧ m.fit := by
  obtain ⟨xs, k, _, _, hlen, hn, hel⟩ := DataW.trod_struct Tryd.underlying24 h
  rw [cellsMk] at hlen
  have hn' : xs.length = 4 := hn
  match cs, hlen, xs, hn' with
  | [a, b, c, e], _, [y0, y1, y2, y3], _ =>
    have e0 : DataW.trod enc Tryd.prog W 0 (fun _ => true) true k 22 ((List.drop 0 [a, b, c, e]).take (Tryd.prog.cellsOf 22)) = some y0 := hel 0 _ rfl
    rw [cellsU] at e0
    have e1 : DataW.trod enc Tryd.prog W 0 (fun _ => true) true k 3 ((List.drop 1 [a, b, c, e]).take (Tryd.prog.cellsOf 3)) = some y1 := hel 1 _ rfl
    rw [cellsI] at e1
    have e2 : DataW.trod enc Tryd.prog W 0 (fun _ => true) true k 22 ((List.drop 2 [a, b, c, e]).take (Tryd.prog.cellsOf 22)) = some y2 := hel 2 _ rfl
    rw [cellsU] at e2
    have e3 : DataW.trod enc Tryd.prog W 0 (fun _ => true) true k 22 ((List.drop 3 [a, b, c, e]).take (Tryd.prog.cellsOf 22)) = some y3 := hel 3 _ rfl
    rw [cellsU] at e3
    obtain ⟨id, rfl, hid⟩ := at_u64 (show DataW.trod enc Tryd.prog W 0 (fun _ => true) true k 22 [a] = some y0 from e0)
    obtain ⟨ring, rfl⟩ := at_int (show DataW.trod enc Tryd.prog W 0 (fun _ => true) true k 3 [b] = some y1 from e1)
    obtain ⟨first, rfl, hfirst⟩ := at_u64 (show DataW.trod enc Tryd.prog W 0 (fun _ => true) true k 22 [c] = some y2 from e2)
    obtain ⟨pos, rfl, hpos⟩ := at_u64 (show DataW.trod enc Tryd.prog W 0 (fun _ => true) true k 22 [e] = some y3 from e3)
    exact ⟨⟨id, ring, first, pos⟩, rfl, hid, hfirst, hpos⟩
theorem open_mark (hv : Value.okWide Tryd.prog W .any base 24 v) (h : DataW.Trod enc Tryd.prog W 0 (fun _ => true) true 24 v d p) : ∃ m : Mrk, v = mrk m ∧ m.fit := by
  obtain ⟨cs, rfl, _⟩ := okWide_struct Tryd.underlying24 hv
  obtain ⟨fuel, hf⟩ := h
  obtain ⟨m, hm, hfit⟩ := at_mark hf
  refine ⟨m, ?_, hfit⟩
  unfold mrk
  rw [← hm]
  simp [Value.cells]
end
end Go.Proofs.YtmdpbnolgbfaeaaDoor
