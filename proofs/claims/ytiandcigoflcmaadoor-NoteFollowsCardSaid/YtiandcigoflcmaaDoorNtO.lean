/-
  Notes that came in.
-/
import Derived.Test.YtiandcigoflcmaaDoorNt
import Derived.Test.YtiandcigoflcmaaDoorTypO
namespace Go.Proofs.YtiandcigoflcmaaDoor
open Go.RowKit Go.ChangeShapes Go.WideShapes Go.ChangeAt Go.Deep
set_option linter.unusedSimpArgs false

theorem cellsU32n : Tryd.prog.cellsOf 23 = 1 := by kernel_rfl
theorem cellsNt : Tryd.prog.cellsOf 25 = 4 := by kernel_rfl
section
variable {H : Type} {enc : TypeId × Value → H} {W : World} {base : Nat} {v : Value} {d : DataW H} {p : List MemPlace}
theorem at_u32 {m : Nat} {x : Value} {y : DataW H × List MemPlace} (h : DataW.trod enc Tryd.prog W 0 (fun _ => true) true m 23 [x] = some y) : ∃ k : Nat, x = .int .u32 (k : Int) ∧ k < 4294967296 := by
  obtain ⟨k, e, _, hw⟩ := DataW.trod_int Tryd.underlying23 h
  have hr := bounds_u32 hw
  injection e with e
  obtain ⟨n, rfl⟩ := Int.eq_ofNat_of_zero_le hr.1
  exact ⟨n, e, by omega⟩
theorem at_note {fuel : Nat} {cs : List Value} {x : DataW H × List MemPlace} (h : DataW.trod enc Tryd.prog W 0 (fun _ => true) true fuel 25 cs = some x) : ∃ m : Nte, cs = celNt m ∧ m.fit := by
  obtain ⟨xs, k, _, _, hlen, hn, hel⟩ := DataW.trod_struct Tryd.underlying25 h
  rw [cellsNt] at hlen
  have hn' : xs.length = 4 := hn
  match cs, hlen, xs, hn' with
  | [a, b, c, e], _, [y0, y1, y2, y3], _ =>
    have e0 : DataW.trod enc Tryd.prog W 0 (fun _ => true) true k 22 ((List.drop 0 [a, b, c, e]).take (Tryd.prog.cellsOf 22)) = some y0 := hel 0 _ rfl
    rw [cellsU] at e0
    have e1 : DataW.trod enc Tryd.prog W 0 (fun _ => true) true k 22 ((List.drop 1 [a, b, c, e]).take (Tryd.prog.cellsOf 22)) = some y1 := hel 1 _ rfl
    rw [cellsU] at e1
    have e2 : DataW.trod enc Tryd.prog W 0 (fun _ => true) true k 3 ((List.drop 2 [a, b, c, e]).take (Tryd.prog.cellsOf 3)) = some y2 := hel 2 _ rfl
    rw [cellsI] at e2
    have e3 : DataW.trod enc Tryd.prog W 0 (fun _ => true) true k 23 ((List.drop 3 [a, b, c, e]).take (Tryd.prog.cellsOf 23)) = some y3 := hel 3 _ rfl
    rw [cellsU32n] at e3
    obtain ⟨seq, rfl, hseq⟩ := at_u64 (show DataW.trod enc Tryd.prog W 0 (fun _ => true) true k 22 [a] = some y0 from e0)
    obtain ⟨pos, rfl, hpos⟩ := at_u64 (show DataW.trod enc Tryd.prog W 0 (fun _ => true) true k 22 [b] = some y1 from e1)
    obtain ⟨cells, rfl⟩ := at_int (show DataW.trod enc Tryd.prog W 0 (fun _ => true) true k 3 [c] = some y2 from e2)
    obtain ⟨sum, rfl, hsum⟩ := at_u32 (show DataW.trod enc Tryd.prog W 0 (fun _ => true) true k 23 [e] = some y3 from e3)
    exact ⟨⟨seq, pos, cells, sum⟩, rfl, hseq, hpos, hsum⟩
theorem open_note (hv : Value.okWide Tryd.prog W .any base 25 v) (h : DataW.Trod enc Tryd.prog W 0 (fun _ => true) true 25 v d p) : ∃ m : Nte, v = nte m ∧ m.fit := by
  obtain ⟨cs, rfl, _⟩ := okWide_struct Tryd.underlying25 hv
  obtain ⟨fuel, hf⟩ := h
  obtain ⟨m, hm, hfit⟩ := at_note hf
  refine ⟨m, ?_, hfit⟩
  unfold nte
  rw [← hm]
  simp [Value.cells]
end
end Go.Proofs.YtiandcigoflcmaaDoor
