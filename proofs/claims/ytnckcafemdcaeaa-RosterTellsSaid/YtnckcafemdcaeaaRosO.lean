/-
  Rosters and geometries that came in.
-/
import Derived.Test.YtnckcafemdcaeaaRos
import Derived.Test.YtnckcafemdcaeaaTypO
namespace Go.Proofs.Ytnckcafemdcaeaa
open Go.RowKit Go.ChangeShapes Go.WideShapes Go.ChangeAt Go.Deep
set_option linter.unusedSimpArgs false

theorem cellsRo : Try.prog.cellsOf 26 = 21 := by kernel_rfl
theorem cellsGe : Try.prog.cellsOf 23 = 3 := by kernel_rfl
theorem cells16 : Try.prog.cellsOf 24 = 16 := by kernel_rfl
section
variable {H : Type} {enc : TypeId × Value → H} {W : World} {base : Nat} {v : Value} {d : DataW H} {p : List MemPlace}
theorem at_16 {fuel : Nat} {cs : List Value} {x : DataW H × List MemPlace} (h : DataW.trod enc Try.prog W 0 (fun _ => true) true fuel 24 cs = some x) : ∃ v : Vector UInt8 16, cs = vals v.toList := by
  obtain ⟨xs, m, _, _, hlen, hn, hel⟩ := DataW.trod_array Try.underlying24 h
  rw [cells16] at hlen
  rw [u8cells] at hel
  have hu : ∀ i : Fin 16, ∃ u : UInt8, cs[i.val]? = some (.int .u8 (u.toNat : Int)) := fun i => by
    have h1 := hel i.val i.isLt
    have hi : i.val < cs.length := by have := i.isLt; omega
    have hd : (cs.drop (i.val * 1)).take 1 = [cs[i.val]] := by
      rw [Nat.mul_one, List.drop_eq_getElem_cons hi]
      rfl
    have hx : i.val < xs.length := by have := i.isLt; omega
    rw [hd, List.getElem?_eq_getElem hx] at h1
    obtain ⟨u, hu⟩ := at_u8 h1
    exact ⟨u, by rw [List.getElem?_eq_getElem hi, hu]⟩
  obtain ⟨f, hf⟩ := Classical.axiomOfChoice hu
  refine ⟨Vector.ofFn f, ?_⟩
  apply List.ext_getElem?
  intro i
  by_cases hi : i < 16
  · rw [hf ⟨i, hi⟩]
    simp [vals, hi]
  · rw [List.getElem?_eq_none (by omega), List.getElem?_eq_none (by rw [vals_length]; simp; omega)]
theorem at_geo {fuel : Nat} {cs : List Value} {x : DataW H × List MemPlace} (h : DataW.trod enc Try.prog W 0 (fun _ => true) true fuel 23 cs = some x) : ∃ m s r : Int, cs = [.int .i64 m, .int .i64 s, .int .i64 r] := by
  obtain ⟨xs, k, _, _, hlen, hn, hel⟩ := DataW.trod_struct Try.underlying23 h
  rw [cellsGe] at hlen
  have hn' : xs.length = 3 := hn
  match cs, hlen, xs, hn' with
  | [a, b, c], _, [y0, y1, y2], _ =>
    have e0 : DataW.trod enc Try.prog W 0 (fun _ => true) true k 3 ((List.drop 0 [a, b, c]).take (Try.prog.cellsOf 3)) = some y0 := hel 0 _ rfl
    rw [cellsI] at e0
    have e1 : DataW.trod enc Try.prog W 0 (fun _ => true) true k 3 ((List.drop 1 [a, b, c]).take (Try.prog.cellsOf 3)) = some y1 := hel 1 _ rfl
    rw [cellsI] at e1
    have e2 : DataW.trod enc Try.prog W 0 (fun _ => true) true k 3 ((List.drop 2 [a, b, c]).take (Try.prog.cellsOf 3)) = some y2 := hel 2 _ rfl
    rw [cellsI] at e2
    obtain ⟨m, rfl⟩ := at_int (show DataW.trod enc Try.prog W 0 (fun _ => true) true k 3 [a] = some y0 from e0)
    obtain ⟨s, rfl⟩ := at_int (show DataW.trod enc Try.prog W 0 (fun _ => true) true k 3 [b] = some y1 from e1)
    obtain ⟨r, rfl⟩ := at_int (show DataW.trod enc Try.prog W 0 (fun _ => true) true k 3 [c] = some y2 from e2)
    exact ⟨m, s, r, rfl⟩
theorem at_ros {fuel : Nat} {cs : List Value} {x : DataW H × List MemPlace} (h : DataW.trod enc Try.prog W 0 (fun _ => true) true fuel 26 cs = some x) : ∃ r : Ros, cs = celR r := by
  obtain ⟨xs, k, _, _, hlen, hn, hel⟩ := DataW.trod_struct Try.underlying26 h
  rw [cellsRo] at hlen
  have hn' : xs.length = 4 := hn
  match xs, hn' with
  | [y0, y1, y2, y3], _ =>
    have e0 : DataW.trod enc Try.prog W 0 (fun _ => true) true k 23 ((List.drop 0 cs).take (Try.prog.cellsOf 23)) = some y0 := hel 0 _ rfl
    rw [cellsGe] at e0
    have e1 : DataW.trod enc Try.prog W 0 (fun _ => true) true k 24 ((List.drop 3 cs).take (Try.prog.cellsOf 24)) = some y1 := hel 1 _ rfl
    rw [cells16] at e1
    have e2 : DataW.trod enc Try.prog W 0 (fun _ => true) true k 3 ((List.drop 19 cs).take (Try.prog.cellsOf 3)) = some y2 := hel 2 _ rfl
    rw [cellsI] at e2
    have e3 : DataW.trod enc Try.prog W 0 (fun _ => true) true k 4 ((List.drop 20 cs).take (Try.prog.cellsOf 4)) = some y3 := hel 3 _ rfl
    rw [cellsBo] at e3
    obtain ⟨m, s, r, hg⟩ := at_geo (show DataW.trod enc Try.prog W 0 (fun _ => true) true k 23 ((cs.drop 0).take 3) = some y0 from e0)
    obtain ⟨st, hst⟩ := at_16 (show DataW.trod enc Try.prog W 0 (fun _ => true) true k 24 ((cs.drop 3).take 16) = some y1 from e1)
    have d2 : (cs.drop 19).take 1 = [cs[19]'(by omega)] := by rw [List.drop_eq_getElem_cons (by omega)]; rfl
    have d3 : (cs.drop 20).take 1 = [cs[20]'(by omega)] := by rw [List.drop_eq_getElem_cons (by omega)]; rfl
    obtain ⟨cur, hcur⟩ := at_int (show DataW.trod enc Try.prog W 0 (fun _ => true) true k 3 [cs[19]'(by omega)] = some y2 from by rw [← d2]; exact e2)
    obtain ⟨gone, hgone⟩ := at_bool (show DataW.trod enc Try.prog W 0 (fun _ => true) true k 4 [cs[20]'(by omega)] = some y3 from by rw [← d3]; exact e3)
    refine ⟨⟨m, s, r, st, cur, gone⟩, ?_⟩
    have hsplit : cs = (cs.drop 0).take 3 ++ ((cs.drop 3).take 16 ++ [cs[19]'(by omega), cs[20]'(by omega)]) := by
      have h3 : cs.drop 19 = [cs[19]'(by omega), cs[20]'(by omega)] := by
        rw [List.drop_eq_getElem_cons (by omega), List.drop_eq_getElem_cons (by omega), List.drop_of_length_le (by omega)]
      rw [← h3, List.drop_zero]
      have h4 : (cs.drop 3).take 16 ++ cs.drop 19 = cs.drop 3 := by
        have := List.take_append_drop 16 (cs.drop 3)
        rwa [List.drop_drop] at this
      rw [h4, List.take_append_drop]
    rw [hsplit, hg, hst, hcur, hgone]
    rfl
theorem open_ros (hv : Value.okWide Try.prog W .any base 26 v) (h : DataW.Trod enc Try.prog W 0 (fun _ => true) true 26 v d p) : ∃ s : Ros, v = ros s := by
  obtain ⟨cs, rfl, _⟩ := okWide_struct Try.underlying26 hv
  obtain ⟨fuel, hf⟩ := h
  obtain ⟨s, hs⟩ := at_ros hf
  refine ⟨s, ?_⟩
  unfold ros
  rw [← hs]
  simp [Value.cells]
end
end Go.Proofs.Ytnckcafemdcaeaa
