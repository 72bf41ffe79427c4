/-
  Cells, and slices of cells, that came in.
-/
import Derived.Test.YtfemlaombdeebaaCel
import Derived.Test.YtfemlaombdeebaaBlkO
import Derived.Test.YtfemlaombdeebaaTypO
namespace Go.Proofs.Ytfemlaombdeebaa
open Go.RowKit Go.ChangeShapes Go.WideShapes Go.ChangeAt Go.Deep
set_option linter.unusedVariables false
set_option linter.unusedSimpArgs false

theorem cellsC : Try.prog.cellsOf 43 = 66 := by kernel_rfl
theorem bytesC : Try.prog.bytesOf 43 = 80 := by kernel_rfl
theorem cellsPl : Try.prog.cellsOf 41 = 2 := by kernel_rfl
section
variable {H : Type} {enc : TypeId × Value → H} {W : World} {base : Nat} {v : Value} {d : DataW H} {p : List MemPlace}
theorem at_place {fuel : Nat} {cs : List Value} {x : DataW H × List MemPlace} (h : DataW.trod enc Try.prog W 0 (fun _ => true) true fuel 41 cs = some x) : ∃ s m : Int, cs = celP s m := by
  obtain ⟨xs, k, _, _, hlen, hn, hel⟩ := DataW.trod_struct Try.underlying41 h
  rw [cellsPl] at hlen
  have hn' : xs.length = 2 := hn
  match cs, hlen, xs, hn' with
  | [a, b], _, [y0, y1], _ =>
    have e0 : DataW.trod enc Try.prog W 0 (fun _ => true) true k 3 ((List.drop 0 [a, b]).take (Try.prog.cellsOf 3)) = some y0 := hel 0 _ rfl
    rw [cellsI] at e0
    have e1 : DataW.trod enc Try.prog W 0 (fun _ => true) true k 3 ((List.drop 1 [a, b]).take (Try.prog.cellsOf 3)) = some y1 := hel 1 _ rfl
    rw [cellsI] at e1
    obtain ⟨s, rfl⟩ := at_int (show DataW.trod enc Try.prog W 0 (fun _ => true) true k 3 [a] = some y0 from e0)
    obtain ⟨m, rfl⟩ := at_int (show DataW.trod enc Try.prog W 0 (fun _ => true) true k 3 [b] = some y1 from e1)
    exact ⟨s, m, rfl⟩
theorem at_cell {fuel : Nat} {cs : List Value} {x : DataW H × List MemPlace} (h : DataW.trod enc Try.prog W 0 (fun _ => true) true fuel 43 cs = some x) : ∃ c : Cl, cs = celC c := by
  obtain ⟨xs, k, _, _, hlen, hn, hel⟩ := DataW.trod_struct Try.underlying43 h
  rw [cellsC] at hlen
  have hn' : xs.length = 2 := hn
  match xs, hn' with
  | [y0, y1], _ =>
    have e0 : DataW.trod enc Try.prog W 0 (fun _ => true) true k 41 ((List.drop 0 cs).take (Try.prog.cellsOf 41)) = some y0 := hel 0 _ rfl
    rw [cellsPl] at e0
    have e1 : DataW.trod enc Try.prog W 0 (fun _ => true) true k 34 ((List.drop 2 cs).take (Try.prog.cellsOf 34)) = some y1 := hel 1 _ rfl
    rw [cellsB] at e1
    obtain ⟨s, m, h0⟩ := at_place e0
    obtain ⟨b, h1⟩ := cel_of_trod e1
    refine ⟨⟨s, m, b⟩, ?_⟩
    have e : cs = (cs.drop 0).take 2 ++ (cs.drop 2).take 64 := by
      rw [List.drop_zero, List.take_of_length_le (l := cs.drop 2) (by simp; omega), List.take_append_drop]
    rw [e, h0, h1]
    rfl
theorem open_cells (hv : Value.okWide Try.prog W .any base 22 v) (h : DataW.Trod enc Try.prog W 0 (fun _ => true) true 22 v d p) (hz : ∀ x ∈ DataW.weights Try.prog 22 d, x ≤ reachBytes) :
    ∃ (A : Option Addr) (n c : Nat) (l : List Cl), v = .slice A n c ∧ RdE CellE W W.heap.size A n l ∧ n ≤ 1759218604390 ∧ n ≤ c := by
  obtain ⟨a0, len0, cap0, rfl⟩ := okWide_slice Try.underlying22 hv
  obtain ⟨fuel, hf⟩ := h
  rcases open_slice Try.underlying22 hf with ⟨hcs, hx⟩ | ⟨a, len, cap, m, n, D, Pl, hcs, hb, hl, hm, hmm, hx, hel⟩
  · simp [Value.cells] at hcs
    obtain ⟨rfl, rfl, rfl⟩ := hcs
    exact ⟨none, 0, 0, [], rfl, RdE.nil _ _ _, by omega, by omega⟩
  · simp [Value.cells] at hcs
    obtain ⟨rfl, rfl, rfl⟩ := hcs
    simp only [Prod.mk.injEq] at hx
    obtain ⟨rfl, rfl⟩ := hx
    simp only [if_true] at hmm
    subst hmm
    have hr := hz (((((List.range len0).map D).length + ((List.range (m - len0)).map fun j => D (len0 + j)).length)) * Try.prog.bytesOf 43) (by simp [DataW.weights])
    rw [bytesC] at hr
    simp only [List.length_map, List.length_range, reachBytes] at hr
    haveI : Inhabited Cl := ⟨zeroC⟩
    obtain ⟨f, hf2⟩ := choose_lt (α := Cl) (p := fun i b => W.cells? 0 (a.add (i * 66)) 66 = some (celC b)) (n := m) (fun i hi => by
      obtain ⟨cs', h1, h2⟩ := hel i hi
      rw [cellsC] at h1
      obtain ⟨b, rfl⟩ := at_cell h2
      exact ⟨b, h1⟩)
    refine ⟨some a, len0, m, (List.range len0).map f, rfl, ⟨by simp, fun k hk => ?_⟩, by omega, hl⟩
    have h0at : ∀ c : Cl, (celC c)[0]? = some (.int .i64 c.s) := fun c => rfl
    obtain ⟨b, off, spot⟩ := a
    have hspot : spot = none := by
      have h0 := (World.cells?_some (hf2 0 (by omega))).2.2 0 (by omega)
      rw [h0at] at h0
      have := World.cell?_spot h0
      simpa [Addr.add] using this
    subst hspot
    have hc := World.cells?_some (hf2 k (by omega))
    refine ⟨b, off, rfl, ?_, fun j u hj => ?_⟩
    · have h0 := hc.2.2 0 (by omega)
      rw [h0at, Addr.add_mid, Addr.add_mid] at h0
      exact World.block_lt_of_cell? W _ h0
    · have hlt : j < 66 := by have := (List.getElem?_eq_some_iff.1 hj).1; rwa [show (CellE.cel _).length = 66 from CellE.len _] at this
      have h1 := hc.2.2 j hlt
      rw [Addr.add_mid, Addr.add_mid] at h1
      show W.cell? ⟨b, off + k * 66 + j, none⟩ = _
      rw [h1, ← hj]
      show _ = (celC (((List.range len0).map f).getD k zeroC))[j]?
      simp [List.getD, hk]
end
end Go.Proofs.Ytfemlaombdeebaa
