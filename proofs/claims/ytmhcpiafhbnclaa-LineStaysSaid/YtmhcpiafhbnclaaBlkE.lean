/-
  Rows of blocks, and of pairs of a number and a block, as rows of elements.
-/
import Derived.Test.YtmhcpiafhbnclaaEltOps
import Derived.Test.YtmhcpiafhbnclaaBlkW
import Derived.Test.YtmhcpiafhbnclaaOnly
import Derived.Test.YtmhcpiafhbnclaaCells
namespace Go.Proofs.Ytmhcpiafhbnclaa
open Go.RowKit
set_option maxRecDepth 100000
set_option linter.unusedVariables false

/-- The cells of a number with a block behind it; as a value. -/
def cel65 (p : Int × Blk) : List Value := .int .i64 p.1 :: cel p.2
def pairV (n : Int) (b : Blk) : Value := .agg (.int .i64 n :: cel b).toArray
theorem cel65_length (p : Int × Blk) : (cel65 p).length = 65 := by simp [cel65, cel_length]
theorem cel65_one (p : Int × Blk) : ∀ v ∈ cel65 p, v.oneCell' = true := by
  intro v hv
  simp only [cel65, List.mem_cons] at hv
  rcases hv with rfl | hv
  · rfl
  · exact cel_one p.2 v hv
def pairE (s t : TypeId) (und : Try.prog.underlying s = some (.slice t)) (info : (Try.prog.info? t).map (fun i => (i.zero, i.size, i.bytes)) = some (some (pairV 0 zeroB), 65, 72)) : Elt (Int × Blk) where
  s := s
  t := t
  n := 65
  by_ := 72
  cel := cel65
  d := (0, zeroB)
  z := pairV 0 zeroB
  pos := by omega
  small := by omega
  len := cel65_length
  one := cel65_one
  und := und
  info := info
  zc := by show (Value.cells (.agg _)).size = 65; simp [Value.cells, cel_length]
section
variable {s t : TypeId} {und : Try.prog.underlying s = some (.slice t)} {info : (Try.prog.info? t).map (fun i => (i.zero, i.size, i.bytes)) = some (some (pairV 0 zeroB), 65, 72)} {w : World} {B n k : Nat} {A : Option Addr} {l : List (Int × Blk)}
theorem RdE.pair (h : RdE (pairE s t und info) w B A n l) (hk : k < n) : ∃ b off, A = some ⟨b, off, none⟩ ∧ b < B ∧ w.cell? ⟨b, off + k * 65, none⟩ = some (.int .i64 (l.getD k (0, zeroB)).1) ∧ w.rangeAt b (off + k * 65 + 1) (cel (l.getD k (0, zeroB)).2) := by
  obtain ⟨b, off, e, hb, hc⟩ := h.2 k hk
  refine ⟨b, off, e, hb, hc 0 _ rfl, fun j v hj => ?_⟩
  have := hc (j + 1) v hj
  rwa [show off + k * (pairE s t und info).n + (j + 1) = off + k * 65 + 1 + j from by show off + k * 65 + (j + 1) = _; omega] at this
end
/-- A slice whose block is none of those that a call may turn reads as it did. -/
theorem RdE.only {α : Type} {E : Elt α} {F : Nat → Prop} {w w' : World} {B n : Nat} {A : Option Addr} {l : List α} (h : RdE E w B A n l) (k : Only F w w') (hB : B ≤ w.heap.size) (hn : ∀ x, A = some x → 0 < n → ¬ F x.block) : RdE E w' B A n l :=
  ⟨h.1, fun j hj => by
    obtain ⟨b, off, e, hb, hc⟩ := h.2 j hj
    refine ⟨b, off, e, hb, fun i v hi => ?_⟩
    rw [k.cell (p := ⟨b, off + j * E.n + i, none⟩) (show b < w.heap.size by omega) (show ¬ F b from hn ⟨b, off, none⟩ e (by omega))]
    exact hc i v hi⟩
theorem Only.setCells {F : Nat → Prop} {w w1 : World} {b : Nat} (h : Only F w w1) (hb : F b ∨ w.heap.size ≤ b) : ∀ (vs : List Value) (o : Nat), Only F w (w1.setCells b o vs) := by
  intro vs
  induction vs generalizing w1 with
  | nil => intro o; exact h
  | cons v r ih => intro o; exact ih (h.setCell (p := ⟨b, o, none⟩) hb v) (o + 1)
theorem blk_laid {w : World} {b : Nat} {t : TypeId} {c d : Blk} (h : w.heap[b]? = some (.cells (cel c).toArray t (0, 0))) : (w.setCells b 0 (cel d)).heap[b]? = some (.cells (cel d).toArray t (0, 0)) := by
  have := heap_put b t [] (cel d) (cel c) [] w (by rw [cel_length, cel_length]) (by simpa using h)
  simpa using this
theorem blk_range {w : World} {b : Nat} {t : TypeId} {c : Blk} (h : w.heap[b]? = some (.cells (cel c).toArray t (0, 0))) : w.rangeAt b 0 (cel c) := fun j v hj => by
  rw [cell_of_row _ _ (0 + j) (cel c).toArray t (0, 0) h]
  simpa using hj
theorem blk_there {w : World} {b : Nat} {t : TypeId} {c : Blk} (h : w.heap[b]? = some (.cells (cel c).toArray t (0, 0))) : w.there b 0 64 := fun j hj => by
  rw [cell_of_row _ _ (0 + j) _ t (0, 0) h, frozen_of_row _ _ (0 + j) _ t h]
  exact ⟨by simp [cel_length]; omega, rfl⟩
end Go.Proofs.Ytmhcpiafhbnclaa
