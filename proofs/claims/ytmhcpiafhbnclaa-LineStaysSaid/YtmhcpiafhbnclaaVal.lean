/-
  Bytes as cells; ranges of cells, kept by whatever lies above; cells laid into a block. No type of a seat is named.
-/
import Derived.Test.YtmhcpiafhbnclaaReg
import Derived.Deep.WholeRow
namespace Go.Proofs.Ytmhcpiafhbnclaa
open Go.RowKit
set_option maxRecDepth 100000
set_option linter.unusedVariables false

/-- Bytes as cells. -/
def vals (l : List UInt8) : List Value := l.map fun u => .int .u8 (u.toNat : Int)
theorem vals_length (l : List UInt8) : (vals l).length = l.length := by simp [vals]
theorem vals_one (l : List UInt8) : ∀ v ∈ vals l, v.oneCell' = true := by
  intro v hv
  simp only [vals, List.mem_map] at hv
  obtain ⟨u, _, rfl⟩ := hv
  rfl
theorem vals_at {l : List UInt8} {j : Nat} (h : j < l.length) : (vals l)[j]? = some (.int .u8 (bt l j)) := by
  rw [bt_get h]
  simp [vals, h]
section
variable {w w' : World} {B b o n : Nat} {cs : List Value}
theorem range_below (h : w.rangeAt b o cs) (hb : b < B) (hw : Below B w w') : w'.rangeAt b o cs := fun j v hj => by
  rw [hw.cell (p := ⟨b, o + j, none⟩) hb]; exact h j v hj
theorem there_below (h : w.there b o n) (hb : b < B) (hw : Below B w w') : w'.there b o n := fun j hj => by
  rw [hw.cell (p := ⟨b, o + j, none⟩) hb, hw.frozen (p := ⟨b, o + j, none⟩) hb]; exact h j hj
theorem range_new (w : World) (cs : List Value) (t : TypeId) : (w.alloc (.cells cs.toArray t)).rangeAt w.heap.size 0 cs := fun j v hj => by
  rw [cell_of_row _ _ (0 + j) cs.toArray t (0, 0) (heap_alloc_new w _)]
  simpa using hj
theorem blk_setCells (b : Nat) : ∀ (vs : List Value) (o : Nat) (w : World) (k : Nat), k ≠ b → (w.setCells b o vs).heap[k]? = w.heap[k]?
  | [], _, _, _, _ => rfl
  | v :: r, o, w, k, h => by
    rw [World.setCells, blk_setCells b r (o + 1) _ k h]
    exact heap_setCell_other w ⟨b, o, none⟩ k v h
theorem heap_setCells (b : Nat) : ∀ (vs : List Value) (o : Nat) (w : World), (w.setCells b o vs).heap.size = w.heap.size ∧ (w.setCells b o vs).os = w.os ∧ (w.setCells b o vs).tape = w.tape ∧ (w.setCells b o vs).output = w.output
  | [], _, _ => ⟨rfl, rfl, rfl, rfl⟩
  | v :: r, o, w => by
    have h := heap_setCells b r (o + 1) (w.setCell ⟨b, o, none⟩ v)
    rw [World.setCells]
    refine ⟨h.1.trans ?_, h.2.1.trans rfl, h.2.2.1.trans rfl, h.2.2.2.trans rfl⟩
    simp [World.setCell]
theorem below_setCells {a : World} (h : Below B a w) {b o : Nat} (hb : B ≤ b) (vs : List Value) : Below B a (w.setCells b o vs) := by
  obtain ⟨h1, h2, h3, h4⟩ := heap_setCells b vs o w
  exact ⟨h2.trans h.os, h3.trans h.tape, h4.trans h.output, by rw [h1]; exact h.size, fun k hk => (blk_setCells b vs o w k (by omega)).trans (h.block k hk)⟩
end
end Go.Proofs.Ytmhcpiafhbnclaa
