/-
  Blocks of memory that a walk laid: what their cells hold, kept by whatever a callee lays.
-/
import Derived.Test.YtmhcpiafhbnclaaReg
namespace Go.Proofs.Ytmhcpiafhbnclaa
open Go.RowKit
set_option maxRecDepth 100000
set_option linter.unusedVariables false

theorem wrap64_nat {n : Nat} (h : n < 9223372036854775808) : wrap64 (n : Int) = (n : Int) := by unfold wrap64; omega
/-! Blocks of memory that a walk laid: kept by whatever a callee lays. -/
theorem blk_keep {w w' : World} {b : Nat} {o : Obj} (h : w.heap[b]? = some o) (hb : Below w.heap.size w w') : w'.heap[b]? = some o := (hb.block b (Array.getElem?_eq_some_iff.1 h).1).trans h
theorem blk_keep2 {w w' : World} {B b : Nat} {o : Obj} (h : w.heap[b]? = some o) (hB : b < B) (hb : Below B w w') : w'.heap[b]? = some o := (hb.block b hB).trans h
theorem blk_past {w : World} {b : Nat} {o : Obj} (h : w.heap[b]? = some o) (o' : Obj) : (w.alloc o').heap[b]? = some o := (Below.heap_alloc w o' b (Array.getElem?_eq_some_iff.1 h).1).trans h
theorem blk_lt {w : World} {b : Nat} {o : Obj} (h : w.heap[b]? = some o) : b < w.heap.size := (Array.getElem?_eq_some_iff.1 h).1
section
variable {w : World} {b : Nat} {t : TypeId} {x y z : Value}
theorem cells2 (h : w.heap[b]? = some (.cells #[x, y] t (0, 0))) : w.cell? ⟨b, 0, none⟩ = some x ∧ w.cell? ⟨b, 1, none⟩ = some y ∧ w.frozen? ⟨b, 0, none⟩ = false ∧ w.frozen? ⟨b, 1, none⟩ = false := by
  refine ⟨?_, ?_, frozen_of_row w b 0 _ t h, frozen_of_row w b 1 _ t h⟩
  · rw [cell_of_row w b 0 _ t (0, 0) h]; rfl
  · rw [cell_of_row w b 1 _ t (0, 0) h]; rfl
theorem cells3 (h : w.heap[b]? = some (.cells #[x, y, z] t (0, 0))) : w.cell? ⟨b, 0, none⟩ = some x ∧ w.cell? ⟨b, 1, none⟩ = some y ∧ w.cell? ⟨b, 2, none⟩ = some z := by
  refine ⟨?_, ?_, ?_⟩
  · rw [cell_of_row w b 0 _ t (0, 0) h]; rfl
  · rw [cell_of_row w b 1 _ t (0, 0) h]; rfl
  · rw [cell_of_row w b 2 _ t (0, 0) h]; rfl
end
/-- Behind a first callee: what was boxed ahead of it stands. -/
theorem behind_g {w w1 : World} {o : Obj} (hb : Below (w.alloc o).heap.size (w.alloc o) w1) (hf : (w.alloc o).heap[w.heap.size]? = some o) : Hid (w1.heap[w.heap.size]? = some o) ∧ Hid (Below w.heap.size w w1) :=
  ⟨Lib.hid (blk_keep hf hb), Lib.hid (((Below.refl w.heap.size w).alloc (Nat.le_refl _) _).trans (hb.mono (by simp)))⟩
theorem behind_gp {w w1 : World} {o o' : Obj} (hb : Below ((w.alloc o).alloc o').heap.size ((w.alloc o).alloc o') w1) (hf : (w.alloc o).heap[w.heap.size]? = some o) (hf' : ((w.alloc o).alloc o').heap[w.heap.size + 1]? = some o') :
    Hid (w1.heap[w.heap.size]? = some o) ∧ Hid (w1.heap[w.heap.size + 1]? = some o') ∧ w.heap.size + 1 < w1.heap.size ∧ Hid (Below w.heap.size w w1) :=
  ⟨Lib.hid (blk_keep (blk_past hf o') hb), Lib.hid (blk_keep hf' hb), blk_lt (blk_keep hf' hb), Lib.hid ((((Below.refl w.heap.size w).alloc (Nat.le_refl _) _).alloc (by simp) _).trans (hb.mono (by simp; omega)))⟩
theorem new1 (w : World) (cs : Array Value) (t : TypeId) : (w.alloc (.cells cs t)).heap[w.heap.size]? = some (.cells cs t) := heap_alloc_new w _
theorem new2 (w : World) (o : Obj) (cs : Array Value) (t : TypeId) : ((w.alloc o).alloc (.cells cs t)).heap[w.heap.size + 1]? = some (.cells cs t) := by
  have := heap_alloc_new (w.alloc o) (.cells cs t)
  rwa [World.size_alloc] at this
end Go.Proofs.Ytmhcpiafhbnclaa
