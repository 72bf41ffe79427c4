/-
  A block of memory that holds blocks, one behind the other: what a store of a block, or of a byte, makes of it; ashlarref00.WideBlocks, LeftBlocks, Blocks, CopyBlocks.
-/
import Derived.Test.YtfemlaombdeebaaDoorBlkA
namespace Go.Proofs.YtfemlaombdeebaaDoor
open Go.RowKit
set_option linter.unusedVariables false

/-- Block g holds just these blocks, none frozen. -/
def HoldsB (w : World) (g : Nat) (bs : List Blk) : Prop := w.heap[g]? = some (.cells (flat bs).toArray 38 (0, 0))
theorem flat_split {bs : List Blk} {k : Nat} (hk : k < bs.length) : flat bs = flat (bs.take k) ++ (cel (bs.getD k zeroB) ++ flat (bs.drop (k + 1))) := by
  have h1 : bs = bs.take k ++ (bs.getD k zeroB :: bs.drop (k + 1)) := by
    rw [List.getD, List.getElem?_eq_getElem hk, Option.getD_some, List.getElem_cons_drop, List.take_append_drop]
  conv => lhs; rw [h1]
  rw [flat_append, flat_cons]
theorem flat_set {bs : List Blk} {k : Nat} (hk : k < bs.length) (c : Blk) : flat (bs.set k c) = flat (bs.take k) ++ (cel c ++ flat (bs.drop (k + 1))) := by
  have h2 : bs.set k c = bs.take k ++ (c :: bs.drop (k + 1)) := List.set_eq_take_append_cons_drop.trans (by rw [if_pos hk])
  rw [h2, flat_append, flat_cons]
theorem heap_write (g : Nat) (t : TypeId) (post : List Value) : ∀ (vs mid pre : List Value) (w : World), mid.length = vs.length → w.heap[g]? = some (.cells (pre ++ mid ++ post).toArray t (0, 0)) →
    (w.setCells g pre.length vs).heap[g]? = some (.cells (pre ++ vs ++ post).toArray t (0, 0))
  | [], mid, pre, w, h, hg => by
    have : mid = [] := List.eq_nil_of_length_eq_zero h
    subst this
    exact hg
  | v :: vs, mid, pre, w, h, hg => by
    match mid, h with
    | m :: ms, h =>
      rw [World.setCells]
      have h1 := heap_setCell_same w g pre.length _ t v hg
      have hset : (pre ++ m :: ms ++ post).toArray.setIfInBounds pre.length v = ((pre ++ [v]) ++ ms ++ post).toArray := by
        rw [List.setIfInBounds_toArray]
        congr 1
        rw [List.append_assoc, List.set_append_right _ _ (by simp), Nat.sub_self]
        simp
      rw [hset] at h1
      have := heap_write g t post vs ms (pre ++ [v]) _ (by simpa using h) h1
      rw [List.length_append, List.length_singleton] at this
      rw [this]
      simp
section
variable {w w' : World} {g k B : Nat} {bs : List Blk} {c : Blk}
theorem HoldsB.lt (h : HoldsB w g bs) : g < w.heap.size := (Array.getElem?_eq_some_iff.1 h).1
theorem HoldsB.of_block (h : HoldsB w g bs) (e : w'.heap[g]? = w.heap[g]?) : HoldsB w' g bs := e.trans h
theorem HoldsB.below (h : HoldsB w g bs) (hb : Below w.heap.size w w') : HoldsB w' g bs := h.of_block (hb.block g h.lt)
theorem HoldsB.store (h : HoldsB w g bs) (hk : k < bs.length) (c : Blk) : HoldsB (w.setCells g (k * 64) (cel c)) g (bs.set k c) := by
  unfold HoldsB at *
  rw [flat_split hk, ← List.append_assoc] at h
  have := heap_write g _ (flat (bs.drop (k + 1))) (cel c) _ _ w (by rw [cel_length, cel_length]) h
  rw [flat_length, List.length_take, Nat.min_eq_left (by omega)] at this
  rw [this, flat_set hk, List.append_assoc]
theorem HoldsB.byte (h : HoldsB w g bs) (hk : k < bs.length) {r : Nat} (hr : r < 64) (u : UInt8) : HoldsB (w.setCell ⟨g, k * 64 + r, none⟩ (.int .u8 (u.toNat : Int))) g (bs.set k ((bs.getD k zeroB).set r u)) := by
  unfold HoldsB at *
  rw [heap_setCell_same w g _ _ _ _ h, flat_set hk, ← cel_set _ hr, flat_split hk, List.setIfInBounds_toArray]
  congr 3
  have hl : (flat (bs.take k)).length = k * 64 := by rw [flat_length, List.length_take, Nat.min_eq_left (by omega)]
  rw [List.set_append_right _ _ (by omega), hl, Nat.add_sub_cancel_left, List.set_append_left _ _ (by rw [cel_length]; exact hr)]
theorem HoldsB.cell (h : HoldsB w g bs) (j : Nat) : w.cell? ⟨g, j, none⟩ = (flat bs)[j]? := by
  rw [cell_of_row w g j _ _ (0, 0) h]
  simp
theorem HoldsB.frozen (h : HoldsB w g bs) (j : Nat) : w.frozen? ⟨g, j, none⟩ = false := frozen_of_row w g j _ _ h
theorem HoldsB.byteAt (h : HoldsB w g bs) (hk : k < bs.length) {r : Nat} (hr : r < 64) : w.cell? ⟨g, k * 64 + r, none⟩ = some (.int .u8 (byt (bs.getD k zeroB) r)) := by
  rw [h.cell, flat_at bs hk hr, cel_at _ hr]
theorem HoldsB.there (h : HoldsB w g bs) (hk : k < bs.length) : w.there g (k * 64) 64 := fun j hj => ⟨by rw [h.byteAt hk hj]; rfl, h.frozen _⟩
theorem HoldsB.rd (h : HoldsB w g bs) (m : Nat) (hm : m ≤ bs.length) : RdB w w.heap.size (some ⟨g, 0, none⟩) m (bs.take m) := by
  have : RdB w w.heap.size (some ⟨g, 0, none⟩) bs.length bs := rdB_of h.lt fun j v hj => by rw [Nat.zero_add, h.cell]; exact hj
  exact this.head hm
end

section
variable {ρ : Operand → Value} {o : Oper} {x y : Operand} {w : World} {n : Nat}
theorem exec_make (ho : o.op = .makeSlice 22 x y) (hx : ρ x = .int .i64 (n : Int)) (hy : ρ y = .int .i64 (n : Int)) (hn : n ≤ 4398046511104) :
    (execOp ρ o).run Tryd.prog w = .ok (.value (.slice (some ⟨w.heap.size, 0, none⟩) n n)) (w.alloc (.cells (madeCells (cel zeroB).toArray (n * 64)) 38)) := by
  obtain ⟨i0, hi, hz0, hz1, hz2⟩ := info_parts infoB
  have hr := run_make (P := Tryd.prog) w 22 38 i0 (blk zeroB) underS hi hz0 .i64 .i64 n n (by omega) (Int.le_refl _) (by rw [hz2]; omega) (by omega)
  rw [hz1, cells_blk] at hr
  simp only [Int.toNat_natCast] at hr
  unfold execOp
  simp only [ho, hx, hy, Sem.run_bind, hr, Result.andThen_ok, Sem.run_pure]
end
theorem flat_zeros (n : Nat) : (flat (List.replicate n zeroB)).toArray = madeCells (cel zeroB).toArray (n * 64) := by
  apply Array.ext
  · rw [size_madeCells, List.size_toArray, flat_length, List.length_replicate]
  · intro j h1 h2
    rw [size_madeCells] at h2
    have hk : j / 64 < (List.replicate n zeroB).length := by rw [List.length_replicate]; omega
    have := flat_at (List.replicate n zeroB) hk (j := j % 64) (by omega)
    rw [show j / 64 * 64 + j % 64 = j from by omega] at this
    have hz : (List.replicate n zeroB).getD (j / 64) zeroB = zeroB := by
      rw [List.getD, List.getElem?_replicate]
      split <;> rfl
    rw [hz, cel_at zeroB (by omega)] at this
    have hc := cel_at zeroB (j := j % 64) (by omega)
    have e1 : (flat (List.replicate n zeroB)).toArray[j] = .int .u8 (byt zeroB (j % 64)) := by
      rw [List.getElem?_eq_getElem (by simpa using h1)] at this
      simpa using this
    have e2 : (madeCells (cel zeroB).toArray (n * 64))[j]'(by rw [size_madeCells]; exact h2) = .int .u8 (byt zeroB (j % 64)) := by
      have hj : j % 64 < (cel zeroB).length := by rw [cel_length]; omega
      rw [List.getElem?_eq_getElem hj] at hc
      simp only [madeCells, Array.getElem_map, Array.getElem_range, List.size_toArray, cel_length]
      rw [getElem!_pos (cel zeroB).toArray (j % 64) (by simpa using hj)]
      simpa using hc
    rw [e1, e2]
theorem holdsB_made (w : World) (n : Nat) : HoldsB (w.alloc (.cells (madeCells (cel zeroB).toArray (n * 64)) 38)) w.heap.size (List.replicate n zeroB) := by
  unfold HoldsB
  rw [heap_alloc_new, flat_zeros]
end Go.Proofs.YtfemlaombdeebaaDoor
