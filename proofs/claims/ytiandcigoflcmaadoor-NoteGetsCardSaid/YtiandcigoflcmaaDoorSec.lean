/-
  A block of memory that holds bytes, known whole: what copy lays into it; pieces of it.
-/
import Derived.Test.YtiandcigoflcmaaDoorBlkW
import Derived.Test.YtiandcigoflcmaaDoorVal
import Derived.Test.YtiandcigoflcmaaDoorByt
import Derived.Test.YtiandcigoflcmaaDoorCells
import Derived.Laws.CopyOwn
namespace Go.Proofs.YtiandcigoflcmaaDoor
open Go.RowKit
set_option linter.unusedVariables false

theorem vals_cel (b : Blk) : vals b.toList = cel b := rfl
theorem splice_vals (l x : List UInt8) (off : Nat) : splice (vals l) off (vals x) = vals (splice l off x) := by
  unfold splice vals
  simp [List.map_take, List.map_drop]
/-- Block g holds just these bytes. -/
def RowL (w : World) (g : Nat) (t : TypeId) (l : List UInt8) : Prop := w.heap[g]? = some (.cells (vals l).toArray t (0, 0))
section
variable {w w' : World} {g : Nat} {t : TypeId} {l : List UInt8}
theorem RowL.lt (h : RowL w g t l) : g < w.heap.size := (Array.getElem?_eq_some_iff.1 h).1
theorem RowL.below {B : Nat} (h : RowL w g t l) (hB : g < B) (hb : Below B w w') : RowL w' g t l := (hb.block g hB).trans h
theorem RowL.grown {k : Nat} (h : RowL w g t l) (hk : g ≠ k) (hb : w.grownBy w' (some k)) : RowL w' g t l := (hb.block g h.lt (fun e => hk (by injection e))).trans h
theorem RowL.draw (h : RowL w g t l) : RowL w.drew g t l := h
theorem RowL.past (h : RowL w g t l) (o : Obj) : RowL (w.alloc o) g t l := blk_past h o
theorem RowL.cell (h : RowL w g t l) {j : Nat} (hj : j < l.length) : w.cell? ⟨g, j, none⟩ = some (.int .u8 (bt l j)) := by
  rw [cell_of_row w g j _ t (0, 0) h, List.getElem?_toArray, vals_at hj]
theorem RowL.rd (h : RowL w g t l) {p k : Nat} (hp : p + k ≤ l.length) : Rd w w.heap.size (some ⟨g, p, none⟩) k (piece l p k) :=
  ⟨length_piece hp, fun j hj => ⟨g, p, rfl, h.lt, by rw [h.cell (by omega), bt_piece hj]⟩⟩
theorem RowL.range (h : RowL w g t l) (hl : l.length = 64) : w.rangeAt g 0 (cel (ofL l)) := fun j v hj => by
  have hlt : j < 64 := by have := (List.getElem?_eq_some_iff.1 hj).1; rwa [cel_length] at this
  rw [Nat.zero_add, h.cell (by omega), ← hj, cel_at _ hlt, ofL_byt _ hlt]
theorem RowL.new (w : World) (l : List UInt8) (t : TypeId) : RowL (w.alloc (.cells (vals l).toArray t)) w.heap.size t l := heap_alloc_new w _
theorem RowL.blk (w : World) (b : Blk) (t : TypeId) : RowL (w.alloc (.cells (cel b).toArray t)) w.heap.size t b.toList := heap_alloc_new w _
theorem RowL.row (h : RowL w g t l) : w.rowIs g t l.length (fun j => .int .u8 (bt l j)) :=
  ⟨_, h, by simp [vals_length], fun j hj => by rw [List.getElem?_toArray, vals_at hj]⟩
theorem RowL.own (h : RowL w g 5 l) {base : Nat} (hb : base ≤ g) (hm : l.length ≤ maxLen) : Own w base (.slice (some ⟨g, 0, none⟩) l.length l.length) l :=
  Own.of_row rfl hb h.row (Nat.le_refl _) hm (fun j hj => rfl) fun j => ⟨bt_lo l j, bt_hi l j⟩
end
/-- A copy of bytes, none among them, into a block that is known whole. -/
theorem wpList_copyL {w : World} {ops : Array Oper} {rest : List Oper} {o : Oper} {a : Act} {Q : Exit → Act → World → Prop} (hgd : o.guard = none) (d s : Operand)
    (ho : o.op = .call { callee := .builtin .copy, args := #[d, s], argTypes := #[35, 35] }) (g off n c m c' N : Nat) (A : Option Addr) (t : TypeId) (l x : List UInt8)
    (hd : a.eval d = .slice (some ⟨g, off, none⟩) n c) (hs : a.eval s = .slice A m c') (hS : RowL w g t l) (hr : Rd w N A m x) (hmn : m ≤ n) (hfit : off + m ≤ l.length)
    (h : ∀ w', RowL w' g t (splice l off x) → w.grownBy w' (some g) → wpList Tryd.prog ops Q rest (a.put o.dst (goInt m)) w') : wpList Tryd.prog ops Q (o :: rest) a w := by
  have hx := hr.1
  rcases A with _ | ad
  · have h0 : m = 0 := by
      rcases Nat.eq_zero_or_pos m with h | h
      · exact h
      · obtain ⟨b, off, e, _⟩ := hr.2 0 h
        cases e
    subst h0
    obtain rfl : x = [] := List.eq_nil_of_length_eq_zero hx
    refine wpList_copy_nothing hgd d s _ _ ho 5 Tryd.underlying35 (by kernel_rfl) _ _ _ _ _ _ hd hs (Nat.zero_min _) ?_
    exact h w (by simpa [splice] using hS) (World.grownBy.refl w _)
  · have hcl : (vals x).length = m := by rw [vals_length, hx]
    refine wpList_copy_own hgd d s _ _ ho 5 Tryd.underlying35 (by kernel_rfl) g off n c ad m c' hd hs _ t hS (vals x) (by rw [hcl]; exact (Nat.min_eq_left hmn).symm) (fun j v hj => ?_) (by simp [hcl, vals_length]; omega) (vals_one x) ?_
    · have hlt : j < m := by have := (List.getElem?_eq_some_iff.1 hj).1; omega
      obtain ⟨b, o2, e, _, hc⟩ := hr.2 j hlt
      injection e with e
      subst e
      rw [Addr.add_mid, hc, ← hj, vals_at (by omega)]
    · have hrow := setRow_heap w g (vals l).toArray ((vals l).toArray.toList.take off ++ (vals x ++ (vals l).toArray.toList.drop (off + (vals x).length))).toArray t (0, 0) hS
      have e : (vals l).toArray.toList.take off ++ (vals x ++ (vals l).toArray.toList.drop (off + (vals x).length)) = vals (splice l off x) := by
        rw [← splice_vals]
        rfl
      rw [hcl]
      rw [hcl] at hrow e
      refine h _ ?_ ⟨rfl, rfl, rfl, by simp [World.setRow], fun k hk hne => setRow_other w g k _ (fun e => hne (by rw [e]))⟩
      unfold RowL
      rw [e] at hrow ⊢
      exact hrow
end Go.Proofs.YtiandcigoflcmaaDoor
