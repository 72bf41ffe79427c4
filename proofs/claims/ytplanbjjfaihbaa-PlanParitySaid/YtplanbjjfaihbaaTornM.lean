/-
  Four blocks laid one behind the other; a block that is torn.
-/
import Derived.Test.YtplanbjjfaihbaaBlkW
namespace Go.Proofs.Ytplanbjjfaihbaa
open Go.RowKit
set_option maxRecDepth 100000
set_option linter.unusedVariables false

/-- Four blocks laid one behind the other. -/
def four_ (w : World) (a b c d : Blk) : World := (((w.alloc (.cells (cel a).toArray 34)).alloc (.cells (cel b).toArray 34)).alloc (.cells (cel c).toArray 34)).alloc (.cells (cel d).toArray 34)
theorem laid4 (w : World) (a b c d : Blk) : (four_ w a b c d).rangeAt w.heap.size 0 (cel a) ∧ (four_ w a b c d).rangeAt (w.heap.size + 1) 0 (cel b) ∧ (four_ w a b c d).there (w.heap.size + 1 + 1) 0 64 ∧
    (four_ w a b c d).rowIs (w.heap.size + 1 + 1 + 1) 34 64 (fun j => .int .u8 (byt d j)) ∧ Below w.heap.size w (four_ w a b c d) := by
  unfold four_
  have e1 := World.size_alloc (w := w) (o := Obj.cells (cel a).toArray 34)
  have e2 := World.size_alloc (w := (w.alloc (.cells (cel a).toArray 34))) (o := Obj.cells (cel b).toArray 34)
  have e3 := World.size_alloc (w := (w.alloc (.cells (cel a).toArray 34)).alloc (.cells (cel b).toArray 34)) (o := Obj.cells (cel c).toArray 34)
  refine ⟨World.rangeAt_alloc (World.rangeAt_alloc (World.rangeAt_alloc (range_new w (cel a) _) _) _) _, ?_, ?_, ?_, ?_⟩
  · rw [← e1]; exact World.rangeAt_alloc (World.rangeAt_alloc (range_new _ (cel b) _) _) _
  · rw [← e1, ← e2]; exact World.there_alloc (there_new _ c _) _
  · rw [← e1, ← e2, ← e3]; exact row_new _ d _
  · exact ((((Below.refl _ w).alloc (Nat.le_refl _) _).alloc (by omega) _).alloc (by omega) _).alloc (by omega) _

/-- The first bytes of a new block, the others of an old one. -/
def torn (old now : Blk) (n : Int) : Blk := Vector.ofFn fun i => if (i.val : Int) < n then now[i] else old[i]
theorem torn_get (old now : Blk) (n : Int) (i : Nat) (h : i < 64) : (torn old now n)[i] = if (i : Int) < n then now[i] else old[i] := by simp [torn]
theorem torn_byt (old now : Blk) (n : Int) {i : Nat} (h : i < 64) : byt (torn old now n) i = if (i : Int) < n then byt now i else byt old i := by
  rw [byt_get _ h, torn_get _ _ _ _ h]
  split
  · rw [byt_get _ h]
  · rw [byt_get _ h]
theorem torn_same (a : Blk) (n : Int) : torn a a n = a := Vector.ext fun i h => by rw [torn_get _ _ _ _ h]; split <;> rfl
end Go.Proofs.Ytplanbjjfaihbaa
