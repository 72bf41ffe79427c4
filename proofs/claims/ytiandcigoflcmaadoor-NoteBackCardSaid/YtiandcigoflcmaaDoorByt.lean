/-
  Lists of bytes: pieces, a list of 64 as a block, one list laid over another one. (No program.)
-/
import Derived.Test.YtiandcigoflcmaaDoorBlk
import Derived.Laws.CopyOwn
namespace Go.Proofs.YtiandcigoflcmaaDoor
open Go.RowKit
set_option linter.unusedVariables false

/-- So many bytes from a place on. -/
def piece (b : List UInt8) (at_ k : Nat) : List UInt8 := (b.drop at_).take k
theorem length_piece {b : List UInt8} {p k : Nat} (h : p + k ≤ b.length) : (piece b p k).length = k := by simp [piece]; omega
def ofL (l : List UInt8) : Blk := Vector.ofFn fun i => l.getD i.val 0
theorem ofL_byt (l : List UInt8) {j : Nat} (h : j < 64) : byt (ofL l) j = bt l j := by
  rw [byt_get _ h]
  simp [ofL, bt]
theorem toList_ofL {l : List UInt8} (h : l.length = 64) : (ofL l).toList = l := eq_of_bt (by simp [h]) fun k hk => ofL_byt l (by simpa using hk)
theorem ofL_toList (b : Blk) : ofL b.toList = b := blk_ext fun j h => ofL_byt _ h
theorem toList_len (b : Blk) : b.toList.length = 64 := by simp

theorem bt_piece {l : List UInt8} {p k j : Nat} (h : j < k) : bt (piece l p k) j = bt l (p + j) := by
  unfold bt piece
  simp [List.getD, List.getElem?_take_of_lt h, List.getElem?_drop]
theorem piece_eq {a b : List UInt8} {p q k : Nat} (ha : p + k ≤ a.length) (hb : q + k ≤ b.length) (h : ∀ j, j < k → bt a (p + j) = bt b (q + j)) : piece a p k = piece b q k :=
  eq_of_bt (by rw [length_piece ha, length_piece hb]) fun j hj => by
    rw [length_piece ha] at hj
    rw [bt_piece hj, bt_piece hj, h j hj]
theorem of_piece_eq {a b : List UInt8} {p q k j : Nat} (h : piece a p k = piece b q k) (hj : j < k) : bt a (p + j) = bt b (q + j) := by
  rw [← bt_piece hj, ← bt_piece (l := b) hj, h]
theorem piece_mid (x y z : List UInt8) {p k : Nat} (hp : x.length = p) (hk : y.length = k) : piece (x ++ (y ++ z)) p k = y := by
  subst hp hk
  simp [piece]
theorem piece_head (y z : List UInt8) {k : Nat} (hk : y.length = k) : piece (y ++ z) 0 k = y := by
  subst hk
  simp [piece]
theorem bt_append_lo {x y : List UInt8} {j : Nat} (h : j < x.length) : bt (x ++ y) j = bt x j := by
  unfold bt
  simp [List.getD, List.getElem?_append_left h]
theorem bt_append_hi {x y : List UInt8} {j : Nat} (h : x.length ≤ j) : bt (x ++ y) j = bt y (j - x.length) := by
  unfold bt
  simp [List.getD, List.getElem?_append_right h]
theorem bt_noughts {n j : Nat} : bt (List.replicate n 0) j = 0 := by
  unfold bt
  by_cases h : j < n
  · simp [List.getD, h]
  · simp [List.getD, h]
theorem bt_splice {l x : List UInt8} {off j : Nat} (h : off + x.length ≤ l.length) : bt (splice l off x) j = if off ≤ j ∧ j < off + x.length then bt x (j - off) else bt l j := by
  unfold splice
  have h1 : (l.take off).length = off := by simp; omega
  by_cases hlo : j < off
  · rw [if_neg (by omega), bt_append_lo (by omega)]
    unfold bt
    simp [List.getD, List.getElem?_take_of_lt hlo]
  · rw [bt_append_hi (by omega), h1]
    by_cases hhi : j < off + x.length
    · rw [if_pos (by omega), bt_append_lo (by omega)]
    · rw [if_neg (by omega), bt_append_hi (by omega)]
      unfold bt
      simp only [List.getD, List.getElem?_drop]
      rw [show off + x.length + (j - off - x.length) = j from by omega]
end Go.Proofs.YtiandcigoflcmaaDoor
