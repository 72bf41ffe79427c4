/-
  What blocks against each other come to: no memory.
-/
import Derived.Test.YtplanbjjfaihbaaWallFold
namespace Go.Proofs.Ytplanbjjfaihbaa
open Go.RowKit

theorem bx_get (a b : Blk) (i : Nat) (h : i < 64) : (bx a b)[i] = a[i] ^^^ b[i] := by simp [bx]
theorem zero_get (i : Nat) (h : i < 64) : zeroB[i] = 0 := by simp [zeroB]
theorem bx_comm (a b : Blk) : bx a b = bx b a := Vector.ext fun i h => by rw [bx_get, bx_get, UInt8.xor_comm]
theorem bx_assoc (a b c : Blk) : bx (bx a b) c = bx a (bx b c) := Vector.ext fun i h => by rw [bx_get, bx_get, bx_get, bx_get, UInt8.xor_assoc]
theorem bx_zero (a : Blk) : bx a zeroB = a := Vector.ext fun i h => by rw [bx_get, zero_get, UInt8.xor_zero]
theorem zero_bx (a : Blk) : bx zeroB a = a := by rw [bx_comm, bx_zero]
theorem bx_self (a : Blk) : bx a a = zeroB := Vector.ext fun i h => by rw [bx_get, zero_get, UInt8.xor_self]
theorem bx_left (a b c : Blk) : bx a (bx b c) = bx b (bx a c) := by rw [← bx_assoc, bx_comm a b, bx_assoc]
theorem bx_cancel (a b : Blk) : bx a (bx a b) = b := by rw [← bx_assoc, bx_self, zero_bx]
theorem bx_eq_zero (a b : Blk) : bx a b = zeroB ↔ a = b := by
  constructor
  · intro h
    have := congrArg (bx a) h
    rw [bx_cancel, bx_zero] at this
    exact this.symm
  · rintro rfl
    exact bx_self _
theorem foldl_bx (l : List Blk) (a : Blk) : l.foldl bx a = bx a (fold l) := by
  unfold fold
  induction l generalizing a with
  | nil => simp [bx_zero]
  | cons x l ih => rw [List.foldl_cons, List.foldl_cons, ih, ih (bx zeroB x), zero_bx, bx_assoc]
theorem fold_nil : fold [] = zeroB := rfl
theorem fold_cons (x : Blk) (l : List Blk) : fold (x :: l) = bx x (fold l) := by
  show (x :: l).foldl bx zeroB = _
  rw [List.foldl_cons, foldl_bx, zero_bx]
theorem fold_append (a b : List Blk) : fold (a ++ b) = bx (fold a) (fold b) := by
  show (a ++ b).foldl bx zeroB = _
  rw [List.foldl_append, foldl_bx]
  rfl
theorem fold_one (x : Blk) : fold [x] = x := by rw [fold_cons, fold_nil, bx_zero]
theorem fold_reverse (l : List Blk) : fold l.reverse = fold l := by
  induction l with
  | nil => rfl
  | cons x l ih => rw [List.reverse_cons, fold_append, ih, fold_one, fold_cons, bx_comm]
/-- What the others tell of the n-th one, and the error. -/
def mis (l : List Blk) (n : Int) : Blk × Int := if 0 ≤ n ∧ n < l.length then (fold (l.eraseIdx n.toNat), 0) else (zeroB, 2)
theorem mis_in {l : List Blk} {k : Nat} (h : k < l.length) : mis l (k : Int) = (fold (l.eraseIdx k), 0) := by
  unfold mis
  rw [if_pos (by omega)]
  rfl
theorem mis_out {l : List Blk} {n : Int} (h : n < 0 ∨ (l.length : Int) ≤ n) : mis l n = (zeroB, 2) := by
  unfold mis
  rw [if_neg (by omega)]
theorem fold_erase (l : List Blk) (k : Nat) : fold (l.eraseIdx k) = bx (fold (l.take k)) (fold (l.drop (k + 1))) := by
  rw [List.eraseIdx_eq_take_drop_succ, fold_append]
theorem erase_snoc {l : List Blk} {j k : Nat} (h : j < l.length) (hne : j ≠ k) : fold ((l.take (j + 1)).eraseIdx k) = bx (fold ((l.take j).eraseIdx k)) (l.getD j zeroB) := by
  rw [List.take_add_one, List.getElem?_eq_getElem h, List.getD, List.getElem?_eq_getElem h]
  simp only [Option.toList_some, Option.getD_some]
  have hlen : (l.take j).length = j := by rw [List.length_take]; omega
  rcases Nat.lt_or_ge k j with hk | hk
  · rw [List.eraseIdx_append_of_lt_length (by omega), fold_append, fold_one]
  · rw [List.eraseIdx_of_length_le (by simp; omega), List.eraseIdx_of_length_le (by omega), fold_append, fold_one]
theorem erase_same {l : List Blk} {j : Nat} (h : j < l.length) : (l.take (j + 1)).eraseIdx j = (l.take j).eraseIdx j := by
  have hlen : (l.take j).length = j := by rw [List.length_take]; omega
  rw [List.take_add_one, List.getElem?_eq_getElem h, List.eraseIdx_append_of_length_le (by omega), List.eraseIdx_of_length_le (Nat.le_of_eq hlen), hlen]
  simp
/-- Each block of a row whose parity stands in it is what the others come to. -/
theorem mis_row {l : List Blk} (h : fold l = zeroB) {k : Nat} (hk : k < l.length) : fold (l.eraseIdx k) = l.getD k zeroB := by
  rw [fold_erase]
  have h1 : l = l.take k ++ (l.getD k zeroB :: l.drop (k + 1)) := by
    rw [List.getD, List.getElem?_eq_getElem hk, Option.getD_some, List.getElem_cons_drop, List.take_append_drop]
  rw [h1, fold_append, fold_cons, bx_left] at h
  exact ((bx_eq_zero _ _).1 h).symm
theorem fold_set {l : List Blk} {k : Nat} (hk : k < l.length) (c : Blk) : fold (l.set k c) = bx (fold l) (bx (l.getD k zeroB) c) := by
  have h1 : l = l.take k ++ (l.getD k zeroB :: l.drop (k + 1)) := by
    rw [List.getD, List.getElem?_eq_getElem hk, Option.getD_some, List.getElem_cons_drop, List.take_append_drop]
  have h2 : l.set k c = l.take k ++ (c :: l.drop (k + 1)) := List.set_eq_take_append_cons_drop.trans (by rw [if_pos hk])
  rw [h2]
  conv => rhs; arg 1; rw [h1]
  rw [fold_append, fold_cons, fold_append, fold_cons, bx_assoc, bx_assoc, bx_left (fold (l.drop (k + 1))), bx_cancel, bx_comm c]
theorem zero_byt (j : Nat) (h : j < 64) : byt zeroB j = 0 := by rw [byt_get _ h, zero_get _ h]; rfl
end Go.Proofs.Ytplanbjjfaihbaa
