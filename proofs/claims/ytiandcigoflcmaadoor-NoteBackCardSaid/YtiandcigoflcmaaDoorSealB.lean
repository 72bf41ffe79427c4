/-
  Bodies of sealed sectors: 0s behind them; a sealed sector is that of its number and its body. (Out of layer 8's plain mathematics.)
-/
import Derived.Test.YtiandcigoflcmaaDoorSealM
namespace Go.Proofs.YtiandcigoflcmaaDoor
open Go.RowKit
set_option linter.unusedVariables false

/-- May an event be? -/
def evB (n : Nat) : Bool := decide (1 ≤ n ∧ n ≤ 4611686018427387904)
theorem of_evB {n : Nat} (h : evB n = true) : 1 ≤ n ∧ n ≤ 4611686018427387904 := of_decide_eq_true h
theorem padL_full {b : List UInt8} (h : b.length = 44) : padL b = b := by simp [padL, h]
theorem headL_pad {b : List UInt8} (n : Nat) (h : b.length ≤ 44) : headL n (padL b) = headL n b := by unfold headL; rw [padL_full (padL_length h)]
theorem sealL_pad {b : List UInt8} (n : Nat) (h : b.length ≤ 44) : sealL n (padL b) = sealL n b := by unfold sealL; rw [headL_pad n h]
theorem val_dig {k n : Nat} (h : n < 2 ^ (8 * k)) : val 8 (digL 8 k n) = n := by rw [val_digL (by omega), Nat.mod_eq_of_lt h]
/-! A sealed sector is that of its number and its body. -/
theorem piece_cat (l : List UInt8) (p a b : Nat) : piece l p a ++ piece l (p + a) b = piece l p (a + b) := by
  unfold piece
  rw [List.take_add, List.drop_drop]
theorem dig_piece {l : List UInt8} {p k : Nat} (h : p + k ≤ l.length) : digL 8 k (val 8 (piece l p k)) = piece l p k := by
  have := digL_val (all_256 (piece l p k))
  rwa [length_piece h] at this
theorem seal_back {l : List UInt8} (hl : l.length = 64) (h : getE l = 0) : sealL (numO l) (piece l 8 44) = l := by
  obtain ⟨_, h1, h2⟩ := of_getE h
  have e1 : digL 8 8 (numO l) = piece l 0 8 := dig_piece (by omega)
  have e2 : headL (numO l) (piece l 8 44) = piece l 0 52 := by
    unfold headL
    rw [e1, padL_full (length_piece (by omega))]
    exact piece_cat l 0 8 44
  have e3 : digL 8 4 (more 0 (piece l 0 52)) = piece l 52 4 := by
    have : more 0 (piece l 0 52) = val 8 (piece l 52 4) := h2.symm
    rw [this]
    exact dig_piece (by omega)
  have e4 : digL 8 8 (numO l) = piece l 56 8 := by rw [h1]; exact dig_piece (by omega)
  unfold sealL
  rw [e2, e3, e4, piece_cat l 52 4 8, piece_cat l 0 52 12]
  unfold piece
  rw [List.drop_zero, List.take_of_length_le (by omega)]

theorem getN_lt64 (b : Blk) : getN b.toList < 18446744073709551616 := getN_lt (by simp)
theorem getB_len {b : Blk} (h : getE b.toList = 0) : (getB b.toList).length = 44 := by rw [getB_of h]; exact length_piece (by simp)
/-- A sector is that of its number and body. -/
theorem blk_back {b : Blk} (h : getE b.toList = 0) : ofL (sealL (getN b.toList) (getB b.toList)) = b := by
  rw [getN_of h, getB_of h, seal_back (by simp) h, ofL_toList]
end Go.Proofs.YtiandcigoflcmaaDoor
