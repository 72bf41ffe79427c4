/-
  Parities of a write, in plain mathematics: the blocks as they are behind it, the parity that is moved; that each way makes the same.
-/
import Derived.Test.YtplanbjjfaihbaaWallAlg
import Derived.Test.YtplanbjjfaihbaaPnM
namespace Go.Proofs.Ytplanbjjfaihbaa
set_option linter.unusedVariables false

def mixN (w : List Bool) (a b : List Blk) : Nat → List Blk
  | 0 => []
  | i + 1 => mixN w a b i ++ [if w.getD i false = true then b.getD i zeroB else a.getD i zeroB]
def parN (w : List Bool) (a b : List Blk) (p : Blk) : Nat → Blk
  | 0 => p
  | i + 1 => if w.getD i false = true then bx (parN w a b p i) (bx (a.getD i zeroB) (b.getD i zeroB)) else parN w a b p i
section
variable {w : List Bool} {a b : List Blk} {p q : Blk} {i : Nat}
theorem mixN_t (h : w.getD i false = true) : mixN w a b (i + 1) = mixN w a b i ++ [b.getD i zeroB] := by show mixN w a b i ++ [_] = _; rw [if_pos h]
theorem mixN_f (h : w.getD i false = false) : mixN w a b (i + 1) = mixN w a b i ++ [a.getD i zeroB] := by show mixN w a b i ++ [_] = _; rw [if_neg (by rw [h]; decide)]
theorem parN_t (h : w.getD i false = true) : parN w a b p (i + 1) = bx (parN w a b p i) (bx (a.getD i zeroB) (b.getD i zeroB)) := if_pos h
theorem parN_f (h : w.getD i false = false) : parN w a b p (i + 1) = parN w a b p i := if_neg (by rw [h]; decide)
theorem mixN_len : ∀ i, (mixN w a b i).length = i
  | 0 => rfl
  | i + 1 => by show (mixN w a b i ++ [_]).length = _; rw [List.length_append, mixN_len i]; rfl
theorem fold_mix_t (h : w.getD i false = true) : fold (mixN w a b (i + 1)) = bx (fold (mixN w a b i)) (b.getD i zeroB) := by rw [mixN_t h, fold_append, fold_one]
theorem fold_mix_f (h : w.getD i false = false) : fold (mixN w a b (i + 1)) = bx (fold (mixN w a b i)) (a.getD i zeroB) := by rw [mixN_f h, fold_append, fold_one]
theorem take_getD {l : List Blk} (h : i < l.length) : l.take (i + 1) = l.take i ++ [l.getD i zeroB] := by
  rw [List.take_add_one, List.getD, List.getElem?_eq_getElem h]
  rfl
theorem drop_getD {l : List Blk} (h : i < l.length) : l.drop i = l.getD i zeroB :: l.drop (i + 1) := by
  rw [List.getD, List.getElem?_eq_getElem h, Option.getD_some, List.getElem_cons_drop]
theorem mixN_same : ∀ i, i ≤ b.length → mixN w b b i = b.take i
  | 0, _ => rfl
  | i + 1, h => by
    show mixN w b b i ++ [_] = _
    rw [mixN_same i (by omega), take_getD (by omega), ite_self]
theorem mixN_all (hw : ∀ j, j < i → w.getD j false = true) (h : i ≤ b.length) : mixN w a b i = b.take i := by
  induction i with
  | zero => rfl
  | succ i ih => rw [mixN_t (hw i (by omega)), ih (fun j hj => hw j (by omega)) (by omega), take_getD (by omega)]
theorem parN_bx : ∀ i, parN w a b (bx p q) i = bx (parN w a b p i) q
  | 0 => rfl
  | i + 1 => by
    cases h : w.getD i false
    · rw [parN_f h, parN_f h, parN_bx i]
    · rw [parN_t h, parN_t h, parN_bx i, bx_assoc, bx_assoc, bx_comm q]
theorem par_mix : ∀ i, i ≤ a.length → parN w a b (fold (a.take i)) i = fold (mixN w a b i)
  | 0, _ => rfl
  | i + 1, h => by
    have ih := par_mix i (by omega)
    have e : fold (a.take (i + 1)) = bx (fold (a.take i)) (a.getD i zeroB) := by rw [take_getD (by omega), fold_append, fold_one]
    rw [e, parN_bx]
    cases hx : w.getD i false
    · rw [parN_f hx, fold_mix_f hx, ih]
    · rw [parN_t hx, fold_mix_t hx, ih, bx_assoc, bx_assoc, bx_comm (b.getD i zeroB) (a.getD i zeroB), bx_cancel]
/-- A block of the row behind the blocks that are mixed already is laid anew. -/
theorem mix_set (h : i < a.length) (x : Blk) : (mixN w a b i ++ a.drop i).set i x = mixN w a b i ++ x :: a.drop (i + 1) := by
  rw [drop_getD h, List.set_append_right _ _ (by rw [mixN_len]; exact Nat.le_refl _), mixN_len, Nat.sub_self]
  rfl
theorem mix_next_t (h : w.getD i false = true) : mixN w a b i ++ b.getD i zeroB :: a.drop (i + 1) = mixN w a b (i + 1) ++ a.drop (i + 1) := by rw [mixN_t h]; simp
theorem mix_next_f (hl : i < a.length) (h : w.getD i false = false) : mixN w a b i ++ a.drop i = mixN w a b (i + 1) ++ a.drop (i + 1) := by rw [mixN_f h, drop_getD hl]; simp
end
def parQ (w : List Bool) (a b : List Blk) : Bool := decide (2 ≤ w.length ∧ w.length ≤ 15 ∧ a.length = w.length ∧ b.length = w.length)
def parE (z : Int) (w : List Bool) (a b : List Blk) : Int := if parQ w a b = true then (if z = 2 ∨ z = 3 ∨ z = 4 then 0 else 2) else 2
def parB (z : Int) (w : List Bool) (a b : List Blk) (p : Blk) : Blk :=
  if parQ w a b = true then (if z = 2 then fold b else if z = 3 then fold (mixN w a b w.length) else if z = 4 then parN w a b p w.length else zeroB) else zeroB
end Go.Proofs.Ytplanbjjfaihbaa
