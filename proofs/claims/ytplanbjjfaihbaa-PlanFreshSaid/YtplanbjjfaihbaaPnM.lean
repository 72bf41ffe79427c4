/-
  Plans, in plain mathematics: what a way reads, how many are written, which way, and its error.
-/
import Derived.Test.YtplanbjjfaihbaaBoE
import Derived.Test.YtplanbjjfaihbaaIntE
namespace Go.Proofs.Ytplanbjjfaihbaa
set_option linter.unusedVariables false

/-- Of the first i blocks: those that are written (or not) and not known. -/
def redN (w k : List Bool) (of_ : Bool) : Nat → List Int
  | 0 => []
  | i + 1 => if (w.getD i false == of_ && !k.getD i false) = true then redN w k of_ i ++ [(i : Int)] else redN w k of_ i
/-- How many of the first i are written. -/
def cntN (w : List Bool) : Nat → Nat
  | 0 => 0
  | i + 1 => if w.getD i false = true then cntN w i + 1 else cntN w i
theorem cntN_t {w : List Bool} {i : Nat} (h : w.getD i false = true) : cntN w (i + 1) = cntN w i + 1 := if_pos h
theorem cntN_f {w : List Bool} {i : Nat} (h : w.getD i false = false) : cntN w (i + 1) = cntN w i := if_neg (by rw [h]; decide)
theorem redN_t {w k : List Bool} {o : Bool} {i : Nat} (h : (w.getD i false == o && !k.getD i false) = true) : redN w k o (i + 1) = redN w k o i ++ [(i : Int)] := if_pos h
theorem redN_f {w k : List Bool} {o : Bool} {i : Nat} (h : (w.getD i false == o && !k.getD i false) = false) : redN w k o (i + 1) = redN w k o i := if_neg (by rw [h]; decide)
theorem cntN_le (w : List Bool) : ∀ i, cntN w i ≤ i
  | 0 => Nat.le_refl _
  | i + 1 => by
    have := cntN_le w i
    unfold cntN
    split <;> omega
theorem redN_lt {w k : List Bool} {o : Bool} : ∀ {i : Nat} {x : Int}, x ∈ redN w k o i → 0 ≤ x ∧ x < i
  | 0, x, h => by cases h
  | i + 1, x, h => by
    unfold redN at h
    split at h
    · rcases List.mem_append.1 h with h | h
      · have := redN_lt h; omega
      · have := List.mem_singleton.1 h; omega
    · have := redN_lt h; omega
theorem redN_sub {w k : List Bool} {o : Bool} {x : Int} {i : Nat} (h : x ∈ redN w k o i) : ∀ j, x ∈ redN w k o (i + j)
  | 0 => h
  | j + 1 => by
    have := redN_sub h j
    show x ∈ redN w k o (i + j + 1)
    unfold redN
    split
    · exact List.mem_append.2 (.inl this)
    · exact this
theorem redN_len {w k : List Bool} {o : Bool} : ∀ i, (redN w k o i).length ≤ i
  | 0 => Nat.le_refl _
  | i + 1 => by
    have := redN_len (w := w) (k := k) (o := o) i
    unfold redN
    split
    · rw [List.length_append, List.length_singleton]; omega
    · omega
def redL (w k : List Bool) (o : Bool) : List Int := redN w k o w.length
/-- Does a way read what is lost? -/
def hitB (w k : List Bool) (o : Bool) (lost : Int) : Bool := decide (lost ∈ redL w k o)
theorem hit_of {w k : List Bool} {o : Bool} {lost : Int} {i : Nat} (h : lost ∈ redN w k o i) (hi : i ≤ w.length) : hitB w k o lost = true := by
  refine decide_eq_true ?_
  have := redN_sub h (w.length - i)
  rwa [show i + (w.length - i) = w.length from by omega] at this
def redR (w k : List Bool) (o : Bool) (lost : Int) : List Int := if hitB w k o lost = true then [] else redL w k o
def plQ (w k : List Bool) (lost : Int) : Bool := decide (2 ≤ w.length ∧ w.length ≤ 15 ∧ k.length = w.length ∧ cntN w w.length ≠ 0 ∧ -1 ≤ lost ∧ lost ≤ w.length)
def plE (w k : List Bool) (lost : Int) : Int := if plQ w k lost = true then 0 else 2
/-- What the way by differences reads: the parity, too, where it is not known. -/
def delL (w k : List Bool) (par : Bool) (lost : Int) : List Int := if hitB w k true lost = true then [] else if par = true then redL w k true else redL w k true ++ [(w.length : Int)]
def restB (w k : List Bool) (par : Bool) (lost : Int) : Bool := hitB w k true lost || (!hitB w k false lost && decide ((redR w k false lost).length ≤ (delL w k par lost).length))
def plW (w k : List Bool) (par : Bool) (lost : Int) : Int :=
  if plQ w k lost = true then (if lost = w.length then 1 else if cntN w w.length = w.length then 2 else if restB w k par lost = true then 3 else 4) else 0
def plR (w k : List Bool) (par : Bool) (lost : Int) : List Int :=
  if plQ w k lost = true then (if lost = w.length then [] else if cntN w w.length = w.length then [] else if restB w k par lost = true then redR w k false lost else delL w k par lost) else []
end Go.Proofs.Ytplanbjjfaihbaa
