/-
  Values that stand in sealed sectors (marks, notes), no program: what is put, what is got, what is the newest, what a torn one comes to.
-/
import Derived.Test.YtiandcigoflcmaaDoorSealB
namespace Go.Proofs.YtiandcigoflcmaaDoor
open Go.RowKit
set_option linter.unusedVariables false

/-- A kind of values that stand in sealed sectors: which may be, each one's number and body, what is told of a number and a body. -/
structure Cod (Y : Type) where
  zero : Y
  may : Y → Bool
  num : Y → Nat
  body : Y → List UInt8
  told : Nat → List UInt8 → Y
  fits : Y → Prop
  may_num : ∀ y, may y = true → 1 ≤ num y ∧ num y ≤ 4611686018427387904
  len : ∀ y, (body y).length ≤ 44
  back : ∀ y, fits y → may y = true → told (num y) (padL (body y)) = y
  num_told : ∀ n l, num (told n l) = n
  fits_told : ∀ n l, l.length = 44 → n < 18446744073709551616 → fits (told n l)
  zero_no : may zero = false
  zero_num : num zero = 0
  zero_fits : fits zero
namespace Cod
variable {Y : Type} (C : Cod Y)
/-- A value's bytes with 0s behind them. -/
def full (y : Y) : List UInt8 := padL (C.body y)
theorem full_length (y : Y) : (C.full y).length = 44 := padL_length (C.len y)
/-! Put. -/
def pE (y : Y) : Nat := if C.may y = true then 0 else 2
def pB (y : Y) : Blk := if C.may y = true then putB (C.num y) (C.body y) else zeroB
theorem pE_ok {y : Y} (h : C.may y = true) : C.pE y = 0 := if_pos h
theorem pB_ok {y : Y} (h : C.may y = true) : C.pB y = putB (C.num y) (C.body y) := if_pos h
theorem pE_no {y : Y} (h : ¬ C.may y = true) : C.pE y = 2 := if_neg h
theorem pB_no {y : Y} (h : ¬ C.may y = true) : C.pB y = zeroB := if_neg h
theorem of_pE {y : Y} (h : C.pE y = 0) : C.may y = true := by
  unfold pE at h
  split at h
  · assumption
  · omega
theorem putE_full (n : Nat) (y : Y) : putE n (C.full y) = putE n (C.body y) := by
  have h1 := C.full_length y
  have h2 := C.len y
  unfold putE
  rw [if_neg (show ¬ 44 < (C.full y).length by omega), if_neg (show ¬ 44 < (C.body y).length by omega)]
theorem putB_full (n : Nat) (y : Y) : putB n (C.full y) = putB n (C.body y) := by
  unfold putB; rw [C.putE_full]; unfold full; rw [sealL_pad n (C.len y)]
theorem body_putE {n : Nat} (y : Y) (h : n ≠ 0) : putE n (C.body y) = 0 := putE_ok h (C.len y)
theorem may_putE {y : Y} (h : C.may y = true) : putE (C.num y) (C.body y) = 0 := C.body_putE y (by have := C.may_num y h; omega)
/-! Get. -/
def raw (b : Blk) : Y := C.told (getN b.toList) (getB b.toList)
def good (b : Blk) : Bool := C.may (C.raw b) && decide (C.full (C.raw b) = getB b.toList)
theorem good_iff {b : Blk} : C.good b = true ↔ C.may (C.raw b) = true ∧ C.full (C.raw b) = getB b.toList := by
  unfold good; simp
def gE (b : Blk) : Nat := if getE b.toList ≠ 0 then getE b.toList else if C.good b = true then 0 else 5
def gX (b : Blk) : Y := if C.gE b = 0 then C.raw b else C.zero
def gN (b : Blk) : Nat := C.num (C.gX b)
theorem gE_seal {b : Blk} (h : getE b.toList ≠ 0) : C.gE b = getE b.toList := if_pos h
theorem gE_form {b : Blk} (h : getE b.toList = 0) (h' : ¬ C.good b = true) : C.gE b = 5 := by
  unfold gE; rw [if_neg (by omega), if_neg h']
theorem gE_ok {b : Blk} (h : getE b.toList = 0) (h' : C.good b = true) : C.gE b = 0 := by
  unfold gE; rw [if_neg (by omega), if_pos h']
theorem of_gE {b : Blk} (h : C.gE b = 0) : getE b.toList = 0 ∧ C.may (C.raw b) = true ∧ C.full (C.raw b) = getB b.toList := by
  unfold gE at h
  split at h
  · omega
  · rename_i h0
    split at h
    · rename_i h1; exact ⟨by omega, C.good_iff.1 h1⟩
    · omega
theorem gX_of {b : Blk} (h : C.gE b = 0) : C.gX b = C.raw b := if_pos h
theorem gX_no {b : Blk} (h : C.gE b ≠ 0) : C.gX b = C.zero := if_neg h
theorem gN_of {b : Blk} (h : C.gE b = 0) : C.gN b = getN b.toList := by unfold gN; rw [C.gX_of h]; exact C.num_told _ _
theorem gN_no {b : Blk} (h : C.gE b ≠ 0) : C.gN b = 0 := by unfold gN; rw [C.gX_no h]; exact C.zero_num
theorem gX_may {b : Blk} (h : C.gE b = 0) : C.may (C.gX b) = true := by rw [C.gX_of h]; exact (C.of_gE h).2.1
theorem gN_pos {b : Blk} (h : C.gE b = 0) : 1 ≤ C.gN b := (C.may_num _ (C.gX_may h)).1
theorem gN_zero {b : Blk} : C.gN b = 0 ↔ C.gE b ≠ 0 := by
  constructor
  · intro h e
    have := C.gN_pos e
    omega
  · exact C.gN_no
theorem gN_le (b : Blk) : C.gN b ≤ 4611686018427387904 := by
  by_cases h : C.gE b = 0
  · exact (C.may_num _ (C.gX_may h)).2
  · rw [C.gN_no h]; omega
theorem gX_fits (b : Blk) : C.fits (C.gX b) := by
  by_cases h : C.gE b = 0
  · rw [C.gX_of h]
    exact C.fits_told _ _ (getB_len (C.of_gE h).1) (getN_lt64 b)
  · rw [C.gX_no h]; exact C.zero_fits
/-- It is the sector of what it tells, just if the bytes are those. -/
theorem put_same {b : Blk} (h : getE b.toList = 0) (y : Y) : putB (getN b.toList) (C.body y) = b ↔ C.full y = getB b.toList := by
  have hn : getN b.toList ≠ 0 := fun e => getN_zero.1 e h
  have hp := C.body_putE y hn
  constructor
  · intro e
    have h2 := put_getB (getN_lt64 b) hp
    rw [e] at h2
    exact h2.symm
  · intro e
    rw [putB_ok hp, ← sealL_pad _ (C.len y)]
    have : padL (C.body y) = getB b.toList := e
    rw [this]
    exact blk_back h
/-- What is put is got. -/
theorem put_get {y : Y} (hf : C.fits y) (h : C.pE y = 0) : C.gE (C.pB y) = 0 ∧ C.gX (C.pB y) = y := by
  have h1 := C.of_pE h
  have h2 := C.may_num y h1
  have hn : C.num y < 18446744073709551616 := by omega
  have hp := C.may_putE h1
  have e1 := put_getE hn hp
  have e2 := put_getN hn hp
  have e3 := put_getB hn hp
  rw [C.pB_ok h1]
  have e4 : C.raw (putB (C.num y) (C.body y)) = y := by unfold raw; rw [e2, e3]; exact C.back y hf h1
  have hE : C.gE (putB (C.num y) (C.body y)) = 0 := C.gE_ok e1 (C.good_iff.2 ⟨by rw [e4]; exact h1, by rw [e4, e3]; rfl⟩)
  exact ⟨hE, by rw [C.gX_of hE, e4]⟩
theorem put_gN {y : Y} (hf : C.fits y) (h : C.pE y = 0) : C.gN (C.pB y) = C.num y := by unfold gN; rw [(C.put_get hf h).2]
/-- What is got is put as the same sector. -/
theorem get_put {b : Blk} (h : C.gE b = 0) : C.pE (C.gX b) = 0 ∧ C.pB (C.gX b) = b := by
  obtain ⟨h1, h2, h3⟩ := C.of_gE h
  rw [C.gX_of h]
  refine ⟨C.pE_ok h2, ?_⟩
  rw [C.pB_ok h2]
  have : C.num (C.raw b) = getN b.toList := C.num_told _ _
  rw [this]
  exact (C.put_same h1 _).2 h3
theorem g_zero : C.gE zeroB = 5 := by rw [C.gE_seal (by rw [zero_getE]; omega), zero_getE]
/-! Which one is the newest. -/
def nE (a b : Blk) : Nat := if C.gN a = 0 ∧ C.gN b = 0 then 7 else 0
def nX (a b : Blk) : Y := if C.gN a < C.gN b then C.gX b else C.gX a
/-- What a torn sector comes to. -/
theorem torn_law {x y : Y} (hn : C.pE x = 0) (ho : C.pE y = 0) (hne : C.num x ≠ C.num y) (t : Int) {d : Blk} (hd : torn (C.pB y) (C.pB x) t = d) :
    (d = C.pB x ∧ 0 < t) ∨ (d = C.pB y ∧ t < 64) ∨ (C.gE d ≠ 0 ∧ t < 64) := by
  have a1 := C.of_pE hn
  have b1 := C.of_pE ho
  have hnl : C.num x < 18446744073709551616 := by have := C.may_num _ a1; omega
  have hol : C.num y < 18446744073709551616 := by have := C.may_num _ b1; omega
  have pn := C.may_putE a1
  have po := C.may_putE b1
  rw [C.pB_ok a1, C.pB_ok b1] at *
  have en := of_getE (put_getE hnl pn)
  have eo := of_getE (put_getE hol po)
  have nn : numO (putB (C.num x) (C.body x)).toList = C.num x := by rw [← getN_of (put_getE hnl pn)]; exact put_getN hnl pn
  have no : numO (putB (C.num y) (C.body y)).toList = C.num y := by rw [← getN_of (put_getE hol po)]; exact put_getN hol po
  by_cases ht : 64 ≤ t
  · left
    refine ⟨?_, by omega⟩
    rw [← hd]
    apply blk_ext
    intro j hj
    rw [torn_byt _ _ _ hj, if_pos (by omega)]
  · by_cases ht0 : t ≤ 0
    · right; left
      refine ⟨?_, by omega⟩
      rw [← hd]
      apply blk_ext
      intro j hj
      rw [torn_byt _ _ _ hj, if_neg (by omega)]
    · by_cases hg : C.gE d = 0
      · have hdd := (of_getE (C.of_gE hg).1).2.1
        rw [← hd] at hdd
        rcases torn_whole (n := t) en.2.1 eo.2.1 (by rw [nn, no]; exact hne) hdd with h | h
        · exact .inl ⟨by rw [← hd, h], by omega⟩
        · exact .inr (.inl ⟨by rw [← hd, h], by omega⟩)
      · exact .inr (.inr ⟨hg, by omega⟩)
/-- A sealed sector that is torn over the sector of 0. -/
theorem nE_of (a b : Blk) : C.nE a b = if C.gE a ≠ 0 ∧ C.gE b ≠ 0 then 7 else 0 := by
  unfold nE
  by_cases h1 : C.gE a = 0
  · have := C.gN_pos h1
    rw [if_neg (by omega), if_neg (by omega)]
  · by_cases h2 : C.gE b = 0
    · have := C.gN_pos h2
      rw [if_neg (by omega), if_neg (by omega)]
    · rw [if_pos ⟨C.gN_no h1, C.gN_no h2⟩, if_pos ⟨h1, h2⟩]
theorem nX_none {a b : Blk} (h1 : C.gN a = 0) (h2 : C.gN b = 0) : C.nX a b = C.zero := by
  unfold nX
  rw [if_neg (by omega)]
  exact C.gX_no (C.gN_zero.1 h1)
end Cod
end Go.Proofs.YtiandcigoflcmaaDoor
