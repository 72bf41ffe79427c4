/-
  Marks as plain values, no program: which may be, their bytes, what is told of bytes.
-/
import Derived.Test.YtmdpbnolgbfaeaaDoorCod
namespace Go.Proofs.YtmdpbnolgbfaeaaDoor
open Go.RowKit
set_option linter.unusedVariables false

/-- A mark. -/
structure Mrk where
  id : Nat
  ring : Int
  first : Nat
  pos : Nat
deriving DecidableEq
/-- A mark with its count. -/
structure Mk where
  n : Nat
  m : Mrk
deriving DecidableEq
def zeroM : Mrk := ⟨0, 0, 0, 0⟩
/-- The numbers fit their types. -/
def Mrk.fit (x : Mrk) : Prop := x.id < 18446744073709551616 ∧ x.first < 18446744073709551616 ∧ x.pos < 18446744073709551616
/-- May a mark be? -/
def mrkB (x : Mrk) : Bool := decide (x.id ≠ 0 ∧ 40 ≤ x.ring ∧ x.ring ≤ 256 ∧ 1 ≤ x.first ∧ x.first ≤ 4611686018427387904 ∧ x.pos ≤ 4611686018427387904)
theorem of_mrkB {x : Mrk} (h : mrkB x = true) : x.id ≠ 0 ∧ 40 ≤ x.ring ∧ x.ring ≤ 256 ∧ 1 ≤ x.first ∧ x.first ≤ 4611686018427387904 ∧ x.pos ≤ 4611686018427387904 := of_decide_eq_true h
/-- Its bytes. -/
def bodyM (x : Mrk) : List UInt8 := digL 8 8 x.id ++ (digL 8 2 x.ring.toNat ++ (digL 8 8 x.first ++ digL 8 8 x.pos))
theorem bodyM_length (x : Mrk) : (bodyM x).length = 26 := by simp [bodyM, length_digL]
/-- What is told of a body. -/
def toldM (l : List UInt8) : Mrk := ⟨val 8 (piece l 0 8), (val 8 (piece l 8 2) : Nat), val 8 (piece l 10 8), val 8 (piece l 18 8)⟩
def fullM (x : Mrk) : List UInt8 := padL (bodyM x)
theorem fullM_length (x : Mrk) : (fullM x).length = 44 := padL_length (by rw [bodyM_length]; omega)
section
variable (x : Mrk)
private theorem pcM (a b c : List UInt8) {p k : Nat} (h : fullM x = a ++ (b ++ c)) (hp : a.length = p) (hk : b.length = k) : piece (fullM x) p k = b := by rw [h]; exact piece_mid _ _ _ hp hk
theorem fullM_0 : piece (fullM x) 0 8 = digL 8 8 x.id := by
  unfold fullM padL bodyM
  rw [List.append_assoc]
  exact piece_head _ _ (length_digL _ _ _)
theorem fullM_8 : piece (fullM x) 8 2 = digL 8 2 x.ring.toNat :=
  pcM x (digL 8 8 x.id) _ _ (by unfold fullM padL bodyM; simp only [List.append_assoc]; rfl) (by simp [length_digL]) (by simp [length_digL])
theorem fullM_10 : piece (fullM x) 10 8 = digL 8 8 x.first :=
  pcM x (digL 8 8 x.id ++ digL 8 2 x.ring.toNat) _ _ (by unfold fullM padL bodyM; simp only [List.append_assoc]; rfl) (by simp [length_digL]) (by simp [length_digL])
theorem fullM_18 : piece (fullM x) 18 8 = digL 8 8 x.pos :=
  pcM x (digL 8 8 x.id ++ digL 8 2 x.ring.toNat ++ digL 8 8 x.first) _ _ (by unfold fullM padL bodyM; simp only [List.append_assoc]; rfl) (by simp [length_digL]) (by simp [length_digL])
end
/-- What is laid is told. -/
theorem told_fullM {x : Mrk} (hf : x.fit) (h : mrkB x = true) : toldM (fullM x) = x := by
  obtain ⟨_, h1, h2, _, _, _⟩ := of_mrkB h
  obtain ⟨f1, f2, f3⟩ := hf
  obtain ⟨id, ring, first, pos⟩ := x
  simp only at *
  unfold toldM
  rw [fullM_0, fullM_8, fullM_10, fullM_18]
  simp only
  rw [val_dig (k := 8) (n := id) (by omega), val_dig (k := 2) (n := ring.toNat) (by omega), val_dig (k := 8) (n := first) (by omega), val_dig (k := 8) (n := pos) (by omega)]
  have e1 : ((ring.toNat : Nat) : Int) = ring := by omega
  rw [e1]
theorem told_fitM {l : List UInt8} (h : l.length = 44) : (toldM l).fit :=
  ⟨val_piece_lt (b := l) (p := 0) (k := 8) (by omega), val_piece_lt (b := l) (p := 10) (k := 8) (by omega), val_piece_lt (b := l) (p := 18) (k := 8) (by omega)⟩
/-- The bytes of what is told are the first 26. -/
theorem body_toldM {l : List UInt8} (h : l.length = 44) : bodyM (toldM l) = piece l 0 26 := by
  unfold bodyM toldM
  simp only [Int.toNat_natCast]
  rw [dig_piece (by omega), dig_piece (by omega), dig_piece (by omega), dig_piece (by omega)]
  rw [show (18 : Nat) = 10 + 8 from rfl, piece_cat l 10 8 8, show (10 : Nat) = 8 + 2 from rfl, piece_cat l 8 2 (8 + 8), show (8 : Nat) = 0 + 8 from rfl]
  exact piece_cat l 0 8 18
/-- They are all, just if the others are 0. -/
theorem full_toldM {l : List UInt8} (h : l.length = 44) : fullM (toldM l) = l ↔ ∀ j, 26 ≤ j → j < 44 → bt l j = 0 := by
  unfold fullM
  rw [body_toldM h]
  have hl : (piece l 0 26).length = 26 := length_piece (by omega)
  have hat : ∀ j, j < 44 → bt (padL (piece l 0 26)) j = if j < 26 then bt l j else 0 := by
    intro j hj
    unfold padL
    by_cases h26 : j < 26
    · rw [if_pos h26]
      have : bt (piece l 0 26 ++ List.replicate (44 - (piece l 0 26).length) 0) j = bt (piece l 0 26) j := by
        unfold bt
        simp [List.getD, List.getElem?_append_left (show j < (piece l 0 26).length by omega)]
      rw [this, bt_piece h26, Nat.zero_add]
    · rw [if_neg h26]
      unfold bt
      simp only [List.getD, List.getElem?_append_right (show (piece l 0 26).length ≤ j by omega), hl, List.getElem?_replicate]
      split <;> rfl
  constructor
  · intro e j h1 h2
    have := hat j h2
    rw [e, if_neg (by omega)] at this
    exact this
  · intro hz
    refine eq_of_bt (by rw [padL_length (by omega), h]) fun j hj => ?_
    rw [padL_length (by omega)] at hj
    rw [hat j hj]
    by_cases h26 : j < 26
    · rw [if_pos h26]
    · rw [if_neg h26, hz j (by omega) hj]
theorem zeroM_no : mrkB zeroM = false := by decide
/-- Marks in sealed sectors. -/
def codM : Cod Mk where
  zero := ⟨0, zeroM⟩
  may y := evB y.n && mrkB y.m
  num y := y.n
  body y := bodyM y.m
  told n l := ⟨n, toldM l⟩
  fits y := y.n < 18446744073709551616 ∧ y.m.fit
  may_num y h := by
    rw [Bool.and_eq_true] at h
    exact of_evB h.1
  len y := by rw [bodyM_length]; omega
  back y hf h := by
    rw [Bool.and_eq_true] at h
    obtain ⟨n, m⟩ := y
    have := told_fullM hf.2 h.2
    simp only at this ⊢
    unfold fullM at this
    rw [this]
  num_told _ _ := rfl
  fits_told n l h hn := ⟨hn, told_fitM h⟩
  zero_no := by decide
  zero_num := rfl
  zero_fits := ⟨by decide, by decide, by decide, by decide⟩
theorem codM_may {n : Nat} {m : Mrk} : codM.may ⟨n, m⟩ = (evB n && mrkB m) := rfl
end Go.Proofs.YtmdpbnolgbfaeaaDoor
