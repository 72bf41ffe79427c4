/-
  Notes as plain values, no program: which may be, their bytes, what is told of bytes, which one follows.
-/
import Derived.Test.YtiandcigoflcmaaDoorCod
import Derived.Test.YtiandcigoflcmaaDoorHd
namespace Go.Proofs.YtiandcigoflcmaaDoor
open Go.RowKit
set_option linter.unusedVariables false

/-- A note. -/
structure Nte where
  seq : Nat
  pos : Nat
  cells : Int
  sum : Nat
deriving DecidableEq
def zeroNt : Nte := ⟨0, 0, 0, 0⟩
/-- The numbers fit their types. -/
def Nte.fit (x : Nte) : Prop := x.seq < 18446744073709551616 ∧ x.pos < 18446744073709551616 ∧ x.sum < 4294967296
/-- May a note be? -/
def nteB (x : Nte) : Bool := decide (1 ≤ x.seq ∧ x.seq ≤ 4611686018427387904 ∧ x.pos ≤ 4611686018427387904 ∧ 1 ≤ x.cells ∧ x.cells ≤ 32)
theorem of_nteB {x : Nte} (h : nteB x = true) : 1 ≤ x.seq ∧ x.seq ≤ 4611686018427387904 ∧ x.pos ≤ 4611686018427387904 ∧ 1 ≤ x.cells ∧ x.cells ≤ 32 := of_decide_eq_true h
theorem no_nteB {x : Nte} (h : nteB x = false) : ¬ (1 ≤ x.seq ∧ x.seq ≤ 4611686018427387904 ∧ x.pos ≤ 4611686018427387904 ∧ 1 ≤ x.cells ∧ x.cells ≤ 32) := of_decide_eq_false h
/-- Its bytes. -/
def bodyNt (x : Nte) : List UInt8 := digL 8 8 x.pos ++ (digL 8 2 x.cells.toNat ++ digL 8 4 x.sum)
theorem bodyNt_length (x : Nte) : (bodyNt x).length = 14 := by simp [bodyNt, length_digL]
/-- What is told of a number and a body. -/
def toldNt (n : Nat) (l : List UInt8) : Nte := ⟨n, val 8 (piece l 0 8), (val 8 (piece l 8 2) : Nat), val 8 (piece l 10 4)⟩
def fullNt (x : Nte) : List UInt8 := padL (bodyNt x)
theorem fullNt_length (x : Nte) : (fullNt x).length = 44 := padL_length (by rw [bodyNt_length]; omega)
section
variable (x : Nte)
private theorem pcNt (a b c : List UInt8) {p k : Nat} (h : fullNt x = a ++ (b ++ c)) (hp : a.length = p) (hk : b.length = k) : piece (fullNt x) p k = b := by rw [h]; exact piece_mid _ _ _ hp hk
theorem fullNt_0 : piece (fullNt x) 0 8 = digL 8 8 x.pos := by
  unfold fullNt padL bodyNt
  rw [List.append_assoc]
  exact piece_head _ _ (length_digL _ _ _)
theorem fullNt_8 : piece (fullNt x) 8 2 = digL 8 2 x.cells.toNat :=
  pcNt x (digL 8 8 x.pos) _ _ (by unfold fullNt padL bodyNt; simp only [List.append_assoc]; rfl) (by simp [length_digL]) (by simp [length_digL])
theorem fullNt_10 : piece (fullNt x) 10 4 = digL 8 4 x.sum :=
  pcNt x (digL 8 8 x.pos ++ digL 8 2 x.cells.toNat) _ _ (by unfold fullNt padL bodyNt; simp only [List.append_assoc]; rfl) (by simp [length_digL]) (by simp [length_digL])
end
/-- What is laid is told. -/
theorem told_fullNt {x : Nte} (hf : x.fit) (h : nteB x = true) : toldNt x.seq (fullNt x) = x := by
  obtain ⟨_, _, _, h1, h2⟩ := of_nteB h
  obtain ⟨f1, f2, f3⟩ := hf
  obtain ⟨seq, pos, cells, sum⟩ := x
  simp only at *
  unfold toldNt
  rw [fullNt_0, fullNt_8, fullNt_10]
  simp only
  rw [val_dig (k := 8) (n := pos) (by omega), val_dig (k := 2) (n := cells.toNat) (by omega), val_dig (k := 4) (n := sum) (by omega)]
  have e1 : ((cells.toNat : Nat) : Int) = cells := by omega
  rw [e1]
theorem told_fitNt {n : Nat} {l : List UInt8} (hn : n < 18446744073709551616) (h : l.length = 44) : (toldNt n l).fit :=
  ⟨hn, val_piece_lt (b := l) (p := 0) (k := 8) (by omega), val_piece_lt (b := l) (p := 10) (k := 4) (by omega)⟩
/-- The bytes of what is told are the first 14. -/
theorem body_toldNt {n : Nat} {l : List UInt8} (h : l.length = 44) : bodyNt (toldNt n l) = piece l 0 14 := by
  unfold bodyNt toldNt
  simp only [Int.toNat_natCast]
  rw [dig_piece (by omega), dig_piece (by omega), dig_piece (by omega)]
  rw [show (10 : Nat) = 8 + 2 from rfl, piece_cat l 8 2 4, show (8 : Nat) = 0 + 8 from rfl]
  exact piece_cat l 0 8 6
/-- They are all, just if the others are 0. -/
theorem full_toldNt {n : Nat} {l : List UInt8} (h : l.length = 44) : fullNt (toldNt n l) = l ↔ ∀ j, 14 ≤ j → j < 44 → bt l j = 0 := by
  unfold fullNt
  rw [body_toldNt h]
  have hl : (piece l 0 14).length = 14 := length_piece (by omega)
  have hat : ∀ j, j < 44 → bt (padL (piece l 0 14)) j = if j < 14 then bt l j else 0 := by
    intro j hj
    unfold padL
    by_cases h26 : j < 14
    · rw [if_pos h26]
      have : bt (piece l 0 14 ++ List.replicate (44 - (piece l 0 14).length) 0) j = bt (piece l 0 14) j := by
        unfold bt
        simp [List.getD, List.getElem?_append_left (show j < (piece l 0 14).length by omega)]
      rw [this, bt_piece h26, Nat.zero_add]
    · rw [if_neg h26]
      unfold bt
      simp only [List.getD, List.getElem?_append_right (show (piece l 0 14).length ≤ j by omega), hl, List.getElem?_replicate]
      split <;> rfl
  constructor
  · intro e j h1 h2
    have := hat j h2
    rw [e, if_neg (by omega)] at this
    exact this
  · intro hz
    refine eq_of_bt (by rw [padL_length (by omega), h]) fun j hj => ?_
    rw [padL_length (by omega)] at hj
    rw [hat j hj]
    by_cases h26 : j < 14
    · rw [if_pos h26]
    · rw [if_neg h26, hz j (by omega) hj]
theorem zeroNt_no : nteB zeroNt = false := by decide
/-- Notes in sealed sectors: a note's own number is the sector's. -/
def codNt : Cod Nte where
  zero := zeroNt
  may := nteB
  num y := y.seq
  body := bodyNt
  told := toldNt
  fits := Nte.fit
  may_num y h := ⟨(of_nteB h).1, (of_nteB h).2.1⟩
  len y := by rw [bodyNt_length]; omega
  back y hf h := told_fullNt hf h
  num_told _ _ := rfl
  fits_told n l h hn := told_fitNt hn h
  zero_no := by decide
  zero_num := rfl
  zero_fits := ⟨by decide, by decide, by decide⟩
/-! ### Which one follows -/
/-- How many sectors the record of a note takes. -/
def takNt (x : Nte) : Nat := hd x.cells.toNat + x.cells.toNat
/-- The note behind another one, with cells and a sum. -/
def behNt (x : Nte) (c : Int) (s : Nat) : Nte := ⟨x.seq + 1, x.pos + takNt x, c, s⟩
/-- Does the second one's record come behind the first one's? -/
def folB (x y : Nte) : Bool := nteB x && nteB y && decide (y.seq = x.seq + 1 ∧ y.pos = x.pos + takNt x)
theorem takNt_le {x : Nte} (h : nteB x = true) : takNt x ≤ 34 := by
  obtain ⟨_, _, _, h1, h2⟩ := of_nteB h
  unfold takNt hd
  omega
theorem takNt_siz {x : Nte} (h : nteB x = true) : sizN x.cells = takNt x := by
  obtain ⟨_, _, _, h1, h2⟩ := of_nteB h
  unfold sizN takNt
  rw [if_neg (by omega)]
theorem fol_no1 {x y : Nte} (h : nteB x = false) : folB x y = false := by unfold folB; rw [h]; rfl
theorem fol_no2 {x y : Nte} (h : nteB y = false) : folB x y = false := by unfold folB; rw [h, Bool.and_false]; rfl
theorem fol_of {x y : Nte} (h : nteB x = true) (h' : nteB y = true) : folB x y = decide (y.seq = x.seq + 1 ∧ y.pos = x.pos + takNt x) := by unfold folB; rw [h, h']; simp
theorem fol_beh {x y : Nte} (h : nteB x = true) (h' : nteB y = true) : folB x y = decide (y = behNt x y.cells y.sum) := by
  rw [fol_of h h', decide_eq_decide]
  obtain ⟨s, p, c, u⟩ := y
  unfold behNt
  simp only [Nte.mk.injEq, and_true]
end Go.Proofs.YtiandcigoflcmaaDoor
