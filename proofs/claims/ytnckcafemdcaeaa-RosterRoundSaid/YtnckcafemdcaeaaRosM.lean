/-
  Rosters as plain values, no program: which may be; what is asked of one, what becomes of it.
-/
import Derived.Test.YtnckcafemdcaeaaBase
namespace Go.Proofs.Ytnckcafemdcaeaa
open Go.RowKit
set_option linter.unusedVariables false

/-- A roster. -/
structure Ros where
  m : Int
  s : Int
  r : Int
  st : Vector UInt8 16
  cur : Int
  gone : Bool
deriving DecidableEq
def zeroR : Ros := ⟨0, 0, 0, Vector.replicate 16 0, 0, false⟩
/-- State number j. -/
def sta (x : Ros) (j : Nat) : Int := bt x.st.toList j
theorem sta_lo (x : Ros) (j : Nat) : 0 ≤ sta x j := bt_lo _ _
theorem sta_hi (x : Ros) (j : Nat) : sta x j ≤ 255 := bt_hi _ _
/-- How many of the first k heal. -/
def healK (l : List UInt8) : Nat → Nat
  | 0 => 0
  | k + 1 => healK l k + (if bt l k = 2 then 1 else 0)
def heals (x : Ros) : Nat := healK x.st.toList 16
theorem healK_le (l : List UInt8) (k : Nat) : healK l k ≤ k := by
  induction k with
  | zero => exact Nat.le_refl _
  | succ k ih => unfold healK; split <;> omega
/-- May a geometry be? -/
def geoB (x : Ros) : Bool := decide (3 ≤ x.m ∧ x.m ≤ 16 ∧ 1 ≤ x.s ∧ x.s ≤ 64 ∧ 40 ≤ x.r ∧ x.r ≤ 256)
/-- May the states be? -/
def staB (x : Ros) : Bool := (List.range 16).all fun j => decide (sta x j ≤ 2) && (!decide (x.m ≤ (j : Int)) || decide (sta x j = 0))
theorem staB_iff {x : Ros} : staB x = true ↔ ((∀ j, j < 16 → sta x j ≤ 2) ∧ (∀ j : Nat, j < 16 → x.m ≤ (j : Int) → sta x j = 0)) := by
  unfold staB
  simp only [List.all_eq_true, List.mem_range, Bool.and_eq_true, decide_eq_true_eq, Bool.or_eq_true, Bool.not_eq_true', decide_eq_false_iff_not]
  constructor
  · exact fun h => ⟨fun j hj => (h j hj).1, fun j hj hm => (h j hj).2.elim (fun h2 => absurd hm h2) id⟩
  · rintro ⟨h1, h2⟩ j hj
    refine ⟨h1 j hj, ?_⟩
    by_cases hm : x.m ≤ (j : Int)
    · exact .inr (h2 j hj hm)
    · exact .inl hm
/-- May a roster be? -/
def fineB (x : Ros) : Bool := geoB x && staB x && decide (heals x ≤ 1) && decide (0 ≤ x.cur ∧ x.cur < x.s ∧ (heals x = 1 ∨ x.cur = 0))
theorem of_geoB {x : Ros} (h : geoB x = true) : 3 ≤ x.m ∧ x.m ≤ 16 ∧ 1 ≤ x.s ∧ x.s ≤ 64 ∧ 40 ≤ x.r ∧ x.r ≤ 256 := of_decide_eq_true h
theorem of_staB {x : Ros} (h : staB x = true) : (∀ j, j < 16 → sta x j ≤ 2) ∧ (∀ j : Nat, j < 16 → x.m ≤ (j : Int) → sta x j = 0) := staB_iff.1 h
theorem of_fineB {x : Ros} (h : fineB x = true) : geoB x = true ∧ staB x = true ∧ heals x ≤ 1 ∧ 0 ≤ x.cur ∧ x.cur < x.s ∧ (heals x = 1 ∨ x.cur = 0) := by
  unfold fineB at h
  simp only [Bool.and_eq_true, decide_eq_true_eq] at h
  exact ⟨h.1.1.1, h.1.1.2, h.1.2, h.2⟩
theorem fineB_of {x : Ros} (h : geoB x = true ∧ staB x = true ∧ heals x ≤ 1 ∧ 0 ≤ x.cur ∧ x.cur < x.s ∧ (heals x = 1 ∨ x.cur = 0)) : fineB x = true := by
  unfold fineB
  simp only [Bool.and_eq_true, decide_eq_true_eq]
  exact ⟨⟨⟨h.1, h.2.1⟩, h.2.2.1⟩, h.2.2.2⟩
theorem geoB_iff {x : Ros} : geoB x = true ↔ (3 ≤ x.m ∧ x.m ≤ 16 ∧ 1 ≤ x.s ∧ x.s ≤ 64 ∧ 40 ≤ x.r ∧ x.r ≤ 256) := by unfold geoB; rw [decide_eq_true_iff]
theorem geoB_not {x : Ros} : geoB x = false ↔ ¬(3 ≤ x.m ∧ x.m ≤ 16 ∧ 1 ≤ x.s ∧ x.s ≤ 64 ∧ 40 ≤ x.r ∧ x.r ≤ 256) := by unfold geoB; rw [decide_eq_false_iff_not]
theorem healK_succ (l : List UInt8) (k : Nat) : healK l (k + 1) = healK l k + (if bt l k = 2 then 1 else 0) := rfl
/-- What is asked of the cursor. -/
def curB (x : Ros) : Bool := if heals x = 0 then decide (x.cur = 0) else decide (0 ≤ x.cur ∧ x.cur < x.s)
theorem fine_split (x : Ros) : fineB x = (geoB x && ((staB x && decide (heals x ≤ 1)) && curB x)) := by
  unfold fineB curB
  by_cases hg : geoB x = true
  · have hs := (geoB_iff.1 hg).2.2.1
    rw [hg, Bool.true_and, Bool.true_and]
    cases staB x
    · rfl
    · by_cases hh : heals x ≤ 1
      · rw [decide_eq_true hh]
        simp only [Bool.true_and]
        split
        · rw [decide_eq_decide]; omega
        · rw [decide_eq_decide]; omega
      · rw [decide_eq_false hh]; rfl
  · rw [Bool.eq_false_iff.2 hg]; rfl
theorem sta_no {x : Ros} {j : Nat} (hj : j < 16) (h : 2 < sta x j ∨ (x.m ≤ (j : Int) ∧ sta x j ≠ 0)) : fineB x = false := by
  rw [Bool.eq_false_iff]
  intro hf
  obtain ⟨h1, h2⟩ := of_staB (of_fineB hf).2.1
  rcases h with h | ⟨h, h'⟩
  · have := h1 j hj; omega
  · exact h' (h2 j hj h)
/-! 16 states as a list. -/
def ofSt (l : List UInt8) : Vector UInt8 16 := Vector.ofFn fun i => l.getD i.val 0
theorem toList_ofSt {l : List UInt8} (h : l.length = 16) : (ofSt l).toList = l := by
  refine eq_of_bt (by simp [h]) fun k hk => ?_
  have hk' : k < 16 := by simpa using hk
  rw [bt_get hk, bt_get (l := l) (by omega)]
  simp [ofSt, List.getD, List.getElem?_eq_getElem (show k < l.length by omega)]
theorem ofSt_toList (v : Vector UInt8 16) : ofSt v.toList = v := by
  apply Vector.ext
  intro i hi
  simp [ofSt, List.getD]
theorem stL_length (v : Vector UInt8 16) : v.toList.length = 16 := by simp
theorem ros_ext {a b : Ros} (h1 : a.m = b.m ∧ a.s = b.s ∧ a.r = b.r) (h2 : a.st.toList = b.st.toList) (h3 : a.cur = b.cur) (h4 : a.gone = b.gone) : a = b := by
  obtain ⟨m, s, r, st, cur, gone⟩ := a
  obtain ⟨m', s', r', st', cur', gone'⟩ := b
  simp only at *
  obtain ⟨rfl, rfl, rfl⟩ := h1
  subst h3 h4
  have : st = st' := by rw [← ofSt_toList st, h2, ofSt_toList]
  rw [this]
end Go.Proofs.Ytnckcafemdcaeaa
