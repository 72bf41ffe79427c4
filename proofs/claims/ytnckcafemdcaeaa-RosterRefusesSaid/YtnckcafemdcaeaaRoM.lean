/-
  What is asked of a roster, and what becomes of it, as plain functions: no program.
-/
import Derived.Test.YtnckcafemdcaeaaRosM
namespace Go.Proofs.Ytnckcafemdcaeaa
open Go.RowKit
set_option linter.unusedVariables false

/-! ### How many are in a state -/
/-- How many of the first k are c. -/
def cntK (l : List UInt8) (c : Int) : Nat → Nat
  | 0 => 0
  | k + 1 => cntK l c k + (if bt l k = c then 1 else 0)
theorem cntK_succ (l : List UInt8) (c : Int) (k : Nat) : cntK l c (k + 1) = cntK l c k + (if bt l k = c then 1 else 0) := rfl
theorem cntK_le (l : List UInt8) (c : Int) (k : Nat) : cntK l c k ≤ k := by
  induction k with
  | zero => exact Nat.le_refl _
  | succ k ih => rw [cntK_succ]; split <;> omega
theorem healK_cnt (l : List UInt8) (k : Nat) : healK l k = cntK l 2 k := by
  induction k with
  | zero => rfl
  | succ k ih => rw [cntK_succ, healK_succ, ih]
def many (x : Ros) (c : Int) : Nat := cntK x.st.toList c 16
theorem many_def (x : Ros) (c : Int) : many x c = cntK x.st.toList c 16 := rfl
theorem heals_many (x : Ros) : heals x = many x 2 := healK_cnt _ _
theorem many_le (x : Ros) (c : Int) : many x c ≤ 16 := cntK_le _ _ _
/-- How many of the first k are not 0. -/
def outK (l : List UInt8) : Nat → Nat
  | 0 => 0
  | k + 1 => outK l k + (if bt l k = 0 then 0 else 1)
theorem outK_succ (l : List UInt8) (k : Nat) : outK l (k + 1) = outK l k + (if bt l k = 0 then 0 else 1) := rfl
theorem outK_le (l : List UInt8) (k : Nat) : outK l k ≤ k := by
  induction k with
  | zero => exact Nat.le_refl _
  | succ k ih => rw [outK_succ]; split <;> omega
/-- How many are out of order. -/
def outs (x : Ros) : Nat := outK x.st.toList 16
theorem outs_def (x : Ros) : outs x = outK x.st.toList 16 := rfl
theorem outs_le (x : Ros) : outs x ≤ 16 := outK_le _ _
theorem outK_cnt {l : List UInt8} {k : Nat} (h : ∀ j, j < k → bt l j ≤ 2) : outK l k = cntK l 1 k + cntK l 2 k := by
  induction k with
  | zero => rfl
  | succ k ih =>
    have h1 := ih fun j hj => h j (by omega)
    have h2 := h k (by omega)
    have h3 := bt_lo l k
    rw [cntK_succ, cntK_succ, outK_succ, h1]
    split <;> split <;> split <;> omega
theorem outs_many {x : Ros} (h : staB x = true) : outs x = many x 1 + many x 2 := outK_cnt (of_staB h).1
theorem heals_outs {x : Ros} (h : staB x = true) : heals x ≤ outs x := by rw [outs_many h, heals_many]; omega
theorem outK_pos {l : List UInt8} {j : Nat} (h : bt l j ≠ 0) : ∀ {k : Nat}, j < k → 1 ≤ outK l k
  | 0, hj => absurd hj (by omega)
  | k + 1, hj => by
    rw [outK_succ]
    by_cases e : j = k
    · subst e; rw [if_neg h]; omega
    · have := outK_pos h (k := k) (by omega); omega
theorem cntK_pos {l : List UInt8} {c : Int} {j : Nat} (h : bt l j = c) : ∀ {k : Nat}, j < k → 1 ≤ cntK l c k
  | 0, hj => absurd hj (by omega)
  | k + 1, hj => by
    rw [cntK_succ]
    by_cases e : j = k
    · subst e; rw [if_pos h]; omega
    · have := cntK_pos h (k := k) (by omega); omega
/-- Beyond the members none is out of order. -/
theorem outK_more {l : List UInt8} {a : Nat} : ∀ {k : Nat}, a ≤ k → (∀ j, a ≤ j → j < k → bt l j = 0) → outK l k = outK l a
  | 0, h, _ => by rw [show a = 0 from by omega]
  | k + 1, h, hz => by
    by_cases e : a = k + 1
    · rw [e]
    · rw [outK_succ, if_pos (hz k (by omega) (by omega)), outK_more (k := k) (by omega) fun j h1 h2 => hz j h1 (by omega)]
      rfl
theorem healK_more {l : List UInt8} {a : Nat} : ∀ {k : Nat}, a ≤ k → (∀ j, a ≤ j → j < k → bt l j = 0) → healK l k = healK l a
  | 0, h, _ => by rw [show a = 0 from by omega]
  | k + 1, h, hz => by
    by_cases e : a = k + 1
    · rw [e]
    · rw [healK_succ, if_neg (by rw [hz k (by omega) (by omega)]; omega), healK_more (k := k) (by omega) fun j h1 h2 => hz j h1 (by omega)]
      rfl

/-! ### The one that heals -/
/-- The first of k that heals. -/
def fstK (l : List UInt8) : Nat → Option Nat
  | 0 => none
  | k + 1 => (fstK l k).or (if bt l k = 2 then some k else none)
theorem fstK_succ (l : List UInt8) (k : Nat) : fstK l (k + 1) = (fstK l k).or (if bt l k = 2 then some k else none) := rfl
theorem fstK_some {l : List UInt8} {j : Nat} : ∀ {k : Nat}, fstK l k = some j → j < k ∧ bt l j = 2
  | 0, h => by cases h
  | k + 1, h => by
    rw [fstK_succ] at h
    cases hf : fstK l k with
    | some i =>
      rw [hf] at h
      simp only [Option.some_or, Option.some.injEq] at h
      subst h
      have := fstK_some hf
      omega
    | none =>
      rw [hf] at h
      simp only [Option.none_or] at h
      split at h
      · rename_i h2
        simp only [Option.some.injEq] at h
        subst h
        exact ⟨by omega, h2⟩
      · cases h
theorem fstK_none (l : List UInt8) (k : Nat) : fstK l k = none ↔ healK l k = 0 := by
  induction k with
  | zero => exact ⟨fun _ => rfl, fun _ => rfl⟩
  | succ k ih =>
    rw [fstK_succ, healK_succ]
    cases hf : fstK l k with
    | some i =>
      have h1 : ¬ healK l k = 0 := fun e => by have := ih.2 e; rw [hf] at this; cases this
      simp only [Option.some_or]
      constructor
      · intro h; cases h
      · intro h; omega
    | none =>
      have h1 := ih.1 hf
      simp only [Option.none_or]
      split
      · constructor
        · intro h; cases h
        · intro h; omega
      · constructor
        · intro _; omega
        · intro _; rfl
theorem fstK_up {l : List UInt8} {i j : Nat} (h : fstK l i = some j) : ∀ {k : Nat}, i ≤ k → fstK l k = some j
  | 0, hk => by rw [show i = 0 from by omega] at h; exact h
  | k + 1, hk => by
    by_cases e : i = k + 1
    · rw [← e]; exact h
    · rw [fstK_succ, fstK_up h (k := k) (by omega)]; rfl
theorem fstK_at {l : List UInt8} {j : Nat} (h0 : fstK l j = none) (h2 : bt l j = 2) {k : Nat} (hk : j < k) : fstK l k = some j := by
  refine fstK_up (i := j + 1) ?_ (by omega)
  rw [fstK_succ, h0, if_pos h2]
  rfl
theorem fstK_next {l : List UInt8} {j : Nat} (h0 : fstK l j = none) (h2 : bt l j ≠ 2) : fstK l (j + 1) = none := by
  rw [fstK_succ, h0, if_neg h2]
  rfl
def healJ (x : Ros) : Option Nat := fstK x.st.toList 16
theorem healJ_def (x : Ros) : healJ x = fstK x.st.toList 16 := rfl
theorem healJ_none (x : Ros) : healJ x = none ↔ heals x = 0 := fstK_none _ _
theorem healJ_some {x : Ros} {j : Nat} (h : healJ x = some j) : j < 16 ∧ sta x j = 2 := fstK_some h

/-! ### One state turned -/
def setS (x : Ros) (j : Nat) (u : UInt8) : Ros := ⟨x.m, x.s, x.r, x.st.setIfInBounds j u, x.cur, x.gone⟩
def curS (x : Ros) (c : Int) : Ros := ⟨x.m, x.s, x.r, x.st, c, x.gone⟩
def gonS (x : Ros) (g : Bool) : Ros := ⟨x.m, x.s, x.r, x.st, x.cur, g⟩
theorem setS_list (x : Ros) (j : Nat) (u : UInt8) : (setS x j u).st.toList = x.st.toList.set j u := by
  unfold setS
  simp
theorem bt_set {l : List UInt8} {j : Nat} (h : j < l.length) (u : UInt8) (k : Nat) : bt (l.set j u) k = if k = j then (u.toNat : Int) else bt l k := by
  unfold bt
  simp only [List.getD, List.getElem?_set]
  by_cases e : k = j
  · subst e; simp [h]
  · rw [if_neg (fun e' => e e'.symm), if_neg e]
theorem sta_setS (x : Ros) {j : Nat} (h : j < 16) (u : UInt8) (k : Nat) : sta (setS x j u) k = if k = j then (u.toNat : Int) else sta x k := by
  unfold sta
  rw [setS_list]
  exact bt_set (by simpa using h) u k
theorem cntK_set {l : List UInt8} {j : Nat} (h : j < l.length) (u : UInt8) (c : Int) (k : Nat) : cntK (l.set j u) c k + (if j < k ∧ bt l j = c then 1 else 0) = cntK l c k + (if j < k ∧ (u.toNat : Int) = c then 1 else 0) := by
  induction k with
  | zero => rw [if_neg (by omega), if_neg (by omega)]; rfl
  | succ k ih =>
    rw [cntK_succ, cntK_succ, bt_set h]
    by_cases e : k = j
    · subst e
      rw [if_neg (by omega), if_neg (by omega)] at ih
      rw [if_pos rfl]
      by_cases h1 : bt l k = c <;> by_cases h2 : (u.toNat : Int) = c <;> simp [h1, h2] <;> omega
    · rw [if_neg e]
      have e1 : (j < k + 1 ∧ bt l j = c) ↔ (j < k ∧ bt l j = c) := by omega
      have e2 : (j < k + 1 ∧ (u.toNat : Int) = c) ↔ (j < k ∧ (u.toNat : Int) = c) := by omega
      simp only [e1, e2]
      omega
theorem outK_set {l : List UInt8} {j : Nat} (h : j < l.length) (u : UInt8) (k : Nat) : outK (l.set j u) k + (if j < k ∧ bt l j ≠ 0 then 1 else 0) = outK l k + (if j < k ∧ (u.toNat : Int) ≠ 0 then 1 else 0) := by
  induction k with
  | zero => rw [if_neg (by omega), if_neg (by omega)]; rfl
  | succ k ih =>
    rw [outK_succ, outK_succ, bt_set h]
    by_cases e : k = j
    · subst e
      rw [if_neg (by omega), if_neg (by omega)] at ih
      rw [if_pos rfl]
      by_cases h1 : bt l k = 0 <;> by_cases h2 : (u.toNat : Int) = 0 <;> simp only [h1, h2, if_true, if_false, ne_eq, not_true_eq_false, not_false_eq_true, and_true, and_false] <;> (try rw [if_pos (by omega)]) <;> omega
    · rw [if_neg e]
      have e1 : (j < k + 1 ∧ bt l j ≠ 0) ↔ (j < k ∧ bt l j ≠ 0) := by omega
      have e2 : (j < k + 1 ∧ (u.toNat : Int) ≠ 0) ↔ (j < k ∧ (u.toNat : Int) ≠ 0) := by omega
      simp only [e1, e2]
      omega
theorem many_setS (x : Ros) {j : Nat} (h : j < 16) (u : UInt8) (c : Int) : many (setS x j u) c + (if sta x j = c then 1 else 0) = many x c + (if (u.toNat : Int) = c then 1 else 0) := by
  have := cntK_set (l := x.st.toList) (j := j) (by simpa using h) u c 16
  simp only [h, true_and] at this
  unfold many
  rw [setS_list]
  exact this
theorem outs_setS (x : Ros) {j : Nat} (h : j < 16) (u : UInt8) : outs (setS x j u) + (if sta x j ≠ 0 then 1 else 0) = outs x + (if (u.toNat : Int) ≠ 0 then 1 else 0) := by
  have := outK_set (l := x.st.toList) (j := j) (by simpa using h) u 16
  simp only [h, true_and] at this
  unfold outs
  rw [setS_list]
  exact this
theorem staB_setS {x : Ros} (hs : staB x = true) {j : Nat} (h : j < 16) (hm : (j : Int) < x.m) {u : UInt8} (hu : u.toNat ≤ 2) : staB (setS x j u) = true := by
  obtain ⟨h1, h2⟩ := of_staB hs
  refine staB_iff.2 ⟨fun k hk => ?_, fun k hk hkm => ?_⟩
  · rw [sta_setS x h]
    split
    · omega
    · exact h1 k hk
  · have hne : k ≠ j := by
      intro e; subst e
      have : x.m ≤ (k : Int) := hkm
      omega
    rw [sta_setS x h, if_neg hne]
    exact h2 k hk hkm

/-! ### What is asked -/
def hasM (x : Ros) (m : Int) : Bool := decide (0 ≤ m ∧ m < x.m)
def hasC (x : Ros) (s : Int) : Bool := decide (0 ≤ s ∧ s < x.s)
theorem of_hasM {x : Ros} {m : Int} (h : hasM x m = true) : 0 ≤ m ∧ m < x.m := of_decide_eq_true h
theorem of_hasC {x : Ros} {s : Int} (h : hasC x s = true) : 0 ≤ s ∧ s < x.s := of_decide_eq_true h
/-- A new one, of a geometry. -/
def gz (y : Ros) : Ros := ⟨y.m, y.s, y.r, Vector.replicate 16 0, 0, false⟩
theorem heals_gz (y : Ros) : heals (gz y) = 0 := by
  show healK (Vector.replicate 16 (0 : UInt8)).toList 16 = 0
  decide
theorem outs_gz (y : Ros) : outs (gz y) = 0 := by
  show outK (Vector.replicate 16 (0 : UInt8)).toList 16 = 0
  decide
theorem sta_gz (y : Ros) {j : Nat} (h : j < 16) : sta (gz y) j = 0 := by
  show bt (List.replicate 16 (0 : UInt8)) j = 0
  unfold bt
  rw [List.getD, List.getElem?_replicate]
  split <;> rfl
theorem fine_gz (y : Ros) : fineB (gz y) = geoB y := by
  have hg : geoB (gz y) = geoB y := rfl
  by_cases h : geoB y = true
  · rw [h]
    have := of_geoB h
    refine fineB_of ⟨hg.trans h, staB_iff.2 ⟨fun j hj => ?_, fun j hj _ => sta_gz y hj⟩, by rw [heals_gz]; omega, ?_⟩
    · rw [sta_gz y hj]; omega
    · show 0 ≤ (0 : Int) ∧ (0 : Int) < y.s ∧ (heals (gz y) = 1 ∨ (0 : Int) = 0)
      omega
  · rw [Bool.eq_false_iff.2 h, Bool.eq_false_iff]
    intro hf
    exact h (hg.symm.trans (of_fineB hf).1)
def newX (y : Ros) : Ros := if geoB y then gz y else zeroR
def newE (y : Ros) : Nat := if geoB y then 0 else 2
def hasB (x : Ros) (m s : Int) : Bool := fineB x && (hasM x m && (hasC x s && (decide (sta x m.toNat = 0) || (decide (sta x m.toNat = 2) && decide (s < x.cur)))))
def missN (x : Ros) : Nat := if fineB x then outs x else 0
def stN (x : Ros) : Nat :=
  if fineB x then if 2 ≤ outs x ∨ (outs x = 1 ∧ x.gone = true) then 5 else if x.gone = true then 4 else if heals x = 1 then 3 else if outs x = 1 then 2 else 1 else 0
def heaM (x : Ros) : Nat := if fineB x then (healJ x).getD 0 else 0
def heaB (x : Ros) : Bool := fineB x && (healJ x).isSome
def losB (x : Ros) (m : Int) : Bool := fineB x && (hasM x m && decide (sta x m.toNat ≠ 1))
def losX (x : Ros) (m : Int) : Ros := if losB x m then (if sta x m.toNat = 2 then setS (curS x 0) m.toNat 1 else setS x m.toNat 1) else x
def begE (x : Ros) (m : Int) : Nat := if fineB x = true ∧ hasM x m = true then if sta x m.toNat = 1 ∧ outs x = 1 ∧ x.gone = false then 0 else 17 else 2
def begX (x : Ros) (m : Int) : Ros := if begE x m = 0 then setS x m.toNat 2 else zeroR
def nexE (x : Ros) : Nat := if fineB x then if healJ x = none then 17 else 0 else 2
def nexX (x : Ros) : Ros := if nexE x = 0 then (if x.cur + 1 = x.s then curS (setS (curS x (x.cur + 1)) (heaM x) 0) 0 else curS x (x.cur + 1)) else zeroR
def gonE (x : Ros) : Nat := if fineB x then 0 else 2
def gonX (x : Ros) (g : Bool) : Ros := if fineB x then gonS x g else zeroR
end Go.Proofs.Ytnckcafemdcaeaa
