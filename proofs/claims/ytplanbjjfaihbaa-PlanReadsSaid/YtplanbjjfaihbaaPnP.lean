/-
  The program's plan in plain mathematics: what is not seen, which way is cheaper; that it comes to the document's.
-/
import Derived.Test.YtplanbjjfaihbaaPnM
namespace Go.Proofs.Ytplanbjjfaihbaa
set_option linter.unusedVariables false
set_option linter.unusedSimpArgs false

theorem getD_app_lo {a b : List Bool} {i : Nat} (h : i < a.length) : (a ++ b).getD i false = a.getD i false := by
  rw [List.getD, List.getD, List.getElem?_append_left h]
theorem getD_app_at {a : List Bool} {x : Bool} : (a ++ [x]).getD a.length false = x := by
  rw [List.getD, List.getElem?_append_right (Nat.le_refl _), Nat.sub_self]
  rfl
theorem redN_app {w k x y : List Bool} {o : Bool} : ∀ {i : Nat}, i ≤ w.length → i ≤ k.length → redN (w ++ x) (k ++ y) o i = redN w k o i
  | 0, _, _ => rfl
  | i + 1, h1, h2 => by
    unfold redN
    rw [getD_app_lo (by omega), getD_app_lo (by omega), redN_app (by omega) (by omega)]
theorem mem_redN {w k : List Bool} {o : Bool} {x : Int} : ∀ {i : Nat}, x ∈ redN w k o i ↔ ∃ j, j < i ∧ x = (j : Int) ∧ w.getD j false = o ∧ k.getD j false = false
  | 0 => ⟨fun h => (by cases h), fun ⟨j, h, _⟩ => absurd h (by omega)⟩
  | i + 1 => by
    have ih := mem_redN (w := w) (k := k) (o := o) (x := x) (i := i)
    constructor
    · intro h
      unfold redN at h
      split at h
      · rename_i hc
        rw [Bool.and_eq_true, beq_iff_eq, Bool.not_eq_true'] at hc
        rcases List.mem_append.1 h with h | h
        · obtain ⟨j, hj, r⟩ := ih.1 h
          exact ⟨j, by omega, r⟩
        · exact ⟨i, by omega, List.mem_singleton.1 h, hc.1, hc.2⟩
      · obtain ⟨j, hj, r⟩ := ih.1 h
        exact ⟨j, by omega, r⟩
    · rintro ⟨j, hj, hx, h1, h2⟩
      unfold redN
      by_cases e : j = i
      · subst e
        rw [if_pos (by rw [h1, h2]; simp)]
        exact List.mem_append.2 (.inr (List.mem_singleton.2 hx))
      · have h := ih.2 ⟨j, by omega, hx, h1, h2⟩
        split
        · exact List.mem_append.2 (.inl h)
        · exact h
theorem uns_rest {w k : List Bool} {par : Bool} (h : k.length = w.length) : redL (w ++ [true]) (k ++ [par]) false = redL w k false := by
  unfold redL
  rw [List.length_append, List.length_singleton, redN_f (by rw [getD_app_at]; rfl), redN_app (Nat.le_refl _) (by omega)]
theorem uns_del {w k : List Bool} {par : Bool} (h : k.length = w.length) : redL (w ++ [true]) (k ++ [par]) true = if par = true then redL w k true else redL w k true ++ [(w.length : Int)] := by
  unfold redL
  rw [List.length_append, List.length_singleton]
  have e : (k ++ [par]).getD w.length false = par := by rw [← h]; exact getD_app_at
  cases par
  · rw [redN_t (by rw [getD_app_at, e]; rfl), redN_app (Nat.le_refl _) (by omega), if_neg (by decide)]
  · rw [redN_f (by rw [getD_app_at, e]; rfl), redN_app (Nat.le_refl _) (by omega), if_pos rfl]
/-- Is the way by what rests the cheaper one? -/
def cheB (r d : List Int) (lost : Int) : Bool := !(decide (d.length < r.length) && !decide (lost ∈ d) || decide (lost ∈ r))
theorem hit_one {w k : List Bool} {lost : Int} (h : hitB w k true lost = true) : hitB w k false lost = false := by
  refine decide_eq_false fun h2 => ?_
  obtain ⟨j, _, hj, h1, _⟩ := mem_redN.1 (of_decide_eq_true h)
  obtain ⟨i, _, hi, h3, _⟩ := mem_redN.1 h2
  have : i = j := by omega
  subst this
  rw [h1] at h3
  cases h3
section
variable {w k : List Bool} {par : Bool} {lost : Int}
theorem mem_del (h : k.length = w.length) (hl : lost ≠ (w.length : Int)) : decide (lost ∈ redL (w ++ [true]) (k ++ [par]) true) = hitB w k true lost := by
  rw [uns_del h]
  unfold hitB
  split
  · rfl
  · exact decide_eq_decide.2 ⟨fun hm => (List.mem_append.1 hm).elim id fun hm => absurd (List.mem_singleton.1 hm) hl, fun hm => List.mem_append.2 (.inl hm)⟩
theorem che_rest (h : k.length = w.length) (hl : lost ≠ (w.length : Int)) : cheB (redL (w ++ [true]) (k ++ [par]) false) (redL (w ++ [true]) (k ++ [par]) true) lost = restB w k par lost := by
  unfold cheB restB
  rw [mem_del h hl, uns_rest h]
  have e : decide (lost ∈ redL w k false) = hitB w k false lost := rfl
  rw [e]
  cases h1 : hitB w k true lost
  · cases h2 : hitB w k false lost
    · have hR : redR w k false lost = redL w k false := if_neg (by rw [h2]; decide)
      have hD : delL w k par lost = redL (w ++ [true]) (k ++ [par]) true := by rw [uns_del h]; exact if_neg (by rw [h1]; decide)
      rw [hR, hD]
      by_cases g : (redL (w ++ [true]) (k ++ [par]) true).length < (redL w k false).length
      · rw [decide_eq_true g, decide_eq_false (by omega)]; rfl
      · rw [decide_eq_false g, decide_eq_true (by omega)]; rfl
    · simp
  · rw [hit_one h1]; simp
theorem che_yes (h : k.length = w.length) (hl : lost ≠ (w.length : Int)) (hc : restB w k par lost = true) : redR w k false lost = redL (w ++ [true]) (k ++ [par]) false := by
  rw [uns_rest h]
  refine if_neg fun h2 => ?_
  unfold restB at hc
  rw [h2] at hc
  simp at hc
  have := hit_one hc
  rw [h2] at this
  cases this
theorem che_no (h : k.length = w.length) (hl : lost ≠ (w.length : Int)) (hc : restB w k par lost = false) : delL w k par lost = redL (w ++ [true]) (k ++ [par]) true := by
  rw [uns_del h]
  refine if_neg fun h2 => ?_
  unfold restB at hc
  rw [h2] at hc
  simp at hc
end
theorem cnt_no {w : List Bool} : ∀ {i : Nat}, i ≤ w.length → (cntN w i = 0 ↔ ∀ j, j < i → w.getD j false = false)
  | 0, _ => ⟨fun _ j hj => absurd hj (by omega), fun _ => rfl⟩
  | i + 1, h => by
    have ih := cnt_no (w := w) (i := i) (by omega)
    cases hx : w.getD i false
    · rw [cntN_f hx, ih]
      exact ⟨fun g j hj => by
        by_cases e : j = i
        · rw [e, hx]
        · exact g j (by omega), fun g j hj => g j (by omega)⟩
    · rw [cntN_t hx]
      exact ⟨fun g => absurd g (by omega), fun g => by have := g i (by omega); rw [hx] at this; cases this⟩
theorem cnt_all {w : List Bool} : ∀ {i : Nat}, i ≤ w.length → (cntN w i = i ↔ ∀ j, j < i → w.getD j false = true)
  | 0, _ => ⟨fun _ j hj => absurd hj (by omega), fun _ => rfl⟩
  | i + 1, h => by
    have ih := cnt_all (w := w) (i := i) (by omega)
    cases hx : w.getD i false
    · rw [cntN_f hx]
      have := cntN_le w i
      exact ⟨fun g => absurd g (by omega), fun g => by have := g i (by omega); rw [hx] at this; cases this⟩
    · rw [cntN_t hx]
      have e : cntN w i + 1 = i + 1 ↔ cntN w i = i := by omega
      rw [e, ih]
      exact ⟨fun g j hj => by
        by_cases e : j = i
        · rw [e, hx]
        · exact g j (by omega), fun g j hj => g j (by omega)⟩
theorem mem_getD {w : List Bool} {b : Bool} : b ∈ w ↔ ∃ j, j < w.length ∧ w.getD j false = b := by
  rw [List.mem_iff_getElem]
  constructor
  · rintro ⟨j, hj, h⟩
    exact ⟨j, hj, by rw [List.getD, List.getElem?_eq_getElem hj]; exact h⟩
  · rintro ⟨j, hj, h⟩
    refine ⟨j, hj, ?_⟩
    rw [List.getD, List.getElem?_eq_getElem hj] at h
    exact h
theorem con_true (w : List Bool) : decide (true ∈ w) = !decide (cntN w w.length = 0) := by
  rw [← decide_not]
  refine decide_eq_decide.2 ?_
  rw [cnt_no (Nat.le_refl _), mem_getD]
  constructor
  · rintro ⟨j, hj, h⟩ g
    rw [g j hj] at h
    cases h
  · intro g
    refine Classical.byContradiction fun n => g fun j hj => ?_
    cases hx : w.getD j false
    · rfl
    · exact absurd ⟨j, hj, hx⟩ n
theorem con_false (w : List Bool) : decide (false ∈ w) = !decide (cntN w w.length = w.length) := by
  rw [← decide_not]
  refine decide_eq_decide.2 ?_
  rw [cnt_all (Nat.le_refl _), mem_getD]
  constructor
  · rintro ⟨j, hj, h⟩ g
    rw [g j hj] at h
    cases h
  · intro g
    refine Classical.byContradiction fun n => g fun j hj => ?_
    cases hx : w.getD j false
    · exact absurd ⟨j, hj, hx⟩ n
    · rfl
end Go.Proofs.Ytplanbjjfaihbaa
