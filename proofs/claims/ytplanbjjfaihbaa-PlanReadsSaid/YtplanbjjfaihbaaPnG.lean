/-
  What a plan reads, in plain mathematics: in order, once, never what is lost or known.
-/
import Derived.Test.YtplanbjjfaihbaaPnP
namespace Go.Proofs.Ytplanbjjfaihbaa
set_option linter.unusedVariables false
set_option linter.unusedSimpArgs false

theorem redN_sort {w k : List Bool} {o : Bool} : ∀ i, (redN w k o i).Pairwise (· < ·)
  | 0 => List.Pairwise.nil
  | i + 1 => by
    unfold redN
    split
    · refine List.pairwise_append.2 ⟨redN_sort i, List.pairwise_singleton _ _, fun a ha b hb => ?_⟩
      have := redN_lt ha
      have := List.mem_singleton.1 hb
      omega
    · exact redN_sort i
structure PlF (w k : List Bool) (par : Bool) (lost z : Int) (r : List Int) : Prop where
  lo : 1 ≤ z
  hi : z ≤ 4
  none : (z == 1) = (lost == (w.length : Int))
  mem : ∀ x ∈ r, 0 ≤ x ∧ x ≤ w.length ∧ x ≠ lost ∧ (x = w.length → par = false ∧ z = 4) ∧ (x < w.length → k.getD x.toNat false = false ∧ w.getD x.toNat false = (z == 4))
  sort : r.Pairwise (· < ·)
  nil : z = 1 ∨ z = 2 → r = []
  cnt : z = 3 ∨ z = 4 → r.length = (redL w k (z == 4)).length + (if (z == 4) = true ∧ par = false then 1 else 0)
section
variable {w k : List Bool} {par : Bool} {lost : Int}
theorem pl_err (h : ¬ plE w k lost = 0) : plW w k par lost = 0 ∧ plR w k par lost = [] := by
  have hq : ¬ plQ w k lost = true := fun e => h (if_pos e)
  exact ⟨if_neg hq, if_neg hq⟩
theorem pl_ok (h : plE w k lost = 0) : plQ w k lost = true := by
  cases hq : plQ w k lost
  · have : plE w k lost = 2 := if_neg (by rw [hq]; decide)
    omega
  · rfl
theorem red_mem {o : Bool} {x : Int} (h : x ∈ redL w k o) (hh : hitB w k o lost = false) : 0 ≤ x ∧ x < w.length ∧ x ≠ lost ∧ k.getD x.toNat false = false ∧ w.getD x.toNat false = o := by
  obtain ⟨j, hj, rfl, h1, h2⟩ := mem_redN.1 h
  refine ⟨by omega, by omega, fun e => ?_, by simpa using h2, by simpa using h1⟩
  have := of_decide_eq_false hh
  rw [← e] at this
  exact this h
theorem pl_f (h : plQ w k lost = true) : PlF w k par lost (plW w k par lost) (plR w k par lost) := by
  have hk : k.length = w.length := (of_decide_eq_true h).2.2.1
  unfold plW plR
  rw [if_pos h, if_pos h]
  by_cases h1 : lost = (w.length : Int)
  · rw [if_pos h1, if_pos h1]
    exact ⟨by omega, by omega, by rw [h1]; simp, fun x hx => (by cases hx), List.Pairwise.nil, fun _ => rfl, fun e => by omega⟩
  · rw [if_neg h1, if_neg h1]
    have h1' : (lost == (w.length : Int)) = false := beq_eq_false_iff_ne.2 h1
    by_cases h2 : cntN w w.length = w.length
    · rw [if_pos h2, if_pos h2]
      exact ⟨by omega, by omega, by rw [h1']; rfl, fun x hx => (by cases hx), List.Pairwise.nil, fun _ => rfl, fun e => by omega⟩
    · rw [if_neg h2, if_neg h2]
      cases hb : restB w k par lost
      · rw [if_neg (by decide), if_neg (by decide)]
        have ht : hitB w k true lost = false := by
          unfold restB at hb
          cases h3 : hitB w k true lost
          · rfl
          · rw [h3] at hb; simp at hb
        have hd : delL w k par lost = if par = true then redL w k true else redL w k true ++ [(w.length : Int)] := if_neg (by rw [ht]; decide)
        rw [hd]
        refine ⟨by omega, by omega, by rw [h1']; rfl, fun x hx => ?_, ?_, fun e => by omega, fun _ => ?_⟩
        · cases par
          · rw [if_neg (by decide)] at hx
            rcases List.mem_append.1 hx with hx | hx
            · obtain ⟨a, b, c, d, e⟩ := red_mem hx ht
              exact ⟨a, by omega, c, fun e => by omega, fun _ => ⟨d, e⟩⟩
            · have := List.mem_singleton.1 hx
              subst this
              exact ⟨by omega, by omega, fun e => h1 e.symm, fun _ => ⟨rfl, rfl⟩, fun e => by omega⟩
          · rw [if_pos rfl] at hx
            obtain ⟨a, b, c, d, e⟩ := red_mem hx ht
            exact ⟨a, by omega, c, fun e => by omega, fun _ => ⟨d, e⟩⟩
        · cases par
          · rw [if_neg (by decide)]
            refine List.pairwise_append.2 ⟨redN_sort _, List.pairwise_singleton _ _, fun a ha b hb => ?_⟩
            have := redN_lt ha
            have := List.mem_singleton.1 hb
            omega
          · rw [if_pos rfl]; exact redN_sort _
        · cases par
          · rw [if_neg (by decide), if_pos ⟨rfl, rfl⟩, List.length_append]; rfl
          · rw [if_pos rfl, if_neg (by simp)]; rfl
      · rw [if_pos rfl, if_pos rfl]
        have ht : hitB w k false lost = false := by
          cases h3 : hitB w k true lost
          · unfold restB at hb
            rw [h3] at hb
            cases h4 : hitB w k false lost
            · rfl
            · rw [h4] at hb; simp at hb
          · exact hit_one h3
        have hd : redR w k false lost = redL w k false := if_neg (by rw [ht]; decide)
        rw [hd]
        refine ⟨by omega, by omega, by rw [h1']; rfl, fun x hx => ?_, redN_sort _, fun e => by omega, fun _ => ?_⟩
        · obtain ⟨a, b, c, d, e⟩ := red_mem hx ht
          exact ⟨a, by omega, c, fun e => by omega, fun _ => ⟨d, e⟩⟩
        · rw [if_neg (by simp)]; rfl
end
theorem PlF.at_ {w k : List Bool} {par : Bool} {lost z : Int} {r : List Int} (h : PlF w k par lost z r) {i : Nat} (hi : i < r.length) : ∃ X : Nat, r.getD i 0 = (X : Int) ∧ X ≤ w.length ∧ (X : Int) ≠ lost ∧ (X = w.length → par = false ∧ z = 4) ∧ (X < w.length → k.getD X false = false ∧ w.getD X false = (z == 4)) := by
  have hm : r.getD i 0 ∈ r := by rw [List.getD, List.getElem?_eq_getElem hi]; exact List.getElem_mem _
  obtain ⟨a, b, c, d, e⟩ := h.mem _ hm
  obtain ⟨X, hX⟩ := Int.eq_ofNat_of_zero_le a
  rw [hX] at b c d e
  exact ⟨X, hX, by omega, c, fun g => d (by omega), fun g => e (by omega)⟩
theorem PlF.up {w k : List Bool} {par : Bool} {lost z : Int} {r : List Int} (h : PlF w k par lost z r) {i : Nat} (hi : i < r.length) (h0 : 0 < i) : r.getD (i - 1) 0 < r.getD i 0 := by
  have := List.pairwise_iff_getElem.1 h.sort (i - 1) i (by omega) hi (by omega)
  rw [List.getD, List.getD, List.getElem?_eq_getElem hi, List.getElem?_eq_getElem (by omega)]
  exact this
end Go.Proofs.Ytplanbjjfaihbaa
