/-
  Lists in which all keys but one are pinned; lists in which all are.
-/
import Derived.Test.YtmnabdojlekjcaaLuN
namespace Go.Proofs.Ytmnabdojlekjcaa
open Go.RowKit
set_option linter.unusedVariables false

theorem mem_woK {L : List Ky} {i : Nat} {x : Ky} (hi : i < L.length) (hx : x ∈ L) (hn : x ≠ L.getD i ky0) : x ∈ wo L i := by
  rw [part_at L ky0 hi] at hx
  unfold wo
  rcases List.mem_append.1 hx with h | h
  · exact List.mem_append.2 (.inl h)
  · rcases List.mem_cons.1 h with h | h
    · exact absurd h hn
    · exact List.mem_append.2 (.inr h)
theorem mem_frontK {L : List Ky} {i : Nat} {x : Ky} (hi : i < L.length) (hx : x ∈ L) : x ∈ L.getD i ky0 :: wo L i := by
  by_cases e : x = L.getD i ky0
  · rw [e]; simp
  · exact List.mem_cons_of_mem _ (mem_woK hi hx e)
/-- Where a key stands that stands once. -/
theorem plc_mem_at {L : List Ky} (hd : (keyL L).Nodup) {x : Ky} (hx : x ∈ L) : plc x.n L < L.length ∧ L.getD (plc x.n L) ky0 = x := by
  have h1 : plc x.n L < L.length := plc_mem.2 (List.mem_map.2 ⟨x, hx, rfl⟩)
  refine ⟨h1, ?_⟩
  obtain ⟨j, hj, e⟩ := List.getElem_of_mem hx
  have e2 : L.getD j ky0 = x := by simp [List.getD, hj, e]
  have hlen : (keyL L).length = L.length := by unfold keyL; rw [List.length_map]
  have h3 : (keyL L)[plc x.n L]'(by omega) = (keyL L)[j]'(by omega) := by
    have a1 : (keyL L).getD (plc x.n L) 0 = x.n := by rw [keyL_getD h1]; exact plc_at h1
    have a2 : (keyL L).getD j 0 = x.n := by rw [keyL_getD hj, e2]
    rw [List.getD, List.getElem?_eq_getElem (by omega)] at a1 a2
    simp only [Option.getD_some] at a1 a2
    rw [a1, a2]
  have h4 : plc x.n L = j := (List.getElem_inj hd).1 h3
  rw [h4, e2]
/-- All but one are pinned, -2 and on. -/
structure PinI (n : Nat) (L : List Ky) : Prop where
  len : L.length = n
  one : ∃ x ∈ L, x.pin = false
  all : ∀ k : Nat, 1 ≤ k → k < n → (⟨-1 - (k : Int), true⟩ : Ky) ∈ L
theorem PinI.some_un {n : Nat} {L : List Ky} (h : PinI n L) : ¬ lu L = 0 := fun e => by
  obtain ⟨x, hx, hp⟩ := h.one
  obtain ⟨j, hj, e2⟩ := List.getElem_of_mem hx
  have := lu_pin (L := L) (j := j) (by omega) hj
  rw [show L.getD j ky0 = x from by simp [List.getD, hj, e2], hp] at this
  cases this
theorem PinI.tch {n : Nat} {L : List Ky} {k : Int} (h : PinI n L) : PinI n (tchS n k L) ∧ tchE n k L = 0 := by
  unfold tchS tchE
  split
  · rename_i hp
    have hw := wo_len hp
    refine ⟨⟨by rw [List.length_cons, hw]; exact h.len, ?_, fun j h1 h2 => mem_frontK hp (h.all j h1 h2)⟩, rfl⟩
    obtain ⟨x, hx, hq⟩ := h.one
    exact ⟨x, mem_frontK hp hx, hq⟩
  · have hl := h.len
    have hu := h.some_un
    have hle := lu_le L
    have hln : ¬ L.length < n := by omega
    rw [if_neg hln, if_neg hln, if_neg hu, if_neg hu]
    have hi : lu L - 1 < L.length := by omega
    have hw := wo_len hi
    refine ⟨⟨by rw [List.length_cons, hw]; exact hl, ⟨⟨k, false⟩, by simp, rfl⟩, fun j h1 h2 => List.mem_cons_of_mem _ (mem_woK hi (h.all j h1 h2) fun e => ?_)⟩, rfl⟩
    have := lu_at (L := L) (by omega)
    rw [← e] at this
    cases this
theorem PinI.has {n : Nat} {L : List Ky} (h : PinI n L) (hd : (keyL L).Nodup) {k : Nat} (h1 : 1 ≤ k) (h2 : k < n) : hasK (-1 - (k : Int)) L = true ∧ pndK (-1 - (k : Int)) L = true := by
  obtain ⟨a, b⟩ := plc_mem_at hd (h.all k h1 h2)
  have a' : plc (-1 - (k : Int)) L < L.length := a
  have b' : L.getD (plc (-1 - (k : Int)) L) ky0 = ⟨-1 - (k : Int), true⟩ := b
  unfold hasK pndK
  rw [decide_eq_true a', b']
  exact ⟨rfl, rfl⟩
/-- While they come in. -/
structure PinB (i : Nat) (L : List Ky) : Prop where
  len : L.length = i
  lo : ∀ x ∈ L, -(i : Int) ≤ x.n
  one : 1 ≤ i → (⟨-1, false⟩ : Ky) ∈ L
  all : ∀ k : Nat, 1 ≤ k → k < i → (⟨-1 - (k : Int), true⟩ : Ky) ∈ L
theorem PinB.nil : PinB 0 [] := ⟨rfl, by simp, fun h => by omega, fun k h1 h2 => by omega⟩
theorem PinB.no {i : Nat} {L : List Ky} (h : PinB i L) : ¬ plc (-1 - (i : Int)) L < L.length := fun e => by
  have := h.lo _ (getD_mem (d := ky0) e)
  rw [plc_at e] at this
  omega
theorem PinB.tch {i n : Nat} {L : List Ky} (h : PinB i L) (hi : i < n) : tchE n (-1 - (i : Int)) L = 0 ∧ tchW n (-1 - (i : Int)) L = false ∧ tchS n (-1 - (i : Int)) L = ⟨-1 - (i : Int), false⟩ :: L := by
  have h1 := h.no
  have h2 : L.length < n := by rw [h.len]; exact hi
  unfold tchE tchW tchS
  rw [if_neg h1, if_neg h1, if_neg h1, if_pos h2, if_pos h2, if_pos h2]
  exact ⟨rfl, rfl, rfl⟩
theorem pin_first {k : Int} {L : List Ky} : fndE k (⟨k, false⟩ :: L) = 0 ∧ pinS k true (⟨k, false⟩ :: L) = ⟨k, true⟩ :: L := by
  have h : plc k (⟨k, false⟩ :: L) = 0 := by simp [plc]
  unfold fndE pinS
  rw [h, if_pos (by simp), if_pos (by simp)]
  exact ⟨rfl, rfl⟩
theorem PinB.zero {L : List Ky} (h : PinB 0 L) : PinB 1 (⟨-1 - ((0 : Nat) : Int), false⟩ :: L) := by
  have : L = [] := List.eq_nil_of_length_eq_zero h.len
  subst this
  exact ⟨rfl, fun x hx => by simp at hx; subst hx; show -1 ≤ (-1 : Int) - 0; omega, fun _ => by simp, fun k h1 h2 => by omega⟩
theorem PinB.succ {i : Nat} {L : List Ky} (h : PinB i L) (h0 : 0 < i) : PinB (i + 1) (⟨-1 - (i : Int), true⟩ :: L) := by
  refine ⟨by simp [h.len], fun x hx => ?_, fun _ => List.mem_cons_of_mem _ (h.one h0), fun k h1 h2 => ?_⟩
  · rcases List.mem_cons.1 hx with rfl | hx
    · show -((i + 1 : Nat) : Int) ≤ -1 - (i : Int); omega
    · have := h.lo x hx; omega
  · by_cases e : k = i
    · subst e; simp
    · exact List.mem_cons_of_mem _ (h.all k h1 (by omega))
theorem PinB.pinI {n : Nat} {L : List Ky} (h : PinB n L) (hn : 1 ≤ n) : PinI n L := ⟨h.len, ⟨_, h.one hn, rfl⟩, h.all⟩
/-- Pinned one by one. -/
structure PinA (i : Nat) (K : List Int) (L : List Ky) : Prop where
  key : keyL L = K
  all : ∀ j, j < i → (L.getD j ky0).pin = true
theorem PinA.step {i : Nat} {K : List Int} {L : List Ky} (h : PinA i K L) (hd : (keyL L).Nodup) (hi : i < K.length) : fndE (K.getD i 0) L = 0 ∧ PinA (i + 1) K (pinS (K.getD i 0) true L) := by
  have hl : L.length = K.length := by rw [← h.key]; unfold keyL; rw [List.length_map]
  have hiL : i < L.length := by omega
  have hk : (L.getD i ky0).n = K.getD i 0 := by rw [← keyL_getD hiL, h.key]
  obtain ⟨a, b⟩ := plc_mem_at hd (getD_mem (d := ky0) hiL)
  rw [hk] at a b
  have hp : plc (K.getD i 0) L = i := by
    refine plc_of hiL hk fun j hj e => ?_
    have hjl : j < L.length := by omega
    have h1 : (keyL L).getD j 0 = (keyL L).getD i 0 := by rw [keyL_getD hjl, keyL_getD hiL, e, hk]
    have hlen : (keyL L).length = L.length := by unfold keyL; rw [List.length_map]
    rw [List.getD, List.getD, List.getElem?_eq_getElem (by omega), List.getElem?_eq_getElem (by omega)] at h1
    have := (List.getElem_inj hd).1 (by simpa using h1)
    omega
  have he : pinS (K.getD i 0) true L = L.set i ⟨K.getD i 0, true⟩ := by unfold pinS; rw [hp, if_pos hiL]
  refine ⟨by unfold fndE; rw [hp, if_pos hiL], ?_, fun j hj => ?_⟩
  · rw [keyL_pin]; exact h.key
  · rw [he]
    by_cases e : j = i
    · subst e; simp [List.getD, hiL]
    · have := h.all j (by omega)
      simp only [List.getD, List.getElem?_set_ne (Ne.symm e)]
      exact this
theorem PinA.full {K : List Int} {L : List Ky} (h : PinA K.length K L) : lu L = 0 := by
  have hl : L.length = K.length := by rw [← h.key]; unfold keyL; rw [List.length_map]
  exact lu_none fun j hj => h.all j (by omega)
end Go.Proofs.Ytmnabdojlekjcaa
