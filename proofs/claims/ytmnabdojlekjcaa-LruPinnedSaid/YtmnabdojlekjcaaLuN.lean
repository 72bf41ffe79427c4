/-
  What was touched last, of a row of keys: each once, the last one first. What a list has that nothing was pinned in.
-/
import Derived.Test.YtmnabdojlekjcaaLuM
namespace Go.Proofs.Ytmnabdojlekjcaa
open Go.RowKit
set_option linter.unusedVariables false

/-- Each once, where it stands first. -/
def dK : List Int → List Int
  | [] => []
  | x :: r => x :: (dK r).filter (· != x)
theorem mem_dK {x : Int} {r : List Int} : x ∈ dK r ↔ x ∈ r := by
  induction r with
  | nil => simp [dK]
  | cons y r ih =>
    simp only [dK, List.mem_cons, List.mem_filter, ih, bne_iff_ne, ne_eq]
    by_cases h : x = y <;> simp [h]
theorem nodup_dK (r : List Int) : (dK r).Nodup := by
  induction r with
  | nil => simp [dK]
  | cons y r ih => exact List.nodup_cons.2 ⟨by simp, ih.filter _⟩
theorem dK_snoc (r : List Int) (x : Int) : dK (r ++ [x]) = if x ∈ r then dK r else dK r ++ [x] := by
  induction r with
  | nil => simp [dK]
  | cons y r ih =>
    rw [List.cons_append]
    simp only [dK, ih]
    by_cases hr : x ∈ r
    · rw [if_pos hr, if_pos (List.mem_cons_of_mem _ hr)]
    · rw [if_neg hr]
      by_cases e : x = y
      · subst e
        rw [if_pos (by simp), List.filter_append]
        simp
      · rw [if_neg (by simp [e, hr]), List.filter_append]
        simp [e]
theorem dK_prefix (a b : List Int) : dK a <+: dK (a ++ b) := by
  induction b generalizing a with
  | nil => simp
  | cons x b ih =>
    have h := ih (a ++ [x])
    rw [List.append_assoc] at h
    refine List.IsPrefix.trans ?_ h
    rw [dK_snoc]
    split
    · exact List.prefix_refl _
    · exact List.prefix_append _ _
theorem take_prefix {a b : List Int} (h : a <+: b) {n : Nat} (hn : a.length = n) : b.take n = a := by
  obtain ⟨c, rfl⟩ := h
  rw [List.take_left' hn]
/-- A key more: the first; it was there, or not, or one goes. -/
theorem dK_hit {r : List Int} {k : Int} {n : Nat} (hk : k ∈ (dK r).take n) : (dK (k :: r)).take n = k :: ((dK r).take n).filter (· != k) := by
  obtain ⟨a, b, e⟩ := List.append_of_mem hk
  have hd := nodup_dK r
  have hsp : dK r = a ++ k :: (b ++ (dK r).drop n) := by
    rw [← List.cons_append, ← List.append_assoc, ← e, List.take_append_drop]
  have hkb : k ∉ a ∧ k ∉ b ++ (dK r).drop n := by
    rw [hsp] at hd
    have := List.nodup_append.1 hd
    exact ⟨fun h => this.2.2 _ h _ (by simp) rfl, (List.nodup_cons.1 this.2.1).1⟩
  have fil : ∀ l : List Int, k ∉ l → l.filter (· != k) = l := fun l h => List.filter_eq_self.2 fun x hx => by simp; rintro rfl; exact h hx
  have hb : k ∉ b := fun h => hkb.2 (by simp [h])
  have f2 : (dK r).filter (· != k) = a ++ (b ++ (dK r).drop n) := by
    conv => lhs; rw [hsp]
    rw [List.filter_append, List.filter_cons_of_neg (by simp), fil _ hkb.1, fil _ hkb.2]
  have f1 : ((dK r).take n).filter (· != k) = a ++ b := by
    rw [e, List.filter_append, List.filter_cons_of_neg (by simp), fil _ hkb.1, fil _ hb]
  have hl : (a ++ k :: b).length = min n (dK r).length := by rw [← e, List.length_take]
  have hn : 0 < n := by
    rcases Nat.eq_zero_or_pos n with h | h
    · subst h; simp at hk
    · exact h
  show (k :: (dK r).filter (· != k)).take n = _
  obtain ⟨m, rfl⟩ : ∃ m, n = m + 1 := ⟨n - 1, by omega⟩
  rw [List.take_succ_cons, f1, f2, ← List.append_assoc]
  congr 1
  rw [List.length_append, List.length_cons] at hl
  by_cases hm : m + 1 ≤ (dK r).length
  · rw [List.take_left' (by rw [List.length_append]; omega)]
  · rw [List.drop_eq_nil_of_le (by omega), List.append_nil, List.take_of_length_le (by rw [List.length_append]; omega)]
theorem dK_room {r : List Int} {k : Int} {n : Nat} (hk : k ∉ (dK r).take n) (hn : ((dK r).take n).length < n) : (dK (k :: r)).take n = k :: (dK r).take n := by
  have hl : (dK r).length < n := by rw [List.length_take] at hn; omega
  have ht : (dK r).take n = dK r := List.take_of_length_le (by omega)
  rw [ht] at hk ⊢
  have : (dK r).filter (· != k) = dK r := List.filter_eq_self.2 fun x hx => by simp; rintro rfl; exact hk hx
  show (k :: (dK r).filter (· != k)).take n = _
  rw [this, List.take_of_length_le (by simp; omega)]
theorem dK_full {r : List Int} {k : Int} {n : Nat} (hk : k ∉ (dK r).take n) (hn : ¬ ((dK r).take n).length < n) (h0 : 0 < n) : (dK (k :: r)).take n = k :: ((dK r).take n).take (n - 1) := by
  have hl : n ≤ (dK r).length := by rw [List.length_take] at hn; omega
  obtain ⟨m, rfl⟩ : ∃ m, n = m + 1 := ⟨n - 1, by omega⟩
  show (k :: (dK r).filter (· != k)).take (m + 1) = _
  rw [List.take_succ_cons, Nat.add_sub_cancel, List.take_take, Nat.min_eq_left (by omega)]
  congr 1
  conv => lhs; rw [← List.take_append_drop (m + 1) (dK r)]
  have hf : ((dK r).take (m + 1)).filter (· != k) = (dK r).take (m + 1) := List.filter_eq_self.2 fun x hx => by simp; rintro rfl; exact hk hx
  rw [List.filter_append, hf, List.take_append_of_le_length (by rw [List.length_take]; omega), List.take_take, Nat.min_eq_left (by omega)]
theorem take_getD {W : List Int} {k : Nat} (hk : k < W.length) : W.take (k + 1) = W.take k ++ [W.getD k 0] := by
  have e0 : W.getD k 0 = W[k] := by simp [List.getD, hk]
  rw [List.take_succ_eq_append_getElem hk, e0]
/-! ### Lists in which nothing is pinned -/
def AllU (L : List Ky) : Prop := ∀ x ∈ L, x.pin = false
theorem allU_lu {L : List Ky} (h : AllU L) : lu L = L.length := by
  rcases Nat.eq_zero_or_pos L.length with h0 | h0
  · have := lu_le L; omega
  · rw [lu_of (i := L.length - 1) (by omega) (h _ (getD_mem (by omega))) (fun j h1 h2 => by omega)]; omega
theorem keyL_wo (L : List Ky) (i : Nat) : keyL (wo L i) = wo (keyL L) i := wo_map Ky.n L i
theorem wo_last {α : Type} (K : List α) : wo K (K.length - 1) = K.take (K.length - 1) := by
  unfold wo
  rw [List.drop_eq_nil_of_le (by omega), List.append_nil]
theorem wo_filter {K : List Int} (hd : K.Nodup) {i : Nat} (hi : i < K.length) {k : Int} (hk : K.getD i 0 = k) : wo K i = K.filter (· != k) := by
  have e := part_at K 0 hi
  rw [hk] at e
  have hd' := hd
  rw [e] at hd'
  have h := List.nodup_append.1 hd'
  have fil : ∀ l : List Int, k ∉ l → l.filter (· != k) = l := fun l h => List.filter_eq_self.2 fun x hx => by simp; rintro rfl; exact h hx
  conv => rhs; rw [e]
  rw [List.filter_append, List.filter_cons_of_neg (by simp), fil _ (fun hm => h.2.2 _ hm _ (by simp) rfl), fil _ (List.nodup_cons.1 h.2.1).1]
  rfl
theorem AllU.tch {room : Nat} {k : Int} {L : List Ky} (h : AllU L) : AllU (tchS room k L) := by
  have hw : ∀ i, AllU (wo L i) := fun i x hx => h x ((wo_sub L i).subset hx)
  unfold tchS
  split
  · rename_i hp
    intro x hx
    rcases List.mem_cons.1 hx with rfl | hx
    · exact h _ (getD_mem hp)
    · exact hw _ x hx
  · split
    · intro x hx
      rcases List.mem_cons.1 hx with rfl | hx
      · rfl
      · exact h x hx
    · split
      · exact h
      · intro x hx
        rcases List.mem_cons.1 hx with rfl | hx
        · rfl
        · exact hw _ x hx
/-- Behind a touch, where nothing is pinned: OK, and what was touched last. -/
theorem allU_tch {room : Nat} {k : Int} {L : List Ky} {r : List Int} (h : AllU L) (hok : LOk room L) (hr : 1 ≤ room) (hk : keyL L = (dK r).take room) : tchE room k L = 0 ∧ keyL (tchS room k L) = (dK (k :: r)).take room := by
  have hl : (keyL L).length = L.length := by unfold keyL; rw [List.length_map]
  have hlu := allU_lu h
  unfold tchE tchS
  split
  · rename_i hp
    refine ⟨rfl, ?_⟩
    have hm := plc_mem.1 hp
    rw [dK_hit (by rw [← hk]; exact hm), ← hk]
    show (L.getD (plc k L) ky0).n :: keyL (wo L (plc k L)) = _
    rw [plc_at hp, keyL_wo, wo_filter (k := k) hok.one (by rw [hl]; exact hp) (by rw [keyL_getD hp]; exact plc_at hp)]
  · rename_i hp
    have hm : k ∉ (dK r).take room := fun e => hp (plc_mem.2 (by rw [hk]; exact e))
    split
    · rename_i hlt
      refine ⟨rfl, ?_⟩
      rw [dK_room hm (by rw [← hk, hl]; exact hlt), ← hk]
      rfl
    · rename_i hlt
      have hle := hok.len
      rw [if_neg (by omega), if_neg (by omega)]
      refine ⟨rfl, ?_⟩
      rw [dK_full hm (by rw [← hk, hl]; exact hlt) (by omega), ← hk]
      show k :: keyL (wo L (lu L - 1)) = _
      rw [keyL_wo, hlu, ← hl, wo_last, show (keyL L).length = room by omega]
end Go.Proofs.Ytmnabdojlekjcaa
