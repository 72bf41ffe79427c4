/-
  A list of what was asked for last, as a plain value: keys in a row, the one that was touched last first. A ring of places, each with one ahead and one behind: one leaves, one comes in. No program.
-/
import Derived.Test.YtmnabdojlekjcaaBase
namespace Go.Proofs.Ytmnabdojlekjcaa
open Go.RowKit
set_option linter.unusedVariables false

structure Ky where
  n : Int
  pin : Bool
def ky0 : Ky := ⟨0, false⟩
/-- Where a key stands; the list's length, if it does not. -/
def plc (k : Int) : List Ky → Nat
  | [] => 0
  | x :: r => if x.n = k then 0 else plc k r + 1
theorem plc_le (k : Int) (L : List Ky) : plc k L ≤ L.length := by
  induction L with
  | nil => exact Nat.le_refl _
  | cons x r ih => unfold plc; split <;> simp <;> omega
theorem plc_at {k : Int} {L : List Ky} (h : plc k L < L.length) : (L.getD (plc k L) ky0).n = k := by
  induction L with
  | nil => simp at h
  | cons x r ih =>
    unfold plc at h ⊢
    split
    · rename_i e; simpa using e
    · rename_i e
      rw [if_neg e] at h
      simpa using ih (by simpa using h)
theorem plc_no {k : Int} {L : List Ky} {j : Nat} (h : j < plc k L) : (L.getD j ky0).n ≠ k := by
  induction L generalizing j with
  | nil => simp [plc] at h
  | cons x r ih =>
    unfold plc at h
    split at h
    · omega
    · rename_i e
      cases j with
      | zero => simpa using e
      | succ j => simpa using ih (by omega)
theorem plc_of {k : Int} {L : List Ky} {i : Nat} (hi : i < L.length) (h : (L.getD i ky0).n = k) (hn : ∀ j, j < i → (L.getD j ky0).n ≠ k) : plc k L = i := by
  have h1 := plc_le k L
  rcases Nat.lt_trichotomy (plc k L) i with h2 | h2 | h2
  · exact absurd (plc_at (by omega)) (hn _ h2)
  · exact h2
  · exact absurd h (plc_no h2)
theorem plc_none {k : Int} {L : List Ky} (hn : ∀ j, j < L.length → (L.getD j ky0).n ≠ k) : plc k L = L.length := by
  have h1 := plc_le k L
  rcases Nat.lt_or_ge (plc k L) L.length with h2 | h2
  · exact absurd (plc_at h2) (hn _ h2)
  · omega
/-- The keys but the i-th. -/
def wo {α : Type} (L : List α) (i : Nat) : List α := L.take i ++ L.drop (i + 1)
theorem wo_len {α : Type} {L : List α} {i : Nat} (h : i < L.length) : (wo L i).length + 1 = L.length := by
  unfold wo; simp; omega
theorem wo_map {α β : Type} (f : α → β) (L : List α) (i : Nat) : (wo L i).map f = wo (L.map f) i := by unfold wo; simp [List.map_take, List.map_drop]
theorem wo_sub {α : Type} (L : List α) (i : Nat) : (wo L i).Sublist L := by
  unfold wo
  conv => rhs; rw [← List.take_append_drop i L]
  exact (List.Sublist.refl _).append ((List.drop_sublist_drop_left L (Nat.le_succ i)))
theorem part_at {α : Type} (L : List α) (d : α) {i : Nat} (h : i < L.length) : L = L.take i ++ L.getD i d :: L.drop (i + 1) := by
  conv => lhs; rw [← List.take_append_drop i L]
  rw [List.drop_eq_getElem_cons h]
  simp [List.getD, h]
theorem getD_map {α β : Type} (f : α → β) (L : List α) (d : α) (e : β) {i : Nat} (h : i < L.length) : (L.map f).getD i e = f (L.getD i d) := by simp [List.getD, h]
/-- One more than the place of the last key that is not pinned; 0, if all are. -/
def lu : List Ky → Nat
  | [] => 0
  | x :: r => if 0 < lu r then lu r + 1 else if x.pin = true then 0 else 1
theorem lu_le (L : List Ky) : lu L ≤ L.length := by
  induction L with
  | nil => exact Nat.le_refl _
  | cons x r ih => unfold lu; split <;> (try split) <;> simp <;> omega
theorem lu_pin {L : List Ky} {j : Nat} (h : lu L ≤ j) (hj : j < L.length) : (L.getD j ky0).pin = true := by
  induction L generalizing j with
  | nil => simp at hj
  | cons x r ih =>
    unfold lu at h
    split at h
    · cases j with
      | zero => omega
      | succ j => simpa using ih (by omega) (by simpa using hj)
    · split at h
      · rename_i h0 hx
        cases j with
        | zero => simpa using hx
        | succ j => simpa using ih (by omega) (by simpa using hj)
      · cases j with
        | zero => omega
        | succ j => simpa using ih (by omega) (by simpa using hj)
theorem lu_at {L : List Ky} (h : 0 < lu L) : (L.getD (lu L - 1) ky0).pin = false := by
  induction L with
  | nil => simp [lu] at h
  | cons x r ih =>
    unfold lu at h ⊢
    split
    · rename_i h0
      have := ih h0
      rw [show lu r + 1 - 1 = (lu r - 1) + 1 from by omega]
      simpa using this
    · rename_i h0
      rw [if_neg h0] at h
      split
      · rename_i hx; rw [if_pos hx] at h; omega
      · rename_i hx; simpa using hx
theorem lu_of {L : List Ky} {i : Nat} (hi : i < L.length) (h : (L.getD i ky0).pin = false) (hn : ∀ j, i < j → j < L.length → (L.getD j ky0).pin = true) : lu L = i + 1 := by
  have h1 := lu_le L
  rcases Nat.lt_trichotomy (lu L) (i + 1) with h2 | h2 | h2
  · have := lu_pin (L := L) (j := i) (by omega) hi
    rw [h] at this; cases this
  · exact h2
  · have := lu_at (L := L) (by omega)
    rw [hn (lu L - 1) (by omega) (by omega)] at this; cases this
theorem lu_none {L : List Ky} (hn : ∀ j, j < L.length → (L.getD j ky0).pin = true) : lu L = 0 := by
  have h1 := lu_le L
  rcases Nat.eq_zero_or_pos (lu L) with h2 | h2
  · exact h2
  · have := lu_at h2
    rw [hn (lu L - 1) (by omega)] at this; cases this

/-! ### What is answered, and what becomes of it -/
def tchS (room : Nat) (k : Int) (L : List Ky) : List Ky := if plc k L < L.length then L.getD (plc k L) ky0 :: wo L (plc k L) else if L.length < room then ⟨k, false⟩ :: L else if lu L = 0 then L else ⟨k, false⟩ :: wo L (lu L - 1)
def tchG (room : Nat) (k : Int) (L : List Ky) : Int := if plc k L < L.length then 0 else if L.length < room then 0 else if lu L = 0 then 0 else (L.getD (lu L - 1) ky0).n
def tchW (room : Nat) (k : Int) (L : List Ky) : Bool := if plc k L < L.length then false else if L.length < room then false else if lu L = 0 then false else true
def tchE (room : Nat) (k : Int) (L : List Ky) : Int := if plc k L < L.length then 0 else if L.length < room then 0 else if lu L = 0 then 10 else 0
def pinS (k : Int) (is : Bool) (L : List Ky) : List Ky := if plc k L < L.length then L.set (plc k L) ⟨k, is⟩ else L
def drpS (k : Int) (L : List Ky) : List Ky := if plc k L < L.length then wo L (plc k L) else L
def fndE (k : Int) (L : List Ky) : Int := if plc k L < L.length then 0 else 7
def hasK (k : Int) (L : List Ky) : Bool := decide (plc k L < L.length)
def pndK (k : Int) (L : List Ky) : Bool := decide (plc k L < L.length) && (L.getD (plc k L) ky0).pin
def keyL (L : List Ky) : List Int := L.map Ky.n
/-- A list may be: no key twice, room for all, keys that are numbers. -/
structure LOk (room : Nat) (L : List Ky) : Prop where
  one : (keyL L).Nodup
  len : L.length ≤ room
  wf : ∀ x ∈ L, (Lit.int .i64 x.n).wf = true
theorem getD_mem {α : Type} {L : List α} {d : α} {i : Nat} (h : i < L.length) : L.getD i d ∈ L := by simp [List.getD, h]
theorem keyL_getD {L : List Ky} {i : Nat} (h : i < L.length) : (keyL L).getD i 0 = (L.getD i ky0).n := getD_map Ky.n L ky0 0 h
theorem plc_mem {k : Int} {L : List Ky} : plc k L < L.length ↔ k ∈ keyL L := by
  constructor
  · intro h
    unfold keyL
    exact List.mem_map.2 ⟨_, getD_mem h, plc_at h⟩
  · intro h
    unfold keyL at h
    obtain ⟨x, hx, e⟩ := List.mem_map.1 h
    rcases Nat.lt_or_ge (plc k L) L.length with h2 | h2
    · exact h2
    · obtain ⟨j, hj, e2⟩ := List.getElem_of_mem hx
      exact absurd (by simp [List.getD, hj, e2, e]) (plc_no (k := k) (L := L) (j := j) (by omega))
section
variable {room : Nat} {k : Int} {L : List Ky} {is : Bool}
theorem LOk.nil : LOk room [] := ⟨by simp [keyL], by simp, by simp⟩
theorem LOk.wo (h : LOk room L) (i : Nat) : LOk room (wo L i) :=
  ⟨h.one.sublist ((wo_sub L i).map _), Nat.le_trans (wo_sub L i).length_le h.len, fun x hx => h.wf x ((wo_sub L i).subset hx)⟩
theorem LOk.lt (h : LOk room L) {i : Nat} (hi : i < L.length) : (Proofs.Ytmnabdojlekjcaa.wo L i).length < room := by have := wo_len hi; have := h.len; omega
theorem wo_not {L : List Ky} (h : (keyL L).Nodup) {i : Nat} (hi : i < L.length) : (L.getD i ky0).n ∉ keyL (wo L i) := by
  have e := part_at L ky0 hi
  unfold keyL wo at *
  rw [e, List.map_append, List.map_cons] at h
  rw [List.map_append]
  have := List.nodup_append.1 h
  intro hm
  rcases List.mem_append.1 hm with hm | hm
  · exact this.2.2 _ hm _ (by simp) rfl
  · exact (List.nodup_cons.1 this.2.1).1 hm
theorem LOk.cons (h : LOk room L) {x : Ky} (hn : x.n ∉ keyL L) (hl : L.length < room) (hw : (Lit.int .i64 x.n).wf = true) : LOk room (x :: L) :=
  ⟨by unfold keyL at *; rw [List.map_cons]; exact List.nodup_cons.2 ⟨hn, h.one⟩, by simp; omega, fun y hy => by
    rcases List.mem_cons.1 hy with rfl | hy
    · exact hw
    · exact h.wf y hy⟩
theorem LOk.tch (h : LOk room L) (hw : (Lit.int .i64 k).wf = true) : LOk room (tchS room k L) := by
  unfold tchS
  split
  · rename_i hp
    exact (h.wo _).cons (wo_not h.one hp) (h.lt hp) (h.wf _ (getD_mem hp))
  · rename_i hp
    have hm : k ∉ keyL L := fun e => hp (plc_mem.2 e)
    split
    · rename_i hl; exact h.cons hm hl hw
    · split
      · exact h
      · rename_i h0
        have h1 := lu_le L
        exact (h.wo _).cons (fun e => hm (((wo_sub L _).map _).subset e)) (h.lt (by omega)) hw
theorem keyL_set {i : Nat} {x : Ky} (hx : x.n = (L.getD i ky0).n) : keyL (L.set i x) = keyL L := by
  unfold keyL
  rw [List.map_set]
  rcases Nat.lt_or_ge i L.length with hi | hi
  · apply List.ext_getElem (by simp)
    intro j h1 h2
    rw [List.getElem_set]
    split
    · rename_i e; subst e; simp [hx, List.getD, hi]
    · rfl
  · rw [List.set_eq_of_length_le (by simpa using hi)]
theorem keyL_pin : keyL (pinS k is L) = keyL L := by
  unfold pinS
  split
  · rename_i h; exact keyL_set (plc_at h).symm
  · rfl
theorem LOk.pin (h : LOk room L) : LOk room (pinS k is L) := by
  refine ⟨by rw [keyL_pin]; exact h.one, by unfold pinS; split <;> simp [h.len], fun x hx => ?_⟩
  have : x.n ∈ keyL (pinS k is L) := List.mem_map.2 ⟨x, hx, rfl⟩
  rw [keyL_pin] at this
  obtain ⟨y, hy, e⟩ := List.mem_map.1 this
  rw [← e]; exact h.wf y hy
theorem LOk.drp (h : LOk room L) : LOk room (drpS k L) := by
  unfold drpS
  split
  · exact h.wo _
  · exact h
end

/-! ### A ring of places -/
def put1 {α : Type} (f : Nat → α) (i : Nat) (x : α) : Nat → α := fun j => if j = i then x else f j
theorem put1_at {α : Type} (f : Nat → α) (i : Nat) (x : α) : put1 f i x i = x := if_pos rfl
theorem put1_off {α : Type} (f : Nat → α) {i j : Nat} (x : α) (h : j ≠ i) : put1 f i x j = f j := if_neg h
/-- From a through l to b: each next to the one behind it, both ways. -/
def Seg (pv nx : Nat → Nat) : Nat → List Nat → Nat → Prop
  | a, [], b => nx a = b ∧ pv b = a
  | a, x :: r, b => nx a = x ∧ pv x = a ∧ Seg pv nx x r b
section
variable {pv nx pv' nx' : Nat → Nat} {a b c n : Nat} {l r : List Nat}
theorem seg_append : Seg pv nx a (l ++ c :: r) b ↔ Seg pv nx a l c ∧ Seg pv nx c r b := by
  induction l generalizing a with
  | nil => simp [Seg, and_assoc]
  | cons x l ih => simp [Seg, ih, and_assoc]
theorem seg_keep (h : Seg pv nx a l b) (hn : ∀ x, x = a ∨ x ∈ l → nx' x = nx x) (hp : ∀ x, x ∈ l ∨ x = b → pv' x = pv x) : Seg pv' nx' a l b := by
  induction l generalizing a with
  | nil => exact ⟨(hn a (.inl rfl)).trans h.1, (hp b (.inr rfl)).trans h.2⟩
  | cons x l ih =>
    refine ⟨(hn a (.inl rfl)).trans h.1, (hp x (.inl (by simp))).trans h.2.1, ih h.2.2 (fun y hy => hn y (.inr ?_)) fun y hy => hp y ?_⟩
    · rcases hy with rfl | hy
      · simp
      · simp [hy]
    · rcases hy with hy | hy
      · exact .inl (by simp [hy])
      · exact .inr hy
theorem seg_pv (h : Seg pv nx a l b) : pv b ∈ a :: l := by
  induction l generalizing a with
  | nil => rw [h.2]; simp
  | cons x l ih => exact List.mem_cons_of_mem _ (ih h.2.2)
theorem seg_nx (h : Seg pv nx a l b) : nx a ∈ l ++ [b] := by
  cases l with
  | nil => rw [h.1]; simp
  | cons x l => rw [h.1]; simp
theorem seg_end (h : Seg pv nx a l n) (hd : (a :: l).Nodup) (hn : ∀ x, x ∈ a :: l → x ≠ pv n → nx' x = nx x) (hp : ∀ x, x ∈ l → pv' x = pv x) (h1 : nx' (pv n) = b) (h2 : pv' b = pv n) : Seg pv' nx' a l b := by
  induction l generalizing a with
  | nil => have e := h.2; rw [e] at h1 h2; exact ⟨h1, h2⟩
  | cons x l ih =>
    have hm := seg_pv h.2.2
    have hd' := List.nodup_cons.1 hd
    refine ⟨(hn a (by simp) fun e => hd'.1 (by rw [e]; exact hm)).trans h.1, (hp x (by simp)).trans h.2.1, ih h.2.2 hd'.2 (fun y hy => hn y (List.mem_cons_of_mem _ hy)) fun y hy => hp y (by simp [hy])⟩
theorem seg_start (h : Seg pv nx n l b) (hd : (l ++ [b]).Nodup) (h1 : nx' a = nx n) (h2 : pv' (nx n) = a) (hn : ∀ x, x ∈ l → nx' x = nx x) (hp : ∀ x, x ∈ l ++ [b] → x ≠ nx n → pv' x = pv x) : Seg pv' nx' a l b := by
  cases l with
  | nil => have e := h.1; rw [e] at h1 h2; exact ⟨h1, h2⟩
  | cons y l =>
    have e := h.1
    rw [e] at h1 h2
    rw [List.cons_append] at hd
    have hd' := List.nodup_cons.1 hd
    refine ⟨h1, h2, seg_keep h.2.2 (fun x hx => hn x ?_) fun x hx => ?_⟩
    · rcases hx with rfl | hx
      · simp
      · simp [hx]
    · have hx' : x ∈ l ++ [b] := by
        rcases hx with hx | rfl
        · simp [hx]
        · simp
      exact hp x (by rw [List.cons_append]; exact List.mem_cons_of_mem _ hx') fun e2 => hd'.1 (by rw [e] at e2; rw [← e2]; exact hx')
/-- One leaves. -/
theorem seg_leave {E : Nat} (h : Seg pv nx E (l ++ n :: r) E) (hd : (E :: (l ++ n :: r)).Nodup) : Seg (put1 pv (nx n) (pv n)) (put1 nx (pv n) (nx n)) E (l ++ r) E := by
  obtain ⟨h1, h2⟩ := seg_append.1 h
  have hdE := List.nodup_cons.1 hd
  have hdl := List.nodup_append.1 hdE.2
  have hdn := List.nodup_cons.1 hdl.2.1
  have hel : (E :: l).Nodup := List.nodup_cons.2 ⟨fun e => hdE.1 (by simp [e]), hdl.1⟩
  have hm := seg_pv h1
  cases r with
  | nil =>
    have e : nx n = E := h2.1
    rw [List.append_nil]
    refine seg_end (n := n) h1 hel (fun x _ hx => put1_off _ _ hx) (fun x hx => put1_off _ _ ?_) (by rw [put1_at]; exact e) (by rw [← e, put1_at])
    rw [e]; rintro rfl; exact hdE.1 (by simp [hx])
  | cons y r =>
    have e : nx n = y := h2.1
    refine seg_append.2 ⟨seg_end (n := n) h1 hel (fun x _ hx => put1_off _ _ hx) (fun x hx => put1_off _ _ ?_) (by rw [put1_at]; exact e) (by rw [← e, put1_at]), seg_keep h2.2.2 (fun x hx => put1_off _ _ ?_) fun x hx => put1_off _ _ ?_⟩
    · rw [e]; rintro rfl; exact hdl.2.2 x hx x (by simp) rfl
    · have hx' : x ∈ y :: r := by
        rcases hx with rfl | hx
        · simp
        · simp [hx]
      intro e2
      rw [← e2] at hm
      rcases List.mem_cons.1 hm with rfl | hm
      · exact hdE.1 (by simp [hx'])
      · exact hdl.2.2 x hm x (List.mem_cons_of_mem _ hx') rfl
    · rw [e]
      have hyr := List.nodup_cons.1 hdn.2
      rcases hx with hx | rfl
      · rintro rfl; exact hyr.1 hx
      · rintro rfl; exact hdE.1 (by simp)
/-- One comes in, the first. -/
theorem seg_follow {E : Nat} (h : Seg pv nx E l E) (hd : (E :: l).Nodup) (hn : n ∉ E :: l) : Seg (put1 (put1 pv n E) (nx E) n) (put1 (put1 nx n (nx E)) E n) E (n :: l) E := by
  have hm := seg_nx h
  have hdE := List.nodup_cons.1 hd
  have hmE : nx E ∈ E :: l := by
    rcases List.mem_append.1 hm with e | e
    · exact List.mem_cons_of_mem _ e
    · simp at e; rw [e]; simp
  have hne : n ≠ nx E := fun e => hn (by rw [e]; exact hmE)
  have hnE : n ≠ E := fun e => hn (by rw [e]; simp)
  refine ⟨put1_at _ _ _, by rw [put1_off _ _ hne, put1_at], seg_start h ?_ (by rw [put1_off _ _ hnE, put1_at]) (put1_at _ _ _) (fun x hx => ?_) fun x hx hx2 => ?_⟩
  · refine List.nodup_append.2 ⟨hdE.2, by simp, fun x hx y hy e => ?_⟩
    simp at hy; subst hy e; exact hdE.1 hx
  · rw [put1_off _ _ (fun e => hdE.1 (by rw [← e]; exact hx)), put1_off _ _ (fun e => hn (by rw [← e]; exact List.mem_cons_of_mem _ hx))]
  · rw [put1_off _ _ hx2, put1_off _ _ fun e => hn ?_]
    rw [← e]
    rcases List.mem_append.1 hx with e | e
    · exact List.mem_cons_of_mem _ e
    · simp at e; rw [e]; simp
/-- By numbers. -/
theorem seg_nxi (h : Seg pv nx a l b) (i : Nat) (hi : i ≤ l.length) : nx ((a :: l).getD i 0) = (l ++ [b]).getD i 0 := by
  induction l generalizing a i with
  | nil => obtain rfl : i = 0 := by simpa using hi
           simpa using h.1
  | cons x l ih =>
    cases i with
    | zero => simpa using h.1
    | succ i => simpa using ih h.2.2 i (by simpa using hi)
theorem seg_pvi (h : Seg pv nx a l b) (i : Nat) (hi : i ≤ l.length) : pv ((l ++ [b]).getD i 0) = (a :: l).getD i 0 := by
  induction l generalizing a i with
  | nil => obtain rfl : i = 0 := by simpa using hi
           simpa using h.2
  | cons x l ih =>
    cases i with
    | zero => simpa using h.2.1
    | succ i => simpa using ih h.2.2 i (by simpa using hi)
end
/-- Where a place stands in a row of places. -/
def posn (b : Nat) : List Nat → Nat
  | [] => 0
  | x :: r => if x = b then 0 else posn b r + 1
theorem posn_at {l : List Nat} (hd : l.Nodup) {i : Nat} (h : i < l.length) : posn (l.getD i 0) l = i := by
  induction l generalizing i with
  | nil => simp at h
  | cons x r ih =>
    have hd' := List.nodup_cons.1 hd
    unfold posn
    cases i with
    | zero => simp
    | succ i =>
      have hi : i < r.length := by simpa using h
      have hm : r.getD i 0 ∈ r := getD_mem hi
      rw [show (x :: r).getD (i + 1) 0 = r.getD i 0 from rfl, if_neg (fun e => hd'.1 (by rw [e]; exact hm)), ih hd'.2 hi]
def blkOf : Value → Nat
  | .pointer (some a) => a.block
  | _ => 0
theorem mem_wo {bs : List Nat} {i b : Nat} (hi : i < bs.length) (hb : b ∈ bs) (hn : b ≠ bs.getD i 0) : b ∈ wo bs i := by
  rw [part_at bs 0 hi] at hb
  unfold wo
  rcases List.mem_append.1 hb with h | h
  · exact List.mem_append.2 (.inl h)
  · rcases List.mem_cons.1 h with h | h
    · exact absurd h hn
    · exact List.mem_append.2 (.inr h)
theorem not_wo {bs : List Nat} (hd : bs.Nodup) {i : Nat} (hi : i < bs.length) : bs.getD i 0 ∉ wo bs i := by
  have e := part_at bs 0 hi
  rw [e] at hd
  have h := List.nodup_append.1 hd
  unfold wo
  intro hm
  rcases List.mem_append.1 hm with hm | hm
  · exact h.2.2 _ hm _ (by simp) rfl
  · exact (List.nodup_cons.1 h.2.1).1 hm
theorem seg_wo {pv nx : Nat → Nat} {E i : Nat} {bs : List Nat} (h : Seg pv nx E bs E) (hd : (E :: bs).Nodup) (hi : i < bs.length) : Seg (put1 pv (nx (bs.getD i 0)) (pv (bs.getD i 0))) (put1 nx (pv (bs.getD i 0)) (nx (bs.getD i 0))) E (wo bs i) E := by
  have e := part_at bs 0 hi
  have h' : Seg pv nx E (bs.take i ++ bs.getD i 0 :: bs.drop (i + 1)) E := by rw [← e]; exact h
  have hd' : (E :: (bs.take i ++ bs.getD i 0 :: bs.drop (i + 1))).Nodup := by rw [← e]; exact hd
  exact seg_leave h' hd'
theorem put1_same {α : Type} (f : Nat → α) (i : Nat) : put1 f i (f i) = f := by
  funext j
  unfold put1
  split
  · rename_i e; rw [e]
  · rfl
end Go.Proofs.Ytmnabdojlekjcaa
