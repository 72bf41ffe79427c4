/-
  The program's line in memory: its block's cells as functions; what is read, what is laid.
-/
import Derived.Test.YtmhcpiafhbnclaaLnM
import Derived.Test.YtmhcpiafhbnclaaTrn
import Derived.Test.YtmhcpiafhbnclaaBlkW
namespace Go.Proofs.Ytmhcpiafhbnclaa
open Go.RowKit
set_option linter.unusedVariables false
set_option linter.unusedSimpArgs false
set_option maxRecDepth 100000

/-- What a line's block holds. -/
structure LnF where
  n : Int
  kn : Nat → Bool
  dt : Nat → Bool
  bl : Nat → Blk
  f : Int
def lnCel (x : LnF) (i : Nat) : Value :=
  if i = 0 then .int .i64 x.n
  else if i < 17 then .bool (x.kn (i - 1))
  else if i < 33 then .bool (x.dt (i - 17))
  else if i < 1057 then .int .u8 (byt (x.bl ((i - 33) / 64)) ((i - 33) % 64))
  else .int .u64 x.f
def lnCs (x : LnF) : List Value := (List.range 1058).map (lnCel x)
theorem lnCs_len (x : LnF) : (lnCs x).length = 1058 := by simp [lnCs]
theorem lnCs_at (x : LnF) {i : Nat} (h : i < 1058) : (lnCs x)[i]? = some (lnCel x i) := by
  simp only [lnCs, List.getElem?_map, List.getElem?_range h, Option.map_some]
theorem lnCs_one (x : LnF) : ∀ v ∈ lnCs x, v.oneCell' = true := by
  intro v hv
  simp only [lnCs, List.mem_map] at hv
  obtain ⟨i, _, rfl⟩ := hv
  unfold lnCel
  split
  · rfl
  · split
    · rfl
    · split
      · rfl
      · split <;> rfl
section
variable {x y : LnF} {k j : Nat}
theorem lncelN (x : LnF) : lnCel x 0 = .int .i64 x.n := rfl
theorem lncelK (hk : k < 16) : lnCel x (1 + k) = .bool (x.kn k) := by
  unfold lnCel
  rw [if_neg (by omega), if_pos (by omega), show 1 + k - 1 = k from by omega]
theorem lncelD (hk : k < 16) : lnCel x (17 + k) = .bool (x.dt k) := by
  unfold lnCel
  rw [if_neg (by omega), if_neg (by omega), if_pos (by omega), show 17 + k - 17 = k from by omega]
theorem lncelB (hk : k < 16) (hj : j < 64) : lnCel x (33 + k * 64 + j) = .int .u8 (byt (x.bl k) j) := by
  unfold lnCel
  rw [if_neg (by omega), if_neg (by omega), if_neg (by omega), if_pos (by omega), show (33 + k * 64 + j - 33) / 64 = k from by omega, show (33 + k * 64 + j - 33) % 64 = j from by omega]
theorem lncelF (x : LnF) : lnCel x 1057 = .int .u64 x.f := rfl
/-- Two are alike but for the cells from o on, m of them. -/
def LnBut (o m : Nat) (x y : LnF) : Prop := ∀ i, i < 1058 → ¬ (o ≤ i ∧ i < o + m) → lnCel x i = lnCel y i
theorem lnCs_put {o : Nat} {vs : List Value} (h : ∀ j, j < vs.length → vs[j]? = some (lnCel y (o + j))) (h2 : LnBut o vs.length x y) (hm : o + vs.length ≤ 1058) : (lnCs x).take o ++ vs ++ (lnCs x).drop (o + vs.length) = lnCs y := by
  have hl : ((lnCs x).take o).length = o := by rw [List.length_take, lnCs_len]; omega
  refine List.ext_getElem? fun i => ?_
  by_cases hi : i < 1058
  · rw [lnCs_at y hi, List.append_assoc]
    by_cases h1 : i < o
    · rw [List.getElem?_append_left (by omega), List.getElem?_take_of_lt h1, lnCs_at x hi, h2 i hi (by omega)]
    · rw [List.getElem?_append_right (by omega), hl]
      by_cases h3 : i < o + vs.length
      · rw [List.getElem?_append_left (by omega), h (i - o) (by omega), show o + (i - o) = i from by omega]
      · rw [List.getElem?_append_right (by omega), List.getElem?_drop, show o + vs.length + (i - o - vs.length) = i from by omega, lnCs_at x hi, h2 i hi (by omega)]
  · rw [List.getElem?_eq_none (by simp only [List.length_append, hl, List.length_drop, lnCs_len]; omega), List.getElem?_eq_none (by rw [lnCs_len]; omega)]
end
/-- A line's block lies at p. -/
def LnA (w : World) (p : Nat) (x : LnF) : Prop := w.heap[p]? = some (.cells (lnCs x).toArray 54 (0, 0))
section
variable {w w' : World} {p o k : Nat} {x y : LnF} {vs : List Value}
theorem LnA.put (h : LnA w p x) (hv : ∀ j, j < vs.length → vs[j]? = some (lnCel y (o + j))) (h2 : LnBut o vs.length x y) (hm : o + vs.length ≤ 1058) : LnA (w.setCells p o vs) p y := by
  have hs : lnCs x = (lnCs x).take o ++ ((lnCs x).drop o).take vs.length ++ (lnCs x).drop (o + vs.length) := by
    rw [List.append_assoc, ← List.drop_drop, List.take_append_drop, List.take_append_drop]
  have h' := h
  unfold LnA at h'
  rw [hs] at h'
  have := heap_put p 54 _ vs _ _ w (by rw [List.length_take, List.length_drop, lnCs_len]; omega) h'
  rw [lnCs_put hv h2 hm, List.length_take, lnCs_len, Nat.min_eq_left (by omega)] at this
  exact this
theorem LnA.lt (h : LnA w p x) : p < w.heap.size := blk_lt h
theorem LnA.fz (h : LnA w p x) (j : Nat) : w.frozen? ⟨p, j, none⟩ = false := frozen_of_row w p j _ _ h
theorem LnA.at_ (h : LnA w p x) {i : Nat} (hi : i < 1058) : w.cell? ⟨p, i, none⟩ = some (lnCel x i) := by
  have := (rng_at h) i _ (lnCs_at x hi)
  rwa [Nat.zero_add] at this
theorem LnA.there (h : LnA w p x) {o m : Nat} (hm : o + m ≤ 1058) : w.there p o m := fun i hi => ⟨by rw [h.at_ (by omega)]; rfl, h.fz _⟩
theorem LnA.cN (h : LnA w p x) : w.cell? ⟨p, 0, none⟩ = some (.int .i64 x.n) := h.at_ (i := 0) (by omega)
theorem LnA.cK (h : LnA w p x) (hk : k < 16) : w.cell? ⟨p, 1 + k, none⟩ = some (.bool (x.kn k)) := by rw [h.at_ (by omega), lncelK hk]
theorem LnA.cD (h : LnA w p x) (hk : k < 16) : w.cell? ⟨p, 17 + k, none⟩ = some (.bool (x.dt k)) := by rw [h.at_ (by omega), lncelD hk]
theorem LnA.cF (h : LnA w p x) : w.cell? ⟨p, 1057, none⟩ = some (.int .u64 x.f) := h.at_ (i := 1057) (by omega)
theorem LnA.cB (h : LnA w p x) (hk : k < 16) : w.rangeAt p (33 + k * 64) (cel (x.bl k)) := fun j v hj => by
  have hl : j < 64 := by
    have := (List.getElem?_eq_some_iff.1 hj).1
    rwa [cel_length] at this
  rw [cel_at _ hl] at hj
  injection hj with hj
  subst hj
  rw [h.at_ (by omega), lncelB hk hl]
/-! ### What is laid -/
def updF {α : Type} (g : Nat → α) (k : Nat) (a : α) : Nat → α := fun j => if j = k then a else g j
theorem LnA.sK (h : LnA w p x) (hk : k < 16) (c : Bool) : LnA (w.setCell ⟨p, 1 + k, none⟩ (.bool c)) p { x with kn := updF x.kn k c } := by
  refine LnA.put (vs := [.bool c]) (o := 1 + k) h (fun j hj => ?_) (fun i hi hn => ?_) (by simp; omega)
  · have : j = 0 := by simpa using hj
    subst this
    rw [Nat.add_zero, lncelK hk]; simp [updF]
  · simp at hn
    unfold lnCel
    split
    · rfl
    · split
      · simp only [updF]; rw [if_neg (by omega)]
      · rfl
theorem LnA.sD (h : LnA w p x) (hk : k < 16) (c : Bool) : LnA (w.setCell ⟨p, 17 + k, none⟩ (.bool c)) p { x with dt := updF x.dt k c } := by
  refine LnA.put (vs := [.bool c]) (o := 17 + k) h (fun j hj => ?_) (fun i hi hn => ?_) (by simp; omega)
  · have : j = 0 := by simpa using hj
    subst this
    rw [Nat.add_zero, lncelD hk]; simp [updF]
  · simp at hn
    unfold lnCel
    split
    · rfl
    · split
      · rfl
      · split
        · simp only [updF]; rw [if_neg (by omega)]
        · rfl
theorem LnA.sB (h : LnA w p x) (hk : k < 16) (b : Blk) : LnA (w.setCells p (33 + k * 64) (cel b)) p { x with bl := updF x.bl k b } := by
  refine LnA.put h (fun j hj => ?_) (fun i hi hn => ?_) (by rw [cel_length]; omega)
  · rw [cel_length] at hj
    rw [lncelB hk hj, cel_at _ hj]; simp [updF]
  · rw [cel_length] at hn
    unfold lnCel
    split
    · rfl
    · split
      · rfl
      · split
        · rfl
        · split
          · simp only [updF]; rw [if_neg (by omega)]
          · rfl
theorem LnA.sF (h : LnA w p x) (q : Int) : LnA (w.setCell ⟨p, 1057, none⟩ (.int .u64 q)) p { x with f := q } := by
  refine LnA.put (vs := [.int .u64 q]) (o := 1057) h (fun j hj => ?_) (fun i hi hn => ?_) (by simp)
  · have : j = 0 := by simpa using hj
    subst this
    rfl
  · simp at hn
    unfold lnCel
    split
    · rfl
    · split
      · rfl
      · split
        · rfl
        · rw [if_pos (by omega), if_pos (by omega)]
def no16 : List Value := List.replicate 16 (.bool false)
theorem LnA.sD0 (h : LnA w p x) : LnA (w.setCells p 17 no16) p { x with dt := fun _ => false } := by
  refine LnA.put h (fun j hj => ?_) (fun i hi hn => ?_) (by simp [no16])
  · have hj' : j < 16 := by simpa [no16] using hj
    rw [lncelD hj']
    exact List.getElem?_replicate_of_lt hj'
  · simp [no16] at hn
    unfold lnCel
    split
    · rfl
    · split
      · rfl
      · split
        · omega
        · rfl
end
/-! ### A line's block -/
def lf (s : LnS) : LnF := ⟨(s.l.length : Int), fun k => (lnAt s k).kn, fun k => (lnAt s k).dt, fun k => (lnAt s k).b, (s.f : Int)⟩
def lf0 (n : Int) : LnF := ⟨n, fun _ => false, fun _ => false, fun _ => zeroB, 0⟩
theorem lnAt_set {s : LnS} {k : Nat} (hk : k < s.l.length) (a : LC) (f : Nat) (j : Nat) : lnAt ⟨s.l.set k a, f⟩ j = if j = k then a else lnAt s j := getD_set_ _ _ _ _ _ hk
theorem lf_set {s : LnS} {k : Nat} (hk : k < s.l.length) (a : LC) (f : Nat) : lf ⟨s.l.set k a, f⟩ = ⟨(s.l.length : Int), updF (lf s).kn k a.kn, updF (lf s).dt k a.dt, updF (lf s).bl k a.b, (f : Int)⟩ := by
  unfold lf
  simp only [LnF.mk.injEq, List.length_set, true_and, and_true]
  refine ⟨funext fun j => ?_, funext fun j => ?_, funext fun j => ?_⟩ <;> (rw [lnAt_set hk]; simp only [updF]; split <;> rfl)
theorem lf_cln (s : LnS) : lf (lnCln s) = { lf s with dt := fun _ => false, f := 0 } := by
  unfold lf
  simp only [LnF.mk.injEq, len_cln, true_and]
  refine ⟨funext fun j => ?_, funext fun j => ?_, funext fun j => ?_, rfl⟩ <;> rw [map_at] <;> rfl
theorem lf_new (n : Nat) : lf (lnNew n) = lf0 (n : Int) := by
  have h : ∀ j, lnAt (lnNew n) j = lc0 := fun j => by
    simp only [lnAt, lnNew, List.getD, List.getElem?_replicate]
    split <;> rfl
  unfold lf lf0
  simp only [LnF.mk.injEq]
  refine ⟨by simp [lnNew], funext fun j => by rw [h]; rfl, funext fun j => by rw [h]; rfl, funext fun j => by rw [h]; rfl, rfl⟩
theorem updF_same {α : Type} {g : Nat → α} {k : Nat} {a : α} (h : g k = a) : updF g k a = g := funext fun j => by
  unfold updF
  split
  · rename_i e; subst e; exact h.symm
  · rfl
end Go.Proofs.Ytmhcpiafhbnclaa
