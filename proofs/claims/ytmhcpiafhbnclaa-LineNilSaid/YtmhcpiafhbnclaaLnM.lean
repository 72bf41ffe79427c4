/-
  Lines as plain values: cells that are known, or dirty; the least number; what is asked of them.
-/
import Derived.Test.YtmhcpiafhbnclaaBlk
namespace Go.Proofs.Ytmhcpiafhbnclaa
open Go.RowKit
set_option linter.unusedVariables false
set_option maxRecDepth 100000

structure LC where
  kn : Bool
  dt : Bool
  b : Blk
def lc0 : LC := ⟨false, false, zeroB⟩
structure LnS where
  l : List LC
  f : Nat
def lnAt (s : LnS) (k : Nat) : LC := s.l.getD k lc0
/-- Is there such a member? -/
def lnR (s : LnS) (m : Int) : Bool := decide (0 ≤ m) && decide (m < (s.l.length : Int))
def minF (f q : Nat) : Nat := if f = 0 ∨ q < f then q else f
def lnE (s : LnS) (m : Int) : Int := if lnR s m then 0 else 2
def lnLrn (s : LnS) (m : Int) (b : Blk) : LnS := if lnR s m then (if (lnAt s m.toNat).kn then s else ⟨s.l.set m.toNat ⟨true, false, b⟩, s.f⟩) else s
def lnSE (s : LnS) (m : Int) (q : Nat) : Int := if lnR s m && !decide (q = 0) then 0 else 2
def lnSet (s : LnS) (m : Int) (b : Blk) (q : Nat) : LnS := if lnR s m && !decide (q = 0) then ⟨s.l.set m.toNat ⟨true, true, b⟩, minF s.f q⟩ else s
def lnFrg (s : LnS) (m : Int) : LnS := if lnR s m then ⟨s.l.set m.toNat lc0, s.f⟩ else s
def lcC (c : LC) : LC := { c with dt := false }
def lnCln (s : LnS) : LnS := ⟨s.l.map lcC, 0⟩
def lnG (s : LnS) (m : Int) : LC := if lnR s m then lnAt s m.toNat else lc0
/-- The dirty ones of the first n. -/
def drtN (l : List LC) : Nat → List Int
  | 0 => []
  | n + 1 => drtN l n ++ (if (l.getD n lc0).dt then [(n : Int)] else [])
def lnD (s : LnS) : List Int := drtN s.l s.l.length
/-- The least of the first n numbers. -/
def lstN (L : List Int) : Nat → Nat
  | 0 => 0
  | n + 1 => minF (lstN L n) (L.getD n 0).toNat
structure LnOk (s : LnS) : Prop where
  lo : 1 ≤ s.l.length
  hi : s.l.length ≤ 16
  fb : s.f < 18446744073709551616
  no : ∀ k, k < s.l.length → (lnAt s k).kn = false → lnAt s k = lc0
def lnNew (n : Nat) : LnS := ⟨List.replicate n lc0, 0⟩

theorem minF_lt {f q B : Nat} (hf : f < B) (hq : q < B) : minF f q < B := by unfold minF; split <;> omega
theorem getD_set_ {α : Type} (l : List α) (k j : Nat) (a d : α) (hk : k < l.length) : (l.set k a).getD j d = if j = k then a else l.getD j d := by
  by_cases e : j = k
  · subst e; rw [if_pos rfl]; simp [List.getD, hk]
  · rw [if_neg e]; simp only [List.getD]; rw [List.getElem?_set_ne (by omega)]
section
variable {s : LnS} {m : Int} {b : Blk} {q n : Nat}
theorem lnR_of (h : lnR s m = true) : 0 ≤ m ∧ m < (s.l.length : Int) := by unfold lnR at h; simpa using h
theorem lnR_nat {k : Nat} (h : k < s.l.length) : lnR s (k : Int) = true := by unfold lnR; simp [h]
theorem lnOk_set {a : LC} {f : Nat} (h : LnOk s) (k : Nat) (ha : a.kn = false → a = lc0) (hf : f < 18446744073709551616) : LnOk ⟨s.l.set k a, f⟩ := by
  refine ⟨by rw [List.length_set]; exact h.lo, by rw [List.length_set]; exact h.hi, hf, fun j hj hn => ?_⟩
  rw [List.length_set] at hj
  unfold lnAt at hn ⊢
  by_cases hk : k < s.l.length
  · rw [getD_set_ _ _ _ _ _ hk] at hn ⊢
    by_cases e : j = k
    · rw [if_pos e] at hn ⊢; exact ha hn
    · rw [if_neg e] at hn ⊢; exact h.no j hj hn
  · have e : s.l.set k a = s.l := List.set_eq_of_length_le (by omega)
    simp only [e] at hn ⊢
    exact h.no j hj hn
theorem LnOk.lrn (h : LnOk s) (m : Int) (b : Blk) : LnOk (lnLrn s m b) := by
  unfold lnLrn
  split
  · split
    · exact h
    · exact lnOk_set h _ (fun e => by cases e) h.fb
  · exact h
theorem LnOk.set (h : LnOk s) (m : Int) (b : Blk) (hq : q < 18446744073709551616) : LnOk (lnSet s m b q) := by
  unfold lnSet
  split
  · exact lnOk_set h _ (fun e => by cases e) (minF_lt h.fb hq)
  · exact h
theorem LnOk.frg (h : LnOk s) (m : Int) : LnOk (lnFrg s m) := by
  unfold lnFrg
  split
  · exact lnOk_set h _ (fun _ => rfl) h.fb
  · exact h
theorem map_at (k : Nat) : lnAt (lnCln s) k = lcC (lnAt s k) := by
  unfold lnAt lnCln
  simp only [List.getD, List.getElem?_map]
  cases s.l[k]? <;> rfl
theorem LnOk.cln (h : LnOk s) : LnOk (lnCln s) := by
  refine ⟨by simp [lnCln]; exact h.lo, by simp [lnCln]; exact h.hi, by simp [lnCln], fun k hk hn => ?_⟩
  rw [map_at] at hn ⊢
  have hk' : k < s.l.length := by simpa [lnCln] using hk
  rw [h.no k hk' hn]
  rfl
theorem LnOk.new (h1 : 1 ≤ n) (h2 : n ≤ 16) : LnOk (lnNew n) := by
  refine ⟨by simp [lnNew]; exact h1, by simp [lnNew]; exact h2, by simp [lnNew], fun k hk _ => ?_⟩
  have hk' : k < n := by simpa [lnNew] using hk
  simp [lnAt, lnNew, List.getD, hk']
/-! ### Lengths -/
theorem len_lrn (m : Int) (b : Blk) : (lnLrn s m b).l.length = s.l.length := by unfold lnLrn; split <;> (try split) <;> simp
theorem len_set (m : Int) (b : Blk) (q : Nat) : (lnSet s m b q).l.length = s.l.length := by unfold lnSet; split <;> simp
theorem len_frg (m : Int) : (lnFrg s m).l.length = s.l.length := by unfold lnFrg; split <;> simp
theorem len_cln : (lnCln s).l.length = s.l.length := by simp [lnCln]
/-! ### What is dirty -/
theorem drt_mem {l : List LC} : ∀ {n : Nat} {x : Int}, x ∈ drtN l n → ∃ k : Nat, x = (k : Int) ∧ k < n ∧ (l.getD k lc0).dt = true
  | 0, x, h => by simp [drtN] at h
  | n + 1, x, h => by
    rw [drtN, List.mem_append] at h
    rcases h with h | h
    · obtain ⟨k, h1, h2, h3⟩ := drt_mem h; exact ⟨k, h1, by omega, h3⟩
    · split at h
      · rename_i e; simp at h; exact ⟨n, h, by omega, e⟩
      · simp at h
theorem drt_len (l : List LC) (n : Nat) : (drtN l n).length ≤ n := by
  induction n with
  | zero => simp [drtN]
  | succ n ih => rw [drtN, List.length_append]; split <;> simp <;> omega
theorem drtN_clean {l : List LC} {n : Nat} (h : ∀ k, k < n → (l.getD k lc0).dt = false) : drtN l n = [] := by
  induction n with
  | zero => rfl
  | succ n ih => rw [drtN, ih fun k hk => h k (by omega), h n (by omega)]; rfl
theorem lnD_new (n : Nat) : lnD (lnNew n) = [] := drtN_clean fun k hk => by
  have hk' : k < n := by simpa [lnNew] using hk
  simp [lnNew, List.getD, hk', lc0]
theorem lnD_cln : lnD (lnCln s) = [] := drtN_clean fun k hk => by
  have := map_at (s := s) k
  unfold lnAt at this
  rw [this]
  rfl
/-! ### The least number -/
theorem lstN_app (L : List Int) (q : Int) : ∀ n, n ≤ L.length → lstN (L ++ [q]) n = lstN L n
  | 0, _ => rfl
  | n + 1, h => by
    rw [lstN, lstN, lstN_app L q n (by omega)]
    congr 2
    simp only [List.getD]
    rw [List.getElem?_append_left (by omega)]
theorem lstN_snoc (L : List Int) (q : Int) : lstN (L ++ [q]) (L ++ [q]).length = minF (lstN L L.length) q.toNat := by
  rw [List.length_append, List.length_singleton, lstN, lstN_app L q _ (Nat.le_refl _)]
  congr 2
  simp [List.getD]
end
/-! ### By cases -/
section
variable {s : LnS} {m : Int} {b : Blk} {q k : Nat}
theorem lnR_get (h : lnR s m = true) : ∃ k : Nat, m = (k : Int) ∧ k < s.l.length := by
  have := lnR_of h
  exact ⟨m.toNat, by omega, by omega⟩
theorem lnE_no (h : lnR s m = false) : lnE s m = 2 := by unfold lnE; rw [h]; rfl
theorem lnE_ok (h : k < s.l.length) : lnE s (k : Int) = 0 := by unfold lnE; rw [lnR_nat h]; rfl
theorem lnLrn_no (h : lnR s m = false) : lnLrn s m b = s := by unfold lnLrn; rw [h]; rfl
theorem lnLrn_old (h : k < s.l.length) (hn : (lnAt s k).kn = true) : lnLrn s (k : Int) b = s := by unfold lnLrn; rw [lnR_nat h, Int.toNat_natCast, hn]; rfl
theorem lnLrn_new (h : k < s.l.length) (hn : (lnAt s k).kn = false) : lnLrn s (k : Int) b = ⟨s.l.set k ⟨true, false, b⟩, s.f⟩ := by unfold lnLrn; rw [lnR_nat h, Int.toNat_natCast, hn]; rfl
theorem lnSE_no (h : lnR s m = false) : lnSE s m q = 2 := by unfold lnSE; rw [h]; rfl
theorem lnSE_0 : lnSE s m 0 = 2 := by unfold lnSE; cases lnR s m <;> rfl
theorem lnSE_ok (h : k < s.l.length) (hq : q ≠ 0) : lnSE s (k : Int) q = 0 := by unfold lnSE; rw [lnR_nat h, decide_eq_false hq]; rfl
theorem lnSet_no (h : lnR s m = false) : lnSet s m b q = s := by unfold lnSet; rw [h]; rfl
theorem lnSet_0 : lnSet s m b 0 = s := by unfold lnSet; cases lnR s m <;> rfl
theorem lnSet_ok (h : k < s.l.length) (hq : q ≠ 0) : lnSet s (k : Int) b q = ⟨s.l.set k ⟨true, true, b⟩, minF s.f q⟩ := by unfold lnSet; rw [lnR_nat h, decide_eq_false hq, Int.toNat_natCast]; rfl
theorem lnFrg_no (h : lnR s m = false) : lnFrg s m = s := by unfold lnFrg; rw [h]; rfl
theorem lnFrg_ok (h : k < s.l.length) : lnFrg s (k : Int) = ⟨s.l.set k lc0, s.f⟩ := by unfold lnFrg; rw [lnR_nat h, Int.toNat_natCast]; rfl
theorem lnG_no (h : lnR s m = false) : lnG s m = lc0 := by unfold lnG; rw [h]; rfl
theorem lnG_ok (h : k < s.l.length) : lnG s (k : Int) = lnAt s k := by unfold lnG; rw [lnR_nat h, Int.toNat_natCast]; rfl
/-- The first i are clean. -/
def clnN (s : LnS) (i : Nat) : LnS := ⟨(s.l.take i).map lcC ++ s.l.drop i, s.f⟩
theorem clnN_0 : clnN s 0 = s := by simp [clnN]
theorem clnN_len {i : Nat} : (clnN s i).l.length = s.l.length := by simp [clnN]; omega
theorem clnN_all : (clnN s s.l.length).l = (lnCln s).l := by simp [clnN, lnCln]
theorem clnN_at {i : Nat} (h : i < s.l.length) : lnAt (clnN s i) i = lnAt s i := by
  unfold lnAt clnN
  simp only [List.getD]
  rw [List.getElem?_append_right (by simp; omega)]
  simp [Nat.min_eq_left (Nat.le_of_lt h)]
theorem clnN_step {i : Nat} (h : i < s.l.length) : (⟨(clnN s i).l.set i (lcC (lnAt s i)), (clnN s i).f⟩ : LnS) = clnN s (i + 1) := by
  have e : (clnN s i).l.set i (lcC (lnAt s i)) = (clnN s (i + 1)).l := by
    unfold clnN lnAt
    simp only [List.getD, List.getElem?_eq_getElem h, Option.getD_some]
    have h0 : i - ((s.l.take i).map lcC).length = 0 := by simp; omega
    rw [List.set_append_right _ _ (by simp; omega), h0, List.drop_eq_getElem_cons h, List.set_cons_zero, List.take_add_one, List.map_append, List.append_assoc, List.getElem?_eq_getElem h]
    rfl
  unfold clnN at e ⊢
  simp only at e ⊢
  rw [e]
end
end Go.Proofs.Ytmhcpiafhbnclaa
