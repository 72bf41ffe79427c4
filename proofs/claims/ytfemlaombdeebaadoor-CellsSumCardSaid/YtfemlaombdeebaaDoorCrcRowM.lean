/-
  Plain mathematics of CrcRow: a row of bytes against others, from a place on.
-/
import Derived.Test.YtfemlaombdeebaaDoorCrcMath
namespace Go.Proofs.YtfemlaombdeebaaDoor

/-- The first j bytes from place k on against those of y. -/
def mix (l y : List UInt8) (k j : Nat) : List UInt8 := l.take k ++ List.zipWith (fun a b => a ^^^ b) ((l.drop k).take j) (y.take j) ++ l.drop (k + j)
/-- Was a byte that is not 0 among the first j? -/
def chg (y : List UInt8) (j : Nat) : Bool := (y.take j).any fun v => (v.toNat : Int) != 0

theorem mix_zero (l y : List UInt8) (k : Nat) : mix l y k 0 = l := by
  unfold mix
  simp
theorem length_zip {l y : List UInt8} {k j : Nat} (h : k + j ≤ l.length) (hy : j ≤ y.length) : (List.zipWith (fun a b => a ^^^ b) ((l.drop k).take j) (y.take j)).length = j := by
  simp
  omega
theorem length_mix {l y : List UInt8} {k j : Nat} (h : k + j ≤ l.length) (hy : j ≤ y.length) : (mix l y k j).length = l.length := by
  unfold mix
  rw [List.length_append, List.length_append, length_zip h hy]
  simp
  omega
theorem mix_split {l y : List UInt8} {k j : Nat} (h : k + j < l.length) : mix l y k j = (l.take k ++ List.zipWith (fun a b => a ^^^ b) ((l.drop k).take j) (y.take j)) ++ l[k + j] :: l.drop (k + j + 1) := by
  unfold mix
  rw [List.drop_eq_getElem_cons h]
theorem mix_at {l y : List UInt8} {k j : Nat} (h : k + j < l.length) (hy : j < y.length) : (mix l y k j)[k + j]? = some l[k + j] := by
  rw [mix_split h]
  have hl : (l.take k ++ List.zipWith (fun a b => a ^^^ b) ((l.drop k).take j) (y.take j)).length = k + j := by
    rw [List.length_append, length_zip (by omega) (by omega)]
    simp
    omega
  rw [List.getElem?_append_right (by omega), hl, Nat.sub_self]
  rfl
theorem mix_set {l y : List UInt8} {k j : Nat} (h : k + j < l.length) (hy : j < y.length) : (mix l y k j).set (k + j) (l[k + j] ^^^ y[j]) = mix l y k (j + 1) := by
  have hl : (l.take k ++ List.zipWith (fun a b => a ^^^ b) ((l.drop k).take j) (y.take j)).length = k + j := by
    rw [List.length_append, length_zip (by omega) (by omega)]
    simp
    omega
  rw [mix_split h, List.set_append_right _ _ (by omega), hl, Nat.sub_self]
  have e : List.zipWith (fun a b => a ^^^ b) ((l.drop k).take (j + 1)) (y.take (j + 1)) = List.zipWith (fun a b => a ^^^ b) ((l.drop k).take j) (y.take j) ++ [l[k + j] ^^^ y[j]] := by
    rw [List.take_succ_eq_append_getElem (by simp; omega), List.take_succ_eq_append_getElem hy, List.zipWith_append (by simp; omega)]
    simp
  unfold mix
  rw [e, List.set_cons_zero, ← Nat.add_assoc]
  simp
theorem chg_succ {y : List UInt8} {j : Nat} (hy : j < y.length) : chg y (j + 1) = (chg y j || ((y[j].toNat : Int) != 0)) := by
  unfold chg
  rw [List.take_succ_eq_append_getElem hy, List.any_append]
  simp
theorem zip_same {q z : List UInt8} (hl : q.length = z.length) : List.zipWith (fun a b => a ^^^ b) q z = q ↔ (z.any fun v => (v.toNat : Int) != 0) = false := by
  induction q generalizing z with
  | nil =>
    cases z with
    | nil => simp
    | cons v z => simp at hl
  | cons u q ih =>
    cases z with
    | nil => simp at hl
    | cons v z =>
      have h := ih (z := z) (by simpa using hl)
      rw [List.zipWith_cons_cons, List.any_cons, Bool.or_eq_false_iff, List.cons_eq_cons, h]
      have hv : u ^^^ v = u ↔ ((v.toNat : Int) != 0) = false := by
        constructor
        · intro e
          have e2 := congrArg UInt8.toNat e
          rw [UInt8.toNat_xor] at e2
          have e3 : u.toNat ^^^ v.toNat = u.toNat ^^^ 0 := by rw [e2, Nat.xor_zero]
          have e4 := xor_inj e3
          simp [e4]
        · intro e
          have e4 : v.toNat = 0 := by
            simp at e
            omega
          apply UInt8.toNat_inj.1
          rw [UInt8.toNat_xor, e4, Nat.xor_zero]
      rw [hv]
/-- The sum is the same one just if no byte was changed. -/
theorem more_mix {l y : List UInt8} {k j : Nat} (h : k + j ≤ l.length) (hy : j ≤ y.length) (h4 : j ≤ 4) : (more 0 (mix l y k j) = more 0 l) ↔ chg y j = false := by
  have hq : ((l.drop k).take j).length = (y.take j).length := by simp; omega
  have hs := zip_same hq
  have hl : l = l.take k ++ (l.drop k).take j ++ l.drop (k + j) := by
    rw [List.append_assoc, ← List.drop_drop, List.take_append_drop, List.take_append_drop]
  unfold chg
  rw [← hs]
  constructor
  · intro e
    have e2 := neg_inj e
    unfold mix at e2
    conv at e2 => rhs; rw [hl]
    refine run_row (neg_lt (by omega)) _ _ _ _ ?_ ?_ e2
    · rw [length_zip h hy]; simp; omega
    · rw [length_zip h hy]; exact h4
  · intro e
    unfold mix
    rw [e, ← hl]
end Go.Proofs.YtfemlaombdeebaaDoor
