/-
  Put and Get, the program's and the document's, over whatever arguments: one answer for both.
-/
import Derived.Test.YtcddmkmogdaobaaGet
import Derived.Test.YtcddmkmogdaobaaRefPut
import Derived.Test.YtcddmkmogdaobaaLives
namespace Go.Proofs.Ytcddmkmogdaobaa
open Go.RowKit
set_option linter.unusedVariables false

/-- May the number of this size be put? -/
def putOk (n : Nat) (s : Int) : Prop := (1 ≤ s ∧ s ≤ 8) ∧ n < 256 ^ s.toNat
instance (n : Nat) (s : Int) : Decidable (putOk n s) := by unfold putOk; infer_instance
def putE (n : Nat) (s : Int) : Int := if putOk n s then 0 else 2
def putR (n : Nat) (s : Int) : List UInt8 := if putOk n s then digL 8 s.toNat n else []
theorem made_nil (w : World) (B : Nat) : Made w B (.slice none 0 0) [] := World.ownsRow_nil _ _ _ _

theorem put_all (n : Nat) (s : Int) (w : World) (hn : n < 18446744073709551616) :
    Calls Try.prog 9 #[.int .u64 n, .int .i64 s] w fun e w' => ∃ v, e = .returned (.tuple #[v, .int .i64 (putE n s)]) ∧ Made w' w.heap.size v (putR n s) ∧ Below w.heap.size w w' := by
  by_cases h : putOk n s
  · have h' := h
    obtain ⟨⟨h1, h2⟩, h3⟩ := h'
    unfold putE putR
    rw [if_pos h, if_pos h]
    obtain ⟨k, rfl⟩ := Int.eq_ofNat_of_zero_le (show 0 ≤ s by omega)
    rw [Int.toNat_natCast] at h3 ⊢
    exact (put_ok n k w (by omega) (by omega) h3).mono fun e w' ⟨v, he, hv, hb⟩ => ⟨v, he, hv.made, hb⟩
  · unfold putE putR
    rw [if_neg h, if_neg h]
    refine (put_no n s w hn ?_).mono fun e w' ⟨he, hw⟩ => ⟨_, he, made_nil _ _, hw ▸ Below.refl _ _⟩
    by_cases hs : 1 ≤ s ∧ s ≤ 8
    · exact .inr fun h3 => h ⟨hs, h3⟩
    · exact .inl hs
theorem rput_all (n : Nat) (s : Int) (w : World) (hn : n < 18446744073709551616) :
    Calls Try.prog 10 #[.int .u64 n, .int .i64 s] w fun e w' => ∃ v, e = .returned (.tuple #[v, .int .i64 (putE n s)]) ∧ Made w' w.heap.size v (putR n s) ∧ Below w.heap.size w w' := by
  by_cases hs : 1 ≤ s ∧ s ≤ 8
  · obtain ⟨k, rfl⟩ := Int.eq_ofNat_of_zero_le (show 0 ≤ s by omega)
    refine (rput_any n k w.heap.size w (Lib.hid rfl) hn (by omega) (by omega)).mono fun e w' ⟨⟨hy, hno⟩, hb⟩ => ?_
    have e8 : 2 ^ (8 * k) = 256 ^ k := by rw [Nat.pow_mul]
    rw [e8] at hy hno
    unfold putE putR
    by_cases h3 : n < 256 ^ k
    · obtain ⟨v, he, hv⟩ := hy h3
      have h : putOk n k := ⟨hs, by rwa [Int.toNat_natCast]⟩
      rw [if_pos h, if_pos h, Int.toNat_natCast]
      exact ⟨v, he, hv, hb⟩
    · have h : ¬ putOk n k := fun h => h3 (by have := h.2; rwa [Int.toNat_natCast] at this)
      rw [if_neg h, if_neg h]
      exact ⟨_, hno h3, made_nil _ _, hb⟩
  · have h : ¬ putOk n s := fun h => hs h.1
    unfold putE putR
    rw [if_neg h, if_neg h]
    exact (rput_size n s w hs).mono fun e w' ⟨he, hw⟩ => ⟨_, he, made_nil _ _, hw ▸ Below.refl _ _⟩

/-- What Get answers of so many bytes. -/
def getE (n : Nat) (p s : Int) : Int := if ¬ (1 ≤ s ∧ s ≤ 8) ∨ p < 0 ∨ (n : Int) < p then 2 else if (n : Int) - p < s then 4 else 0
def getV (b : List UInt8) (n : Nat) (p s : Int) : Int := if getE n p s = 0 then (val 8 (piece b p.toNat s.toNat) : Nat) else 0

theorem get_all (A : Option Addr) (n c N : Nat) (b : List UInt8) (p s : Int) (w : World) (hb : Rd w N A n b) (hn : n ≤ 140737488351232) :
    Calls Try.prog 11 #[.slice A n c, .int .i64 p, .int .i64 s] w fun e w' => e = .returned (.tuple #[.int .u64 (getV b n p s), .int .i64 (getE n p s)]) ∧ w = w' := by
  have hn' : n ≤ maxLen := by unfold maxLen; omega
  by_cases h : ¬ (1 ≤ s ∧ s ≤ 8) ∨ p < 0 ∨ (n : Int) < p
  · have e : getE n p s = 2 := by unfold getE; rw [if_pos h]
    unfold getV
    rw [e, if_neg (by omega)]
    exact get_arg A n c p s w hn' h
  · by_cases h4 : (n : Int) - p < s
    · have e : getE n p s = 4 := by unfold getE; rw [if_neg h, if_pos h4]
      unfold getV
      rw [e, if_neg (by omega)]
      exact get_short A n c p s w hn' (by omega) (by omega) (by omega) (by omega) h4
    · have e : getE n p s = 0 := by unfold getE; rw [if_neg h, if_neg h4]
      unfold getV
      rw [e, if_pos rfl]
      obtain ⟨P, rfl⟩ := Int.eq_ofNat_of_zero_le (show 0 ≤ p by omega)
      obtain ⟨k, rfl⟩ := Int.eq_ofNat_of_zero_le (show 0 ≤ s by omega)
      exact get_ok A n c N b P k w hb hn' (by omega) (by omega) (by omega)
theorem rget_all (A : Option Addr) (n c N : Nat) (b : List UInt8) (p s : Int) (w : World) (hb : Rd w N A n b) (hn : n ≤ 140737488351232) :
    Calls Try.prog 12 #[.slice A n c, .int .i64 p, .int .i64 s] w fun e w' => e = .returned (.tuple #[.int .u64 (getV b n p s), .int .i64 (getE n p s)]) ∧ w = w' := by
  have hn' : n ≤ maxLen := by unfold maxLen; omega
  by_cases h : ¬ (1 ≤ s ∧ s ≤ 8) ∨ p < 0 ∨ (n : Int) < p
  · have e : getE n p s = 2 := by unfold getE; rw [if_pos h]
    unfold getV
    rw [e, if_neg (by omega)]
    exact rget_arg A n c p s w hn' h
  · by_cases h4 : (n : Int) - p < s
    · have e : getE n p s = 4 := by unfold getE; rw [if_neg h, if_pos h4]
      unfold getV
      rw [e, if_neg (by omega)]
      exact rget_short A n c p s w hn' (by omega) (by omega) (by omega) (by omega) h4
    · have e : getE n p s = 0 := by unfold getE; rw [if_neg h, if_neg h4]
      unfold getV
      rw [e, if_pos rfl]
      obtain ⟨P, rfl⟩ := Int.eq_ofNat_of_zero_le (show 0 ≤ p by omega)
      obtain ⟨k, rfl⟩ := Int.eq_ofNat_of_zero_le (show 0 ≤ s by omega)
      exact rget_ok A n c N b P k w hb hn' (by omega) (by omega) (by omega)
end Go.Proofs.Ytcddmkmogdaobaa
