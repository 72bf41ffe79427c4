/-
  NumOne's walk.
-/
import Derived.Test.YtcddmkmogdaobaaLives
namespace Go.Proofs.Ytcddmkmogdaobaa
open Go.RowKit
set_option linter.unusedVariables false

theorem pow8 (k : Nat) : 2 ^ (8 * k) = 256 ^ k := by rw [Nat.pow_mul]
theorem same_digL {n m k : Nat} (hn : n < 256 ^ k) (hm : m < 256 ^ k) : same (digL 8 k n) (digL 8 k m) = decide (n = m) := by
  unfold same
  rw [Bool.eq_iff_iff, beq_iff_eq, decide_eq_true_eq]
  exact ⟨fun h => digL_inj (by omega) (by rw [pow8]; exact hn) (by rw [pow8]; exact hm) h, fun h => by rw [h]⟩
theorem lt_8 {n t : Nat} (hn : n < 18446744073709551616) (h : ¬ n < 256 ^ (1 + t % 8)) : t % 8 < 7 := by
  rcases Nat.lt_or_ge (t % 8) 7 with h7 | h7
  · exact h7
  · have : t % 8 = 7 := by omega
    rw [this] at h
    omega

set_option maxHeartbeats 1000000 in
theorem numOne_walk (n m t : Nat) (w : World) (hn : n < 18446744073709551616) (hm : m < 18446744073709551616) (ht : t < 256) :
    Calls Try.prog 7 #[.int .u64 n, .int .u64 m, .int .u8 t] w fun e w' => e = .returned (.bool true) ∧ Below w.heap.size w w' := by
  have ek : (1 + (t : Int) % 8) = ((1 + t % 8 : Nat) : Int) := by omega
  have EK := Lib.hid ek
  clear ek
  by_cases fn : n < 256 ^ (1 + t % 8)
  · have FN := Lib.hid fn
    clear fn
    by_cases fm : m < 256 ^ (1 + t % 8)
    · have FM := Lib.hid fm
      clear fm
      go_enter Try.func7, Try.ntmps7
      go_wp2_with fail
      rw [EK.out]
      refine (put_ok n _ _ (by omega) (by omega) FN.out).mono ?_
      rintro e w1 ⟨v1, rfl, hv1, hb1⟩
      go_wp2_with fail
      rw [EK.out]
      refine (put_ok m _ _ (by omega) (by omega) FM.out).mono ?_
      rintro e w2 ⟨v2, rfl, hv2, hb2⟩
      obtain ⟨A1, c1, rfl, d1, _, _⟩ := hv1.made.open_ (n := 1 + t % 8) (length_digL _ _ _)
      obtain ⟨A2, c2, rfl, d2, _, _⟩ := hv2.made.open_ (n := 1 + t % 8) (length_digL _ _ _)
      have hs := same_digL FN.out FM.out
      by_cases hnm : n = m
      · subst hnm
        have hs1 : same (digL 8 (1 + t % 8) n) (digL 8 (1 + t % 8) n) = true := by rw [hs]; simp
        clear hs
        go_wp2_with fail
        refine (same_any _ _ _ _ _ _ _ _ _ _ (d1.step hb2) d2 (Nat.le_refl _) (by unfold maxLen; omega)).mono ?_
        rintro e w3 ⟨rfl, hb3⟩
        rw [hs1]
        go_wp2_with fail
        refine (lives_yes _).mono ?_
        rintro e w4 ⟨rfl, hb4⟩
        go_wp2
        go_ret
        exact ⟨rfl, four hb1 hb2 hb3 hb4⟩
      · have hs1 : same (digL 8 (1 + t % 8) n) (digL 8 (1 + t % 8) m) = false := by rw [hs]; simpa using hnm
        have hne : ((n : Int) == (m : Int)) = false := by rw [beq_eq_false_iff_ne]; omega
        clear hs
        go_wp2_with fail
        refine (same_any _ _ _ _ _ _ _ _ _ _ (d1.step hb2) d2 (Nat.le_refl _) (by unfold maxLen; omega)).mono ?_
        rintro e w3 ⟨rfl, hb3⟩
        rw [hs1]
        go_wp2_with fail
        refine (lives_yes _).mono ?_
        rintro e w4 ⟨rfl, hb4⟩
        go_wp2
        go_ret
        exact ⟨rfl, four hb1 hb2 hb3 hb4⟩
    · have h7 := lt_8 hm fm
      have FM := Lib.hid fm
      clear fm
      go_enter Try.func7, Try.ntmps7
      go_wp2_with fail
      rw [EK.out]
      refine (put_ok n _ _ (by omega) (by omega) FN.out).mono ?_
      rintro e w1 ⟨v1, rfl, hv1, hb1⟩
      go_wp2_with fail
      rw [EK.out]
      refine (put_no m _ _ hm (.inr (by rw [Int.toNat_natCast]; exact FM.out))).mono ?_
      rintro e w' ⟨rfl, rfl⟩
      go_wp2_with fail
      refine (lives_yes _).mono ?_
      rintro e w4 ⟨rfl, hb4⟩
      go_wp2
      go_ret
      exact ⟨rfl, two hb1 hb4⟩
  · have h7 := lt_8 hn fn
    have FN := Lib.hid fn
    clear fn
    by_cases fm : m < 256 ^ (1 + t % 8)
    · have FM := Lib.hid fm
      clear fm
      go_enter Try.func7, Try.ntmps7
      go_wp2_with fail
      rw [EK.out]
      refine (put_no n _ _ hn (.inr (by rw [Int.toNat_natCast]; exact FN.out))).mono ?_
      rintro e w' ⟨rfl, rfl⟩
      go_wp2_with fail
      rw [EK.out]
      refine (put_ok m _ _ (by omega) (by omega) FM.out).mono ?_
      rintro e w1 ⟨v1, rfl, hv1, hb1⟩
      go_wp2_with fail
      refine (lives_yes _).mono ?_
      rintro e w4 ⟨rfl, hb4⟩
      go_wp2
      go_ret
      exact ⟨rfl, two hb1 hb4⟩
    · have FM := Lib.hid fm
      clear fm
      go_enter Try.func7, Try.ntmps7
      go_wp2_with fail
      rw [EK.out]
      refine (put_no n _ _ hn (.inr (by rw [Int.toNat_natCast]; exact FN.out))).mono ?_
      rintro e w' ⟨rfl, rfl⟩
      go_wp2_with fail
      rw [EK.out]
      refine (put_no m _ _ hm (.inr (by rw [Int.toNat_natCast]; exact FM.out))).mono ?_
      rintro e w' ⟨rfl, rfl⟩
      go_wp2_with fail
      refine (lives_yes _).mono ?_
      rintro e w4 ⟨rfl, hb4⟩
      go_wp2
      go_ret
      exact ⟨rfl, hb4⟩
end Go.Proofs.Ytcddmkmogdaobaa
