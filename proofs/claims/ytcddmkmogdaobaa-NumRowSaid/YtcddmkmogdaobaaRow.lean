/-
  NumRow's walk.
-/
import Derived.Test.YtcddmkmogdaobaaApp
import Derived.Test.YtcddmkmogdaobaaNumAll
import Derived.Test.YtcddmkmogdaobaaOne
namespace Go.Proofs.Ytcddmkmogdaobaa
open Go.RowKit
set_option linter.unusedVariables false

theorem narrow8 (l : List UInt8) : narrow 8 l = true := List.all_eq_true.2 fun u _ => by
  have := UInt8.toNat_lt u
  simpa using this
/-- Numbers of a width, whatever stands behind their bytes. -/
theorem row_back {K n : Nat} {l b : List UInt8} (hl : l.length = n) (h8 : K ≤ 8) (hall : narrow K l = true) : digL K n (val 8 (digL 8 (bytesOf n K) (val K l) ++ b)) = l := by
  subst hl
  have hlt := val_lt (narrow_mem hall)
  have hle : K * l.length ≤ 8 * bytesOf l.length K := by unfold bytesOf; rw [Nat.mul_comm K]; omega
  have hlt2 : val K l < 2 ^ (8 * bytesOf l.length K) := Nat.lt_of_lt_of_le hlt (Nat.pow_le_pow_right (by omega) hle)
  rw [val_append, val_digL (by omega), Nat.mod_eq_of_lt hlt2, length_digL]
  refine Eq.trans ?_ (digL_val (narrow_mem hall))
  unfold digL
  apply List.map_congr_left
  intro j hj
  rw [List.mem_range] at hj
  congr 1
  -- the digit lies below what stands behind
  obtain ⟨r, hr⟩ := Nat.exists_eq_add_of_le hle
  have hKj : K * j + K ≤ K * l.length := by rw [← Nat.mul_succ]; exact Nat.mul_le_mul_left _ hj
  obtain ⟨q, hq⟩ := Nat.exists_eq_add_of_le hKj
  rw [show 8 * bytesOf l.length K = K * j + (K + (q + r)) from by omega, Nat.pow_add, Nat.mul_assoc, Nat.add_mul_div_left _ _ (Nat.pow_pos (by omega)), Nat.pow_add, Nat.mul_assoc, Nat.add_mul_mod_self_left]

set_option maxHeartbeats 1000000 in
theorem numRow_long (A : Option Addr) (n c : Nat) (t : Int) (B : Option Addr) (nb cb : Nat) (w : World) (h : 3000 < n) :
    Calls Try.prog 6 #[.slice A n c, .int .u8 t, .slice B nb cb] w fun e w' => e = .returned (.bool true) ∧ Below w.heap.size w w' := by
  go_enter Try.func6, Try.ntmps6
  go_wp2_with fail
  refine (lives_yes _).mono ?_
  rintro e w4 ⟨rfl, hb4⟩
  go_wp2
  go_ret
  exact ⟨rfl, hb4⟩

set_option maxHeartbeats 1000000 in
theorem numRow_walk (A : Option Addr) (n c : Nat) (l : List UInt8) (t : Nat) (B : Option Addr) (nb cb : Nat) (b : List UInt8) (w : World) (ht : t < 256) (hl : Rd w w.heap.size A n l) (hb : Rd w w.heap.size B nb b) (hn : n ≤ 3000) (hnb : nb ≤ 140737488351232) :
    Calls Try.prog 6 #[.slice A n c, .int .u8 t, .slice B nb cb] w fun e w' => e = .returned (.bool true) ∧ Below w.heap.size w w' := by
  have ek : (1 + (t : Int) % 8) = ((1 + t % 8 : Nat) : Int) := by omega
  have hk8 : 1 + t % 8 ≤ 8 := by omega
  have hk1 : 1 ≤ 1 + t % 8 := by omega
  have h7 : narrow (1 + t % 8) l = false → t % 8 < 7 := by
    intro h
    rcases Nat.lt_or_ge (t % 8) 7 with h7 | h7
    · exact h7
    · have e : 1 + t % 8 = 8 := by omega
      rw [e, narrow8] at h
      cases h
  have EK := Lib.hid ek
  clear ek
  cases hall : narrow (1 + t % 8) l
  · have h7' := h7 hall
    have HA := Lib.hid hall
    clear hall h7
    go_enter Try.func6, Try.ntmps6
    go_wp2_with fail
    rw [EK.out]
    refine (bits_big _ _ _ _ _ l _ hl (by unfold maxLen; omega) hk1 hk8 HA.out).mono ?_
    rintro e w' ⟨rfl, rfl⟩
    go_wp2_with fail
    refine (lives_yes _).mono ?_
    rintro e w4 ⟨rfl, hb4⟩
    go_wp2
    go_ret
    exact ⟨rfl, hb4⟩
  · have HA := Lib.hid hall
    clear hall h7
    have hbk : digL (1 + t % 8) n (val 8 (digL 8 (bytesOf n (1 + t % 8)) (val (1 + t % 8) l) ++ b)) = l := row_back hl.1 hk8 HA.out
    have HBK := Lib.hid hbk
    clear hbk
    have hs1 : (1 + (t : Int) % 8) * (n : Int) ≤ 8 * (bytesOf n (1 + t % 8) : Int) ∧ 8 * (bytesOf n (1 + t % 8) : Int) < (1 + (t : Int) % 8) * (n : Int) + 8 ∧ 0 ≤ (1 + (t : Int) % 8) * (n : Int) ∧ (1 + (t : Int) % 8) * (n : Int) ≤ 24000 := by
      rw [EK.out, ← Int.natCast_mul]
      have h1 : (1 + t % 8) * n ≤ 8 * 3000 := Nat.mul_le_mul hk8 hn
      unfold bytesOf
      rw [Nat.mul_comm n]
      omega
    obtain ⟨hs1, hs2, hs3, hs4⟩ := hs1
    have hshort : bytesOf n (1 + t % 8) < bytesOf (n + 8) (1 + t % 8) := by unfold bytesOf; rw [Nat.add_mul]; omega
    have hby : bytesOf n (1 + t % 8) ≤ 3000 := by
      unfold bytesOf
      have h1 : n * (1 + t % 8) ≤ 3000 * 8 := Nat.mul_le_mul hn hk8
      omega
    go_enter Try.func6, Try.ntmps6
    go_wp2_with fail
    rw [EK.out]
    refine (bits_ok _ _ _ _ _ _ l _ (Lib.hid rfl) hl (Nat.le_refl _) (by omega) hk1 hk8 HA.out).mono ?_
    rintro e w1 ⟨v1, rfl, hv1, hb1⟩
    have hld := length_digL 8 (bytesOf n (1 + t % 8)) (val (1 + t % 8) l)
    generalize hD : digL 8 (bytesOf n (1 + t % 8)) (val (1 + t % 8) l) = d at *
    generalize hM : bytesOf n (1 + t % 8) = M at *
    have HM := Lib.hid hM
    have HLD := Lib.hid hld
    clear hld hD hM
    obtain ⟨A1, c1, rfl, d1, _, hc1⟩ := hv1.made.open_ (n := M) HLD.out
    go_wp2_with fail
    refine (copy_any A1 M c1 _ _ d w1 (Lib.hid rfl) d1 (Nat.le_refl _) (by omega)).mono ?_
    rintro e w2 ⟨v2, rfl, hm2, hb2⟩
    have rb2 := (hb.step hb1).step hb2
    go_wp2_with (at_builtin; refine wpList_app rfl _ _ rfl w1.heap.size _ nb _ v2 d b B rfl rfl hm2 rb2 hb2.size ?c1 ?_)
    case c1 => have := HLD.out; omega
    intro v3 w3 hm3 hg3
    have hb3 : Below w1.heap.size w1 w3 := hb2.grown hg3 hb2.size fun k hk => (hm2.lt k hk).1
    obtain ⟨A3, c3, rfl, d3, _, hc3⟩ := hm3.open_ (n := M + nb) (by rw [List.length_append]; have := hb.1; have := HLD.out; omega)
    go_wp2_with fail
    rw [EK.out]
    refine (unbits_ok A3 _ c3 _ (1 + t % 8) n _ (d ++ b) w3 (Lib.hid rfl) d3 (Nat.le_refl _) (by omega) hk1 hk8 (by omega) (by rw [HM.out]; omega)).mono ?_
    rintro e w4 ⟨v4, rfl, hv4, hb4⟩
    rw [HBK.out] at hv4
    go_wp2_with fail
    rw [EK.out, show ((n : Int) + 8) = ((n + 8 : Nat) : Int) from by omega]
    refine (unbits_short A1 M c1 (1 + t % 8) (n + 8) w4 hk1 hk8 (by omega) hshort).mono ?_
    rintro e w' ⟨rfl, rfl⟩
    obtain ⟨A4, c4, rfl, d4, _, hc4⟩ := hv4.made.open_ (n := n) hl.1
    have rl4 := hl.below (two hb1 (hb3.trans (hb4.mono hb3.size)))
    go_wp2_with fail
    refine (same_any A4 A n n c4 c w4.heap.size l l w4 d4 (rl4.more (two hb1 (hb3.trans (hb4.mono hb3.size))).size) (Nat.le_refl _) (by unfold maxLen; omega)).mono ?_
    rintro e w5 ⟨rfl, hb5⟩
    rw [show same l l = true from by simp [same]]
    go_wp2_with fail
    refine (lives_yes _).mono ?_
    rintro e w6 ⟨rfl, hb6⟩
    go_wp2
    go_ret
    exact ⟨rfl, two (two (two hb1 (hb3.trans (hb4.mono hb3.size))) hb5) hb6⟩
end Go.Proofs.Ytcddmkmogdaobaa
