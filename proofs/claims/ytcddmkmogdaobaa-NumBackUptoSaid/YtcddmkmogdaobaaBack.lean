/-
  NumBack's walk, of pieces that a machine's memory bears together.
-/
import Derived.Test.YtcddmkmogdaobaaApp
import Derived.Test.YtcddmkmogdaobaaNumAll
import Derived.Test.YtcddmkmogdaobaaOne
namespace Go.Proofs.Ytcddmkmogdaobaa
open Go.RowKit
set_option linter.unusedVariables false

/-- The piece of the numbers' own bytes, wherever it stands. -/
theorem piece_mid (a d b : List UInt8) : piece (a ++ (d ++ b)) a.length d.length = d := by
  unfold piece
  rw [List.drop_left, List.take_left]

set_option maxHeartbeats 1000000 in
theorem numBack_walk (n t : Nat) (A : Option Addr) (na ca : Nat) (a : List UInt8) (B : Option Addr) (nb cb : Nat) (b : List UInt8) (w : World) (hn : n < 18446744073709551616) (ht : t < 256)
    (ha : Rd w w.heap.size A na a) (hb : Rd w w.heap.size B nb b) (hsum : na + nb ≤ 140737488351232) :
    Calls Try.prog 5 #[.int .u64 n, .int .u8 t, .slice A na ca, .slice B nb cb] w fun e w' => e = .returned (.bool true) ∧ Below w.heap.size w w' := by
  have ek : (1 + (t : Int) % 8) = ((1 + t % 8 : Nat) : Int) := by omega
  have EK := Lib.hid ek
  clear ek
  by_cases fn : n < 256 ^ (1 + t % 8)
  · have hv : val 8 (digL 8 (1 + t % 8) n) = n := by rw [val_digL (by omega), pow8, Nat.mod_eq_of_lt fn]
    have HV := Lib.hid hv
    have FN := Lib.hid fn
    clear fn hv
    go_enter Try.func5, Try.ntmps5
    go_wp2_with fail
    rw [EK.out]
    refine (put_ok n _ _ (by omega) (by omega) FN.out).mono ?_
    rintro e w1 ⟨v1, rfl, hv1, hb1⟩
    have hld := length_digL 8 (1 + t % 8) n
    have hk8 : 1 + t % 8 ≤ 8 := by omega
    have hk1 : 1 ≤ 1 + t % 8 := by omega
    generalize hK : 1 + t % 8 = K at *
    have HK := Lib.hid hK
    clear hK
    generalize hD : digL 8 K n = d at *
    have HLD := Lib.hid hld
    clear hld
    obtain ⟨A1, c1, rfl, d1, _, _⟩ := hv1.made.open_ (n := K) HLD.out
    go_wp2_with fail
    have ra1 := ha.step hb1
    refine (copy_any A na ca _ _ a w1 (Lib.hid rfl) ra1 (Nat.le_refl _) (by omega)).mono ?_
    rintro e w2 ⟨v2, rfl, hm2, hb2⟩
    have d2 := d1.step hb2
    have rb2 := (hb.step hb1).step hb2
    go_wp2_with (at_builtin; refine wpList_app rfl _ _ rfl w1.heap.size _ K _ v2 a d A1 rfl rfl hm2 d2 hb2.size ?c1 ?_)
    case c1 => have := ha.1; omega
    intro v3 w3 hm3 hg3
    have hb3 : Below w1.heap.size w1 w3 := hb2.grown hg3 hb2.size fun k hk => (hm2.lt k hk).1
    have hb3' : Below w.heap.size w w3 := two hb1 hb3
    have rb3 : Rd w3 w.heap.size B nb b := hb.below hb3'
    go_wp2_with (at_builtin; refine wpList_app rfl _ _ rfl w1.heap.size _ nb _ v3 (a ++ d) b B rfl rfl hm3 rb3 hb3.size ?c1 ?_)
    case c1 => rw [List.length_append]; have := ha.1; have := HLD.out; omega
    intro v4 w4 hm4 hg4
    have hb4 : Below w1.heap.size w1 w4 := hb3.grown hg4 hb3.size fun k hk => (hm3.lt k hk).1
    obtain ⟨A4, c4, rfl, d4, _, hc4⟩ := hm4.open_ (n := na + K + nb) (by rw [List.length_append, List.length_append]; have := ha.1; have := hb.1; have := HLD.out; omega)
    go_wp2_with fail
    refine (get_ok A4 _ c4 _ _ na K w4 d4 (by unfold maxLen; omega) hk1 hk8 (by omega)).mono ?_
    rintro e w' ⟨rfl, rfl⟩
    have hp : val 8 (piece (a ++ (d ++ b)) na K) = n := by
      have h1 := piece_mid a d b
      rw [ha.1, HLD.out] at h1
      rw [h1, HV.out]
    rw [hp]
    clear hp hD
    have hq : (K : Int) = 1 + (t : Int) % 8 := EK.out.symm
    go_wp2_with fail
    refine (lives_yes _).mono ?_
    rintro e w5 ⟨rfl, hb5⟩
    go_wp2
    go_ret
    exact ⟨rfl, two (two hb1 hb4) hb5⟩
  · have h7 := lt_8 hn fn
    have FN := Lib.hid fn
    clear fn
    go_enter Try.func5, Try.ntmps5
    go_wp2_with fail
    rw [EK.out]
    refine (put_no n _ _ hn (.inr (by rw [Int.toNat_natCast]; exact FN.out))).mono ?_
    rintro e w' ⟨rfl, rfl⟩
    go_wp2_with fail
    refine (lives_yes _).mono ?_
    rintro e w4 ⟨rfl, hb4⟩
    go_wp2
    go_ret
    exact ⟨rfl, hb4⟩
end Go.Proofs.Ytcddmkmogdaobaa
