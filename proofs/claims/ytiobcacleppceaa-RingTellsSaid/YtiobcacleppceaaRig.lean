/-
  RingTells' walk.
-/
import Derived.Test.YtiobcacleppceaaRiv
namespace Go.Proofs.Ytiobcacleppceaa
open Go.RowKit
set_option linter.unusedVariables false
set_option linter.unusedSimpArgs false

set_option maxRecDepth 100000 in
set_option maxHeartbeats 2000000 in
theorem tells_walk (r t h n : Int) (w : World) (ht0 : 0 ≤ t) (ht1 : t ≤ 18446744073709551615) (hh0 : 0 ≤ h) (hh1 : h ≤ 18446744073709551615) (hn1 : -9223372036854775808 ≤ n) (hn2 : n ≤ 9223372036854775807) :
    Calls Try.prog 3 #[.int .i64 r, .int .u64 t, .int .u64 h, .int .i64 n] w fun e w' => e = .returned (.bool true) ∧ Below w.heap.size w w' := by
  go_enter Try.func3, Try.ntmps3
  go_wp2_with fail
  refine (psec r t w ht0 ht1).mono ?_
  rintro e w1 ⟨rfl, rfl⟩
  go_wp2_with fail
  refine (rsec r t w ht0 ht1).mono ?_
  rintro e w1 ⟨rfl, rfl⟩
  generalize secN r t = a1
  generalize secE r t = a2
  go_wp2_with fail
  refine (pfre r t h w ht0 ht1 hh0 hh1).mono ?_
  rintro e w1 ⟨rfl, rfl⟩
  go_wp2_with fail
  refine (rfre r t h w ht0 ht1 hh0 hh1).mono ?_
  rintro e w1 ⟨rfl, rfl⟩
  generalize freN r t h = a3
  generalize freE r t h = a4
  go_wp2_with fail
  refine (ptak r t h n w ht0 ht1 hh0 hh1 hn2).mono ?_
  rintro e w1 ⟨rfl, rfl⟩
  go_wp2_with fail
  refine (rtak r t h n w ht0 ht1 hh0 hh1 hn2).mono ?_
  rintro e w1 ⟨rfl, rfl⟩
  generalize takN r t h n = a5
  generalize takE r t h n = a6
  go_wp2_with fail
  refine (plis r t n _ w (Lib.hid rfl) ht0 ht1 hn1 hn2).mono ?_
  rintro e w1 ⟨v1, rfl, hv1, hb1⟩
  go_wp2_with fail
  refine (rlis r t n _ w1 (Lib.hid rfl) ht0 ht1 hn1 hn2).mono ?_
  rintro e w2 ⟨v2, rfl, hv2, hb2⟩
  have hln := lis_len r t n
  generalize lisL r t n = l at *
  generalize lisE r t n = a7
  obtain ⟨A1, c1, rfl, rd1, _, _⟩ := (hv1.below hb2).open_ rfl
  obtain ⟨A2, c2, rfl, rd2, _, _⟩ := hv2.open_ rfl
  have HB2 := Lib.hid (hb1.trans (hb2.mono hb1.size))
  clear hv1 hv2 hb1 hb2
  go_wp2_with fail
  refine (ints_any _ _ _ _ _ _ _ _ _ w2 rd1 rd2 (Nat.le_refl _) (by unfold maxLen; omega)).mono ?_
  rintro e w3 ⟨rfl, hb3⟩
  rw [show sameI l l = true from by unfold sameI; exact beq_self_eq_true _]
  have HB3 := Lib.hid (HB2.out.trans (hb3.mono HB2.out.size))
  clear hb3 rd1 rd2 HB2 hln
  go_wp2_with fail
  refine (lives_yes w3).mono ?_
  rintro e w4 ⟨rfl, hb4⟩
  have HB4 := Lib.hid (HB3.out.trans (hb4.mono HB3.out.size))
  clear hb4
  go_wp2
  go_ret
  exact ⟨rfl, HB4.out⟩
end Go.Proofs.Ytiobcacleppceaa
