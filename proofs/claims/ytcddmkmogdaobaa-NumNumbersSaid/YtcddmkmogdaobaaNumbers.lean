/-
  NumNumbers' walk.
-/
import Derived.Test.YtcddmkmogdaobaaNumAll
import Derived.Test.YtcddmkmogdaobaaWide
namespace Go.Proofs.Ytcddmkmogdaobaa
open Go.RowKit
set_option linter.unusedVariables false

theorem length_putR (n : Nat) (s : Int) : (putR n s).length ≤ 8 := by
  unfold putR
  split
  · rename_i h
    rw [length_digL]
    have := h.1
    omega
  · simp
theorem same_self (a : List UInt8) : same a a = true := by simp [same]

set_option maxHeartbeats 1000000 in
theorem numNumbers_walk (x : Nat) (s : Int) (A : Option Addr) (n c : Nat) (b : List UInt8) (p : Int) (w : World) (hx : x < 18446744073709551616) (hb : Rd w w.heap.size A n b) (hn : n ≤ 140737488351232) :
    Calls Try.prog 3 #[.int .u64 x, .int .i64 s, .slice A n c, .int .i64 p] w fun e w' => e = .returned (.bool true) ∧ Below w.heap.size w w' := by
  go_enter Try.func3, Try.ntmps3
  go_wp2_with fail
  refine (wide_any A n c _ _ b _ (Lib.hid rfl) hb (Nat.le_refl _) hn).mono ?_
  rintro e w1 ⟨g, rfl, hg, hw1, hb1⟩
  go_wp2_with fail
  refine (put_all x s w1 hx).mono ?_
  rintro e w2 ⟨v2, rfl, hv2, hb2⟩
  go_wp2_with fail
  refine (rput_all x s w2 hx).mono ?_
  rintro e w3 ⟨v3, rfl, hv3, hb3⟩
  have hw3 := (hw1.below hb2).below hb3
  have hl := hb.1
  have hr3 := hw3.rd
  rw [hl] at hr3
  have HL := Lib.hid hl
  clear hl
  go_wp2_with fail
  refine (get_all _ n _ _ b p s w3 hr3 hn).mono ?_
  rintro e w' ⟨rfl, rfl⟩
  have r3 := ((hb.step hb1).step hb2).step hb3
  go_wp2_with fail
  refine (rget_all _ n _ _ b p s w3 r3 hn).mono ?_
  rintro e w' ⟨rfl, rfl⟩
  have hlp := length_putR x s
  obtain ⟨A1, c1, rfl, d1, _, _⟩ := hv2.open_ (n := (putR x s).length) rfl
  obtain ⟨A2, c2, rfl, d2, _, _⟩ := hv3.open_ (n := (putR x s).length) rfl
  generalize (putR x s).length = L at *
  go_wp2_with fail
  refine (same_any _ _ _ _ _ _ _ _ _ _ (d1.step hb3) d2 (Nat.le_refl _) (by unfold maxLen; omega)).mono ?_
  rintro e w4 ⟨rfl, hb4⟩
  rw [same_self]
  have r4 := r3.step hb4
  have hw4 := hw3.below hb4
  go_wp2_with fail
  refine (left_yes A n c _ g _ b w4 (Lib.hid rfl) hw4 r4 (Nat.le_refl _) hn).mono ?_
  rintro e w5 ⟨rfl, hb5⟩
  go_wp2_with fail
  refine (lives_yes _).mono ?_
  rintro e w6 ⟨rfl, hb6⟩
  go_wp2
  go_ret
  exact ⟨rfl, two (two (four hb1 hb2 hb3 hb4) hb5) hb6⟩
end Go.Proofs.Ytcddmkmogdaobaa
