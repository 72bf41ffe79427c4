/-
  NumBits' walk.
-/
import Derived.Test.YtcddmkmogdaobaaBitsAll
namespace Go.Proofs.Ytcddmkmogdaobaa
open Go.RowKit
set_option linter.unusedVariables false

theorem numBits_long (A : Option Addr) (n c : Nat) (s : Int) (B : Option Addr) (nb cb : Nat) (m : Int) (w : World) (h : 3000 < n ∨ (3000 < m ∧ m ≤ 1048576 ∧ 3000 < nb)) :
    Calls Try.prog 4 #[.slice A n c, .int .i64 s, .slice B nb cb, .int .i64 m] w fun e w' => e = .returned (.bool true) ∧ Below w.heap.size w w' := by
  by_cases h0 : 3000 < n
  · clear h
    go_enter Try.func4, Try.ntmps4
    go_wp2_with fail
    refine (lives_yes _).mono ?_
    rintro e w4 ⟨rfl, hb4⟩
    go_wp2
    go_ret
    exact ⟨rfl, hb4⟩
  · obtain ⟨h1, h2, h3⟩ := h.resolve_left h0
    clear h
    go_enter Try.func4, Try.ntmps4
    go_wp2_with fail
    refine (lives_yes _).mono ?_
    rintro e w4 ⟨rfl, hb4⟩
    go_wp2
    go_ret
    exact ⟨rfl, hb4⟩

theorem same_made {B1 B2 : Nat} {v v' : Value} {a b : List UInt8} (w : World) (h1 : Made w B1 v a) (h2 : Made w B2 v' b) :
    Calls Try.prog 13 #[v, v'] w fun e w' => e = .returned (.bool (same a b)) ∧ Below w.heap.size w w' := by
  obtain ⟨A, c, rfl, d1, h3, h4⟩ := h1.open_ rfl
  obtain ⟨A', c', rfl, d2, _, _⟩ := h2.open_ rfl
  exact same_any A A' _ _ c c' w.heap.size a b w d1 d2 (Nat.le_refl _) (Nat.le_trans h3 h4)

/-- All that Left is asked of behind both Spoils. -/
theorem after_spoils {w w2 w3 w4 w5 w8 w9 w10 : World} {g1 g2 : Nat} {v3 v5 : Value} {l b r3 r5 : List UInt8} (b02 : Below w.heap.size w w2) (b23 : Below w2.heap.size w2 w3) (b34 : Below w3.heap.size w3 w4) (b45 : Below w4.heap.size w4 w5) (b58 : Below w5.heap.size w5 w8)
    (h1 : Wided w2 g1 l) (h2 : Wided w2 g2 b) (h3 : OwnNil w3 w2.heap.size v3 r3) (h5 : OwnNil w5 w4.heap.size v5 r5) (g9 : w8.grownBy w9 v3.ownBlock) (g10 : w9.grownBy w10 v5.ownBlock) :
    OwnNil w9 w4.heap.size v5 r5 ∧ (Wided w10 g1 l ∧ Wided w10 g2 b) ∧ Below w.heap.size w w10 := by
  have b28 : Below w2.heap.size w2 w8 := two (two (two b23 b34) b45) b58
  have l1 : g1 < w2.heap.size := World.rowIs.lt h1
  have l2 : g2 < w2.heap.size := World.rowIs.lt h2
  have s34 := b34.size
  have s02 := b02.size
  have s23 := b23.size
  have s48 : w4.heap.size ≤ w8.heap.size := (two b45 b58).size
  have n3 : ∀ g, g < w2.heap.size → some g ≠ v3.ownBlock := fun g hg e => by have := (h3.lt g e.symm).1; omega
  have n5 : ∀ g, g < w2.heap.size → some g ≠ v5.ownBlock := fun g hg e => by have := (h5.lt g e.symm).1; omega
  have h59 : OwnNil w9 w4.heap.size v5 r5 := (h5.below b58).kept g9 fun k hk e => by
    have := (h5.lt k hk).1
    have := (h3.lt k e.symm).2
    omega
  have hb9 : Below w.heap.size w w9 := (two b02 b28).grown g9 (by omega) fun k hk => by have := (h3.lt k hk).1; omega
  have hb10 : Below w.heap.size w w10 := hb9.grown g10 hb9.size fun k hk => by have := (h5.lt k hk).1; omega
  exact ⟨h59, ⟨((h1.below b28).kept g9 (n3 g1 l1)).kept g10 (n5 g1 l1), ((h2.below b28).kept g9 (n3 g2 l2)).kept g10 (n5 g2 l2)⟩, hb10⟩

set_option maxHeartbeats 4000000 in
theorem numBits_walk (A : Option Addr) (n c : Nat) (l : List UInt8) (s : Int) (B : Option Addr) (nb cb : Nat) (b : List UInt8) (m : Int) (w : World) (hl : Rd w w.heap.size A n l) (hb : Rd w w.heap.size B nb b) (hn : n ≤ 3000) (hnb : nb ≤ 140737488351232)
    (h : m ≤ 3000 ∨ (3000 < m ∧ 1048576 < m) ∨ (3000 < m ∧ m ≤ 1048576 ∧ nb ≤ 3000)) :
    Calls Try.prog 4 #[.slice A n c, .int .i64 s, .slice B nb cb, .int .i64 m] w fun e w' => e = .returned (.bool true) ∧ Below w.heap.size w w' := by
  rcases h with h1 | ⟨h1, h2⟩ | ⟨h1, h2, h3⟩
  all_goals
    go_enter Try.func4, Try.ntmps4
    go_wp2_with fail
    refine (wide_any A n c _ _ l _ (Lib.hid rfl) hl (Nat.le_refl _) (by omega)).mono ?_
    rintro e w1 ⟨g1, rfl, hg1, hw1, hb1⟩
    go_wp2_with fail
    have rb1 := hb.step hb1
    refine (wide_any B nb cb _ _ b _ (Lib.hid rfl) rb1 (Nat.le_refl _) hnb).mono ?_
    rintro e w2 ⟨g2, rfl, hg2, hw2, hb2⟩
    have hw1b := hw1.below hb2
    have r1 := hw1b.rd
    rw [hl.1] at r1
    go_wp2_with fail
    refine (bits_all _ n _ _ _ l s w2 (Lib.hid rfl) r1 (Nat.le_refl _) (by omega)).mono ?_
    rintro e w3 ⟨v3, rfl, hv3, hb3⟩
    have rl3 := ((hl.step hb1).step hb2).step hb3
    go_wp2_with fail
    refine (rbits_all A n c _ _ l s w3 (Lib.hid rfl) rl3 (Nat.le_refl _) hn).mono ?_
    rintro e w4 ⟨v4, rfl, hv4, hb4⟩
    have hw2b := (hw2.below hb3).below hb4
    have r2 := hw2b.rd
    rw [hb.1] at r2
    go_wp2_with fail
    refine (unbits_all _ nb _ _ _ b s m w4 (Lib.hid rfl) r2 (Nat.le_refl _) hnb).mono ?_
    rintro e w5 ⟨v5, rfl, hv5, hb5⟩
    have rb5 := (((rb1.step hb2).step hb3).step hb4).step hb5
    go_wp2_with fail
    refine (runbits_all B nb cb _ _ b s m w5 (Lib.hid rfl) rb5 (Nat.le_refl _) hnb).mono ?_
    rintro e w6 ⟨v6, rfl, hv6, hb6⟩
    go_wp2_with fail
    refine (same_made w6 ((hv3.below hb4).below (two hb5 hb6)).made (hv4.below (two hb5 hb6))).mono ?_
    rintro e w7 ⟨rfl, hb7⟩
    rw [show same (layR l s) (layR l s) = true from by simp [same]]
    go_wp2_with fail
    refine (same_made w7 (hv5.below (two hb6 hb7)).made (hv6.below hb7)).mono ?_
    rintro e w8 ⟨rfl, hb8⟩
    rw [show same (unR b nb s m) (unR b nb s m) = true from by simp [same]]
    go_wp2_with fail
    refine (spoil_all _ v3 _ 1 w8 (hv3.below (two hb4 (two hb5 (two hb6 (two hb7 hb8)))))).mono ?_
    rintro e w9 ⟨rfl, hg9⟩
    have H5 := (after_spoils (two hb1 hb2) hb3 hb4 hb5 (two hb6 (two hb7 hb8)) hw1b hw2 hv3 hv5 hg9 (World.grownBy.refl w9 _)).1
    go_wp2_with fail
    refine (spoil_all _ v5 _ 1 w9 H5).mono ?_
    rintro e w10 ⟨rfl, hg10⟩
    obtain ⟨_, ⟨x1, x2⟩, hb10⟩ := after_spoils (two hb1 hb2) hb3 hb4 hb5 (two hb6 (two hb7 hb8)) hw1b hw2 hv3 hv5 hg9 hg10
    have rl10 := hl.step hb10
    have rb10 := hb.step hb10
    go_wp2_with fail
    refine (left_yes A n c _ g1 _ l w10 (Lib.hid rfl) x1 rl10 (Nat.le_refl _) (by omega)).mono ?_
    rintro e w11 ⟨rfl, hb11⟩
    go_wp2_with fail
    refine (left_yes B nb cb _ g2 _ b w11 (Lib.hid rfl) (x2.below hb11) (rb10.step hb11) (Nat.le_refl _) hnb).mono ?_
    rintro e w12 ⟨rfl, hb12⟩
    go_wp2_with fail
    refine (lives_yes _).mono ?_
    rintro e w13 ⟨rfl, hb13⟩
    go_wp2
    go_ret
    exact ⟨rfl, four hb10 hb11 hb12 hb13⟩
end Go.Proofs.Ytcddmkmogdaobaa
