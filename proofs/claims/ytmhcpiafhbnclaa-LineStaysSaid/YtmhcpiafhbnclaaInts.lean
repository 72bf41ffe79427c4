/-
  ashlarref00.Ints over whatever two rows of numbers.
-/
import Derived.Test.YtmhcpiafhbnclaaIntE
namespace Go.Proofs.Ytmhcpiafhbnclaa
open Go.RowKit
set_option maxRecDepth 100000
set_option linter.unusedVariables false

set_option maxHeartbeats 400000 in
theorem ints_any (A B : Option Addr) (n m c d N : Nat) (a b : List Int) (w : World) (ha : RdE IntE w N A n a) (hb : RdE IntE w N B m b) (hN : N ≤ w.heap.size) (hn : n ≤ maxLen) :
    Calls Try.prog 19 #[.slice A n c, .slice B m d] w fun e w' => e = .returned (.bool (sameI a b)) ∧ Below w.heap.size w w' := by
  unfold maxLen at hn
  by_cases hnm : n = m
  · subst hnm
    go_enter Try.func19, Try.ntmps19
    go_wp2
    go_loopw [5] (fun i wr => ∃ k : Nat, k ≤ n ∧ i = .int .i64 k ∧ (∀ j, j < k → a.getD j 0 = b.getD j 0) ∧ Below w.heap.size w wr) (fun i _ => n - (intOf i).toNat)
    case atStart => exact ⟨0, Nat.zero_le _, rfl, fun j hj => absurd hj (by omega), Below.refl _ _⟩
    case round =>
      obtain ⟨k, hk, rfl, hj, hbl⟩ := hrel
      by_cases hlt : k < n
      · obtain ⟨bA, oA, rfl, hA, cA⟩ := (ha.below (hbl.mono hN)).int hlt
        obtain ⟨bB, oB, rfl, hB, cB⟩ := (hb.below (hbl.mono hN)).int hlt
        have hidj := Lib.hid hj
        clear hj
        generalize hx : a.getD k 0 = x at *
        generalize hy : b.getD k 0 = y at *
        have HX := Lib.hid hx
        have HY := Lib.hid hy
        clear hx hy
        go_wp2
        go_quiet (fail)
        go_wp2
        · have hd : (x != y) = true := by assumption
          go_ret
          refine ⟨?_, bdn hbl _⟩
          have : sameI a b = false := by
            simp only [sameI, beq_eq_false_iff_ne]
            rintro rfl
            have := HX.out.symm.trans HY.out
            simp [this] at hd
          rw [this]; rfl
        · have hd : (x != y) = false := by assumption
          go_roundw
          case rel =>
            refine ⟨k + 1, by omega, by go_num, ?_, bdn hbl _⟩
            intro j hj
            by_cases h : j = k
            · subst h
              rw [HX.out, HY.out]
              simpa using hd
            · exact hidj.out j (by omega)
          case measure => simp [intOf]; omega
      · go_wp2
        go_ret
        refine ⟨?_, hbl⟩
        have : sameI a b = true := by
          simp only [sameI, beq_iff_eq]
          exact ext_ints (by rw [ha.1, hb.1]) fun j h => hj j (by have := ha.1; omega)
        rw [this]; rfl
  · have hne : ((n : Int) != (m : Int)) = true := by simp; omega
    go_enter Try.func19, Try.ntmps19
    go_wp2
    go_ret
    refine ⟨?_, Below.refl _ _⟩
    have : sameI a b = false := by
      have h1 := ha.1
      have h2 := hb.1
      simp only [sameI, beq_eq_false_iff_ne]
      rintro rfl
      omega
    rw [this]; rfl
end Go.Proofs.Ytmhcpiafhbnclaa
