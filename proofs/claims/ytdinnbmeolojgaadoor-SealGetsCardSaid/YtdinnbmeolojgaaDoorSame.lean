/-
  ashlarref00.Same over whatever two byte slices: it answers whether they read as the same list; nothing is written.
-/
import Derived.Test.YtdinnbmeolojgaaDoorBase
import Derived.Test.YtdinnbmeolojgaaDoorProg
import Derived.WalkKit
import Derived.RegionTactic
import Derived.ChangeAlike
import Derived.Deep.QuietTactic
import Derived.BigQuiet
import Derived.Lib.Hide
namespace Go.Proofs.YtdinnbmeolojgaaDoor
open Go.RowKit

def same (a b : List UInt8) : Bool := a == b

set_option maxHeartbeats 400000 in
theorem same_any (A B : Option Addr) (n m c d N : Nat) (a b : List UInt8) (w : World) (ha : Rd w N A n a) (hb : Rd w N B m b) (hN : N ≤ w.heap.size) (hn : n ≤ maxLen) :
    Calls Tryd.prog 18 #[.slice A n c, .slice B m d] w fun e w' => e = .returned (.bool (same a b)) ∧ Below w.heap.size w w' := by
  unfold maxLen at hn
  by_cases hnm : n = m
  · subst hnm
    go_enter Tryd.func18, Tryd.ntmps18
    go_wp2
    go_loopw [5] (fun i wr => ∃ k : Nat, k ≤ n ∧ i = .int .i64 k ∧ (∀ j, j < k → bt a j = bt b j) ∧ Below w.heap.size w wr) (fun i _ => n - (intOf i).toNat)
    case atStart => exact ⟨0, Nat.zero_le _, rfl, fun j hj => absurd hj (by omega), Below.refl _ _⟩
    case round =>
      obtain ⟨k, hk, rfl, hj, hbl⟩ := hrel
      by_cases hlt : k < n
      · obtain ⟨bA, oA, rfl, hA, cA⟩ := (ha.below (hbl.mono hN)).2 k hlt
        obtain ⟨bB, oB, rfl, hB, cB⟩ := (hb.below (hbl.mono hN)).2 k hlt
        have hidj := Lib.hid hj
        clear hj
        go_wp2
        go_quiet (fail)
        go_wp2
        · have hd : (bt a k != bt b k) = true := by assumption
          go_ret
          refine ⟨?_, bdn hbl _⟩
          have : same a b = false := by
            simp only [same, beq_eq_false_iff_ne]
            rintro rfl
            simp at hd
          rw [this]; rfl
        · have hd : (bt a k != bt b k) = false := by assumption
          go_roundw
          case rel =>
            refine ⟨k + 1, by omega, by go_num, ?_, bdn hbl _⟩
            intro j hj
            by_cases h : j = k
            · subst h; simpa using hd
            · exact hidj.out j (by omega)
          case measure => simp [intOf]; omega
      · go_wp2
        go_ret
        refine ⟨?_, hbl⟩
        have : same a b = true := by
          simp only [same, beq_iff_eq]
          exact eq_of_bt (by rw [ha.1, hb.1]) fun j h => hj j (by have := ha.1; omega)
        rw [this]; rfl
  · have hne : ((n : Int) != (m : Int)) = true := by simp; omega
    go_enter Tryd.func18, Tryd.ntmps18
    go_wp2
    go_ret
    refine ⟨?_, Below.refl _ _⟩
    have : same a b = false := by
      have h1 := ha.1
      have h2 := hb.1
      simp only [same, beq_eq_false_iff_ne]
      rintro rfl
      omega
    rw [this]; rfl
end Go.Proofs.YtdinnbmeolojgaaDoor
