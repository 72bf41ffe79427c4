/-
  slices.IndexFunc, ContainsFunc over cells with the program's strange: is there one that may not be?
-/
import Derived.Test.YtfemlaombdeebaaDoorCpt
namespace Go.Proofs.YtfemlaombdeebaaDoor
open Go.RowKit
set_option linter.unusedVariables false
set_option linter.unusedSimpArgs false
set_option maxRecDepth 100000

set_option maxHeartbeats 1000000 in
theorem pindex (A : Option Addr) (n c : Nat) (l : List Cl) (w : World) (hl : RdE CellE w w.heap.size A n l) (hn : n ≤ maxLen) :
    Calls Tryd.prog 33 #[.slice A n c, .func (.func 20) #[] #[]] w fun e w' => ∃ r : Int, e = .returned (.int .i64 r) ∧ decide (0 ≤ r) = badC l ∧ Below w.heap.size w w' := by
  unfold maxLen at hn
  have HL := Lib.hid hl
  have HN := Lib.hid hl.1
  clear hl
  go_enter Tryd.func33, Tryd.ntmps33
  go_wp2_with fail
  go_loopw [8] (fun i wr => ∃ k : Nat, k ≤ n ∧ i = .int .i64 k ∧ (∀ j, j < k → okC (l.getD j zeroC) = true) ∧ Below w.heap.size w wr) (fun i _ => n - (intOf i).toNat)
  case atStart => exact ⟨0, Nat.zero_le _, rfl, fun j hj => absurd hj (by omega), Below.refl _ _⟩
  case round =>
    obtain ⟨k, hk, rfl, hj, hbl⟩ := hrel
    have HJ := Lib.hid hj
    have HB := Lib.hid hbl
    clear hj hbl
    by_cases hlt : k < n
    · obtain ⟨bA, oA, rfl, hA, cA⟩ := (HL.out.below HB.out).cl hlt
      have HA := Lib.hid cA
      have HX := Lib.hid (rfl : l.getD k zeroC = l.getD k zeroC)
      generalize hx : l.getD k zeroC = x at *
      have HXX := Lib.hid hx
      clear cA hx HX
      go_wp2_with (first | (refine wpList_val rfl (exec_loadC rfl rfl HA.out) ?_) | fail)
      refine (pstrange x wr).mono ?_
      rintro e w1 ⟨rfl, hb1⟩
      have HB1 := Lib.hid (HB.out.trans (hb1.mono HB.out.size))
      clear hb1
      cases hq : okC x
      · have HQ := Lib.hid hq
        clear hq
        go_wp2_with fail
        go_ret
        refine ⟨_, rfl, ?_, HB1.out⟩
        rw [badC_of (k := k) (by rw [HN.out]; exact hlt) (by rw [HXX.out]; exact HQ.out)]
        exact decide_eq_true (by omega)
      · have HQ := Lib.hid hq
        clear hq
        go_wp2_with fail
        go_roundw
        case rel =>
          refine ⟨k + 1, by omega, by go_num, ?_, HB1.out⟩
          intro j hj
          by_cases h : j = k
          · subst h; rw [HXX.out]; exact HQ.out
          · exact HJ.out j (by omega)
        case measure => simp [intOf]; omega
    · go_wp2_with fail
      go_ret
      refine ⟨_, rfl, ?_, HB.out⟩
      rw [badC_no fun j h => HJ.out j (by have := HN.out; omega)]
      rfl
theorem pcontains (A : Option Addr) (n c : Nat) (l : List Cl) (w : World) (hl : RdE CellE w w.heap.size A n l) (hn : n ≤ maxLen) :
    Calls Tryd.prog 19 #[.slice A n c, .func (.func 20) #[] #[]] w fun e w' => e = .returned (.bool (badC l)) ∧ Below w.heap.size w w' := by
  go_enter Tryd.func19, Tryd.ntmps19
  go_wp2_with fail
  refine (pindex A n c l w hl hn).mono ?_
  rintro e w1 ⟨r, rfl, hr, hb⟩
  have HR := Lib.hid hr
  have HB := Lib.hid hb
  clear hr hb
  go_wp2_with fail
  go_ret
  exact ⟨ret_bool HR.out, HB.out⟩
end Go.Proofs.YtfemlaombdeebaaDoor
