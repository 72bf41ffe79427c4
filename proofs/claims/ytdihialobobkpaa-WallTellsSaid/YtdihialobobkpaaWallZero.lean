/-
  wall.Zero, ashlarref03.Zero.
-/
import Derived.Test.YtdihialobobkpaaWallAlg
namespace Go.Proofs.Ytdihialobobkpaa
open Go.RowKit
set_option linter.unusedVariables false

theorem zero_any (a : Blk) (w : World) : Calls Try.prog 19 #[blk a] w fun e w' => e = .returned (.bool (decide (a = zeroB))) ∧ Below w.heap.size w w' := by
  have hA := range_new w (cel a) 23
  have HA := Lib.hid hA
  clear hA
  go_enter Try.func19, Try.ntmps19
  go_wp2_with (first | (refine wpList_val rfl (exec_box rfl rfl) ?_) | (refine wpList_val rfl (exec_load rfl rfl HA.out) ?_) | (refine wpList_val rfl (exec_build (c := zeroB) (parts := []) rfl rfl) ?_) | (refine wpList_val rfl (exec_eql rfl rfl rfl) ?_))
  go_ret
  exact ⟨rfl, (Below.refl _ w).alloc (Nat.le_refl _) _⟩

theorem refZero_any (a : Blk) (w : World) : Calls Try.prog 20 #[blk a] w fun e w' => e = .returned (.bool (decide (a = zeroB))) ∧ Below w.heap.size w w' := by
  have hA := range_new w (cel a) 23
  have HA := Lib.hid hA
  have HB := Lib.hid ((Below.refl _ w).alloc (Nat.le_refl _) (.cells (cel a).toArray 23))
  clear hA
  go_enter Try.func20, Try.ntmps20
  go_wp2_with (first | (refine wpList_val rfl (exec_box rfl rfl) ?_))
  generalize w.alloc (.cells (cel a).toArray 23) = w1 at *
  generalize hs : w.heap.size = s at *
  go_loop [3] (fun i => ∃ j : Nat, j ≤ 64 ∧ i = .int .i64 j ∧ ∀ m, m < j → byt a m = 0) (fun i => 64 - (intOf i).toNat)
  case atStart => exact ⟨0, by omega, rfl, fun m hm => absurd hm (by omega)⟩
  case round =>
    obtain ⟨j, hj, rfl, hz⟩ := hrel
    have HZ := Lib.hid hz
    clear hz
    by_cases hlt : j < 64
    · have ha := HA.out j _ (cel_at a hlt)
      rw [Nat.zero_add] at ha
      have HBZ := Lib.hid (zero_byt j hlt)
      generalize hx : byt a j = x at *
      have HX := Lib.hid hx
      clear hx
      by_cases h0 : x = 0
      · subst h0
        go_wp2_with fail
        go_round
        case rel =>
          refine ⟨j + 1, by omega, by go_num, fun m hm => ?_⟩
          by_cases e : m = j
          · subst e; exact HX.out
          · exact HZ.out m (by omega)
        case measure => simp [intOf]; omega
      · have hd : (x != 0) = true := by simpa using h0
        go_wp2_with fail
        go_ret
        refine ⟨?_, HB.out⟩
        rw [decide_eq_false]
        · rfl
        · rintro rfl
          have h1 := HX.out
          have h2 := HBZ.out
          omega
    · have hj64 : j = 64 := by omega
      subst hj64
      go_wp2_with fail
      go_ret
      refine ⟨?_, HB.out⟩
      rw [decide_eq_true]
      · rfl
      · exact blk_ext fun m hm => by rw [HZ.out m hm, zero_byt m hm]
end Go.Proofs.Ytdihialobobkpaa
