/-
  The walk of WallTorn.
-/
import Derived.Test.YtdihialobobkpaaBlkQ
import Derived.Test.YtdihialobobkpaaWallLives
namespace Go.Proofs.Ytdihialobobkpaa
open Go.RowKit
set_option linter.unusedVariables false
set_option linter.unusedSimpArgs false

set_option maxHeartbeats 1600000 in
theorem wallTorn_walk (a b : Blk) (n : Int) (w : World) : Calls Try.prog 7 #[blk a, blk b, .int .i64 n] w fun e w' => e = .returned (.bool true) ∧ Below w.heap.size w w' := by
  obtain ⟨hA, _, hB, _, hb, hsize⟩ := laid2 w a b
  obtain ⟨w2, hw2⟩ : ∃ w2, two_ w a b = w2 := ⟨_, rfl⟩
  rw [hw2] at hA hB hb hsize
  have HW := Lib.hid hw2
  have HA := Lib.hid hA
  have HB := Lib.hid hB
  have HS := Lib.hid hsize
  have hs := hw2
  unfold two_ at hs
  clear hw2 hA hB hsize
  go_enter Try.func7, Try.ntmps7
  go_wp2_with (first | (refine wpList_val rfl (exec_box rfl rfl) ?_) | (refine wpList_val rfl (exec_load rfl rfl HA.out) ?_) | (refine wpList_val rfl (exec_load rfl rfl HB.out) ?_))
  clear hs HW
  refine (torn_any a b n _).mono ?_
  rintro e w3 ⟨rfl, hb3⟩
  have hsz3 := hb3.size
  have hA3 := range_below HA.out (by have := HS.out; omega) hb3
  have hB3 := range_below HB.out (by have := HS.out; omega) hb3
  have HA4 := Lib.hid (World.rangeAt_alloc hA3 (.cells (cel (torn a b n)).toArray 23))
  have HB4 := Lib.hid (World.rangeAt_alloc hB3 (.cells (cel (torn a b n)).toArray 23))
  have HT4 := Lib.hid (range_new w3 (cel (torn a b n)) 23)
  have hw3 : w.heap.size ≤ w3.heap.size := by have := HS.out; omega
  have hbb : Below w.heap.size w w3 := hb.trans (hb3.mono (by have := HS.out; omega))
  have HBB := Lib.hid (hbb.alloc hw3 (.cells (cel (torn a b n)).toArray 23))
  have HSZ := Lib.hid (show (w3.alloc (.cells (cel (torn a b n)).toArray 23)).heap.size = w3.heap.size + 1 from World.size_alloc ..)
  have HLT := Lib.hid (show w.heap.size + 1 + 1 ≤ w3.heap.size by have := HS.out; omega)
  clear hb hb3 hsz3 hA3 hB3 hw3 hbb HS HA HB
  go_wp2_with (first | (refine wpList_val rfl (exec_alloc rfl) ?_) | (refine wpList_nul rfl (exec_fill rfl rfl rfl) ?_))
  generalize w3.alloc (.cells (cel (torn a b n)).toArray 23) = w4 at *
  generalize hts : w3.heap.size = ts at *
  generalize hs0 : w.heap.size = s at *
  clear hts
  go_loop [8] (fun i => ∃ j : Nat, j ≤ 64 ∧ i = .int .i64 j) (fun i => 64 - (intOf i).toNat)
  case atStart => exact ⟨0, by omega, rfl⟩
  case round =>
    obtain ⟨j, hj, rfl⟩ := hrel
    by_cases hlt : j < 64
    · have ha := HA4.out j _ (cel_at a hlt)
      have hb := HB4.out j _ (cel_at b hlt)
      have ht := HT4.out j _ (cel_at (torn a b n) hlt)
      rw [torn_byt _ _ _ hlt] at ht
      rw [Nat.zero_add] at ha hb ht
      by_cases hn : (j : Int) < n
      · rw [if_pos hn] at ht
        go_wp2_with fail
        go_round
        case rel => exact ⟨j + 1, by omega, by go_num⟩
        case measure => simp [intOf]; omega
      · rw [if_neg hn] at ht
        go_wp2_with fail
        go_round
        case rel => exact ⟨j + 1, by omega, by go_num⟩
        case measure => simp [intOf]; omega
    · have hj64 : j = 64 := by omega
      subst hj64
      have HH := Lib.hid (show ts ≤ w4.heap.size by have := HSZ.out; omega)
      have HE := Lib.hid (torn_same a n)
      go_wp2_with fail
      refine wp_region_above (B := ts) (by kernel_rfl) ?_
      refine qv_val rfl (fun w' hw => exec_load rfl rfl (range_below HA4.out (by have := HLT.out; omega) hw)) ?_
      simp only [Act.put, List.setIfInBounds_toArray, List.set_cons_succ, List.set_cons_zero]
      refine qv_val rfl (fun w' hw => exec_load rfl rfl (range_below HA4.out (by have := HLT.out; omega) hw)) ?_
      simp only [Act.put, List.setIfInBounds_toArray, List.set_cons_succ, List.set_cons_zero]
      refine qv_val rfl (fun w' hw => exec_move rfl) ?_
      simp only [Act.put, List.setIfInBounds_toArray, List.set_cons_succ, List.set_cons_zero]
      refine qv_call rfl (fun _ => exec_call Try.call17 rfl) (above_of HH.out fun w' hw => torn_any a a n w') ?_
      simp only [Act.put, List.setIfInBounds_toArray, List.set_cons_succ, List.set_cons_zero]
      refine qv_val rfl (fun w' hw => exec_load rfl rfl (range_below HA4.out (by have := HLT.out; omega) hw)) ?_
      simp only [Act.put, List.setIfInBounds_toArray, List.set_cons_succ, List.set_cons_zero]
      refine qv_val rfl (fun w' hw => exec_eqy rfl rfl rfl HE.out) ?_
      simp only [Act.put, List.setIfInBounds_toArray, List.set_cons_succ, List.set_cons_zero]
      refine qv_val rfl (fun w' hw => exec_move rfl) ?_
      simp only [Act.put, List.setIfInBounds_toArray, List.set_cons_succ, List.set_cons_zero]
      refine qv_call rfl (fun _ => exec_call (args := []) Try.call22 rfl) (above_of HH.out fun w' hw => lives_yes w') ?_
      simp only [Act.put, List.setIfInBounds_toArray, List.set_cons_succ, List.set_cons_zero]
      refine qv_val rfl (fun w' hw => exec_pick_t rfl rfl) ?_
      simp only [Act.put, List.setIfInBounds_toArray, List.set_cons_succ, List.set_cons_zero]
      refine qv_val rfl (fun w' hw => exec_assign rfl) ?_
      simp only [Act.put, List.setIfInBounds_toArray, List.set_cons_succ, List.set_cons_zero]
      refine wpQuiet_nil ?_
      intro w5 hw5
      go_wp2_with fail
      go_ret
      rw [hs0]
      exact ⟨rfl, HBB.out.trans (hw5.mono (by have := HLT.out; omega))⟩
end Go.Proofs.Ytdihialobobkpaa
