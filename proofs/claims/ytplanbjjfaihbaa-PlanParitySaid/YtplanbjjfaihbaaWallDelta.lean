/-
  wall.Delta, ashlarref03.Delta.
-/
import Derived.Test.YtplanbjjfaihbaaWallAlg
namespace Go.Proofs.Ytplanbjjfaihbaa
open Go.RowKit
set_option linter.unusedVariables false

theorem laid4' (w : World) (a b c d : Blk) : (four_ w a b c d).rangeAt (w.heap.size + 1 + 1) 0 (cel c) ∧ (four_ w a b c d).there (w.heap.size + 1 + 1 + 1) 0 64 := by
  have h := (laid4 w a b c d).2.2.2.1
  refine ⟨?_, there_row h (by omega)⟩
  unfold four_
  have e1 := World.size_alloc (w := w) (o := Obj.cells (cel a).toArray 34)
  have e2 := World.size_alloc (w := (w.alloc (.cells (cel a).toArray 34))) (o := Obj.cells (cel b).toArray 34)
  rw [← e1, ← e2]
  exact World.rangeAt_alloc (range_new _ (cel c) _) _

set_option maxHeartbeats 800000 in
theorem delta_any (a b c : Blk) (w : World) : Calls Try.prog 32 #[blk a, blk b, blk c] w fun e w' => e = .returned (blk (bx a (bx b c))) ∧ Below w.heap.size w w' := by
  obtain ⟨hA, hB, _, _, hb⟩ := laid4 w a b c zeroB
  obtain ⟨hC, hR⟩ := laid4' w a b c zeroB
  obtain ⟨w4, hw4⟩ : ∃ w4, four_ w a b c zeroB = w4 := ⟨_, rfl⟩
  rw [hw4] at hA hB hC hR hb
  have HW := Lib.hid hw4
  have HA := Lib.hid hA
  have HB := Lib.hid hB
  have HC := Lib.hid hC
  have HR := Lib.hid hR
  clear hw4 hA hB hC hR
  go_enter Try.func32, Try.ntmps32
  go_wp2_with (first | (refine wpList_val rfl (exec_box rfl rfl) ?_) | (refine wpList_val rfl (exec_alloc rfl) ?_))
  have hs := HW.out
  unfold four_ at hs
  simp only [World.size_alloc]
  rw [hs]
  clear hs HW
  simp only [Act.put, List.setIfInBounds_toArray, List.set_cons_succ, List.set_cons_zero]
  generalize hsz : w.heap.size = s at *
  refine wp_region_held (S := fun w' => Below (s + 1 + 1 + 1) w4 w' ∧ w'.there (s + 1 + 1 + 1) 0 64) (by kernel_rfl) ?_
  change wpAnyH _ _ _ _ _ 6 _ _ w4.drew
  have hS : Below (s + 1 + 1 + 1) w4 w4.drew ∧ w4.drew.there (s + 1 + 1 + 1) 0 64 := ⟨bd (Below.refl _ _), HR.out⟩
  refine held_val 0 rfl (by kernel_rfl) (by kernel_rfl) (by kernel_rfl) rfl (fun w hw => exec_load rfl rfl (range_below HA.out (by omega) hw.1)) (fun _ _ _ h => h) hS ?_
  simp only [Act.put, List.setIfInBounds_toArray, List.set_cons_succ, List.set_cons_zero]
  refine held_val 1 rfl (by kernel_rfl) (by kernel_rfl) (by kernel_rfl) rfl (fun w hw => exec_load rfl rfl (range_below HB.out (by omega) hw.1)) (fun _ _ _ h => h) hS ?_
  simp only [Act.put, List.setIfInBounds_toArray, List.set_cons_succ, List.set_cons_zero]
  refine held_val 2 rfl (by kernel_rfl) (by kernel_rfl) (by kernel_rfl) rfl (fun w hw => exec_load rfl rfl (range_below HC.out (by omega) hw.1)) (fun _ _ _ h => h) hS ?_
  simp only [Act.put, List.setIfInBounds_toArray, List.set_cons_succ, List.set_cons_zero]
  have hsz4 : s + 1 + 1 + 1 < w4.drew.heap.size := by
    have := (HR.out 0 (by omega)).1
    obtain ⟨u, hu⟩ := Option.isSome_iff_exists.1 this
    exact block_lt_of_cell hu
  refine held_call 3 rfl (by kernel_rfl) rfl (exec_call Try.call30 rfl) ((xor_any b c _).mono ?_)
  rintro e w5 ⟨rfl, hb5⟩
  have hS5 : Below (s + 1 + 1 + 1) w4 w5 ∧ w5.there (s + 1 + 1 + 1) 0 64 := ⟨hS.1.trans (hb5.mono (by omega)), there_below hS.2 (by omega) hb5⟩
  refine ⟨_, rfl, hS5, ?_⟩
  simp only [Act.put, List.setIfInBounds_toArray, List.set_cons_succ, List.set_cons_zero]
  refine held_call 4 rfl (by kernel_rfl) rfl (exec_call Try.call30 rfl) ((xor_any a (bx b c) _).mono ?_)
  rintro e w6 ⟨rfl, hb6⟩
  have hsz5 := hb5.size
  have hS6 : Below (s + 1 + 1 + 1) w4 w6 ∧ w6.there (s + 1 + 1 + 1) 0 64 := ⟨hS5.1.trans (hb6.mono (by omega)), there_below hS5.2 (by omega) hb6⟩
  refine ⟨_, rfl, hS6, ?_⟩
  simp only [Act.put, List.setIfInBounds_toArray, List.set_cons_succ, List.set_cons_zero]
  have hS7 : Below (s + 1 + 1 + 1) w4 (w6.setCells (s + 1 + 1 + 1) 0 (cel (bx a (bx b c)))) ∧ (w6.setCells (s + 1 + 1 + 1) 0 (cel (bx a (bx b c)))).there (s + 1 + 1 + 1) 0 64 := ⟨below_setCells hS6.1 (Nat.le_refl _) _, World.there_setCells hS6.2 _ _ _⟩
  refine held_nul 5 rfl (by kernel_rfl) rfl (exec_store rfl rfl rfl hS6.2) hS7 ?_
  refine wpAnyH_done (by kernel_rfl) ?_ _
  go_wp2_with fail
  refine bodyPost_ret (res_blk rfl _ _ _ rfl (World.rangeAt_setCells_same _ _ _ _ (by rw [cel_length]; exact hS6.2))) rfl ⟨rfl, ?_⟩
  rw [hsz]
  exact hb.trans (hS7.1.mono (by omega))

end Go.Proofs.Ytplanbjjfaihbaa
