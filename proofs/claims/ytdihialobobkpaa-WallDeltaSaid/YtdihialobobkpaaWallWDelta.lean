/-
  The walk of WallDelta.
-/
import Derived.Test.YtdihialobobkpaaBlkQ
import Derived.Test.YtdihialobobkpaaWallLives
import Derived.Test.YtdihialobobkpaaWallDelta
namespace Go.Proofs.Ytdihialobobkpaa
open Go.RowKit
set_option linter.unusedVariables false
set_option linter.unusedSimpArgs false

theorem wallDelta_none (A : Option Addr) (c : Nat) (at_ : Int) (x : Blk) (w : World) :
    Calls Try.prog 5 #[.slice A 0 c, .int .i64 at_, blk x] w fun e w' => e = .returned (.bool true) ∧ Below w.heap.size w w' := by
  have hba : Below w.heap.size w (w.alloc (.cells (cel x).toArray 23)) := (Below.refl _ _).alloc (Nat.le_refl _) _
  go_enter Try.func5, Try.ntmps5
  go_wp2_with (first | (refine wpList_val rfl (exec_box rfl rfl) ?_))
  refine (lives_yes _).mono ?_
  rintro e w3 ⟨rfl, hb3⟩
  go_wp2
  go_ret
  exact ⟨rfl, two hba hb3⟩

set_option maxHeartbeats 1600000 in
theorem wallDelta_walk (A : Option Addr) (n c : Nat) (l : List Blk) (at_ : Int) (x : Blk) (w : World) (hl : RdB w w.heap.size A n l) (hn : n ≤ 2199023255552) (h0 : 0 < n) :
    Calls Try.prog 5 #[.slice A n c, .int .i64 at_, blk x] w fun e w' => e = .returned (.bool true) ∧ Below w.heap.size w w' := by
  have hba : Below w.heap.size w (w.alloc (.cells (cel x).toArray 23)) := (Below.refl _ _).alloc (Nat.le_refl _) _
  have HX := Lib.hid (range_new w (cel x) 23)
  have hd2 : ((n : Int) == 0) = false := by simp; omega
  obtain ⟨k, hk, hkm⟩ := place at_ n h0
  go_enter Try.func5, Try.ntmps5
  go_wp2_with (first | (refine wpList_val rfl (exec_box rfl rfl) ?_) | fail)
  refine (copyB_any A n c _ _ l _ (Lib.hid rfl) (hl.up _) (by simp) hn).mono ?_
  rintro e w1 ⟨v1, rfl, hv1, hb1⟩
  rw [World.size_alloc] at hb1 hv1
  have hlen := hl.1
  obtain ⟨g, cc, rfl, hg⟩ : ∃ g cc, v1 = .slice (some ⟨g, 0, none⟩) n cc ∧ w.heap.size < g := by
    rcases hv1.2 with ⟨_, h⟩ | ⟨g, cc, cur, h, hb, _⟩
    · omega
    · exact ⟨g, cc, by rw [h, hlen], hb⟩
  have hcc : n ≤ cc ∧ cc ≤ maxLen := by obtain ⟨_, _, _, _, h1, h2, _⟩ := hv1.made; exact ⟨h1, h2⟩
  have HL := Lib.hid hlen
  have HX1 := Lib.hid (range_below HX.out (by omega) hb1)
  have HT := Lib.hid (hv1.there hk)
  have HM := Lib.hid (hv1.store hk x)
  have HE := Lib.hid (fold_set (l := l) (k := k) (by omega) x)
  clear hlen HX
  go_wp2_with (first | (refine wpList_val rfl (exec_load rfl rfl HX1.out) ?_) | (refine wpList_nul rfl (exec_store rfl rfl rfl HT.out) ?_) | fail)
  simp only [Act.put]
  have hbb : Below (w.heap.size + 1) (w.alloc (.cells (cel x).toArray 23)) (w1.setCells g (k * 64) (cel x)) := below_setCells hb1 (by omega) _
  have HBB := Lib.hid (over_alloc hbb)
  have hl2 := hl.step HBB.out
  have hx2 := range_below HX1.out (show w.heap.size < w.heap.size + 1 by omega) (below_setCells (Below.refl (w.heap.size + 1) w1) (show w.heap.size + 1 ≤ g by omega) (cel x) (o := k * 64))
  have hc2 := HM.out.rd
  have hszl : w.heap.size < (w1.setCells g (k * 64) (cel x)).heap.size := by have := hbb.size; rw [World.size_alloc] at this; omega
  clear hb1 hv1 hbb HX1 HT HM hl hba hkm hd2 hcc
  generalize w1.setCells g (k * 64) (cel x) = w2 at *
  generalize hsz : w.heap.size = s at *
  generalize hsz2 : w2.heap.size = t at *
  obtain ⟨bA, oA, rfl, hA, cA⟩ := hl2.2 k hk
  have HC := Lib.hid cA
  have HX2 := Lib.hid hx2
  clear cA hx2
  refine wp_region_above (B := t) (by kernel_rfl) ?_
  refine qv_val rfl (fun w' hw => exec_move rfl) ?_
  simp only [Act.put, List.setIfInBounds_toArray, List.set_cons_succ, List.set_cons_zero]
  refine qv_call rfl (fun _ => exec_call Try.call13 rfl) (above_of (Nat.le_of_eq hsz2.symm) fun w' hw => fold_any _ n c t l w' (hl2.below hw) (hsz2 ▸ hw.size) (by unfold maxLen; omega)) ?_
  simp only [Act.put, List.setIfInBounds_toArray, List.set_cons_succ, List.set_cons_zero]
  refine qv_val rfl (fun w' hw => exec_move rfl) ?_
  simp only [Act.put, List.setIfInBounds_toArray, List.set_cons_succ, List.set_cons_zero]
  refine qv_val rfl (fun w' hw => exec_move rfl) ?_
  simp only [Act.put, List.setIfInBounds_toArray, List.set_cons_succ, List.set_cons_zero]
  refine qv_val rfl (fun w' hw => exec_index rfl rfl rfl hk) ?_
  simp only [Act.put, List.setIfInBounds_toArray, List.set_cons_succ, List.set_cons_zero]
  refine qv_val rfl (fun w' hw => exec_load rfl rfl (range_below HC.out hA hw)) ?_
  simp only [Act.put, List.setIfInBounds_toArray, List.set_cons_succ, List.set_cons_zero]
  refine qv_val rfl (fun w' hw => exec_load rfl rfl (range_below HX2.out hszl hw)) ?_
  simp only [Act.put, List.setIfInBounds_toArray, List.set_cons_succ, List.set_cons_zero]
  refine qv_call rfl (fun _ => exec_call Try.call15 rfl) (above_of (Nat.le_of_eq hsz2.symm) fun w' hw => delta_any _ _ _ w') ?_
  simp only [Act.put, List.setIfInBounds_toArray, List.set_cons_succ, List.set_cons_zero]
  refine qv_val rfl (fun w' hw => exec_move rfl) ?_
  simp only [Act.put, List.setIfInBounds_toArray, List.set_cons_succ, List.set_cons_zero]
  refine qv_call rfl (fun _ => exec_call Try.call13 rfl) (above_of (Nat.le_of_eq hsz2.symm) fun w' hw => fold_any _ n cc t (l.set k x) w' (hc2.below hw) (hsz2 ▸ hw.size) (by unfold maxLen; omega)) ?_
  simp only [Act.put, List.setIfInBounds_toArray, List.set_cons_succ, List.set_cons_zero]
  refine qv_val rfl (fun w' hw => exec_eqy rfl rfl rfl HE.out.symm) ?_
  simp only [Act.put, List.setIfInBounds_toArray, List.set_cons_succ, List.set_cons_zero]
  refine qv_val rfl (fun w' hw => exec_move rfl) ?_
  simp only [Act.put, List.setIfInBounds_toArray, List.set_cons_succ, List.set_cons_zero]
  refine qv_call rfl (fun _ => exec_call (args := []) Try.call22 rfl) (above_of (Nat.le_of_eq hsz2.symm) fun w' hw => lives_yes w') ?_
  simp only [Act.put, List.setIfInBounds_toArray, List.set_cons_succ, List.set_cons_zero]
  refine qv_val rfl (fun w' hw => exec_pick_t rfl rfl) ?_
  simp only [Act.put, List.setIfInBounds_toArray, List.set_cons_succ, List.set_cons_zero]
  refine qv_val rfl (fun w' hw => exec_assign rfl) ?_
  simp only [Act.put, List.setIfInBounds_toArray, List.set_cons_succ, List.set_cons_zero]
  refine wpQuiet_nil ?_
  intro w5 hw5
  go_wp2_with fail
  go_ret
  try rw [hsz]
  exact ⟨rfl, HBB.out.trans (hw5.mono (by omega))⟩
end Go.Proofs.Ytdihialobobkpaa
