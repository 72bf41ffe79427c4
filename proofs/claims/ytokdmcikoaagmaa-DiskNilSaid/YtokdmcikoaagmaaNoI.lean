/-
  A device that is none: nil, or one that nothing made: what its methods answer.
-/
import Derived.Test.YtokdmcikoaagmaaDskDev
import Derived.Test.YtokdmcikoaagmaaNoD
namespace Go.Proofs.Ytokdmcikoaagmaa
open Go.RowKit
set_option linter.unusedVariables false

def zeroD : Array Value := #[.int .i64 0, .slice none 0 0, .slice none 0 0, .bool false]
def NoP (w : World) (v : Value) : Prop := v = .pointer none ∨ ∃ p, v = .pointer (some ⟨p, 0, none⟩) ∧ w.heap[p]? = some (.cells zeroD 61)
theorem NoP.below {w w' : World} {v : Value} (h : NoP w v) (k : Below w.heap.size w w') : NoP w' v := by
  rcases h with h | ⟨p, e, h⟩
  · exact .inl h
  · exact .inr ⟨p, e, blk_keep h k⟩
theorem n_made {w : World} {v : Value} (h : NoP w v) : Calls Try.prog 33 #[v] w fun e w' => e = .returned (.bool false) ∧ w = w' := by
  rcases h with rfl | ⟨p, rfl, h⟩
  · go_enter Try.func33, Try.ntmps33
    go_wp2
    go_ret
    exact ⟨rfl, rfl⟩
  · obtain ⟨c0, c1, c2, c3⟩ := cells4 h
    go_enter Try.func33, Try.ntmps33
    go_wp2
    go_ret
    exact ⟨rfl, rfl⟩
theorem n_refusal {w : World} {v : Value} (n : Int) (h : NoP w v) : Calls Try.prog 34 #[v, .int .i64 n] w fun e w' => e = .returned (.int .i64 1) ∧ w = w' := by
  go_enter Try.func34, Try.ntmps34
  go_wp2_with fail
  refine (n_made h).mono ?_
  rintro e w1 ⟨rfl, rfl⟩
  go_wp2_with fail
  go_ret
  exact ⟨rfl, rfl⟩
theorem n_flush {w : World} {v : Value} (h : NoP w v) : Calls Try.prog 14 #[v] w fun e w' => e = .returned (.int .i64 1) ∧ Below w.heap.size w w' := by
  go_enter Try.func14, Try.ntmps14
  go_wp2_with fail
  refine (n_made h).mono ?_
  rintro e w1 ⟨rfl, rfl⟩
  go_wp2_with fail
  go_ret
  exact ⟨rfl, Below.refl _ _⟩
theorem n_fail {w : World} {v : Value} (h : NoP w v) : Calls Try.prog 23 #[v] w fun e w' => e = .returned (.int .i64 1) ∧ Below w.heap.size w w' := by
  go_enter Try.func23, Try.ntmps23
  go_wp2_with fail
  refine (n_made h).mono ?_
  rintro e w1 ⟨rfl, rfl⟩
  go_wp2_with fail
  go_ret
  exact ⟨rfl, Below.refl _ _⟩
theorem n_rot {w : World} {v : Value} (n i : Int) (u : UInt8) (h : NoP w v) : Calls Try.prog 21 #[v, .int .i64 n, .int .i64 i, .int .u8 (u.toNat : Int)] w fun e w' => e = .returned (.int .i64 1) ∧ Below w.heap.size w w' := by
  go_enter Try.func21, Try.ntmps21
  go_wp2_with fail
  refine (n_made h).mono ?_
  rintro e w1 ⟨rfl, rfl⟩
  go_wp2_with fail
  go_ret
  exact ⟨rfl, Below.refl _ _⟩
theorem n_crash {w : World} {v : Value} (A : Option Addr) (n c : Nat) (h : NoP w v) : Calls Try.prog 17 #[v, .slice A n c] w fun e w' => e = .returned (.tuple #[.int .i64 0, .int .i64 1]) ∧ Below w.heap.size w w' := by
  go_enter Try.func17, Try.ntmps17
  go_wp2_with fail
  refine (n_made h).mono ?_
  rintro e w1 ⟨rfl, rfl⟩
  go_wp2_with fail
  go_ret2
  exact ⟨rfl, Below.refl _ _⟩
theorem n_dead {w : World} {v : Value} (h : NoP w v) : Calls Try.prog 24 #[v] w fun e w' => e = .returned (.bool false) ∧ Below w.heap.size w w' := by
  go_enter Try.func24, Try.ntmps24
  go_wp2_with fail
  refine (n_made h).mono ?_
  rintro e w1 ⟨rfl, rfl⟩
  go_wp2_with fail
  go_ret
  exact ⟨rfl, Below.refl _ _⟩
theorem n_sectors {w : World} {v : Value} (h : NoP w v) : Calls Try.prog 25 #[v] w fun e w' => e = .returned (.int .i64 0) ∧ Below w.heap.size w w' := by
  go_enter Try.func25, Try.ntmps25
  go_wp2_with fail
  refine (n_made h).mono ?_
  rintro e w1 ⟨rfl, rfl⟩
  go_wp2_with fail
  go_ret
  exact ⟨rfl, Below.refl _ _⟩
theorem n_loose {w : World} {v : Value} (h : NoP w v) : Calls Try.prog 19 #[v] w fun e w' => e = .returned (.int .i64 0) ∧ Below w.heap.size w w' := by
  go_enter Try.func19, Try.ntmps19
  go_wp2_with fail
  refine (n_made h).mono ?_
  rintro e w1 ⟨rfl, rfl⟩
  go_wp2_with fail
  go_ret
  exact ⟨rfl, Below.refl _ _⟩
theorem n_copy {w : World} {v : Value} (h : NoP w v) : Calls Try.prog 20 #[v] w fun e w' => e = .returned (.pointer none) ∧ Below w.heap.size w w' := by
  go_enter Try.func20, Try.ntmps20
  go_wp2_with fail
  refine (n_made h).mono ?_
  rintro e w1 ⟨rfl, rfl⟩
  go_wp2_with fail
  go_ret
  exact ⟨rfl, Below.refl _ _⟩
set_option maxHeartbeats 1000000 in
theorem n_sure {w : World} {v : Value} (n : Int) (h : NoP w v) : Calls Try.prog 18 #[v, .int .i64 n] w fun e w' => e = .returned (.tuple #[blk zeroB, .int .i64 1]) ∧ Below w.heap.size w w' := by
  have hA := (Below.refl w.heap.size w).alloc (Nat.le_refl _) (.cells (cel zeroB).toArray 33)
  have h1 := h.below hA
  have HT := Lib.hid (there_new w zeroB 33)
  have HA := Lib.hid hA
  clear hA
  go_enter Try.func18, Try.ntmps18
  go_wp2_with (first | (refine wpList_val rfl (exec_alloc rfl) ?_) | fail)
  refine (n_refusal n h1).mono ?_
  rintro e w1 ⟨rfl, rfl⟩
  go_wp2_with (first | (refine wpList_val rfl (exec_build (c := zeroB) (parts := []) rfl rfl) ?_) | (refine wpList_nul rfl (exec_store rfl rfl rfl HT.out) ?_))
  refine bodyPost_ret (res_blk2 rfl _ _ _ rfl (World.rangeAt_setCells_same _ _ _ _ (by rw [cel_length]; exact HT.out))) rfl ⟨rfl, below_setCells HA.out (Nat.le_refl _) _⟩
set_option maxHeartbeats 1000000 in
theorem n_read {w : World} {v : Value} (n : Int) (h : NoP w v) : Calls Try.prog 15 #[v, .int .i64 n] w fun e w' => e = .returned (.tuple #[blk zeroB, .int .i64 1]) ∧ Below w.heap.size w w' := by
  obtain ⟨hA, k0, k1, k2, hsz⟩ := rd3_facts w n
  have h1 := h.below hA
  have HA := Lib.hid hA
  have HT := Lib.hid (blk_there k1)
  obtain ⟨c0, f0⟩ := one_cell k0
  have hO : Only (fun b => b = w.heap.size + 1) (rd3 w n) ((rd3 w n).setCells (w.heap.size + 1) 0 (cel zeroB)) := (Only.refl (fun b => b = w.heap.size + 1) (rd3 w n)).setCells (.inl rfl) _ _
  have k2' := hO.keep k2 (by omega)
  obtain ⟨c2, f2⟩ := one_cell k2'
  clear hA k0 k1 k2 hO k2'
  go_enter Try.func15, Try.ntmps15
  unfold rd3 at *
  go_wp2_with (first | (refine wpList_val rfl (exec_alloc rfl) ?_) | fail)
  generalize ((w.alloc (.cells #[.int .i64 n] 3)).alloc (.cells (cel zeroB).toArray 33)).alloc (.cells #[.int .i64 0] 24) = w3 at *
  refine (n_refusal n h1).mono ?_
  rintro e w1 ⟨rfl, rfl⟩
  go_wp2_with (first | (refine wpList_val rfl (exec_build (c := zeroB) (parts := []) rfl rfl) ?_) | (refine wpList_nul rfl (exec_store rfl rfl rfl ?ht) ?_; (case ht => exact HT.out)) | fail)
  have hr1 : (w3.setCells (w.heap.size + 1) 0 (cel zeroB)).rangeAt (w.heap.size + 1) 0 (cel zeroB) := World.rangeAt_setCells_same _ _ _ _ (by rw [cel_length]; exact HT.out)
  have hr2 := range_other (b' := w.heap.size + 1 + 1) (i := 0) hr1 (by omega)
  have hb2 := (below_setCells HA.out (show w.heap.size ≤ w.heap.size + 1 by omega) (o := 0) (cel zeroB))
  refine bodyPost_ret (res_blkc rfl _ _ _ _ rfl rfl (hr2 _) (World.cell?_setCell_same' _ _ _ (by rw [c2]; rfl))) rfl ⟨rfl, hb2.setCell (p := ⟨w.heap.size + 1 + 1, 0, none⟩) (by show _ ≤ w.heap.size + 1 + 1; omega) _⟩
theorem n_write {w : World} {v : Value} (n : Int) (b : Blk) (h : NoP w v) : Calls Try.prog 16 #[v, .int .i64 n, blk b] w fun e w' => e = .returned (.int .i64 1) ∧ Below w.heap.size w w' := by
  have hA := (Below.refl w.heap.size w).alloc (Nat.le_refl _) (.cells (cel b).toArray 33)
  have h1 := h.below hA
  have HA := Lib.hid hA
  clear hA
  go_enter Try.func16, Try.ntmps16
  go_wp2_with (first | (refine wpList_val rfl (exec_box rfl rfl) ?_) | fail)
  refine (n_refusal n h1).mono ?_
  rintro e w1 ⟨rfl, rfl⟩
  go_wp2_with fail
  go_ret
  exact ⟨rfl, HA.out⟩
def theNo : NoD where
  No := NoP
  zv := .agg zeroD
  zo := .cells zeroD 61
  below := NoP.below
  nil := fun _ => .inl rfl
  build := fun w => by kernel_rfl
  box := fun w => by simp [Instr.box, newVar, newRow, Value.cells]
  zero := fun w => .inr ⟨_, rfl, heap_alloc_new w _⟩
  read := n_read
  sure := n_sure
  write := n_write
  flush := n_flush
  fail := n_fail
  rot := n_rot
  crash := n_crash
  dead := n_dead
  sectors := n_sectors
  loose := n_loose
  copy := n_copy
end Go.Proofs.Ytokdmcikoaagmaa
