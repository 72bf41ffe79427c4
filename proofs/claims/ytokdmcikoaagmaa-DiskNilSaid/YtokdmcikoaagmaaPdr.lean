/-
  The program's device: Read.
-/
import Derived.Test.YtokdmcikoaagmaaPdb
namespace Go.Proofs.Ytokdmcikoaagmaa
open Go.RowKit Go.Shelf
set_option linter.unusedVariables false

attribute [local go_sem] Oper.semAt_some

theorem res_blkc {fn : Func} {p u : Tmp} {c : Blk} {e : Int} (h : fn.results = #[.cell p 33, .cell u 24]) (tmps : Array Value) (w : World) (b b' : Nat) (hp : tmps.getD p undef = .pointer (some ⟨b, 0, none⟩)) (hu : tmps.getD u undef = .pointer (some ⟨b', 0, none⟩)) (hc : w.rangeAt b 0 (cel c)) (he : w.cell? ⟨b', 0, none⟩ = some (.int .i64 e)) :
    (results fn tmps).run Try.prog w = .ok (.tuple #[blk c, .int .i64 e]) w := by
  have hl : (loadVar 33 ⟨b, 0, none⟩).run Try.prog w = .ok (blk c) w := run_loadVar_mid w b 0 33 (cel c) _ hc undB rfl (by rw [cel_length]; exact sizeB)
  have hl2 : (loadVar 24 ⟨b', 0, none⟩).run Try.prog w = .ok (.int .i64 e) w := by simp [go_sem, he]
  have hp' : tmps[p]?.getD undef = .pointer (some ⟨b, 0, none⟩) := by simpa using hp
  have hu' : tmps[u]?.getD undef = .pointer (some ⟨b', 0, none⟩) := by simpa using hu
  simp [results, h, hp', hu', asAddr, hl, hl2]
theorem range_other {w : World} {b b' o i : Nat} {cs : List Value} (h : w.rangeAt b o cs) (hne : b ≠ b') (v : Value) : (w.setCell ⟨b', i, none⟩ v).rangeAt b o cs := fun j u hj => by
  rw [World.cell?_of_block (w := w) (a := ⟨b, o + j, none⟩) (heap_setCell_other w ⟨b', i, none⟩ b v hne)]
  exact h j u hj
/-- What Read lays ahead: its argument, its two results. -/
def rd3 (w : World) (n : Int) : World := ((w.alloc (.cells #[.int .i64 n] 3)).alloc (.cells (cel zeroB).toArray 33)).alloc (.cells #[.int .i64 0] 24)
theorem rd3_facts (w : World) (n : Int) : Below w.heap.size w (rd3 w n) ∧ (rd3 w n).heap[w.heap.size]? = some (.cells #[.int .i64 n] 3) ∧ (rd3 w n).heap[w.heap.size + 1]? = some (.cells (cel zeroB).toArray 33) ∧ (rd3 w n).heap[w.heap.size + 1 + 1]? = some (.cells #[.int .i64 0] 24) ∧ (rd3 w n).heap.size = w.heap.size + 1 + 1 + 1 := by
  unfold rd3
  have e1 := World.size_alloc (w := w) (o := .cells #[.int .i64 n] 3)
  have e2 := World.size_alloc (w := w.alloc (.cells #[.int .i64 n] 3)) (o := .cells (cel zeroB).toArray 33)
  have e3 := World.size_alloc (w := (w.alloc (.cells #[.int .i64 n] 3)).alloc (.cells (cel zeroB).toArray 33)) (o := .cells #[.int .i64 0] 24)
  have n1 := new1 w #[.int .i64 n] 3
  have n2 := new1 (w.alloc (.cells #[.int .i64 n] 3)) (cel zeroB).toArray 33
  have n3 := new1 ((w.alloc (.cells #[.int .i64 n] 3)).alloc (.cells (cel zeroB).toArray 33)) #[.int .i64 0] 24
  rw [e2, e1] at n3
  rw [e1] at n2
  refine ⟨(((Below.refl _ w).alloc (Nat.le_refl _) _).alloc (by omega) _).alloc (by omega) _, blk_past (blk_past n1 _) _, blk_past n2 _, n3, by omega⟩
theorem one_cell {w : World} {b : Nat} {v : Value} {t : TypeId} (h : w.heap[b]? = some (.cells #[v] t (0, 0))) : w.cell? ⟨b, 0, none⟩ = some v ∧ w.frozen? ⟨b, 0, none⟩ = false := by
  refine ⟨?_, frozen_of_row w b 0 _ t h⟩
  rw [cell_of_row w b 0 _ t (0, 0) h]; rfl
set_option maxHeartbeats 1000000 in
theorem p_read_no (p : Nat) (vS vL : Value) (S : List Blk) (L : List (Int × Blk)) (g : Bool) (n : Int) (w : World) (h : PD w p vS vL S L g) (he0 : askE S g n ≠ 0) :
    Calls Try.prog 15 #[.pointer (some ⟨p, 0, none⟩), .int .i64 n] w fun e w' => e = .returned (.tuple #[blk (readB S L g n), .int .i64 (askE S g n)]) ∧ Below w.heap.size w w' := by
  obtain ⟨hA, k0, k1, k2, hsz⟩ := rd3_facts w n
  have h1 := h.below hA
  have HA := Lib.hid hA
  have HT := Lib.hid (blk_there k1)
  obtain ⟨c0, f0⟩ := one_cell k0
  have hO : Only (fun b => b = w.heap.size + 1) (rd3 w n) ((rd3 w n).setCells (w.heap.size + 1) 0 (cel zeroB)) := (Only.refl (fun b => b = w.heap.size + 1) (rd3 w n)).setCells (.inl rfl) _ _
  have k2' := hO.keep k2 (by omega)
  obtain ⟨c2, f2⟩ := one_cell k2'
  have HS := Lib.hid (readB_no (L := L) he0)
  clear hA k0 k1 k2 hO k2'
  rcases askE_is (S := S) (g := g) (n := n) with he | he | ⟨he, _⟩
  rotate_right 1
  · exact absurd he he0
  all_goals
    have HE := Lib.hid he
    clear he he0
    go_enter Try.func15, Try.ntmps15
    unfold rd3 at *
    go_wp2_with (first | (refine wpList_val rfl (exec_alloc rfl) ?_) | fail)
    generalize ((w.alloc (.cells #[.int .i64 n] 3)).alloc (.cells (cel zeroB).toArray 33)).alloc (.cells #[.int .i64 0] 24) = w3 at *
    refine (p_refusal p vS vL S L g n w3 h1).mono ?_
    rintro e w1 ⟨rfl, rfl⟩
    rw [HE.out]
    go_wp2_with (first | (refine wpList_val rfl (exec_build (c := zeroB) (parts := []) rfl rfl) ?_) | (refine wpList_nul rfl (exec_store rfl rfl rfl ?ht) ?_; (case ht => exact HT.out)) | fail)
    have hr1 : (w3.setCells (w.heap.size + 1) 0 (cel zeroB)).rangeAt (w.heap.size + 1) 0 (cel zeroB) := World.rangeAt_setCells_same _ _ _ _ (by rw [cel_length]; exact HT.out)
    have hr2 := range_other (b' := w.heap.size + 1 + 1) (i := 0) hr1 (by omega)
    have hb2 := (below_setCells HA.out (show w.heap.size ≤ w.heap.size + 1 by omega) (o := 0) (cel zeroB))
    refine bodyPost_ret (res_blkc rfl _ _ _ _ rfl rfl (hr2 _) (World.cell?_setCell_same' _ _ _ (by rw [c2]; rfl))) rfl ⟨by rw [HS.out, HE.out], hb2.setCell (p := ⟨w.heap.size + 1 + 1, 0, none⟩) (by show _ ≤ w.heap.size + 1 + 1; omega) _⟩
end Go.Proofs.Ytokdmcikoaagmaa
