/-
  wall.Fold, ashlarref03.Fold: the parity of blocks.
-/
import Derived.Test.YtplanbjjfaihbaaWallXor
import Derived.Test.YtplanbjjfaihbaaBlkS
namespace Go.Proofs.Ytplanbjjfaihbaa
open Go.RowKit
set_option linter.unusedVariables false

/-- The parity of blocks. -/
def fold (l : List Blk) : Blk := l.foldl bx zeroB
theorem fold_snoc {l : List Blk} {j : Nat} (h : j < l.length) : fold (l.take (j + 1)) = bx (fold (l.take j)) (l.getD j zeroB) := by
  unfold fold
  rw [List.take_add_one, List.getElem?_eq_getElem h, List.foldl_append, List.getD, List.getElem?_eq_getElem h]
  rfl

/-- Two blocks laid one behind the other. -/
def two_ (w : World) (a b : Blk) : World := (w.alloc (.cells (cel a).toArray 34)).alloc (.cells (cel b).toArray 34)
theorem laid2 (w : World) (a b : Blk) : (two_ w a b).rangeAt w.heap.size 0 (cel a) ∧ (two_ w a b).there w.heap.size 0 64 ∧ (two_ w a b).rangeAt (w.heap.size + 1) 0 (cel b) ∧ (two_ w a b).there (w.heap.size + 1) 0 64 ∧ Below w.heap.size w (two_ w a b) ∧ (two_ w a b).heap.size = w.heap.size + 1 + 1 := by
  unfold two_
  have e1 := World.size_alloc (w := w) (o := Obj.cells (cel a).toArray 34)
  have e2 := World.size_alloc (w := (w.alloc (.cells (cel a).toArray 34))) (o := Obj.cells (cel b).toArray 34)
  refine ⟨World.rangeAt_alloc (range_new w (cel a) _) _, World.there_alloc (there_new w a _) _, ?_, ?_, ?_, by rw [e2, e1]⟩
  · rw [← e1]; exact range_new _ (cel b) _
  · rw [← e1]; exact there_new _ b _
  · exact ((Below.refl _ w).alloc (Nat.le_refl _) _).alloc (by omega) _

set_option maxHeartbeats 800000 in
theorem fold_any (A : Option Addr) (n c N : Nat) (l : List Blk) (w : World) (hl : RdB w N A n l) (hN : N ≤ w.heap.size) (hn : n ≤ maxLen) :
    Calls Try.prog 23 #[.slice A n c] w fun e w' => e = .returned (blk (fold l)) ∧ Below w.heap.size w w' := by
  unfold maxLen at hn
  obtain ⟨_, hR, hO, hOt, hb, hsize⟩ := laid2 w zeroB zeroB
  obtain ⟨w2, hw2⟩ : ∃ w2, two_ w zeroB zeroB = w2 := ⟨_, rfl⟩
  rw [hw2] at hR hO hOt hb hsize
  have HW := Lib.hid hw2
  have HR := Lib.hid hR
  have HS := Lib.hid hsize
  clear hw2 hR hsize
  go_enter Try.func23, Try.ntmps23
  go_wp2_with (first | (refine wpList_val rfl (exec_box rfl rfl) ?_) | (refine wpList_val rfl (exec_alloc rfl) ?_))
  have hs := HW.out
  unfold two_ at hs
  rw [hs]
  clear hs HW
  generalize hsz : w.heap.size = s at *
  go_loopw [8] (fun i wr => ∃ j : Nat, j ≤ n ∧ i = .int .i64 j ∧ wr.rangeAt (s + 1) 0 (cel (fold (l.take j))) ∧ wr.there (s + 1) 0 64 ∧ wr.there s 0 64 ∧ Below s w wr ∧ s + 1 + 1 ≤ wr.heap.size) (fun i _ => n - (intOf i).toNat)
  case atStart => exact ⟨0, by omega, rfl, hO, hOt, HR.out, hb, Nat.le_of_eq HS.out.symm⟩
  case round =>
    clear hO hOt HR hb HS
    obtain ⟨j, hj, rfl, hO, hOt, hRt, hbl, hsz2⟩ := hrel
    have HO := Lib.hid hO
    have HOT := Lib.hid hOt
    have HRT := Lib.hid hRt
    clear hO hOt hRt
    by_cases hlt : j < n
    · obtain ⟨bA, oA, rfl, hA, cA⟩ := (hl.below (hbl.mono hN)).2 j hlt
      have HE := Lib.hid (fold_snoc (l := l) (j := j) (by have := hl.1; omega))
      generalize l.getD j zeroB = x at *
      have hO1 := World.rangeAt_alloc HO.out (.cells (cel x).toArray 34)
      have hX1 := range_new wr (cel x) 34
      have hba : Below s w (wr.alloc (.cells (cel x).toArray 34)) := hbl.alloc (by omega) _
      have HX1 := Lib.hid hX1
      have HO1 := Lib.hid hO1
      clear hX1 hO1
      go_wp2_with (first | (refine wpList_val rfl (exec_load rfl rfl cA) ?_) | (refine wpList_val rfl (exec_alloc rfl) ?_) | (refine wpList_nul rfl (exec_fill rfl rfl rfl) ?_) | (refine wpList_val rfl (exec_load rfl rfl HO1.out) ?_) | (refine wpList_val rfl (exec_load rfl rfl HX1.out) ?_))
      refine (xor_any _ _ _).mono ?_
      rintro e w1 ⟨rfl, hb1⟩
      rw [World.size_alloc] at hb1
      have hOt1 := there_below (World.there_alloc HOT.out (.cells (cel x).toArray 34)) (by omega) hb1
      go_wp2_with (first | (refine wpList_nul rfl (exec_store rfl rfl rfl hOt1) ?_))
      go_roundw
      case rel =>
        refine ⟨j + 1, by omega, by go_num, ?_, World.there_setCells hOt1 _ _ _, World.there_setCells (there_below (World.there_alloc HRT.out _) (by omega) hb1) _ _ _, ?_, ?_⟩
        · rw [HE.out]; exact World.rangeAt_setCells_same _ _ _ _ (by rw [cel_length]; exact hOt1)
        · exact below_setCells (hba.trans (hb1.mono (by omega))) (by omega) _
        · rw [(heap_setCells _ _ _ _).1]
          have := hb1.size
          rw [World.size_alloc] at this
          omega
      case measure => simp [intOf]; omega
    · have hjn : j = n := by omega
      subst hjn
      have hfl : l.take j = l := List.take_of_length_le (Nat.le_of_eq hl.1)
      rw [hfl] at HO
      go_wp2_with (first | (refine wpList_val rfl (exec_load rfl rfl HO.out) ?_) | (refine wpList_nul rfl (exec_store rfl rfl rfl HRT.out) ?_))
      refine bodyPost_ret (res_blk rfl _ _ _ rfl (World.rangeAt_setCells_same _ _ _ _ (by rw [cel_length]; exact HRT.out))) rfl ⟨rfl, ?_⟩
      rw [hsz]
      exact below_setCells hbl (Nat.le_refl _) _

set_option maxHeartbeats 800000 in
theorem refFold_any (A : Option Addr) (n c N : Nat) (l : List Blk) (w : World) (hl : RdB w N A n l) (hN : N ≤ w.heap.size) (hn : n ≤ maxLen) :
    Calls Try.prog 15 #[.slice A n c] w fun e w' => e = .returned (blk (fold l)) ∧ Below w.heap.size w w' := by
  unfold maxLen at hn
  obtain ⟨_, hR, hO, hOt, hb, hsize⟩ := laid2 w zeroB zeroB
  obtain ⟨w2, hw2⟩ : ∃ w2, two_ w zeroB zeroB = w2 := ⟨_, rfl⟩
  rw [hw2] at hR hO hOt hb hsize
  have HW := Lib.hid hw2
  have HR := Lib.hid hR
  have HS := Lib.hid hsize
  clear hw2 hR hsize
  go_enter Try.func15, Try.ntmps15
  go_wp2_with (first | (refine wpList_val rfl (exec_box rfl rfl) ?_) | (refine wpList_val rfl (exec_alloc rfl) ?_))
  have hs := HW.out
  unfold two_ at hs
  rw [hs]
  clear hs HW
  generalize hsz : w.heap.size = s at *
  go_loopw [4] (fun i wr => ∃ j : Nat, j ≤ n ∧ i = .int .i64 j ∧ wr.rangeAt (s + 1) 0 (cel (fold (l.take j))) ∧ wr.there (s + 1) 0 64 ∧ wr.there s 0 64 ∧ Below s w wr ∧ s + 1 + 1 ≤ wr.heap.size) (fun i _ => n - (intOf i).toNat)
  case atStart => exact ⟨0, by omega, rfl, hO, hOt, HR.out, hb, Nat.le_of_eq HS.out.symm⟩
  case round =>
    clear hO hOt HR hb HS
    obtain ⟨j, hj, rfl, hO, hOt, hRt, hbl, hsz2⟩ := hrel
    have HO := Lib.hid hO
    have HOT := Lib.hid hOt
    have HRT := Lib.hid hRt
    clear hO hOt hRt
    by_cases hlt : j < n
    · obtain ⟨bA, oA, rfl, hA, cA⟩ := (hl.below (hbl.mono hN)).2 j hlt
      have HE := Lib.hid (fold_snoc (l := l) (j := j) (by have := hl.1; omega))
      generalize l.getD j zeroB = x at *
      have HCA := Lib.hid cA
      clear cA
      go_wp2_with fail
      refine wp_region_still_tail 5 (by kernel_rfl) (by kernel_rfl) ?_
      simp only [List.take_succ_cons, List.take_zero, List.drop_succ_cons, List.drop_zero]
      refine st_val rfl (exec_load rfl rfl HO.out) ?_
      refine st_val rfl (exec_move rfl) ?_
      refine st_val rfl (exec_move rfl) ?_
      refine st_val rfl (exec_index rfl rfl rfl hlt) ?_
      refine st_val rfl (exec_load rfl rfl HCA.out) ?_
      refine wpStill_nil ?_
      change wpList _ _ _ _ _ wr.drew
      go_wp2_with fail
      refine (refXor_any _ _ _).mono ?_
      rintro e w1 ⟨rfl, hb1⟩
      have hb2 : Below wr.heap.size wr w1 := (bd (Below.refl wr.heap.size wr)).trans hb1
      clear hb1
      have hOt1 := there_below HOT.out (by omega) hb2
      go_wp2_with (first | (refine wpList_nul rfl (exec_store rfl rfl rfl hOt1) ?_))
      go_roundw
      case rel =>
        refine ⟨j + 1, by omega, by go_num, ?_, World.there_setCells hOt1 _ _ _, World.there_setCells (there_below HRT.out (by omega) hb2) _ _ _, ?_, ?_⟩
        · rw [HE.out]; exact World.rangeAt_setCells_same _ _ _ _ (by rw [cel_length]; exact hOt1)
        · exact below_setCells (hbl.trans (hb2.mono (by omega))) (by omega) _
        · rw [(heap_setCells _ _ _ _).1]
          have := hb2.size
          omega
      case measure => simp [intOf]; omega
    · have hjn : j = n := by omega
      subst hjn
      have hfl : l.take j = l := List.take_of_length_le (Nat.le_of_eq hl.1)
      rw [hfl] at HO
      go_wp2_with (first | (refine wpList_val rfl (exec_load rfl rfl HO.out) ?_) | (refine wpList_nul rfl (exec_store rfl rfl rfl HRT.out) ?_))
      refine bodyPost_ret (res_blk rfl _ _ _ rfl (World.rangeAt_setCells_same _ _ _ _ (by rw [cel_length]; exact HRT.out))) rfl ⟨rfl, ?_⟩
      rw [hsz]
      exact below_setCells hbl (Nat.le_refl _) _
end Go.Proofs.Ytplanbjjfaihbaa
