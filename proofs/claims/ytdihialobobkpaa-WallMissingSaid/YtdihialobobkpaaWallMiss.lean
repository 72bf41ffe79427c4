/-
  wall.Missing, ashlarref03.Missing.
-/
import Derived.Test.YtdihialobobkpaaWallAlg
namespace Go.Proofs.Ytdihialobobkpaa
open Go.RowKit
set_option linter.unusedVariables false

theorem exec_next {ρ : Operand → Value} {o : Oper} {x : Operand} {w : World} {k : Nat} (ho : o.op = .binOp .add 3 x (.const (.int .i64 1)) 3) (hx : ρ x = .int .i64 (k : Int)) (hc : ρ (.const (.int .i64 1)) = .int .i64 1) (hk : k < 9223372036854775807) :
    (execOp ρ o).run Try.prog w = .ok (.value (.int .i64 ((k + 1 : Nat) : Int))) w := by
  have h : IntKind.i64.wrap ((k : Int) + 1) = ((k + 1 : Nat) : Int) := by rw [IntWalk.i64_in _ (by omega)]; omega
  unfold execOp
  simp [ho, hx, hc, eqGuard, binOp, Op.intArith, h]

/-- What Missing answers. -/
def misV (l : List Blk) (n : Int) : Value := .tuple #[blk (mis l n).1, .int .i64 (mis l n).2]

theorem miss_out (A : Option Addr) (m c N : Nat) (n : Int) (l : List Blk) (w : World) (hl : RdB w N A m l) (hn : n < 0 ∨ (m : Int) ≤ n) :
    Calls Try.prog 9 #[.slice A m c, .int .i64 n] w fun e w' => e = .returned (misV l n) ∧ Below w.heap.size w w' := by
  have hm : mis l n = (zeroB, 2) := mis_out (by rw [hl.1]; exact hn)
  have hA := range_new w (cel zeroB) 23
  have ht := there_new w zeroB 23
  have HT := Lib.hid ht
  have HM := Lib.hid hm
  clear hA ht hm
  by_cases h0 : n < 0
  · go_enter Try.func9, Try.ntmps9
    go_wp2_with (first | (refine wpList_val rfl (exec_alloc rfl) ?_) | (refine wpList_val rfl (exec_build (c := zeroB) (parts := []) rfl rfl) ?_) | (refine wpList_nul rfl (exec_store rfl rfl rfl HT.out) ?_))
    refine bodyPost_ret (res_blk2 rfl _ _ _ rfl (World.rangeAt_setCells_same _ _ _ _ (by rw [cel_length]; exact HT.out))) rfl ⟨?_, below_setCells ((Below.refl _ w).alloc (Nat.le_refl _) _) (Nat.le_refl _) _⟩
    unfold misV
    rw [HM.out]
    rfl
  · have h1 : (m : Int) ≤ n := by omega
    have h2 : decide ((m : Int) ≤ n) = true := by simpa using h1
    go_enter Try.func9, Try.ntmps9
    go_wp2_with (first | (refine wpList_val rfl (exec_alloc rfl) ?_) | (refine wpList_val rfl (exec_build (c := zeroB) (parts := []) rfl rfl) ?_) | (refine wpList_nul rfl (exec_store rfl rfl rfl HT.out) ?_))
    refine bodyPost_ret (res_blk2 rfl _ _ _ rfl (World.rangeAt_setCells_same _ _ _ _ (by rw [cel_length]; exact HT.out))) rfl ⟨?_, below_setCells ((Below.refl _ w).alloc (Nat.le_refl _) _) (Nat.le_refl _) _⟩
    unfold misV
    rw [HM.out]
    rfl

set_option maxHeartbeats 800000 in
theorem miss_in (A : Option Addr) (m c N k : Nat) (l : List Blk) (w : World) (hl : RdB w N A m l) (hN : N ≤ w.heap.size) (hk : k < m) (hmc : m ≤ c) (hm : m ≤ maxLen) :
    Calls Try.prog 9 #[.slice A m c, .int .i64 k] w fun e w' => e = .returned (misV l k) ∧ Below w.heap.size w w' := by
  have hlen := hl.1
  have hmi := mis_in (l := l) (k := k) (by omega)
  rw [fold_erase] at hmi
  have HT := Lib.hid (there_new w zeroB 23)
  have HM := Lib.hid hmi
  have HB := Lib.hid ((Below.refl w.heap.size w).alloc (Nat.le_refl _) (.cells (cel zeroB).toArray 23))
  have hsz : (w.alloc (.cells (cel zeroB).toArray 23)).heap.size = w.heap.size + 1 := World.size_alloc ..
  have HSZ := Lib.hid hsz
  have hd : decide ((m : Int) ≤ (k : Int)) = false := by simp; omega
  clear hmi hlen hsz
  unfold maxLen at hm
  go_enter Try.func9, Try.ntmps9
  go_wp2_with (first | (refine wpList_val rfl (exec_alloc rfl) ?_))
  clear hd
  generalize w.alloc (.cells (cel zeroB).toArray 23) = w1 at *
  generalize hs : w.heap.size = s at *
  refine wp_region_held (S := fun w' => Below s w1 w' ∧ w'.there s 0 64 ∧ s < w'.heap.size) (by kernel_rfl) ?_
  change wpAnyH _ _ _ _ _ 12 _ _ w1.drew
  have hS : Below s w1 w1.drew ∧ w1.drew.there s 0 64 ∧ s < w1.drew.heap.size := ⟨bd (Below.refl _ _), HT.out, by have := HSZ.out; show s < w1.heap.size; omega⟩
  refine held_val 0 rfl (by kernel_rfl) (by kernel_rfl) (by kernel_rfl) rfl (fun w hw => exec_move rfl) (fun _ _ _ h => h) hS ?_
  simp only [Act.put, List.setIfInBounds_toArray, List.set_cons_succ, List.set_cons_zero]
  refine held_val 1 rfl (by kernel_rfl) (by kernel_rfl) (by kernel_rfl) rfl (fun w hw => exec_move rfl) (fun _ _ _ h => h) hS ?_
  simp only [Act.put, List.setIfInBounds_toArray, List.set_cons_succ, List.set_cons_zero]
  refine held_val 2 rfl (by kernel_rfl) (by kernel_rfl) (by kernel_rfl) rfl (fun w hw => exec_head (k := k) rfl rfl rfl (by omega)) (fun _ _ _ h => h) hS ?_
  simp only [Act.put, List.setIfInBounds_toArray, List.set_cons_succ, List.set_cons_zero]
  refine held_val 4 rfl (by kernel_rfl) (by kernel_rfl) (by kernel_rfl) rfl (fun w hw => exec_move rfl) (fun _ _ _ h => h) hS ?_
  simp only [Act.put, List.setIfInBounds_toArray, List.set_cons_succ, List.set_cons_zero]
  refine held_val 5 rfl (by kernel_rfl) (by kernel_rfl) (by kernel_rfl) rfl (fun w hw => exec_move rfl) (fun _ _ _ h => h) hS ?_
  simp only [Act.put, List.setIfInBounds_toArray, List.set_cons_succ, List.set_cons_zero]
  refine held_val 6 rfl (by kernel_rfl) (by kernel_rfl) (by kernel_rfl) rfl (fun w hw => exec_next (k := k) rfl rfl rfl (by omega)) (fun _ _ _ h => h) hS ?_
  simp only [Act.put, List.setIfInBounds_toArray, List.set_cons_succ, List.set_cons_zero]
  refine held_val 7 rfl (by kernel_rfl) (by kernel_rfl) (by kernel_rfl) rfl (fun w hw => exec_tail (k := k + 1) rfl rfl rfl (by omega)) (fun _ _ _ h => h) hS ?_
  simp only [Act.put, List.setIfInBounds_toArray, List.set_cons_succ, List.set_cons_zero]
  have hlw : ∀ w', Below s w1 w' → RdB w' N A m l := fun w' hw => hl.below ((HB.out.trans hw).mono (by omega))
  refine held_call 3 rfl (by kernel_rfl) rfl (exec_call Try.call13 rfl) ((fold_any A k c N (l.take k) _ ((hlw _ hS.1).head (by omega)) (by omega) (by unfold maxLen; omega)).mono ?_)
  rintro e w5 ⟨rfl, hb5⟩
  have hS5 : Below s w1 w5 ∧ w5.there s 0 64 ∧ s < w5.heap.size := ⟨hS.1.trans (hb5.mono (by omega)), there_below hS.2.1 hS.2.2 hb5, Nat.lt_of_lt_of_le hS.2.2 hb5.size⟩
  refine ⟨_, rfl, hS5, ?_⟩
  simp only [Act.put, List.setIfInBounds_toArray, List.set_cons_succ, List.set_cons_zero]
  refine held_call 8 rfl (by kernel_rfl) rfl (exec_call Try.call13 rfl) ((fold_any (tailAt A c (k + 1)) (m - (k + 1)) (c - (k + 1)) N (l.drop (k + 1)) _ ((hlw _ hS5.1).tail (by omega) hmc) (by omega) (by unfold maxLen; omega)).mono ?_)
  rintro e w6 ⟨rfl, hb6⟩
  have hS6 : Below s w1 w6 ∧ w6.there s 0 64 ∧ s < w6.heap.size := ⟨hS5.1.trans (hb6.mono (by omega)), there_below hS5.2.1 hS5.2.2 hb6, Nat.lt_of_lt_of_le hS5.2.2 hb6.size⟩
  refine ⟨_, rfl, hS6, ?_⟩
  simp only [Act.put, List.setIfInBounds_toArray, List.set_cons_succ, List.set_cons_zero]
  refine held_call 9 rfl (by kernel_rfl) rfl (exec_call Try.call11 rfl) ((xor_any _ _ _).mono ?_)
  rintro e w7 ⟨rfl, hb7⟩
  have hS7 : Below s w1 w7 ∧ w7.there s 0 64 ∧ s < w7.heap.size := ⟨hS6.1.trans (hb7.mono (by omega)), there_below hS6.2.1 hS6.2.2 hb7, Nat.lt_of_lt_of_le hS6.2.2 hb7.size⟩
  refine ⟨_, rfl, hS7, ?_⟩
  simp only [Act.put, List.setIfInBounds_toArray, List.set_cons_succ, List.set_cons_zero]
  have hS8 : ∀ vs, Below s w1 (w7.setCells s 0 vs) ∧ (w7.setCells s 0 vs).there s 0 64 ∧ s < (w7.setCells s 0 vs).heap.size := fun vs => ⟨below_setCells hS7.1 (Nat.le_refl _) _, World.there_setCells hS7.2.1 _ _ _, by rw [(heap_setCells _ _ _ _).1]; exact hS7.2.2⟩
  refine held_nul 10 rfl (by kernel_rfl) rfl (exec_store rfl rfl rfl hS7.2.1) (hS8 _) ?_
  simp only [Act.put]
  refine held_val 11 rfl (by kernel_rfl) (by kernel_rfl) (by kernel_rfl) rfl (fun w hw => exec_assign rfl) (fun _ _ _ h => h) (hS8 _) ?_
  simp only [Act.put, List.setIfInBounds_toArray, List.set_cons_succ, List.set_cons_zero]
  refine wpAnyH_done (by kernel_rfl) ?_ _
  go_wp2_with fail
  refine bodyPost_ret (res_blk2 rfl _ _ _ rfl (World.rangeAt_setCells_same _ _ _ _ (by rw [cel_length]; exact hS7.2.1))) rfl ⟨?_, ?_⟩
  · unfold misV
    rw [HM.out]
    rfl
  · rw [hs]; exact HB.out.trans (hS8 _).1

theorem refMiss_out (A : Option Addr) (m c N : Nat) (n : Int) (l : List Blk) (w : World) (hl : RdB w N A m l) (hn : n < 0 ∨ (m : Int) ≤ n) :
    Calls Try.prog 10 #[.slice A m c, .int .i64 n] w fun e w' => e = .returned (misV l n) ∧ Below w.heap.size w w' := by
  have hm : mis l n = (zeroB, 2) := mis_out (by rw [hl.1]; exact hn)
  have hA := range_new w (cel zeroB) 23
  have ht := there_new w zeroB 23
  have HT := Lib.hid ht
  have HM := Lib.hid hm
  clear hA ht hm
  by_cases h0 : n < 0
  · go_enter Try.func10, Try.ntmps10
    go_wp2_with (first | (refine wpList_val rfl (exec_alloc rfl) ?_) | (refine wpList_val rfl (exec_build (c := zeroB) (parts := []) rfl rfl) ?_) | (refine wpList_nul rfl (exec_store rfl rfl rfl HT.out) ?_))
    refine bodyPost_ret (res_blk2 rfl _ _ _ rfl (World.rangeAt_setCells_same _ _ _ _ (by rw [cel_length]; exact HT.out))) rfl ⟨?_, below_setCells ((Below.refl _ w).alloc (Nat.le_refl _) _) (Nat.le_refl _) _⟩
    unfold misV
    rw [HM.out]
    rfl
  · have h1 : (m : Int) ≤ n := by omega
    have h2 : decide ((m : Int) ≤ n) = true := by simpa using h1
    go_enter Try.func10, Try.ntmps10
    go_wp2_with (first | (refine wpList_val rfl (exec_alloc rfl) ?_) | (refine wpList_val rfl (exec_build (c := zeroB) (parts := []) rfl rfl) ?_) | (refine wpList_nul rfl (exec_store rfl rfl rfl HT.out) ?_))
    refine bodyPost_ret (res_blk2 rfl _ _ _ rfl (World.rangeAt_setCells_same _ _ _ _ (by rw [cel_length]; exact HT.out))) rfl ⟨?_, below_setCells ((Below.refl _ w).alloc (Nat.le_refl _) _) (Nat.le_refl _) _⟩
    unfold misV
    rw [HM.out]
    rfl

set_option maxHeartbeats 800000 in
theorem refMiss_in (A : Option Addr) (n c N k : Nat) (l : List Blk) (w : World) (hl : RdB w N A n l) (hN : N ≤ w.heap.size) (hk : k < n) (hn : n ≤ maxLen) :
    Calls Try.prog 10 #[.slice A n c, .int .i64 k] w fun e w' => e = .returned (misV l k) ∧ Below w.heap.size w w' := by
  unfold maxLen at hn
  have hlen := hl.1
  have HM := Lib.hid (mis_in (l := l) (k := k) (by omega))
  have hd : decide ((n : Int) ≤ (k : Int)) = false := by simp; omega
  obtain ⟨_, hR, hO, hOt, hb, hsize⟩ := laid2 w zeroB zeroB
  obtain ⟨w2, hw2⟩ : ∃ w2, two_ w zeroB zeroB = w2 := ⟨_, rfl⟩
  rw [hw2] at hR hO hOt hb hsize
  have HW := Lib.hid hw2
  have HR := Lib.hid hR
  have HS := Lib.hid hsize
  have HLEN := Lib.hid hlen
  clear hw2 hR hsize hlen
  go_enter Try.func10, Try.ntmps10
  go_wp2_with (first | (refine wpList_val rfl (exec_alloc rfl) ?_))
  clear hd
  have hs := HW.out
  unfold two_ at hs
  rw [hs]
  clear hs HW
  generalize hsz : w.heap.size = s at *
  go_loopw [7] (fun i wr => ∃ j : Nat, j ≤ n ∧ i = .int .i64 j ∧ wr.rangeAt (s + 1) 0 (cel (fold ((l.take j).eraseIdx k))) ∧ wr.there (s + 1) 0 64 ∧ wr.there s 0 64 ∧ Below s w wr ∧ s + 1 + 1 ≤ wr.heap.size) (fun i _ => n - (intOf i).toNat)
  case atStart => exact ⟨0, by omega, rfl, hO, hOt, HR.out, hb, Nat.le_of_eq HS.out.symm⟩
  case round =>
    clear hO hOt HR hb HS
    obtain ⟨j, hj, rfl, hO, hOt, hRt, hbl, hsz2⟩ := hrel
    have HO := Lib.hid hO
    have HOT := Lib.hid hOt
    have HRT := Lib.hid hRt
    clear hO hOt hRt
    by_cases hlt : j < n
    · by_cases hjk : j = k
      · subst hjk
        have HE := Lib.hid (erase_same (l := l) (j := j) (by have := HLEN.out; omega))
        go_wp2_with fail
        go_roundw
        case rel => exact ⟨j + 1, by omega, by go_num, by rw [HE.out]; exact HO.out, HOT.out, HRT.out, hbl, hsz2⟩
        case measure => simp [intOf]; omega
      · obtain ⟨bA, oA, rfl, hA, cA⟩ := (hl.below (hbl.mono hN)).2 j hlt
        have HE := Lib.hid (erase_snoc (l := l) (j := j) (k := k) (by have := HLEN.out; omega) hjk)
        have hne : ((j : Int) != (k : Int)) = true := by simp; omega
        generalize l.getD j zeroB = x at *
        have HCA := Lib.hid cA
        clear cA
        go_wp2_with fail
        refine wp_region_still_tail 5 (by kernel_rfl) (by kernel_rfl) ?_
        simp only [List.take_succ_cons, List.take_zero, List.drop_succ_cons, List.drop_zero]
        refine st_val rfl (exec_load rfl rfl HO.out) ?_
        refine st_val rfl (exec_move rfl) ?_
        refine st_val rfl (exec_move rfl) ?_
        refine st_val rfl (exec_index rfl rfl rfl hlt) ?_
        refine st_val rfl (exec_load rfl rfl HCA.out) ?_
        refine wpStill_nil ?_
        change wpList _ _ _ _ _ wr.drew
        go_wp2_with fail
        refine (refXor_any _ _ _).mono ?_
        rintro e w1 ⟨rfl, hb1⟩
        have hb2 : Below wr.heap.size wr w1 := (bd (Below.refl wr.heap.size wr)).trans hb1
        clear hb1
        have hOt1 := there_below HOT.out (by omega) hb2
        go_wp2_with (first | (refine wpList_nul rfl (exec_store rfl rfl rfl hOt1) ?_))
        go_roundw
        case rel =>
          refine ⟨j + 1, by omega, by go_num, ?_, World.there_setCells hOt1 _ _ _, World.there_setCells (there_below HRT.out (by omega) hb2) _ _ _, ?_, ?_⟩
          · rw [HE.out]; exact World.rangeAt_setCells_same _ _ _ _ (by rw [cel_length]; exact hOt1)
          · exact below_setCells (hbl.trans (hb2.mono (by omega))) (by omega) _
          · rw [(heap_setCells _ _ _ _).1]
            have := hb2.size
            omega
        case measure => simp [intOf]; omega
    · have hjn : j = n := by omega
      subst hjn
      have hfl : l.take j = l := List.take_of_length_le (Nat.le_of_eq hl.1)
      rw [hfl] at HO
      go_wp2_with (first | (refine wpList_val rfl (exec_load rfl rfl HO.out) ?_) | (refine wpList_nul rfl (exec_store rfl rfl rfl HRT.out) ?_))
      refine bodyPost_ret (res_blk2 rfl _ _ _ rfl (World.rangeAt_setCells_same _ _ _ _ (by rw [cel_length]; exact HRT.out))) rfl ⟨?_, ?_⟩
      · unfold misV
        rw [HM.out]
        rfl
      · rw [hsz]
        exact below_setCells hbl (Nat.le_refl _) _

theorem miss_any (A : Option Addr) (m c N : Nat) (n : Int) (l : List Blk) (w : World) (hl : RdB w N A m l) (hN : N ≤ w.heap.size) (hmc : m ≤ c) (hm : m ≤ maxLen) :
    Calls Try.prog 9 #[.slice A m c, .int .i64 n] w fun e w' => e = .returned (misV l n) ∧ Below w.heap.size w w' := by
  by_cases h : n < 0 ∨ (m : Int) ≤ n
  · exact miss_out A m c N n l w hl h
  · obtain ⟨k, rfl⟩ := Int.eq_ofNat_of_zero_le (show 0 ≤ n by omega)
    exact miss_in A m c N k l w hl hN (by omega) hmc hm
theorem refMiss_any (A : Option Addr) (m c N : Nat) (n : Int) (l : List Blk) (w : World) (hl : RdB w N A m l) (hN : N ≤ w.heap.size) (hm : m ≤ maxLen) :
    Calls Try.prog 10 #[.slice A m c, .int .i64 n] w fun e w' => e = .returned (misV l n) ∧ Below w.heap.size w w' := by
  by_cases h : n < 0 ∨ (m : Int) ≤ n
  · exact refMiss_out A m c N n l w hl h
  · obtain ⟨k, rfl⟩ := Int.eq_ofNat_of_zero_le (show 0 ≤ n by omega)
    exact refMiss_in A m c N k l w hl hN (by omega) hm
end Go.Proofs.Ytdihialobobkpaa
