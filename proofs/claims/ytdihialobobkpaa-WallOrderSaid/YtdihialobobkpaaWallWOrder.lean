/-
  The walk of WallOrder.
-/
import Derived.Test.YtdihialobobkpaaBlkQ
import Derived.Test.YtdihialobobkpaaWallLives
namespace Go.Proofs.Ytdihialobobkpaa
open Go.RowKit
set_option linter.unusedVariables false
set_option linter.unusedSimpArgs false

theorem drop_rev {l : List Blk} {j : Nat} (h : j < l.length) : (l.drop (j + 1)).reverse ++ [l.getD j zeroB] = (l.drop j).reverse := by
  rw [List.drop_eq_getElem_cons h, List.reverse_cons, List.getD, List.getElem?_eq_getElem h, Option.getD_some]

set_option maxHeartbeats 3200000 in
theorem wallOrder_walk (A : Option Addr) (n c : Nat) (l : List Blk) (at_ : Int) (w : World) (hl : RdB w w.heap.size A n l) (hn : n ≤ 2199023255488) (hnc : n ≤ c) :
    Calls Try.prog 6 #[.slice A n c, .int .i64 at_] w fun e w' => e = .returned (.bool true) ∧ Below w.heap.size w w' := by
  have HL := Lib.hid hl.1
  obtain ⟨k, hk, hkm⟩ := place at_ (n + 1) (by omega)
  rw [show ((n + 1 : Nat) : Int) = (n : Int) + 1 from by omega] at hkm
  have hd2 : ((n : Int) + 1 == 0) = false := by simp; omega
  have hkn : k ≤ n := by omega
  have hc1 := hl.tail (c := c) hkn hnc
  have hc2 := hl.head hkn
  go_enter Try.func6, Try.ntmps6
  go_wp2_with (first | (refine wpList_val rfl (exec_tail (k := k) rfl rfl rfl hkn) ?_) | (at_builtin; refine wpList_appB rfl _ _ rfl w.heap.size _ (n - k) _ _ [] (l.drop k) _ rfl rfl (MadeB.nil _ _) hc1 (Nat.le_refl _) ?c1 ?_) | fail)
  case c1 => simp; omega
  intro v1 w1 hm1 hg1
  clear hkm hd2 hc1
  have hb1 : Below w.heap.size w w1 := (Below.refl _ _).grown hg1 (Nat.le_refl _) (by simp [Value.ownBlock])
  have hc2' := hc2.below hb1
  go_wp2_with (first | (refine wpList_val rfl (exec_head (k := k) rfl rfl rfl (Nat.le_trans hkn hnc)) ?_) | (at_builtin; refine wpList_appB rfl _ _ rfl w.heap.size _ k _ _ (l.drop k) (l.take k) _ rfl rfl hm1 hc2' hb1.size ?c1 ?_) | fail)
  case c1 => have := HL.out; simp; omega
  intro v2 w2 hm2 hg2
  have hb2 : Below w.heap.size w w2 := hb1.grown hg2 hb1.size (fun k hk => ((show World.ownsRow _ _ _ _ _ _ _ from hm1).lt k hk).1)
  clear hg1 hg2 hm1 hc2 hc2' hb1
  obtain ⟨A2, c2, rfl, rdc, hc2, hc2m⟩ := hm2.open_ (n := n) (by rw [List.length_append, List.length_drop, List.length_take, HL.out]; omega)
  have HB2 := Lib.hid hb2
  have hl2 := hl.step hb2
  clear hm2 hl hb2
  obtain ⟨t2, ht2⟩ : ∃ t2, w2.heap.size = t2 := ⟨_, rfl⟩
  rw [ht2] at rdc hl2
  have HT2 := Lib.hid ht2
  clear ht2
  go_wp2_with fail
  go_loopw [7, 8] (fun v i wr => ∃ j : Nat, j ≤ n ∧ i = .int .i64 ((j : Int) - 1) ∧ MadeB wr t2 v (l.drop j).reverse ∧ Below t2 w2 wr) (fun _ i _ => (intOf i + 1).toNat)
  case atStart => exact ⟨n, Nat.le_refl _, rfl, by rw [List.drop_eq_nil_of_le (Nat.le_of_eq HL.out)]; exact MadeB.nil _ _, Below.refl _ _⟩
  case round =>
    obtain ⟨j, hj, rfl, hmd, hbl⟩ := hrel
    have hle : t2 ≤ wr.heap.size := HT2.out ▸ hbl.size
    cases j with
    | succ j =>
      rw [show ((j + 1 : Nat) : Int) - 1 = (j : Int) from by omega]
      obtain ⟨bA, oA, rfl, hA, cA⟩ := (hl2.below hbl).2 j (by omega)
      have HR := Lib.hid (drop_rev (l := l) (j := j) (by have := HL.out; omega))
      generalize l.getD j zeroB = x at *
      have hjn : (j : Int) < (n : Int) := by omega
      have hnew := rdB_new wr [x] 23
      have hmd3 : MadeB (wr.alloc (.cells (flat [x]).toArray 23)) t2 u7 (l.drop (j + 1)).reverse := hmd.below ((Below.refl _ _).alloc (Nat.le_refl _) _)
      have hb3 := hbl.alloc hle (.cells (flat [x]).toArray 23)
      have hsz3 : t2 ≤ (wr.alloc (.cells (flat [x]).toArray 23)).heap.size := HT2.out ▸ hb3.size
      clear hmd hbl
      go_wp2_with (first | (refine wpList_val rfl (exec_load rfl rfl cA) ?_) | (refine wpList_val rfl (exec_buildS [x] rfl rfl rfl (by omega) (by omega)) ?_) | (at_builtin; refine wpList_appB rfl _ _ rfl t2 _ 1 _ _ (l.drop (j + 1)).reverse [x] _ rfl rfl hmd3 hnew hsz3 ?c1 ?_) | fail)
      case c1 => have := HL.out; simp <;> omega
      intro v4 w4 hm4 hg4
      rw [HR.out] at hm4
      go_wp2_with fail
      go_roundw
      case rel => exact ⟨j, by omega, by go_num, hm4, hb3.grown hg4 hsz3 (fun k hk => ((show World.ownsRow _ _ _ _ _ _ _ from hmd3).lt k hk).1)⟩
      case measure => simp [intOf]
    | zero =>
      rw [List.drop_zero] at hmd
      obtain ⟨A3, c3, rfl, rdd, hc3, hc3m⟩ := hmd.open_ (n := n) (by rw [List.length_reverse, HL.out])
      have hl3 := hl2.below hbl
      have hrc := rdc.below hbl
      have hmx : n ≤ maxLen := by unfold maxLen; omega
      have HMX := Lib.hid hmx
      have HB3 := Lib.hid (HB2.out.trans (hbl.mono (HT2.out ▸ HB2.out.size)))
      clear hl2 rdc hmd hmx hbl
      go_wp2_with fail
      refine (fold_any A n c t2 l _ hl3 hle HMX.out).mono ?_
      rintro e w5 ⟨rfl, hb5⟩
      have hst : Below wr.heap.size wr (w5.alloc (.cells (cel (fold l)).toArray 23)) := hb5.alloc hb5.size _
      have HX := Lib.hid (range_new w5 (cel (fold l)) 23)
      have hl9 := (hl3.more hle).step hst
      have hrc9 := (hrc.more hle).step hst
      have rdd9 := rdd.step hst
      have HB9 := Lib.hid (HB3.out.trans (hst.mono HB3.out.size))
      have hs9 : (w5.alloc (.cells (cel (fold l)).toArray 23)).heap.size = w5.heap.size + 1 := World.size_alloc ..
      clear hl3 hrc rdd hst hb5 HB3
      go_wp2_with (first | (refine wpList_val rfl (exec_alloc rfl) ?_) | (refine wpList_nul rfl (exec_fill rfl rfl rfl) ?_) | fail)
      generalize w5.alloc (.cells (cel (fold l)).toArray 23) = w6 at *
      generalize w5.heap.size = t5 at *
      obtain ⟨t9, ht9⟩ : ∃ t9, w6.heap.size = t9 := ⟨_, rfl⟩
      rw [ht9] at hl9 hrc9 rdd9
      have HT9 := Lib.hid ht9
      have HLE := Lib.hid (Nat.le_of_eq ht9.symm)
      have HLT := Lib.hid (show t5 < t9 by omega)
      have hsb := HB9.out.size
      rw [ht9] at hsb
      have HSB := Lib.hid hsb
      have rdd := rdd9
      have rdc := hrc9
      have HE1 := Lib.hid (show fold (l.drop k ++ l.take k) = fold l by rw [fold_append, bx_comm, ← fold_append, List.take_append_drop])
      have HE2 := Lib.hid (fold_reverse l)
      have HE3 := Lib.hid (show bx (fold (l.take k)) (fold (l.drop k)) = fold l by rw [← fold_append, List.take_append_drop])
      clear rdd9 hrc9 ht9 hs9 hsb
      refine wp_region_above (B := t9) (by kernel_rfl) ?_
      refine qv_val rfl (fun w' hw => exec_mv rfl (ev rfl)) ?_
      simp only [Act.put, List.setIfInBounds_toArray, List.set_cons_succ, List.set_cons_zero]
      refine qv_call rfl (fun _ => exec_cl Try.call13 rfl (evc (ev rfl) evn)) (above_of HLE.out fun w' hw => fold_any _ n c2 t9 (l.drop k ++ l.take k) w' (rdc.below hw) (HT9.out ▸ hw.size) HMX.out) ?_
      simp only [Act.put, List.setIfInBounds_toArray, List.set_cons_succ, List.set_cons_zero]
      refine qv_val rfl (fun w' hw => exec_load rfl (ev rfl) (range_below HX.out HLT.out hw)) ?_
      simp only [Act.put, List.setIfInBounds_toArray, List.set_cons_succ, List.set_cons_zero]
      refine qv_val rfl (fun w' hw => exec_eqy rfl (ev rfl) (ev rfl) HE1.out) ?_
      simp only [Act.put, List.setIfInBounds_toArray, List.set_cons_succ, List.set_cons_zero]
      refine qv_val rfl (fun w' hw => exec_mv rfl (ev rfl)) ?_
      simp only [Act.put, List.setIfInBounds_toArray, List.set_cons_succ, List.set_cons_zero]
      refine qv_val (wanted_of rfl rfl rfl rfl) (fun w' hw => exec_mv rfl (ev rfl)) ?_
      simp only [Act.put, List.setIfInBounds_toArray, List.set_cons_succ, List.set_cons_zero]
      refine qv_call (wanted_of rfl rfl rfl rfl) (fun _ => exec_cl Try.call13 rfl (evc (ev rfl) evn)) (above_of HLE.out fun w' hw => fold_any _ n c3 t9 l.reverse w' (rdd.below hw) (HT9.out ▸ hw.size) HMX.out) ?_
      simp only [Act.put, List.setIfInBounds_toArray, List.set_cons_succ, List.set_cons_zero]
      refine qv_val (wanted_of rfl rfl rfl rfl) (fun w' hw => exec_load rfl (ev rfl) (range_below HX.out HLT.out hw)) ?_
      simp only [Act.put, List.setIfInBounds_toArray, List.set_cons_succ, List.set_cons_zero]
      refine qv_val (wanted_of rfl rfl rfl rfl) (fun w' hw => exec_eqy rfl (ev rfl) (ev rfl) HE2.out) ?_
      simp only [Act.put, List.setIfInBounds_toArray, List.set_cons_succ, List.set_cons_zero]
      refine qv_val rfl (fun w' hw => exec_pt rfl (ev rfl) (ev rfl)) ?_
      simp only [Act.put, List.setIfInBounds_toArray, List.set_cons_succ, List.set_cons_zero]
      refine qv_val rfl (fun w' hw => exec_mv rfl (ev rfl)) ?_
      simp only [Act.put, List.setIfInBounds_toArray, List.set_cons_succ, List.set_cons_zero]
      refine qv_val (wanted_of rfl rfl rfl rfl) (fun w' hw => exec_mv rfl (ev rfl)) ?_
      simp only [Act.put, List.setIfInBounds_toArray, List.set_cons_succ, List.set_cons_zero]
      refine qv_val (wanted_of rfl rfl rfl rfl) (fun w' hw => exec_mv rfl (ev rfl)) ?_
      simp only [Act.put, List.setIfInBounds_toArray, List.set_cons_succ, List.set_cons_zero]
      refine qv_val (wanted_of rfl rfl rfl rfl) (fun w' hw => exec_head (k := k) rfl (ev rfl) (ev rfl) (Nat.le_trans hkn hnc)) ?_
      simp only [Act.put, List.setIfInBounds_toArray, List.set_cons_succ, List.set_cons_zero]
      refine qv_call (wanted_of rfl rfl rfl rfl) (fun _ => exec_cl Try.call13 rfl (evc (ev rfl) evn)) (above_of HLE.out fun w' hw => fold_any _ k c t9 (l.take k) w' ((hl9.head hkn).below hw) (HT9.out ▸ hw.size) (Nat.le_trans hkn HMX.out)) ?_
      simp only [Act.put, List.setIfInBounds_toArray, List.set_cons_succ, List.set_cons_zero]
      refine qv_val (wanted_of rfl rfl rfl rfl) (fun w' hw => exec_mv rfl (ev rfl)) ?_
      simp only [Act.put, List.setIfInBounds_toArray, List.set_cons_succ, List.set_cons_zero]
      refine qv_val (wanted_of rfl rfl rfl rfl) (fun w' hw => exec_mv rfl (ev rfl)) ?_
      simp only [Act.put, List.setIfInBounds_toArray, List.set_cons_succ, List.set_cons_zero]
      refine qv_val (wanted_of rfl rfl rfl rfl) (fun w' hw => exec_tail (k := k) rfl (ev rfl) (ev rfl) hkn) ?_
      simp only [Act.put, List.setIfInBounds_toArray, List.set_cons_succ, List.set_cons_zero]
      refine qv_call (wanted_of rfl rfl rfl rfl) (fun _ => exec_cl Try.call13 rfl (evc (ev rfl) evn)) (above_of HLE.out fun w' hw => fold_any _ (n - k) (c - k) t9 (l.drop k) w' ((hl9.tail hkn hnc).below hw) (HT9.out ▸ hw.size) (Nat.le_trans (Nat.sub_le n k) HMX.out)) ?_
      simp only [Act.put, List.setIfInBounds_toArray, List.set_cons_succ, List.set_cons_zero]
      refine qv_call (wanted_of rfl rfl rfl rfl) (fun _ => exec_cl Try.call11 rfl (evc (ev rfl) (evc (ev rfl) evn))) (above_of HLE.out fun w' hw => xor_any _ _ w') ?_
      simp only [Act.put, List.setIfInBounds_toArray, List.set_cons_succ, List.set_cons_zero]
      refine qv_val (wanted_of rfl rfl rfl rfl) (fun w' hw => exec_load rfl (ev rfl) (range_below HX.out HLT.out hw)) ?_
      simp only [Act.put, List.setIfInBounds_toArray, List.set_cons_succ, List.set_cons_zero]
      refine qv_val (wanted_of rfl rfl rfl rfl) (fun w' hw => exec_eqy rfl (ev rfl) (ev rfl) HE3.out) ?_
      simp only [Act.put, List.setIfInBounds_toArray, List.set_cons_succ, List.set_cons_zero]
      refine qv_val rfl (fun w' hw => exec_pt rfl (ev rfl) (ev rfl)) ?_
      simp only [Act.put, List.setIfInBounds_toArray, List.set_cons_succ, List.set_cons_zero]
      refine qv_val rfl (fun w' hw => exec_mv rfl (ev rfl)) ?_
      simp only [Act.put, List.setIfInBounds_toArray, List.set_cons_succ, List.set_cons_zero]
      refine qv_call (wanted_of rfl rfl rfl rfl) (fun _ => exec_cl Try.call22 rfl evn) (above_of HLE.out fun w' hw => lives_yes w') ?_
      simp only [Act.put, List.setIfInBounds_toArray, List.set_cons_succ, List.set_cons_zero]
      refine qv_val rfl (fun w' hw => exec_pt rfl (ev rfl) (ev rfl)) ?_
      simp only [Act.put, List.setIfInBounds_toArray, List.set_cons_succ, List.set_cons_zero]
      refine qv_val rfl (fun w' hw => exec_as rfl (ev rfl)) ?_
      simp only [Act.put, List.setIfInBounds_toArray, List.set_cons_succ, List.set_cons_zero]
      refine wpQuiet_nil ?_
      intro w8 hw8
      clear HE1 HE2 HE3
      go_wp2_with fail
      go_ret
      exact ⟨rfl, HB9.out.trans (hw8.mono HSB.out)⟩
end Go.Proofs.Ytdihialobobkpaa
