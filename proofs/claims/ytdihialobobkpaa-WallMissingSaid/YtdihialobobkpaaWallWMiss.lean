/-
  The walk of WallMissing.
-/
import Derived.Test.YtdihialobobkpaaBlkQ
import Derived.Test.YtdihialobobkpaaWallLives
namespace Go.Proofs.Ytdihialobobkpaa
open Go.RowKit
set_option linter.unusedVariables false
set_option linter.unusedSimpArgs false

theorem row_parity (l : List Blk) : fold (l ++ [fold l]) = zeroB := by rw [fold_append, fold_one, bx_self]
theorem mis_each {l : List Blk} {j n : Nat} (hl : l.length = n) (hj : j < n) (h : fold l = zeroB) : misV l (j : Int) = .tuple #[blk (l.getD j zeroB), .int .i64 0] := by
  unfold misV
  rw [mis_in (by omega), mis_row h (by omega)]
theorem mis_bey {l : List Blk} {n : Int} (h : n < 0 ∨ (l.length : Int) ≤ n) : misV l n = .tuple #[blk zeroB, .int .i64 2] := by
  unfold misV
  rw [mis_out h]

set_option maxHeartbeats 3200000 in
theorem wallMissing_walk (A : Option Addr) (n c : Nat) (l : List Blk) (w : World) (hl : RdB w w.heap.size A n l) (hn : n ≤ 2199023255488) :
    Calls Try.prog 4 #[.slice A n c] w fun e w' => e = .returned (.bool true) ∧ Below w.heap.size w w' := by
  have hlen := hl.1
  have HL := Lib.hid hlen
  clear hlen
  obtain ⟨s, hs⟩ : ∃ s, w.heap.size = s := ⟨_, rfl⟩
  go_enter Try.func4, Try.ntmps4
  go_wp2_with fail
  refine (copyB_any A n c _ _ l _ (Lib.hid rfl) hl (Nat.le_refl _) (by omega)).mono ?_
  rintro e w1 ⟨v1, rfl, hv1, hb1⟩
  have hl1 := hl.step hb1
  go_wp2_with fail
  refine (fold_any A n c _ l _ hl1 (Nat.le_refl _) (by unfold maxLen; omega)).mono ?_
  rintro e w2 ⟨rfl, hb2⟩
  have hv2 := hv1.below hb2
  have hb12 := hb1.trans (hb2.mono hb1.size)
  have hnew := rdB_new w2 [fold l] 23
  have hv3 : MadeB (w2.alloc (.cells (flat [fold l]).toArray 23)) w.heap.size v1 l := hv2.below ((Below.refl _ _).alloc (Nat.le_refl _) _)
  have hb13 := hb12.alloc hb12.size (.cells (flat [fold l]).toArray 23)
  clear hv1 hv2 hb1 hb2 hl1 hb12
  go_wp2_with (first | (refine wpList_val rfl (exec_buildS [fold l] rfl rfl rfl (by omega) (by omega)) ?_) | (at_builtin; refine wpList_appB rfl _ _ rfl w.heap.size _ 1 _ _ l [fold l] _ rfl rfl hv3 hnew hb13.size ?c1 ?_) | fail)
  case c1 => have := HL.out; omega
  intro v4 w4 hv4 hg4
  have hb14 : Below s w w4 := hs ▸ hb13.grown hg4 hb13.size (fun k hk => ((show World.ownsRow _ _ _ _ _ _ _ from hv3).lt k hk).1)
  have hz := row_parity l
  have hlen2 : (l ++ [fold l]).length = n + 1 := by rw [List.length_append, HL.out]; rfl
  generalize l ++ [fold l] = all at *
  obtain ⟨A4, c4, rfl, rd4, hc4, hcm⟩ := hv4.open_ hlen2
  have HZ := Lib.hid hz
  have HLEN := Lib.hid hlen2
  have HB14 := Lib.hid hb14
  have HN := Lib.hid hn
  have hst : s ≤ w4.heap.size := by rw [← hs]; exact hb14.size
  clear hb13 hv3 hnew hg4 hv4 hz hlen2 hb14 hl
  obtain ⟨t4, ht4⟩ : ∃ t4, w4.heap.size = t4 := ⟨_, rfl⟩
  rw [ht4] at rd4 hst
  have HT4 := Lib.hid ht4
  clear ht4
  go_wp2_with fail
  go_loopw [4] (fun i wr => ∃ j : Nat, j ≤ n + 1 ∧ i = .int .i64 j ∧ Below t4 w4 wr) (fun i _ => n + 1 - (intOf i).toNat)
  case atStart => exact ⟨0, by omega, rfl, Below.refl _ _⟩
  case round =>
    obtain ⟨j, hj, rfl, hbl⟩ := hrel
    have hle : t4 ≤ wr.heap.size := HT4.out ▸ hbl.size
    have hrd := rd4.below hbl
    by_cases hlt : j < n + 1
    · obtain ⟨bA, oA, hAe, hA, cA⟩ := hrd.2 j hlt
      subst hAe
      have HME := Lib.hid (mis_each HLEN.out hlt HZ.out)
      have hlt' : (j : Int) < (n : Int) + 1 := by omega
      generalize hx : all.getD j zeroB = x at *
      clear hx
      have hnn := HN.out
      go_wp2_with fail
      refine (miss_any _ (n + 1) c4 t4 j all _ hrd hle hc4 (by unfold maxLen; omega)).mono ?_
      rintro e w5 ⟨rfl, hb5⟩
      rw [HME.out]
      have HM := Lib.hid (range_new w5 (cel x) 23)
      have HC := Lib.hid (World.rangeAt_alloc (range_below cA (by omega) hb5) (.cells (cel x).toArray 23))
      have HBL := Lib.hid ((hbl.trans (hb5.mono hle)).alloc (Nat.le_trans hle hb5.size) (.cells (cel x).toArray 23))
      clear hb5 cA hrd hbl HME
      go_wp2_with (first | (refine wpList_val rfl (exec_alloc rfl) ?_) | (refine wpList_nul rfl (exec_fill rfl rfl rfl) ?_) | fail)
      generalize w5.alloc (.cells (cel x).toArray 23) = w6 at *
      refine wp_region_read (by kernel_rfl) ?_
      refine st_val rfl (exec_mv rfl (ev rfl)) ?_
      simp only [Act.put, List.setIfInBounds_toArray, List.set_cons_succ, List.set_cons_zero]
      refine st_val rfl (exec_neInt false rfl (ev rfl) evk rfl) ?_
      simp only [Act.put, List.setIfInBounds_toArray, List.set_cons_succ, List.set_cons_zero]
      refine st_val rfl (exec_mv rfl (ev rfl)) ?_
      simp only [Act.put, List.setIfInBounds_toArray, List.set_cons_succ, List.set_cons_zero]
      refine st_val (wanted_of rfl rfl rfl rfl) (exec_load rfl (ev rfl) (HM.out)) ?_
      simp only [Act.put, List.setIfInBounds_toArray, List.set_cons_succ, List.set_cons_zero]
      refine st_val (wanted_of rfl rfl rfl rfl) (exec_mv rfl (ev rfl)) ?_
      simp only [Act.put, List.setIfInBounds_toArray, List.set_cons_succ, List.set_cons_zero]
      refine st_val (wanted_of rfl rfl rfl rfl) (exec_mv rfl (ev rfl)) ?_
      simp only [Act.put, List.setIfInBounds_toArray, List.set_cons_succ, List.set_cons_zero]
      refine st_val (wanted_of rfl rfl rfl rfl) (exec_index rfl (ev rfl) (ev rfl) hlt) ?_
      simp only [Act.put, List.setIfInBounds_toArray, List.set_cons_succ, List.set_cons_zero]
      refine st_val (wanted_of rfl rfl rfl rfl) (exec_load rfl (ev rfl) (HC.out)) ?_
      simp only [Act.put, List.setIfInBounds_toArray, List.set_cons_succ, List.set_cons_zero]
      refine st_val (wanted_of rfl rfl rfl rfl) (exec_nen rfl (ev rfl) (ev rfl) rfl) ?_
      simp only [Act.put, List.setIfInBounds_toArray, List.set_cons_succ, List.set_cons_zero]
      refine st_val rfl (exec_pf rfl (ev rfl) (ev rfl)) ?_
      simp only [Act.put, List.setIfInBounds_toArray, List.set_cons_succ, List.set_cons_zero]
      refine wpStill_nil ?_
      go_wp2_with fail
      go_roundw
      case rel => exact ⟨j + 1, by omega, by go_num, bd HBL.out⟩
      case measure => simp [intOf]; omega
    · have hjn : j = n + 1 := by omega
      subst hjn
      go_wp2_with fail
      have h1 : n + 1 ≤ maxLen := by unfold maxLen; have := HN.out; omega
      have HB1 := Lib.hid (mis_bey (l := all) (n := (n : Int) + 1) (by have := HLEN.out; omega))
      have HB2 := Lib.hid (mis_bey (l := all) (n := -1) (by omega))
      refine (miss_any _ (n + 1) c4 t4 _ all _ hrd hle hc4 h1).mono ?_
      rintro e w5 ⟨rfl, hb5⟩
      rw [HB1.out]
      have hs5 : Below t4 w4 (w5.alloc (.cells (cel zeroB).toArray 23)) := (hbl.trans (hb5.mono hle)).alloc (Nat.le_trans hle hb5.size) _
      have hrd5 := rd4.below hs5
      have hle5 : t4 ≤ (w5.alloc (.cells (cel zeroB).toArray 23)).heap.size := HT4.out ▸ hs5.size
      clear hb5 hrd hbl
      go_wp2_with (first | (refine wpList_val rfl (exec_alloc rfl) ?_) | (refine wpList_nul rfl (exec_fill rfl rfl rfl) ?_) | fail)
      generalize w5.alloc (.cells (cel zeroB).toArray 23) = w6 at *
      refine (miss_any _ (n + 1) c4 t4 (-1) all _ hrd5 hle5 hc4 h1).mono ?_
      rintro e w7 ⟨rfl, hb7⟩
      rw [HB2.out]
      have HS7 := Lib.hid ((hs5.trans (hb7.mono hle5)).alloc (Nat.le_trans hle5 hb7.size) (.cells (cel zeroB).toArray 23))
      have HLE7 := Lib.hid (show t4 ≤ (w7.alloc (.cells (cel zeroB).toArray 23)).heap.size from HT4.out ▸ HS7.out.size)
      clear hb7 hs5 hrd5 hle5
      go_wp2_with (first | (refine wpList_val rfl (exec_alloc rfl) ?_) | (refine wpList_nul rfl (exec_fill rfl rfl rfl) ?_) | fail)
      generalize w7.alloc (.cells (cel zeroB).toArray 23) = w8 at *
      refine (lives_yes _).mono ?_
      rintro e w9 ⟨rfl, hb9⟩
      go_wp2_with fail
      go_ret
      rw [hs]
      exact ⟨rfl, HB14.out.trans ((HS7.out.trans (hb9.mono HLE7.out)).mono hst)⟩
end Go.Proofs.Ytdihialobobkpaa
