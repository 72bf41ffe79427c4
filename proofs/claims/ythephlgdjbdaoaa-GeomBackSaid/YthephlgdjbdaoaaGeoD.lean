/-
  geom.Data, and the reference's.
-/
import Derived.Test.YthephlgdjbdaoaaGeoM
import Derived.Test.YthephlgdjbdaoaaInts
namespace Go.Proofs.Ythephlgdjbdaoaa
open Go.RowKit
set_option linter.unusedVariables false

theorem data_no (m s r t : Int) (w : World) (h : may m s r = false) : Calls Try.prog 14 #[geoV m s r, .int .i64 t] w fun e w' => e = .returned (.tuple #[.slice none 0 0, .int .i64 2]) ∧ Below w.heap.size w w' := by
  have H := Lib.hid h
  clear h
  unfold geoV
  go_enter Try.func14, Try.ntmps14
  go_wp2_with fail
  refine (may_prog m s r _).mono ?_
  rintro e w1 ⟨rfl, hb1⟩
  obtain ⟨K0, HB⟩ := behind_g hb1 (new1 ..)
  rw [H.out]
  clear hb1
  go_wp2
  go_ret2
  exact ⟨rfl, HB.out⟩
theorem data_out (m s r t : Int) (w : World) (h : may m s r = true) (h' : has s t = false) : Calls Try.prog 14 #[geoV m s r, .int .i64 t] w fun e w' => e = .returned (.tuple #[.slice none 0 0, .int .i64 12]) ∧ Below w.heap.size w w' := by
  have H := Lib.hid h
  have H' := Lib.hid h'
  clear h h'
  unfold geoV
  go_enter Try.func14, Try.ntmps14
  go_wp2_with fail
  refine (may_prog m s r _).mono ?_
  rintro e w1 ⟨rfl, hb1⟩
  obtain ⟨K0, HB⟩ := behind_g hb1 (new1 ..)
  obtain ⟨c0, c1, c2⟩ := cells3 K0.out
  rw [H.out]
  clear hb1
  go_wp2_with fail
  refine (has_prog m s r t _).mono ?_
  rintro e w2 ⟨rfl, hb2⟩
  rw [H'.out]
  go_wp2
  go_ret2
  exact ⟨rfl, HB.out.trans (hb2.mono HB.out.size)⟩
set_option maxHeartbeats 1000000 in
theorem data_in (M S T B : Nat) (r : Int) (w : World) (HB0 : Hid (B = w.heap.size)) (h : may M S r = true) (h' : has S T = true) :
    Calls Try.prog 14 #[geoV M S r, .int .i64 T] w fun e w' => ∃ v, e = .returned (.tuple #[v, .int .i64 0]) ∧ MadeE IntE w' B v (datR M T) ∧ Below B w w' := by
  have hm := may_iff.1 h
  have ht := has_iff.1 h'
  have hmk := run_make_row' (P := Try.prog) 31 3 (.int .i64 0) 8 Try.underlying31 IntE.info rfl .i64 .i64 (M - 1) (by omega) (by omega)
  have HMK := Lib.hid hmk
  have H := Lib.hid h
  have H' := Lib.hid h'
  clear h h' hmk
  unfold geoV
  go_enter Try.func14, Try.ntmps14
  go_wp2_with fail
  refine (may_prog M S r _).mono ?_
  rintro e w1 ⟨rfl, hb1⟩
  obtain ⟨K0, HB⟩ := behind_g hb1 (new1 ..)
  obtain ⟨c0, c1, c2⟩ := cells3 K0.out
  rw [H.out]
  clear hb1
  go_wp2_with fail
  refine (has_prog M S r T _).mono ?_
  rintro e w2 ⟨rfl, hb2⟩
  have K2 := Lib.hid (blk_keep K0.out hb2)
  obtain ⟨d0, d1, d2⟩ := cells3 K2.out
  rw [H'.out]
  have HB2 := Lib.hid (HB.out.trans (hb2.mono HB.out.size))
  clear hb2 c0 c1 c2 K0 HB
  go_wp2_with fail
  refine (width_prog M S r _ (by omega) (by omega)).mono ?_
  rintro e w3 ⟨rfl, hb3⟩
  have K3 := Lib.hid (blk_keep K2.out hb3)
  have HB3 := Lib.hid (HB2.out.trans (hb3.mono HB2.out.size))
  clear d0 d1 d2 K2 hb3 HB2
  have hmk := HMK.out w3
  go_wp2
  clear hmk
  have hr0 := World.rowIs_made w3 (Value.int .i64 0) (M - 1) 3
  have hbl0 : Below B w (w3.alloc (.cells (madeCells #[Value.int .i64 0] (M - 1)) 3)) := by rw [HB0.out]; exact HB3.out.alloc HB3.out.size _
  have K4 := blk_past K3.out (.cells (madeCells #[Value.int .i64 0] (M - 1)) 3)
  have hlt4 : w.heap.size < w3.heap.size := blk_lt K3.out
  have hBg : B ≤ w3.heap.size := by rw [HB0.out]; omega
  generalize hb : w.heap.size = b at *
  generalize hg : w3.heap.size = g at *
  have HBB := Lib.hid hb
  have HG := Lib.hid hg
  clear hb hg
  have hle : M - 1 ≤ 15 := by omega
  generalize hW : M - 1 = W at *
  have HWd := Lib.hid hW
  clear hW
  go_loopw [7, 20] (fun v i wr => ∃ (k : Nat) (f : Nat → Int), k ≤ W ∧ i = .int .i64 k ∧ wr.rowIs g 3 W (fun j => .int .i64 (f j)) ∧ (∀ j, j < k → f j = ((dat M T j : Nat) : Int)) ∧ wr.heap[b]? = some (.cells #[.int .i64 M, .int .i64 S, .int .i64 r] 23) ∧ Below B w wr) (fun _ i _ => W - (intOf i).toNat)
  case atStart => exact ⟨0, fun _ => 0, Nat.zero_le _, rfl, hr0, fun j hj => absurd hj (by omega), K4, hbl0⟩
  case round =>
    clear hr0 K4 hbl0
    obtain ⟨k, f, hk, rfl, hrow, hf, K, hbl⟩ := hrel
    obtain ⟨c0, c1, c2⟩ := cells3 K
    have HF := Lib.hid hf
    have HK := Lib.hid K
    clear hf K
    by_cases hlt : k < W
    · have hfd := fieldP1 T (dat M T k)
      go_wp2_with fail
      refine (dat_prog M T k S r _ (by omega) (by omega) (by omega) (by omega)).mono ?_
      rintro e w5 ⟨rfl, hb5⟩
      unfold placeV
      have hrow5 := hrow.of_block (hb5.block g hrow.lt)
      have K5 := Lib.hid (blk_keep HK.out hb5)
      have hc := hrow5.cell (i := k) hlt
      have hfr := hrow5.frozen k
      have HBL := Lib.hid (hbl.trans (hb5.mono (by have := hbl.size; have := HB0.out; have := HBB.out; omega)))
      have hne : b ≠ g := by omega
      clear hb5 hrow c0 c1 c2 hbl
      go_wp2
      go_roundw
      case rel =>
        refine ⟨k + 1, upd f k (dat M T k), by omega, by go_num, row_puti hrow5 _, ?_, (heap_setCell_other _ _ _ _ hne).trans K5.out, HBL.out.setCell hBg _⟩
        intro j hj
        by_cases e : j = k
        · subst e; exact upd_at _ _ _
        · rw [upd_off _ _ e]; exact HF.out j (by omega)
      case measure => simp [intOf]; omega
    · have hkn : k = W := by omega
      subst hkn
      go_wp2
      go_ret2
      have hWd := HWd.out
      exact ⟨_, rfl, made_ints hrow hBg (by rw [datR_len]; exact hWd) (fun j hj => by rw [HF.out j hj, datR_at (by omega)]) (by unfold maxLen; omega), hbl⟩
theorem data_prog (m s r t : Int) (B : Nat) (w : World) (HB : Hid (B = w.heap.size)) : Calls Try.prog 14 #[geoV m s r, .int .i64 t] w fun e w' => ∃ v, e = .returned (.tuple #[v, .int .i64 (parE m s r t)]) ∧ MadeE IntE w' B v (datL m s r t) ∧ Below B w w' := by
  cases h : may m s r
  · rw [datL_no t h, parE_no t h]; exact (data_no m s r t w h).mono fun e w' ⟨he, hb⟩ => ⟨_, he, MadeE.nil _ _, by rw [HB.out]; exact hb⟩
  · cases h' : has s t
    · rw [datL_out h h', parE_out h h']; exact (data_out m s r t w h h').mono fun e w' ⟨he, hb⟩ => ⟨_, he, MadeE.nil _ _, by rw [HB.out]; exact hb⟩
    · obtain ⟨M, S, rfl, rfl, _⟩ := nat_geo h
      obtain ⟨T, rfl, _⟩ := nat_stripe h'
      rw [datL_in h h', parE_in h h']
      exact data_in M S T B r w HB h h'

/-! ### The reference -/
theorem datR_succ {M T d : Nat} (h : d < M - 1) : (datR M T).take d ++ [((dat M T d : Nat) : Int)] = (datR M T).take (d + 1) := by
  rw [List.take_add_one]
  congr 1
  unfold datR
  simp [List.getElem?_map, List.getElem?_range h]
set_option maxHeartbeats 1000000 in
theorem mod_next {x M : Nat} (h : 0 < M) : (x + 1) % M = if x % M + 1 = M then 0 else x % M + 1 := by
  have h1 := Nat.mod_lt x h
  split
  · rename_i e
    have := Nat.div_add_mod x M
    rw [show x + 1 = M * (x / M + 1) from by rw [Nat.mul_add]; omega]
    simp
  · rw [show x + 1 = M * (x / M) + (x % M + 1) from by have := Nat.div_add_mod x M; omega, Nat.mul_add_mod, Nat.mod_eq_of_lt (by omega)]
theorem rdata_in (M S T B : Nat) (r : Int) (w : World) (HB0 : Hid (B = w.heap.size)) (h : may M S r = true) (h' : has S T = true) :
    Calls Try.prog 15 #[geoV M S r, .int .i64 T] w fun e w' => ∃ v, e = .returned (.tuple #[v, .int .i64 0]) ∧ MadeE IntE w' B v (datR M T) ∧ Below B w w' := by
  have hm := may_iff.1 h
  have ht := has_iff.1 h'
  have HN := Lib.hid (show parN M S r T = ((par M T : Nat) : Int) from parN_in h h')
  have HE := Lib.hid (parE_in h h')
  have hp := par_lt T (M := M) (by omega)
  clear h h'
  unfold geoV
  go_enter Try.func15, Try.ntmps15
  go_wp2_with fail
  refine (parity_ref M S r T _).mono ?_
  rintro e w1 ⟨rfl, hb1⟩
  obtain ⟨K0, HB⟩ := behind_g hb1 (new1 ..)
  rw [HN.out, HE.out]
  clear hb1
  go_wp2_with fail
  have K4 := K0.out
  have hbl0 : Below B w w1 := by rw [HB0.out]; exact HB.out
  have hlt4 : w.heap.size < w1.heap.size := blk_lt K4
  generalize hb : w.heap.size = b at *
  have HBB := Lib.hid hb
  clear hb
  go_loopw [8, 9, 10] (fun v m i wr => ∃ k : Nat, k ≤ M - 1 ∧ i = .int .i64 k ∧ m = .int .i64 (((par M T + k) % M : Nat) : Int) ∧ MadeE IntE wr (b + 1) v ((datR M T).take k) ∧ wr.heap[b]? = some (.cells #[.int .i64 M, .int .i64 S, .int .i64 r] 23) ∧ Below B w wr) (fun _ _ i _ => M - (intOf i).toNat)
  case atStart => exact ⟨0, Nat.zero_le _, rfl, by rw [Nat.add_zero, Nat.mod_eq_of_lt hp], MadeE.nil _ _, K4, hbl0⟩
  case round =>
    clear K4 hbl0
    obtain ⟨k, hk, rfl, rfl, hmd, K, hbl⟩ := hrel
    obtain ⟨c0, c1, c2⟩ := cells3 K
    have hle : b < wr.heap.size := blk_lt K
    by_cases hlt : k < M - 1
    · have hnx := mod_next (x := par M T + k) (M := M) (by omega)
      have hdk : dat M T k = (par M T + k + 1) % M := by unfold dat; congr 1; omega
      have hql := Nat.mod_lt (par M T + k) (show 0 < M by omega)
      generalize hq : (par M T + k) % M = q at *
      have HQ := Lib.hid hq
      clear hq
      by_cases e : q + 1 = M
      · rw [if_pos e] at hnx
        have hq' : (0 : Int) = ((dat M T k : Nat) : Int) := by rw [hdk, hnx]; rfl
        have hnew : RdE IntE _ _ _ 1 _ := rdE_new (E := IntE) (l := [((dat M T k : Nat) : Int)]) wr #[.int .i64 0] 3 (by rw [← hq']; rfl)
        have HNX := Lib.hid hnx
        clear hnx hdk hq'
        have hmd' := hmd.below ((Below.refl wr.heap.size wr).alloc (Nat.le_refl _) (.cells #[.int .i64 0] 3))
        have K' := blk_past K (.cells #[.int .i64 0] 3)
        have hsz : b + 1 ≤ (wr.alloc (.cells #[.int .i64 0] 3)).heap.size := by rw [World.size_alloc]; have := blk_lt K; omega
        go_wp2_with (at_builtin; refine wpList_appE IntE rfl _ _ rfl (b + 1) _ 1 _ u8 _ _ _ rfl rfl hmd' hnew hsz ?c1 ?_)
        case c1 => rw [List.length_take, datR_len]; omega
        intro v6 w6 hm6 hg6
        have hb6 : Below (b + 1) (wr.alloc (.cells #[.int .i64 0] 3)) w6 := (Below.refl _ _).grown hg6 hsz hmd.lt_own
        have K6 := (hb6.block b (by omega)).trans K'
        have hB6 : Below B w w6 := (hbl.alloc (by have := HB0.out; omega) _).trans (hb6.mono (by have := HB0.out; omega))
        clear hnew hmd' K' hsz hg6 hb6 c0 c1 c2 hmd K hbl
        go_wp2
        go_roundw
        case rel =>
          refine ⟨k + 1, by omega, by go_num, ?_, ?_, K6, hB6⟩
          · rw [show par M T + (k + 1) = par M T + k + 1 from rfl, HNX.out]; rfl
          · rw [← datR_succ (by omega)]; exact hm6
        case measure => simp [intOf]; omega
      · rw [if_neg e] at hnx
        have hq' : (q : Int) + 1 = ((dat M T k : Nat) : Int) := by rw [hdk, hnx]; rfl
        have hnew : RdE IntE _ _ _ 1 _ := rdE_new (E := IntE) (l := [((dat M T k : Nat) : Int)]) wr #[.int .i64 ((q : Int) + 1)] 3 (by rw [hq']; rfl)
        have HNX := Lib.hid hnx
        clear hnx hdk hq'
        have hmd' := hmd.below ((Below.refl wr.heap.size wr).alloc (Nat.le_refl _) (.cells #[.int .i64 ((q : Int) + 1)] 3))
        have K' := blk_past K (.cells #[.int .i64 ((q : Int) + 1)] 3)
        have hsz : b + 1 ≤ (wr.alloc (.cells #[.int .i64 ((q : Int) + 1)] 3)).heap.size := by rw [World.size_alloc]; have := blk_lt K; omega
        go_wp2_with (at_builtin; refine wpList_appE IntE rfl _ _ rfl (b + 1) _ 1 _ u8 _ _ _ rfl rfl hmd' hnew hsz ?c1 ?_)
        case c1 => rw [List.length_take, datR_len]; omega
        intro v6 w6 hm6 hg6
        have hb6 : Below (b + 1) (wr.alloc (.cells #[.int .i64 ((q : Int) + 1)] 3)) w6 := (Below.refl _ _).grown hg6 hsz hmd.lt_own
        have K6 := (hb6.block b (by omega)).trans K'
        have hB6 : Below B w w6 := (hbl.alloc (by have := HB0.out; omega) _).trans (hb6.mono (by have := HB0.out; omega))
        clear hnew hmd' K' hsz hg6 hb6 c0 c1 c2 hmd K hbl
        go_wp2
        go_roundw
        case rel =>
          refine ⟨k + 1, by omega, by go_num, ?_, ?_, K6, hB6⟩
          · rw [show par M T + (k + 1) = par M T + k + 1 from rfl, HNX.out]; rfl
          · rw [← datR_succ (by omega)]; exact hm6
        case measure => simp [intOf]; omega
    · have hkn : k = M - 1 := by omega
      subst hkn
      go_wp2
      go_ret2
      refine ⟨_, rfl, ?_, hbl⟩
      rw [List.take_of_length_le (by rw [datR_len]; omega)] at hmd
      exact hmd.base (by have := HB0.out; omega)
end Go.Proofs.Ythephlgdjbdaoaa
