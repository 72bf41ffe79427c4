/-
  The reference's Block.
-/
import Derived.Test.YthephlgdjbdaoaaGeoH
namespace Go.Proofs.Ythephlgdjbdaoaa
open Go.RowKit
set_option linter.unusedVariables false

section
variable {M S T k i : Nat}
theorem allR_get (h3 : 3 ≤ M) (hi : i < S * (M - 1)) : (allR M S).getD i (0, 0) = (i / (M - 1), dat M (i / (M - 1)) (i % (M - 1))) := by
  have hq : i / (M - 1) < S := Nat.div_lt_of_lt_mul (by rw [Nat.mul_comm]; exact hi)
  have hr : i % (M - 1) < M - 1 := Nat.mod_lt _ (by omega)
  have hat := allR_at (M := M) (S := S) hq hr
  rw [Nat.div_add_mod' i (M - 1)] at hat
  rw [List.getD, hat]
  rfl
theorem blk_is (h3 : 3 ≤ M) (hi : i < S * (M - 1)) (h : (allR M S).getD i (0, 0) = (T, k)) : k ≠ par M T ∧ i = T * (M - 1) + nth M T k := by
  rw [allR_get h3 hi, Prod.mk.injEq] at h
  obtain ⟨rfl, rfl⟩ := h
  have hr : i % (M - 1) < M - 1 := Nat.mod_lt _ (by omega)
  refine ⟨dat_ne h3 hr, ?_⟩
  rw [nth_dat h3 hr, Nat.div_add_mod']
theorem blk_none (h3 : 3 ≤ M) (hT : T < S) (hk : k < M) (h : ∀ j, j < S * (M - 1) → (allR M S).getD j (0, 0) ≠ (T, k)) : k = par M T := by
  by_cases e : k = par M T
  · exact e
  · obtain ⟨h1, h2⟩ := dat_nth (T := T) h3 hk e
    have := allR_at (M := M) (S := S) hT h1
    refine absurd ?_ (h (T * (M - 1) + nth M T k) ?_)
    · rw [List.getD, this, h2]; rfl
    · have := Nat.mul_le_mul_right (M - 1) (show T + 1 ≤ S by omega)
      rw [Nat.add_mul] at this
      omega
end
theorem bref_no (m s r t k : Int) (w : World) (h : may m s r = false) : Calls Try.prog 20 #[geoV m s r, placeV t k] w fun e w' => e = .returned (blV m s r t k) ∧ Below w.heap.size w w' := by
  rw [blV_no t k h]
  have H := Lib.hid h
  clear h
  unfold geoV placeV
  go_enter Try.func20, Try.ntmps20
  go_wp2_with fail
  refine (may_ref m s r _).mono ?_
  rintro e w1 ⟨rfl, hb1⟩
  rw [H.out]
  obtain ⟨K0, K1, hs, HB⟩ := behind_gp hb1 (new1 ..) (new2 ..)
  clear hb1
  go_wp2
  go_ret2
  exact ⟨rfl, HB.out⟩
set_option maxHeartbeats 1000000 in
theorem bref_out (m s r t k : Int) (w : World) (h : may m s r = true) (h' : inP m s t k = false) : Calls Try.prog 20 #[geoV m s r, placeV t k] w fun e w' => e = .returned (blV m s r t k) ∧ Below w.heap.size w w' := by
  rw [blV_out h h']
  have hn := inP_not.1 h'
  have H := Lib.hid h
  clear h h'
  have h4 : (t < 0) ∨ (0 ≤ t ∧ s ≤ t) ∨ (0 ≤ t ∧ t < s ∧ k < 0) ∨ (0 ≤ t ∧ t < s ∧ 0 ≤ k ∧ m ≤ k) := by omega
  clear hn
  unfold geoV placeV
  rcases h4 with h1 | ⟨h1, h2⟩ | ⟨h1, h2, h3⟩ | ⟨h1, h2, h3, h4⟩
  all_goals
    go_enter Try.func20, Try.ntmps20
    go_wp2_with fail
    refine (may_ref m s r _).mono ?_
    rintro e w1 ⟨rfl, hb1⟩
    rw [H.out]
    obtain ⟨K0, K1, hs, HB⟩ := behind_gp hb1 (new1 ..) (new2 ..)
    obtain ⟨c0, c1, c2⟩ := cells3 K0.out
    obtain ⟨p0, p1, f0, f1⟩ := cells2 K1.out
    clear hb1
    go_wp2
    go_ret2
    exact ⟨rfl, HB.out⟩
set_option maxHeartbeats 1000000 in
theorem bref_in (M S T k : Nat) (r : Int) (w : World) (h : may M S r = true) (h' : inP M S T k = true) : Calls Try.prog 20 #[geoV M S r, placeV T k] w fun e w' => e = .returned (blV M S r T k) ∧ Below w.heap.size w w' := by
  have hn := inP_iff.1 h'
  have hm := may_iff.1 h
  have hle : S * (M - 1) ≤ 960 := by have := Nat.mul_le_mul (show S ≤ 64 by omega) (show M - 1 ≤ 15 by omega); omega
  have HLEN := Lib.hid (allR_len M S)
  have HIS := Lib.hid (fun (i : Nat) (hi : i < S * (M - 1)) (e : (allR M S).getD i (0, 0) = (T, k)) => (show blV M S r T k = .tuple #[.int .i64 (i : Int), .int .i64 0] by
    obtain ⟨h1, h2⟩ := blk_is (by omega) hi e
    rw [blV_in h h' h1, ← h2]))
  have HNO := Lib.hid (fun (e : ∀ j, j < S * (M - 1) → (allR M S).getD j (0, 0) ≠ (T, k)) => blV_par h h' (blk_none (by omega) (by omega) (by omega) e))
  have H := Lib.hid h
  clear h h'
  generalize S * (M - 1) = N at *
  unfold geoV placeV
  go_enter Try.func20, Try.ntmps20
  go_wp2_with fail
  refine (may_ref M S r _).mono ?_
  rintro e w1 ⟨rfl, hb1⟩
  rw [H.out]
  obtain ⟨K0, K1, hs, HB⟩ := behind_gp hb1 (new1 ..) (new2 ..)
  obtain ⟨c0, c1, c2⟩ := cells3 K0.out
  obtain ⟨p0, p1, f0, f1⟩ := cells2 K1.out
  clear hb1
  go_wp2_with fail
  refine (all_in M S _ r w1 (Lib.hid rfl) H.out).mono ?_
  rintro e w2 ⟨v, rfl, hmd, hb2⟩
  have K12 := Lib.hid (blk_keep K1.out hb2)
  have HB2 := Lib.hid (HB.out.trans (hb2.mono HB.out.size))
  obtain ⟨A, c, rfl, hrd, hc1, hc2⟩ := hmd.open_ HLEN.out
  clear hb2 c0 c1 c2 p0 p1 f0 f1 K0 K1 HB hmd
  have hs2 : w.heap.size < w2.heap.size := by have := blk_lt K12.out; omega
  have HRD := Lib.hid hrd
  clear hrd hs
  go_wp2_with fail
  go_loopw [7] (fun i wr => ∃ j : Nat, j ≤ N ∧ i = .int .i64 j ∧ (∀ x, x < j → (allR M S).getD x (0, 0) ≠ (T, k)) ∧ Below w2.heap.size w2 wr) (fun i _ => N - (intOf i).toNat)
  case atStart => exact ⟨0, Nat.zero_le _, rfl, fun x hx => absurd hx (by omega), Below.refl _ _⟩
  case round =>
    obtain ⟨j, hj, rfl, hno, hbl⟩ := hrel
    have HN := Lib.hid hno
    clear hno
    by_cases hlt : j < N
    · obtain ⟨bA, oA, hA, hA', cA0, cA1⟩ := (HRD.out.below hbl).place hlt
      obtain ⟨p0, p1, f0, f1⟩ := cells2 (blk_keep2 K12.out (blk_lt K12.out) hbl)
      subst hA
      by_cases e : (allR M S).getD j (0, 0) = (T, k)
      · rw [e] at cA0 cA1
        have HV := Lib.hid (HIS.out j hlt e)
        clear e
        go_wp2
        go_quiet (fail)
        go_wp2
        go_ret2
        rw [HV.out]
        exact ⟨rfl, bdn (HB2.out.trans (hbl.mono HB2.out.size)) _⟩
      · generalize hp : (allR M S).getD j (0, 0) = p at *
        obtain ⟨a, b⟩ := p
        have HP := Lib.hid hp
        clear hp
        have hor : a ≠ T ∨ (a = T ∧ b ≠ k) := by
          by_cases ha : a = T
          · exact .inr ⟨ha, fun hb => e (by rw [ha, hb])⟩
          · exact .inl ha
        have HE := Lib.hid e
        clear e
        have hnx : ∀ x, x < j + 1 → (allR M S).getD x (0, 0) ≠ (T, k) := by
          intro x hx
          by_cases e : x = j
          · subst e; rw [HP.out]; exact HE.out
          · exact HN.out x (by omega)
        have HNX := Lib.hid hnx
        clear hnx
        rcases hor with ha | ⟨rfl, hb⟩
        · go_wp2
          go_quiet (fail)
          go_wp2
          go_roundw
          case rel => exact ⟨j + 1, by omega, by go_num, HNX.out, bdn hbl _⟩
          case measure => simp [intOf]; omega
        · have hbk : ((b : Int) == (k : Int)) = false := by simp; omega
          have hbk2 : (b : Int) ≠ (k : Int) := by omega
          go_wp2
          go_quiet (fail)
          go_wp2
          go_roundw
          case rel => exact ⟨j + 1, by omega, by go_num, HNX.out, bdn hbl _⟩
          case measure => simp [intOf]; omega
    · have hjn : j = N := by omega
      subst hjn
      go_wp2
      go_ret2
      rw [HNO.out fun x hx => HN.out x hx]
      exact ⟨rfl, HB2.out.trans (hbl.mono HB2.out.size)⟩
theorem block_ref (m s r t k : Int) (w : World) : Calls Try.prog 20 #[geoV m s r, placeV t k] w fun e w' => e = .returned (blV m s r t k) ∧ Below w.heap.size w w' := by
  cases h : may m s r
  · exact bref_no m s r t k w h
  · cases h' : inP m s t k
    · exact bref_out m s r t k w h h'
    · obtain ⟨M, S, rfl, rfl, _⟩ := nat_geo h
      have hn := inP_iff.1 h'
      obtain ⟨T, rfl⟩ := Int.eq_ofNat_of_zero_le hn.1
      obtain ⟨j, rfl⟩ := Int.eq_ofNat_of_zero_le hn.2.2.1
      exact bref_in M S T j r w h h'
end Go.Proofs.Ythephlgdjbdaoaa
