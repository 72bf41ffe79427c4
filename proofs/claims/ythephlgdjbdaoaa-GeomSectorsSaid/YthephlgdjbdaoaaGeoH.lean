/-
  The reference's At.
-/
import Derived.Test.YthephlgdjbdaoaaGeoG
namespace Go.Proofs.Ythephlgdjbdaoaa
open Go.RowKit
set_option linter.unusedVariables false

theorem RdE.place {w : World} {B n : Nat} {A : Option Addr} {l : List (Nat × Nat)} (h : RdE PlaceE w B A n l) {k : Nat} (hk : k < n) : ∃ b off, A = some ⟨b, off, none⟩ ∧ b < B ∧ w.cell? ⟨b, off + k * 2, none⟩ = some (.int .i64 ((l.getD k (0, 0)).1 : Int)) ∧ w.cell? ⟨b, off + k * 2 + 1, none⟩ = some (.int .i64 ((l.getD k (0, 0)).2 : Int)) := by
  obtain ⟨b, off, e, hb, hc⟩ := h.2 k hk
  refine ⟨b, off, e, hb, ?_, ?_⟩
  · exact hc 0 (.int .i64 ((l.getD k (0, 0)).1 : Int)) rfl
  · exact hc 1 (.int .i64 ((l.getD k (0, 0)).2 : Int)) rfl
theorem at_ref_no (m s r n : Int) (w : World) (h : may m s r = false) : Calls Try.prog 18 #[geoV m s r, .int .i64 n] w fun e w' => e = .returned (atV m s r n) ∧ Below w.heap.size w w' := by
  rw [atV_no n h]
  have H := Lib.hid h
  clear h
  unfold geoV
  go_enter Try.func18, Try.ntmps18
  go_wp2_with fail
  refine (may_ref m s r _).mono ?_
  rintro e w1 ⟨rfl, hb1⟩
  rw [H.out]
  obtain ⟨K0, K1, hs, HB⟩ := behind_gp hb1 (new1 ..) (new2 ..)
  obtain ⟨p0, p1, f0, f1⟩ := cells2 K1.out
  clear hb1
  go_wp2
  refine bodyPost_ret (res_pl (b := w.heap.size + 1) (x := 0) (y := 0) rfl rfl rfl (by go_simp) (by go_simp)) rfl ⟨rfl, ?_⟩
  exact (HB.out.setCell (by simp) _).setCell (by simp) _
set_option maxHeartbeats 1000000 in
theorem at_ref_may (M S : Nat) (n r : Int) (w : World) (h : may M S r = true) : Calls Try.prog 18 #[geoV M S r, .int .i64 n] w fun e w' => e = .returned (atV M S r n) ∧ Below w.heap.size w w' := by
  have hm := may_iff.1 h
  have hlen := allR_len M S
  have hle : S * (M - 1) ≤ 960 := by have := Nat.mul_le_mul (show S ≤ 64 by omega) (show M - 1 ≤ 15 by omega); omega
  have hcnt := cntN_in h
  have H := Lib.hid h
  have HLEN := Lib.hid hlen
  cases h' : inB M S r n
  · rw [atV_out h h']
    have hn := inB_not.1 h'
    rw [hcnt] at hn
    clear h h' hcnt hlen
    generalize S * (M - 1) = N at *
    unfold geoV
    by_cases h0 : n < 0
    all_goals
      go_enter Try.func18, Try.ntmps18
      go_wp2_with fail
      refine (may_ref M S r _).mono ?_
      rintro e w1 ⟨rfl, hb1⟩
      rw [H.out]
      obtain ⟨K0, K1, hs, HB⟩ := behind_gp hb1 (new1 ..) (new2 ..)
      obtain ⟨c0, c1, c2⟩ := cells3 K0.out
      clear hb1
      go_wp2_with fail
      refine (all_in M S _ r w1 (Lib.hid rfl) H.out).mono ?_
      rintro e w2 ⟨v, rfl, hmd, hb2⟩
      obtain ⟨p0, p1, f0, f1⟩ := cells2 (blk_keep K1.out hb2)
      have HB2 := Lib.hid (HB.out.trans (hb2.mono HB.out.size))
      obtain ⟨A, c, rfl, hrd, hc1, hc2⟩ := hmd.open_ HLEN.out
      clear hb2 c0 c1 c2 K0 K1 HB hmd hrd
      go_wp2_with fail
      refine bodyPost_ret (res_pl (b := w.heap.size + 1) (x := 0) (y := 0) rfl rfl rfl (by go_simp) (by go_simp)) rfl ⟨rfl, ?_⟩
      exact (HB2.out.setCell (by simp) _).setCell (by simp) _
  · obtain ⟨k, rfl⟩ := nat_block h'
    rw [atV_in h h']
    have hn := inB_iff.1 h'
    rw [hcnt] at hn
    have hlt : k < S * (M - 1) := by omega
    have hq : k / (M - 1) < S := Nat.div_lt_of_lt_mul (by rw [Nat.mul_comm]; exact hlt)
    have hr : k % (M - 1) < M - 1 := Nat.mod_lt _ (by omega)
    have hat := allR_at (M := M) (S := S) hq hr
    rw [Nat.div_add_mod' k (M - 1)] at hat
    have hnc : (k : Int) < ((S * (M - 1) : Nat) : Int) := by omega
    clear h h' hcnt hlen hn
    generalize k / (M - 1) = q at *
    generalize k % (M - 1) = d at *
    generalize S * (M - 1) = N at *
    have HAT := Lib.hid (show (allR M S).getD k (0, 0) = (q, dat M q d) by rw [List.getD, hat]; rfl)
    clear hat
    unfold geoV
    go_enter Try.func18, Try.ntmps18
    go_wp2_with fail
    refine (may_ref M S r _).mono ?_
    rintro e w1 ⟨rfl, hb1⟩
    rw [H.out]
    obtain ⟨K0, K1, hs, HB⟩ := behind_gp hb1 (new1 ..) (new2 ..)
    obtain ⟨c0, c1, c2⟩ := cells3 K0.out
    clear hb1
    go_wp2_with fail
    refine (all_in M S _ r w1 (Lib.hid rfl) H.out).mono ?_
    rintro e w2 ⟨v, rfl, hmd, hb2⟩
    obtain ⟨p0, p1, f0, f1⟩ := cells2 (blk_keep K1.out hb2)
    have HB2 := Lib.hid (HB.out.trans (hb2.mono HB.out.size))
    obtain ⟨A, c, rfl, hrd, hc1, hc2⟩ := hmd.open_ HLEN.out
    obtain ⟨bA, oA, rfl, hA, cA0, cA1⟩ := hrd.place hlt
    rw [HAT.out] at cA0 cA1
    clear hb2 c0 c1 c2 K0 K1 HB hmd hrd
    go_wp2_with fail
    refine bodyPost_ret (res_pl (b := w.heap.size + 1) (x := q) (y := dat M q d) rfl rfl rfl (by go_simp) (by go_simp)) rfl ⟨rfl, ?_⟩
    exact (HB2.out.setCell (by simp) _).setCell (by simp) _
theorem at_ref (m s r n : Int) (w : World) : Calls Try.prog 18 #[geoV m s r, .int .i64 n] w fun e w' => e = .returned (atV m s r n) ∧ Below w.heap.size w w' := by
  cases h : may m s r
  · exact at_ref_no m s r n w h
  · obtain ⟨M, S, rfl, rfl, _⟩ := nat_geo h
    exact at_ref_may M S n r w h
end Go.Proofs.Ythephlgdjbdaoaa
