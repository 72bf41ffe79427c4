/-
  GeomTurns' walk.
-/
import Derived.Test.YthephlgdjbdaoaaGeoK
namespace Go.Proofs.Ythephlgdjbdaoaa
open Go.RowKit
set_option linter.unusedVariables false

theorem par_apart {M s t : Nat} (h3 : 3 ≤ M) (h : t < s) (h' : s < t + M) : par M t ≠ par M s := by
  intro e
  have h1 := Nat.mod_lt s (show 0 < M by omega)
  have h2 := Nat.mod_lt t (show 0 < M by omega)
  unfold par at e
  have e' : s % M = t % M := by omega
  have d1 := Nat.div_add_mod s M
  have d2 := Nat.div_add_mod t M
  rcases Nat.lt_trichotomy (s / M) (t / M) with hq | hq | hq
  · have := Nat.mul_le_mul_left M (show s / M + 1 ≤ t / M by omega)
    rw [Nat.mul_add] at this
    omega
  · rw [hq] at d1
    omega
  · have := Nat.mul_le_mul_left M (show t / M + 1 ≤ s / M by omega)
    rw [Nat.mul_add] at this
    omega
set_option maxRecDepth 100000 in
set_option maxHeartbeats 4000000 in
theorem turns_walk (a b f : Nat) (w : World) (ha : a < 256) (hb : b < 256) (hf : f < 256) : Calls Try.prog 5 #[.int .u8 a, .int .u8 b, .int .u8 f] w fun e w' => e = .returned (.bool true) ∧ Below w.heap.size w w' := by
  obtain ⟨M, S, hM, hS, h3, h16, h1, h64⟩ := geo_nat a b
  have HMAY := Lib.hid (may_geo h3 h16 h1 h64)
  have HM := Lib.hid hM
  have HS := Lib.hid hS
  have hne : (S : Int) ≠ 0 := by omega
  have hKS : f % S < S := Nat.mod_lt _ (by omega)
  clear hM hS
  go_enter Try.func5, Try.ntmps5
  go_wp2_with fail
  refine (geo_ok a b w ha hb).mono ?_
  rintro e w1 ⟨rfl, hb1⟩
  rw [HM.out, HS.out]
  unfold geoV
  have K1 := new1 w1 #[.int .i64 M, .int .i64 S, .int .i64 40] 23
  have B1 := Lib.hid (hb1.alloc hb1.size (.cells #[.int .i64 M, .int .i64 S, .int .i64 40] 23))
  obtain ⟨c0, c1, c2⟩ := cells3 K1
  clear hb1
  go_wp2_with fail
  generalize hg : w1.heap.size = g at *
  generalize w1.alloc (.cells #[.int .i64 M, .int .i64 S, .int .i64 40] 23) = w2 at *
  clear hg
  rw [show (f : Int) % (S : Int) = ((f % S : Nat) : Int) from rfl]
  generalize f % S = K at *
  have HPA := Lib.hid (fun (t : Nat) (ht : t < S) => (show parN M S 40 t = ((par M t : Nat) : Int) ∧ parE M S 40 t = 0 ∧ datL M S 40 t = datR M t from ⟨parN_in HMAY.out (has_iff.2 (by omega)), parE_in HMAY.out (has_iff.2 (by omega)), datL_in HMAY.out (has_iff.2 (by omega))⟩))
  have hg2 : g < w2.heap.size := blk_lt K1
  clear c0 c1 c2 HM HS hne
  go_loopw [9, 10, 11, 12, 13, 14, 15, 16, 17] (fun i p10 p11 p12 p13 p14 p15 p16 p17 wr => ∃ s : Nat, K ≤ s ∧ s ≤ S ∧ i = .int .i64 s ∧ Below w2.heap.size w2 wr) (fun i _ _ _ _ _ _ _ _ _ => S - (intOf i).toNat)
  case atStart => exact ⟨K, Nat.le_refl _, by omega, rfl, Below.refl _ _⟩
  case round =>
    obtain ⟨s, hKs, hsS, rfl, hbl⟩ := hrel
    obtain ⟨wA, rfl⟩ : ∃ x, x = wr := ⟨_, rfl⟩
    have K4 := (hbl.block g hg2).trans K1
    obtain ⟨c0, c1, c2⟩ := cells3 K4
    by_cases hlt : s < S ∧ s < K + M
    · obtain ⟨hlt, hsk⟩ := hlt
      obtain ⟨hp0, hp1, hp2⟩ := HPA.out s hlt
      have HP0 := Lib.hid hp0
      have HP1 := Lib.hid hp1
      have HP2 := Lib.hid hp2
      clear hp0 hp1 hp2
      go_wp2_with fail
      refine (parity_prog M S 40 s _).mono ?_
      rintro e w5 ⟨rfl, hb5⟩
      rw [HP0.out, HP1.out]
      have K5 := blk_keep K4 hb5
      have B5 := Lib.hid (hbl.trans (hb5.mono hbl.size))
      clear hb5 c0 c1 c2 K4 hbl
      obtain ⟨c0, c1, c2⟩ := cells3 K5
      go_wp2_with fail
      refine (data_prog M S 40 s _ w5 (Lib.hid rfl)).mono ?_
      rintro e w6 ⟨v, rfl, hv, hb6⟩
      rw [HP1.out]
      rw [HP2.out] at hv
      have K6 := blk_keep K5 hb6
      have B6 := Lib.hid (B5.out.trans (hb6.mono B5.out.size))
      clear hb6 c0 c1 c2 K5 B5
      obtain ⟨c0, c1, c2⟩ := cells3 K6
      have hML : ((M - 1 : Nat) : Int) = (M : Int) - 1 := by omega
      obtain ⟨A, c, rfl, hrd, hc1, hc2⟩ := hv.open_ (n := M - 1) (datR_len M s)
      have HRD := Lib.hid hrd
      clear hv hrd
      go_wp2_with fail
      have hg6 : g < w6.heap.size := blk_lt K6
      clear c0 c1 c2
      go_loopw [14, 15, 16] (fun i p15 p16 wr => ∃ t : Nat, K ≤ t ∧ t ≤ s ∧ i = .int .i64 t ∧ Below w6.heap.size w6 wr) (fun i _ _ _ => s - (intOf i).toNat)
      case atStart => exact ⟨K, Nat.le_refl _, hKs, rfl, Below.refl _ _⟩
      case round =>
        obtain ⟨t, hKt, hts, rfl, hbl⟩ := hrel
        obtain ⟨wB, rfl⟩ : ∃ x, x = wr := ⟨_, rfl⟩
        have K7 := (hbl.block g hg6).trans K6
        obtain ⟨c0, c1, c2⟩ := cells3 K7
        by_cases hlt2 : t < s
        · obtain ⟨hq0, hq1, -⟩ := HPA.out t (by omega)
          have HQ0 := Lib.hid hq0
          have HQ1 := Lib.hid hq1
          have hap := par_apart (M := M) h3 hlt2 (by omega)
          clear hq0 hq1
          go_wp2_with fail
          refine (parity_prog M S 40 t _).mono ?_
          rintro e w8 ⟨rfl, hb8⟩
          rw [HQ0.out, HQ1.out]
          have B8 := Lib.hid (hbl.trans (hb8.mono hbl.size))
          clear hb8 c0 c1 c2 K7 hbl HQ0 HQ1
          have hap' : ((par M t : Nat) : Int) ≠ ((par M s : Nat) : Int) := by omega
          clear hap
          generalize ((par M t : Nat) : Int) = q at *
          go_wp2_with fail
          go_roundw
          case rel => exact ⟨t + 1, by omega, by omega, by go_num, B8.out⟩
          case measure => simp [intOf]; omega
        · have hts' : t = s := by omega
          have B7 := Lib.hid (B6.out.trans (hbl.mono B6.out.size))
          have HRD7 := Lib.hid (HRD.out.below hbl)
          have hg7 : g < wB.heap.size := blk_lt K7
          have hs67 : w6.heap.size ≤ wB.heap.size := hbl.size
          clear c0 c1 c2 hbl K6 HRD B6
          go_wp2_with fail
          go_loopw [17] (fun i wr => ∃ j : Nat, j ≤ M - 1 ∧ i = .int .i64 j ∧ Below wB.heap.size wB wr) (fun i _ => M - (intOf i).toNat)
          case atStart => exact ⟨0, Nat.zero_le _, rfl, Below.refl _ _⟩
          case round =>
            obtain ⟨j, hj, rfl, hbl⟩ := hrel
            have K8 := (hbl.block g hg7).trans K7
            obtain ⟨c0, c1, c2⟩ := cells3 K8
            by_cases hlt3 : j < M - 1
            · obtain ⟨bA, oA, hA, hA', cA⟩ := (HRD7.out.below (hbl.mono (hs67))).int hlt3
              rw [datR_at hlt3] at cA
              have hdn : ((dat M s j : Nat) : Int) ≠ ((par M s : Nat) : Int) := by have := dat_ne (M := M) (T := s) h3 hlt3; omega
              have hdi := dat_int M s j
              have hpl := par_lt s h3
              have hMne : (M : Int) ≠ 0 := by omega
              have hjl : (j : Int) < ((M - 1 : Nat) : Int) := by omega
              have B8 := Lib.hid hbl
              subst hA
              generalize dat M s j = dd at *
              generalize par M s = pp at *
              have hgd : ((dd : Int) == (pp : Int)) = false := by simpa using hdn
              go_wp2_with fail
              go_quiet (fail)
              go_wp2_with fail
              go_roundw
              case rel => exact ⟨j + 1, by omega, by go_num, bdn B8.out _⟩
              case measure => simp [intOf]; omega
            · have hjn : ¬((j : Int) < ((M - 1 : Nat) : Int)) := by omega
              have B8 := Lib.hid (B7.out.trans (hbl.mono B7.out.size))
              clear hbl
              go_wp2_with fail
              go_roundw
              case rel => exact ⟨s + 1, by omega, by omega, by go_num, B8.out⟩
              case measure => simp [intOf]; omega
    · have B8 := Lib.hid (B1.out.trans (hbl.mono B1.out.size))
      clear hbl
      by_cases hs : s < S
      · have hsk : ¬ (s : Int) < (K : Int) + (M : Int) := by omega
        go_wp2_with fail
        refine (lives_yes _).mono ?_
        rintro e w9 ⟨rfl, hb9⟩
        go_wp2_with fail
        go_ret
        exact ⟨rfl, B8.out.trans (hb9.mono B8.out.size)⟩
      · go_wp2_with fail
        refine (lives_yes _).mono ?_
        rintro e w9 ⟨rfl, hb9⟩
        go_wp2_with fail
        go_ret
        exact ⟨rfl, B8.out.trans (hb9.mono B8.out.size)⟩
end Go.Proofs.Ythephlgdjbdaoaa
