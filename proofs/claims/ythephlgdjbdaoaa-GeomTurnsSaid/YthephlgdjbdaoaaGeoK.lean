/-
  GeomBack's walk.
-/
import Derived.Test.YthephlgdjbdaoaaGeoJ
namespace Go.Proofs.Ythephlgdjbdaoaa
open Go.RowKit
set_option linter.unusedVariables false

theorem may_geo {M S : Nat} (h3 : 3 ≤ M) (h16 : M ≤ 16) (h1 : 1 ≤ S) (h64 : S ≤ 64) : may M S 40 = true := may_iff.2 (by omega)
/-- A geometry that the laws make. -/
theorem geo_nat (a b : Nat) : ∃ M S : Nat, 3 + a % 14 = M ∧ 1 + b % 64 = S ∧ 3 ≤ M ∧ M ≤ 16 ∧ 1 ≤ S ∧ S ≤ 64 := ⟨_, _, rfl, rfl, by omega, by omega, by omega, by omega⟩
theorem at_block {M S i : Nat} {r : Int} (h : may M S r = true) (hi : i < S * (M - 1)) : ∃ q m : Nat, atV M S r i = .tuple #[.agg #[.int .i64 (q : Int), .int .i64 (m : Int)], .int .i64 0] ∧ blV M S r q m = .tuple #[.int .i64 (i : Int), .int .i64 0] ∧ m < M := by
  have hm := may_iff.1 h
  have hq : i / (M - 1) < S := Nat.div_lt_of_lt_mul (by rw [Nat.mul_comm]; exact hi)
  have hr : i % (M - 1) < M - 1 := Nat.mod_lt _ (by omega)
  have hd := dat_lt (i / (M - 1)) (i % (M - 1)) (M := M) (by omega)
  refine ⟨i / (M - 1), dat M (i / (M - 1)) (i % (M - 1)), atV_in h (inB_iff.2 (by rw [cntN_in h]; omega)), ?_, hd⟩
  have hin : inP M S ((i / (M - 1) : Nat) : Int) ((dat M (i / (M - 1)) (i % (M - 1)) : Nat) : Int) = true := by
    refine inP_iff.2 ?_
    generalize dat M (i / (M - 1)) (i % (M - 1)) = x at *
    generalize i / (M - 1) = q at *
    omega
  rw [blV_in h hin (dat_ne (by omega) hr), nth_dat (by omega) hr, Nat.div_add_mod']
theorem block_at {M S T k : Nat} {r : Int} (h : may M S r = true) (hT : T < S) (hk : k < M) : (k = par M T ∧ blV M S r T k = .tuple #[.int .i64 0, .int .i64 7]) ∨ (k ≠ par M T ∧ ∃ I : Nat, blV M S r T k = .tuple #[.int .i64 (I : Int), .int .i64 0] ∧ I / (M - 1) = T ∧ I < 1000000) := by
  have hm := may_iff.1 h
  have hp := inP_iff.2 (show 0 ≤ (T : Int) ∧ (T : Int) < S ∧ 0 ≤ (k : Int) ∧ (k : Int) < M by omega)
  by_cases e : k = par M T
  · exact .inl ⟨e, blV_par h hp e⟩
  · obtain ⟨h1, _⟩ := dat_nth (T := T) (by omega) hk e
    refine .inr ⟨e, _, blV_in h hp e, ?_, ?_⟩
    · rw [Nat.mul_comm, Nat.mul_add_div (by omega), Nat.div_eq_of_lt h1]; rfl
    · have := Nat.mul_le_mul (show T ≤ 64 by omega) (show M - 1 ≤ 15 by omega); omega
/-- How many parities so far. -/
def cnt (p k : Nat) : Nat := if p < k then 1 else 0
theorem cnt_hit {p k : Nat} (h : k = p) : cnt p k = 0 ∧ cnt p (k + 1) = 1 := by unfold cnt; subst h; simp
theorem cnt_miss {p k : Nat} (h : k ≠ p) : cnt p (k + 1) = cnt p k := by
  unfold cnt
  by_cases h1 : p < k
  · rw [if_pos h1, if_pos (by omega)]
  · rw [if_neg h1, if_neg (by omega)]
set_option maxRecDepth 100000 in
set_option maxHeartbeats 4000000 in
theorem back_walk (a b : Nat) (w : World) (ha : a < 256) (hb : b < 256) : Calls Try.prog 4 #[.int .u8 a, .int .u8 b] w fun e w' => e = .returned (.bool true) ∧ Below w.heap.size w w' := by
  obtain ⟨M, S, hM, hS, h3, h16, h1, h64⟩ := geo_nat a b
  have hmay := may_geo h3 h16 h1 h64
  have HMAY := Lib.hid hmay
  have HM := Lib.hid hM
  have HS := Lib.hid hS
  have HC := Lib.hid (cntN_in hmay)
  have hmul := mul_nat (M := M) (S := S) h3 h16 h64
  have hlt : (M : Int) - 1 = ((M - 1 : Nat) : Int) := by omega
  have hle : S * (M - 1) ≤ 960 := by have := Nat.mul_le_mul h64 (show M - 1 ≤ 15 by omega); omega
  clear hmay hM hS
  go_enter Try.func4, Try.ntmps4
  go_wp2_with fail
  refine (geo_ok a b w ha hb).mono ?_
  rintro e w1 ⟨rfl, hb1⟩
  rw [HM.out, HS.out]
  unfold geoV
  have K1 := new1 w1 #[.int .i64 M, .int .i64 S, .int .i64 40] 23
  have B1 := Lib.hid (hb1.alloc hb1.size (.cells #[.int .i64 M, .int .i64 S, .int .i64 40] 23))
  obtain ⟨c0, c1, c2⟩ := cells3 K1
  clear hb1
  go_wp2_with fail
  generalize hg : w1.heap.size = g at *
  generalize w1.alloc (.cells #[.int .i64 M, .int .i64 S, .int .i64 40] 23) = w2 at *
  clear hg
  refine (blocks_prog M S 40 w2).mono ?_
  rintro e w3 ⟨rfl, hb3⟩
  rw [HC.out]
  have K3 := blk_keep K1 hb3
  have B3 := Lib.hid (B1.out.trans (hb3.mono B1.out.size))
  clear hb3 c0 c1 c2 K1 B1
  obtain ⟨c0, c1, c2⟩ := cells3 K3
  have HAT := Lib.hid (fun (i : Nat) (hi : i < S * (M - 1)) => at_block HMAY.out hi)
  have HBA := Lib.hid (fun (t k : Nat) (ht : t < S) (hk : k < M) => block_at (r := 40) HMAY.out ht hk)
  have HPA := Lib.hid (fun (t : Nat) (ht : t < S) => (show parN M S 40 t = ((par M t : Nat) : Int) ∧ parE M S 40 t = 0 from ⟨parN_in HMAY.out (has_iff.2 (by omega)), parE_in HMAY.out (has_iff.2 (by omega))⟩))
  have hNe : (S : Int) * ((M - 1 : Nat) : Int) = ((S * (M - 1) : Nat) : Int) := (Int.natCast_mul _ _).symm
  generalize hN : S * (M - 1) = N at *
  generalize hW : M - 1 = W at *
  clear hN HC HM HS
  go_wp2_with fail
  clear hmul hNe
  have hg3 : g < w3.heap.size := blk_lt K3
  go_loopw [7, 8, 9, 10, 11] (fun i p8 p9 p10 p11 wr => ∃ k : Nat, k ≤ N ∧ i = .int .i64 k ∧ Below w3.heap.size w3 wr) (fun i _ _ _ _ _ => N - (intOf i).toNat)
  case atStart => exact ⟨0, Nat.zero_le _, rfl, Below.refl _ _⟩
  case round =>
    clear c0 c1 c2
    obtain ⟨k, hk, rfl, hbl⟩ := hrel
    by_cases hlt : k < N
    · obtain ⟨q, m, hat, hbk, hmm⟩ := HAT.out k hlt
      have HA := Lib.hid hat
      have HBK := Lib.hid hbk
      clear hat hbk
      have K4 := (hbl.block g hg3).trans K3
      obtain ⟨c0, c1, c2⟩ := cells3 K4
      go_wp2_with fail
      refine (at_prog M S 40 k wr).mono ?_
      rintro e w5 ⟨rfl, hb5⟩
      rw [HA.out]
      have K5 := Lib.hid (blk_past (blk_keep K4 hb5) (.cells #[.int .i64 (q : Int), .int .i64 (m : Int)] 25))
      have X5 := Lib.hid (new1 w5 #[.int .i64 (q : Int), .int .i64 (m : Int)] 25)
      have B5 := Lib.hid ((hbl.trans (hb5.mono hbl.size)).alloc (Nat.le_trans hbl.size hb5.size) (.cells #[.int .i64 (q : Int), .int .i64 (m : Int)] 25))
      clear hb5 c0 c1 c2 K4 hbl
      obtain ⟨c0, c1, c2⟩ := cells3 K5.out
      obtain ⟨x0, x1, -, -⟩ := cells2 X5.out
      go_wp2_with fail
      refine (block_prog M S 40 q m _).mono ?_
      rintro e w6 ⟨rfl, hb6⟩
      rw [HBK.out]
      have B6 := Lib.hid (B5.out.trans (hb6.mono B5.out.size))
      clear hb6 c0 c1 c2 x0 x1 K5 X5 B5
      go_wp2_with fail
      go_roundw
      case rel => exact ⟨k + 1, by omega, by go_num, B6.out⟩
      case measure => simp [intOf]; omega
    · have hkn : k = N := by omega
      subst hkn
      obtain ⟨wA, rfl⟩ : ∃ x, x = wr := ⟨_, rfl⟩
      have K4 := (hbl.block g hg3).trans K3
      have B4 := Lib.hid (B3.out.trans (hbl.mono B3.out.size))
      obtain ⟨c0, c1, c2⟩ := cells3 K4
      clear K3 B3 hbl HAT
      go_wp2_with fail
      have hgr : g < wA.heap.size := blk_lt K4
      clear c0 c1 c2
      go_loopw [12, 13, 14, 15, 16, 17, 18] (fun i p13 p14 p15 p16 p17 p18 wq => ∃ t : Nat, t ≤ S ∧ i = .int .i64 t ∧ Below wA.heap.size wA wq) (fun i _ _ _ _ _ _ _ => S - (intOf i).toNat)
      case atStart => exact ⟨0, Nat.zero_le _, rfl, Below.refl _ _⟩
      case round =>
        obtain ⟨t, ht, rfl, hbl⟩ := hrel
        by_cases hlt : t < S
        · obtain ⟨wB, rfl⟩ : ∃ x, x = wr := ⟨_, rfl⟩
          have K5 := (hbl.block g hgr).trans K4
          obtain ⟨c0, c1, c2⟩ := cells3 K5
          obtain ⟨hp0, hp1⟩ := HPA.out t hlt
          have HP0 := Lib.hid hp0
          have HP1 := Lib.hid hp1
          clear hp0 hp1
          go_wp2_with fail
          clear c0 c1 c2
          have hgq : g < wB.heap.size := blk_lt K5
          go_loopw [13, 14, 15, 16, 17, 18] (fun c i p15 p16 p17 p18 wz => ∃ k : Nat, k ≤ M ∧ i = .int .i64 k ∧ c = .int .i64 ((cnt (par M t) k : Nat) : Int) ∧ Below wB.heap.size wB wz) (fun _ i _ _ _ _ _ => M - (intOf i).toNat)
          case atStart => exact ⟨0, Nat.zero_le _, rfl, rfl, Below.refl _ _⟩
          case round =>
            obtain ⟨k, hk, rfl, rfl, hbz⟩ := hrel
            have K6 := (hbz.block g hgq).trans K5
            obtain ⟨c0, c1, c2⟩ := cells3 K6
            by_cases hkm : k < M
            · have HBK := Lib.hid (HBA.out t k hlt hkm)
              go_wp2_with fail
              refine (block_prog M S 40 t k _).mono ?_
              rintro e w7 ⟨rfl, hb7⟩
              have K7 := Lib.hid (blk_keep K6 hb7)
              have B7 := Lib.hid (hbz.trans (hb7.mono hbz.size))
              clear hb7 c0 c1 c2 K6 hbz
              obtain ⟨c0, c1, c2⟩ := cells3 K7.out
              rcases HBK.out with ⟨e, hv⟩ | ⟨e, I, hv, hI, hI6⟩
              · rw [hv]
                have HCN := Lib.hid (cnt_hit e)
                rw [HCN.out.1]
                go_wp2_with fail
                refine (parity_prog M S 40 t _).mono ?_
                rintro e w8 ⟨rfl, hb8⟩
                rw [HP0.out, HP1.out]
                obtain ⟨d0, d1, d2⟩ := cells3 (blk_keep K7.out hb8)
                have B8 := Lib.hid (B7.out.trans (hb8.mono B7.out.size))
                clear hb8 c0 c1 c2 hv
                generalize hpp : par M t = P at *
                subst e
                go_wp2_with fail
                go_roundw
                case rel => exact ⟨k + 1, by omega, by go_num, by rw [hpp, HCN.out.2]; rfl, B8.out⟩
                case measure => simp [intOf]; omega
              · rw [hv]
                go_wp2_with fail
                refine (parity_prog M S 40 t _).mono ?_
                rintro e w8 ⟨rfl, hb8⟩
                rw [HP0.out, HP1.out]
                obtain ⟨d0, d1, d2⟩ := cells3 (blk_keep K7.out hb8)
                have B8 := Lib.hid (B7.out.trans (hb8.mono B7.out.size))
                clear hb8 c0 c1 c2 hv
                have HCN := Lib.hid (cnt_miss e)
                have hquo : (I : Int) / (W : Int) = (t : Int) := by rw [← hI]; rfl
                generalize hpp : par M t = P at *
                have hpk : ((P : Nat) : Int) ≠ (k : Int) := by omega
                go_wp2_with fail
                go_roundw
                case rel => exact ⟨k + 1, by omega, by go_num, by rw [hpp, HCN.out], B8.out⟩
                case measure => simp [intOf]; omega
            · have hkn : k = M := by omega
              have hc1 : cnt (par M t) k = 1 := by unfold cnt; rw [if_pos (by rw [hkn]; exact par_lt t h3)]
              have hkn' : ¬((k : Int) < (M : Int)) := by omega
              rw [hc1]
              have HBZ := Lib.hid (hbl.trans (hbz.mono hbl.size))
              clear hbz hc1 hkn
              go_wp2_with fail
              go_roundw
              case rel => exact ⟨t + 1, by omega, by go_num, HBZ.out⟩
              case measure => simp [intOf]; omega
        · have htn : t = S := by omega
          have K5 := (hbl.block g hgr).trans K4
          obtain ⟨c0, c1, c2⟩ := cells3 K5
          have B5 := Lib.hid (B4.out.trans (hbl.mono B4.out.size))
          clear hbl K4 K5
          go_wp2_with fail
          refine (lives_yes wr).mono ?_
          rintro e w9 ⟨rfl, hb9⟩
          go_wp2_with fail
          go_ret
          exact ⟨rfl, B5.out.trans (hb9.mono B5.out.size)⟩
end Go.Proofs.Ythephlgdjbdaoaa
