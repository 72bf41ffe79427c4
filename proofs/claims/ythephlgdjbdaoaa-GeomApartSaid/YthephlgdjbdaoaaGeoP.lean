/-
  GeomApart's walk.
-/
import Derived.Test.YthephlgdjbdaoaaGeoN
namespace Go.Proofs.Ythephlgdjbdaoaa
open Go.RowKit
set_option linter.unusedVariables false

/-- Blocks go round: block i stands on the member that is left of it by the members. -/
theorem dat_round {M i : Nat} (h3 : 3 ≤ M) : dat M (i / (M - 1)) (i % (M - 1)) = i % M := by
  have hd : i % (M - 1) < M - 1 := Nat.mod_lt _ (by omega)
  have hi := Nat.div_add_mod i (M - 1)
  generalize i / (M - 1) = T at *
  generalize i % (M - 1) = d at *
  have hr := Nat.mod_lt T (show 0 < M by omega)
  have hT := Nat.div_add_mod T M
  rw [dat_eq h3 hd]
  unfold par
  generalize T / M = q at *
  generalize T % M = r at *
  obtain ⟨m, rfl⟩ : ∃ m, M = m + 1 := ⟨M - 1, by omega⟩
  simp only [Nat.add_sub_cancel] at *
  have e1 : (m + 1) * T = m * T + T := by rw [Nat.add_mul, Nat.one_mul]
  have hqT : q ≤ T := by
    have : 1 * q ≤ (m + 1) * q := Nat.mul_le_mul_right q (by omega)
    omega
  have e2 : (m + 1) * (T - q) = (m + 1) * T - (m + 1) * q := Nat.mul_sub _ _ _
  have e3 : (m + 1) * q ≤ (m + 1) * T := Nat.mul_le_mul_left _ hqT
  by_cases h : r ≤ d
  · have e : i = (m + 1) * (T - q) + (d - r) := by omega
    rw [e, Nat.mul_add_mod, Nat.mod_eq_of_lt (by omega)]
    split <;> omega
  · have hq1 : q + 1 ≤ T := by
      have : 1 * q ≤ (m + 1) * q := Nat.mul_le_mul_right q (by omega)
      omega
    have e4 : (m + 1) * (T - q - 1) = (m + 1) * (T - q) - (m + 1) := by rw [Nat.mul_sub, Nat.mul_one]
    have e5 : (m + 1) * 1 ≤ (m + 1) * (T - q) := Nat.mul_le_mul_left _ (by omega)
    have e : i = (m + 1) * (T - q - 1) + (m + 1 + d - r) := by omega
    rw [e, Nat.mul_add_mod, Nat.mod_eq_of_lt (by omega)]
    split <;> omega
theorem mod_apart {M s t : Nat} (h3 : 3 ≤ M) (h : t < s) (h' : s < t + M) : t % M ≠ s % M := by
  intro e
  refine par_apart h3 h h' ?_
  unfold par
  rw [e]
theorem at_round {M S i : Nat} {r : Int} (h : may M S r = true) (hi : i < S * (M - 1)) : ∃ q : Nat, atV M S r i = .tuple #[.agg #[.int .i64 (q : Int), .int .i64 ((i % M : Nat) : Int)], .int .i64 0] := by
  have hm := may_iff.1 h
  refine ⟨i / (M - 1), ?_⟩
  rw [← dat_round (M := M) (by omega)]
  exact atV_in h (inB_iff.2 (by rw [cntN_in h]; omega))
/-- The members of the blocks from K to ahead of i. -/
def mem (M K i : Nat) : List Int := (List.range (i - K)).map fun x => (((K + x) % M : Nat) : Int)
theorem mem_len (M K i : Nat) : (mem M K i).length = i - K := by simp [mem]
theorem mem_at {M K i x : Nat} (h : x < i - K) : (mem M K i).getD x 0 = (((K + x) % M : Nat) : Int) := by
  unfold mem
  simp [List.getD, List.getElem?_map, List.getElem?_range h]
theorem mem_succ {M K i : Nat} (h : K ≤ i) : mem M K i ++ [((i % M : Nat) : Int)] = mem M K (i + 1) := by
  unfold mem
  rw [show i + 1 - K = (i - K) + 1 from by omega, List.range_succ, List.map_append]
  congr 1
  simp only [List.map_cons, List.map_nil]
  rw [show K + (i - K) = i from by omega]
theorem mem_nil (M K : Nat) : mem M K K = [] := by simp [mem]
set_option maxRecDepth 100000 in
set_option maxHeartbeats 4000000 in
theorem apart_walk (a b f : Nat) (w : World) (ha : a < 256) (hb : b < 256) (hf : f < 65536) : Calls Try.prog 6 #[.int .u8 a, .int .u8 b, .int .u16 f] w fun e w' => e = .returned (.bool true) ∧ Below w.heap.size w w' := by
  obtain ⟨M, S, hM, hS, h3, h16, h1, h64⟩ := geo_nat a b
  have hmay := may_geo h3 h16 h1 h64
  have HMAY := Lib.hid hmay
  have HM := Lib.hid hM
  have HS := Lib.hid hS
  have HC := Lib.hid (cntN_in hmay)
  have hle : S * (M - 1) ≤ 960 := by have := Nat.mul_le_mul h64 (show M - 1 ≤ 15 by omega); omega
  have hge : 1 ≤ S * (M - 1) := Nat.mul_pos (by omega) (by omega)
  have HAT := Lib.hid (fun (i : Nat) (hi : i < S * (M - 1)) => at_round hmay hi)
  clear hmay hM hS
  generalize S * (M - 1) = N at *
  have hne : (N : Int) ≠ 0 := by omega
  have hn1 : ¬ (N : Int) < 1 := by omega
  have hKN : f % N < N := Nat.mod_lt _ (by omega)
  go_enter Try.func6, Try.ntmps6
  go_wp2_with fail
  refine (geo_ok a b w ha hb).mono ?_
  rintro e w1 ⟨rfl, hb1⟩
  rw [HM.out, HS.out]
  unfold geoV
  have K1 := new1 w1 #[.int .i64 M, .int .i64 S, .int .i64 40] 23
  have B1 := Lib.hid (hb1.alloc hb1.size (.cells #[.int .i64 M, .int .i64 S, .int .i64 40] 23))
  have hg1 : w.heap.size ≤ w1.heap.size := hb1.size
  obtain ⟨c0, c1, c2⟩ := cells3 K1
  clear hb1
  go_wp2_with fail
  generalize hg : w1.heap.size = g at *
  generalize w1.alloc (.cells #[.int .i64 M, .int .i64 S, .int .i64 40] 23) = w2 at *
  clear hg
  refine (blocks_prog M S 40 w2).mono ?_
  rintro e w3 ⟨rfl, hb3⟩
  rw [HC.out]
  have K3 := blk_keep K1 hb3
  have B3 := Lib.hid (B1.out.trans (hb3.mono B1.out.size))
  clear hb3 c0 c1 c2 K1 B1
  go_wp2_with fail
  rw [show (f : Int) % (N : Int) = ((f % N : Nat) : Int) from rfl]
  generalize f % N = K at *
  have hg3 : g < w3.heap.size := blk_lt K3
  clear HM HS hne hn1
  go_loopw [10, 11, 12, 13, 14] (fun v i p12 p13 p14 wr => ∃ j : Nat, K ≤ j ∧ j ≤ N ∧ j ≤ K + M ∧ i = .int .i64 j ∧ MadeE IntE wr (g + 1) v (mem M K j) ∧ wr.heap[g]? = some (.cells #[.int .i64 M, .int .i64 S, .int .i64 40] 23) ∧ Below w.heap.size w wr) (fun _ i _ _ _ _ => N - (intOf i).toNat)
  case atStart => exact ⟨K, Nat.le_refl _, by omega, by omega, rfl, by rw [mem_nil]; exact MadeE.nil _ _, K3, B3.out⟩
  case round =>
    clear K3 B3
    obtain ⟨i, hKi, hiN, hiM, rfl, hmd, K4, hbl⟩ := hrel
    obtain ⟨wA, rfl⟩ : ∃ x, x = wr := ⟨_, rfl⟩
    obtain ⟨c0, c1, c2⟩ := cells3 K4
    by_cases hlt : i < N ∧ i < K + M
    · obtain ⟨hlt, hlk⟩ := hlt
      obtain ⟨q, hat⟩ := HAT.out i hlt
      have HA := Lib.hid hat
      clear hat
      go_wp2_with fail
      refine (at_prog M S 40 i wA).mono ?_
      rintro e w5 ⟨rfl, hb5⟩
      rw [HA.out]
      generalize hmi : i % M = mi at *
      have HMI := Lib.hid hmi
      have K6 := blk_past (blk_keep K4 hb5) (.cells #[.int .i64 (q : Int), .int .i64 ((mi : Nat) : Int)] 25)
      have X6 := new1 w5 #[.int .i64 (q : Int), .int .i64 ((mi : Nat) : Int)] 25
      have hmd6 := (hmd.below hb5).below ((Below.refl _ _).alloc (Nat.le_refl _) (.cells #[.int .i64 (q : Int), .int .i64 ((mi : Nat) : Int)] 25))
      have hle5 : w.heap.size ≤ w5.heap.size := Nat.le_trans hbl.size hb5.size
      have B6 := Lib.hid ((hbl.trans (hb5.mono hbl.size)).alloc hle5 (.cells #[.int .i64 (q : Int), .int .i64 ((mi : Nat) : Int)] 25))
      have hL := mem_len M K i
      generalize hLL : i - K = L at *
      have HL := Lib.hid hL
      clear hmi hb5 c0 c1 c2 K4 hbl hmd hL hle5 HA
      obtain ⟨A, c, rfl, hrd, hc1, hc2⟩ := hmd6.open_ (n := L) HL.out
      go_wp2_with fail
      generalize hx : w5.heap.size = x at *
      generalize w5.alloc (.cells #[.int .i64 (q : Int), .int .i64 ((mi : Nat) : Int)] 25) = w6 at *
      clear hx
      have hg6 : g < w6.heap.size := blk_lt K6
      have hx6 : x < w6.heap.size := blk_lt X6
      have HRD := Lib.hid hrd
      clear hrd
      go_loopw [14] (fun v wr => ∃ j : Nat, j ≤ L ∧ v = .int .i64 j ∧ Below w6.heap.size w6 wr) (fun v _ => L - (intOf v).toNat)
      case atStart => exact ⟨0, Nat.zero_le _, rfl, Below.refl _ _⟩
      case round =>
        obtain ⟨j, hj, rfl, hbl⟩ := hrel
        obtain ⟨x0, x1, -, -⟩ := cells2 ((hbl.block x hx6).trans X6)
        by_cases hltj : j < L
        · obtain ⟨bA, oA, hA, hA', cA⟩ := (HRD.out.below hbl).int hltj
          rw [mem_at (by omega)] at cA
          have hap := mod_apart (M := M) (s := i) (t := K + j) h3 (by omega) (by omega)
          rw [HMI.out] at hap
          generalize (K + j) % M = z at *
          have hgd : ((z : Int) == (mi : Int)) = false := by
            have : (z : Int) ≠ (mi : Int) := by omega
            simpa using this
          have hzm : (z : Int) ≠ (mi : Int) := by omega
          have hjl : (j : Int) < (L : Int) := by omega
          have B8 := Lib.hid hbl
          subst hA
          clear hap
          go_wp2_with fail
          go_quiet (fail)
          go_wp2_with fail
          go_roundw
          case rel => exact ⟨j + 1, by omega, by go_num, bdn B8.out _⟩
          case measure => simp [intOf]; omega
        · have hjn : ¬((j : Int) < (L : Int)) := by omega
          obtain ⟨wB, rfl⟩ : ∃ x, x = wr := ⟨_, rfl⟩
          have K7 := (hbl.block g hg6).trans K6
          have hmd7 := hmd6.below hbl
          have B7 := Lib.hid (B6.out.trans (hbl.mono B6.out.size))
          have hg7 : g < wB.heap.size := blk_lt K7
          clear hbl K6 hmd6 B6 X6
          have hnew : RdE IntE _ _ _ 1 _ := rdE_new (E := IntE) (l := [((mi : Nat) : Int)]) wB #[.int .i64 ((mi : Nat) : Int)] 3 rfl
          have hmd8 := hmd7.below ((Below.refl _ _).alloc (Nat.le_refl _) (.cells #[.int .i64 ((mi : Nat) : Int)] 3))
          have K8 := blk_past K7 (.cells #[.int .i64 ((mi : Nat) : Int)] 3)
          have hsz : g + 1 ≤ (wB.alloc (.cells #[.int .i64 ((mi : Nat) : Int)] 3)).heap.size := by rw [World.size_alloc]; omega
          go_wp2_with (at_builtin; refine wpList_appE IntE rfl _ _ rfl (g + 1) _ 1 _ _ _ _ _ rfl rfl hmd8 hnew hsz ?c1 ?_)
          case c1 => rw [HL.out]; omega
          intro v9 w9 hm9 hg9
          have hb9 : Below (g + 1) (wB.alloc (.cells #[.int .i64 ((mi : Nat) : Int)] 3)) w9 := (Below.refl _ _).grown hg9 hsz hmd8.lt_own
          have K9 := (hb9.block g (by omega)).trans K8
          have B9 := Lib.hid ((B7.out.alloc B7.out.size _).trans (hb9.mono (by omega)))
          have hS := mem_succ (M := M) hKi
          rw [HMI.out] at hS
          rw [hS] at hm9
          clear hnew hmd8 hmd7 K7 K8 hsz hg9 hb9 x0 x1 hS
          go_wp2_with fail
          go_roundw
          case rel => exact ⟨i + 1, by omega, by omega, by omega, by go_num, hm9, K9, B9.out⟩
          case measure => simp [intOf]; omega
    · have B8 := Lib.hid hbl
      clear hbl
      by_cases hs : i < N
      · have hsk : ¬ (i : Int) < (K : Int) + (M : Int) := by omega
        go_wp2_with fail
        refine (lives_yes _).mono ?_
        rintro e w9 ⟨rfl, hb9⟩
        go_wp2_with fail
        go_ret
        exact ⟨rfl, B8.out.trans (hb9.mono B8.out.size)⟩
      · go_wp2_with fail
        refine (lives_yes _).mono ?_
        rintro e w9 ⟨rfl, hb9⟩
        go_wp2_with fail
        go_ret
        exact ⟨rfl, B8.out.trans (hb9.mono B8.out.size)⟩
end Go.Proofs.Ythephlgdjbdaoaa
