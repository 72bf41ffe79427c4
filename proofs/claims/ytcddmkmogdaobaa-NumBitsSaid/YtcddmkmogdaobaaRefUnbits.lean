/-
  The document's Unbits over whatever bytes, width and count.
-/
import Derived.Test.YtcddmkmogdaobaaRefBits
import Derived.Test.YtcddmkmogdaobaaUnbits
namespace Go.Proofs.Ytcddmkmogdaobaa
open Go.RowKit
set_option linter.unusedVariables false

theorem runbits_arg (A : Option Addr) (n c : Nat) (s m : Int) (w : World) (h : ¬ (1 ≤ s ∧ s ≤ 8) ∨ m < 0 ∨ 1048576 < m) :
    Calls Try.prog 19 #[.slice A n c, .int .i64 s, .int .i64 m] w fun e w' => e = .returned (.tuple #[.slice none 0 0, .int .i64 2]) ∧ w = w' := by
  by_cases h1 : s < 1
  · clear h
    go_enter Try.func19, Try.ntmps19
    go_wp2
    go_ret2
    exact ⟨rfl, rfl⟩
  · have g1 : 1 ≤ s := by omega
    clear h1
    by_cases h2 : 8 < s
    · clear h
      go_enter Try.func19, Try.ntmps19
      go_wp2
      go_ret2
      exact ⟨rfl, rfl⟩
    · have g2 : s ≤ 8 := by omega
      clear h2
      by_cases h3 : m < 0
      · clear h
        go_enter Try.func19, Try.ntmps19
        go_wp2
        go_ret2
        exact ⟨rfl, rfl⟩
      · have g3 : 0 ≤ m := by omega
        have g4 : 1048576 < m := by omega
        clear h h3
        go_enter Try.func19, Try.ntmps19
        go_wp2
        go_ret2
        exact ⟨rfl, rfl⟩

theorem prod_small {d m : Nat} (h2 : d ≤ 8) (hm : m ≤ 1048576) : d * m ≤ 8388608 := Nat.le_trans (Nat.mul_le_mul h2 hm) (by omega)
theorem runbits_short (A : Option Addr) (n c d m : Nat) (w : World) (hn : n ≤ 140737488355328) (h1 : 1 ≤ d) (h2 : d ≤ 8) (hm : m ≤ 1048576) (hs : n < bytesOf m d) :
    Calls Try.prog 19 #[.slice A n c, .int .i64 d, .int .i64 m] w fun e w' => e = .returned (.tuple #[.slice none 0 0, .int .i64 4]) ∧ w = w' := by
  have hp : d * m ≤ 8388608 := prod_small h2 hm
  have hmul : (d : Int) * (m : Int) = ((d * m : Nat) : Int) := by rw [Int.natCast_mul]
  have hlt : 8 * n < d * m := by unfold bytesOf at hs; rw [Nat.mul_comm m d] at hs; omega
  generalize d * m = P at *
  clear hs
  go_enter Try.func19, Try.ntmps19
  go_wp2
  go_ret2
  exact ⟨rfl, rfl⟩

/-- One bit of a byte of the row. -/
theorem bit_read {b : List UInt8} (s : Nat) : bt b (s / 8) / 2 ^ (s % 8) % 2 = ((val 8 b / 2 ^ s % 2 : Nat) : Int) := by
  rw [← dg_val]
  have h := read_plain (V := val 8 b) (s := s) (d := 1) (by omega)
  rw [Nat.pow_one] at h
  have e3 : ((2 : Int) ^ (s % 8)) = ((2 ^ (s % 8) : Nat) : Int) := by push_cast; rfl
  rw [← h, e3]
  rfl
theorem part_lt {V a d p : Nat} (hp : p < d) (hd : d ≤ 8) : V / 2 ^ a % 2 ^ (d - (p + 1)) ≤ 127 := by
  have h1 : V / 2 ^ a % 2 ^ (d - (p + 1)) < 2 ^ (d - (p + 1)) := Nat.mod_lt _ (Nat.pow_pos (by omega))
  have h2 : 2 ^ (d - (p + 1)) ≤ 2 ^ 7 := Nat.pow_le_pow_right (by omega) (by omega)
  omega
theorem part_step (V a d p : Nat) (hp : p < d) : V / 2 ^ (a + p) % 2 ^ (d - p) = 2 * (V / 2 ^ (a + (p + 1)) % 2 ^ (d - (p + 1))) + V / 2 ^ (a + p) % 2 := by
  have := bit_step V (a + p) (d - (p + 1))
  rwa [show d - (p + 1) + 1 = d - p from by omega] at this

theorem bit_sum {x : Int} {C y : Nat} (h0 : 0 ≤ x) (hx : x % 2 = ((y % 2 : Nat) : Int)) (hC : C ≤ 127) : (2 * (C : Int) + x.tmod 2) % 256 = ((2 * C + y % 2 : Nat) : Int) := by
  rw [Int.tmod_eq_emod_of_nonneg h0, hx]
  omega
theorem shr_nonneg {b : List UInt8} (s k : Nat) : 0 ≤ bt b s / 2 ^ k := by
  have e3 : ((2 : Int) ^ k) = ((2 ^ k : Nat) : Int) := by push_cast; rfl
  rw [e3]
  exact Int.ediv_nonneg (bt_lo _ _) (Int.natCast_nonneg _)

set_option maxHeartbeats 2000000 in
theorem runbits_ok (A : Option Addr) (n c N d m B : Nat) (b : List UInt8) (w : World) (HB : Hid (B = w.heap.size)) (hb : Rd w N A n b) (hN : N ≤ B) (hn : n ≤ 140737488355328) (h1 : 1 ≤ d) (h2 : d ≤ 8) (hm : m ≤ 1048576) (hs : bytesOf m d ≤ n) :
    Calls Try.prog 19 #[.slice A n c, .int .i64 d, .int .i64 m] w fun e w' => ∃ v, e = .returned (.tuple #[v, .int .i64 0]) ∧ Made w' B v (digL d m (val 8 b)) ∧ Below B w w' := by
  have hBle : B ≤ w.heap.size := Nat.le_of_eq HB.out
  obtain ⟨i0, hi, hz0, hz1, hz2⟩ := info_parts u8info
  have hp : d * m ≤ 8388608 := prod_small h2 hm
  have hmul : (d : Int) * (m : Int) = ((d * m : Nat) : Int) := by rw [Int.natCast_mul]
  have hge : d * m ≤ 8 * n := by unfold bytesOf at hs; rw [Nat.mul_comm m d] at hs; omega
  have HM := Lib.hid hge
  have HMS : Hid (∀ i, i < m → i * d + d ≤ d * m) := fun i hi => by rw [← Nat.succ_mul, Nat.mul_comm d m]; exact Nat.mul_le_mul_right d hi
  have hd1 : decide ((d : Int) < 1) = false := by simp; omega
  have hd2 : decide (8 < (d : Int)) = false := by simp; omega
  have hd3 : decide ((m : Int) < 0) = false := by simp
  have hd4 : decide (1048576 < (m : Int)) = false := by simp; omega
  generalize hP : d * m = P at *
  have HP := Lib.hid hP
  have hd5 : decide (8 * (n : Int) < (P : Int)) = false := by simp; omega
  clear hP hs
  go_enter Try.func19, Try.ntmps19
  go_wp2
  clear hmul hd1 hd2 hd3 hd4 hd5
  have HBR : Hid (∀ s, bt b (s / 8) / 2 ^ (s % 8) % 2 = ((val 8 b / 2 ^ s % 2 : Nat) : Int)) := bit_read
  generalize hV : val 8 b = V at *
  have HV := Lib.hid hV
  clear hV
  go_loopw [8, 9] (fun v i wr => ∃ j : Nat, j ≤ m ∧ i = .int .i64 j ∧ Made wr B v (digL d j V) ∧ Below B w wr) (fun _ i _ => m - (intOf i).toNat)
  case atStart => exact ⟨0, Nat.zero_le _, rfl, World.ownsRow_nil _ _ _ _, Below.refl _ _⟩
  case round =>
    obtain ⟨j, hj, rfl, hm1, hbl⟩ := hrel
    have HM1 := Lib.hid hm1
    clear hm1
    by_cases hlt : j < m
    · have hT := HMS.out j hlt
      have hT2 : (j : Int) * (d : Int) = ((j * d : Nat) : Int) := by rw [Int.natCast_mul]
      have hE : Hid (digL d (j + 1) V = digL d j V ++ [UInt8.ofNat (V / 2 ^ (j * d + 0) % 2 ^ (d - 0))]) := by rw [Nat.add_zero, Nat.sub_zero, Nat.mul_comm j d]; exact digL_snoc d j V
      generalize j * d = T at *
      go_wp2
      go_loop [10, 11] (fun x k => ∃ i : Nat, i ≤ d ∧ k = .int .i64 ((i : Int) - 1) ∧ x = .int .u8 ((V / 2 ^ (T + i) % 2 ^ (d - i) : Nat) : Int)) (fun _ k => (intOf k + 1).toNat)
      case atStart => exact ⟨d, Nat.le_refl _, rfl, by simp [Nat.mod_one]⟩
      case round =>
        obtain ⟨i, hi8, rfl, rfl⟩ := hrel
        by_cases hi0 : 0 < i
        · obtain ⟨p, rfl⟩ : ∃ p, i = p + 1 := ⟨i - 1, by omega⟩
          have hC := part_lt (V := V) (a := T + (p + 1)) (p := p) (d := d) (by omega) h2
          have hS := part_step V T d p (by omega)
          have HBR' := Lib.hid (HBR.out (T + p))
          generalize V / 2 ^ (T + (p + 1)) % 2 ^ (d - (p + 1)) = C at *
          have HS := Lib.hid hS
          clear hS
          rw [show ((p + 1 : Nat) : Int) - 1 = (p : Int) from by omega]
          obtain ⟨bA, oA, rfl, _, cA⟩ := (hb.below (hbl.mono hN)).2 ((T + p) / 8) (by have := HM.out; omega)
          have hlo := bt_lo b ((T + p) / 8)
          have hhi := bt_hi b ((T + p) / 8)
          have hMo := HM.out
          go_wp2
          go_round
          case rel => exact ⟨p, by omega, rfl, by rw [HS.out, bit_sum (shr_nonneg _ _) HBR'.out hC]⟩
          case measure => simp [intOf]
        · have e : i = 0 := by omega
          subst e
          have hcc : V / 2 ^ (T + 0) % 2 ^ (d - 0) < 256 := mod_pow_le (by omega) _
          generalize V / 2 ^ (T + 0) % 2 ^ (d - 0) = cc at *
          have hown := HM1.out.own (length_digL d j V)
          have hsz : B ≤ wr.heap.size := Nat.le_trans hBle hbl.size
          go_wp2_with (at_builtin; refine wpList_append_own _ rfl _ _ 23 rfl B 5 i0 (.int .u8 0) 1 1 Try.underlying23 hi hz0 hz1 hz2 rfl (by decide) _ _ _ rfl (hown.alloc _) ⟨wr.heap.size, 0, none⟩ 1 1 [.int .u8 (cc : Int)] rfl rfl ?c1 ?c2 ?c3 ?c4 ?c5 ?_)
          case c2 => rfl
          case c3 => unfold maxLen; omega
          case c4 => omega
          case c5 => omega
          intro v' w1 hown1 hg1 _
          have hx : (cc : Int) = ((UInt8.ofNat cc).toNat : Int) := by rw [UInt8.toNat_ofNat']; omega
          obtain ⟨hm1, hb1⟩ := Made.push HM1.out hbl hsz hx hown1 hg1
          have hm1' := Lib.hid hm1
          clear hm1 hown1 hg1 hown hx
          go_wp2
          go_roundw
          case rel =>
            refine ⟨j + 1, by omega, by go_num, ?_, hb1⟩
            rw [hE.out]; exact hm1'.out
          case measure => simp [intOf]; omega
    · have e : j = m := by omega
      subst e
      go_wp2
      go_ret2
      exact ⟨_, rfl, by rw [HV.out]; exact HM1.out, hbl⟩
end Go.Proofs.Ytcddmkmogdaobaa
