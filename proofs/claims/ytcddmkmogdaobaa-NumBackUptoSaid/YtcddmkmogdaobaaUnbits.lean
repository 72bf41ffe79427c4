/-
  num.Unbits over whatever bytes, width and count.
-/
import Derived.Test.YtcddmkmogdaobaaBits
namespace Go.Proofs.Ytcddmkmogdaobaa
open Go.RowKit
set_option linter.unusedVariables false

theorem unbits_arg (A : Option Addr) (n c : Nat) (s m : Int) (w : World) (h : ¬ (1 ≤ s ∧ s ≤ 8) ∨ m < 0 ∨ 1048576 < m) :
    Calls Try.prog 18 #[.slice A n c, .int .i64 s, .int .i64 m] w fun e w' => e = .returned (.tuple #[.slice none 0 0, .int .i64 2]) ∧ w = w' := by
  by_cases hs : 1 ≤ s ∧ s ≤ 8
  · obtain ⟨h1, h2⟩ := hs
    by_cases hp : m < 0
    · clear h
      go_enter Try.func18, Try.ntmps18
      go_wp2_with (first | (go_at_call 24; refine (mayWidth_yes _ _ (by omega) (by omega)).mono ?_; rintro e w' ⟨rfl, rfl⟩))
      go_ret2
      exact ⟨rfl, rfl⟩
    · have hp2 : 1048576 < m := by omega
      have hp1 : 0 ≤ m := by omega
      clear h hp
      go_enter Try.func18, Try.ntmps18
      go_wp2_with (first | (go_at_call 24; refine (mayWidth_yes _ _ (by omega) (by omega)).mono ?_; rintro e w' ⟨rfl, rfl⟩))
      go_ret2
      exact ⟨rfl, rfl⟩
  · clear h
    go_enter Try.func18, Try.ntmps18
    go_wp2_with (first | (go_at_call 24; refine (mayWidth_no _ _ hs).mono ?_; rintro e w' ⟨rfl, rfl⟩))
    go_ret2
    exact ⟨rfl, rfl⟩

theorem unbits_short (A : Option Addr) (n c d m : Nat) (w : World) (h1 : 1 ≤ d) (h2 : d ≤ 8) (hm : m ≤ 1048576) (hs : n < bytesOf m d) :
    Calls Try.prog 18 #[.slice A n c, .int .i64 d, .int .i64 m] w fun e w' => e = .returned (.tuple #[.slice none 0 0, .int .i64 4]) ∧ w = w' := by
  go_enter Try.func18, Try.ntmps18
  go_wp2_with (first | (go_at_call 24; refine (mayWidth_yes _ _ (by omega) (by omega)).mono ?_; rintro e w' ⟨rfl, rfl⟩))
  refine (taken_any _ _ _ h1 h2 (by omega)).mono ?_
  rintro e w' ⟨rfl, rfl⟩
  go_wp2
  go_ret2
  exact ⟨rfl, rfl⟩

theorem dg_val (b : List UInt8) (q : Nat) : (dg (val 8 b) q : Nat) = bt b q := by
  unfold dg bt
  rw [val_digit (all_256 b)]

theorem mask16 {d : Nat} (h1 : 1 ≤ d) (h2 : d ≤ 8) : IntKind.u16.wrap (IntKind.u16.wrap (2 ^ d) - 1) = ((2 ^ d - 1 : Nat) : Int) := by
  rcases widths h1 h2 with rfl | rfl | rfl | rfl | rfl | rfl | rfl | rfl <;> rfl
theorem and_mask {d y : Nat} (h1 : 1 ≤ d) (h2 : d ≤ 8) (hy : y < 65536) : bits .and .u16 (y : Int) (IntKind.u16.wrap (IntKind.u16.wrap (2 ^ d) - 1)) % 256 = ((y % 2 ^ d : Nat) : Int) := by
  have h3 : 2 ^ d ≤ 2 ^ 8 := Nat.pow_le_pow_right (by omega) h2
  have h4 : y % 2 ^ d < 2 ^ d := Nat.mod_lt _ (Nat.pow_pos (by omega))
  rw [mask16 h1 h2, u16_and_nat y _ hy (by omega), Nat.and_two_pow_sub_one_eq_mod]
  omega
theorem bt_digL {d m V j : Nat} (h2 : d ≤ 8) (hj : j < m) : bt (digL d m V) j = ((V / 2 ^ (j * d) % 2 ^ d : Nat) : Int) := by
  have hl : j < (digL d m V).length := by rw [length_digL]; exact hj
  rw [bt_get hl, getElem_digL h2 hl, Nat.mul_comm d j]
theorem unlay_two {b : List UInt8} {q ab d j m : Nat} (h1 : 1 ≤ d) (h2 : d ≤ 8) (hj : j < m) (hq : j * d / 8 = q) (hab : j * d % 8 = ab) :
    bits .and .u16 (bits .or .u16 (bt b q) (bt b (q + 1) * 256) / 2 ^ ab) (IntKind.u16.wrap (IntKind.u16.wrap (2 ^ d) - 1)) % 256 = bt (digL d m (val 8 b)) j := by
  subst hq hab
  rw [← dg_val, ← dg_val]
  have l1 := dg_lt (val 8 b) (j * d / 8)
  have l2 := dg_lt (val 8 b) (j * d / 8 + 1)
  have e : ((dg (val 8 b) (j * d / 8 + 1) : Nat) : Int) * 256 = ((dg (val 8 b) (j * d / 8 + 1) * 256 : Nat) : Int) := by omega
  rw [e, u16_or_nat _ _ (by omega) (by omega), Nat.or_comm, nat_join 8 _ _ (Nat.mul_mod_left _ (2 ^ 8)) l1]
  have e2 : (((dg (val 8 b) (j * d / 8 + 1) * 256 + dg (val 8 b) (j * d / 8) : Nat) : Int) / 2 ^ (j * d % 8)) = (((dg (val 8 b) (j * d / 8) + 2 ^ 8 * dg (val 8 b) (j * d / 8 + 1)) / 2 ^ (j * d % 8) : Nat) : Int) := by
    have e3 : ((2 : Int) ^ (j * d % 8)) = ((2 ^ (j * d % 8) : Nat) : Int) := by push_cast; rfl
    rw [e3, show dg (val 8 b) (j * d / 8 + 1) * 256 + dg (val 8 b) (j * d / 8) = dg (val 8 b) (j * d / 8) + 2 ^ 8 * dg (val 8 b) (j * d / 8 + 1) from by omega]
    rfl
  have l3 : (dg (val 8 b) (j * d / 8) + 2 ^ 8 * dg (val 8 b) (j * d / 8 + 1)) / 2 ^ (j * d % 8) < 65536 := Nat.lt_of_le_of_lt (Nat.div_le_self _ _) (by omega)
  rw [e2, and_mask h1 h2 l3, read_spill h2, bt_digL h2 hj]
theorem unlay_single {b : List UInt8} {q ab d j m : Nat} (h1 : 1 ≤ d) (h2 : d ≤ 8) (hj : j < m) (hs : ab + d ≤ 8) (hq : j * d / 8 = q) (hab : j * d % 8 = ab) :
    bits .and .u16 (bt b q / 2 ^ ab) (IntKind.u16.wrap (IntKind.u16.wrap (2 ^ d) - 1)) % 256 = bt (digL d m (val 8 b)) j := by
  subst hq hab
  rw [← dg_val]
  have l1 := dg_lt (val 8 b) (j * d / 8)
  have e2 : ((dg (val 8 b) (j * d / 8) : Nat) : Int) / 2 ^ (j * d % 8) = ((dg (val 8 b) (j * d / 8) / 2 ^ (j * d % 8) : Nat) : Int) := by
    have e3 : ((2 : Int) ^ (j * d % 8)) = ((2 ^ (j * d % 8) : Nat) : Int) := by push_cast; rfl
    rw [e3]
    rfl
  have l3 : dg (val 8 b) (j * d / 8) / 2 ^ (j * d % 8) < 65536 := Nat.lt_of_le_of_lt (Nat.div_le_self _ _) (by omega)
  rw [e2, and_mask h1 h2 l3, read_plain hs, bt_digL h2 hj]

set_option maxHeartbeats 1000000 in
theorem unbits_ok (A : Option Addr) (n c N d m B : Nat) (b : List UInt8) (w : World) (HB : Hid (B = w.heap.size)) (hb : Rd w N A n b) (hN : N ≤ B) (hn : n ≤ 140737488355328) (h1 : 1 ≤ d) (h2 : d ≤ 8) (hm : m ≤ 1048576) (hs : bytesOf m d ≤ n) :
    Calls Try.prog 18 #[.slice A n c, .int .i64 d, .int .i64 m] w fun e w' => ∃ v, e = .returned (.tuple #[v, .int .i64 0]) ∧ Own w' B v (digL d m (val 8 b)) ∧ Below B w w' := by
  have hBle : B ≤ w.heap.size := Nat.le_of_eq HB.out
  have hd30 : decide (n < bytesOf m d) = false := by simpa using hs
  have hd19 : decide ((m : Int) < 0) = false := by simp
  have hd23 : decide (1048576 < (m : Int)) = false := by simp; omega
  have hmk := run_make_row' (P := Try.prog) 23 5 (.int .u8 0) 1 Try.underlying23 u8info rfl .i64 .i64 m (by omega) (by omega)
  go_enter Try.func18, Try.ntmps18
  go_wp2_with (first | (go_at_call 24; refine (mayWidth_yes _ _ (by omega) (by omega)).mono ?_; rintro e w' ⟨rfl, rfl⟩))
  refine (taken_any _ _ _ h1 h2 (by omega)).mono ?_
  rintro e w' ⟨rfl, rfl⟩
  go_wp2
  clear hmk
  have hr0 := World.rowIs_made w (Value.int .u8 0) m 5
  have hbl0 : Below B w (w.alloc (.cells (madeCells #[Value.int .u8 0] m) 5)) := (Below.refl _ _).alloc hBle _
  generalize w.heap.size = g at hr0 hBle ⊢
  go_loopw [37] (fun i wr => ∃ (j : Nat) (f : Nat → Int), j ≤ m ∧ i = .int .i64 j ∧ wr.rowIs g 5 m (fun k => .int .u8 (f k)) ∧ (∀ k, k < j → f k = bt (digL d m (val 8 b)) k) ∧ (∀ k, 0 ≤ f k ∧ f k ≤ 255) ∧ Below B w wr) (fun i _ => m - (intOf i).toNat)
  case atStart => exact ⟨0, fun _ => 0, Nat.zero_le _, rfl, hr0, fun k hk => absurd hk (by omega), fun k => by simp, hbl0⟩
  case round =>
    clear hbl0 hr0
    obtain ⟨j, f, hj, rfl, hrow, hf, hr, hbl⟩ := hrel
    have HF := Lib.hid hf
    have HR := Lib.hid hr
    clear hf hr
    by_cases hlt : j < m
    · go_wp2_with fail
      refine (place_any _ _ _ h1 h2 (by omega)).mono ?_
      rintro e w' ⟨rfl, rfl⟩
      have hab : j * d % 8 ≤ 7 := by omega
      have hq1 : j * d / 8 < n := by
        unfold bytesOf at hs
        have h3 : (j + 1) * d ≤ m * d := Nat.mul_le_mul_right d hlt
        rw [Nat.succ_mul] at h3
        omega
      have hq2 : 8 < j * d % 8 + d → j * d / 8 + 1 < n := by
        unfold bytesOf at hs
        have h3 : (j + 1) * d ≤ m * d := Nat.mul_le_mul_right d hlt
        rw [Nat.succ_mul] at h3
        omega
      generalize hq : j * d / 8 = q at *
      generalize ha : j * d % 8 = ab at *
      have HQ := Lib.hid hq
      have HAB := Lib.hid ha
      clear hq ha
      obtain ⟨bA, oA, rfl, hA, cA⟩ := (hb.below (hbl.mono hN)).2 q hq1
      have hlo := bt_lo b q
      have hhi := bt_hi b q
      have hc1 := hrow.cell hlt
      have hf1 := hrow.frozen j
      by_cases hsp : 8 < ab + d
      · have hq3 := hq2 hsp
        obtain ⟨bA', oA', hA2, _, cA2⟩ := (hb.below (hbl.mono hN)).2 (q + 1) hq3
        injection hA2 with hA2
        injection hA2 with hA3 hA4
        subst hA3 hA4
        have hlo2 := bt_lo b (q + 1)
        have hhi2 := bt_hi b (q + 1)
        go_wp2_with fail
        refine (spills_yes _ _ _ (by omega) h2 hsp).mono ?_
        rintro e w' ⟨rfl, rfl⟩
        go_wp2
        go_roundw
        case rel =>
          rw [unlay_two h1 h2 hlt HQ.out HAB.out]
          refine ⟨j + 1, upd f j (bt (digL d m (val 8 b)) j), by omega, by go_num, row_put hrow _, ?_, ?_, hbl.setCell hBle _⟩
          · intro k hk
            by_cases e : k = j
            · subst e; exact upd_at _ _ _
            · rw [upd_off _ _ e]; exact HF.out k (by omega)
          · intro k
            by_cases e : k = j
            · subst e; rw [upd_at]; exact ⟨bt_lo _ _, bt_hi _ _⟩
            · rw [upd_off _ _ e]; exact HR.out k
        case measure => simp [intOf]; omega
      · clear hq2
        go_wp2_with fail
        refine (spills_no _ _ _ (by omega) h2 hsp).mono ?_
        rintro e w' ⟨rfl, rfl⟩
        go_wp2
        go_roundw
        case rel =>
          rw [unlay_single h1 h2 hlt (by omega) HQ.out HAB.out]
          refine ⟨j + 1, upd f j (bt (digL d m (val 8 b)) j), by omega, by go_num, row_put hrow _, ?_, ?_, hbl.setCell hBle _⟩
          · intro k hk
            by_cases e : k = j
            · subst e; exact upd_at _ _ _
            · rw [upd_off _ _ e]; exact HF.out k (by omega)
          · intro k
            by_cases e : k = j
            · subst e; rw [upd_at]; exact ⟨bt_lo _ _, bt_hi _ _⟩
            · rw [upd_off _ _ e]; exact HR.out k
        case measure => simp [intOf]; omega
    · have e : j = m := by omega
      subst e
      go_wp2
      go_ret2
      exact ⟨_, rfl, Own.of_row (length_digL _ _ _) hBle hrow (Nat.le_refl _) (by unfold maxLen; omega) HF.out HR.out, hbl⟩
end Go.Proofs.Ytcddmkmogdaobaa
