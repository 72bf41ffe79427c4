import Derived.Test.YtnliphgjcaippaaGreatDoorHnah
import Derived.Laws.BitsAllLaws
import Derived.Laws.AppendOwn
import Derived.Test.YtnliphgjcaippaaGreatDoorHnag
import Derived.Laws.EntriesVeiled
import Derived.Test.YtnliphgjcaippaaGreatDoorHnZ
namespace Go.Proofs.YtnliphgjcaippaaGreatDoor
open Go.RowKit
set_option linter.unusedVariables false
theorem fits_int (n c : Int) (w : World) (hn : 0 ≤ n) (h0 : 0 ≤ c) (h64 : c ≤ 64) : Calls Tryz.prog 148 #[.int .u64 n, .int .i64 c] w fun e w' => e = .returned (.bool (fitB n.toNat c.toNat)) ∧ w = w' := by
  obtain ⟨m, rfl⟩ := Int.eq_ofNat_of_zero_le hn
  rw [Int.toNat_natCast]
  exact fits_any m c w h0 h64
def narrow (d : Nat) (l : List UInt8) : Bool := l.all fun u => decide (u.toNat < 2 ^ d)
theorem dQ {d : Nat} {l : List UInt8} (h : narrow d l = true) : ∀ u ∈ l, u.toNat < 2 ^ d := by
  intro u hu
  have := List.all_eq_true.1 h u hu
  simpa using this
theorem fit_yes {l : List UInt8} {d j : Nat} (hall : narrow d l = true) (hj : j < l.length) : fitB (bt l j).toNat (d : Int).toNat = true := by
  unfold fitB
  rw [Int.toNat_natCast, decide_eq_true_eq, cN hj, Int.toNat_natCast]
  exact dQ hall _ (List.getElem_mem hj)
theorem wrap16 {X ab : Nat} (hX : X < 256) (hab : ab ≤ 7) : IntKind.u16.wrap ((X : Int) * 2 ^ ab) = ((X * 2 ^ ab : Nat) : Int) := by
  have h2 : 2 ^ ab ≤ 2 ^ 7 := Nat.pow_le_pow_right (by omega) hab
  have h3 : X * 2 ^ ab ≤ 255 * 2 ^ 7 := Nat.mul_le_mul (by omega) h2
  have e : ((X : Int) * 2 ^ ab) = ((X * 2 ^ ab : Nat) : Int) := by push_cast; rfl
  rw [e]
  exact IntWalk.u16_in _ ⟨by omega, by omega⟩
theorem or_here {x1 X ab : Nat} (h1 : x1 < 256) (hX : X < 256) (hab : ab ≤ 7) : bits .or .u8 (x1 : Int) (IntKind.u16.wrap ((X : Int) * 2 ^ ab) % 256) = ((x1 ||| (X * 2 ^ ab % 2 ^ 8) : Nat) : Int) := by
  rw [wrap16 hX hab]
  exact u8_or_nat x1 (X * 2 ^ ab % 256) h1 (Nat.mod_lt _ (by decide))
theorem or_next {x2 X ab : Nat} (h1 : x2 < 256) (hX : X < 256) (hab : ab ≤ 7) : bits .or .u8 (x2 : Int) (IntKind.u16.wrap ((X : Int) * 2 ^ ab) / 256 % 256) = ((x2 ||| (X * 2 ^ ab / 2 ^ 8) : Nat) : Int) := by
  rw [wrap16 hX hab]
  have h2 : 2 ^ ab ≤ 2 ^ 7 := Nat.pow_le_pow_right (by omega) hab
  have h3 : X * 2 ^ ab ≤ 255 * 2 ^ 7 := Nat.mul_le_mul (by omega) h2
  have e : (((X * 2 ^ ab : Nat) : Int) / 256 % 256) = ((X * 2 ^ ab / 256 : Nat) : Int) := by omega
  rw [e]
  exact u8_or_nat x2 (X * 2 ^ ab / 256) h1 (by omega)
theorem row_two {w : World} {g t q ab i d V X : Nat} {e : TypeId} (hrow : w.rowIs g e t (fun k => .int .u8 (dg V k : Nat))) (hV : V < 2 ^ (i * d)) (hX : X < 2 ^ d) (hd : d ≤ 8) (hq : i * d / 8 = q) (hab : i * d % 8 = ab) :
    ((w.setCell ⟨g, q, none⟩ (.int .u8 (bits .or .u8 (dg V q : Nat) (IntKind.u16.wrap ((X : Int) * 2 ^ ab) % 256)))).setCell ⟨g, q + 1, none⟩ (.int .u8 (bits .or .u8 (dg V (q + 1) : Nat) (IntKind.u16.wrap ((X : Int) * 2 ^ ab) / 256 % 256)))).rowIs g e t
      (fun k => .int .u8 (dg (V + 2 ^ (i * d) * X) k : Nat)) := by
  have hX8 : X < 256 := Nat.lt_of_lt_of_le hX (Nat.pow_le_pow_right (by omega) hd)
  have h7 : ab ≤ 7 := by omega
  refine ((hrow.set q _).set (q + 1) _).congr fun k hk => ?_
  rw [or_here (dg_lt _ _) hX8 h7, or_next (dg_lt _ _) hX8 h7, lay_two hV hX hd hq hab]
  show (if k = q + 1 then _ else if k = q then _ else _) = _
  split
  · rfl
  · split <;> rfl
theorem row_single {w : World} {g t q ab i d V X : Nat} {e : TypeId} (hrow : w.rowIs g e t (fun k => .int .u8 (dg V k : Nat))) (hV : V < 2 ^ (i * d)) (hX : X < 2 ^ d) (hd : d ≤ 8) (hs : ab + d ≤ 8) (hq : i * d / 8 = q) (hab : i * d % 8 = ab) :
    (w.setCell ⟨g, q, none⟩ (.int .u8 (bits .or .u8 (dg V q : Nat) (IntKind.u16.wrap ((X : Int) * 2 ^ ab) % 256)))).rowIs g e t
      (fun k => .int .u8 (dg (V + 2 ^ (i * d) * X) k : Nat)) := by
  have hX8 : X < 256 := Nat.lt_of_lt_of_le hX (Nat.pow_le_pow_right (by omega) hd)
  refine (hrow.set q _).congr fun k hk => ?_
  rw [or_here (dg_lt _ _) hX8 (by omega), lay_single hV hX hs hq hab]
  show (if k = q then _ else _) = _
  split <;> rfl
set_option maxHeartbeats 1000000 in
theorem bits_ok (A : Option Addr) (n c N d B : Nat) (l : List UInt8) (w : World) (HB : Hid (B = w.heap.size)) (hl : Rd w N A n l) (hN : N ≤ B) (hn : n ≤ 140737488351232) (h1 : 1 ≤ d) (h2 : d ≤ 8) (hall : narrow d l = true) :
    Calls Tryz.prog 138 #[.slice A n c, .int .i64 d] w fun e w' => ∃ v, e = .returned (.tuple #[v, .int .i64 0]) ∧ Own w' B v (aN 8 (bytesOf n d) (val d l)) ∧ Below B w w' := by
  have HA := Lib.hid hall
  clear hall
  have hBle : B ≤ w.heap.size := Nat.le_of_eq HB.out
  have htot : bytesOf n d ≤ 140737488355328 := by unfold bytesOf; have := Nat.mul_le_mul_left n h2; omega
  have hmk := run_make_row' (P := Tryz.prog) 100 5 (.int .u8 0) 1 Tryz.underlying100 u8info rfl .i64 .i64 (bytesOf n d) (by omega) (by omega)
  go_enter Tryz.func138, Tryz.ntmps138
  go_wp2_with (first | (go_at_call 149; refine (mayWidth_yes _ _ (by omega) (by omega)).mono ?_; rintro e w' ⟨rfl, rfl⟩))
  go_loop [18] (fun i => ∃ j : Nat, j ≤ n ∧ i = .int .i64 j) (fun i => n - (intOf i).toNat)
  case atStart => exact ⟨0, Nat.zero_le _, rfl⟩
  case round =>
    obtain ⟨j, hj, rfl⟩ := hrel
    by_cases hlt : j < n
    · obtain ⟨bA, oA, rfl, hA, cA⟩ := hl.2 j hlt
      have hlo := bt_lo l j
      have hhi := bt_hi l j
      go_wp2_with fail
      refine (fits_int _ _ _ hlo (by omega) (by omega)).mono ?_
      rintro e w' ⟨rfl, rfl⟩
      rw [fit_yes HA.out (by have := hl.1; omega)]
      go_wp2
      go_round
      case rel => exact ⟨j + 1, by omega, by go_num⟩
      case measure => simp [intOf]; omega
    · have e : j = n := by omega
      subst e
      go_wp2_with fail
      refine (taken_any _ _ _ h1 h2 (by omega)).mono ?_
      rintro e w' ⟨rfl, rfl⟩
      go_wp2
      clear hmk
      have hr0 := World.rowIs_made w (Value.int .u8 0) (bytesOf j d) 5
      have hbl0 : Below B w (w.alloc (.cells (madeCells #[Value.int .u8 0] (bytesOf j d)) 5)) := (Below.refl _ _).alloc hBle _
      generalize w.heap.size = g at hr0 hBle ⊢
      go_loopw [35] (fun i wr => ∃ i' : Nat, i' ≤ j ∧ i = .int .i64 i' ∧ wr.rowIs g 5 (bytesOf j d) (fun k => .int .u8 (dg (val d (l.take i')) k : Nat)) ∧ Below B w wr) (fun i _ => j - (intOf i).toNat)
      case atStart => exact ⟨0, Nat.zero_le _, rfl, hr0.congr fun k _ => by simp [val, dg], hbl0⟩
      case round =>
        clear hbl0 hr0
        obtain ⟨i, hi, rfl, hrow, hbl⟩ := hrel
        by_cases hlt : i < j
        · go_wp2_with fail
          refine (place_any _ _ _ h1 h2 (by omega)).mono ?_
          rintro e w' ⟨rfl, rfl⟩
          have hab : i * d % 8 ≤ 7 := by omega
          have hq1 : i * d / 8 < bytesOf j d := by
            unfold bytesOf
            have h3 : (i + 1) * d ≤ j * d := Nat.mul_le_mul_right d hlt
            rw [Nat.succ_mul] at h3
            omega
          have hq2 : 8 < i * d % 8 + d → i * d / 8 + 1 < bytesOf j d := by
            unfold bytesOf
            have h3 : (i + 1) * d ≤ j * d := Nat.mul_le_mul_right d hlt
            rw [Nat.succ_mul] at h3
            omega
          generalize hq : i * d / 8 = q at *
          generalize ha : i * d % 8 = ab at *
          have HQ := Lib.hid hq
          have HAB := Lib.hid ha
          clear hq ha
          obtain ⟨bA, oA, rfl, hA, cA⟩ := (hl.below (hbl.mono hN)).2 i hlt
          have hlo := bt_lo l i
          have hhi := bt_hi l i
          have hc1 := hrow.cell hq1
          have hf1 := hrow.frozen q
          have hf2 := hrow.frozen (q + 1)
          generalize hV : val d (l.take i) = V at *
          have HV := Lib.hid hV
          clear hV
          have hd1 := dg_lt V q
          generalize hx : dg V q = x1 at *
          have HX := Lib.hid hx
          clear hx
          by_cases hsp : 8 < ab + d
          · have hq3 := hq2 hsp
            have hc2 := hrow.cell hq3
            have hd2 := dg_lt V (q + 1)
            generalize hx : dg V (q + 1) = x2 at *
            have HX2 := Lib.hid hx
            clear hx hq2
            go_wp2_with fail
            refine (spills_yes _ _ _ (by omega) h2 hsp).mono ?_
            rintro e w' ⟨rfl, rfl⟩
            go_wp2
            go_roundw
            case rel =>
              refine ⟨i + 1, by omega, by go_num, ?_, (hbl.setCell hBle _).setCell hBle _⟩
              have hl' : i < l.length := by have := hl.1; omega
              rw [val_take_succ hl', HV.out, ← HX.out, ← HX2.out, cN hl']
              exact row_two hrow (by rw [← HV.out]; exact val_take_lt (dQ HA.out) (by omega)) (dQ HA.out _ (List.getElem_mem hl')) h2 HQ.out HAB.out
            case measure => simp [intOf]; omega
          · clear hq2
            go_wp2_with fail
            refine (spills_no _ _ _ (by omega) h2 hsp).mono ?_
            rintro e w' ⟨rfl, rfl⟩
            go_wp2
            go_roundw
            case rel =>
              refine ⟨i + 1, by omega, by go_num, ?_, hbl.setCell hBle _⟩
              have hl' : i < l.length := by have := hl.1; omega
              rw [val_take_succ hl', HV.out, ← HX.out, cN hl']
              exact row_single hrow (by rw [← HV.out]; exact val_take_lt (dQ HA.out) (by omega)) (dQ HA.out _ (List.getElem_mem hl')) h2 (by omega) HQ.out HAB.out
            case measure => simp [intOf]; omega
        · have e : i = j := by omega
          subst e
          go_wp2
          go_ret2
          refine ⟨_, rfl, Own.of_row (av _ _ _) hBle hrow (Nat.le_refl _) (by unfold maxLen; omega) ?_ ?_, hbl⟩
          · intro k hk
            have hk' : k < (aN 8 (bytesOf i d) (val d l)).length := by rw [av]; exact hk
            rw [cN hk', getElem_digL (by omega) hk', List.take_of_length_le (by have := hl.1; omega)]
            rfl
          · intro k
            have := dg_lt (val d (l.take i)) k
            omega
theorem dg_val (b : List UInt8) (q : Nat) : (dg (val 8 b) q : Nat) = bt b q := by
  unfold dg bt
  rw [val_digit (all_256 b)]
theorem mask16 {d : Nat} (h1 : 1 ≤ d) (h2 : d ≤ 8) : IntKind.u16.wrap (IntKind.u16.wrap (2 ^ d) - 1) = ((2 ^ d - 1 : Nat) : Int) := by
  rcases widths h1 h2 with rfl | rfl | rfl | rfl | rfl | rfl | rfl | rfl <;> rfl
theorem and_mask {d y : Nat} (h1 : 1 ≤ d) (h2 : d ≤ 8) (hy : y < 65536) : bits .and .u16 (y : Int) (IntKind.u16.wrap (IntKind.u16.wrap (2 ^ d) - 1)) % 256 = ((y % 2 ^ d : Nat) : Int) := by
  have h3 : 2 ^ d ≤ 2 ^ 8 := Nat.pow_le_pow_right (by omega) h2
  have h4 : y % 2 ^ d < 2 ^ d := Nat.mod_lt _ (Nat.pow_pos (by omega))
  rw [mask16 h1 h2, u16_and_nat y _ hy (by omega), Nat.and_two_pow_sub_one_eq_mod]
  omega
theorem bt_digL {d m V j : Nat} (h2 : d ≤ 8) (hj : j < m) : bt (aN d m V) j = ((V / 2 ^ (j * d) % 2 ^ d : Nat) : Int) := by
  have hl : j < (aN d m V).length := by rw [av]; exact hj
  rw [cN hl, getElem_digL h2 hl, Nat.mul_comm d j]
theorem unlay_two {b : List UInt8} {q ab d j m : Nat} (h1 : 1 ≤ d) (h2 : d ≤ 8) (hj : j < m) (hq : j * d / 8 = q) (hab : j * d % 8 = ab) :
    bits .and .u16 (bits .or .u16 (bt b q) (bt b (q + 1) * 256) / 2 ^ ab) (IntKind.u16.wrap (IntKind.u16.wrap (2 ^ d) - 1)) % 256 = bt (aN d m (val 8 b)) j := by
  subst hq hab
  rw [← dg_val, ← dg_val]
  have l1 := dg_lt (val 8 b) (j * d / 8)
  have l2 := dg_lt (val 8 b) (j * d / 8 + 1)
  have e : ((dg (val 8 b) (j * d / 8 + 1) : Nat) : Int) * 256 = ((dg (val 8 b) (j * d / 8 + 1) * 256 : Nat) : Int) := by omega
  rw [e, u16_or_nat _ _ (by omega) (by omega), Nat.or_comm, nat_join 8 _ _ (Nat.mul_mod_left _ (2 ^ 8)) l1]
  have e2 : (((dg (val 8 b) (j * d / 8 + 1) * 256 + dg (val 8 b) (j * d / 8) : Nat) : Int) / 2 ^ (j * d % 8)) = (((dg (val 8 b) (j * d / 8) + 2 ^ 8 * dg (val 8 b) (j * d / 8 + 1)) / 2 ^ (j * d % 8) : Nat) : Int) := by
    have e3 : ((2 : Int) ^ (j * d % 8)) = ((2 ^ (j * d % 8) : Nat) : Int) := by push_cast; rfl
    rw [e3, show dg (val 8 b) (j * d / 8 + 1) * 256 + dg (val 8 b) (j * d / 8) = dg (val 8 b) (j * d / 8) + 2 ^ 8 * dg (val 8 b) (j * d / 8 + 1) from by omega]
    rfl
  have l3 : (dg (val 8 b) (j * d / 8) + 2 ^ 8 * dg (val 8 b) (j * d / 8 + 1)) / 2 ^ (j * d % 8) < 65536 := Nat.lt_of_le_of_lt (Nat.div_le_self _ _) (by omega)
  rw [e2, and_mask h1 h2 l3, read_spill h2, bt_digL h2 hj]
theorem unlay_single {b : List UInt8} {q ab d j m : Nat} (h1 : 1 ≤ d) (h2 : d ≤ 8) (hj : j < m) (hs : ab + d ≤ 8) (hq : j * d / 8 = q) (hab : j * d % 8 = ab) :
    bits .and .u16 (bt b q / 2 ^ ab) (IntKind.u16.wrap (IntKind.u16.wrap (2 ^ d) - 1)) % 256 = bt (aN d m (val 8 b)) j := by
  subst hq hab
  rw [← dg_val]
  have l1 := dg_lt (val 8 b) (j * d / 8)
  have e2 : ((dg (val 8 b) (j * d / 8) : Nat) : Int) / 2 ^ (j * d % 8) = ((dg (val 8 b) (j * d / 8) / 2 ^ (j * d % 8) : Nat) : Int) := by
    have e3 : ((2 : Int) ^ (j * d % 8)) = ((2 ^ (j * d % 8) : Nat) : Int) := by push_cast; rfl
    rw [e3]
    rfl
  have l3 : dg (val 8 b) (j * d / 8) / 2 ^ (j * d % 8) < 65536 := Nat.lt_of_le_of_lt (Nat.div_le_self _ _) (by omega)
  rw [e2, and_mask h1 h2 l3, read_plain hs, bt_digL h2 hj]
set_option maxHeartbeats 1000000 in
theorem unbits_ok (A : Option Addr) (n c N d m B : Nat) (b : List UInt8) (w : World) (HB : Hid (B = w.heap.size)) (hb : Rd w N A n b) (hN : N ≤ B) (hn : n ≤ 140737488355328) (h1 : 1 ≤ d) (h2 : d ≤ 8) (hm : m ≤ 1048576) (hs : bytesOf m d ≤ n) :
    Calls Tryz.prog 162 #[.slice A n c, .int .i64 d, .int .i64 m] w fun e w' => ∃ v, e = .returned (.tuple #[v, .int .i64 0]) ∧ Own w' B v (aN d m (val 8 b)) ∧ Below B w w' := by
  have hBle : B ≤ w.heap.size := Nat.le_of_eq HB.out
  have hd30 : decide (n < bytesOf m d) = false := by simpa using hs
  have hd19 : decide ((m : Int) < 0) = false := by simp
  have hd23 : decide (1048576 < (m : Int)) = false := by simp; omega
  have hmk := run_make_row' (P := Tryz.prog) 100 5 (.int .u8 0) 1 Tryz.underlying100 u8info rfl .i64 .i64 m (by omega) (by omega)
  go_enter Tryz.func162, Tryz.ntmps162
  go_wp2_with (first | (go_at_call 149; refine (mayWidth_yes _ _ (by omega) (by omega)).mono ?_; rintro e w' ⟨rfl, rfl⟩))
  refine (taken_any _ _ _ h1 h2 (by omega)).mono ?_
  rintro e w' ⟨rfl, rfl⟩
  go_wp2
  clear hmk
  have hr0 := World.rowIs_made w (Value.int .u8 0) m 5
  have hbl0 : Below B w (w.alloc (.cells (madeCells #[Value.int .u8 0] m) 5)) := (Below.refl _ _).alloc hBle _
  generalize w.heap.size = g at hr0 hBle ⊢
  go_loopw [37] (fun i wr => ∃ (j : Nat) (f : Nat → Int), j ≤ m ∧ i = .int .i64 j ∧ wr.rowIs g 5 m (fun k => .int .u8 (f k)) ∧ (∀ k, k < j → f k = bt (aN d m (val 8 b)) k) ∧ (∀ k, 0 ≤ f k ∧ f k ≤ 255) ∧ Below B w wr) (fun i _ => m - (intOf i).toNat)
  case atStart => exact ⟨0, fun _ => 0, Nat.zero_le _, rfl, hr0, fun k hk => absurd hk (by omega), fun k => by simp, hbl0⟩
  case round =>
    clear hbl0 hr0
    obtain ⟨j, f, hj, rfl, hrow, hf, hr, hbl⟩ := hrel
    have HF := Lib.hid hf
    have HR := Lib.hid hr
    clear hf hr
    by_cases hlt : j < m
    · go_wp2_with fail
      refine (place_any _ _ _ h1 h2 (by omega)).mono ?_
      rintro e w' ⟨rfl, rfl⟩
      have hab : j * d % 8 ≤ 7 := by omega
      have hq1 : j * d / 8 < n := by
        unfold bytesOf at hs
        have h3 : (j + 1) * d ≤ m * d := Nat.mul_le_mul_right d hlt
        rw [Nat.succ_mul] at h3
        omega
      have hq2 : 8 < j * d % 8 + d → j * d / 8 + 1 < n := by
        unfold bytesOf at hs
        have h3 : (j + 1) * d ≤ m * d := Nat.mul_le_mul_right d hlt
        rw [Nat.succ_mul] at h3
        omega
      generalize hq : j * d / 8 = q at *
      generalize ha : j * d % 8 = ab at *
      have HQ := Lib.hid hq
      have HAB := Lib.hid ha
      clear hq ha
      obtain ⟨bA, oA, rfl, hA, cA⟩ := (hb.below (hbl.mono hN)).2 q hq1
      have hlo := bt_lo b q
      have hhi := bt_hi b q
      have hc1 := hrow.cell hlt
      have hf1 := hrow.frozen j
      by_cases hsp : 8 < ab + d
      · have hq3 := hq2 hsp
        obtain ⟨bA', oA', hA2, _, cA2⟩ := (hb.below (hbl.mono hN)).2 (q + 1) hq3
        injection hA2 with hA2
        injection hA2 with hA3 hA4
        subst hA3 hA4
        have hlo2 := bt_lo b (q + 1)
        have hhi2 := bt_hi b (q + 1)
        go_wp2_with fail
        refine (spills_yes _ _ _ (by omega) h2 hsp).mono ?_
        rintro e w' ⟨rfl, rfl⟩
        go_wp2
        go_roundw
        case rel =>
          rw [unlay_two h1 h2 hlt HQ.out HAB.out]
          refine ⟨j + 1, upd f j (bt (aN d m (val 8 b)) j), by omega, by go_num, row_put hrow _, ?_, ?_, hbl.setCell hBle _⟩
          · intro k hk
            by_cases e : k = j
            · subst e; exact upd_at _ _ _
            · rw [upd_off _ _ e]; exact HF.out k (by omega)
          · intro k
            by_cases e : k = j
            · subst e; rw [upd_at]; exact ⟨bt_lo _ _, bt_hi _ _⟩
            · rw [upd_off _ _ e]; exact HR.out k
        case measure => simp [intOf]; omega
      · clear hq2
        go_wp2_with fail
        refine (spills_no _ _ _ (by omega) h2 hsp).mono ?_
        rintro e w' ⟨rfl, rfl⟩
        go_wp2
        go_roundw
        case rel =>
          rw [unlay_single h1 h2 hlt (by omega) HQ.out HAB.out]
          refine ⟨j + 1, upd f j (bt (aN d m (val 8 b)) j), by omega, by go_num, row_put hrow _, ?_, ?_, hbl.setCell hBle _⟩
          · intro k hk
            by_cases e : k = j
            · subst e; exact upd_at _ _ _
            · rw [upd_off _ _ e]; exact HF.out k (by omega)
          · intro k
            by_cases e : k = j
            · subst e; rw [upd_at]; exact ⟨bt_lo _ _, bt_hi _ _⟩
            · rw [upd_off _ _ e]; exact HR.out k
        case measure => simp [intOf]; omega
    · have e : j = m := by omega
      subst e
      go_wp2
      go_ret2
      exact ⟨_, rfl, Own.of_row (av _ _ _) hBle hrow (Nat.le_refl _) (by unfold maxLen; omega) HF.out HR.out, hbl⟩
set_option maxRecDepth 100000
theorem dM {ρ : Operand → Value} {o : Oper} {x y : Operand} {w : World} (g : Nat) (ho : o.op = .store 171 x y) (hx : ρ x = .pointer (some ⟨w.heap.size, 0, none⟩)) (hy : ρ y = .agg (dl g)) :
    (execOp ρ o).run Tryz.prog (w.alloc (.cells #[.slice none 0 0, .slice none 0 0, .slice none 0 0, .slice none 0 0, .slice none 0 0] 171)) = .ok .skip (w.alloc (.cells (dl g) 171)) :=
  exec_fillT (by kernel_rfl) rfl rfl ho hx hy
theorem putW_start (w w1 : World) (hb : Below ((w.alloc (.cells (cel ar).toArray 58)).alloc (.cells (cel ar).toArray 58)).heap.size ((w.alloc (.cells (cel ar).toArray 58)).alloc (.cells (cel ar).toArray 58)) w1) :
    PutW w.heap.size w (w1.alloc (.cells (dl (w.heap.size + 1)) 171)) w.heap.size (w.heap.size + 1) w1.heap.size ar.toList := by
  have h1 := (Below.refl w.heap.size w).alloc (Nat.le_refl _) (.cells (cel ar).toArray 58)
  have h2 := h1.alloc h1.size (.cells (cel ar).toArray 58)
  have hs := hb.size
  simp only [World.size_alloc] at hs
  have hr : bF w1 w.heap.size 58 ar.toList := bF.below ((bF.blk w ar 58).past _) (by simp only [World.size_alloc]; omega) hb
  have hg : bF w1 (w.heap.size + 1) 58 ar.toList := bF.below (by have := bF.blk (w.alloc (.cells (cel ar).toArray 58)) ar 58; rwa [World.size_alloc] at this) (by simp only [World.size_alloc]; omega) hb
  have hbel : Below w.heap.size w w1 := h2.trans (hb.mono (by simp only [World.size_alloc]; omega))
  exact ⟨hr.past _, hg.past _, heap_alloc_new w1 _, hbel.alloc (by omega) _, Nat.le_refl _, by omega, by omega, by omega⟩
set_option maxHeartbeats 4000000 in
theorem put_yes (n m c N : Nat) (A : Option Addr) (b : List UInt8) (w : World) (T : Tab w) (hn : n < 18446744073709551616) (h0 : 0 < n) (hb : Rd w N A m b) (hN : N ≤ w.heap.size) (hm : m ≤ 44) :
    Calls Tryz.prog 130 #[.int .u64 n, .slice A m c] w fun e w' => e = .returned (.tuple #[blk (putB n b), .int .i64 (putE n b : Nat)]) ∧ Below w.heap.size w w' := by
  have hl := hb.1
  have hbl : b.length ≤ 44 := by omega
  have hE : putE n b = 0 := putE_ok (by omega) hbl
  have hB : putB n b = ofL (cm n b) := putB_ok hE
  rw [hE, hB]
  have HS := Lib.hid (noSum_seal (n := n) hbl)
  have HH := Lib.hid (noSum_head (n := n) hbl)
  have HL := Lib.hid (dD (n := n) hbl)
  have HL64 := Lib.hid (sealL_length n hbl)
  have HC := Lib.hid (more_lt (s := 0) (by omega) (cK n b))
  have HT := Lib.hid T
  have HR := Lib.hid hb
  have HB := Lib.hid hl
  have HN := Lib.hid hn
  have HNN := Lib.hid hN
  clear hE hB T hb hl hbl hn hN
  have hz : ((n : Int) == 0) = false := by simp; omega
  go_enter Tryz.func130, Tryz.ntmps130
  go_wp2_with (first | (refine ag rfl (aV rfl) ?_) | fail)
  refine (cut_any (w.heap.size + 1) _).mono ?_
  rintro e w1 ⟨rfl, hb1⟩
  have hW := putW_start w w1 hb1
  have HBW := Lib.hid hb1.size
  clear hb1
  have HFP := HBW.out
  obtain ⟨c0, c1, c2, c3, c4⟩ := hW.par.cells
  obtain ⟨g, hg⟩ : ∃ g, w.heap.size + 1 = g := ⟨_, rfl⟩
  rw [hg] at hW c0 c1 c2 c3 c4
  rw [hg]
  have HGG := Lib.hid hg
  clear HFP hg
  have HW := Lib.hid hW
  clear hW
  go_wp2_with (first | (refine aU rfl (dM g rfl rfl rfl) ?_) | fail)
  clear c0 c1 c2 c3 c4 HBW HGG
  have HN8 := HN.out
  refine (lay_any g 0 8 n 58 ar.toList _ HW.out.row (by omega) (by omega) (by simp) (by simpa using HN8)).mono ?_
  rintro e w2 ⟨rfl, hr2, hg2⟩
  have HW2 := Lib.hid (HW.out.turn hr2 hg2 (Nat.le_refl _))
  clear hr2 hg2 HW
  obtain ⟨c0, c1, c2, c3, c4⟩ := HW2.out.par.cells
  generalize w1.heap.size = p at *
  obtain ⟨r, hr⟩ : ∃ r, r = w.heap.size := ⟨_, rfl⟩
  have HRR := Lib.hid hr
  rw [← hr] at HNN HW2 ⊢
  clear hr
  clear HN8
  go_wp2_with fail
  clear c0 c1 c2 c3 c4
  have HN8 := HN.out
  refine (lay_any g 56 8 n 58 _ _ HW2.out.row (by omega) (by omega) (by rw [noSum_1]; omega) (by simpa using HN8)).mono ?_
  rintro e w3 ⟨rfl, hr3, hg3⟩
  have HW3 := Lib.hid (HW2.out.turn hr3 hg3 (Nat.le_of_eq HRR.out))
  clear hr3 hg3 HW2 HN8
  obtain ⟨c0, c1, c2, c3, c4⟩ := HW3.out.par.cells
  have HR3 := Lib.hid (HR.out.below (HW3.out.bel.mono HNN.out))
  have HL2 := Lib.hid (noSum_2 n)
  obtain ⟨l2, hl2⟩ : ∃ l2, splice (splice ar.toList 0 (aN 8 8 n)) 56 (aN 8 8 n) = l2 := ⟨_, rfl⟩
  have HNS : Hid (splice l2 8 b = noSum n b) := Lib.hid (by rw [← hl2]; rfl)
  rw [hl2] at HW3 HL2
  clear hl2
  go_wp2_with (with_reducible refine cQ rfl _ _ rfl g 8 44 44 m c N A 58 l2 b rfl rfl HW3.out.row HR3.out hm ?c1 ?_)
  case c1 => rw [HL2.out]; omega
  intro w4 hr4 hg4
  rw [HNS.out] at hr4
  have HW4 := Lib.hid (HW3.out.turn hr4 hg4 (Nat.le_of_eq HRR.out))
  clear hr4 hg4 HW3 HR3 HL2 c0 c1 c2 c3 c4
  go_wp2_with fail
  refine wp_region_held (S := fun w' => Hid (PutW r w w' r g p (noSum n b) ∨ PutW r w w' r g p (cm n b))) (by kernel_rfl) ?_
  change wpAnyH _ _ _ _ _ 7 _ _ w4.drew
  have hS : Hid (PutW r w w4.drew r g p (noSum n b) ∨ PutW r w w4.drew r g p (cm n b)) := Lib.hid (.inl HW4.out.draw)
  refine aB 0 rfl (by kernel_rfl) (by kernel_rfl) (by kernel_rfl) rfl (fun w' hw => am rfl (ev rfl) faP2) (fun _ _ _ h => h) hS ?_
  simp only [Act.put, aa, ac, ae]
  refine aB 1 rfl (by kernel_rfl) (by kernel_rfl) (by kernel_rfl) rfl (fun w' hw => au rfl (ev rfl) (ldS (hw.out.elim (fun h => h.par.cells.2.2.1) (fun h => h.par.cells.2.2.1)))) (fun _ _ _ h => h) hS ?_
  simp only [Act.put, aa, ac, ae]
  refine aB 2 rfl (by kernel_rfl) (by kernel_rfl) (by kernel_rfl) rfl (fun w' hw => am rfl (ev rfl) faP4) (fun _ _ _ h => h) hS ?_
  simp only [Act.put, aa, ac, ae]
  refine aB 3 rfl (by kernel_rfl) (by kernel_rfl) (by kernel_rfl) rfl (fun w' hw => au rfl (ev rfl) (ldS (hw.out.elim (fun h => h.par.cells.2.2.2.2) (fun h => h.par.cells.2.2.2.2)))) (fun _ _ _ h => h) hS ?_
  simp only [Act.put, aa, ac, ae]
  refine dG 4 rfl (by kernel_rfl) rfl (ao Tryz.call141 rfl (evc (ev rfl) evn)) ?_
  have T4 : Tab w4.drew := (HT.out.below (by rw [← HRR.out]; exact HW4.out.draw.bel))
  have R4 := HW4.out.draw.row.rd (p := 0) (k := 52) (by rw [HL.out]; omega)
  rw [HH.out] at R4
  refine (of_any _ 52 52 _ (cK n b) _ T4 R4 (by unfold maxLen; omega)).mono ?_
  rintro e w' ⟨rfl, rfl⟩
  refine ⟨_, rfl, hS, ?_⟩
  simp only [Act.put, aa, ac, ae]
  clear T4 R4
  refine aB 5 rfl (by kernel_rfl) (by kernel_rfl) (by kernel_rfl) rfl (fun w' hw => exec_cv32 rfl (ev rfl) HC.out) (fun _ _ _ h => h) hS ?_
  simp only [Act.put, aa, ac, ae]
  refine dG 6 rfl (by kernel_rfl) rfl (ao Tryz.call140 rfl (evc (ev rfl) (evc (ev rfl) evn))) ?_
  refine (lay_any g 52 4 (more 0 (cK n b)) 58 _ _ HW4.out.draw.row (by omega) (by omega) (by rw [HL.out]; omega) (by have := HC.out; simpa using this)).mono ?_
  rintro e w5 ⟨rfl, hr5, hg5⟩
  rw [HS.out] at hr5
  have HW5 := Lib.hid (HW4.out.draw.turn hr5 hg5 (Nat.le_of_eq HRR.out))
  refine ⟨_, rfl, Lib.hid (.inr HW5.out), ?_⟩
  simp only [Act.put, aa, ac, ae]
  clear hr5 hg5 hS HW4
  refine wpAnyH_done (by kernel_rfl) ?_ _
  have HG := Lib.hid (HW5.out.row.range HL64.out)
  have HTH : Hid (w5.there r 0 64) := Lib.hid (there_row HW5.out.res.row (by simp))
  have HBB : Hid (Below w.heap.size w w5) := Lib.hid (by rw [← HRR.out]; exact HW5.out.bel)
  go_wp2_with (first | (refine ag rfl (bc rfl rfl HG.out) ?_) | (refine aU rfl (bf rfl rfl rfl HTH.out) ?_) | fail)
  refine bodyPost_ret (bS rfl _ _ _ rfl (World.rangeAt_setCells_same _ _ _ _ (by rw [ax]; exact HTH.out))) rfl ⟨rfl, below_setCells HBB.out (Nat.le_of_eq HRR.out.symm) _⟩
theorem put_all (n m c N : Nat) (A : Option Addr) (b : List UInt8) (w : World) (T : Tab w) (hn : n < 18446744073709551616) (hb : Rd w N A m b) (hN : N ≤ w.heap.size) (hm : m ≤ maxLen) :
    Calls Tryz.prog 130 #[.int .u64 n, .slice A m c] w fun e w' => e = .returned (.tuple #[blk (putB n b), .int .i64 (putE n b : Nat)]) ∧ Below w.heap.size w w' := by
  by_cases h0 : n = 0
  · subst h0
    exact put_arg m c A b w hb.1
  · by_cases h44 : m ≤ 44
    · exact put_yes n m c N A b w T hn (by omega) hb hN h44
    · exact put_long n m c A b w hb.1 (by omega) (by omega) hm
set_option linter.unusedSimpArgs false
def onwV (p q : Nat) : Value := .func (.func 146) #[] #[.pointer (some ⟨p, 0, none⟩), .pointer (some ⟨q, 0, none⟩)]
def CutAt (w : World) (p q : Nat) (S : Value) (k : Nat) : Prop := w.heap[p]? = some (.cells #[.int .i64 (k : Int)] 3 (0, 0)) ∧ w.heap[q]? = some (.cells #[S] 100 (0, 0))
set_option maxHeartbeats 1000000 in
theorem onward_any (S : Value) (A : Option Addr) (n c : Nat) (hS : S = .slice A n c) (w : World) : Calls Tryz.prog 135 #[S] w fun e w' => ∃ p q, e = .returned (onwV p q) ∧ CutAt w' p q S 0 ∧ w.heap.size ≤ p ∧ w.heap.size ≤ q ∧ p ≠ q ∧ p < w'.heap.size ∧ q < w'.heap.size ∧ Below w.heap.size w w' := by
  subst hS
  have hmf : ∀ (fn : Fn) (first cap : Array Value) (w : World), (Instr.makeFunc fn first cap).run Tryz.prog w = .ok (.func fn first cap) w := fun _ _ _ _ => rfl
  go_enter Tryz.func135, Tryz.ntmps135
  go_wp2
  go_ret
  have e1 := World.size_alloc (w := w) (o := Obj.cells #[Value.slice A n c] 100)
  refine ⟨w.heap.size + 1, w.heap.size, rfl, ⟨?_, ?_⟩, by omega, by omega, by omega, ?_, ?_, ?_⟩
  · have := heap_alloc_new (w.alloc (.cells #[.slice A n c] 100)) (.cells #[.int .i64 0] 3)
    rwa [e1] at this
  · exact aX (heap_alloc_new w _) _
  · simp only [World.size_alloc]; omega
  · simp only [World.size_alloc]; omega
  · exact ((Below.refl _ w).alloc (Nat.le_refl _) _).alloc (by simp only [World.size_alloc]; omega) _
theorem cut_sl (g off n c : Nat) (w : World) {i j : Nat} (h1 : i < j) (h2 : j ≤ n) (h3 : n ≤ c) : (Instr.sliceAt 100 (.slice (some ⟨g, off, none⟩) n c) (some (.int .i64 (i : Int))) (some (.int .i64 (j : Int))) (some (.int .i64 (j : Int)))).run Tryz.prog w = .ok (.slice (some ⟨g, off + i, none⟩) (j - i) (j - i)) w := by
  have e1 : (0 ≤ (j : Int) ∧ (j : Int) ≤ (c : Int)) := by omega
  have e2 : (0 ≤ (j : Int) ∧ (j : Int) ≤ (j : Int)) := by omega
  have e3 : (0 ≤ (i : Int) ∧ (i : Int) ≤ (j : Int)) := by omega
  have e4 : j ≠ i := by omega
  have e5 : i ≤ j := by omega
  have e6 : j ≤ c := by omega
  simp [Instr.sliceAt, Instr.slice, Instr.sliceBounds, Instr.sliceBound, Instr.sureAddr, asIntOf, run_underlying Tryz.underlying100, Tryz.sizeOf5, Addr.add_mid, e1, e2, e3, e4, e5, e6]
set_option maxHeartbeats 1000000 in
theorem onw1 (p q g off n c k s : Nat) (w : World) (h : CutAt w p q (.slice (some ⟨g, off, none⟩) n c) k) (hpq : p ≠ q) (hs : 0 < s) (hk : k + s ≤ n) (hc : n ≤ c) (hn : n ≤ 1000000) :
    Calls Tryz.prog 146 #[.int .i64 (s : Int), .pointer (some ⟨p, 0, none⟩), .pointer (some ⟨q, 0, none⟩)] w fun e w' => e = .returned (.slice (some ⟨g, off + k, none⟩) s s) ∧ CutAt w' p q (.slice (some ⟨g, off, none⟩) n c) (k + s) ∧ w.grownBy w' (some p) := by
  obtain ⟨h1, h2⟩ := h
  obtain ⟨a1, a2⟩ := cell1 h1
  obtain ⟨b1, b2⟩ := cell1 h2
  have s1 := set1 h1 (.int .i64 ((k : Int) + s))
  have s2 : (w.setCell ⟨p, 0, none⟩ (.int .i64 ((k : Int) + s))).heap[q]? = some (.cells #[.slice (some ⟨g, off, none⟩) n c] 100 (0, 0)) := (heap_setCell_other w ⟨p, 0, none⟩ q _ (fun e => hpq e.symm)).trans h2
  have d1 := (cell1 s1).1
  have d2 := (cell1 s2).1
  have hg := grown_set w p 0 (.int .i64 ((k : Int) + s))
  have S1 := Lib.hid s1
  have S2 := Lib.hid s2
  have HG := Lib.hid hg
  have HCUT : Hid (∀ w : World, (Instr.sliceAt 100 (.slice (some ⟨g, off, none⟩) n c) (some (.int .i64 (k : Int))) (some (.int .i64 ((k : Int) + (s : Int)))) (some (.int .i64 ((k : Int) + (s : Int))))).run Tryz.prog w = .ok (.slice (some ⟨g, off + k, none⟩) s s) w) := Lib.hid fun w => by
    have := cut_sl g off n c w (i := k) (j := k + s) (by omega) hk hc
    rw [show k + s - k = s from by omega] at this
    exact this
  clear h1 h2 s1 s2 hg b1 b2
  go_enter Tryz.func146, Tryz.ntmps146
  go_wp2_with (first | (refine af rfl (dH rfl rfl rfl rfl rfl (HCUT.out _)) ?_) | fail)
  go_ret
  exact ⟨rfl, ⟨S1.out, S2.out⟩, HG.out⟩
structure LayW (B : Nat) (w0 w : World) (x : Sup) (sb rb r nb p q g : Nat) (a : List UInt8) : Prop where
  sup : bQ w sb x
  ros : a7 w rb x.ros
  res : bF w r 161 z44
  nxt : w.heap[nb]? = some (.cells #[onwV p q] 167 (0, 0))
  cut : CutAt w p q (.slice (some ⟨g, 0, none⟩) 44 44) a.length
  row : bF w g 161 (padL a)
  bel : Below B w0 w
  p0 : B ≤ p
  g0 : B ≤ g
  dif : sb ≠ p ∧ sb ≠ g ∧ rb ≠ p ∧ rb ≠ g ∧ r ≠ p ∧ r ≠ g ∧ nb ≠ p ∧ nb ≠ g ∧ p ≠ q ∧ p ≠ g ∧ q ≠ g
section
variable {B : Nat} {w0 w w' : World} {x : Sup} {sb rb r nb p q g : Nat} {a b : List UInt8}
theorem LayW.keep (h : LayW B w0 w x sb rb r nb p q g a) (hb : Below w.heap.size w w') (hB : B ≤ w0.heap.size) : LayW B w0 w' x sb rb r nb p q g a :=
  ⟨aj h.sup hb, aj h.ros hb, aj h.res hb, aj h.nxt hb, ⟨aj h.cut.1 hb, aj h.cut.2 hb⟩, aj h.row hb, h.bel.trans (hb.mono (Nat.le_trans hB h.bel.size)), h.p0, h.g0, h.dif⟩
theorem LayW.cutR (h : LayW B w0 w x sb rb r nb p q g a) (hc : CutAt w' p q (.slice (some ⟨g, 0, none⟩) 44 44) b.length) (hr : bF w' g 161 (padL b)) (hg : ∃ w1, w.grownBy w1 (some p) ∧ w1.grownBy w' (some g)) (hB : B ≤ w0.heap.size) : LayW B w0 w' x sb rb r nb p q g b := by
  obtain ⟨w1, k1, k2⟩ := hg
  obtain ⟨d1, d2, d3, d4, d5, d6, d7, d8, d9, d10, d11⟩ := h.dif
  have hb1 : Below B w0 w1 := h.bel.grown k1 (Nat.le_trans hB h.bel.size) (fun k hk => by injection hk with e; have := h.p0; omega)
  have hb2 : Below B w0 w' := hb1.grown k2 (Nat.le_trans hB hb1.size) (fun k hk => by injection hk with e; have := h.g0; omega)
  exact ⟨bp (bp h.sup k1 d1) k2 d2, bp (bp h.ros k1 d3) k2 d4, bp (bp h.res k1 d5) k2 d6, bp (bp h.nxt k1 d7) k2 d8, hc, hr, hb2, h.p0, h.g0, h.dif⟩
end
theorem Made.kept1 {w w' : World} {B : Nat} {v : Value} {l : List UInt8} {row : Option Nat} (h : Made w B v l) (hg : w.grownBy w' row) (hne : ∀ k, row = Option.some k → k < B) : Made w' B v l := by
  refine ⟨h.1, ?_⟩
  rcases h.2 with hn | ⟨g, cap, cur, rfl, hbg, hgg, rest⟩
  · exact .inl hn
  · refine .inr ⟨g, cap, cur, rfl, hbg, ?_, rest⟩
    rw [hg.block g (Array.getElem?_eq_some_iff.1 hgg).1 (fun e => by have := hne g e.symm; omega)]
    exact hgg
set_option maxHeartbeats 1000000 in
theorem lay1 (B : Nat) (w0 w : World) (x : Sup) (sb rb r nb p q g : Nat) (a : List UInt8) (n k : Nat) (h : LayW B w0 w x sb rb r nb p q g a) (hB : B ≤ w0.heap.size) (h1 : 1 ≤ k) (h2 : k ≤ 8) (hk : a.length + k ≤ 44) (hn : n < 256 ^ k) :
    Calls Tryz.prog 136 #[.int .u64 n, .int .i64 k, .pointer (some ⟨nb, 0, none⟩)] w fun e w' => e = .returned (.tuple #[]) ∧ LayW B w0 w' x sb rb r nb p q g (a ++ aN 8 k n) := by
  have HH := Lib.hid h
  have HL := Lib.hid (av 8 k n)
  have HSP := Lib.hid (splice_pad (a := a) (x := aN 8 k n) (by rw [av]; exact hk))
  have HPL := Lib.hid (cO (b := a) (by omega))
  have HPP := Lib.hid (aF h.cut.1)
  clear h
  go_enter Tryz.func136, Tryz.ntmps136
  go_wp2_with fail
  refine (put_ok n k w h1 h2 hn).mono ?_
  rintro e w1 ⟨v, rfl, hv, hb⟩
  have hvm := hv.made
  obtain ⟨A, c, rfl, _, _, _⟩ := hvm.open_ HL.out
  have HV := Lib.hid hvm
  have H1 := Lib.hid (HH.out.keep hb hB)
  have c0 := (cell1 H1.out.nxt).1
  unfold onwV at c0
  clear hv hvm hb HH
  go_wp2_with fail
  refine (onw1 p q g 0 44 44 a.length k w1 H1.out.cut H1.out.dif.2.2.2.2.2.2.2.2.1 h1 hk (Nat.le_refl _) (by omega)).mono ?_
  rintro e w2 ⟨rfl, hc2, hg2⟩
  clear c0
  have HC2 := Lib.hid hc2
  have HG2 := Lib.hid hg2
  have HROW2 : Hid (bF w2 g 161 (padL a)) := Lib.hid (bp H1.out.row hg2 (fun e => H1.out.dif.2.2.2.2.2.2.2.2.2.1 e.symm))
  have HRD2 : Hid (Rd w2 w2.heap.size A k (aN 8 k n)) := Lib.hid (by
    have := (HV.out.kept1 hg2 (fun j hj => by injection hj with e; have := HPP.out; omega)).rd
    exact this)
  clear hc2 hg2
  go_wp2_with (first | (refine cQ rfl _ _ rfl g a.length k k k c _ A 161 (padL a) (aN 8 k n) rfl rfl HROW2.out HRD2.out (Nat.le_refl _) ?_ ?_) | fail)
  · rw [HPL.out]; omega
  intro w3 hr3 hg3
  rw [HSP.out] at hr3
  have hdf := H1.out.dif
  have hc3 : CutAt w3 p q (.slice (some ⟨g, 0, none⟩) 44 44) (a ++ aN 8 k n).length := by
    rw [List.length_append, HL.out]
    exact ⟨bp HC2.out.1 hg3 hdf.2.2.2.2.2.2.2.2.2.1, bp HC2.out.2 hg3 hdf.2.2.2.2.2.2.2.2.2.2⟩
  have H3 := Lib.hid (H1.out.cutR hc3 hr3 ⟨w2, HG2.out, hg3⟩ hB)
  clear hr3 hg3 hdf hc3
  go_wp2_with fail
  go_end0
  exact ⟨rfl, H3.out⟩
section
variable {ρ : Operand → Value} {o : Oper} {x z : Operand} {w : World} {g off : Nat}
theorem exec_all44 (ho : o.op = .slice 161 x none none none) (hx : ρ x = .pointer (some ⟨g, off, none⟩)) : (execOp ρ o).run Tryz.prog w = .ok (.value (.slice (some ⟨g, off, none⟩) 44 44)) w := by
  have h : (Instr.sliceAt 161 (.pointer (some ⟨g, off, none⟩)) none none none).run Tryz.prog w = .ok (.slice (some ⟨g, off, none⟩) 44 44) w := by
    simp [Instr.sliceAt, Instr.sliceBounds, Instr.sliceBound, Instr.sureAddr, asIntOf, run_underlying Tryz.underlying161, Tryz.sizeOf5, Addr.add_mid]
  unfold execOp
  simp only [ho, hx, Option.map_none, Sem.run_bind, h, Result.andThen_ok, Sem.run_pure]
end
theorem a7.rd16 {w : World} {b : Nat} {x : Ros} (h : a7 w b x) : Rd w w.heap.size (some ⟨b, 3, none⟩) 16 x.st.toList := by
  have := h.rd (m := 16) (Nat.le_refl _)
  rwa [List.take_of_length_le (by simp)] at this
theorem layW_start {w w1 w2 : World} {x : Sup} {p q : Nat} (HS : bQ w1 w.heap.size x) (HB : Below w.heap.size w w1) (HRES : bF w1 (w.heap.size + 1) 161 z44) (HROW : bF w1 (w.heap.size + 1 + 1) 161 z44)
    (hb : Below w1.heap.size w1 w2) (hc : CutAt w2 p q (.slice (some ⟨w.heap.size + 1 + 1, 0, none⟩) 44 44) 0) (hd : w1.heap.size ≤ p ∧ w1.heap.size ≤ q ∧ p ≠ q ∧ p < w2.heap.size ∧ q < w2.heap.size) :
    LayW w.heap.size w ((w2.alloc (.cells #[onwV p q] 167)).alloc (.cells (aD x.ros).toArray 28)) x w.heap.size (w2.heap.size + 1) (w.heap.size + 1) w2.heap.size p q (w.heap.size + 1 + 1) [] := by
  have e1 := World.size_alloc (w := w2) (o := Obj.cells #[onwV p q] 167)
  have h2 := aF HROW
  have h3 := hb.size
  have hro := a7.new (w2.alloc (.cells #[onwV p q] 167)) x.ros
  rw [e1] at hro
  have hb2 : Below w.heap.size w w2 := HB.trans (hb.mono HB.size)
  refine ⟨((HS.below (aF HS) hb).past _).past _, hro, aX (aX (aj HRES hb) _) _, aX (heap_alloc_new w2 _) _, ⟨aX (aX hc.1 _) _, aX (aX hc.2 _) _⟩, aX (aX (aj HROW hb) _) _, (hb2.alloc (by omega) _).alloc (by rw [e1]; omega) _, ?_, ?_, ?_⟩
  · omega
  · omega
  · refine ⟨?_, ?_, ?_, ?_, ?_, ?_, ?_, ?_, ?_, ?_, ?_⟩ <;> omega
theorem padL_zero {a : List UInt8} (h : a.length < 44) : padL (a ++ aN 8 1 0) = padL a := by
  unfold padL
  have e : aN 8 1 0 = [0] := by decide
  rw [e, List.append_assoc, List.length_append, List.length_singleton]
  congr 1
  rw [show 44 - a.length = (44 - (a.length + 1)) + 1 from by omega, List.replicate_succ]
  rfl
theorem full_yes {x : Sup} (h : x.ros.gone = true) : padL (aN 8 8 x.id ++ aN 8 1 x.ros.m.toNat ++ aN 8 2 x.ros.s.toNat ++ aN 8 2 x.ros.r.toNat ++ aN 8 1 x.self.toNat ++ aN 8 4 (val 2 x.ros.st.toList) ++ aN 8 2 x.ros.cur.toNat ++ aN 8 1 1) = bz x := by
  unfold bz c8 goneN
  rw [h]
  simp only [List.append_assoc, if_true]
theorem full_no {x : Sup} (h : x.ros.gone = false) : padL (aN 8 8 x.id ++ aN 8 1 x.ros.m.toNat ++ aN 8 2 x.ros.s.toNat ++ aN 8 2 x.ros.r.toNat ++ aN 8 1 x.self.toNat ++ aN 8 4 (val 2 x.ros.st.toList) ++ aN 8 2 x.ros.cur.toNat) = bz x := by
  rw [← padL_zero (by simp [av])]
  unfold bz c8 goneN
  rw [h]
  simp only [List.append_assoc, Bool.false_eq_true, if_false]
set_option maxHeartbeats 4000000 in
theorem plaid (x : Sup) (w : World) (hid : x.id < 18446744073709551616) (hx : supB x = true) : Calls Tryz.prog 129 #[sup x] w fun e w' => e = .returned (arr (bz x)) ∧ Below w.heap.size w w' := by
  obtain ⟨_, hf, q1, q2⟩ := of_supB hx
  obtain ⟨hgeo, hsta, _, q3, q4, _⟩ := cF hf
  obtain ⟨g1, g2, g3, g4, g5, g6⟩ := dj hgeo
  have HNAR : Hid (narrow 2 x.ros.st.toList = true) := Lib.hid (by
    unfold narrow
    rw [List.all_eq_true]
    intro u hu
    simpa using st_small hsta u hu)
  have HSMALL := Lib.hid (sta_val hsta)
  obtain ⟨M, hM⟩ : ∃ M : Nat, x.ros.m.toNat = M := ⟨_, rfl⟩
  obtain ⟨T, hT⟩ : ∃ T : Nat, x.ros.s.toNat = T := ⟨_, rfl⟩
  obtain ⟨R, hR⟩ : ∃ R : Nat, x.ros.r.toNat = R := ⟨_, rfl⟩
  obtain ⟨E, hE⟩ : ∃ E : Nat, x.self.toNat = E := ⟨_, rfl⟩
  obtain ⟨C, hC⟩ : ∃ C : Nat, x.ros.cur.toNat = C := ⟨_, rfl⟩
  have HCR : Hid (∀ w' rb, a7 w' rb x.ros → w'.cell? ⟨rb, 0, none⟩ = some (.int .i64 (M : Nat)) ∧ w'.cell? ⟨rb, 1, none⟩ = some (.int .i64 (T : Nat)) ∧ w'.cell? ⟨rb, 2, none⟩ = some (.int .i64 (R : Nat)) ∧ w'.cell? ⟨rb, 19, none⟩ = some (.int .i64 (C : Nat)) ∧ w'.cell? ⟨rb, 20, none⟩ = some (.bool x.ros.gone)) := Lib.hid fun w' rb h => by
    have := h.cells
    rw [show x.ros.m = (M : Int) from by omega, show x.ros.s = (T : Int) from by omega, show x.ros.r = (R : Int) from by omega, show x.ros.cur = (C : Int) from by omega] at this
    exact this
  have HCS : Hid (∀ w' sb, bQ w' sb x → w'.cell? ⟨sb, 0, none⟩ = some (.int .u64 x.id) ∧ w'.cell? ⟨sb, 1, none⟩ = some (.int .i64 (E : Nat))) := Lib.hid fun w' sb h => by
    have := h.cells
    rw [show x.self = (E : Int) from by omega] at this
    exact ⟨this.1, this.2.1⟩
  have hM16 : M ≤ 16 := by omega
  have hT64 : T ≤ 64 := by omega
  have hR256 : R ≤ 256 := by omega
  have hE16 : E ≤ 16 := by omega
  have hC64 : C ≤ 64 := by omega
  have HYES := fun h => Lib.hid (full_yes (x := x) h)
  have HNO := fun h => Lib.hid (full_no (x := x) h)
  rw [hM, hT, hR, hE, hC] at HYES HNO
  clear hf q1 q2 hgeo hsta q3 q4 g1 g2 g3 g4 g5 g6 hM hT hR hE hC hx
  have hmf : ∀ (fn : Fn) (first cap : Array Value) (w : World), (Instr.makeFunc fn first cap).run Tryz.prog w = .ok (.func fn first cap) w := fun _ _ _ _ => rfl
  obtain ⟨h1, h2, h3⟩ := boxS_new w x
  have HS := Lib.hid ((h1.past (.cells (vals z44).toArray 161)).past (.cells (vals z44).toArray 161))
  have hb2 := h2.alloc h2.size (.cells (vals z44).toArray 161)
  have HB := Lib.hid (hb2.alloc hb2.size (.cells (vals z44).toArray 161))
  have hr := bF.new (w.alloc (.cells (aY x).toArray 62)) z44 161
  rw [World.size_alloc] at hr
  have HRES := Lib.hid (hr.past (.cells (vals z44).toArray 161))
  have hg := bF.new ((w.alloc (.cells (aY x).toArray 62)).alloc (.cells (vals z44).toArray 161)) z44 161
  rw [World.size_alloc, World.size_alloc] at hg
  have HROW := Lib.hid hg
  clear h1 h2 h3 hb2 hr hg
  go_enter Tryz.func129, Tryz.ntmps129
  go_wp2_with (first | (refine af rfl (exec_boxS rfl rfl) ?_) | (refine af rfl (exec_alloc44 rfl) ?_) | (refine af rfl (exec_all44 rfl rfl) ?_) | fail)
  try simp only [World.size_alloc]
  generalize ((w.alloc (.cells (aY x).toArray 62)).alloc (.cells (vals z44).toArray 161)).alloc (.cells (vals z44).toArray 161) = w1 at *
  refine (onward_any (.slice (some ⟨w.heap.size + 1 + 1, 0, none⟩) 44 44) _ 44 44 rfl w1).mono ?_
  rintro e w2 ⟨p, q, rfl, hc, hp0, hq0, hpq, hp1, hq1, hb⟩
  have hsz : w.heap.size + 1 + 1 < w2.heap.size := by have := aF HROW.out; have := hb.size; omega
  have HS2 := Lib.hid ((HS.out.below (aF HS.out) hb).past (.cells #[onwV p q] 167))
  have HW0 := Lib.hid (layW_start HS.out HB.out HRES.out HROW.out hb hc ⟨hp0, hq0, hpq, hp1, hq1⟩)
  have HR0 : Hid (w.heap.size ≤ w.heap.size + 1) := Lib.hid (Nat.le_succ _)
  clear hb hc hp0 hq0 hpq hp1 hq1 HS HB HRES HROW
  unfold onwV at HS2 HW0 ⊢
  go_upto_region 5 with (first | (refine af rfl (aM (c := x.ros) rfl rfl ?_) ?_; (with_reducible exact HS2.out.rosr)) | (refine af rfl (bL rfl) ?_) | (refine aw rfl (exec_fillR rfl rfl rfl) ?_) | fail)
  try simp only [World.size_alloc]
  generalize ((w2.alloc (.cells #[Value.func (.func 146) #[] #[.pointer (some ⟨p, 0, none⟩), .pointer (some ⟨q, 0, none⟩)]] 167)).alloc (.cells (aD x.ros).toArray 28)) = w3 at *
  try simp only [World.size_alloc]
  generalize w2.heap.size = nb at *
  generalize w.heap.size + 1 + 1 = g at *
  generalize w.heap.size + 1 = r at *
  obtain ⟨B, hBdef⟩ : ∃ B, w.heap.size = B := ⟨_, rfl⟩
  have HBD := Lib.hid hBdef
  rw [hBdef] at HW0 HR0 ⊢
  clear hBdef HS2 hsz
  obtain ⟨c0, c1⟩ := HCS.out _ _ HW0.out.sup
  obtain ⟨d0, d1, d2, d3, d4⟩ := HCR.out _ _ HW0.out.ros
  go_wp2_with fail
  refine (lay1 B w w3 x B (nb + 1) r nb p q g _ x.id 8 HW0.out (Nat.le_of_eq HBD.out.symm) (by omega) (by omega) (by simp [av]) (by simpa using hid)).mono ?_
  rintro e w4 ⟨rfl, hW⟩
  have HW1 := Lib.hid hW
  clear hW c0 c1 d0 d1 d2 d3 d4 HW0
  obtain ⟨c0, c1⟩ := HCS.out _ _ HW1.out.sup
  obtain ⟨d0, d1, d2, d3, d4⟩ := HCR.out _ _ HW1.out.ros
  go_wp2_with fail
  refine (lay1 B w w4 x B (nb + 1) r nb p q g _ M 1 HW1.out (Nat.le_of_eq HBD.out.symm) (by omega) (by omega) (by simp [av]) (by omega)).mono ?_
  rintro e w5 ⟨rfl, hW⟩
  have HW2 := Lib.hid hW
  clear hW c0 c1 d0 d1 d2 d3 d4 HW1
  obtain ⟨c0, c1⟩ := HCS.out _ _ HW2.out.sup
  obtain ⟨d0, d1, d2, d3, d4⟩ := HCR.out _ _ HW2.out.ros
  go_wp2_with fail
  refine (lay1 B w w5 x B (nb + 1) r nb p q g _ T 2 HW2.out (Nat.le_of_eq HBD.out.symm) (by omega) (by omega) (by simp [av]) (by omega)).mono ?_
  rintro e w6 ⟨rfl, hW⟩
  have HW3 := Lib.hid hW
  clear hW c0 c1 d0 d1 d2 d3 d4 HW2
  obtain ⟨c0, c1⟩ := HCS.out _ _ HW3.out.sup
  obtain ⟨d0, d1, d2, d3, d4⟩ := HCR.out _ _ HW3.out.ros
  go_wp2_with fail
  refine (lay1 B w w6 x B (nb + 1) r nb p q g _ R 2 HW3.out (Nat.le_of_eq HBD.out.symm) (by omega) (by omega) (by simp [av]) (by omega)).mono ?_
  rintro e w7 ⟨rfl, hW⟩
  have HW4 := Lib.hid hW
  clear hW c0 c1 d0 d1 d2 d3 d4 HW3
  obtain ⟨c0, c1⟩ := HCS.out _ _ HW4.out.sup
  obtain ⟨d0, d1, d2, d3, d4⟩ := HCR.out _ _ HW4.out.ros
  go_wp2_with fail
  refine (lay1 B w w7 x B (nb + 1) r nb p q g _ E 1 HW4.out (Nat.le_of_eq HBD.out.symm) (by omega) (by omega) (by simp [av]) (by omega)).mono ?_
  rintro e w8 ⟨rfl, hW⟩
  have HW5 := Lib.hid hW
  clear hW c0 c1 d0 d1 d2 d3 d4 HW4
  have HRD := Lib.hid HW5.out.ros.rd16
  go_wp2_with (first | (refine af rfl (exec_all16 rfl rfl) ?_) | fail)
  refine (bits_ok _ 16 16 _ 2 _ x.ros.st.toList w8 (Lib.hid rfl) HRD.out (Nat.le_refl _) (by omega) (by omega) (by omega) HNAR.out).mono ?_
  rintro e w9 ⟨v, rfl, hv, hb⟩
  rw [show bytesOf 16 2 = 4 from rfl] at hv
  have hvm := hv.made
  obtain ⟨A, c, rfl, _, _, _⟩ := hvm.open_ (av 8 4 _)
  have HV := Lib.hid hvm
  have HW6 := Lib.hid (HW5.out.keep hb (Nat.le_of_eq HBD.out.symm))
  have HPP := Lib.hid (aF HW5.out.cut.1)
  have n0 := (cell1 HW6.out.nxt).1
  unfold onwV at n0
  clear hv hvm hb HRD HW5
  go_wp2_with fail
  refine (onw1 p q g 0 44 44 _ 4 w9 HW6.out.cut HW6.out.dif.2.2.2.2.2.2.2.2.1 (by omega) (by simp [av]) (Nat.le_refl _) (by omega)).mono ?_
  rintro e w10 ⟨rfl, hc2, hg2⟩
  clear n0
  have HC2 := Lib.hid hc2
  have HG2 := Lib.hid hg2
  have HROW2 := Lib.hid (bp HW6.out.row hg2 (fun e => HW6.out.dif.2.2.2.2.2.2.2.2.2.1 e.symm))
  have HRD2 : Hid (Rd w10 w10.heap.size A 4 (aN 8 4 (val 2 x.ros.st.toList))) := Lib.hid (by
    have := (HV.out.kept1 hg2 (fun j hj => by injection hj with e; have := HPP.out; omega)).rd
    exact this)
  clear hc2 hg2
  obtain ⟨a, ha⟩ : ∃ a, [] ++ aN 8 8 x.id ++ aN 8 1 M ++ aN 8 2 T ++ aN 8 2 R ++ aN 8 1 E = a := ⟨_, rfl⟩
  have hal : a.length = 14 := by rw [← ha]; simp [av]
  rw [ha] at HC2 HROW2 HW6
  have HA := Lib.hid ha
  have HAL := Lib.hid hal
  clear ha
  rw [hal] at HC2
  go_wp2_with (first | (refine cQ rfl _ _ rfl g 14 4 4 4 c _ A 161 (padL a) (aN 8 4 (val 2 x.ros.st.toList)) rfl rfl HROW2.out HRD2.out (Nat.le_refl _) ?_ ?_) | fail)
  · rw [cO (by omega)]; omega
  intro w11 hr3 hg3
  rw [← hal, splice_pad (by rw [hal, av]; omega)] at hr3
  have hdf := HW6.out.dif
  have hc3 : CutAt w11 p q (.slice (some ⟨g, 0, none⟩) 44 44) (a ++ aN 8 4 (val 2 x.ros.st.toList)).length := by
    rw [List.length_append, av, hal]
    exact ⟨bp HC2.out.1 hg3 hdf.2.2.2.2.2.2.2.2.2.1, bp HC2.out.2 hg3 hdf.2.2.2.2.2.2.2.2.2.2⟩
  have HW7 := Lib.hid (HW6.out.cutR hc3 hr3 ⟨w10, HG2.out, hg3⟩ (Nat.le_of_eq HBD.out.symm))
  clear hr3 hg3 hdf hc3 HW6 HC2 HG2 HROW2 HRD2 HV HPP
  obtain ⟨d0, d1, d2, d3, d4⟩ := HCR.out _ _ HW7.out.ros
  go_wp2_with fail
  refine (lay1 B w w11 x B (nb + 1) r nb p q g _ C 2 HW7.out (Nat.le_of_eq HBD.out.symm) (by omega) (by omega) (by rw [List.length_append, av]; omega) (by omega)).mono ?_
  rintro e w12 ⟨rfl, hW⟩
  have HW8 := Lib.hid hW
  clear hW d0 d1 d2 d3 d4 HW7
  have d4 := (HCR.out _ _ HW8.out.ros).2.2.2.2
  cases hgn : x.ros.gone
  · have HF := HNO hgn
    rw [hgn] at d4
    have HL := Lib.hid HW8.out.row
    rw [← HA.out] at HL
    simp only [List.nil_append] at HL
    rw [HF.out] at HL
    have HLR := Lib.hid (aL HL.out)
    have HTH := Lib.hid (cE (o := 0) (n := 44) HW8.out.res (by rw [aO]; exact Nat.le_refl _))
    have HBB := Lib.hid HW8.out.bel
    have HFL := Lib.hid (bY x)
    clear HYES HNO HF hgn
    go_wp2_with (first | (refine af rfl (dR HFL.out rfl rfl ?_) ?_; (with_reducible exact HLR.out)) | (refine aw rfl (exec_putT (cs := vals (bz x)) ?k1 (vals_one _) rfl rfl rfl ?k2) ?_; (case k1 => rw [aO, HFL.out]; exact size44); (case k2 => rw [aO, HFL.out]; exact HTH.out)) | fail)
    refine bodyPost_ret (res_rng (t := 161) (cs := vals (bz x)) rfl _ _ r rfl ?h1 Tryz.underlying161 rfl ?h2) rfl ⟨rfl, ?h3⟩
    case h1 => exact World.rangeAt_setCells_same _ _ _ _ (by rw [aO, HFL.out]; exact HTH.out)
    case h2 => rw [aO, HFL.out]; exact size44
    case h3 => rw [HBD.out]; exact below_setCells HBB.out HR0.out _
  · have HF := HYES hgn
    rw [hgn] at d4
    go_wp2_with fail
    refine (lay1 B w w12 x B (nb + 1) r nb p q g _ 1 1 HW8.out (Nat.le_of_eq HBD.out.symm) (by omega) (by omega) (by rw [List.length_append, List.length_append, av, av]; have := HAL.out; omega) (by omega)).mono ?_
    rintro e w13 ⟨rfl, hW⟩
    have HW9 := Lib.hid hW
    clear hW d4 HW8
    have HL := Lib.hid HW9.out.row
    rw [← HA.out] at HL
    simp only [List.nil_append] at HL
    rw [HF.out] at HL
    have HLR := Lib.hid (aL HL.out)
    have HTH := Lib.hid (cE (o := 0) (n := 44) HW9.out.res (by rw [aO]; exact Nat.le_refl _))
    have HBB := Lib.hid HW9.out.bel
    have HFL := Lib.hid (bY x)
    clear HYES HNO HF hgn
    go_wp2_with (first | (refine af rfl (dR HFL.out rfl rfl ?_) ?_; (with_reducible exact HLR.out)) | (refine aw rfl (exec_putT (cs := vals (bz x)) ?k1 (vals_one _) rfl rfl rfl ?k2) ?_; (case k1 => rw [aO, HFL.out]; exact size44); (case k2 => rw [aO, HFL.out]; exact HTH.out)) | fail)
    refine bodyPost_ret (res_rng (t := 161) (cs := vals (bz x)) rfl _ _ r rfl ?h1 Tryz.underlying161 rfl ?h2) rfl ⟨rfl, ?h3⟩
    case h1 => exact World.rangeAt_setCells_same _ _ _ _ (by rw [aO, HFL.out]; exact HTH.out)
    case h2 => rw [aO, HFL.out]; exact size44
    case h3 => rw [HBD.out]; exact below_setCells HBB.out HR0.out _
theorem set_tail (y : Ros) (j : Nat) (v : Value) : (vals y.st.toList ++ [Value.int .i64 y.cur, Value.bool y.gone]).set (16 + j) v = vals y.st.toList ++ [Value.int .i64 y.cur, Value.bool y.gone].set j v := by
  rw [List.set_append_right _ _ (by simp [aO])]
  congr 2
  simp [aO]
theorem celS_mk (id : Nat) (self m s r : Int) (st : Vector UInt8 16) (cur : Int) (gone : Bool) : aY ⟨id, self, ⟨m, s, r, st, cur, gone⟩⟩ = Value.int .u64 id :: Value.int .i64 self :: Value.int .i64 m :: Value.int .i64 s :: Value.int .i64 r :: (vals st.toList ++ [Value.int .i64 cur, Value.bool gone]) := rfl
section
variable (y : Sup)
theorem setS_id (n : Nat) : (aY y).set 0 (.int .u64 n) = aY { y with id := n } := rfl
theorem setS_self (n : Int) : (aY y).set 1 (.int .i64 n) = aY { y with self := n } := rfl
theorem setS_m (n : Int) : (aY y).set 2 (.int .i64 n) = aY { y with ros := { y.ros with m := n } } := rfl
theorem setS_s (n : Int) : (aY y).set 3 (.int .i64 n) = aY { y with ros := { y.ros with s := n } } := rfl
theorem setS_r (n : Int) : (aY y).set 4 (.int .i64 n) = aY { y with ros := { y.ros with r := n } } := rfl
theorem setS_cur (n : Int) : (aY y).set 21 (.int .i64 n) = aY { y with ros := { y.ros with cur := n } } := by
  show Value.int .u64 y.id :: Value.int .i64 y.self :: Value.int .i64 y.ros.m :: Value.int .i64 y.ros.s :: Value.int .i64 y.ros.r :: (vals y.ros.st.toList ++ [Value.int .i64 y.ros.cur, Value.bool y.ros.gone]).set (16 + 0) (.int .i64 n) = _
  rw [set_tail]
  rfl
theorem setS_gone (b : Bool) : (aY y).set 22 (.bool b) = aY { y with ros := { y.ros with gone := b } } := by
  show Value.int .u64 y.id :: Value.int .i64 y.self :: Value.int .i64 y.ros.m :: Value.int .i64 y.ros.s :: Value.int .i64 y.ros.r :: (vals y.ros.st.toList ++ [Value.int .i64 y.ros.cur, Value.bool y.ros.gone]).set (16 + 1) (.bool b) = _
  rw [set_tail]
  rfl
theorem splS_st {l : List UInt8} (h : l.length = 16) : splice (aY y) 5 (vals l) = aY { y with ros := { y.ros with st := ofSt l } } := by
  obtain ⟨id, self, m, s, r, st, cur, gone⟩ := y
  show splice (aY ⟨id, self, ⟨m, s, r, st, cur, gone⟩⟩) 5 (vals l) = aY ⟨id, self, ⟨m, s, r, ofSt l, cur, gone⟩⟩
  have h2 : (vals st.toList).length = 16 := by simp [aO]
  rw [celS_mk, celS_mk, toList_ofSt h]
  generalize vals st.toList = z at *
  unfold splice
  rw [aO, h, show 5 + 16 = 16 + 1 + 1 + 1 + 1 + 1 from rfl]
  simp only [List.drop_succ_cons, List.take_succ_cons, List.take_zero]
  rw [List.drop_append_of_le_length (by omega), List.drop_of_length_le (by omega)]
  rfl
end
theorem bQ.set {w : World} {s j : Nat} {y y' : Sup} {v : Value} (h : bQ w s y) (e : (aY y).set j v = aY y') : bQ (w.setCell ⟨s, j, none⟩ v) s y' := by
  have := heap_setCell_same w s j (aY y).toArray 62 v h
  rw [List.setIfInBounds_toArray, e] at this
  exact this
theorem bQ.free {w : World} {s : Nat} {y : Sup} (h : bQ w s y) (j : Nat) : w.frozen? ⟨s, j, none⟩ = false := frozen_of_row w s j _ _ h
theorem wpList_copyC {w : World} {ops : Array Oper} {rest : List Oper} {o : Oper} {a : Act} {Q : Exit → Act → World → Prop} (hgd : o.guard = none) (d s : Operand)
    (ho : o.op = .call { callee := .builtin .copy, args := #[d, s], argTypes := #[100, 100] }) (g off n c c' N : Nat) (A : Option Addr) (t : TypeId) (cs : List Value) (x : List UInt8)
    (hd : a.eval d = .slice (some ⟨g, off, none⟩) n c) (hs : a.eval s = .slice A n c') (hS : w.heap[g]? = some (.cells cs.toArray t (0, 0))) (hr : Rd w N A n x) (hn : 0 < n) (hfit : off + n ≤ cs.length)
    (h : ∀ w', w'.heap[g]? = some (.cells (splice cs off (vals x)).toArray t (0, 0)) → w.grownBy w' (some g) → wpList Tryz.prog ops Q rest (a.put o.dst (goInt n)) w') : wpList Tryz.prog ops Q (o :: rest) a w := by
  have hx := hr.1
  obtain ⟨ad, rfl⟩ : ∃ ad, A = some ad := by
    obtain ⟨b, off, e, _⟩ := hr.2 0 hn
    exact ⟨_, e⟩
  have hcl : (vals x).length = n := by rw [aO, hx]
  refine wpList_copy_own hgd d s _ _ ho 5 Tryz.underlying100 (by kernel_rfl) g off n c ad n c' hd hs _ t hS (vals x) (by rw [hcl]; exact (Nat.min_self n).symm) (fun j v hj => ?_) (by simp [hcl]; omega) (vals_one x) ?_
  · have hlt : j < n := by have := (List.getElem?_eq_some_iff.1 hj).1; omega
    obtain ⟨b, o2, e, _, hc⟩ := hr.2 j hlt
    injection e with e
    subst e
    rw [Addr.add_mid, hc, ← hj, vals_at (by omega)]
  · have hrow := setRow_heap w g cs.toArray (cs.toArray.toList.take off ++ (vals x ++ cs.toArray.toList.drop (off + (vals x).length))).toArray t (0, 0) hS
    have e : cs.toArray.toList.take off ++ (vals x ++ cs.toArray.toList.drop (off + (vals x).length)) = splice cs off (vals x) := rfl
    rw [hcl]
    rw [hcl] at hrow e
    refine h _ ?_ ⟨rfl, rfl, rfl, by simp [World.setRow], fun k hk hne => setRow_other w g k _ (fun e => hne (by rw [e]))⟩
    rw [e] at hrow ⊢
    exact hrow
structure TelW (B : Nat) (w0 w : World) (g : Nat) (l : List UInt8) (s r nb p q k : Nat) (y : Sup) : Prop where
  row : bF w g 5 l
  sup : bQ w s y
  res : bQ w r br
  nxt : w.heap[nb]? = some (.cells #[onwV p q] 167 (0, 0))
  cut : CutAt w p q (.slice (some ⟨g, 0, none⟩) 44 44) k
  bel : Below B w0 w
  p0 : B ≤ p
  s0 : B ≤ s
  dif : g ≠ p ∧ s ≠ p ∧ r ≠ p ∧ nb ≠ p ∧ p ≠ q ∧ g ≠ s ∧ r ≠ s ∧ nb ≠ s ∧ p ≠ s ∧ q ≠ s
section
variable {B : Nat} {w0 w w' : World} {g s r nb p q k k' : Nat} {l : List UInt8} {y y' : Sup}
theorem TelW.keep (h : TelW B w0 w g l s r nb p q k y) (hb : Below w.heap.size w w') (hB : B ≤ w0.heap.size) : TelW B w0 w' g l s r nb p q k y :=
  ⟨aj h.row hb, aj h.sup hb, aj h.res hb, aj h.nxt hb, ⟨aj h.cut.1 hb, aj h.cut.2 hb⟩, h.bel.trans (hb.mono (Nat.le_trans hB h.bel.size)), h.p0, h.s0, h.dif⟩
theorem TelW.step (h : TelW B w0 w g l s r nb p q k y) (hc : CutAt w' p q (.slice (some ⟨g, 0, none⟩) 44 44) k') (hg : w.grownBy w' (some p)) (hB : B ≤ w0.heap.size) : TelW B w0 w' g l s r nb p q k' y := by
  obtain ⟨d1, d2, d3, d4, d5, d6, d7, d8, d9, d10⟩ := h.dif
  exact ⟨bp h.row hg d1, bp h.sup hg d2, bp h.res hg d3, bp h.nxt hg d4, hc, h.bel.grown hg (Nat.le_trans hB h.bel.size) (fun k hk => by injection hk with e; have := h.p0; omega), h.p0, h.s0, h.dif⟩
theorem TelW.put (h : TelW B w0 w g l s r nb p q k y) (hs : bQ w' s y') (hg : w.grownBy w' (some s)) (hB : B ≤ w0.heap.size) : TelW B w0 w' g l s r nb p q k y' := by
  obtain ⟨d1, d2, d3, d4, d5, d6, d7, d8, d9, d10⟩ := h.dif
  exact ⟨bp h.row hg d6, hs, bp h.res hg d7, bp h.nxt hg d8, ⟨bp h.cut.1 hg d9, bp h.cut.2 hg d10⟩, h.bel.grown hg (Nat.le_trans hB h.bel.size) (fun k hk => by injection hk with e; have := h.s0; omega), h.p0, h.s0, h.dif⟩
theorem TelW.set (h : TelW B w0 w g l s r nb p q k y) (j : Nat) (v : Value) (e : (aY y).set j v = aY y') (hB : B ≤ w0.heap.size) : TelW B w0 (w.setCell ⟨s, j, none⟩ v) g l s r nb p q k y' :=
  h.put (h.sup.set e) (grown_set w s j v) hB
end
set_option maxHeartbeats 1000000 in
theorem tell1 (B : Nat) (w0 w : World) (g : Nat) (l : List UInt8) (s r nb p q k n : Nat) (y : Sup) (h : TelW B w0 w g l s r nb p q k y) (hB : B ≤ w0.heap.size) (hl : l.length = 44) (h1 : 1 ≤ n) (h2 : n ≤ 8) (hk : k + n ≤ 44) :
    Calls Tryz.prog 160 #[.int .i64 n, .pointer (some ⟨nb, 0, none⟩)] w fun e w' => e = .returned (.int .u64 (val 8 (piece l k n) : Nat)) ∧ TelW B w0 w' g l s r nb p q (k + n) y := by
  have HH := Lib.hid h
  have HL := Lib.hid hl
  have HP := Lib.hid (piece_all (b := piece l k n) (n := n) (cq (by omega)))
  have c0 := (cell1 h.nxt).1
  unfold onwV at c0
  clear h hl
  go_enter Tryz.func160, Tryz.ntmps160
  go_wp2_with fail
  refine (onw1 p q g 0 44 44 k n w HH.out.cut HH.out.dif.2.2.2.2.1 h1 hk (Nat.le_refl _) (by omega)).mono ?_
  rintro e w1 ⟨rfl, hc, hg⟩
  have H1 := Lib.hid (HH.out.step hc hg hB)
  clear hc hg c0 HH
  have HRD := Lib.hid (H1.out.row.rd (p := k) (k := n) (by rw [HL.out]; omega))
  go_wp2_with fail
  refine (get_ok _ n n _ (piece l k n) 0 n w1 HRD.out (by unfold maxLen; omega) h1 h2 (by omega)).mono ?_
  rintro e w2 ⟨rfl, rfl⟩
  rw [HP.out]
  obtain ⟨v, hv⟩ : ∃ v, val 8 (piece l k n) = v := ⟨_, rfl⟩
  rw [hv]
  have HV := Lib.hid hv
  clear hv
  go_wp2_with fail
  go_ret
  exact ⟨by rw [HV.out]; rfl, H1.out⟩
end Go.Proofs.YtnliphgjcaippaaGreatDoor
