/-
  num.Bits over whatever list and width.
-/
import Derived.Test.YtcddmkmogdaobaaHelp
import Derived.Laws.BitsAllLaws
namespace Go.Proofs.Ytcddmkmogdaobaa
open Go.RowKit
set_option linter.unusedVariables false

theorem fits_int (n c : Int) (w : World) (hn : 0 ≤ n) (h0 : 0 ≤ c) (h64 : c ≤ 64) : Calls Try.prog 23 #[.int .u64 n, .int .i64 c] w fun e w' => e = .returned (.bool (fitB n.toNat c.toNat)) ∧ w = w' := by
  obtain ⟨m, rfl⟩ := Int.eq_ofNat_of_zero_le hn
  rw [Int.toNat_natCast]
  exact fits_any m c w h0 h64

theorem bits_width (A : Option Addr) (n c : Nat) (s : Int) (w : World) (h : ¬ (1 ≤ s ∧ s ≤ 8)) :
    Calls Try.prog 16 #[.slice A n c, .int .i64 s] w fun e w' => e = .returned (.tuple #[.slice none 0 0, .int .i64 2]) ∧ w = w' := by
  go_enter Try.func16, Try.ntmps16
  go_wp2_with (first | (go_at_call 24; refine (mayWidth_no _ _ h).mono ?_; rintro e w' ⟨rfl, rfl⟩))
  go_ret2
  exact ⟨rfl, rfl⟩

/-- All numbers have at most d bits. -/
def narrow (d : Nat) (l : List UInt8) : Bool := l.all fun u => decide (u.toNat < 2 ^ d)
theorem narrow_mem {d : Nat} {l : List UInt8} (h : narrow d l = true) : ∀ u ∈ l, u.toNat < 2 ^ d := by
  intro u hu
  have := List.all_eq_true.1 h u hu
  simpa using this
theorem narrow_of {d : Nat} {l : List UInt8} (h : ∀ j, j < l.length → bt l j < 2 ^ d) : narrow d l = true := by
  apply List.all_eq_true.2
  intro u hu
  obtain ⟨j, hj, rfl⟩ := List.getElem_of_mem hu
  have := h j hj
  rw [bt_get hj] at this
  rw [decide_eq_true_eq]
  have e : ((2 : Int) ^ d) = ((2 ^ d : Nat) : Int) := by push_cast; rfl
  rw [e] at this
  omega

theorem fit_step {l : List UInt8} {d j : Nat} (hall : ∀ k, k < j → bt l k < 2 ^ d) (hf : fitB (bt l j).toNat (d : Int).toNat = true) : ∀ k, k < j + 1 → bt l k < 2 ^ d := by
  intro k hk
  by_cases e : k = j
  · subst e
    unfold fitB at hf
    rw [Int.toNat_natCast, decide_eq_true_eq] at hf
    have h0 := bt_lo l k
    have e : ((2 : Int) ^ d) = ((2 ^ d : Nat) : Int) := by push_cast; rfl
    rw [e]
    omega
  · exact hall k (by omega)
theorem fit_yes {l : List UInt8} {d j : Nat} (hall : narrow d l = true) (hj : j < l.length) : fitB (bt l j).toNat (d : Int).toNat = true := by
  unfold fitB
  rw [Int.toNat_natCast, decide_eq_true_eq, bt_get hj, Int.toNat_natCast]
  exact narrow_mem hall _ (List.getElem_mem hj)

set_option maxHeartbeats 1000000 in
theorem bits_big (A : Option Addr) (n c N d : Nat) (l : List UInt8) (w : World) (hl : Rd w N A n l) (hn : n ≤ maxLen) (h1 : 1 ≤ d) (h2 : d ≤ 8) (hbig : narrow d l = false) :
    Calls Try.prog 16 #[.slice A n c, .int .i64 d] w fun e w' => e = .returned (.tuple #[.slice none 0 0, .int .i64 2]) ∧ w = w' := by
  unfold maxLen at hn
  have HB := Lib.hid hbig
  clear hbig
  go_enter Try.func16, Try.ntmps16
  go_wp2_with (first | (go_at_call 24; refine (mayWidth_yes _ _ (by omega) (by omega)).mono ?_; rintro e w' ⟨rfl, rfl⟩))
  go_loop [18] (fun i => ∃ j : Nat, j ≤ n ∧ i = .int .i64 j ∧ ∀ k, k < j → bt l k < 2 ^ d) (fun i => n - (intOf i).toNat)
  case atStart => exact ⟨0, Nat.zero_le _, rfl, fun k hk => absurd hk (by omega)⟩
  case round =>
    obtain ⟨j, hj, rfl, hall⟩ := hrel
    by_cases hlt : j < n
    · obtain ⟨bA, oA, rfl, hA, cA⟩ := hl.2 j hlt
      have hlo := bt_lo l j
      have hhi := bt_hi l j
      have HA := Lib.hid hall
      clear hall
      go_wp2_with fail
      refine (fits_int _ _ _ hlo (by omega) (by omega)).mono ?_
      rintro e w' ⟨rfl, rfl⟩
      cases hf : fitB (bt l j).toNat (d : Int).toNat
      · have HF := Lib.hid hf
        clear hf
        go_wp2
        go_ret2
        exact ⟨rfl, rfl⟩
      · have HF := Lib.hid hf
        clear hf
        go_wp2
        go_round
        case rel => exact ⟨j + 1, by omega, by go_num, fun k hk => fit_step HA.out HF.out k hk⟩
        case measure => simp [intOf]; omega
    · exfalso
      have := narrow_of (d := d) (l := l) fun k hk => hall k (by have := hl.1; omega)
      rw [HB.out] at this
      cases this

theorem wrap16 {X ab : Nat} (hX : X < 256) (hab : ab ≤ 7) : IntKind.u16.wrap ((X : Int) * 2 ^ ab) = ((X * 2 ^ ab : Nat) : Int) := by
  have h2 : 2 ^ ab ≤ 2 ^ 7 := Nat.pow_le_pow_right (by omega) hab
  have h3 : X * 2 ^ ab ≤ 255 * 2 ^ 7 := Nat.mul_le_mul (by omega) h2
  have e : ((X : Int) * 2 ^ ab) = ((X * 2 ^ ab : Nat) : Int) := by push_cast; rfl
  rw [e]
  exact IntWalk.u16_in _ ⟨by omega, by omega⟩
theorem or_here {x1 X ab : Nat} (h1 : x1 < 256) (hX : X < 256) (hab : ab ≤ 7) : bits .or .u8 (x1 : Int) (IntKind.u16.wrap ((X : Int) * 2 ^ ab) % 256) = ((x1 ||| (X * 2 ^ ab % 2 ^ 8) : Nat) : Int) := by
  rw [wrap16 hX hab]
  exact u8_or_nat x1 (X * 2 ^ ab % 256) h1 (Nat.mod_lt _ (by decide))
theorem or_next {x2 X ab : Nat} (h1 : x2 < 256) (hX : X < 256) (hab : ab ≤ 7) : bits .or .u8 (x2 : Int) (IntKind.u16.wrap ((X : Int) * 2 ^ ab) / 256 % 256) = ((x2 ||| (X * 2 ^ ab / 2 ^ 8) : Nat) : Int) := by
  rw [wrap16 hX hab]
  have h2 : 2 ^ ab ≤ 2 ^ 7 := Nat.pow_le_pow_right (by omega) hab
  have h3 : X * 2 ^ ab ≤ 255 * 2 ^ 7 := Nat.mul_le_mul (by omega) h2
  have e : (((X * 2 ^ ab : Nat) : Int) / 256 % 256) = ((X * 2 ^ ab / 256 : Nat) : Int) := by omega
  rw [e]
  exact u8_or_nat x2 (X * 2 ^ ab / 256) h1 (by omega)
theorem row_two {w : World} {g t q ab i d V X : Nat} {e : TypeId} (hrow : w.rowIs g e t (fun k => .int .u8 (dg V k : Nat))) (hV : V < 2 ^ (i * d)) (hX : X < 2 ^ d) (hd : d ≤ 8) (hq : i * d / 8 = q) (hab : i * d % 8 = ab) :
    ((w.setCell ⟨g, q, none⟩ (.int .u8 (bits .or .u8 (dg V q : Nat) (IntKind.u16.wrap ((X : Int) * 2 ^ ab) % 256)))).setCell ⟨g, q + 1, none⟩ (.int .u8 (bits .or .u8 (dg V (q + 1) : Nat) (IntKind.u16.wrap ((X : Int) * 2 ^ ab) / 256 % 256)))).rowIs g e t
      (fun k => .int .u8 (dg (V + 2 ^ (i * d) * X) k : Nat)) := by
  have hX8 : X < 256 := Nat.lt_of_lt_of_le hX (Nat.pow_le_pow_right (by omega) hd)
  have h7 : ab ≤ 7 := by omega
  refine ((hrow.set q _).set (q + 1) _).congr fun k hk => ?_
  rw [or_here (dg_lt _ _) hX8 h7, or_next (dg_lt _ _) hX8 h7, lay_two hV hX hd hq hab]
  show (if k = q + 1 then _ else if k = q then _ else _) = _
  split
  · rfl
  · split <;> rfl
theorem row_single {w : World} {g t q ab i d V X : Nat} {e : TypeId} (hrow : w.rowIs g e t (fun k => .int .u8 (dg V k : Nat))) (hV : V < 2 ^ (i * d)) (hX : X < 2 ^ d) (hd : d ≤ 8) (hs : ab + d ≤ 8) (hq : i * d / 8 = q) (hab : i * d % 8 = ab) :
    (w.setCell ⟨g, q, none⟩ (.int .u8 (bits .or .u8 (dg V q : Nat) (IntKind.u16.wrap ((X : Int) * 2 ^ ab) % 256)))).rowIs g e t
      (fun k => .int .u8 (dg (V + 2 ^ (i * d) * X) k : Nat)) := by
  have hX8 : X < 256 := Nat.lt_of_lt_of_le hX (Nat.pow_le_pow_right (by omega) hd)
  refine (hrow.set q _).congr fun k hk => ?_
  rw [or_here (dg_lt _ _) hX8 (by omega), lay_single hV hX hs hq hab]
  show (if k = q then _ else _) = _
  split <;> rfl

set_option maxHeartbeats 1000000 in
theorem bits_ok (A : Option Addr) (n c N d B : Nat) (l : List UInt8) (w : World) (HB : Hid (B = w.heap.size)) (hl : Rd w N A n l) (hN : N ≤ B) (hn : n ≤ 140737488351232) (h1 : 1 ≤ d) (h2 : d ≤ 8) (hall : narrow d l = true) :
    Calls Try.prog 16 #[.slice A n c, .int .i64 d] w fun e w' => ∃ v, e = .returned (.tuple #[v, .int .i64 0]) ∧ Own w' B v (digL 8 (bytesOf n d) (val d l)) ∧ Below B w w' := by
  have HA := Lib.hid hall
  clear hall
  have hBle : B ≤ w.heap.size := Nat.le_of_eq HB.out
  have htot : bytesOf n d ≤ 140737488355328 := by unfold bytesOf; have := Nat.mul_le_mul_left n h2; omega
  have hmk := run_make_row' (P := Try.prog) 23 5 (.int .u8 0) 1 Try.underlying23 u8info rfl .i64 .i64 (bytesOf n d) (by omega) (by omega)
  go_enter Try.func16, Try.ntmps16
  go_wp2_with (first | (go_at_call 24; refine (mayWidth_yes _ _ (by omega) (by omega)).mono ?_; rintro e w' ⟨rfl, rfl⟩))
  go_loop [18] (fun i => ∃ j : Nat, j ≤ n ∧ i = .int .i64 j) (fun i => n - (intOf i).toNat)
  case atStart => exact ⟨0, Nat.zero_le _, rfl⟩
  case round =>
    obtain ⟨j, hj, rfl⟩ := hrel
    by_cases hlt : j < n
    · obtain ⟨bA, oA, rfl, hA, cA⟩ := hl.2 j hlt
      have hlo := bt_lo l j
      have hhi := bt_hi l j
      go_wp2_with fail
      refine (fits_int _ _ _ hlo (by omega) (by omega)).mono ?_
      rintro e w' ⟨rfl, rfl⟩
      rw [fit_yes HA.out (by have := hl.1; omega)]
      go_wp2
      go_round
      case rel => exact ⟨j + 1, by omega, by go_num⟩
      case measure => simp [intOf]; omega
    · have e : j = n := by omega
      subst e
      go_wp2_with fail
      refine (taken_any _ _ _ h1 h2 (by omega)).mono ?_
      rintro e w' ⟨rfl, rfl⟩
      go_wp2
      clear hmk
      have hr0 := World.rowIs_made w (Value.int .u8 0) (bytesOf j d) 5
      have hbl0 : Below B w (w.alloc (.cells (madeCells #[Value.int .u8 0] (bytesOf j d)) 5)) := (Below.refl _ _).alloc hBle _
      generalize w.heap.size = g at hr0 hBle ⊢
      go_loopw [35] (fun i wr => ∃ i' : Nat, i' ≤ j ∧ i = .int .i64 i' ∧ wr.rowIs g 5 (bytesOf j d) (fun k => .int .u8 (dg (val d (l.take i')) k : Nat)) ∧ Below B w wr) (fun i _ => j - (intOf i).toNat)
      case atStart => exact ⟨0, Nat.zero_le _, rfl, hr0.congr fun k _ => by simp [val, dg], hbl0⟩
      case round =>
        clear hbl0 hr0
        obtain ⟨i, hi, rfl, hrow, hbl⟩ := hrel
        by_cases hlt : i < j
        · go_wp2_with fail
          refine (place_any _ _ _ h1 h2 (by omega)).mono ?_
          rintro e w' ⟨rfl, rfl⟩
          have hab : i * d % 8 ≤ 7 := by omega
          have hq1 : i * d / 8 < bytesOf j d := by
            unfold bytesOf
            have h3 : (i + 1) * d ≤ j * d := Nat.mul_le_mul_right d hlt
            rw [Nat.succ_mul] at h3
            omega
          have hq2 : 8 < i * d % 8 + d → i * d / 8 + 1 < bytesOf j d := by
            unfold bytesOf
            have h3 : (i + 1) * d ≤ j * d := Nat.mul_le_mul_right d hlt
            rw [Nat.succ_mul] at h3
            omega
          generalize hq : i * d / 8 = q at *
          generalize ha : i * d % 8 = ab at *
          have HQ := Lib.hid hq
          have HAB := Lib.hid ha
          clear hq ha
          obtain ⟨bA, oA, rfl, hA, cA⟩ := (hl.below (hbl.mono hN)).2 i hlt
          have hlo := bt_lo l i
          have hhi := bt_hi l i
          have hc1 := hrow.cell hq1
          have hf1 := hrow.frozen q
          have hf2 := hrow.frozen (q + 1)
          generalize hV : val d (l.take i) = V at *
          have HV := Lib.hid hV
          clear hV
          have hd1 := dg_lt V q
          generalize hx : dg V q = x1 at *
          have HX := Lib.hid hx
          clear hx
          by_cases hsp : 8 < ab + d
          · have hq3 := hq2 hsp
            have hc2 := hrow.cell hq3
            have hd2 := dg_lt V (q + 1)
            generalize hx : dg V (q + 1) = x2 at *
            have HX2 := Lib.hid hx
            clear hx hq2
            go_wp2_with fail
            refine (spills_yes _ _ _ (by omega) h2 hsp).mono ?_
            rintro e w' ⟨rfl, rfl⟩
            go_wp2
            go_roundw
            case rel =>
              refine ⟨i + 1, by omega, by go_num, ?_, (hbl.setCell hBle _).setCell hBle _⟩
              have hl' : i < l.length := by have := hl.1; omega
              rw [val_take_succ hl', HV.out, ← HX.out, ← HX2.out, bt_get hl']
              exact row_two hrow (by rw [← HV.out]; exact val_take_lt (narrow_mem HA.out) (by omega)) (narrow_mem HA.out _ (List.getElem_mem hl')) h2 HQ.out HAB.out
            case measure => simp [intOf]; omega
          · clear hq2
            go_wp2_with fail
            refine (spills_no _ _ _ (by omega) h2 hsp).mono ?_
            rintro e w' ⟨rfl, rfl⟩
            go_wp2
            go_roundw
            case rel =>
              refine ⟨i + 1, by omega, by go_num, ?_, hbl.setCell hBle _⟩
              have hl' : i < l.length := by have := hl.1; omega
              rw [val_take_succ hl', HV.out, ← HX.out, bt_get hl']
              exact row_single hrow (by rw [← HV.out]; exact val_take_lt (narrow_mem HA.out) (by omega)) (narrow_mem HA.out _ (List.getElem_mem hl')) h2 (by omega) HQ.out HAB.out
            case measure => simp [intOf]; omega
        · have e : i = j := by omega
          subst e
          go_wp2
          go_ret2
          refine ⟨_, rfl, Own.of_row (length_digL _ _ _) hBle hrow (Nat.le_refl _) (by unfold maxLen; omega) ?_ ?_, hbl⟩
          · intro k hk
            have hk' : k < (digL 8 (bytesOf i d) (val d l)).length := by rw [length_digL]; exact hk
            rw [bt_get hk', getElem_digL (by omega) hk', List.take_of_length_le (by have := hl.1; omega)]
            rfl
          · intro k
            have := dg_lt (val d (l.take i)) k
            omega
end Go.Proofs.Ytcddmkmogdaobaa
