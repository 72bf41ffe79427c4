/-
  num's helpers: widths, how many bytes so many numbers take, where a number begins, whether it reaches into the next byte.
  num.Bits over whatever list and width.
  num.Unbits over whatever bytes, width and count.
  The document's Bits over whatever list and width: the same bytes as num.Bits, by a row of bits.
  The document's Unbits over whatever bytes, width and count.
-/
import Derived.Test.YtiilclncedipiaaDoorMA
import Derived.Laws.BitsAllLaws
import Derived.Laws.AppendOwn
namespace Go.Proofs.YtiilclncedipiaaDoor
open Go.RowKit
set_option linter.unusedVariables false

theorem mayWidth_yes (s : Int) (w : World) (h1 : 1 ≤ s) (h2 : s ≤ 8) : Calls Tryd.prog 63 #[.int .i64 s] w fun e w' => e = .returned (.bool true) ∧ w = w' := by
  go_enter Tryd.func63, Tryd.ntmps63
  go_wp2
  go_ret
  exact ⟨rfl, rfl⟩
theorem mayWidth_no (s : Int) (w : World) (h : ¬ (1 ≤ s ∧ s ≤ 8)) : Calls Tryd.prog 63 #[.int .i64 s] w fun e w' => e = .returned (.bool false) ∧ w = w' := by
  by_cases h1 : 1 ≤ s
  · have h2 : 8 < s := by omega
    clear h
    go_enter Tryd.func63, Tryd.ntmps63
    go_wp2
    go_ret
    exact ⟨ret_bool (by simp; omega), rfl⟩
  · clear h
    have h2 : s < 1 := by omega
    go_enter Tryd.func63, Tryd.ntmps63
    go_wp2
    go_ret
    exact ⟨rfl, rfl⟩
theorem widths {d : Nat} (h1 : 1 ≤ d) (h2 : d ≤ 8) : d = 1 ∨ d = 2 ∨ d = 3 ∨ d = 4 ∨ d = 5 ∨ d = 6 ∨ d = 7 ∨ d = 8 := by omega
/-- So many numbers of a width take so many bytes. -/
def bytesOf (m d : Nat) : Nat := (m * d + 7) / 8
set_option maxHeartbeats 1000000 in
theorem taken_any (m d : Nat) (w : World) (h1 : 1 ≤ d) (h2 : d ≤ 8) (hm : m ≤ 4611686018427387904) : Calls Tryd.prog 64 #[.int .i64 m, .int .i64 d] w fun e w' => e = .returned (.int .i64 (bytesOf m d)) ∧ w = w' := by
  rcases widths h1 h2 with rfl | rfl | rfl | rfl | rfl | rfl | rfl | rfl
  all_goals
    clear h1 h2
    go_enter Tryd.func64, Tryd.ntmps64
    go_wp2
    go_ret
    exact ⟨ret_int (by unfold bytesOf; omega), rfl⟩
set_option maxHeartbeats 1000000 in
theorem place_any (m d : Nat) (w : World) (h1 : 1 ≤ d) (h2 : d ≤ 8) (hm : m ≤ 4611686018427387904) : Calls Tryd.prog 65 #[.int .i64 m, .int .i64 d] w fun e w' => e = .returned (.tuple #[.int .i64 (m * d / 8 : Nat), .int .i64 (m * d % 8 : Nat)]) ∧ w = w' := by
  rcases widths h1 h2 with rfl | rfl | rfl | rfl | rfl | rfl | rfl | rfl
  all_goals
    clear h1 h2
    go_enter Tryd.func65, Tryd.ntmps65
    go_wp2
    go_ret2
    exact ⟨ret_ints (by omega) (by omega), rfl⟩
theorem spills_yes (a d : Nat) (w : World) (ha : a ≤ 8) (h2 : d ≤ 8) (h : 8 < a + d) : Calls Tryd.prog 66 #[.int .i64 a, .int .i64 d] w fun e w' => e = .returned (.bool true) ∧ w = w' := by
  go_enter Tryd.func66, Tryd.ntmps66
  go_wp2
  go_ret
  exact ⟨ret_bool (by simp; omega), rfl⟩
theorem spills_no (a d : Nat) (w : World) (ha : a ≤ 8) (h2 : d ≤ 8) (h : ¬ 8 < a + d) : Calls Tryd.prog 66 #[.int .i64 a, .int .i64 d] w fun e w' => e = .returned (.bool false) ∧ w = w' := by
  go_enter Tryd.func66, Tryd.ntmps66
  go_wp2
  go_ret
  exact ⟨ret_bool (by simp; omega), rfl⟩
end Go.Proofs.YtiilclncedipiaaDoor
namespace Go.Proofs.YtiilclncedipiaaDoor
open Go.RowKit
set_option linter.unusedVariables false

theorem fits_int (n c : Int) (w : World) (hn : 0 ≤ n) (h0 : 0 ≤ c) (h64 : c ≤ 64) : Calls Tryd.prog 62 #[.int .u64 n, .int .i64 c] w fun e w' => e = .returned (.bool (fitB n.toNat c.toNat)) ∧ w = w' := by
  obtain ⟨m, rfl⟩ := Int.eq_ofNat_of_zero_le hn
  rw [Int.toNat_natCast]
  exact fits_any m c w h0 h64

theorem bits_width (A : Option Addr) (n c : Nat) (s : Int) (w : World) (h : ¬ (1 ≤ s ∧ s ≤ 8)) :
    Calls Tryd.prog 45 #[.slice A n c, .int .i64 s] w fun e w' => e = .returned (.tuple #[.slice none 0 0, .int .i64 2]) ∧ w = w' := by
  go_enter Tryd.func45, Tryd.ntmps45
  go_wp2_with (first | (go_at_call 63; refine (mayWidth_no _ _ h).mono ?_; rintro e w' ⟨rfl, rfl⟩))
  go_ret2
  exact ⟨rfl, rfl⟩

/-- All numbers have at most d bits. -/
def narrow (d : Nat) (l : List UInt8) : Bool := l.all fun u => decide (u.toNat < 2 ^ d)
theorem narrow_mem {d : Nat} {l : List UInt8} (h : narrow d l = true) : ∀ u ∈ l, u.toNat < 2 ^ d := by
  intro u hu
  have := List.all_eq_true.1 h u hu
  simpa using this
theorem narrow_of {d : Nat} {l : List UInt8} (h : ∀ j, j < l.length → bt l j < 2 ^ d) : narrow d l = true := by
  apply List.all_eq_true.2
  intro u hu
  obtain ⟨j, hj, rfl⟩ := List.getElem_of_mem hu
  have := h j hj
  rw [bt_get hj] at this
  rw [decide_eq_true_eq]
  have e : ((2 : Int) ^ d) = ((2 ^ d : Nat) : Int) := by push_cast; rfl
  rw [e] at this
  omega

theorem fit_step {l : List UInt8} {d j : Nat} (hall : ∀ k, k < j → bt l k < 2 ^ d) (hf : fitB (bt l j).toNat (d : Int).toNat = true) : ∀ k, k < j + 1 → bt l k < 2 ^ d := by
  intro k hk
  by_cases e : k = j
  · subst e
    unfold fitB at hf
    rw [Int.toNat_natCast, decide_eq_true_eq] at hf
    have h0 := bt_lo l k
    have e : ((2 : Int) ^ d) = ((2 ^ d : Nat) : Int) := by push_cast; rfl
    rw [e]
    omega
  · exact hall k (by omega)
theorem fit_yes {l : List UInt8} {d j : Nat} (hall : narrow d l = true) (hj : j < l.length) : fitB (bt l j).toNat (d : Int).toNat = true := by
  unfold fitB
  rw [Int.toNat_natCast, decide_eq_true_eq, bt_get hj, Int.toNat_natCast]
  exact narrow_mem hall _ (List.getElem_mem hj)

set_option maxHeartbeats 1000000 in
theorem bits_big (A : Option Addr) (n c N d : Nat) (l : List UInt8) (w : World) (hl : Rd w N A n l) (hn : n ≤ maxLen) (h1 : 1 ≤ d) (h2 : d ≤ 8) (hbig : narrow d l = false) :
    Calls Tryd.prog 45 #[.slice A n c, .int .i64 d] w fun e w' => e = .returned (.tuple #[.slice none 0 0, .int .i64 2]) ∧ w = w' := by
  unfold maxLen at hn
  have HB := Lib.hid hbig
  clear hbig
  go_enter Tryd.func45, Tryd.ntmps45
  go_wp2_with (first | (go_at_call 63; refine (mayWidth_yes _ _ (by omega) (by omega)).mono ?_; rintro e w' ⟨rfl, rfl⟩))
  go_loop [18] (fun i => ∃ j : Nat, j ≤ n ∧ i = .int .i64 j ∧ ∀ k, k < j → bt l k < 2 ^ d) (fun i => n - (intOf i).toNat)
  case atStart => exact ⟨0, Nat.zero_le _, rfl, fun k hk => absurd hk (by omega)⟩
  case round =>
    obtain ⟨j, hj, rfl, hall⟩ := hrel
    by_cases hlt : j < n
    · obtain ⟨bA, oA, rfl, hA, cA⟩ := hl.2 j hlt
      have hlo := bt_lo l j
      have hhi := bt_hi l j
      have HA := Lib.hid hall
      clear hall
      go_wp2_with fail
      refine (fits_int _ _ _ hlo (by omega) (by omega)).mono ?_
      rintro e w' ⟨rfl, rfl⟩
      cases hf : fitB (bt l j).toNat (d : Int).toNat
      · have HF := Lib.hid hf
        clear hf
        go_wp2
        go_ret2
        exact ⟨rfl, rfl⟩
      · have HF := Lib.hid hf
        clear hf
        go_wp2
        go_round
        case rel => exact ⟨j + 1, by omega, by go_num, fun k hk => fit_step HA.out HF.out k hk⟩
        case measure => simp [intOf]; omega
    · exfalso
      have := narrow_of (d := d) (l := l) fun k hk => hall k (by have := hl.1; omega)
      rw [HB.out] at this
      cases this

theorem wrap16 {X ab : Nat} (hX : X < 256) (hab : ab ≤ 7) : IntKind.u16.wrap ((X : Int) * 2 ^ ab) = ((X * 2 ^ ab : Nat) : Int) := by
  have h2 : 2 ^ ab ≤ 2 ^ 7 := Nat.pow_le_pow_right (by omega) hab
  have h3 : X * 2 ^ ab ≤ 255 * 2 ^ 7 := Nat.mul_le_mul (by omega) h2
  have e : ((X : Int) * 2 ^ ab) = ((X * 2 ^ ab : Nat) : Int) := by push_cast; rfl
  rw [e]
  exact IntWalk.u16_in _ ⟨by omega, by omega⟩
theorem or_here {x1 X ab : Nat} (h1 : x1 < 256) (hX : X < 256) (hab : ab ≤ 7) : bits .or .u8 (x1 : Int) (IntKind.u16.wrap ((X : Int) * 2 ^ ab) % 256) = ((x1 ||| (X * 2 ^ ab % 2 ^ 8) : Nat) : Int) := by
  rw [wrap16 hX hab]
  exact u8_or_nat x1 (X * 2 ^ ab % 256) h1 (Nat.mod_lt _ (by decide))
theorem or_next {x2 X ab : Nat} (h1 : x2 < 256) (hX : X < 256) (hab : ab ≤ 7) : bits .or .u8 (x2 : Int) (IntKind.u16.wrap ((X : Int) * 2 ^ ab) / 256 % 256) = ((x2 ||| (X * 2 ^ ab / 2 ^ 8) : Nat) : Int) := by
  rw [wrap16 hX hab]
  have h2 : 2 ^ ab ≤ 2 ^ 7 := Nat.pow_le_pow_right (by omega) hab
  have h3 : X * 2 ^ ab ≤ 255 * 2 ^ 7 := Nat.mul_le_mul (by omega) h2
  have e : (((X * 2 ^ ab : Nat) : Int) / 256 % 256) = ((X * 2 ^ ab / 256 : Nat) : Int) := by omega
  rw [e]
  exact u8_or_nat x2 (X * 2 ^ ab / 256) h1 (by omega)
theorem row_two {w : World} {g t q ab i d V X : Nat} {e : TypeId} (hrow : w.rowIs g e t (fun k => .int .u8 (dg V k : Nat))) (hV : V < 2 ^ (i * d)) (hX : X < 2 ^ d) (hd : d ≤ 8) (hq : i * d / 8 = q) (hab : i * d % 8 = ab) :
    ((w.setCell ⟨g, q, none⟩ (.int .u8 (bits .or .u8 (dg V q : Nat) (IntKind.u16.wrap ((X : Int) * 2 ^ ab) % 256)))).setCell ⟨g, q + 1, none⟩ (.int .u8 (bits .or .u8 (dg V (q + 1) : Nat) (IntKind.u16.wrap ((X : Int) * 2 ^ ab) / 256 % 256)))).rowIs g e t
      (fun k => .int .u8 (dg (V + 2 ^ (i * d) * X) k : Nat)) := by
  have hX8 : X < 256 := Nat.lt_of_lt_of_le hX (Nat.pow_le_pow_right (by omega) hd)
  have h7 : ab ≤ 7 := by omega
  refine ((hrow.set q _).set (q + 1) _).congr fun k hk => ?_
  rw [or_here (dg_lt _ _) hX8 h7, or_next (dg_lt _ _) hX8 h7, lay_two hV hX hd hq hab]
  show (if k = q + 1 then _ else if k = q then _ else _) = _
  split
  · rfl
  · split <;> rfl
theorem row_single {w : World} {g t q ab i d V X : Nat} {e : TypeId} (hrow : w.rowIs g e t (fun k => .int .u8 (dg V k : Nat))) (hV : V < 2 ^ (i * d)) (hX : X < 2 ^ d) (hd : d ≤ 8) (hs : ab + d ≤ 8) (hq : i * d / 8 = q) (hab : i * d % 8 = ab) :
    (w.setCell ⟨g, q, none⟩ (.int .u8 (bits .or .u8 (dg V q : Nat) (IntKind.u16.wrap ((X : Int) * 2 ^ ab) % 256)))).rowIs g e t
      (fun k => .int .u8 (dg (V + 2 ^ (i * d) * X) k : Nat)) := by
  have hX8 : X < 256 := Nat.lt_of_lt_of_le hX (Nat.pow_le_pow_right (by omega) hd)
  refine (hrow.set q _).congr fun k hk => ?_
  rw [or_here (dg_lt _ _) hX8 (by omega), lay_single hV hX hs hq hab]
  show (if k = q then _ else _) = _
  split <;> rfl

set_option maxHeartbeats 1000000 in
theorem bits_ok (A : Option Addr) (n c N d B : Nat) (l : List UInt8) (w : World) (HB : Hid (B = w.heap.size)) (hl : Rd w N A n l) (hN : N ≤ B) (hn : n ≤ 140737488351232) (h1 : 1 ≤ d) (h2 : d ≤ 8) (hall : narrow d l = true) :
    Calls Tryd.prog 45 #[.slice A n c, .int .i64 d] w fun e w' => ∃ v, e = .returned (.tuple #[v, .int .i64 0]) ∧ Own w' B v (digL 8 (bytesOf n d) (val d l)) ∧ Below B w w' := by
  have HA := Lib.hid hall
  clear hall
  have hBle : B ≤ w.heap.size := Nat.le_of_eq HB.out
  have htot : bytesOf n d ≤ 140737488355328 := by unfold bytesOf; have := Nat.mul_le_mul_left n h2; omega
  have hmk := run_make_row' (P := Tryd.prog) 39 5 (.int .u8 0) 1 Tryd.underlying39 u8info rfl .i64 .i64 (bytesOf n d) (by omega) (by omega)
  go_enter Tryd.func45, Tryd.ntmps45
  go_wp2_with (first | (go_at_call 63; refine (mayWidth_yes _ _ (by omega) (by omega)).mono ?_; rintro e w' ⟨rfl, rfl⟩))
  go_loop [18] (fun i => ∃ j : Nat, j ≤ n ∧ i = .int .i64 j) (fun i => n - (intOf i).toNat)
  case atStart => exact ⟨0, Nat.zero_le _, rfl⟩
  case round =>
    obtain ⟨j, hj, rfl⟩ := hrel
    by_cases hlt : j < n
    · obtain ⟨bA, oA, rfl, hA, cA⟩ := hl.2 j hlt
      have hlo := bt_lo l j
      have hhi := bt_hi l j
      go_wp2_with fail
      refine (fits_int _ _ _ hlo (by omega) (by omega)).mono ?_
      rintro e w' ⟨rfl, rfl⟩
      rw [fit_yes HA.out (by have := hl.1; omega)]
      go_wp2
      go_round
      case rel => exact ⟨j + 1, by omega, by go_num⟩
      case measure => simp [intOf]; omega
    · have e : j = n := by omega
      subst e
      go_wp2_with fail
      refine (taken_any _ _ _ h1 h2 (by omega)).mono ?_
      rintro e w' ⟨rfl, rfl⟩
      go_wp2
      clear hmk
      have hr0 := World.rowIs_made w (Value.int .u8 0) (bytesOf j d) 5
      have hbl0 : Below B w (w.alloc (.cells (madeCells #[Value.int .u8 0] (bytesOf j d)) 5)) := (Below.refl _ _).alloc hBle _
      generalize w.heap.size = g at hr0 hBle ⊢
      go_loopw [35] (fun i wr => ∃ i' : Nat, i' ≤ j ∧ i = .int .i64 i' ∧ wr.rowIs g 5 (bytesOf j d) (fun k => .int .u8 (dg (val d (l.take i')) k : Nat)) ∧ Below B w wr) (fun i _ => j - (intOf i).toNat)
      case atStart => exact ⟨0, Nat.zero_le _, rfl, hr0.congr fun k _ => by simp [val, dg], hbl0⟩
      case round =>
        clear hbl0 hr0
        obtain ⟨i, hi, rfl, hrow, hbl⟩ := hrel
        by_cases hlt : i < j
        · go_wp2_with fail
          refine (place_any _ _ _ h1 h2 (by omega)).mono ?_
          rintro e w' ⟨rfl, rfl⟩
          have hab : i * d % 8 ≤ 7 := by omega
          have hq1 : i * d / 8 < bytesOf j d := by
            unfold bytesOf
            have h3 : (i + 1) * d ≤ j * d := Nat.mul_le_mul_right d hlt
            rw [Nat.succ_mul] at h3
            omega
          have hq2 : 8 < i * d % 8 + d → i * d / 8 + 1 < bytesOf j d := by
            unfold bytesOf
            have h3 : (i + 1) * d ≤ j * d := Nat.mul_le_mul_right d hlt
            rw [Nat.succ_mul] at h3
            omega
          generalize hq : i * d / 8 = q at *
          generalize ha : i * d % 8 = ab at *
          have HQ := Lib.hid hq
          have HAB := Lib.hid ha
          clear hq ha
          obtain ⟨bA, oA, rfl, hA, cA⟩ := (hl.below (hbl.mono hN)).2 i hlt
          have hlo := bt_lo l i
          have hhi := bt_hi l i
          have hc1 := hrow.cell hq1
          have hf1 := hrow.frozen q
          have hf2 := hrow.frozen (q + 1)
          generalize hV : val d (l.take i) = V at *
          have HV := Lib.hid hV
          clear hV
          have hd1 := dg_lt V q
          generalize hx : dg V q = x1 at *
          have HX := Lib.hid hx
          clear hx
          by_cases hsp : 8 < ab + d
          · have hq3 := hq2 hsp
            have hc2 := hrow.cell hq3
            have hd2 := dg_lt V (q + 1)
            generalize hx : dg V (q + 1) = x2 at *
            have HX2 := Lib.hid hx
            clear hx hq2
            go_wp2_with fail
            refine (spills_yes _ _ _ (by omega) h2 hsp).mono ?_
            rintro e w' ⟨rfl, rfl⟩
            go_wp2
            go_roundw
            case rel =>
              refine ⟨i + 1, by omega, by go_num, ?_, (hbl.setCell hBle _).setCell hBle _⟩
              have hl' : i < l.length := by have := hl.1; omega
              rw [val_take_succ hl', HV.out, ← HX.out, ← HX2.out, bt_get hl']
              exact row_two hrow (by rw [← HV.out]; exact val_take_lt (narrow_mem HA.out) (by omega)) (narrow_mem HA.out _ (List.getElem_mem hl')) h2 HQ.out HAB.out
            case measure => simp [intOf]; omega
          · clear hq2
            go_wp2_with fail
            refine (spills_no _ _ _ (by omega) h2 hsp).mono ?_
            rintro e w' ⟨rfl, rfl⟩
            go_wp2
            go_roundw
            case rel =>
              refine ⟨i + 1, by omega, by go_num, ?_, hbl.setCell hBle _⟩
              have hl' : i < l.length := by have := hl.1; omega
              rw [val_take_succ hl', HV.out, ← HX.out, bt_get hl']
              exact row_single hrow (by rw [← HV.out]; exact val_take_lt (narrow_mem HA.out) (by omega)) (narrow_mem HA.out _ (List.getElem_mem hl')) h2 (by omega) HQ.out HAB.out
            case measure => simp [intOf]; omega
        · have e : i = j := by omega
          subst e
          go_wp2
          go_ret2
          refine ⟨_, rfl, Own.of_row (length_digL _ _ _) hBle hrow (Nat.le_refl _) (by unfold maxLen; omega) ?_ ?_, hbl⟩
          · intro k hk
            have hk' : k < (digL 8 (bytesOf i d) (val d l)).length := by rw [length_digL]; exact hk
            rw [bt_get hk', getElem_digL (by omega) hk', List.take_of_length_le (by have := hl.1; omega)]
            rfl
          · intro k
            have := dg_lt (val d (l.take i)) k
            omega
end Go.Proofs.YtiilclncedipiaaDoor
namespace Go.Proofs.YtiilclncedipiaaDoor
open Go.RowKit
set_option linter.unusedVariables false

theorem unbits_arg (A : Option Addr) (n c : Nat) (s m : Int) (w : World) (h : ¬ (1 ≤ s ∧ s ≤ 8) ∨ m < 0 ∨ 1048576 < m) :
    Calls Tryd.prog 58 #[.slice A n c, .int .i64 s, .int .i64 m] w fun e w' => e = .returned (.tuple #[.slice none 0 0, .int .i64 2]) ∧ w = w' := by
  by_cases hs : 1 ≤ s ∧ s ≤ 8
  · obtain ⟨h1, h2⟩ := hs
    by_cases hp : m < 0
    · clear h
      go_enter Tryd.func58, Tryd.ntmps58
      go_wp2_with (first | (go_at_call 63; refine (mayWidth_yes _ _ (by omega) (by omega)).mono ?_; rintro e w' ⟨rfl, rfl⟩))
      go_ret2
      exact ⟨rfl, rfl⟩
    · have hp2 : 1048576 < m := by omega
      have hp1 : 0 ≤ m := by omega
      clear h hp
      go_enter Tryd.func58, Tryd.ntmps58
      go_wp2_with (first | (go_at_call 63; refine (mayWidth_yes _ _ (by omega) (by omega)).mono ?_; rintro e w' ⟨rfl, rfl⟩))
      go_ret2
      exact ⟨rfl, rfl⟩
  · clear h
    go_enter Tryd.func58, Tryd.ntmps58
    go_wp2_with (first | (go_at_call 63; refine (mayWidth_no _ _ hs).mono ?_; rintro e w' ⟨rfl, rfl⟩))
    go_ret2
    exact ⟨rfl, rfl⟩

theorem unbits_short (A : Option Addr) (n c d m : Nat) (w : World) (h1 : 1 ≤ d) (h2 : d ≤ 8) (hm : m ≤ 1048576) (hs : n < bytesOf m d) :
    Calls Tryd.prog 58 #[.slice A n c, .int .i64 d, .int .i64 m] w fun e w' => e = .returned (.tuple #[.slice none 0 0, .int .i64 4]) ∧ w = w' := by
  go_enter Tryd.func58, Tryd.ntmps58
  go_wp2_with (first | (go_at_call 63; refine (mayWidth_yes _ _ (by omega) (by omega)).mono ?_; rintro e w' ⟨rfl, rfl⟩))
  refine (taken_any _ _ _ h1 h2 (by omega)).mono ?_
  rintro e w' ⟨rfl, rfl⟩
  go_wp2
  go_ret2
  exact ⟨rfl, rfl⟩

theorem dg_val (b : List UInt8) (q : Nat) : (dg (val 8 b) q : Nat) = bt b q := by
  unfold dg bt
  rw [val_digit (all_256 b)]

theorem mask16 {d : Nat} (h1 : 1 ≤ d) (h2 : d ≤ 8) : IntKind.u16.wrap (IntKind.u16.wrap (2 ^ d) - 1) = ((2 ^ d - 1 : Nat) : Int) := by
  rcases widths h1 h2 with rfl | rfl | rfl | rfl | rfl | rfl | rfl | rfl <;> rfl
theorem and_mask {d y : Nat} (h1 : 1 ≤ d) (h2 : d ≤ 8) (hy : y < 65536) : bits .and .u16 (y : Int) (IntKind.u16.wrap (IntKind.u16.wrap (2 ^ d) - 1)) % 256 = ((y % 2 ^ d : Nat) : Int) := by
  have h3 : 2 ^ d ≤ 2 ^ 8 := Nat.pow_le_pow_right (by omega) h2
  have h4 : y % 2 ^ d < 2 ^ d := Nat.mod_lt _ (Nat.pow_pos (by omega))
  rw [mask16 h1 h2, u16_and_nat y _ hy (by omega), Nat.and_two_pow_sub_one_eq_mod]
  omega
theorem bt_digL {d m V j : Nat} (h2 : d ≤ 8) (hj : j < m) : bt (digL d m V) j = ((V / 2 ^ (j * d) % 2 ^ d : Nat) : Int) := by
  have hl : j < (digL d m V).length := by rw [length_digL]; exact hj
  rw [bt_get hl, getElem_digL h2 hl, Nat.mul_comm d j]
theorem unlay_two {b : List UInt8} {q ab d j m : Nat} (h1 : 1 ≤ d) (h2 : d ≤ 8) (hj : j < m) (hq : j * d / 8 = q) (hab : j * d % 8 = ab) :
    bits .and .u16 (bits .or .u16 (bt b q) (bt b (q + 1) * 256) / 2 ^ ab) (IntKind.u16.wrap (IntKind.u16.wrap (2 ^ d) - 1)) % 256 = bt (digL d m (val 8 b)) j := by
  subst hq hab
  rw [← dg_val, ← dg_val]
  have l1 := dg_lt (val 8 b) (j * d / 8)
  have l2 := dg_lt (val 8 b) (j * d / 8 + 1)
  have e : ((dg (val 8 b) (j * d / 8 + 1) : Nat) : Int) * 256 = ((dg (val 8 b) (j * d / 8 + 1) * 256 : Nat) : Int) := by omega
  rw [e, u16_or_nat _ _ (by omega) (by omega), Nat.or_comm, nat_join 8 _ _ (Nat.mul_mod_left _ (2 ^ 8)) l1]
  have e2 : (((dg (val 8 b) (j * d / 8 + 1) * 256 + dg (val 8 b) (j * d / 8) : Nat) : Int) / 2 ^ (j * d % 8)) = (((dg (val 8 b) (j * d / 8) + 2 ^ 8 * dg (val 8 b) (j * d / 8 + 1)) / 2 ^ (j * d % 8) : Nat) : Int) := by
    have e3 : ((2 : Int) ^ (j * d % 8)) = ((2 ^ (j * d % 8) : Nat) : Int) := by push_cast; rfl
    rw [e3, show dg (val 8 b) (j * d / 8 + 1) * 256 + dg (val 8 b) (j * d / 8) = dg (val 8 b) (j * d / 8) + 2 ^ 8 * dg (val 8 b) (j * d / 8 + 1) from by omega]
    rfl
  have l3 : (dg (val 8 b) (j * d / 8) + 2 ^ 8 * dg (val 8 b) (j * d / 8 + 1)) / 2 ^ (j * d % 8) < 65536 := Nat.lt_of_le_of_lt (Nat.div_le_self _ _) (by omega)
  rw [e2, and_mask h1 h2 l3, read_spill h2, bt_digL h2 hj]
theorem unlay_single {b : List UInt8} {q ab d j m : Nat} (h1 : 1 ≤ d) (h2 : d ≤ 8) (hj : j < m) (hs : ab + d ≤ 8) (hq : j * d / 8 = q) (hab : j * d % 8 = ab) :
    bits .and .u16 (bt b q / 2 ^ ab) (IntKind.u16.wrap (IntKind.u16.wrap (2 ^ d) - 1)) % 256 = bt (digL d m (val 8 b)) j := by
  subst hq hab
  rw [← dg_val]
  have l1 := dg_lt (val 8 b) (j * d / 8)
  have e2 : ((dg (val 8 b) (j * d / 8) : Nat) : Int) / 2 ^ (j * d % 8) = ((dg (val 8 b) (j * d / 8) / 2 ^ (j * d % 8) : Nat) : Int) := by
    have e3 : ((2 : Int) ^ (j * d % 8)) = ((2 ^ (j * d % 8) : Nat) : Int) := by push_cast; rfl
    rw [e3]
    rfl
  have l3 : dg (val 8 b) (j * d / 8) / 2 ^ (j * d % 8) < 65536 := Nat.lt_of_le_of_lt (Nat.div_le_self _ _) (by omega)
  rw [e2, and_mask h1 h2 l3, read_plain hs, bt_digL h2 hj]

set_option maxHeartbeats 1000000 in
theorem unbits_ok (A : Option Addr) (n c N d m B : Nat) (b : List UInt8) (w : World) (HB : Hid (B = w.heap.size)) (hb : Rd w N A n b) (hN : N ≤ B) (hn : n ≤ 140737488355328) (h1 : 1 ≤ d) (h2 : d ≤ 8) (hm : m ≤ 1048576) (hs : bytesOf m d ≤ n) :
    Calls Tryd.prog 58 #[.slice A n c, .int .i64 d, .int .i64 m] w fun e w' => ∃ v, e = .returned (.tuple #[v, .int .i64 0]) ∧ Own w' B v (digL d m (val 8 b)) ∧ Below B w w' := by
  have hBle : B ≤ w.heap.size := Nat.le_of_eq HB.out
  have hd30 : decide (n < bytesOf m d) = false := by simpa using hs
  have hd19 : decide ((m : Int) < 0) = false := by simp
  have hd23 : decide (1048576 < (m : Int)) = false := by simp; omega
  have hmk := run_make_row' (P := Tryd.prog) 39 5 (.int .u8 0) 1 Tryd.underlying39 u8info rfl .i64 .i64 m (by omega) (by omega)
  go_enter Tryd.func58, Tryd.ntmps58
  go_wp2_with (first | (go_at_call 63; refine (mayWidth_yes _ _ (by omega) (by omega)).mono ?_; rintro e w' ⟨rfl, rfl⟩))
  refine (taken_any _ _ _ h1 h2 (by omega)).mono ?_
  rintro e w' ⟨rfl, rfl⟩
  go_wp2
  clear hmk
  have hr0 := World.rowIs_made w (Value.int .u8 0) m 5
  have hbl0 : Below B w (w.alloc (.cells (madeCells #[Value.int .u8 0] m) 5)) := (Below.refl _ _).alloc hBle _
  generalize w.heap.size = g at hr0 hBle ⊢
  go_loopw [37] (fun i wr => ∃ (j : Nat) (f : Nat → Int), j ≤ m ∧ i = .int .i64 j ∧ wr.rowIs g 5 m (fun k => .int .u8 (f k)) ∧ (∀ k, k < j → f k = bt (digL d m (val 8 b)) k) ∧ (∀ k, 0 ≤ f k ∧ f k ≤ 255) ∧ Below B w wr) (fun i _ => m - (intOf i).toNat)
  case atStart => exact ⟨0, fun _ => 0, Nat.zero_le _, rfl, hr0, fun k hk => absurd hk (by omega), fun k => by simp, hbl0⟩
  case round =>
    clear hbl0 hr0
    obtain ⟨j, f, hj, rfl, hrow, hf, hr, hbl⟩ := hrel
    have HF := Lib.hid hf
    have HR := Lib.hid hr
    clear hf hr
    by_cases hlt : j < m
    · go_wp2_with fail
      refine (place_any _ _ _ h1 h2 (by omega)).mono ?_
      rintro e w' ⟨rfl, rfl⟩
      have hab : j * d % 8 ≤ 7 := by omega
      have hq1 : j * d / 8 < n := by
        unfold bytesOf at hs
        have h3 : (j + 1) * d ≤ m * d := Nat.mul_le_mul_right d hlt
        rw [Nat.succ_mul] at h3
        omega
      have hq2 : 8 < j * d % 8 + d → j * d / 8 + 1 < n := by
        unfold bytesOf at hs
        have h3 : (j + 1) * d ≤ m * d := Nat.mul_le_mul_right d hlt
        rw [Nat.succ_mul] at h3
        omega
      generalize hq : j * d / 8 = q at *
      generalize ha : j * d % 8 = ab at *
      have HQ := Lib.hid hq
      have HAB := Lib.hid ha
      clear hq ha
      obtain ⟨bA, oA, rfl, hA, cA⟩ := (hb.below (hbl.mono hN)).2 q hq1
      have hlo := bt_lo b q
      have hhi := bt_hi b q
      have hc1 := hrow.cell hlt
      have hf1 := hrow.frozen j
      by_cases hsp : 8 < ab + d
      · have hq3 := hq2 hsp
        obtain ⟨bA', oA', hA2, _, cA2⟩ := (hb.below (hbl.mono hN)).2 (q + 1) hq3
        injection hA2 with hA2
        injection hA2 with hA3 hA4
        subst hA3 hA4
        have hlo2 := bt_lo b (q + 1)
        have hhi2 := bt_hi b (q + 1)
        go_wp2_with fail
        refine (spills_yes _ _ _ (by omega) h2 hsp).mono ?_
        rintro e w' ⟨rfl, rfl⟩
        go_wp2
        go_roundw
        case rel =>
          rw [unlay_two h1 h2 hlt HQ.out HAB.out]
          refine ⟨j + 1, upd f j (bt (digL d m (val 8 b)) j), by omega, by go_num, row_put hrow _, ?_, ?_, hbl.setCell hBle _⟩
          · intro k hk
            by_cases e : k = j
            · subst e; exact upd_at _ _ _
            · rw [upd_off _ _ e]; exact HF.out k (by omega)
          · intro k
            by_cases e : k = j
            · subst e; rw [upd_at]; exact ⟨bt_lo _ _, bt_hi _ _⟩
            · rw [upd_off _ _ e]; exact HR.out k
        case measure => simp [intOf]; omega
      · clear hq2
        go_wp2_with fail
        refine (spills_no _ _ _ (by omega) h2 hsp).mono ?_
        rintro e w' ⟨rfl, rfl⟩
        go_wp2
        go_roundw
        case rel =>
          rw [unlay_single h1 h2 hlt (by omega) HQ.out HAB.out]
          refine ⟨j + 1, upd f j (bt (digL d m (val 8 b)) j), by omega, by go_num, row_put hrow _, ?_, ?_, hbl.setCell hBle _⟩
          · intro k hk
            by_cases e : k = j
            · subst e; exact upd_at _ _ _
            · rw [upd_off _ _ e]; exact HF.out k (by omega)
          · intro k
            by_cases e : k = j
            · subst e; rw [upd_at]; exact ⟨bt_lo _ _, bt_hi _ _⟩
            · rw [upd_off _ _ e]; exact HR.out k
        case measure => simp [intOf]; omega
    · have e : j = m := by omega
      subst e
      go_wp2
      go_ret2
      exact ⟨_, rfl, Own.of_row (length_digL _ _ _) hBle hrow (Nat.le_refl _) (by unfold maxLen; omega) HF.out HR.out, hbl⟩
end Go.Proofs.YtiilclncedipiaaDoor
namespace Go.Proofs.YtiilclncedipiaaDoor
open Go.RowKit
set_option linter.unusedVariables false
set_option maxRecDepth 100000

theorem rbits_width (A : Option Addr) (n c : Nat) (s : Int) (w : World) (h : ¬ (1 ≤ s ∧ s ≤ 8)) :
    Calls Tryd.prog 50 #[.slice A n c, .int .i64 s] w fun e w' => e = .returned (.tuple #[.slice none 0 0, .int .i64 2]) ∧ w = w' := by
  by_cases h1 : s < 1
  · clear h
    go_enter Tryd.func50, Tryd.ntmps50
    go_wp2
    go_ret2
    exact ⟨rfl, rfl⟩
  · have h2 : 8 < s := by omega
    have h3 : 1 ≤ s := by omega
    clear h h1
    go_enter Tryd.func50, Tryd.ntmps50
    go_wp2
    go_ret2
    exact ⟨rfl, rfl⟩

theorem bits_more {l : List UInt8} {j d X : Nat} (hj : j < l.length) (hX : bt l j = (X : Int)) (hall : ∀ k, k < j → bt l k < 2 ^ d) :
    digL 1 (j * d) (val d (l.take j)) ++ digL 1 d X = digL 1 ((j + 1) * d) (val d (l.take (j + 1))) := by
  have e : l[j].toNat = X := by rw [bt_get hj] at hX; omega
  have hlt : val d (l.take j) < 2 ^ (j * d) := by
    have h := val_lt (w := d) (l := l.take j) (narrow_mem (narrow_of fun k hk => ?_))
    · rwa [List.length_take, Nat.min_eq_left (by omega), Nat.mul_comm] at h
    · have hk' : k < j := by rw [List.length_take] at hk; omega
      have := hall k hk'
      have e2 : bt (l.take j) k = bt l k := by
        rw [bt_get hk, bt_get (by omega)]
        simp
      rw [e2]
      exact this
  rw [val_take_succ hj, e, Nat.succ_mul, ← digL_add X (by rw [Nat.one_mul]; exact hlt), Nat.one_mul]
theorem all_more {l : List UInt8} {j d X : Nat} (hX : bt l j = (X : Int)) (hf : X < 2 ^ d) (hall : ∀ k, k < j → bt l k < 2 ^ d) : ∀ k, k < j + 1 → bt l k < 2 ^ d := by
  intro k hk
  by_cases e : k = j
  · subst e
    rw [hX]
    have e : ((2 : Int) ^ d) = ((2 ^ d : Nat) : Int) := by push_cast; rfl
    rw [e]
    omega
  · exact hall k (by omega)
theorem not_narrow {l : List UInt8} {j d X : Nat} (hj : j < l.length) (hX : bt l j = (X : Int)) (hf : ¬ X < 2 ^ d) : narrow d l = true → False := by
  intro h
  have := narrow_mem h _ (List.getElem_mem hj)
  rw [bt_get hj] at hX
  omega

theorem bt_bit {T V k : Nat} (h : k < T) : bt (digL 1 T V) k = ((V / 2 ^ k % 2 : Nat) : Int) := by
  have hl : k < (digL 1 T V).length := by rw [length_digL]; exact h
  rw [bt_get hl, getElem_digL (by omega) hl, Nat.one_mul, Nat.pow_one]
theorem no_bit {T V k : Nat} (hV : V < 2 ^ T) (h : ¬ k < T) : V / 2 ^ k = 0 := Nat.div_eq_of_lt (Nat.lt_of_lt_of_le hV (Nat.pow_le_pow_right (by omega) (by omega)))
theorem half_lt {V a p : Nat} (hp : p < 8) : V / 2 ^ a % 2 ^ (8 - (p + 1)) ≤ 127 := by
  have h1 : V / 2 ^ a % 2 ^ (8 - (p + 1)) < 2 ^ (8 - (p + 1)) := Nat.mod_lt _ (Nat.pow_pos (by omega))
  have h2 : 2 ^ (8 - (p + 1)) ≤ 2 ^ 7 := Nat.pow_le_pow_right (by omega) (by omega)
  omega
theorem half_step (V a p : Nat) (hp : p < 8) : V / 2 ^ (a + p) % 2 ^ (8 - p) = 2 * (V / 2 ^ (a + (p + 1)) % 2 ^ (8 - (p + 1))) + V / 2 ^ (a + p) % 2 := by
  have := bit_step V (a + p) (8 - (p + 1))
  rwa [show 8 - (p + 1) + 1 = 8 - p from by omega] at this

set_option maxHeartbeats 2000000 in
theorem rbits_any (A : Option Addr) (n c N d B : Nat) (l : List UInt8) (w : World) (HB : Hid (B = w.heap.size)) (hl : Rd w N A n l) (hN : N ≤ B) (hn : n ≤ 3000) (h1 : 1 ≤ d) (h2 : d ≤ 8) :
    Calls Tryd.prog 50 #[.slice A n c, .int .i64 d] w fun e w' =>
      ((narrow d l = true → ∃ v, e = .returned (.tuple #[v, .int .i64 0]) ∧ Made w' B v (digL 8 (bytesOf n d) (val d l))) ∧ (narrow d l = false → e = .returned (.tuple #[.slice none 0 0, .int .i64 2]))) ∧ Below B w w' := by
  have hBle : B ≤ w.heap.size := Nat.le_of_eq HB.out
  have hd1 : decide ((d : Int) < 1) = false := by simp; omega
  have hd2 : decide (8 < (d : Int)) = false := by simp; omega
  obtain ⟨i0, hi, hz0, hz1, hz2⟩ := info_parts u8info
  go_enter Tryd.func50, Tryd.ntmps50
  go_wp2
  go_loopw [6, 7] (fun v i wr => ∃ j : Nat, j ≤ n ∧ i = .int .i64 j ∧ Made wr B v (digL 1 (j * d) (val d (l.take j))) ∧ (∀ k, k < j → bt l k < 2 ^ d) ∧ Below B w wr) (fun _ i _ => n - (intOf i).toNat)
  case atStart => exact ⟨0, Nat.zero_le _, rfl, by rw [Nat.zero_mul]; exact World.ownsRow_nil _ _ _ _, fun k hk => absurd hk (by omega), Below.refl _ _⟩
  case round =>
    obtain ⟨j, hj, rfl, hm, hall, hbl⟩ := hrel
    have HA := Lib.hid hall
    clear hall
    by_cases hlt : j < n
    · obtain ⟨bA, oA, rfl, hA, cA⟩ := (hl.below (hbl.mono hN)).2 j hlt
      have hX : bt l j = ((l.getD j 0).toNat : Int) := rfl
      have hXl : (l.getD j 0).toNat < 256 := UInt8.toNat_lt _
      generalize (l.getD j 0).toNat = X at hX hXl
      have HX := Lib.hid hX
      rw [hX] at cA
      clear hX
      have hm' := Lib.hid hm
      clear hm
      obtain ⟨wo, rfl⟩ : ∃ wo : World, wo = wr := ⟨_, rfl⟩
      go_wp2
      have hszo : B ≤ wo.heap.size := Nat.le_trans hBle hbl.size
      go_loopw [6, 8, 9] (fun v x k wr => ∃ i : Nat, i ≤ d ∧ k = .int .i64 i ∧ x = .int .u8 ((X / 2 ^ i : Nat) : Int) ∧ Made wr B v (digL 1 (j * d) (val d (l.take j)) ++ digL 1 i X) ∧ Below B wo wr) (fun _ _ k _ => d - (intOf k).toNat)
      case atStart => exact ⟨0, Nat.zero_le _, rfl, by simp, by rw [show digL 1 0 X = [] from rfl, List.append_nil]; exact hm'.out, Below.refl _ _⟩
      case round =>
        obtain ⟨i, hi', rfl, rfl, hm, hbi⟩ := hrel
        by_cases hlti : i < d
        · have hq : X / 2 ^ i ≤ X := Nat.div_le_self _ _
          have hsz : B ≤ wr.heap.size := Nat.le_trans hszo hbi.size
          have hE : Hid (X / 2 ^ (i + 1) = X / 2 ^ i / 2 ∧ digL 1 (i + 1) X = digL 1 i X ++ [UInt8.ofNat (X / 2 ^ i % 2)]) := ⟨by rw [Nat.pow_succ, ← Nat.div_div_eq_div_mul], by rw [digL_snoc, Nat.one_mul]⟩
          have hln : (digL 1 (j * d) (val d (l.take j)) ++ digL 1 i X).length = j * d + i := by rw [List.length_append, length_digL, length_digL]
          have hjd : j * d ≤ 3000 * 8 := Nat.mul_le_mul (by omega) h2
          generalize hrw : digL 1 (j * d) (val d (l.take j)) ++ digL 1 i X = row at *
          have HRW := Lib.hid hrw
          have hown := hm.own hln
          have HM2 := Lib.hid hm
          clear hm hln hrw
          generalize X / 2 ^ i = q at *
          go_wp2_with (at_builtin; refine wpList_append_own _ rfl _ _ 39 rfl B 5 i0 (.int .u8 0) 1 1 Tryd.underlying39 hi hz0 hz1 hz2 rfl (by decide) _ _ _ rfl (hown.alloc _) ⟨wr.heap.size, 0, none⟩ 1 1 [.int .u8 ((q : Int) % 2)] rfl rfl ?c1 ?c2 ?c3 ?c4 ?c5 ?_)
          case c1 => exact cell_one_new _ _ _
          case c2 => intro u hu; simp at hu; subst hu; rfl
          case c3 => unfold maxLen; omega
          case c4 => omega
          case c5 => simp; omega
          intro v' w1 hown1 hg1 _
          have hx : ((q : Int) % 2) = ((UInt8.ofNat (q % 2)).toNat : Int) := by rw [UInt8.toNat_ofNat']; omega
          obtain ⟨hm1, hb1⟩ := Made.push HM2.out hbi hsz hx hown1 hg1
          have hm1' := Lib.hid hm1
          clear hm1 hown1 hg1 hown hx HM2
          go_wp2
          go_roundw
          case rel =>
            refine ⟨i + 1, by omega, by go_num, ?_, ?_, hb1⟩
            · rw [hE.out.1]; simp
            · rw [hE.out.2, ← List.append_assoc, HRW.out]; exact hm1'.out
          case measure => simp [intOf]; omega
        · have e : i = d := by omega
          subst e
          by_cases hfit : X < 2 ^ i
          · rw [Nat.div_eq_of_lt hfit]
            have HM3 := Lib.hid hm
            clear hm
            go_wp2
            go_roundw
            case rel =>
              refine ⟨j + 1, by omega, by go_num, ?_, all_more HX.out hfit HA.out, hbl.trans (hbi.mono (Nat.le_refl _))⟩
              rw [← bits_more (by have := hl.1; omega) HX.out HA.out]
              exact HM3.out
            case measure => simp [intOf]; omega
          · have hq0 : 0 < X / 2 ^ i := Nat.div_pos (by omega) (Nat.pow_pos (by omega))
            generalize X / 2 ^ i = q at *
            go_wp2
            go_ret2
            exact ⟨⟨fun h => (not_narrow (by have := hl.1; omega) HX.out hfit h).elim, fun _ => rfl⟩, hbl.trans hbi⟩
    · have e : j = n := by omega
      subst e
      have hnar : narrow d l = true := narrow_of fun k hk => HA.out k (by have := hl.1; omega)
      rw [List.take_of_length_le (by have := hl.1; omega)] at hm
      have hR : val d l < 2 ^ (j * d) := by have := val_lt (narrow_mem hnar); rwa [hl.1, Nat.mul_comm] at this
      have HR := Lib.hid hR
      have HN := Lib.hid hnar
      clear hR hnar
      have hjd : j * d ≤ 3000 * 8 := Nat.mul_le_mul (by omega) h2
      have hld := length_digL 1 (j * d) (val d l)
      generalize hV : val d l = V at *
      obtain ⟨A1, c1, rfl, d1, _, hc1⟩ := hm.open_ (n := j * d) hld
      have HV := Lib.hid hV
      clear hV hld
      have HD := Lib.hid d1
      have hsz0 : B ≤ wr.heap.size := Nat.le_trans hBle hbl.size
      have hby : bytesOf j d * 8 < j * d + 8 ∧ j * d ≤ bytesOf j d * 8 := by unfold bytesOf; omega
      generalize hT : j * d = T at *
      generalize hM : bytesOf j d = M at *
      have HM4 := Lib.hid hM
      have HT := Lib.hid hT
      obtain ⟨hby1, hby2⟩ := hby
      clear hm hM hT d1
      obtain ⟨wo, rfl⟩ : ∃ wo : World, wo = wr := ⟨_, rfl⟩
      have hB4 : Below wo.heap.size wo wo := Below.refl _ _
      go_wp2
      go_loopw [10, 11] (fun v i wr => ∃ q : Nat, q ≤ M ∧ i = .int .i64 (8 * (q : Int)) ∧ Made wr wo.heap.size v (digL 8 q V) ∧ Below wo.heap.size wo wr) (fun _ i _ => T + 8 - (intOf i).toNat)
      case atStart => exact ⟨0, Nat.zero_le _, by simp, World.ownsRow_nil _ _ _ _, hB4⟩
      case round =>
        obtain ⟨q, hq, rfl, hm, hb4⟩ := hrel
        clear hB4
        by_cases hlt : 8 * q < T
        · have hq' : q + 1 ≤ M := by omega
          have HM5 := Lib.hid hm
          clear hm
          go_wp2
          go_loop [12, 13] (fun x k => ∃ m : Nat, m ≤ 8 ∧ k = .int .i64 ((m : Int) - 1) ∧ x = .int .u8 ((V / 2 ^ (8 * q + m) % 2 ^ (8 - m) : Nat) : Int)) (fun _ k => (intOf k + 1).toNat)
          case atStart => exact ⟨8, Nat.le_refl _, rfl, by simp [Nat.mod_one]⟩
          case round =>
            obtain ⟨m, hm8, rfl, rfl⟩ := hrel
            by_cases hm0 : 0 < m
            · obtain ⟨p, rfl⟩ : ∃ p, m = p + 1 := ⟨m - 1, by omega⟩
              have hC := half_lt (V := V) (a := 8 * q + (p + 1)) (p := p) (by omega)
              have hS := half_step V (8 * q) p (by omega)
              generalize V / 2 ^ (8 * q + (p + 1)) % 2 ^ (8 - (p + 1)) = C at *
              rw [show ((p + 1 : Nat) : Int) - 1 = (p : Int) from by omega]
              by_cases hpos : 8 * q + p < T
              · obtain ⟨bA, oA, rfl, _, cA⟩ := (HD.out.below hb4).2 (8 * q + p) hpos
                rw [bt_bit hpos] at cA
                have hbit : V / 2 ^ (8 * q + p) % 2 < 2 := Nat.mod_lt _ (by omega)
                generalize V / 2 ^ (8 * q + p) % 2 = bit at *
                have HS := Lib.hid hS
                clear hS
                go_wp2
                go_round
                case rel => exact ⟨p, by omega, rfl, by rw [HS.out]; go_num⟩
                case measure => simp [intOf]
              · have hS2 : V / 2 ^ (8 * q + p) % 2 ^ (8 - p) = 2 * C := by rw [hS, no_bit HR.out hpos, Nat.zero_mod, Nat.add_zero]
                have HS := Lib.hid hS2
                clear hS hS2
                go_wp2
                go_round
                case rel => exact ⟨p, by omega, rfl, by rw [HS.out]; go_num⟩
                case measure => simp [intOf]
            · have e : m = 0 := by omega
              subst e
              have hcc : V / 2 ^ (8 * q + 0) % 2 ^ (8 - 0) < 256 := Nat.mod_lt _ (by decide)
              have hE : Hid (digL 8 (q + 1) V = digL 8 q V ++ [UInt8.ofNat (V / 2 ^ (8 * q + 0) % 2 ^ (8 - 0))]) := digL_snoc 8 q V
              generalize V / 2 ^ (8 * q + 0) % 2 ^ (8 - 0) = cc at *
              have hown := HM5.out.own (length_digL 8 q V)
              have hsz : wo.heap.size ≤ wr.heap.size := hb4.size
              go_wp2_with (at_builtin; refine wpList_append_own _ rfl _ _ 39 rfl wo.heap.size 5 i0 (.int .u8 0) 1 1 Tryd.underlying39 hi hz0 hz1 hz2 rfl (by decide) _ _ _ rfl (hown.alloc _) ⟨wr.heap.size, 0, none⟩ 1 1 [.int .u8 (cc : Int)] rfl rfl ?d1 ?d2 ?d3 ?d4 ?d5 ?_)
              case d2 => rfl
              case d3 => unfold maxLen; omega
              case d4 => omega
              case d5 => omega
              intro v' w1 hown1 hg1 _
              have hx : (cc : Int) = ((UInt8.ofNat cc).toNat : Int) := by rw [UInt8.toNat_ofNat']; omega
              obtain ⟨hm1, hb1⟩ := Made.push HM5.out hb4 hsz hx hown1 hg1
              have hm1' := Lib.hid hm1
              clear hm1 hown1 hg1 hown hx
              go_wp2
              go_roundw
              case rel =>
                refine ⟨q + 1, hq', by go_num, ?_, hb1⟩
                rw [hE.out]; exact hm1'.out
              case measure => simp [intOf]; omega
        · have e : q = M := by omega
          subst e
          go_wp2
          go_ret2
          refine ⟨⟨fun _ => ⟨_, rfl, ?_⟩, fun h => by rw [HN.out] at h; cases h⟩, hbl.trans (hb4.mono hsz0)⟩
          rw [HV.out, HM4.out]
          exact hm.base hsz0
end Go.Proofs.YtiilclncedipiaaDoor
namespace Go.Proofs.YtiilclncedipiaaDoor
open Go.RowKit
set_option linter.unusedVariables false
set_option maxRecDepth 100000

theorem runbits_arg (A : Option Addr) (n c : Nat) (s m : Int) (w : World) (h : ¬ (1 ≤ s ∧ s ≤ 8) ∨ m < 0 ∨ 1048576 < m) :
    Calls Tryd.prog 37 #[.slice A n c, .int .i64 s, .int .i64 m] w fun e w' => e = .returned (.tuple #[.slice none 0 0, .int .i64 2]) ∧ w = w' := by
  by_cases h1 : s < 1
  · clear h
    go_enter Tryd.func37, Tryd.ntmps37
    go_wp2
    go_ret2
    exact ⟨rfl, rfl⟩
  · have g1 : 1 ≤ s := by omega
    clear h1
    by_cases h2 : 8 < s
    · clear h
      go_enter Tryd.func37, Tryd.ntmps37
      go_wp2
      go_ret2
      exact ⟨rfl, rfl⟩
    · have g2 : s ≤ 8 := by omega
      clear h2
      by_cases h3 : m < 0
      · clear h
        go_enter Tryd.func37, Tryd.ntmps37
        go_wp2
        go_ret2
        exact ⟨rfl, rfl⟩
      · have g3 : 0 ≤ m := by omega
        have g4 : 1048576 < m := by omega
        clear h h3
        go_enter Tryd.func37, Tryd.ntmps37
        go_wp2
        go_ret2
        exact ⟨rfl, rfl⟩

theorem prod_small {d m : Nat} (h2 : d ≤ 8) (hm : m ≤ 1048576) : d * m ≤ 8388608 := Nat.le_trans (Nat.mul_le_mul h2 hm) (by omega)
theorem runbits_short (A : Option Addr) (n c d m : Nat) (w : World) (hn : n ≤ 140737488355328) (h1 : 1 ≤ d) (h2 : d ≤ 8) (hm : m ≤ 1048576) (hs : n < bytesOf m d) :
    Calls Tryd.prog 37 #[.slice A n c, .int .i64 d, .int .i64 m] w fun e w' => e = .returned (.tuple #[.slice none 0 0, .int .i64 4]) ∧ w = w' := by
  have hp : d * m ≤ 8388608 := prod_small h2 hm
  have hmul : (d : Int) * (m : Int) = ((d * m : Nat) : Int) := by rw [Int.natCast_mul]
  have hlt : 8 * n < d * m := by unfold bytesOf at hs; rw [Nat.mul_comm m d] at hs; omega
  generalize d * m = P at *
  clear hs
  go_enter Tryd.func37, Tryd.ntmps37
  go_wp2
  go_ret2
  exact ⟨rfl, rfl⟩

/-- One bit of a byte of the row. -/
theorem bit_read {b : List UInt8} (s : Nat) : bt b (s / 8) / 2 ^ (s % 8) % 2 = ((val 8 b / 2 ^ s % 2 : Nat) : Int) := by
  rw [← dg_val]
  have h := read_plain (V := val 8 b) (s := s) (d := 1) (by omega)
  rw [Nat.pow_one] at h
  have e3 : ((2 : Int) ^ (s % 8)) = ((2 ^ (s % 8) : Nat) : Int) := by push_cast; rfl
  rw [← h, e3]
  rfl
theorem part_lt {V a d p : Nat} (hp : p < d) (hd : d ≤ 8) : V / 2 ^ a % 2 ^ (d - (p + 1)) ≤ 127 := by
  have h1 : V / 2 ^ a % 2 ^ (d - (p + 1)) < 2 ^ (d - (p + 1)) := Nat.mod_lt _ (Nat.pow_pos (by omega))
  have h2 : 2 ^ (d - (p + 1)) ≤ 2 ^ 7 := Nat.pow_le_pow_right (by omega) (by omega)
  omega
theorem part_step (V a d p : Nat) (hp : p < d) : V / 2 ^ (a + p) % 2 ^ (d - p) = 2 * (V / 2 ^ (a + (p + 1)) % 2 ^ (d - (p + 1))) + V / 2 ^ (a + p) % 2 := by
  have := bit_step V (a + p) (d - (p + 1))
  rwa [show d - (p + 1) + 1 = d - p from by omega] at this

theorem bit_sum {x : Int} {C y : Nat} (h0 : 0 ≤ x) (hx : x % 2 = ((y % 2 : Nat) : Int)) (hC : C ≤ 127) : (2 * (C : Int) + x.tmod 2) % 256 = ((2 * C + y % 2 : Nat) : Int) := by
  rw [Int.tmod_eq_emod_of_nonneg h0, hx]
  omega
theorem shr_nonneg {b : List UInt8} (s k : Nat) : 0 ≤ bt b s / 2 ^ k := by
  have e3 : ((2 : Int) ^ k) = ((2 ^ k : Nat) : Int) := by push_cast; rfl
  rw [e3]
  exact Int.ediv_nonneg (bt_lo _ _) (Int.natCast_nonneg _)

set_option maxHeartbeats 2000000 in
theorem runbits_ok (A : Option Addr) (n c N d m B : Nat) (b : List UInt8) (w : World) (HB : Hid (B = w.heap.size)) (hb : Rd w N A n b) (hN : N ≤ B) (hn : n ≤ 140737488355328) (h1 : 1 ≤ d) (h2 : d ≤ 8) (hm : m ≤ 1048576) (hs : bytesOf m d ≤ n) :
    Calls Tryd.prog 37 #[.slice A n c, .int .i64 d, .int .i64 m] w fun e w' => ∃ v, e = .returned (.tuple #[v, .int .i64 0]) ∧ Made w' B v (digL d m (val 8 b)) ∧ Below B w w' := by
  have hBle : B ≤ w.heap.size := Nat.le_of_eq HB.out
  obtain ⟨i0, hi, hz0, hz1, hz2⟩ := info_parts u8info
  have hp : d * m ≤ 8388608 := prod_small h2 hm
  have hmul : (d : Int) * (m : Int) = ((d * m : Nat) : Int) := by rw [Int.natCast_mul]
  have hge : d * m ≤ 8 * n := by unfold bytesOf at hs; rw [Nat.mul_comm m d] at hs; omega
  have HM := Lib.hid hge
  have HMS : Hid (∀ i, i < m → i * d + d ≤ d * m) := fun i hi => by rw [← Nat.succ_mul, Nat.mul_comm d m]; exact Nat.mul_le_mul_right d hi
  have hd1 : decide ((d : Int) < 1) = false := by simp; omega
  have hd2 : decide (8 < (d : Int)) = false := by simp; omega
  have hd3 : decide ((m : Int) < 0) = false := by simp
  have hd4 : decide (1048576 < (m : Int)) = false := by simp; omega
  generalize hP : d * m = P at *
  have HP := Lib.hid hP
  have hd5 : decide (8 * (n : Int) < (P : Int)) = false := by simp; omega
  clear hP hs
  go_enter Tryd.func37, Tryd.ntmps37
  go_wp2
  clear hmul hd1 hd2 hd3 hd4 hd5
  have HBR : Hid (∀ s, bt b (s / 8) / 2 ^ (s % 8) % 2 = ((val 8 b / 2 ^ s % 2 : Nat) : Int)) := bit_read
  generalize hV : val 8 b = V at *
  have HV := Lib.hid hV
  clear hV
  go_loopw [8, 9] (fun v i wr => ∃ j : Nat, j ≤ m ∧ i = .int .i64 j ∧ Made wr B v (digL d j V) ∧ Below B w wr) (fun _ i _ => m - (intOf i).toNat)
  case atStart => exact ⟨0, Nat.zero_le _, rfl, World.ownsRow_nil _ _ _ _, Below.refl _ _⟩
  case round =>
    obtain ⟨j, hj, rfl, hm1, hbl⟩ := hrel
    have HM1 := Lib.hid hm1
    clear hm1
    by_cases hlt : j < m
    · have hT := HMS.out j hlt
      have hT2 : (j : Int) * (d : Int) = ((j * d : Nat) : Int) := by rw [Int.natCast_mul]
      have hE : Hid (digL d (j + 1) V = digL d j V ++ [UInt8.ofNat (V / 2 ^ (j * d + 0) % 2 ^ (d - 0))]) := by rw [Nat.add_zero, Nat.sub_zero, Nat.mul_comm j d]; exact digL_snoc d j V
      generalize j * d = T at *
      go_wp2
      go_loop [10, 11] (fun x k => ∃ i : Nat, i ≤ d ∧ k = .int .i64 ((i : Int) - 1) ∧ x = .int .u8 ((V / 2 ^ (T + i) % 2 ^ (d - i) : Nat) : Int)) (fun _ k => (intOf k + 1).toNat)
      case atStart => exact ⟨d, Nat.le_refl _, rfl, by simp [Nat.mod_one]⟩
      case round =>
        obtain ⟨i, hi8, rfl, rfl⟩ := hrel
        by_cases hi0 : 0 < i
        · obtain ⟨p, rfl⟩ : ∃ p, i = p + 1 := ⟨i - 1, by omega⟩
          have hC := part_lt (V := V) (a := T + (p + 1)) (p := p) (d := d) (by omega) h2
          have hS := part_step V T d p (by omega)
          have HBR' := Lib.hid (HBR.out (T + p))
          generalize V / 2 ^ (T + (p + 1)) % 2 ^ (d - (p + 1)) = C at *
          have HS := Lib.hid hS
          clear hS
          rw [show ((p + 1 : Nat) : Int) - 1 = (p : Int) from by omega]
          obtain ⟨bA, oA, rfl, _, cA⟩ := (hb.below (hbl.mono hN)).2 ((T + p) / 8) (by have := HM.out; omega)
          have hlo := bt_lo b ((T + p) / 8)
          have hhi := bt_hi b ((T + p) / 8)
          have hMo := HM.out
          go_wp2
          go_round
          case rel => exact ⟨p, by omega, rfl, by rw [HS.out, bit_sum (shr_nonneg _ _) HBR'.out hC]⟩
          case measure => simp [intOf]
        · have e : i = 0 := by omega
          subst e
          have hcc : V / 2 ^ (T + 0) % 2 ^ (d - 0) < 256 := mod_pow_le (by omega) _
          generalize V / 2 ^ (T + 0) % 2 ^ (d - 0) = cc at *
          have hown := HM1.out.own (length_digL d j V)
          have hsz : B ≤ wr.heap.size := Nat.le_trans hBle hbl.size
          go_wp2_with (at_builtin; refine wpList_append_own _ rfl _ _ 39 rfl B 5 i0 (.int .u8 0) 1 1 Tryd.underlying39 hi hz0 hz1 hz2 rfl (by decide) _ _ _ rfl (hown.alloc _) ⟨wr.heap.size, 0, none⟩ 1 1 [.int .u8 (cc : Int)] rfl rfl ?c1 ?c2 ?c3 ?c4 ?c5 ?_)
          case c2 => rfl
          case c3 => unfold maxLen; omega
          case c4 => omega
          case c5 => omega
          intro v' w1 hown1 hg1 _
          have hx : (cc : Int) = ((UInt8.ofNat cc).toNat : Int) := by rw [UInt8.toNat_ofNat']; omega
          obtain ⟨hm1, hb1⟩ := Made.push HM1.out hbl hsz hx hown1 hg1
          have hm1' := Lib.hid hm1
          clear hm1 hown1 hg1 hown hx
          go_wp2
          go_roundw
          case rel =>
            refine ⟨j + 1, by omega, by go_num, ?_, hb1⟩
            rw [hE.out]; exact hm1'.out
          case measure => simp [intOf]; omega
    · have e : j = m := by omega
      subst e
      go_wp2
      go_ret2
      exact ⟨_, rfl, by rw [HV.out]; exact HM1.out, hbl⟩
end Go.Proofs.YtiilclncedipiaaDoor
