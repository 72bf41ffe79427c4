/-
  num.Put, num.Get and the document's of numbers that have the size: bytes, the lowest first.
-/
import Derived.Test.YtiandcigoflcmaaDoorPre
import Derived.Test.YtiandcigoflcmaaDoorByt
import Derived.Laws.BitsAllLaws
import Derived.IntWalk
import Derived.Laws.AppendOwn
import Derived.Laws.AppendOwnNone
namespace Go.Proofs.YtiandcigoflcmaaDoor
open Go.RowKit
set_option linter.unusedVariables false

theorem maySize_yes (s : Int) (w : World) (h1 : 1 ≤ s) (h2 : s ≤ 8) : Calls Tryd.prog 41 #[.int .i64 s] w fun e w' => e = .returned (.bool true) ∧ w = w' := by
  go_enter Tryd.func41, Tryd.ntmps41
  go_wp2
  go_ret
  exact ⟨rfl, rfl⟩
def fitB (n k : Nat) : Bool := decide (n < 2 ^ k)
theorem fits_any (n : Nat) (c : Int) (w : World) (h0 : 0 ≤ c) (h64 : c ≤ 64) : Calls Tryd.prog 42 #[.int .u64 n, .int .i64 c] w fun e w' => e = .returned (.bool (fitB n c.toNat)) ∧ w = w' := by
  obtain ⟨k, rfl⟩ := Int.eq_ofNat_of_zero_le h0
  rw [Int.toNat_natCast]
  go_enter Tryd.func42, Tryd.ntmps42
  go_wp2
  go_ret
  refine ⟨ret_bool ?_, rfl⟩
  have e : ((n : Int) / 2 ^ k) = ((n / 2 ^ k : Nat) : Int) := by simp
  rw [e]
  unfold fitB
  have h2 : 0 < 2 ^ k := Nat.pow_pos (by omega)
  rw [Bool.eq_iff_iff]
  simp only [beq_iff_eq, decide_eq_true_eq]
  rw [← Nat.div_eq_zero_iff_lt h2]
  omega
theorem bt_digL8 (n k j : Nat) (h : j < k) : bt (digL 8 k n) j = (n : Int) / 2 ^ (j * 8) % 256 := by
  have hl : j < (digL 8 k n).length := by rw [length_digL]; exact h
  rw [bt_get hl, getElem_digL (by omega) hl, Nat.mul_comm 8 j]
  simp
/-- num.Put of a number of a size: its bytes, in memory of their own. -/
theorem put_ok (n k : Nat) (w : World) (h1 : 1 ≤ k) (h2 : k ≤ 8) (hn : n < 256 ^ k) :
    Calls Tryd.prog 32 #[.int .u64 n, .int .i64 k] w fun e w' => ∃ v, e = .returned (.tuple #[v, .int .i64 0]) ∧ Own w' w.heap.size v (digL 8 k n) ∧ Below w.heap.size w w' := by
  have hf : fitB n (k * 8) = true := by
    have e : (2 : Nat) ^ (k * 8) = 256 ^ k := by rw [Nat.mul_comm, Nat.pow_mul]
    unfold fitB
    rw [e]
    simpa using hn
  have HF := Lib.hid hf
  clear hf
  have hmk := fun (kl kc : IntKind) (m : Nat) (h1 : 1 * m ≤ 281474976710656) (h2 : m ≤ 9223372036854775807) (W : World) => run_make_row' (P := Tryd.prog) 35 5 (.int .u8 0) 1 Tryd.underlying35 u8info rfl kl kc m h1 h2 W
  have hmk1 := hmk .i64 .i64 k (by omega) (by omega)
  clear hmk
  go_enter Tryd.func32, Tryd.ntmps32
  go_wp2_with (first | (go_at_call 41; refine (maySize_yes _ _ (by omega) (by omega)).mono ?_; rintro e w' ⟨rfl, rfl⟩))
  refine (fits_any _ _ _ (by omega) (by omega)).mono ?_
  rintro e w' ⟨rfl, rfl⟩
  rw [show ((k : Int) * 8).toNat = k * 8 from by omega, HF.out]
  go_wp2
  clear hmk1
  have hr0 := World.rowIs_made w (Value.int .u8 0) k 5
  obtain ⟨g, hg⟩ : ∃ g, g = w.heap.size := ⟨_, rfl⟩
  rw [← hg] at hr0 ⊢
  have hbl0 : Below g w (w.alloc (.cells (madeCells #[Value.int .u8 0] k) 5)) := by rw [hg]; exact (Below.refl _ _).alloc (Nat.le_refl _) _
  have HG := Lib.hid hg
  clear hg HF
  go_loopw [21] (fun i wr => ∃ (j : Nat) (f : Nat → Int), j ≤ k ∧ i = .int .i64 j ∧ wr.rowIs g 5 k (fun j => .int .u8 (f j)) ∧ (∀ m, m < j → f m = bt (digL 8 k n) m) ∧ (∀ m, 0 ≤ f m ∧ f m ≤ 255) ∧ Below g w wr) (fun i _ => k - (intOf i).toNat)
  case atStart => exact ⟨0, fun _ => 0, Nat.zero_le _, rfl, hr0, fun j hj => absurd hj (by omega), fun _ => by simp, hbl0⟩
  case round =>
    obtain ⟨j, f, hj, rfl, hrow, hf, hr, hbl⟩ := hrel
    by_cases hlt : j < k
    · have hc := hrow.cell hlt
      have hfr := hrow.frozen j
      have HFF := Lib.hid hf
      have HR := Lib.hid hr
      clear hf hr
      go_wp2
      go_roundw
      case rel =>
        refine ⟨j + 1, _, by omega, by go_num, (hrow.set j _).congr (g := fun m => .int .u8 (if m = j then bt (digL 8 k n) j else f m)) ?_, ?_, ?_, hbl.setCell (Nat.le_refl _) _⟩
        · intro m hm
          show (if m = j then Value.int IntKind.u8 (↑n / 2 ^ (j * 8) % 256) else Value.int .u8 (f m)) = _
          split
          · rw [bt_digL8 n k j hlt]
          · rfl
        · intro m hm
          show (if m = j then bt (digL 8 k n) j else f m) = _
          split
          · subst m; rfl
          · exact HFF.out m (by omega)
        · intro m
          show 0 ≤ (if m = j then bt (digL 8 k n) j else f m) ∧ (if m = j then bt (digL 8 k n) j else f m) ≤ 255
          split
          · exact ⟨bt_lo _ _, bt_hi _ _⟩
          · exact HR.out m
      case measure => simp [intOf]; omega
    · go_wp2
      go_ret2
      have hjk : j = k := by omega
      subst hjk
      refine ⟨_, rfl, Own.of_row (length_digL 8 j n) (Nat.le_of_eq HG.out.symm) hrow (Nat.le_refl _) (by unfold maxLen; omega) hf hr, ?_⟩
      rw [← HG.out]
      exact hbl
theorem val_piece_succ {b : List UInt8} {p k : Nat} (h : p + k < b.length) : (val 8 (piece b p (k + 1)) : Int) = val 8 (piece b p k) + 2 ^ (k * 8) * bt b (p + k) := by
  have hk : k < (b.drop p).length := by simp; omega
  have e : piece b p (k + 1) = piece b p k ++ [b[p + k]] := by
    unfold piece
    rw [List.take_succ_eq_append_getElem hk]
    simp
  rw [e, val_append, length_piece (by omega), bt_get h, Nat.mul_comm 8 k]
  rw [val_one]
  push_cast
  rfl
theorem val_piece_head {b : List UInt8} {p k : Nat} (h : p < b.length) : (val 8 (piece b p (k + 1)) : Int) = 256 * val 8 (piece b (p + 1) k) + bt b p := by
  have e : piece b p (k + 1) = b[p] :: piece b (p + 1) k := by
    unfold piece
    rw [List.drop_eq_getElem_cons h, List.take_succ_cons]
  rw [e, val, bt_get h, show (2 : Nat) ^ 8 = 256 from rfl]
  omega
theorem val_piece_lt {b : List UInt8} {p k : Nat} (h : p + k ≤ b.length) : val 8 (piece b p k) < 2 ^ (k * 8) := by
  have := val_lt (all_256 (piece b p k))
  rwa [length_piece h, Nat.mul_comm] at this
theorem shl_fits {s : Nat} (x : Nat) (h1 : x ≤ 255) (hs : s ≤ 56) : x * 2 ^ s ≤ 18446744073709551615 := by
  have h2 : 2 ^ s ≤ 2 ^ 56 := Nat.pow_le_pow_right (by omega) hs
  have h3 : x * 2 ^ s ≤ 255 * 2 ^ 56 := Nat.mul_le_mul h1 h2
  omega
theorem or_shl {V s : Nat} {x : Int} (h0 : 0 ≤ x) (h1 : x ≤ 255) (hs : s ≤ 56) (hV : V < 2 ^ s) :
    bits .or .u64 (V : Int) (IntKind.u64.wrap (x * 2 ^ s)) = V + 2 ^ s * x := by
  obtain ⟨m, rfl⟩ := Int.eq_ofNat_of_zero_le h0
  have hf := shl_fits (s := s) m (by omega) hs
  have hV' : V < 18446744073709551616 := by
    have h2 : 2 ^ s ≤ 2 ^ 56 := Nat.pow_le_pow_right (by omega) hs
    omega
  have e : ((m : Int) * 2 ^ s) = ((m * 2 ^ s : Nat) : Int) := by push_cast; rfl
  rw [e, IntWalk.u64_in _ ⟨by omega, by omega⟩, u64_or_nat V _ hV' (by omega), Nat.or_comm, nat_join s _ _ (Nat.mul_mod_left m (2 ^ s)) hV]
  push_cast
  rw [Int.mul_comm (2 ^ s) (m : Int), Int.add_comm]
theorem get_ok (A : Option Addr) (n c N : Nat) (b : List UInt8) (p k : Nat) (w : World) (hb : Rd w N A n b) (hn : n ≤ maxLen) (h1 : 1 ≤ k) (h2 : k ≤ 8) (h3 : p + k ≤ n) :
    Calls Tryd.prog 39 #[.slice A n c, .int .i64 p, .int .i64 k] w fun e w' => e = .returned (.tuple #[.int .u64 (val 8 (piece b p k)), .int .i64 0]) ∧ w = w' := by
  unfold maxLen at hn
  go_enter Tryd.func39, Tryd.ntmps39
  go_wp2_with (first | (go_at_call 41; refine (maySize_yes _ _ (by omega) (by omega)).mono ?_; rintro e w' ⟨rfl, rfl⟩))
  go_loop [8, 30] (fun x i => ∃ j : Nat, j ≤ k ∧ i = .int .i64 j ∧ x = .int .u64 (val 8 (piece b p j))) (fun _ i => k - (intOf i).toNat)
  case atStart => exact ⟨0, Nat.zero_le _, rfl, by simp [piece, val]⟩
  case round =>
    obtain ⟨j, hj, rfl, rfl⟩ := hrel
    by_cases hlt : j < k
    · obtain ⟨bA, oA, rfl, hA, cA⟩ := hb.2 (p + j) (by omega)
      have hlo := bt_lo b (p + j)
      have hhi := bt_hi b (p + j)
      go_wp2
      go_round
      case rel =>
        refine ⟨j + 1, by omega, by go_num, ?_⟩
        rw [val_piece_succ (by have := hb.1; omega), or_shl hlo hhi (by omega) (val_piece_lt (by have := hb.1; omega))]
      case measure => simp [intOf]; omega
    · go_wp2
      go_ret2
      have e : j = k := by omega
      subst e
      exact ⟨rfl, rfl⟩
theorem mul256_fits {V j : Nat} (h : V < 2 ^ (j * 8)) (hj : j ≤ 7) : 256 * V + 255 ≤ 18446744073709551615 := by
  have h2 : 2 ^ (j * 8) ≤ 2 ^ 56 := Nat.pow_le_pow_right (by omega) (by omega)
  omega
theorem rget_ok (A : Option Addr) (n c N : Nat) (b : List UInt8) (p k : Nat) (w : World) (hb : Rd w N A n b) (hn : n ≤ maxLen) (h1 : 1 ≤ k) (h2 : k ≤ 8) (h3 : p + k ≤ n) :
    Calls Tryd.prog 29 #[.slice A n c, .int .i64 p, .int .i64 k] w fun e w' => e = .returned (.tuple #[.int .u64 (val 8 (piece b p k)), .int .i64 0]) ∧ w = w' := by
  unfold maxLen at hn
  go_enter Tryd.func29, Tryd.ntmps29
  go_wp2
  go_loop [8, 9] (fun x i => ∃ j : Nat, j ≤ k ∧ i = .int .i64 ((j : Int) - 1) ∧ x = .int .u64 (val 8 (piece b (p + j) (k - j)))) (fun _ i => (intOf i + 1).toNat)
  case atStart => exact ⟨k, Nat.le_refl _, rfl, by simp [piece, val]⟩
  case round =>
    obtain ⟨j, hj, rfl, rfl⟩ := hrel
    by_cases hlt : 0 < j
    · obtain ⟨i, rfl⟩ : ∃ i, j = i + 1 := ⟨j - 1, by omega⟩
      obtain ⟨bA, oA, rfl, hA, cA⟩ := hb.2 (p + i) (by omega)
      have hlo := bt_lo b (p + i)
      have hhi := bt_hi b (p + i)
      have hv := val_piece_lt (b := b) (p := p + (i + 1)) (k := k - (i + 1)) (by have := hb.1; omega)
      have hv2 := mul256_fits hv (by omega)
      clear hv
      rw [show ((i + 1 : Nat) : Int) - 1 = (i : Int) from by omega]
      go_wp2
      go_round
      case rel =>
        refine ⟨i, by omega, rfl, ?_⟩
        have h3 := val_piece_head (b := b) (p := p + i) (k := k - (i + 1)) (by have := hb.1; omega)
        rw [show k - (i + 1) + 1 = k - i from by omega] at h3
        rw [h3, Nat.add_assoc]
      case measure => simp [intOf]
    · have e : j = 0 := by omega
      subst e
      go_wp2
      go_ret2
      exact ⟨rfl, rfl⟩
set_option maxHeartbeats 800000 in
/-- The walk of ref.Put up to its last test, of a number of whatever many bits: the bytes that it laid, and what is left of the number. -/
theorem rput_any (n k B : Nat) (w : World) (HB : Hid (B = w.heap.size)) (hn : n < 18446744073709551616) (h1 : 1 ≤ k) (h2 : k ≤ 8) :
    Calls Tryd.prog 21 #[.int .u64 n, .int .i64 k] w fun e w' =>
      ((n < 2 ^ (8 * k) → ∃ v, e = .returned (.tuple #[v, .int .i64 0]) ∧ Made w' B v (digL 8 k n)) ∧ (¬ n < 2 ^ (8 * k) → e = .returned (.tuple #[.slice none 0 0, .int .i64 2]))) ∧ Below B w w' := by
  obtain ⟨i0, hi, hz0, hz1, hz2⟩ := info_parts u8info
  go_enter Tryd.func21, Tryd.ntmps21
  go_wp2
  have hBle : B ≤ w.heap.size := Nat.le_of_eq HB.out
  go_loopw [0, 6, 7] (fun x v i wr => ∃ j : Nat, j ≤ k ∧ i = .int .i64 j ∧ x = .int .u64 ((n / 2 ^ (8 * j) : Nat) : Int) ∧ Made wr B v (digL 8 j n) ∧ Below B w wr) (fun _ _ i _ => k - (intOf i).toNat)
  case atStart => exact ⟨0, Nat.zero_le _, rfl, by simp, World.ownsRow_nil _ _ _ _, Below.refl _ _⟩
  case round =>
    obtain ⟨j, hj, rfl, rfl, hm, hbl⟩ := hrel
    by_cases hlt : j < k
    · have hown := hm.own (length_digL 8 j n)
      have hsz : B ≤ wr.heap.size := Nat.le_trans hBle hbl.size
      have hq : n / 2 ^ (8 * j) ≤ n := Nat.div_le_self _ _
      have hm' := Lib.hid hm
      have hE : Hid (n / 2 ^ (8 * (j + 1)) = n / 2 ^ (8 * j) / 256 ∧ digL 8 (j + 1) n = digL 8 j n ++ [UInt8.ofNat (n / 2 ^ (8 * j) % 256)]) := ⟨by rw [Nat.div_div_eq_div_mul, Nat.mul_succ, Nat.pow_add], digL_snoc 8 j n⟩
      clear hm
      generalize n / 2 ^ (8 * j) = q at *
      go_wp2_with (at_builtin; refine wpList_append_own _ rfl _ _ 35 rfl B 5 i0 (.int .u8 0) 1 1 Tryd.underlying35 hi hz0 hz1 hz2 rfl (by decide) _ _ _ rfl (hown.alloc _) ⟨wr.heap.size, 0, none⟩ 1 1 [.int .u8 ((q : Int) % 256)] rfl rfl ?c1 ?c2 ?c3 ?c4 ?c5 ?_)
      case c1 => exact cell_one_new _ _ _
      case c2 => intro u hu; simp at hu; subst hu; rfl
      case c3 => unfold maxLen; omega
      case c4 => omega
      case c5 => simp; omega
      intro v' w1 hown1 hg1 _
      have hx : ((q : Int) % 256) = ((UInt8.ofNat (q % 256)).toNat : Int) := by rw [UInt8.toNat_ofNat']; omega
      obtain ⟨hm1, hb1⟩ := Made.push (hm'.out) hbl hsz hx hown1 hg1
      have hm1' := Lib.hid hm1
      clear hm1 hown1 hg1 hown hx hm'
      go_wp2
      go_roundw
      case rel =>
        refine ⟨j + 1, by omega, by go_num, ?_, ?_, hb1⟩
        · rw [hE.out.1]; simp
        · rw [hE.out.2]; exact hm1'.out
      case measure => simp [intOf]; omega
    · have e : j = k := by omega
      subst e
      have h0 : 0 < 2 ^ (8 * j) := Nat.pow_pos (by omega)
      by_cases hq : n < 2 ^ (8 * j)
      · rw [Nat.div_eq_of_lt hq]
        go_wp2
        go_ret2
        exact ⟨⟨fun _ => ⟨_, rfl, hm⟩, fun h => absurd hq h⟩, hbl⟩
      · have hq0 : 0 < n / 2 ^ (8 * j) := Nat.div_pos (by omega) h0
        generalize n / 2 ^ (8 * j) = q at *
        go_wp2
        go_ret2
        exact ⟨⟨fun h => absurd h hq, fun _ => rfl⟩, hbl⟩
end Go.Proofs.YtiandcigoflcmaaDoor
