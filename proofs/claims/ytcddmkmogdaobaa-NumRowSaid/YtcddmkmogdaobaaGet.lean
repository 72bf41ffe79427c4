/-
  num.Get and the document's Get over whatever bytes, place and size.
-/
import Derived.Test.YtcddmkmogdaobaaPut
import Derived.Laws.BitsAllLaws
import Derived.IntWalk
namespace Go.Proofs.Ytcddmkmogdaobaa
open Go.RowKit
set_option linter.unusedVariables false

/-- So many bytes from a place on. -/
def piece (b : List UInt8) (at_ k : Nat) : List UInt8 := (b.drop at_).take k
theorem length_piece {b : List UInt8} {p k : Nat} (h : p + k ≤ b.length) : (piece b p k).length = k := by simp [piece]; omega
theorem val_piece_succ {b : List UInt8} {p k : Nat} (h : p + k < b.length) : (val 8 (piece b p (k + 1)) : Int) = val 8 (piece b p k) + 2 ^ (k * 8) * bt b (p + k) := by
  have hk : k < (b.drop p).length := by simp; omega
  have e : piece b p (k + 1) = piece b p k ++ [b[p + k]] := by
    unfold piece
    rw [List.take_succ_eq_append_getElem hk]
    simp
  rw [e, val_append, length_piece (by omega), bt_get h, Nat.mul_comm 8 k]
  rw [val_one]
  push_cast
  rfl
theorem val_piece_head {b : List UInt8} {p k : Nat} (h : p < b.length) : (val 8 (piece b p (k + 1)) : Int) = 256 * val 8 (piece b (p + 1) k) + bt b p := by
  have e : piece b p (k + 1) = b[p] :: piece b (p + 1) k := by
    unfold piece
    rw [List.drop_eq_getElem_cons h, List.take_succ_cons]
  rw [e, val, bt_get h, show (2 : Nat) ^ 8 = 256 from rfl]
  omega
theorem val_piece_lt {b : List UInt8} {p k : Nat} (h : p + k ≤ b.length) : val 8 (piece b p k) < 2 ^ (k * 8) := by
  have := val_lt (all_256 (piece b p k))
  rwa [length_piece h, Nat.mul_comm] at this

theorem shl_fits {s : Nat} (x : Nat) (h1 : x ≤ 255) (hs : s ≤ 56) : x * 2 ^ s ≤ 18446744073709551615 := by
  have h2 : 2 ^ s ≤ 2 ^ 56 := Nat.pow_le_pow_right (by omega) hs
  have h3 : x * 2 ^ s ≤ 255 * 2 ^ 56 := Nat.mul_le_mul h1 h2
  omega
theorem or_shl {V s : Nat} {x : Int} (h0 : 0 ≤ x) (h1 : x ≤ 255) (hs : s ≤ 56) (hV : V < 2 ^ s) :
    bits .or .u64 (V : Int) (IntKind.u64.wrap (x * 2 ^ s)) = V + 2 ^ s * x := by
  obtain ⟨m, rfl⟩ := Int.eq_ofNat_of_zero_le h0
  have hf := shl_fits (s := s) m (by omega) hs
  have hV' : V < 18446744073709551616 := by
    have h2 : 2 ^ s ≤ 2 ^ 56 := Nat.pow_le_pow_right (by omega) hs
    omega
  have e : ((m : Int) * 2 ^ s) = ((m * 2 ^ s : Nat) : Int) := by push_cast; rfl
  rw [e, IntWalk.u64_in _ ⟨by omega, by omega⟩, u64_or_nat V _ hV' (by omega), Nat.or_comm, nat_join s _ _ (Nat.mul_mod_left m (2 ^ s)) hV]
  push_cast
  rw [Int.mul_comm (2 ^ s) (m : Int), Int.add_comm]

theorem get_arg (A : Option Addr) (n c : Nat) (p s : Int) (w : World) (hn : n ≤ maxLen) (h : ¬ (1 ≤ s ∧ s ≤ 8) ∨ p < 0 ∨ (n : Int) < p) :
    Calls Try.prog 11 #[.slice A n c, .int .i64 p, .int .i64 s] w fun e w' => e = .returned (.tuple #[.int .u64 0, .int .i64 2]) ∧ w = w' := by
  by_cases hs : 1 ≤ s ∧ s ≤ 8
  · obtain ⟨h1, h2⟩ := hs
    by_cases hp : p < 0
    · clear h
      go_enter Try.func11, Try.ntmps11
      go_wp2_with (first | (go_at_call 22; refine (maySize_yes _ _ (by omega) (by omega)).mono ?_; rintro e w' ⟨rfl, rfl⟩))
      go_ret2
      exact ⟨rfl, rfl⟩
    · have hp2 : (n : Int) < p := by omega
      have hp1 : 0 ≤ p := by omega
      clear h hp
      go_enter Try.func11, Try.ntmps11
      go_wp2_with (first | (go_at_call 22; refine (maySize_yes _ _ (by omega) (by omega)).mono ?_; rintro e w' ⟨rfl, rfl⟩))
      go_ret2
      exact ⟨rfl, rfl⟩
  · clear h
    go_enter Try.func11, Try.ntmps11
    go_wp2_with (first | (go_at_call 22; refine (maySize_no _ _ hs).mono ?_; rintro e w' ⟨rfl, rfl⟩))
    go_ret2
    exact ⟨rfl, rfl⟩

theorem get_short (A : Option Addr) (n c : Nat) (p s : Int) (w : World) (hn : n ≤ maxLen) (h1 : 1 ≤ s) (h2 : s ≤ 8) (h3 : 0 ≤ p) (h4 : p ≤ n) (h5 : (n : Int) - p < s) :
    Calls Try.prog 11 #[.slice A n c, .int .i64 p, .int .i64 s] w fun e w' => e = .returned (.tuple #[.int .u64 0, .int .i64 4]) ∧ w = w' := by
  unfold maxLen at hn
  go_enter Try.func11, Try.ntmps11
  go_wp2_with (first | (go_at_call 22; refine (maySize_yes _ _ (by omega) (by omega)).mono ?_; rintro e w' ⟨rfl, rfl⟩))
  go_ret2
  exact ⟨rfl, rfl⟩

theorem get_ok (A : Option Addr) (n c N : Nat) (b : List UInt8) (p k : Nat) (w : World) (hb : Rd w N A n b) (hn : n ≤ maxLen) (h1 : 1 ≤ k) (h2 : k ≤ 8) (h3 : p + k ≤ n) :
    Calls Try.prog 11 #[.slice A n c, .int .i64 p, .int .i64 k] w fun e w' => e = .returned (.tuple #[.int .u64 (val 8 (piece b p k)), .int .i64 0]) ∧ w = w' := by
  unfold maxLen at hn
  go_enter Try.func11, Try.ntmps11
  go_wp2_with (first | (go_at_call 22; refine (maySize_yes _ _ (by omega) (by omega)).mono ?_; rintro e w' ⟨rfl, rfl⟩))
  go_loop [8, 30] (fun x i => ∃ j : Nat, j ≤ k ∧ i = .int .i64 j ∧ x = .int .u64 (val 8 (piece b p j))) (fun _ i => k - (intOf i).toNat)
  case atStart => exact ⟨0, Nat.zero_le _, rfl, by simp [piece, val]⟩
  case round =>
    obtain ⟨j, hj, rfl, rfl⟩ := hrel
    by_cases hlt : j < k
    · obtain ⟨bA, oA, rfl, hA, cA⟩ := hb.2 (p + j) (by omega)
      have hlo := bt_lo b (p + j)
      have hhi := bt_hi b (p + j)
      go_wp2
      go_round
      case rel =>
        refine ⟨j + 1, by omega, by go_num, ?_⟩
        rw [val_piece_succ (by have := hb.1; omega), or_shl hlo hhi (by omega) (val_piece_lt (by have := hb.1; omega))]
      case measure => simp [intOf]; omega
    · go_wp2
      go_ret2
      have e : j = k := by omega
      subst e
      exact ⟨rfl, rfl⟩

/-! The document's Get. -/
theorem rget_arg (A : Option Addr) (n c : Nat) (p s : Int) (w : World) (hn : n ≤ maxLen) (h : ¬ (1 ≤ s ∧ s ≤ 8) ∨ p < 0 ∨ (n : Int) < p) :
    Calls Try.prog 12 #[.slice A n c, .int .i64 p, .int .i64 s] w fun e w' => e = .returned (.tuple #[.int .u64 0, .int .i64 2]) ∧ w = w' := by
  by_cases h1 : s < 1
  · clear h
    go_enter Try.func12, Try.ntmps12
    go_wp2
    go_ret2
    exact ⟨rfl, rfl⟩
  · have g1 : 1 ≤ s := by omega
    clear h1
    by_cases h2 : 8 < s
    · clear h
      go_enter Try.func12, Try.ntmps12
      go_wp2
      go_ret2
      exact ⟨rfl, rfl⟩
    · have g2 : s ≤ 8 := by omega
      clear h2
      by_cases h3 : p < 0
      · clear h
        go_enter Try.func12, Try.ntmps12
        go_wp2
        go_ret2
        exact ⟨rfl, rfl⟩
      · have g3 : 0 ≤ p := by omega
        have g4 : (n : Int) < p := by omega
        clear h h3
        go_enter Try.func12, Try.ntmps12
        go_wp2
        go_ret2
        exact ⟨rfl, rfl⟩

theorem rget_short (A : Option Addr) (n c : Nat) (p s : Int) (w : World) (hn : n ≤ maxLen) (h1 : 1 ≤ s) (h2 : s ≤ 8) (h3 : 0 ≤ p) (h4 : p ≤ n) (h5 : (n : Int) - p < s) :
    Calls Try.prog 12 #[.slice A n c, .int .i64 p, .int .i64 s] w fun e w' => e = .returned (.tuple #[.int .u64 0, .int .i64 4]) ∧ w = w' := by
  unfold maxLen at hn
  go_enter Try.func12, Try.ntmps12
  go_wp2
  go_ret2
  exact ⟨rfl, rfl⟩

theorem mul256_fits {V j : Nat} (h : V < 2 ^ (j * 8)) (hj : j ≤ 7) : 256 * V + 255 ≤ 18446744073709551615 := by
  have h2 : 2 ^ (j * 8) ≤ 2 ^ 56 := Nat.pow_le_pow_right (by omega) (by omega)
  omega
theorem rget_ok (A : Option Addr) (n c N : Nat) (b : List UInt8) (p k : Nat) (w : World) (hb : Rd w N A n b) (hn : n ≤ maxLen) (h1 : 1 ≤ k) (h2 : k ≤ 8) (h3 : p + k ≤ n) :
    Calls Try.prog 12 #[.slice A n c, .int .i64 p, .int .i64 k] w fun e w' => e = .returned (.tuple #[.int .u64 (val 8 (piece b p k)), .int .i64 0]) ∧ w = w' := by
  unfold maxLen at hn
  go_enter Try.func12, Try.ntmps12
  go_wp2
  go_loop [8, 9] (fun x i => ∃ j : Nat, j ≤ k ∧ i = .int .i64 ((j : Int) - 1) ∧ x = .int .u64 (val 8 (piece b (p + j) (k - j)))) (fun _ i => (intOf i + 1).toNat)
  case atStart => exact ⟨k, Nat.le_refl _, rfl, by simp [piece, val]⟩
  case round =>
    obtain ⟨j, hj, rfl, rfl⟩ := hrel
    by_cases hlt : 0 < j
    · obtain ⟨i, rfl⟩ : ∃ i, j = i + 1 := ⟨j - 1, by omega⟩
      obtain ⟨bA, oA, rfl, hA, cA⟩ := hb.2 (p + i) (by omega)
      have hlo := bt_lo b (p + i)
      have hhi := bt_hi b (p + i)
      have hv := val_piece_lt (b := b) (p := p + (i + 1)) (k := k - (i + 1)) (by have := hb.1; omega)
      have hv2 := mul256_fits hv (by omega)
      clear hv
      rw [show ((i + 1 : Nat) : Int) - 1 = (i : Int) from by omega]
      go_wp2
      go_round
      case rel =>
        refine ⟨i, by omega, rfl, ?_⟩
        have h3 := val_piece_head (b := b) (p := p + i) (k := k - (i + 1)) (by have := hb.1; omega)
        rw [show k - (i + 1) + 1 = k - i from by omega] at h3
        rw [h3, Nat.add_assoc]
      case measure => simp [intOf]
    · have e : j = 0 := by omega
      subst e
      go_wp2
      go_ret2
      exact ⟨rfl, rfl⟩
end Go.Proofs.Ytcddmkmogdaobaa
