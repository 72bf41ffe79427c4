/-
  num.Put over whatever number and size.
-/
import Derived.Test.YtcddmkmogdaobaaBase
import Derived.Test.YtcddmkmogdaobaaMath
import Derived.Test.YtcddmkmogdaobaaProg
import Derived.WalkKit
import Derived.RegionTactic
import Derived.ChangeAlike
import Derived.Deep.QuietTactic
import Derived.BigQuiet
import Derived.Lib.Hide
import Derived.WalkLawsBesides
import Derived.WalkSpells
import Derived.Deep.OwnRows
namespace Go.Proofs.Ytcddmkmogdaobaa
open Go.RowKit
set_option linter.unusedVariables false

theorem maySize_yes (s : Int) (w : World) (h1 : 1 ≤ s) (h2 : s ≤ 8) : Calls Try.prog 22 #[.int .i64 s] w fun e w' => e = .returned (.bool true) ∧ w = w' := by
  go_enter Try.func22, Try.ntmps22
  go_wp2
  go_ret
  exact ⟨rfl, rfl⟩
theorem maySize_no (s : Int) (w : World) (h : ¬ (1 ≤ s ∧ s ≤ 8)) : Calls Try.prog 22 #[.int .i64 s] w fun e w' => e = .returned (.bool false) ∧ w = w' := by
  by_cases h1 : 1 ≤ s
  · have h2 : 8 < s := by omega
    clear h
    go_enter Try.func22, Try.ntmps22
    go_wp2
    go_ret
    exact ⟨ret_bool (by simp; omega), rfl⟩
  · clear h
    have h2 : s < 1 := by omega
    go_enter Try.func22, Try.ntmps22
    go_wp2
    go_ret
    exact ⟨rfl, rfl⟩
def fitB (n k : Nat) : Bool := decide (n < 2 ^ k)
theorem fits_any (n : Nat) (c : Int) (w : World) (h0 : 0 ≤ c) (h64 : c ≤ 64) : Calls Try.prog 23 #[.int .u64 n, .int .i64 c] w fun e w' => e = .returned (.bool (fitB n c.toNat)) ∧ w = w' := by
  obtain ⟨k, rfl⟩ := Int.eq_ofNat_of_zero_le h0
  rw [Int.toNat_natCast]
  go_enter Try.func23, Try.ntmps23
  go_wp2
  go_ret
  refine ⟨ret_bool ?_, rfl⟩
  have e : ((n : Int) / 2 ^ k) = ((n / 2 ^ k : Nat) : Int) := by simp
  rw [e]
  unfold fitB
  have h2 : 0 < 2 ^ k := Nat.pow_pos (by omega)
  rw [Bool.eq_iff_iff]
  simp only [beq_iff_eq, decide_eq_true_eq]
  rw [← Nat.div_eq_zero_iff_lt h2]
  omega

theorem bt_digL8 (n k j : Nat) (h : j < k) : bt (digL 8 k n) j = (n : Int) / 2 ^ (j * 8) % 256 := by
  have hl : j < (digL 8 k n).length := by rw [length_digL]; exact h
  rw [bt_get hl, getElem_digL (by omega) hl, Nat.mul_comm 8 j]
  simp

/-- num.Put of what is no number of a size: nothing, ErrArg. -/
theorem put_no (n : Nat) (s : Int) (w : World) (hn : n < 18446744073709551616) (h : ¬ (1 ≤ s ∧ s ≤ 8) ∨ ¬ n < 256 ^ s.toNat) :
    Calls Try.prog 9 #[.int .u64 n, .int .i64 s] w fun e w' => e = .returned (.tuple #[.slice none 0 0, .int .i64 2]) ∧ w = w' := by
  by_cases hs : 1 ≤ s ∧ s ≤ 8
  · obtain ⟨h1, h2⟩ := hs
    obtain ⟨k, rfl⟩ := Int.eq_ofNat_of_zero_le (show 0 ≤ s by omega)
    have hf : fitB n (k * 8) = false := by
      have hn' : ¬ n < 256 ^ k := by simpa using h.resolve_left (by omega)
      have e : (2 : Nat) ^ (k * 8) = 256 ^ k := by rw [Nat.mul_comm, Nat.pow_mul]
      unfold fitB
      rw [e]
      simpa using hn'
    have HF := Lib.hid hf
    clear h hf
    go_enter Try.func9, Try.ntmps9
    go_wp2_with (first | (go_at_call 22; refine (maySize_yes _ _ (by omega) (by omega)).mono ?_; rintro e w' ⟨rfl, rfl⟩))
    refine (fits_any _ _ _ (by omega) (by omega)).mono ?_
    rintro e w' ⟨rfl, rfl⟩
    rw [show ((k : Int) * 8).toNat = k * 8 from by omega, HF.out]
    go_wp2
    go_ret2
    exact ⟨rfl, rfl⟩
  · go_enter Try.func9, Try.ntmps9
    go_wp2_with (first | (go_at_call 22; refine (maySize_no _ _ hs).mono ?_; rintro e w' ⟨rfl, rfl⟩))
    go_ret2
    exact ⟨rfl, rfl⟩

theorem u8info : (Try.prog.info? 5).map (fun i => (i.zero, i.size, i.bytes)) = some (some (.int .u8 0), 1, 1) := by kernel_rfl

/-- num.Put of a number of a size: its bytes, in memory of their own. -/
theorem put_ok (n k : Nat) (w : World) (h1 : 1 ≤ k) (h2 : k ≤ 8) (hn : n < 256 ^ k) :
    Calls Try.prog 9 #[.int .u64 n, .int .i64 k] w fun e w' => ∃ v, e = .returned (.tuple #[v, .int .i64 0]) ∧ Own w' w.heap.size v (digL 8 k n) ∧ Below w.heap.size w w' := by
  have hf : fitB n (k * 8) = true := by
    have e : (2 : Nat) ^ (k * 8) = 256 ^ k := by rw [Nat.mul_comm, Nat.pow_mul]
    unfold fitB
    rw [e]
    simpa using hn
  have HF := Lib.hid hf
  clear hf
  have hmk := fun (kl kc : IntKind) (m : Nat) (h1 : 1 * m ≤ 281474976710656) (h2 : m ≤ 9223372036854775807) (W : World) => run_make_row' (P := Try.prog) 23 5 (.int .u8 0) 1 Try.underlying23 u8info rfl kl kc m h1 h2 W
  have hmk1 := hmk .i64 .i64 k (by omega) (by omega)
  clear hmk
  go_enter Try.func9, Try.ntmps9
  go_wp2_with (first | (go_at_call 22; refine (maySize_yes _ _ (by omega) (by omega)).mono ?_; rintro e w' ⟨rfl, rfl⟩))
  refine (fits_any _ _ _ (by omega) (by omega)).mono ?_
  rintro e w' ⟨rfl, rfl⟩
  rw [show ((k : Int) * 8).toNat = k * 8 from by omega, HF.out]
  go_wp2
  clear hmk1
  have hr0 := World.rowIs_made w (Value.int .u8 0) k 5
  obtain ⟨g, hg⟩ : ∃ g, g = w.heap.size := ⟨_, rfl⟩
  rw [← hg] at hr0 ⊢
  have hbl0 : Below g w (w.alloc (.cells (madeCells #[Value.int .u8 0] k) 5)) := by rw [hg]; exact (Below.refl _ _).alloc (Nat.le_refl _) _
  have HG := Lib.hid hg
  clear hg HF
  go_loopw [21] (fun i wr => ∃ (j : Nat) (f : Nat → Int), j ≤ k ∧ i = .int .i64 j ∧ wr.rowIs g 5 k (fun j => .int .u8 (f j)) ∧ (∀ m, m < j → f m = bt (digL 8 k n) m) ∧ (∀ m, 0 ≤ f m ∧ f m ≤ 255) ∧ Below g w wr) (fun i _ => k - (intOf i).toNat)
  case atStart => exact ⟨0, fun _ => 0, Nat.zero_le _, rfl, hr0, fun j hj => absurd hj (by omega), fun _ => by simp, hbl0⟩
  case round =>
    obtain ⟨j, f, hj, rfl, hrow, hf, hr, hbl⟩ := hrel
    by_cases hlt : j < k
    · have hc := hrow.cell hlt
      have hfr := hrow.frozen j
      have HFF := Lib.hid hf
      have HR := Lib.hid hr
      clear hf hr
      go_wp2
      go_roundw
      case rel =>
        refine ⟨j + 1, _, by omega, by go_num, (hrow.set j _).congr (g := fun m => .int .u8 (if m = j then bt (digL 8 k n) j else f m)) ?_, ?_, ?_, hbl.setCell (Nat.le_refl _) _⟩
        · intro m hm
          show (if m = j then Value.int IntKind.u8 (↑n / 2 ^ (j * 8) % 256) else Value.int .u8 (f m)) = _
          split
          · rw [bt_digL8 n k j hlt]
          · rfl
        · intro m hm
          show (if m = j then bt (digL 8 k n) j else f m) = _
          split
          · subst m; rfl
          · exact HFF.out m (by omega)
        · intro m
          show 0 ≤ (if m = j then bt (digL 8 k n) j else f m) ∧ (if m = j then bt (digL 8 k n) j else f m) ≤ 255
          split
          · exact ⟨bt_lo _ _, bt_hi _ _⟩
          · exact HR.out m
      case measure => simp [intOf]; omega
    · go_wp2
      go_ret2
      have hjk : j = k := by omega
      subst hjk
      refine ⟨_, rfl, Own.of_row (length_digL 8 j n) (Nat.le_of_eq HG.out.symm) hrow (Nat.le_refl _) (by unfold maxLen; omega) hf hr, ?_⟩
      rw [← HG.out]
      exact hbl
end Go.Proofs.Ytcddmkmogdaobaa