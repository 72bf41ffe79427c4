/-
  The document's Put over whatever number and size: the same bytes as num.Put, by quotients.
-/
import Derived.Test.YtcddmkmogdaobaaPut
import Derived.Laws.AppendOwn
import Derived.Laws.AppendOwnNone
namespace Go.Proofs.Ytcddmkmogdaobaa
open Go.RowKit
set_option linter.unusedVariables false

theorem rput_size (n : Nat) (s : Int) (w : World) (h : ¬ (1 ≤ s ∧ s ≤ 8)) :
    Calls Try.prog 10 #[.int .u64 n, .int .i64 s] w fun e w' => e = .returned (.tuple #[.slice none 0 0, .int .i64 2]) ∧ w = w' := by
  by_cases h1 : s < 1
  · clear h
    go_enter Try.func10, Try.ntmps10
    go_wp2
    go_ret2
    exact ⟨rfl, rfl⟩
  · have g1 : 1 ≤ s := by omega
    have g2 : 8 < s := by omega
    clear h h1
    go_enter Try.func10, Try.ntmps10
    go_wp2
    go_ret2
    exact ⟨rfl, rfl⟩

set_option maxHeartbeats 800000 in
/-- The walk of ref.Put up to its last test, of a number of whatever many bits: the bytes that it laid, and what is left of the number. -/
theorem rput_any (n k B : Nat) (w : World) (HB : Hid (B = w.heap.size)) (hn : n < 18446744073709551616) (h1 : 1 ≤ k) (h2 : k ≤ 8) :
    Calls Try.prog 10 #[.int .u64 n, .int .i64 k] w fun e w' =>
      ((n < 2 ^ (8 * k) → ∃ v, e = .returned (.tuple #[v, .int .i64 0]) ∧ Made w' B v (digL 8 k n)) ∧ (¬ n < 2 ^ (8 * k) → e = .returned (.tuple #[.slice none 0 0, .int .i64 2]))) ∧ Below B w w' := by
  obtain ⟨i0, hi, hz0, hz1, hz2⟩ := info_parts u8info
  go_enter Try.func10, Try.ntmps10
  go_wp2
  have hBle : B ≤ w.heap.size := Nat.le_of_eq HB.out
  go_loopw [0, 6, 7] (fun x v i wr => ∃ j : Nat, j ≤ k ∧ i = .int .i64 j ∧ x = .int .u64 ((n / 2 ^ (8 * j) : Nat) : Int) ∧ Made wr B v (digL 8 j n) ∧ Below B w wr) (fun _ _ i _ => k - (intOf i).toNat)
  case atStart => exact ⟨0, Nat.zero_le _, rfl, by simp, World.ownsRow_nil _ _ _ _, Below.refl _ _⟩
  case round =>
    obtain ⟨j, hj, rfl, rfl, hm, hbl⟩ := hrel
    by_cases hlt : j < k
    · have hown := hm.own (length_digL 8 j n)
      have hsz : B ≤ wr.heap.size := Nat.le_trans hBle hbl.size
      have hq : n / 2 ^ (8 * j) ≤ n := Nat.div_le_self _ _
      have hm' := Lib.hid hm
      have hE : Hid (n / 2 ^ (8 * (j + 1)) = n / 2 ^ (8 * j) / 256 ∧ digL 8 (j + 1) n = digL 8 j n ++ [UInt8.ofNat (n / 2 ^ (8 * j) % 256)]) := ⟨by rw [Nat.div_div_eq_div_mul, Nat.mul_succ, Nat.pow_add], digL_snoc 8 j n⟩
      clear hm
      generalize n / 2 ^ (8 * j) = q at *
      go_wp2_with (at_builtin; refine wpList_append_own _ rfl _ _ 23 rfl B 5 i0 (.int .u8 0) 1 1 Try.underlying23 hi hz0 hz1 hz2 rfl (by decide) _ _ _ rfl (hown.alloc _) ⟨wr.heap.size, 0, none⟩ 1 1 [.int .u8 ((q : Int) % 256)] rfl rfl ?c1 ?c2 ?c3 ?c4 ?c5 ?_)
      case c1 => exact cell_one_new _ _ _
      case c2 => intro u hu; simp at hu; subst hu; rfl
      case c3 => unfold maxLen; omega
      case c4 => omega
      case c5 => simp; omega
      intro v' w1 hown1 hg1 _
      have hx : ((q : Int) % 256) = ((UInt8.ofNat (q % 256)).toNat : Int) := by rw [UInt8.toNat_ofNat']; omega
      obtain ⟨hm1, hb1⟩ := Made.push (hm'.out) hbl hsz hx hown1 hg1
      have hm1' := Lib.hid hm1
      clear hm1 hown1 hg1 hown hx hm'
      go_wp2
      go_roundw
      case rel =>
        refine ⟨j + 1, by omega, by go_num, ?_, ?_, hb1⟩
        · rw [hE.out.1]; simp
        · rw [hE.out.2]; exact hm1'.out
      case measure => simp [intOf]; omega
    · have e : j = k := by omega
      subst e
      have h0 : 0 < 2 ^ (8 * j) := Nat.pow_pos (by omega)
      by_cases hq : n < 2 ^ (8 * j)
      · rw [Nat.div_eq_of_lt hq]
        go_wp2
        go_ret2
        exact ⟨⟨fun _ => ⟨_, rfl, hm⟩, fun h => absurd hq h⟩, hbl⟩
      · have hq0 : 0 < n / 2 ^ (8 * j) := Nat.div_pos (by omega) h0
        generalize n / 2 ^ (8 * j) = q at *
        go_wp2
        go_ret2
        exact ⟨⟨fun h => absurd h hq, fun _ => rfl⟩, hbl⟩
end Go.Proofs.Ytcddmkmogdaobaa
