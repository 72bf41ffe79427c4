/-
  RingTakes' walk.
-/
import Derived.Test.YtiobcacleppceaaRiv
namespace Go.Proofs.Ytiobcacleppceaa
open Go.RowKit
set_option linter.unusedVariables false
set_option linter.unusedSimpArgs false

section
variable {a : Act} {o : Oper} {w : World} {x y : Operand} {u v c : Int}
theorem exec_minU {t1 t2 : TypeId} (ho : o.op = .call { callee := .builtin .min, args := #[x, y], argTypes := #[t1, t2] }) (hx : a.eval x = .int .u64 u) (hy : a.eval y = .int .u64 v) (h : (if v < u then v else u) = c) : (execOp a.eval o).run Try.prog w = .ok (.value (.int .u64 c)) w := by
  subst h
  have hrun := run_min_int2 (P := Try.prog) (w := w) #[t1, t2] o.type .u64 .u64 u v
  simp [execOp, ho, resolve, invoke, builtin, hx, hy, hrun, Result.andThen]
end
set_option maxRecDepth 100000 in
set_option maxHeartbeats 2000000 in
theorem takes_walk (a t : Int) (A : Option Addr) (N c : Nat) (l : List UInt8) (w : World) (ha0 : 0 ≤ a) (ha1 : a ≤ 255) (ht0 : 0 ≤ t) (ht1 : t ≤ 18446744073709551615) (rd : Rd w w.heap.size A N l) (hN : N ≤ 140737488351232) :
    Calls Try.prog 5 #[.int .u8 a, .int .u64 t, .slice A N c] w fun e w' => e = .returned (.bool true) ∧ Below w.heap.size w w' := by
  have RD := Lib.hid rd
  clear rd
  go_enter Try.func5, Try.ntmps5
  by_cases ht : t ≤ 2305843009213693952
  · have hr1 : 1 ≤ 1 + a := by omega
    have hr2 : 1 + a ≤ 256 := by omega
    go_wp2_with fail
    generalize 1 + a = r at *
    clear ha0 ha1
    go_loop [1, 8, 9, 10, 11, 12, 13, 14] (fun p q i _ _ _ _ _ => ∃ (k : Nat) (t h : Int), k ≤ N ∧ k ≤ 60 ∧ p = .int .u64 t ∧ q = .int .u64 h ∧ i = .int .i64 k ∧ 0 ≤ t ∧ t ≤ h ∧ h ≤ 2305843009213693952 + 80 * k ∧ h - t ≤ r) (fun _ _ i _ _ _ _ _ => 60 - (intOf i).toNat)
    case atStart => exact ⟨0, t, t, Nat.zero_le _, by omega, rfl, rfl, rfl, ht0, Int.le_refl _, by omega, by omega⟩
    case round =>
      clear ht ht0 ht1
      obtain ⟨k, t, h, hk, hk60, rfl, rfl, rfl, q1, q2, q3, q4⟩ := hrel
      by_cases hlt : k < N ∧ k < 60
      · obtain ⟨hltN, hlt6⟩ := hlt
        obtain ⟨b, off, rfl, hb, hc⟩ := RD.out.2 k hltN
        have hx0 := bt_lo l k
        have hx1 := bt_hi l k
        have HM := Lib.hid (fre_in (r := r) (t := t) (h := h) (mayB_iff.2 (by omega)))
        have HT := Lib.hid (show mayB r t h = true from mayB_iff.2 (by omega))
        generalize bt l k = x at *
        go_wp2_with fail
        refine (pfre r t h w q1 (by omega) (by omega) (by omega)).mono ?_
        rintro e w1 ⟨rfl, rfl⟩
        rw [HM.out.1, HM.out.2]
        have hn0 := Int.emod_nonneg x (show (80 : Int) ≠ 0 by omega)
        have hn1 := Int.emod_lt_of_pos x (show (0 : Int) < 80 by omega)
        by_cases hx : 160 ≤ x
        · obtain ⟨mn, hmn, hm0, hm1⟩ : ∃ mn : Int, (if h - t < x % 80 then h - t else x % 80) = mn ∧ 0 ≤ mn ∧ mn ≤ h - t := ⟨_, rfl, by split <;> omega, by split <;> omega⟩
          have HMN := Lib.hid hmn
          clear hmn
          go_wp2_with (first | (refine wpList_val rfl (exec_minU rfl rfl rfl HMN.out) ?_) | fail)
          go_round
          case rel => exact ⟨k + 1, t + mn, h, by omega, by omega, by go_num, rfl, by go_num, by omega, by omega, by omega, by omega⟩
          case measure => simp [intOf]; omega
        · go_wp2_with fail
          refine (ptak r t h (x % 80) w q1 (by omega) (by omega) (by omega) (by omega)).mono ?_
          rintro e w1 ⟨rfl, rfl⟩
          by_cases hf : x % 80 ≤ r - (h - t)
          · have HK := Lib.hid (tak_in HT.out hn0 ⟨hf, by omega⟩)
            rw [HK.out.1, HK.out.2]
            go_wp2_with fail
            go_round
            case rel => exact ⟨k + 1, t, h + x % 80, by omega, by omega, rfl, rfl, by go_num, by omega, by omega, by omega, by omega⟩
            case measure => simp [intOf]; omega
          · have HK := Lib.hid (tak_full HT.out hn0 (fun y => hf y.1))
            rw [HK.out.1, HK.out.2]
            go_wp2_with fail
            go_round
            case rel => exact ⟨k + 1, t, h, by omega, by omega, rfl, rfl, by go_num, by omega, by omega, by omega, by omega⟩
            case measure => simp [intOf]; omega
      · by_cases hN' : k < N
        · have h60 : ¬ k < 60 := fun x => hlt ⟨hN', x⟩
          clear hlt
          go_wp2_with fail
          refine (lives_yes w).mono ?_
          rintro e w2 ⟨rfl, hb2⟩
          go_wp2
          go_ret
          exact ⟨rfl, hb2⟩
        · clear hlt
          go_wp2_with fail
          refine (lives_yes w).mono ?_
          rintro e w2 ⟨rfl, hb2⟩
          go_wp2
          go_ret
          exact ⟨rfl, hb2⟩
  · go_wp2_with fail
    refine (lives_yes w).mono ?_
    rintro e w2 ⟨rfl, hb2⟩
    go_wp2
    go_ret
    exact ⟨rfl, hb2⟩
end Go.Proofs.Ytiobcacleppceaa
