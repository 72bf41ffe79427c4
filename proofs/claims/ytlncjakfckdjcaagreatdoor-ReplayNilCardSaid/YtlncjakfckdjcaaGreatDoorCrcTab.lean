/-
  crc.Step, half, Take and the document's Step, Take: a step, half a byte, a byte taken in.
-/
import Derived.Test.YtlncjakfckdjcaaGreatDoorPre
import Derived.Test.YtlncjakfckdjcaaGreatDoorCrcMath
import Derived.Laws.BitsAllLaws
namespace Go.Proofs.YtlncjakfckdjcaaGreatDoor
open Go.RowKit
set_option maxRecDepth 100000
set_option linter.unusedVariables false

/-- The table lies in its variable. -/
def Tab (w : World) : Prop := ∀ i, i < 16 → w.cell? ⟨2, i, none⟩ = some (.int .u32 (tab i : Int))
theorem Tab.below {w w' : World} (h : Tab w) (hb : Below w.heap.size w w') : Tab w' := fun i hi => by
  rw [hb.cell (p := ⟨2, i, none⟩) (World.block_lt_of_cell? w _ (h i hi))]
  exact h i hi
theorem tab_lt (i : Nat) : tab i < 4294967296 := by
  by_cases h : i < 16
  · have : ∀ i, i < 16 → tab i < 4294967296 := by decide
    exact this i h
  · unfold tab
    rw [List.getD, List.getElem?_eq_none (by simp; omega)]
    simp
theorem hlf_lt {r : Nat} (h : r < 4294967296) : hlf r < 4294967296 := by
  rw [hlf_steps]
  exact steps_lt 4 h

theorem low_and (r : Nat) (h : r < 4294967296) : bits .and .u32 (r : Int) 15 = ((r % 16 : Nat) : Int) := by
  have h2 := u32_and_nat r 15 h (by omega)
  have h3 : r &&& 15 = r % 16 := Nat.and_two_pow_sub_one_eq_mod r 4
  rw [h3] at h2
  exact h2
theorem one_and (r : Nat) (h : r < 4294967296) : bits .and .u32 (r : Int) 1 = ((r % 2 : Nat) : Int) := by
  have h2 := u32_and_nat r 1 h (by omega)
  rw [Nat.and_one_is_mod] at h2
  exact h2

set_option maxHeartbeats 400000 in
theorem half_any (r : Nat) (w : World) (T : Tab w) (hr : r < 4294967296) :
    Calls Tryz.prog 159 #[.int .u32 r] w fun e w' => e = .returned (.int .u32 (hlf r)) ∧ w = w' := by
  have hl := low_and r hr
  have ht := T (r % 16) (by omega)
  have hlo : r % 16 < 16 := by omega
  go_enter Tryz.func159, Tryz.ntmps159
  go_wp2
  go_ret
  have e : ((r : Int) / 16) = ((r / 16 : Nat) : Int) := by omega
  refine ⟨ret_int ?_, rfl⟩
  rw [e, u32_xor_nat _ _ (by omega) (tab_lt _)]
  rfl

set_option maxHeartbeats 400000 in
theorem take_any (r c : Nat) (w : World) (T : Tab w) (hr : r < 4294967296) (hc : c < 256) :
    Calls Tryz.prog 122 #[.int .u32 r, .int .u8 c] w fun e w' => e = .returned (.int .u32 (tak r c)) ∧ w = w' := by
  have hx := u32_xor_nat r c hr (by omega)
  have hlt : r ^^^ c < 4294967296 := xor_lt hr (by omega)
  have hlt2 : hlf (r ^^^ c) < 4294967296 := hlf_lt hlt
  have HT : Hid (hlf (hlf (r ^^^ c)) = tak r c) := Lib.hid (tak_hlf r c)
  go_enter Tryz.func122, Tryz.ntmps122
  go_wp2_with fail
  refine (half_any (r ^^^ c) _ T hlt).mono ?_
  rintro e w' ⟨rfl, rfl⟩
  go_wp2_with fail
  refine (half_any (hlf (r ^^^ c)) _ T hlt2).mono ?_
  rintro e w' ⟨rfl, rfl⟩
  go_wp2
  go_ret
  exact ⟨ret_int (by rw [HT.out]), rfl⟩

set_option maxHeartbeats 400000 in
theorem refStep_any (r : Nat) (w : World) (hr : r < 4294967296) :
    Calls Tryz.prog 197 #[.int .u32 r] w fun e w' => e = .returned (.int .u32 (stp r)) ∧ w = w' := by
  have e : ((r : Int) / 2) = ((r / 2 : Nat) : Int) := by omega
  have hx := u32_xor_nat (r / 2) 2197175160 (by omega) (by omega)
  have HX := Lib.hid hx
  have HE := Lib.hid e
  clear e hx
  by_cases h : r % 2 = 1
  · have hs : stp r = r / 2 ^^^ 2197175160 := by unfold stp; rw [if_pos h]
    have HS := Lib.hid hs
    have hb : ((r : Int) % 2 == 1) = true := by simp; omega
    clear h hs
    go_enter Tryz.func197, Tryz.ntmps197
    go_wp2
    go_ret
    exact ⟨ret_int (by rw [HS.out, HE.out]; exact HX.out), rfl⟩
  · have hs : stp r = r / 2 := by unfold stp; rw [if_neg h]
    have HS := Lib.hid hs
    have hb : ((r : Int) % 2 == 1) = false := by simp; omega
    clear h hs
    go_enter Tryz.func197, Tryz.ntmps197
    go_wp2
    go_ret
    exact ⟨ret_int (by rw [HS.out, HE.out]), rfl⟩

theorem steps_snoc (n r : Nat) : steps (n + 1) r = stp (steps n r) := by rw [steps_add]; rfl
set_option maxHeartbeats 400000 in
theorem refTake_any (r c : Nat) (w : World) (hr : r < 4294967296) (hc : c < 256) :
    Calls Tryz.prog 192 #[.int .u32 r, .int .u8 c] w fun e w' => e = .returned (.int .u32 (tak r c)) ∧ w = w' := by
  have hx := u32_xor_nat r c hr (by omega)
  have hlt : r ^^^ c < 4294967296 := xor_lt hr (by omega)
  go_enter Tryz.func192, Tryz.ntmps192
  go_wp2
  have HX := Lib.hid hx
  clear hx
  go_loop [0, 5] (fun x i => ∃ j : Nat, j ≤ 8 ∧ i = .int .i64 j ∧ x = .int .u32 (steps j (r ^^^ c))) (fun _ i => 8 - (intOf i).toNat)
  case atStart => exact ⟨0, by omega, rfl, by first | rfl | rw [HX.out]; rfl⟩
  case round =>
    obtain ⟨j, hj, rfl, rfl⟩ := hrel
    have hl2 := steps_lt j hlt
    by_cases h8 : j < 8
    · go_wp2_with fail
      refine (refStep_any (steps j (r ^^^ c)) _ hl2).mono ?_
      rintro e w' ⟨rfl, rfl⟩
      go_wp2
      go_round
      case rel => exact ⟨j + 1, by omega, by go_num, by rw [steps_snoc]⟩
      case measure => simp [intOf]; omega
    · have h : j = 8 := by omega
      subst h
      go_wp2
      go_ret
      exact ⟨rfl, rfl⟩
end Go.Proofs.YtlncjakfckdjcaaGreatDoor
