/-
  lives of layer 2's laws: the sums that the document tells.
-/
import Derived.Test.YtbcnjhiknenceaaDoorCrcMore
import Derived.Lib.SlBytesConst
namespace Go.Proofs.YtbcnjhiknenceaaDoor
open Go.RowKit
set_option linter.unusedVariables false

def digits9 : List UInt8 := [49, 50, 51, 52, 53, 54, 55, 56, 57]
theorem sum_none : more 0 [] = 0 := by decide +kernel
theorem sum_nine : more 0 digits9 = 3808858755 := by decide +kernel
theorem sum_noughts : more 0 (noughts 32) = 2324772522 := by decide +kernel
theorem stp_one : stp 1 = 2197175160 := by decide +kernel
theorem stp_two : stp 2 = 1 := by decide +kernel
theorem tak_one : tak 0 1 = 4067132163 := by decide +kernel

set_option maxHeartbeats 1000000 in
theorem lives_yes (w : World) (T : Tab w) : Calls Tryd.prog 18 #[] w fun e w' => e = .returned (.bool true) ∧ Below w.heap.size w w' := by
  have HT := Lib.hid T
  clear T
  have hcv := Lib.run_convert_bytes_const (P := Tryd.prog) w 23 5 #[Value.int .u8 49, Value.int .u8 50, Value.int .u8 51, Value.int .u8 52, Value.int .u8 53, Value.int .u8 54, Value.int .u8 55, Value.int .u8 56, Value.int .u8 57] 9 9 Tryd.underlying23 Tryd.underlying5
  go_enter Tryd.func18, Tryd.ntmps18
  go_wp2_with fail
  refine (zeros_ok 0 32 _ HT.out (by omega) (by omega)).mono ?_
  rintro e w' ⟨rfl, rfl⟩
  rw [sum_noughts]
  go_wp2_with fail
  refine (of_any none 0 0 0 [] _ HT.out (Rd.nil _ _ _) (by unfold maxLen; omega)).mono ?_
  rintro e w' ⟨rfl, rfl⟩
  rw [sum_none]
  go_wp2_with fail
  have r1 : Rd _ _ _ 9 _ := rd_marked w digits9 #[Value.int .u8 49, Value.int .u8 50, Value.int .u8 51, Value.int .u8 52, Value.int .u8 53, Value.int .u8 54, Value.int .u8 55, Value.int .u8 56, Value.int .u8 57] (9, 10) rfl
  have hba : Below w.heap.size w (w.alloc (.cells #[Value.int .u8 49, Value.int .u8 50, Value.int .u8 51, Value.int .u8 52, Value.int .u8 53, Value.int .u8 54, Value.int .u8 55, Value.int .u8 56, Value.int .u8 57] 5 (9, 10))) := (Below.refl _ w).alloc (Nat.le_refl _) _
  refine (of_any _ _ _ _ digits9 _ (HT.out.below hba) r1 (by unfold maxLen; omega)).mono ?_
  rintro e w' ⟨rfl, rfl⟩
  rw [sum_nine]
  go_wp2_with fail
  refine (step_any 1 _ (by omega)).mono ?_
  rintro e w' ⟨rfl, rfl⟩
  rw [stp_one]
  go_wp2_with fail
  refine (step_any 2 _ (by omega)).mono ?_
  rintro e w' ⟨rfl, rfl⟩
  rw [stp_two]
  go_wp2_with fail
  refine (take_any 0 1 _ (HT.out.below hba) (by omega) (by omega)).mono ?_
  rintro e w' ⟨rfl, rfl⟩
  rw [tak_one]
  go_wp2
  go_ret
  exact ⟨rfl, hba⟩
end Go.Proofs.YtbcnjhiknenceaaDoor
