/-
  The walk of CrcZeros.
-/
import Derived.Test.YtbcnjhiknenceaaDoorCrcLives
import Derived.Test.YtbcnjhiknenceaaDoorApp
namespace Go.Proofs.YtbcnjhiknenceaaDoor
open Go.RowKit
set_option linter.unusedVariables false

theorem crcZeros_many (s : Nat) (n : Int) (w : World) (T : Tab w) (h1 : 5000 < n) (h2 : n ≤ 1048576) :
    Calls Tryd.prog 4 #[.int .u32 s, .int .i64 n] w fun e w' => e = .returned (.bool true) ∧ Below w.heap.size w w' := by
  have HT := Lib.hid T
  clear T
  go_enter Tryd.func4, Tryd.ntmps4
  go_wp2_with fail
  refine (lives_yes _ HT.out).mono ?_
  rintro e w3 ⟨rfl, hb3⟩
  go_wp2
  go_ret
  exact ⟨rfl, hb3⟩
set_option maxHeartbeats 1000000 in
theorem crcZeros_no (s : Nat) (n : Int) (w : World) (T : Tab w) (h : n < 0 ∨ 1048576 < n) :
    Calls Tryd.prog 4 #[.int .u32 s, .int .i64 n] w fun e w' => e = .returned (.bool true) ∧ Below w.heap.size w w' := by
  have HT := Lib.hid T
  have H := Lib.hid h
  clear T
  rcases h with h | h
  · have h' : n ≤ 5000 := by omega
    go_enter Tryd.func4, Tryd.ntmps4
    go_wp2_with fail
    refine (zeros_no _ _ _ H.out).mono ?_
    rintro e w' ⟨rfl, rfl⟩
    go_wp2_with fail
    refine (refZeros_no _ _ _ H.out).mono ?_
    rintro e w' ⟨rfl, rfl⟩
    go_wp2_with fail
    refine (lives_yes _ HT.out).mono ?_
    rintro e w3 ⟨rfl, hb3⟩
    go_wp2
    go_ret
    exact ⟨rfl, hb3⟩
  · have h' : 5000 < n := by omega
    go_enter Tryd.func4, Tryd.ntmps4
    go_wp2_with fail
    refine (zeros_no _ _ _ H.out).mono ?_
    rintro e w' ⟨rfl, rfl⟩
    go_wp2_with fail
    refine (refZeros_no _ _ _ H.out).mono ?_
    rintro e w' ⟨rfl, rfl⟩
    go_wp2_with fail
    refine (lives_yes _ HT.out).mono ?_
    rintro e w3 ⟨rfl, hb3⟩
    go_wp2
    go_ret
    exact ⟨rfl, hb3⟩
theorem bt_noughts (n k : Nat) : bt (noughts n) k = 0 := by
  unfold bt noughts
  by_cases h : k < n
  · simp [List.getD, h]
  · simp [List.getD, h]
theorem rd_noughts (w : World) (n : Nat) : Rd (w.alloc (.cells (madeCells #[Value.int .u8 0] n) 5)) (w.heap.size + 1) (some ⟨w.heap.size, 0, none⟩) n (noughts n) := by
  refine ⟨by simp [noughts], fun k hk => ⟨w.heap.size, 0, rfl, by omega, ?_⟩⟩
  have h := (World.rowIs_made w (Value.int .u8 0) n 5).cell hk
  rw [Nat.zero_add, h, bt_noughts]
set_option maxHeartbeats 1000000 in
theorem crcZeros_ok (s n : Nat) (w : World) (T : Tab w) (hs : s < 4294967296) (hn : n ≤ 5000) :
    Calls Tryd.prog 4 #[.int .u32 s, .int .i64 n] w fun e w' => e = .returned (.bool true) ∧ Below w.heap.size w w' := by
  have hmk := run_make_row' (P := Tryd.prog) 23 5 (.int .u8 0) 1 Tryd.underlying23 u8info rfl .i64 .i64 n (by omega) (by omega)
  have HT := Lib.hid T
  clear T
  have hm : n ≤ maxLen := by unfold maxLen; omega
  go_enter Tryd.func4, Tryd.ntmps4
  go_wp2_with fail
  refine (zeros_ok s n _ HT.out hs (by omega)).mono ?_
  rintro e w' ⟨rfl, rfl⟩
  go_wp2_with fail
  refine (refZeros_ok s n _ hs (by omega)).mono ?_
  rintro e w' ⟨rfl, rfl⟩
  go_wp2_with fail
  have hba : Below w.heap.size w (w.alloc (.cells (madeCells #[Value.int .u8 0] n) 5)) := (Below.refl _ _).alloc (Nat.le_refl _) _
  have HT1 := Lib.hid (HT.out.below hba)
  refine (more_any s _ n _ _ (noughts n) _ HT1.out hs (rd_noughts w n) hm).mono ?_
  rintro e w' ⟨rfl, rfl⟩
  go_wp2_with fail
  refine (lives_yes _ HT1.out).mono ?_
  rintro e w3 ⟨rfl, hb3⟩
  go_wp2
  go_ret
  exact ⟨rfl, two hba hb3⟩
theorem crcZeros_walk (s : Nat) (n : Int) (w : World) (T : Tab w) (hs : s < 4294967296) :
    Calls Tryd.prog 4 #[.int .u32 s, .int .i64 n] w fun e w' => e = .returned (.bool true) ∧ Below w.heap.size w w' := by
  by_cases h : n < 0 ∨ 1048576 < n
  · exact crcZeros_no s n w T h
  · by_cases h2 : 5000 < n
    · exact crcZeros_many s n w T h2 (by omega)
    · obtain ⟨m, rfl⟩ := Int.eq_ofNat_of_zero_le (show 0 ≤ n by omega)
      exact crcZeros_ok s m w T hs (by omega)
end Go.Proofs.YtbcnjhiknenceaaDoor
