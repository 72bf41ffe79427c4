/-
  wall.Xor, ashlarref03.Xor: two blocks against each other.
-/
import Derived.Test.YtplanbjjfaihbaaTornM
namespace Go.Proofs.Ytplanbjjfaihbaa
open Go.RowKit
set_option linter.unusedVariables false

/-- Two blocks against each other. -/
def bx (a b : Blk) : Blk := Vector.zipWith (· ^^^ ·) a b
theorem xor_byt (a b : Blk) {j : Nat} (h : j < 64) : bits .xor .u8 (byt a j) (byt b j) = byt (bx a b) j := by
  rw [byt_get a h, byt_get b h, byt_get _ h]
  rw [u8_xor_nat _ _ (UInt8.toNat_lt _) (UInt8.toNat_lt _)]
  simp [bx]

set_option maxHeartbeats 800000 in
theorem xor_any (a b : Blk) (w : World) : Calls Try.prog 30 #[blk a, blk b] w fun e w' => e = .returned (blk (bx a b)) ∧ Below w.heap.size w w' := by
  obtain ⟨hA, hB, hR, hO, hb⟩ := laid4 w a b zeroB zeroB
  obtain ⟨w4, hw4⟩ : ∃ w4, four_ w a b zeroB zeroB = w4 := ⟨_, rfl⟩
  rw [hw4] at hA hB hR hO hb
  have HW := Lib.hid hw4
  have HA := Lib.hid hA
  have HB := Lib.hid hB
  have HR := Lib.hid hR
  have HX := Lib.hid (fun j (h : j < 64) => xor_byt a b h)
  clear hw4 hA hB hR
  go_enter Try.func30, Try.ntmps30
  go_wp2_with (first | (refine wpList_val rfl (exec_box rfl rfl) ?_) | (refine wpList_val rfl (exec_alloc rfl) ?_))
  have hs := HW.out
  unfold four_ at hs
  rw [hs]
  clear hs HW
  generalize hsz : w.heap.size = s at *
  go_loopw [7] (fun i wr => ∃ (j : Nat) (f : Nat → Int), j ≤ 64 ∧ i = .int .i64 j ∧ wr.rowIs (s + 1 + 1 + 1) 34 64 (fun j => .int .u8 (f j)) ∧ (∀ m, m < j → f m = byt (bx a b) m) ∧ Below (s + 1 + 1 + 1) w4 wr) (fun i _ => 64 - (intOf i).toNat)
  case atStart => exact ⟨0, byt zeroB, by omega, rfl, hO, fun m hm => absurd hm (by omega), Below.refl _ _⟩
  case round =>
    obtain ⟨j, f, hj, rfl, hrow, hf, hbl⟩ := hrel
    have HF := Lib.hid hf
    clear hf hO
    by_cases hlt : j < 64
    · have hc1 := hrow.cell (i := j) (by omega)
      have hfr := hrow.frozen j
      have ha := range_below HA.out (by omega) hbl j _ (cel_at a hlt)
      have hb' := range_below HB.out (by omega) hbl j _ (cel_at b hlt)
      rw [Nat.zero_add] at ha hb'
      go_wp2_with fail
      go_still_tail 9, (by kernel_rfl)
      change wpList _ _ _ _ _ wr.drew
      go_wp2_with fail
      go_roundw
      case rel =>
        refine ⟨j + 1, upd f j (byt (bx a b) j), by omega, by go_num, ?_, ?_, bd (hbl.setCell (by simp) _)⟩
        · rw [HX.out j hlt]; exact row_put hrow _
        · intro m hm
          by_cases e : m = j
          · subst e; exact upd_at _ _ _
          · rw [upd_off _ _ e]; exact HF.out m (by omega)
      case measure => simp [intOf]; omega
    · have hj64 : j = 64 := by omega
      subst hj64
      have hr := range_row (c := bx a b) (o := 0) hrow (by omega) (fun m hm => by rw [Nat.zero_add]; exact HF.out m hm)
      have ht := there_below HR.out (by omega) hbl
      go_wp2_with (first | (refine wpList_val rfl (exec_load rfl rfl hr) ?_) | (refine wpList_nul rfl (exec_store rfl rfl rfl ht) ?_))
      refine bodyPost_ret (res_blk rfl _ _ _ rfl (World.rangeAt_setCells_same _ _ _ _ (by rw [cel_length]; exact ht))) rfl ⟨rfl, ?_⟩
      rw [hsz]
      exact hb.trans (below_setCells (hbl.mono (by omega)) (by omega) _)

set_option maxHeartbeats 800000 in
theorem refXor_any (a b : Blk) (w : World) : Calls Try.prog 26 #[blk a, blk b] w fun e w' => e = .returned (blk (bx a b)) ∧ Below w.heap.size w w' := by
  obtain ⟨hA, hB, hR, hO, hb⟩ := laid4 w a b zeroB zeroB
  obtain ⟨w4, hw4⟩ : ∃ w4, four_ w a b zeroB zeroB = w4 := ⟨_, rfl⟩
  rw [hw4] at hA hB hR hO hb
  have HW := Lib.hid hw4
  have HA := Lib.hid hA
  have HB := Lib.hid hB
  have HR := Lib.hid hR
  have HX := Lib.hid (fun j (h : j < 64) => xor_byt a b h)
  clear hw4 hA hB hR
  go_enter Try.func26, Try.ntmps26
  go_wp2_with (first | (refine wpList_val rfl (exec_box rfl rfl) ?_) | (refine wpList_val rfl (exec_alloc rfl) ?_))
  have hs := HW.out
  unfold four_ at hs
  rw [hs]
  clear hs HW
  generalize hsz : w.heap.size = s at *
  go_loopw [6] (fun i wr => ∃ (j : Nat) (f : Nat → Int), j ≤ 64 ∧ i = .int .i64 j ∧ wr.rowIs (s + 1 + 1 + 1) 34 64 (fun j => .int .u8 (f j)) ∧ (∀ m, m < j → f m = byt (bx a b) m) ∧ Below (s + 1 + 1 + 1) w4 wr) (fun i _ => 64 - (intOf i).toNat)
  case atStart => exact ⟨0, byt zeroB, by omega, rfl, hO, fun m hm => absurd hm (by omega), Below.refl _ _⟩
  case round =>
    obtain ⟨j, f, hj, rfl, hrow, hf, hbl⟩ := hrel
    have HF := Lib.hid hf
    clear hf hO
    by_cases hlt : j < 64
    · have hc1 := hrow.cell (i := j) (by omega)
      have hfr := hrow.frozen j
      have ha := range_below HA.out (by omega) hbl j _ (cel_at a hlt)
      have hb' := range_below HB.out (by omega) hbl j _ (cel_at b hlt)
      rw [Nat.zero_add] at ha hb'
      go_wp2_with fail
      go_still_tail 9, (by kernel_rfl)
      change wpList _ _ _ _ _ wr.drew
      go_wp2_with fail
      go_roundw
      case rel =>
        refine ⟨j + 1, upd f j (byt (bx a b) j), by omega, by go_num, ?_, ?_, bd (hbl.setCell (by simp) _)⟩
        · rw [HX.out j hlt]; exact row_put hrow _
        · intro m hm
          by_cases e : m = j
          · subst e; exact upd_at _ _ _
          · rw [upd_off _ _ e]; exact HF.out m (by omega)
      case measure => simp [intOf]; omega
    · have hj64 : j = 64 := by omega
      subst hj64
      have hr := range_row (c := bx a b) (o := 0) hrow (by omega) (fun m hm => by rw [Nat.zero_add]; exact HF.out m hm)
      have ht := there_below HR.out (by omega) hbl
      go_wp2_with (first | (refine wpList_val rfl (exec_load rfl rfl hr) ?_) | (refine wpList_nul rfl (exec_store rfl rfl rfl ht) ?_))
      refine bodyPost_ret (res_blk rfl _ _ _ rfl (World.rangeAt_setCells_same _ _ _ _ (by rw [cel_length]; exact ht))) rfl ⟨rfl, ?_⟩
      rw [hsz]
      exact hb.trans (below_setCells (hbl.mono (by omega)) (by omega) _)
end Go.Proofs.Ytplanbjjfaihbaa
