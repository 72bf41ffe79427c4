/-
  ashlarlaw03.lives: true.
-/
import Derived.Test.YtdihialobobkpaaBlkA
import Derived.Test.YtdihialobobkpaaWallMiss
import Derived.Test.YtdihialobobkpaaWallTorn
import Derived.Test.YtdihialobobkpaaWallZero
namespace Go.Proofs.Ytdihialobobkpaa
open Go.RowKit
set_option linter.unusedVariables false

/-- A literal: its first bytes. -/
def litB (l : List UInt8) : Blk := Vector.ofFn fun i => l.getD i.val 0
def lastB : Blk := zeroB.set 63 1
theorem fills : Instr.fill (fun i => some (i * 1, 1)) (cel zeroB).toArray [(0, .int .u8 1)] = some (cel (litB [1])).toArray ∧
    Instr.fill (fun i => some (i * 1, 1)) (cel zeroB).toArray [(0, .int .u8 2)] = some (cel (litB [2])).toArray ∧
    Instr.fill (fun i => some (i * 1, 1)) (cel zeroB).toArray [(0, .int .u8 3)] = some (cel (litB [3])).toArray ∧
    Instr.fill (fun i => some (i * 1, 1)) (cel zeroB).toArray [(0, .int .u8 15)] = some (cel (litB [15])).toArray ∧
    Instr.fill (fun i => some (i * 1, 1)) (cel zeroB).toArray [(0, .int .u8 60)] = some (cel (litB [60])).toArray ∧
    Instr.fill (fun i => some (i * 1, 1)) (cel zeroB).toArray [(0, .int .u8 51)] = some (cel (litB [51])).toArray ∧
    Instr.fill (fun i => some (i * 1, 1)) (cel zeroB).toArray [(63, .int .u8 1)] = some (cel lastB).toArray ∧
    Instr.fill (fun i => some (i * 1, 1)) (cel zeroB).toArray [(0, .int .u8 17), (1, .int .u8 17)] = some (cel (litB [17, 17])).toArray ∧
    Instr.fill (fun i => some (i * 1, 1)) (cel zeroB).toArray [(0, .int .u8 34), (1, .int .u8 34)] = some (cel (litB [34, 34])).toArray ∧
    Instr.fill (fun i => some (i * 1, 1)) (cel zeroB).toArray [(0, .int .u8 34), (1, .int .u8 17)] = some (cel (litB [34, 17])).toArray :=
  ⟨by kernel_rfl, by kernel_rfl, by kernel_rfl, by kernel_rfl, by kernel_rfl, by kernel_rfl, by kernel_rfl, by kernel_rfl, by kernel_rfl, by kernel_rfl⟩
theorem lit_xor : bx (litB [15]) (litB [60]) = litB [51] := of_decide_eq_true (by kernel_rfl)
theorem lit_torn : torn (litB [17, 17]) (litB [34, 34]) 1 = litB [34, 17] := of_decide_eq_true (by kernel_rfl)
theorem lit_last : decide (lastB = zeroB) = false := by kernel_rfl
theorem lit_mis : misV [litB [1], litB [2], litB [3]] 1 = .tuple #[blk (litB [2]), .int .i64 0] := by
  have h : fold [litB [1], litB [3]] = litB [2] := of_decide_eq_true (by kernel_rfl)
  unfold misV mis
  rw [if_pos (by decide)]
  show Value.tuple #[blk (fold [litB [1], litB [3]]), .int .i64 0] = _
  rw [h]
theorem lit_none : misV [] 0 = .tuple #[blk zeroB, .int .i64 2] := rfl

section
variable {ρ : Operand → Value} {o : Oper} {x y : Operand} {w : World} {c d : Blk} {t : TypeId}
theorem exec_eqy (ho : o.op = .binOp .eql 23 x y t) (hx : ρ x = blk c) (hy : ρ y = blk d) (h : c = d) : (execOp ρ o).run Try.prog w = .ok (.value (.bool true)) w := by
  rw [exec_eql ho hx hy, decide_eq_true h]
theorem exec_nen (ho : o.op = .binOp .neq 23 x y t) (hx : ρ x = blk c) (hy : ρ y = blk d) (h : c = d) : (execOp ρ o).run Try.prog w = .ok (.value (.bool false)) w := by
  rw [exec_neq ho hx hy, decide_eq_true h]
  rfl
end

set_option maxHeartbeats 1600000 in
theorem lives_yes (w : World) : Calls Try.prog 22 #[] w fun e w' => e = .returned (.bool true) ∧ Below w.heap.size w w' := by
  obtain ⟨f1, f2, f3, f15, f60, f51, f63, f17, f34, f3417⟩ := fills
  have F1 := Lib.hid f1
  have F2 := Lib.hid f2
  have F3 := Lib.hid f3
  have F15 := Lib.hid f15
  have F60 := Lib.hid f60
  have F51 := Lib.hid f51
  have F63 := Lib.hid f63
  have F17 := Lib.hid f17
  have F34 := Lib.hid f34
  have F3417 := Lib.hid f3417
  clear f1 f2 f3 f15 f60 f51 f63 f17 f34 f3417
  have hr0 := rdB_new w [litB [1], litB [2], litB [3]] 23
  have HR0 := Lib.hid hr0
  have HB0 := Lib.hid ((Below.refl w.heap.size w).alloc (Nat.le_refl _) (.cells (flat [litB [1], litB [2], litB [3]]).toArray 23))
  clear hr0
  go_enter Try.func22, Try.ntmps22
  go_wp2_with (first | (refine wpList_val rfl (exec_build rfl F1.out) ?_) | (refine wpList_val rfl (exec_build rfl F2.out) ?_) | (refine wpList_val rfl (exec_build rfl F3.out) ?_) | (refine wpList_val rfl (exec_buildS [litB [1], litB [2], litB [3]] rfl rfl rfl (by omega) (by omega)) ?_) | fail)
  refine (miss_any _ 3 3 (w.heap.size + 1) 1 [litB [1], litB [2], litB [3]] _ HR0.out (by simp) (by omega) (by unfold maxLen; omega)).mono ?_
  rintro e w1 ⟨rfl, hb1⟩
  rw [lit_mis]
  have B1 := Lib.hid (HB0.out.trans (hb1.mono (by simp)))
  clear hb1 HB0 HR0
  have hal := B1.out.size
  have B2 := Lib.hid (B1.out.alloc hal (.cells (cel (litB [2])).toArray 23))
  have R2 := Lib.hid (range_new w1 (cel (litB [2])) 23)
  go_wp2_with (first | (refine wpList_val rfl (exec_alloc rfl) ?_) | (refine wpList_nul rfl (exec_fill rfl rfl rfl) ?_) | fail)
  have hsz2 : (w1.alloc (.cells (cel (litB [2])).toArray 23)).heap.size = w1.heap.size + 1 := World.size_alloc ..
  generalize w1.alloc (.cells (cel (litB [2])).toArray 23) = w2 at *
  refine (miss_any none 0 0 0 0 [] _ (RdB.nil _ _ _) (by omega) (by omega) (by unfold maxLen; omega)).mono ?_
  rintro e w3 ⟨rfl, hb3⟩
  rw [lit_none]
  have B3 := Lib.hid (B2.out.trans (hb3.mono (by omega)))
  have R3 := Lib.hid (range_below R2.out (by omega) hb3)
  have hsz3 := hb3.size
  clear hb3 B2 R2
  have B4 := Lib.hid (B3.out.alloc (by omega) (.cells (cel zeroB).toArray 23))
  have R4 := Lib.hid (World.rangeAt_alloc R3.out (.cells (cel zeroB).toArray 23))
  go_wp2_with (first | (refine wpList_val rfl (exec_alloc rfl) ?_) | (refine wpList_nul rfl (exec_fill rfl rfl rfl) ?_) | (refine wpList_val rfl (exec_build rfl F15.out) ?_) | (refine wpList_val rfl (exec_build rfl F60.out) ?_) | fail)
  have hsz4 : (w3.alloc (.cells (cel zeroB).toArray 23)).heap.size = w3.heap.size + 1 := World.size_alloc ..
  generalize w3.alloc (.cells (cel zeroB).toArray 23) = w4 at *
  refine (xor_any _ _ _).mono ?_
  rintro e w5 ⟨rfl, hb5⟩
  have B5 := Lib.hid (B4.out.trans (hb5.mono (by omega)))
  have R5 := Lib.hid (range_below R4.out (by omega) hb5)
  have hsz5 := hb5.size
  clear hb5 B4 R4
  go_wp2_with (first | (refine wpList_val rfl (exec_build rfl F51.out) ?_) | (refine wpList_val rfl (exec_eqy rfl rfl rfl lit_xor) ?_) | fail)
  refine (fold_any none 0 0 0 [] _ (RdB.nil _ _ _) (by omega) (by unfold maxLen; omega)).mono ?_
  rintro e w6 ⟨rfl, hb6⟩
  rw [fold_nil]
  have B6 := Lib.hid (B5.out.trans (hb6.mono (by omega)))
  have R6 := Lib.hid (range_below R5.out (by omega) hb6)
  have hsz6 := hb6.size
  clear hb6 B5 R5
  go_wp2_with fail
  refine (zero_any _ _).mono ?_
  rintro e w7 ⟨rfl, hb7⟩
  rw [decide_eq_true (rfl : zeroB = zeroB)]
  have B7 := Lib.hid (B6.out.trans (hb7.mono (by omega)))
  have R7 := Lib.hid (range_below R6.out (by omega) hb7)
  have hsz7 := hb7.size
  clear hb7 B6 R6
  go_wp2_with (first | (refine wpList_val rfl (exec_build rfl F63.out) ?_) | fail)
  refine (zero_any _ _).mono ?_
  rintro e w8 ⟨rfl, hb8⟩
  rw [lit_last]
  have B8 := Lib.hid (B7.out.trans (hb8.mono (by omega)))
  have R8 := Lib.hid (range_below R7.out (by omega) hb8)
  have hsz8 := hb8.size
  clear hb8 B7 R7
  go_wp2_with (first | (refine wpList_val rfl (exec_load rfl rfl R8.out) ?_) | (refine wpList_val rfl (exec_build rfl F2.out) ?_) | (refine wpList_val rfl (exec_eqy rfl rfl rfl rfl) ?_) | (refine wpList_val rfl (exec_build rfl F17.out) ?_) | (refine wpList_val rfl (exec_build rfl F34.out) ?_) | fail)
  refine (torn_any _ _ _ _).mono ?_
  rintro e w9 ⟨rfl, hb9⟩
  have B9 := Lib.hid (B8.out.trans (hb9.mono (by omega)))
  clear hb9 B8 R8
  go_wp2_with (first | (refine wpList_val rfl (exec_build rfl F3417.out) ?_) | (refine wpList_val rfl (exec_eqy rfl rfl rfl lit_torn) ?_) | fail)
  go_ret
  exact ⟨rfl, B9.out⟩
end Go.Proofs.Ytdihialobobkpaa
