/-
  The program's seal.Put.
-/
import Derived.Test.YtiandcigoflcmaaDoorSpa
import Derived.OrdersHeld
namespace Go.Proofs.YtiandcigoflcmaaDoor
open Go.RowKit
set_option linter.unusedVariables false
set_option maxRecDepth 100000

/-! What the copies come to. -/
theorem bt_pad {b : List UInt8} {j : Nat} : bt (padL b) j = if j < b.length then bt b j else 0 := by
  unfold padL
  split
  · rename_i h; exact bt_append_lo h
  · rename_i h; rw [bt_append_hi (by omega), bt_noughts]
theorem bt_head {n : Nat} {b : List UInt8} {j : Nat} : bt (headL n b) j = if j < 8 then bt (digL 8 8 n) j else if j < 8 + b.length then bt b (j - 8) else 0 := by
  unfold headL
  split
  · rename_i h; exact bt_append_lo (by rw [length_digL]; exact h)
  · rename_i h
    rw [bt_append_hi (by rw [length_digL]; omega), length_digL, bt_pad]
    by_cases h2 : j < 8 + b.length
    · rw [if_pos (by omega), if_pos h2]
    · rw [if_neg (by omega), if_neg h2]
theorem bt_seal {n : Nat} {b : List UInt8} {j : Nat} (hb : b.length ≤ 44) : bt (sealL n b) j = if j < 52 then bt (headL n b) j else if j < 56 then bt (digL 8 4 (more 0 (headL n b))) (j - 52) else bt (digL 8 8 n) (j - 56) := by
  have h52 := headL_length n hb
  unfold sealL
  split
  · rename_i h; exact bt_append_lo (by omega)
  · rename_i h
    rw [bt_append_hi (by omega), h52]
    split
    · rename_i h2; exact bt_append_lo (by rw [length_digL]; omega)
    · rename_i h2; rw [bt_append_hi (by rw [length_digL]; omega), length_digL, show j - 52 - 4 = j - 56 from by omega]
/-- A sector ahead of its sum. -/
def noSum (n : Nat) (b : List UInt8) : List UInt8 := splice (splice (splice zeroB.toList 0 (digL 8 8 n)) 56 (digL 8 8 n)) 8 b
theorem noSum_1 (n : Nat) : (splice zeroB.toList 0 (digL 8 8 n)).length = 64 := by rw [length_splice _ _ _ (by simp [length_digL])]; simp
theorem noSum_2 (n : Nat) : (splice (splice zeroB.toList 0 (digL 8 8 n)) 56 (digL 8 8 n)).length = 64 := by rw [length_splice _ _ _ (by rw [noSum_1, length_digL]; omega), noSum_1]
section
variable {n : Nat} {b : List UInt8} (hb : b.length ≤ 44)
include hb
theorem noSum_length : (noSum n b).length = 64 := by unfold noSum; rw [length_splice _ _ _ (by rw [noSum_2]; omega), noSum_2]
theorem bt_noSum {j : Nat} : bt (noSum n b) j = if 8 ≤ j ∧ j < 8 + b.length then bt b (j - 8) else if 56 ≤ j ∧ j < 64 then bt (digL 8 8 n) (j - 56) else if j < 8 then bt (digL 8 8 n) j else 0 := by
  unfold noSum
  have hz : bt zeroB.toList j = 0 := by
    have : zeroB.toList = List.replicate 64 0 := by decide
    rw [this, bt_noughts]
  rw [bt_splice (by rw [noSum_2]; omega), bt_splice (by rw [noSum_1, length_digL]; omega), bt_splice (by simp [length_digL]), length_digL, hz]
  congr 2
  by_cases h : j < 8
  · rw [if_pos (by omega), if_pos h, Nat.sub_zero]
  · rw [if_neg (by omega), if_neg h]
theorem noSum_head : piece (noSum n b) 0 52 = headL n b := by
  refine eq_of_bt (by rw [length_piece (by rw [noSum_length hb]; omega), headL_length n hb]) fun j hj => ?_
  rw [length_piece (by rw [noSum_length hb]; omega)] at hj
  rw [bt_piece hj, Nat.zero_add, bt_noSum hb, bt_head]
  by_cases h8 : j < 8
  · rw [if_neg (by omega), if_neg (by omega), if_pos h8, if_pos h8]
  · by_cases h2 : j < 8 + b.length
    · rw [if_pos (by omega), if_neg h8, if_pos h2]
    · rw [if_neg (by omega), if_neg (by omega), if_neg h8, if_neg h8, if_neg h2]
theorem noSum_seal : splice (noSum n b) 52 (digL 8 4 (more 0 (headL n b))) = sealL n b := by
  have h64 := noSum_length (n := n) hb
  refine eq_of_bt (by rw [length_splice _ _ _ (by rw [h64, length_digL]; omega), h64, sealL_length n hb]) fun j hj => ?_
  rw [length_splice _ _ _ (by rw [h64, length_digL]; omega), h64] at hj
  rw [bt_splice (by rw [h64, length_digL]; omega), bt_seal hb, length_digL, bt_noSum hb, bt_head]
  by_cases h52 : j < 52
  · rw [if_neg (by omega), if_pos h52]
    by_cases h8 : j < 8
    · rw [if_neg (by omega), if_neg (by omega), if_pos h8, if_pos h8]
    · by_cases h2 : j < 8 + b.length
      · rw [if_pos (by omega), if_neg h8, if_pos h2]
      · rw [if_neg (by omega), if_neg (by omega), if_neg h8, if_neg h8, if_neg h2]
  · by_cases h56 : j < 56
    · rw [if_pos (by omega), if_neg h52, if_pos h56]
    · rw [if_neg (by omega), if_neg h52, if_neg h56, if_neg (by omega), if_pos (by omega)]
end

/-! The parts in memory. -/
theorem cells5 {w : World} {b : Nat} {t : TypeId} {x y z u v : Value} (h : w.heap[b]? = some (.cells #[x, y, z, u, v] t (0, 0))) : w.cell? ⟨b, 0, none⟩ = some x ∧ w.cell? ⟨b, 1, none⟩ = some y ∧ w.cell? ⟨b, 2, none⟩ = some z ∧ w.cell? ⟨b, 3, none⟩ = some u ∧ w.cell? ⟨b, 4, none⟩ = some v := by
  refine ⟨?_, ?_, ?_, ?_, ?_⟩
  · rw [cell_of_row w b 0 _ t (0, 0) h]; rfl
  · rw [cell_of_row w b 1 _ t (0, 0) h]; rfl
  · rw [cell_of_row w b 2 _ t (0, 0) h]; rfl
  · rw [cell_of_row w b 3 _ t (0, 0) h]; rfl
  · rw [cell_of_row w b 4 _ t (0, 0) h]; rfl
/-- Block p holds the parts of block g. -/
def PartsAt (w : World) (p g : Nat) : Prop := w.heap[p]? = some (.cells (partsA g) 62 (0, 0))
theorem PartsAt.cells {w : World} {p g : Nat} (h : PartsAt w p g) : w.cell? ⟨p, 0, none⟩ = some (.slice (some ⟨g, 0, none⟩) 8 8) ∧ w.cell? ⟨p, 1, none⟩ = some (.slice (some ⟨g, 8, none⟩) 44 44) ∧ w.cell? ⟨p, 2, none⟩ = some (.slice (some ⟨g, 52, none⟩) 4 4) ∧ w.cell? ⟨p, 3, none⟩ = some (.slice (some ⟨g, 56, none⟩) 8 8) ∧ w.cell? ⟨p, 4, none⟩ = some (.slice (some ⟨g, 0, none⟩) 52 52) := cells5 h
theorem PartsAt.grown {w w' : World} {p g k : Nat} (h : PartsAt w p g) (hk : p ≠ k) (hb : w.grownBy w' (some k)) : PartsAt w' p g := (hb.block p (blk_lt h) (fun e => hk (by injection e))).trans h
theorem PartsAt.below {w w' : World} {p g B : Nat} (h : PartsAt w p g) (hB : p < B) (hb : Below B w w') : PartsAt w' p g := blk_keep2 h hB hb
/-- What stands while a sector is put. -/
structure PutW (B : Nat) (w w' : World) (r g p : Nat) (l : List UInt8) : Prop where
  res : RowL w' r 27 zeroB.toList
  row : RowL w' g 27 l
  par : PartsAt w' p g
  bel : Below B w w'
  r0 : B ≤ r
  g0 : B ≤ g
  rg : r ≠ g
  pg : p ≠ g
theorem PutW.turn {B : Nat} {w w1 w2 : World} {r g p : Nat} {l l' : List UInt8} (h : PutW B w w1 r g p l) (hr : RowL w2 g 27 l') (hg : w1.grownBy w2 (some g)) (hB : B ≤ w.heap.size) : PutW B w w2 r g p l' :=
  ⟨h.res.grown h.rg hg, hr, h.par.grown h.pg hg, h.bel.grown hg (Nat.le_trans hB h.bel.size) (fun k hk => by injection hk with e; have := h.g0; omega), h.r0, h.g0, h.rg, h.pg⟩
theorem PutW.draw {B : Nat} {w w1 : World} {r g p : Nat} {l : List UInt8} (h : PutW B w w1 r g p l) : PutW B w w1.drew r g p l := ⟨h.res, h.row, h.par, bd h.bel, h.r0, h.g0, h.rg, h.pg⟩

section
variable {ρ : Operand → Value} {o : Oper} {x y z : Operand} {w : World} {t : TypeId} {n : Nat} {a : Value} {ad : Addr} {A : Option Addr} {m c : Nat}
theorem exec_cv32 (ho : o.op = .convert 23 22 x) (hx : ρ x = .int .u32 (n : Int)) (hn : n < 4294967296) : (execOp ρ o).run Tryd.prog w = .ok (.value (.int .u64 (n : Int))) w := by
  have h : IntKind.u64.wrap (n : Int) = (n : Int) := IntWalk.u64_in _ ⟨by omega, by omega⟩
  have hc : (convert 23 22 (.int .u32 (n : Int))).run Tryd.prog w = .ok (.int .u64 (n : Int)) w := by simp [convert, go_sem, h]
  unfold execOp
  simp only [ho, hx, Sem.run_bind, hc, Result.andThen_ok, Sem.run_pure]
theorem ldS (h : w.cell? ad = some (.slice A m c)) : (Instr.loadAt 35 (.pointer (some ad))).run Tryd.prog w = .ok (.slice A m c) w := by simp [go_sem, h]
theorem faP2 {b : Nat} : (Instr.fieldAt 62 (.pointer (some ⟨b, 0, none⟩)) 2).run Tryd.prog w = .ok (.pointer (some ⟨b, 2, none⟩)) w := by kernel_rfl
theorem faP4 {b : Nat} : (Instr.fieldAt 62 (.pointer (some ⟨b, 0, none⟩)) 4).run Tryd.prog w = .ok (.pointer (some ⟨b, 4, none⟩)) w := by kernel_rfl
end

set_option maxHeartbeats 1000000 in
theorem put_arg (m c : Nat) (A : Option Addr) (b : List UInt8) (w : World) (hb : b.length = m) :
    Calls Tryd.prog 20 #[.int .u64 0, .slice A m c] w fun e w' => e = .returned (.tuple #[blk (putB 0 b), .int .i64 (putE 0 b : Nat)]) ∧ Below w.heap.size w w' := by
  have hA := (Below.refl w.heap.size w).alloc (Nat.le_refl _) (.cells (cel zeroB).toArray 27)
  have HT := Lib.hid (there_new w zeroB 27)
  have HA := Lib.hid hA
  clear hA
  rw [show putB 0 b = zeroB from rfl, show putE 0 b = 2 from rfl]
  go_enter Tryd.func20, Tryd.ntmps20
  go_wp2_with (first | (refine wpList_val rfl (exec_alloc rfl) ?_) | (refine wpList_val rfl (exec_build (c := zeroB) (parts := []) rfl rfl) ?_) | (refine wpList_nul rfl (exec_store rfl rfl rfl HT.out) ?_))
  refine bodyPost_ret (res_blk2 rfl _ _ _ rfl (World.rangeAt_setCells_same _ _ _ _ (by rw [cel_length]; exact HT.out))) rfl ⟨rfl, below_setCells HA.out (Nat.le_refl _) _⟩
set_option maxHeartbeats 1000000 in
theorem put_long (n m c : Nat) (A : Option Addr) (b : List UInt8) (w : World) (hb : b.length = m) (h0 : 0 < n) (hm : 44 < m) (hm2 : m ≤ maxLen) :
    Calls Tryd.prog 20 #[.int .u64 n, .slice A m c] w fun e w' => e = .returned (.tuple #[blk (putB n b), .int .i64 (putE n b : Nat)]) ∧ Below w.heap.size w w' := by
  have hA := (Below.refl w.heap.size w).alloc (Nat.le_refl _) (.cells (cel zeroB).toArray 27)
  have HT := Lib.hid (there_new w zeroB 27)
  have HA := Lib.hid hA
  have hE : putE n b = 3 := by unfold putE; rw [if_neg (by omega), if_pos (by omega)]
  have hB : putB n b = zeroB := by unfold putB; rw [hE]; rfl
  rw [hE, hB]
  unfold maxLen at hm2
  clear hA hE hB hb
  have hz : ((n : Int) == 0) = false := by simp; omega
  go_enter Tryd.func20, Tryd.ntmps20
  go_wp2_with (first | (refine wpList_val rfl (exec_alloc rfl) ?_) | (refine wpList_val rfl (exec_build (c := zeroB) (parts := []) rfl rfl) ?_) | (refine wpList_nul rfl (exec_store rfl rfl rfl HT.out) ?_))
  refine bodyPost_ret (res_blk2 rfl _ _ _ rfl (World.rangeAt_setCells_same _ _ _ _ (by rw [cel_length]; exact HT.out))) rfl ⟨rfl, below_setCells HA.out (Nat.le_refl _) _⟩
end Go.Proofs.YtiandcigoflcmaaDoor
