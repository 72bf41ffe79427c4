/-
  The document's parity of a write.
-/
import Derived.Test.YtplanbjjfaihbaaPnX
import Derived.Test.YtplanbjjfaihbaaPnS
import Derived.Test.YtplanbjjfaihbaaBlkE
import Derived.Test.YtplanbjjfaihbaaLast
namespace Go.Proofs.Ytplanbjjfaihbaa
open Go.RowKit
set_option linter.unusedVariables false
set_option linter.unusedSimpArgs false
set_option maxRecDepth 100000


/-- A block of memory that holds one block. -/
def CelB (w : World) (b : Nat) (c : Blk) : Prop := w.heap[b]? = some (.cells (cel c).toArray 34 (0, 0))
section
variable {w w' : World} {b k : Nat} {c d : Blk}
theorem CelB.rng (h : CelB w b c) : w.rangeAt b 0 (cel c) := blk_range h
theorem CelB.there (h : CelB w b c) : w.there b 0 64 := blk_there h
theorem CelB.put (h : CelB w b c) (d : Blk) : CelB (w.setCells b 0 (cel d)) b d := blk_laid h
theorem CelB.off (h : CelB w b c) {vs : List Value} (hk : b ≠ k) : CelB (w.setCells k 0 vs) b c := (blk_setCells k vs 0 w b hk).trans h
theorem CelB.lt (h : CelB w b c) : b < w.heap.size := blk_ltP h
theorem CelB.below (h : CelB w b c) (hb : Below w.heap.size w w') : CelB w' b c := (hb.block b h.lt).trans h
theorem CelB.new (w : World) (c : Blk) : CelB (w.alloc (.cells (cel c).toArray 34)) w.heap.size c := heap_alloc_new w _
theorem below_put {B : Nat} {a : World} (h : Below B a w) (hb : B ≤ b) (d : Blk) : Below B a (w.setCells b 0 (cel d)) := below_setCells h hb _
end
/-- A parameter's block and the result's. -/
theorem laidP (w : World) (p : Blk) : CelB (two_ w p zeroB) w.heap.size p ∧ CelB (two_ w p zeroB) (w.heap.size + 1) zeroB ∧ Below w.heap.size w (two_ w p zeroB) := by
  have h1 := CelB.new w p
  have hb := (Below.refl w.heap.size w).alloc (Nat.le_refl _) (.cells (cel p).toArray 34)
  have hs : (w.alloc (.cells (cel p).toArray 34)).heap.size = w.heap.size + 1 := World.size_alloc ..
  have h2 := CelB.new (w.alloc (.cells (cel p).toArray 34)) zeroB
  rw [hs] at h2
  exact ⟨h1.below ((Below.refl _ _).alloc (Nat.le_refl _) _), h2, hb.alloc (by omega) _⟩
theorem exec_eqU8 {ρ : Operand → Value} {o : Oper} {x y : Operand} {w : World} {t r : TypeId} {a b : Int} (c : Bool) (ho : o.op = .binOp .eql t x y r) (hx : ρ x = .int .u8 a) (hy : ρ y = .int .u8 b) (h : (a == b) = c) : (execOp ρ o).run Try.prog w = .ok (.value (.bool c)) w := exec_eqInt c ho hx hy h
set_option maxHeartbeats 4000000 in
theorem rparity (z : Int) (A A1 A2 : Option Addr) (n c n1 c1 n2 c2 N : Nat) (l : List Bool) (a b : List Blk) (p : Blk) (w : World) (hl : RdE BoE w N A n l) (ha : RdB w N A1 n1 a) (hb : RdB w N A2 n2 b) (hN : N ≤ w.heap.size) (hn : n ≤ maxLen) :
    Calls Try.prog 13 #[.int .u8 z, .slice A n c, .slice A1 n1 c1, .slice A2 n2 c2, blk p] w fun e w' => e = .returned (.tuple #[blk (parB z l a b p), .int .i64 (parE z l a b)]) ∧ Below w.heap.size w w' := by
  obtain ⟨hc0, hc1, hbw⟩ := laidP w p
  obtain ⟨w2, hw2⟩ : ∃ w2, two_ w p zeroB = w2 := ⟨_, rfl⟩
  rw [hw2] at hc0 hc1 hbw
  have HW2 := Lib.hid hw2
  obtain ⟨B, hB⟩ : ∃ B, w.heap.size = B := ⟨_, rfl⟩
  rw [hB] at hc0 hc1 hbw
  have HBE := Lib.hid hB
  have HC0 := Lib.hid hc0
  have HC1 := Lib.hid hc1
  have HW := Lib.hid hbw
  have HLL := Lib.hid hl.1
  have HAL := Lib.hid ha.1
  have HBL := Lib.hid hb.1
  have HNB : Hid (N ≤ B) := Lib.hid (by omega)
  have HL := Lib.hid (hl.below (hbw.mono HNB.out))
  have HA := Lib.hid (ha.below (hbw.mono HNB.out))
  have HB := Lib.hid (hb.below (hbw.mono HNB.out))
  have HL00 := Lib.hid hl
  have HA00 := Lib.hid ha
  have HB00 := Lib.hid hb
  have HN : Hid (n ≤ 9223372036854775807) := Lib.hid (by unfold maxLen at hn; omega)
  clear hl ha hb hN hn hc0 hc1 hbw hw2 hB
  go_enter Try.func13, Try.ntmps13
  go_upto_region 1 with (first | (refine wpList_val rfl (exec_box rfl rfl) ?_) | (refine wpList_val rfl (exec_alloc rfl) ?_) | fail)
  have hs := HW2.out
  unfold two_ at hs
  rw [hs]
  clear hs HW2
  rw [HBE.out]
  refine wp_region_lit ?_
  refine wpList_valn rfl (exec_mv rfl (ev rfl)) ?_
  simp only [Act.put, List.setIfInBounds_toArray, List.set_cons_succ, List.set_cons_zero]
  refine wpList_valn rfl (exec_lenQ Try.underlying22 rfl (ev rfl)) ?_
  simp only [Act.put, List.setIfInBounds_toArray, List.set_cons_succ, List.set_cons_zero]
  refine wpList_valn rfl (exec_as rfl (ev rfl)) ?_
  simp only [Act.put, List.setIfInBounds_toArray, List.set_cons_succ, List.set_cons_zero]
  refine wpList_nil ?_
  go_upto_region 2 with fail
  by_cases k0 : n < 2
  · have T0 : Hid (decide ((n : Int) < 2) = true) := Lib.hid (decide_eq_true (by omega))
    have HQ : Hid (parQ l a b = false) := Lib.hid (decide_eq_false fun e => by obtain ⟨e1, e2, e3, e4⟩ := e; rw [HLL.out] at e1 e2 e3 e4; rw [HAL.out] at e3; rw [HBL.out] at e4; omega)
    have HV : Hid (parB z l a b p = zeroB) := Lib.hid (if_neg (by rw [HQ.out]; decide))
    have HE : Hid (parE z l a b = 2) := Lib.hid (if_neg (by rw [HQ.out]; decide))
    clear k0
    refine wp_region_lit ?_
    refine wpList_valn rfl (exec_mv rfl (ev rfl)) ?_
    simp only [Act.put, List.setIfInBounds_toArray, List.set_cons_succ, List.set_cons_zero]
    refine wpList_valn (v := .bool true) rfl (exec_lss true rfl (ev rfl) evk T0.out) ?_
    simp only [Act.put, List.setIfInBounds_toArray, List.set_cons_succ, List.set_cons_zero]
    refine wpList_skips 2 (v := .bool true) rfl (exec_mv rfl (ev rfl)) (by kernel_rfl) ?_
    simp only [skipAct, List.take_succ_cons, List.take_zero, List.drop_succ_cons, List.drop_zero, Act.put, List.setIfInBounds_toArray, List.set_cons_succ, List.set_cons_zero]
    refine wpList_valn (v := .bool true) rfl (exec_pt rfl (ev rfl) evk) ?_
    simp only [Act.put, List.setIfInBounds_toArray, List.set_cons_succ, List.set_cons_zero]
    refine wpList_skips 4 (v := .bool true) rfl (exec_mv rfl (ev rfl)) (by kernel_rfl) ?_
    simp only [skipAct, List.take_succ_cons, List.take_zero, List.drop_succ_cons, List.drop_zero, Act.put, List.setIfInBounds_toArray, List.set_cons_succ, List.set_cons_zero]
    refine wpList_valn (v := .bool true) rfl (exec_pt rfl (ev rfl) evk) ?_
    simp only [Act.put, List.setIfInBounds_toArray, List.set_cons_succ, List.set_cons_zero]
    refine wpList_skips 4 (v := .bool true) rfl (exec_mv rfl (ev rfl)) (by kernel_rfl) ?_
    simp only [skipAct, List.take_succ_cons, List.take_zero, List.drop_succ_cons, List.drop_zero, Act.put, List.setIfInBounds_toArray, List.set_cons_succ, List.set_cons_zero]
    refine wpList_valn (v := .bool true) rfl (exec_pt rfl (ev rfl) evk) ?_
    simp only [Act.put, List.setIfInBounds_toArray, List.set_cons_succ, List.set_cons_zero]
    refine wpList_nil ?_
    go_upto_region 3 with fail
    refine wp_region_lit ?_
    refine wpList_valn rfl (exec_build (c := zeroB) (parts := []) rfl rfl) ?_
    simp only [Act.put, List.setIfInBounds_toArray, List.set_cons_succ, List.set_cons_zero]
    refine wpList_nuln rfl (exec_store rfl (ev rfl) (ev rfl) HC1.out.there) ?_
    simp only [Act.put, List.setIfInBounds_toArray, List.set_cons_succ, List.set_cons_zero]
    refine wpList_valn rfl (exec_as rfl evk) ?_
    simp only [Act.put, List.setIfInBounds_toArray, List.set_cons_succ, List.set_cons_zero]
    refine wpList_nil ?_
    go_wp2_with fail
    (try simp only [Exit.inBlock, Exit.then])
    exact bodyPost_ret (res_blk2 (c := zeroB) rfl _ _ (B + 1) rfl (World.rangeAt_setCells_same _ _ _ _ (by rw [cel_length]; exact HC1.out.there))) rfl ⟨by rw [HV.out, HE.out]; rfl, by first | exact below_put HW.out (Nat.le_succ B) _ | (rw [HBE.out]; exact below_put HW.out (Nat.le_succ B) _)⟩
  have T0 : Hid (decide ((n : Int) < 2) = false) := Lib.hid (decide_eq_false (by omega))
  by_cases k1 : 15 < n
  · have T1 : Hid (decide (15 < (n : Int)) = true) := Lib.hid (decide_eq_true (by omega))
    have HQ : Hid (parQ l a b = false) := Lib.hid (decide_eq_false fun e => by obtain ⟨e1, e2, e3, e4⟩ := e; rw [HLL.out] at e1 e2 e3 e4; rw [HAL.out] at e3; rw [HBL.out] at e4; omega)
    have HV : Hid (parB z l a b p = zeroB) := Lib.hid (if_neg (by rw [HQ.out]; decide))
    have HE : Hid (parE z l a b = 2) := Lib.hid (if_neg (by rw [HQ.out]; decide))
    clear k0 k1
    refine wp_region_lit ?_
    refine wpList_valn rfl (exec_mv rfl (ev rfl)) ?_
    simp only [Act.put, List.setIfInBounds_toArray, List.set_cons_succ, List.set_cons_zero]
    refine wpList_valn (v := .bool false) rfl (exec_lss false rfl (ev rfl) evk T0.out) ?_
    simp only [Act.put, List.setIfInBounds_toArray, List.set_cons_succ, List.set_cons_zero]
    refine wpList_valn (v := .bool false) rfl (exec_mv rfl (ev rfl)) ?_
    simp only [Act.put, List.setIfInBounds_toArray, List.set_cons_succ, List.set_cons_zero]
    refine wpList_val (wanted_of rfl rfl rfl rfl) (exec_mv rfl (ev rfl)) ?_
    simp only [Act.put, List.setIfInBounds_toArray, List.set_cons_succ, List.set_cons_zero]
    refine wpList_val (v := .bool true) (wanted_of rfl rfl rfl rfl) (exec_gtr true rfl (ev rfl) evk T1.out) ?_
    simp only [Act.put, List.setIfInBounds_toArray, List.set_cons_succ, List.set_cons_zero]
    refine wpList_valn (v := .bool true) rfl (exec_pf rfl (ev rfl) (ev rfl)) ?_
    simp only [Act.put, List.setIfInBounds_toArray, List.set_cons_succ, List.set_cons_zero]
    refine wpList_skips 4 (v := .bool true) rfl (exec_mv rfl (ev rfl)) (by kernel_rfl) ?_
    simp only [skipAct, List.take_succ_cons, List.take_zero, List.drop_succ_cons, List.drop_zero, Act.put, List.setIfInBounds_toArray, List.set_cons_succ, List.set_cons_zero]
    refine wpList_valn (v := .bool true) rfl (exec_pt rfl (ev rfl) evk) ?_
    simp only [Act.put, List.setIfInBounds_toArray, List.set_cons_succ, List.set_cons_zero]
    refine wpList_skips 4 (v := .bool true) rfl (exec_mv rfl (ev rfl)) (by kernel_rfl) ?_
    simp only [skipAct, List.take_succ_cons, List.take_zero, List.drop_succ_cons, List.drop_zero, Act.put, List.setIfInBounds_toArray, List.set_cons_succ, List.set_cons_zero]
    refine wpList_valn (v := .bool true) rfl (exec_pt rfl (ev rfl) evk) ?_
    simp only [Act.put, List.setIfInBounds_toArray, List.set_cons_succ, List.set_cons_zero]
    refine wpList_nil ?_
    go_upto_region 3 with fail
    refine wp_region_lit ?_
    refine wpList_valn rfl (exec_build (c := zeroB) (parts := []) rfl rfl) ?_
    simp only [Act.put, List.setIfInBounds_toArray, List.set_cons_succ, List.set_cons_zero]
    refine wpList_nuln rfl (exec_store rfl (ev rfl) (ev rfl) HC1.out.there) ?_
    simp only [Act.put, List.setIfInBounds_toArray, List.set_cons_succ, List.set_cons_zero]
    refine wpList_valn rfl (exec_as rfl evk) ?_
    simp only [Act.put, List.setIfInBounds_toArray, List.set_cons_succ, List.set_cons_zero]
    refine wpList_nil ?_
    go_wp2_with fail
    (try simp only [Exit.inBlock, Exit.then])
    exact bodyPost_ret (res_blk2 (c := zeroB) rfl _ _ (B + 1) rfl (World.rangeAt_setCells_same _ _ _ _ (by rw [cel_length]; exact HC1.out.there))) rfl ⟨by rw [HV.out, HE.out]; rfl, by first | exact below_put HW.out (Nat.le_succ B) _ | (rw [HBE.out]; exact below_put HW.out (Nat.le_succ B) _)⟩
  have T1 : Hid (decide (15 < (n : Int)) = false) := Lib.hid (decide_eq_false (by omega))
  by_cases k2 : ¬ n1 = n
  · have T2 : Hid (((n1 : Int) != (n : Int)) = true) := Lib.hid (by simp only [bne_iff_ne, ne_eq]; omega)
    have HQ : Hid (parQ l a b = false) := Lib.hid (decide_eq_false fun e => by obtain ⟨e1, e2, e3, e4⟩ := e; rw [HLL.out] at e1 e2 e3 e4; rw [HAL.out] at e3; rw [HBL.out] at e4; omega)
    have HV : Hid (parB z l a b p = zeroB) := Lib.hid (if_neg (by rw [HQ.out]; decide))
    have HE : Hid (parE z l a b = 2) := Lib.hid (if_neg (by rw [HQ.out]; decide))
    clear k0 k1 k2
    refine wp_region_lit ?_
    refine wpList_valn rfl (exec_mv rfl (ev rfl)) ?_
    simp only [Act.put, List.setIfInBounds_toArray, List.set_cons_succ, List.set_cons_zero]
    refine wpList_valn (v := .bool false) rfl (exec_lss false rfl (ev rfl) evk T0.out) ?_
    simp only [Act.put, List.setIfInBounds_toArray, List.set_cons_succ, List.set_cons_zero]
    refine wpList_valn (v := .bool false) rfl (exec_mv rfl (ev rfl)) ?_
    simp only [Act.put, List.setIfInBounds_toArray, List.set_cons_succ, List.set_cons_zero]
    refine wpList_val (wanted_of rfl rfl rfl rfl) (exec_mv rfl (ev rfl)) ?_
    simp only [Act.put, List.setIfInBounds_toArray, List.set_cons_succ, List.set_cons_zero]
    refine wpList_val (v := .bool false) (wanted_of rfl rfl rfl rfl) (exec_gtr false rfl (ev rfl) evk T1.out) ?_
    simp only [Act.put, List.setIfInBounds_toArray, List.set_cons_succ, List.set_cons_zero]
    refine wpList_valn (v := .bool false) rfl (exec_pf rfl (ev rfl) (ev rfl)) ?_
    simp only [Act.put, List.setIfInBounds_toArray, List.set_cons_succ, List.set_cons_zero]
    refine wpList_valn (v := .bool false) rfl (exec_mv rfl (ev rfl)) ?_
    simp only [Act.put, List.setIfInBounds_toArray, List.set_cons_succ, List.set_cons_zero]
    refine wpList_val (wanted_of rfl rfl rfl rfl) (exec_mv rfl (ev rfl)) ?_
    simp only [Act.put, List.setIfInBounds_toArray, List.set_cons_succ, List.set_cons_zero]
    refine wpList_val (wanted_of rfl rfl rfl rfl) (exec_lenQ Try.underlying32 rfl (ev rfl)) ?_
    simp only [Act.put, List.setIfInBounds_toArray, List.set_cons_succ, List.set_cons_zero]
    refine wpList_val (wanted_of rfl rfl rfl rfl) (exec_mv rfl (ev rfl)) ?_
    simp only [Act.put, List.setIfInBounds_toArray, List.set_cons_succ, List.set_cons_zero]
    refine wpList_val (v := .bool true) (wanted_of rfl rfl rfl rfl) (exec_neInt true rfl (ev rfl) (ev rfl) T2.out) ?_
    simp only [Act.put, List.setIfInBounds_toArray, List.set_cons_succ, List.set_cons_zero]
    refine wpList_valn (v := .bool true) rfl (exec_pf rfl (ev rfl) (ev rfl)) ?_
    simp only [Act.put, List.setIfInBounds_toArray, List.set_cons_succ, List.set_cons_zero]
    refine wpList_skips 4 (v := .bool true) rfl (exec_mv rfl (ev rfl)) (by kernel_rfl) ?_
    simp only [skipAct, List.take_succ_cons, List.take_zero, List.drop_succ_cons, List.drop_zero, Act.put, List.setIfInBounds_toArray, List.set_cons_succ, List.set_cons_zero]
    refine wpList_valn (v := .bool true) rfl (exec_pt rfl (ev rfl) evk) ?_
    simp only [Act.put, List.setIfInBounds_toArray, List.set_cons_succ, List.set_cons_zero]
    refine wpList_nil ?_
    go_upto_region 3 with fail
    refine wp_region_lit ?_
    refine wpList_valn rfl (exec_build (c := zeroB) (parts := []) rfl rfl) ?_
    simp only [Act.put, List.setIfInBounds_toArray, List.set_cons_succ, List.set_cons_zero]
    refine wpList_nuln rfl (exec_store rfl (ev rfl) (ev rfl) HC1.out.there) ?_
    simp only [Act.put, List.setIfInBounds_toArray, List.set_cons_succ, List.set_cons_zero]
    refine wpList_valn rfl (exec_as rfl evk) ?_
    simp only [Act.put, List.setIfInBounds_toArray, List.set_cons_succ, List.set_cons_zero]
    refine wpList_nil ?_
    go_wp2_with fail
    (try simp only [Exit.inBlock, Exit.then])
    exact bodyPost_ret (res_blk2 (c := zeroB) rfl _ _ (B + 1) rfl (World.rangeAt_setCells_same _ _ _ _ (by rw [cel_length]; exact HC1.out.there))) rfl ⟨by rw [HV.out, HE.out]; rfl, by first | exact below_put HW.out (Nat.le_succ B) _ | (rw [HBE.out]; exact below_put HW.out (Nat.le_succ B) _)⟩
  have T2 : Hid (((n1 : Int) != (n : Int)) = false) := Lib.hid (by simp only [bne_eq_false_iff_eq]; omega)
  by_cases k3 : ¬ n2 = n
  · have T3 : Hid (((n2 : Int) != (n : Int)) = true) := Lib.hid (by simp only [bne_iff_ne, ne_eq]; omega)
    have HQ : Hid (parQ l a b = false) := Lib.hid (decide_eq_false fun e => by obtain ⟨e1, e2, e3, e4⟩ := e; rw [HLL.out] at e1 e2 e3 e4; rw [HAL.out] at e3; rw [HBL.out] at e4; omega)
    have HV : Hid (parB z l a b p = zeroB) := Lib.hid (if_neg (by rw [HQ.out]; decide))
    have HE : Hid (parE z l a b = 2) := Lib.hid (if_neg (by rw [HQ.out]; decide))
    clear k0 k1 k2 k3
    refine wp_region_lit ?_
    refine wpList_valn rfl (exec_mv rfl (ev rfl)) ?_
    simp only [Act.put, List.setIfInBounds_toArray, List.set_cons_succ, List.set_cons_zero]
    refine wpList_valn (v := .bool false) rfl (exec_lss false rfl (ev rfl) evk T0.out) ?_
    simp only [Act.put, List.setIfInBounds_toArray, List.set_cons_succ, List.set_cons_zero]
    refine wpList_valn (v := .bool false) rfl (exec_mv rfl (ev rfl)) ?_
    simp only [Act.put, List.setIfInBounds_toArray, List.set_cons_succ, List.set_cons_zero]
    refine wpList_val (wanted_of rfl rfl rfl rfl) (exec_mv rfl (ev rfl)) ?_
    simp only [Act.put, List.setIfInBounds_toArray, List.set_cons_succ, List.set_cons_zero]
    refine wpList_val (v := .bool false) (wanted_of rfl rfl rfl rfl) (exec_gtr false rfl (ev rfl) evk T1.out) ?_
    simp only [Act.put, List.setIfInBounds_toArray, List.set_cons_succ, List.set_cons_zero]
    refine wpList_valn (v := .bool false) rfl (exec_pf rfl (ev rfl) (ev rfl)) ?_
    simp only [Act.put, List.setIfInBounds_toArray, List.set_cons_succ, List.set_cons_zero]
    refine wpList_valn (v := .bool false) rfl (exec_mv rfl (ev rfl)) ?_
    simp only [Act.put, List.setIfInBounds_toArray, List.set_cons_succ, List.set_cons_zero]
    refine wpList_val (wanted_of rfl rfl rfl rfl) (exec_mv rfl (ev rfl)) ?_
    simp only [Act.put, List.setIfInBounds_toArray, List.set_cons_succ, List.set_cons_zero]
    refine wpList_val (wanted_of rfl rfl rfl rfl) (exec_lenQ Try.underlying32 rfl (ev rfl)) ?_
    simp only [Act.put, List.setIfInBounds_toArray, List.set_cons_succ, List.set_cons_zero]
    refine wpList_val (wanted_of rfl rfl rfl rfl) (exec_mv rfl (ev rfl)) ?_
    simp only [Act.put, List.setIfInBounds_toArray, List.set_cons_succ, List.set_cons_zero]
    refine wpList_val (v := .bool false) (wanted_of rfl rfl rfl rfl) (exec_neInt false rfl (ev rfl) (ev rfl) T2.out) ?_
    simp only [Act.put, List.setIfInBounds_toArray, List.set_cons_succ, List.set_cons_zero]
    refine wpList_valn (v := .bool false) rfl (exec_pf rfl (ev rfl) (ev rfl)) ?_
    simp only [Act.put, List.setIfInBounds_toArray, List.set_cons_succ, List.set_cons_zero]
    refine wpList_valn (v := .bool false) rfl (exec_mv rfl (ev rfl)) ?_
    simp only [Act.put, List.setIfInBounds_toArray, List.set_cons_succ, List.set_cons_zero]
    refine wpList_val (wanted_of rfl rfl rfl rfl) (exec_mv rfl (ev rfl)) ?_
    simp only [Act.put, List.setIfInBounds_toArray, List.set_cons_succ, List.set_cons_zero]
    refine wpList_val (wanted_of rfl rfl rfl rfl) (exec_lenQ Try.underlying32 rfl (ev rfl)) ?_
    simp only [Act.put, List.setIfInBounds_toArray, List.set_cons_succ, List.set_cons_zero]
    refine wpList_val (wanted_of rfl rfl rfl rfl) (exec_mv rfl (ev rfl)) ?_
    simp only [Act.put, List.setIfInBounds_toArray, List.set_cons_succ, List.set_cons_zero]
    refine wpList_val (v := .bool true) (wanted_of rfl rfl rfl rfl) (exec_neInt true rfl (ev rfl) (ev rfl) T3.out) ?_
    simp only [Act.put, List.setIfInBounds_toArray, List.set_cons_succ, List.set_cons_zero]
    refine wpList_valn (v := .bool true) rfl (exec_pf rfl (ev rfl) (ev rfl)) ?_
    simp only [Act.put, List.setIfInBounds_toArray, List.set_cons_succ, List.set_cons_zero]
    refine wpList_nil ?_
    go_upto_region 3 with fail
    refine wp_region_lit ?_
    refine wpList_valn rfl (exec_build (c := zeroB) (parts := []) rfl rfl) ?_
    simp only [Act.put, List.setIfInBounds_toArray, List.set_cons_succ, List.set_cons_zero]
    refine wpList_nuln rfl (exec_store rfl (ev rfl) (ev rfl) HC1.out.there) ?_
    simp only [Act.put, List.setIfInBounds_toArray, List.set_cons_succ, List.set_cons_zero]
    refine wpList_valn rfl (exec_as rfl evk) ?_
    simp only [Act.put, List.setIfInBounds_toArray, List.set_cons_succ, List.set_cons_zero]
    refine wpList_nil ?_
    go_wp2_with fail
    (try simp only [Exit.inBlock, Exit.then])
    exact bodyPost_ret (res_blk2 (c := zeroB) rfl _ _ (B + 1) rfl (World.rangeAt_setCells_same _ _ _ _ (by rw [cel_length]; exact HC1.out.there))) rfl ⟨by rw [HV.out, HE.out]; rfl, by first | exact below_put HW.out (Nat.le_succ B) _ | (rw [HBE.out]; exact below_put HW.out (Nat.le_succ B) _)⟩
  have T3 : Hid (((n2 : Int) != (n : Int)) = false) := Lib.hid (by simp only [bne_eq_false_iff_eq]; omega)
  have HQ : Hid (parQ l a b = true) := Lib.hid (decide_eq_true (by rw [HLL.out, HAL.out, HBL.out]; omega))
  have HN15 : Hid (n ≤ 15) := Lib.hid (by omega)
  have HN1 : Hid (n1 = n) := Lib.hid (by omega)
  have HN2 : Hid (n2 = n) := Lib.hid (by omega)
  clear k0 k1 k2 k3
  refine wp_region_lit ?_
  refine wpList_valn rfl (exec_mv rfl (ev rfl)) ?_
  simp only [Act.put, List.setIfInBounds_toArray, List.set_cons_succ, List.set_cons_zero]
  refine wpList_valn (v := .bool false) rfl (exec_lss false rfl (ev rfl) evk T0.out) ?_
  simp only [Act.put, List.setIfInBounds_toArray, List.set_cons_succ, List.set_cons_zero]
  refine wpList_valn (v := .bool false) rfl (exec_mv rfl (ev rfl)) ?_
  simp only [Act.put, List.setIfInBounds_toArray, List.set_cons_succ, List.set_cons_zero]
  refine wpList_val (wanted_of rfl rfl rfl rfl) (exec_mv rfl (ev rfl)) ?_
  simp only [Act.put, List.setIfInBounds_toArray, List.set_cons_succ, List.set_cons_zero]
  refine wpList_val (v := .bool false) (wanted_of rfl rfl rfl rfl) (exec_gtr false rfl (ev rfl) evk T1.out) ?_
  simp only [Act.put, List.setIfInBounds_toArray, List.set_cons_succ, List.set_cons_zero]
  refine wpList_valn (v := .bool false) rfl (exec_pf rfl (ev rfl) (ev rfl)) ?_
  simp only [Act.put, List.setIfInBounds_toArray, List.set_cons_succ, List.set_cons_zero]
  refine wpList_valn (v := .bool false) rfl (exec_mv rfl (ev rfl)) ?_
  simp only [Act.put, List.setIfInBounds_toArray, List.set_cons_succ, List.set_cons_zero]
  refine wpList_val (wanted_of rfl rfl rfl rfl) (exec_mv rfl (ev rfl)) ?_
  simp only [Act.put, List.setIfInBounds_toArray, List.set_cons_succ, List.set_cons_zero]
  refine wpList_val (wanted_of rfl rfl rfl rfl) (exec_lenQ Try.underlying32 rfl (ev rfl)) ?_
  simp only [Act.put, List.setIfInBounds_toArray, List.set_cons_succ, List.set_cons_zero]
  refine wpList_val (wanted_of rfl rfl rfl rfl) (exec_mv rfl (ev rfl)) ?_
  simp only [Act.put, List.setIfInBounds_toArray, List.set_cons_succ, List.set_cons_zero]
  refine wpList_val (v := .bool false) (wanted_of rfl rfl rfl rfl) (exec_neInt false rfl (ev rfl) (ev rfl) T2.out) ?_
  simp only [Act.put, List.setIfInBounds_toArray, List.set_cons_succ, List.set_cons_zero]
  refine wpList_valn (v := .bool false) rfl (exec_pf rfl (ev rfl) (ev rfl)) ?_
  simp only [Act.put, List.setIfInBounds_toArray, List.set_cons_succ, List.set_cons_zero]
  refine wpList_valn (v := .bool false) rfl (exec_mv rfl (ev rfl)) ?_
  simp only [Act.put, List.setIfInBounds_toArray, List.set_cons_succ, List.set_cons_zero]
  refine wpList_val (wanted_of rfl rfl rfl rfl) (exec_mv rfl (ev rfl)) ?_
  simp only [Act.put, List.setIfInBounds_toArray, List.set_cons_succ, List.set_cons_zero]
  refine wpList_val (wanted_of rfl rfl rfl rfl) (exec_lenQ Try.underlying32 rfl (ev rfl)) ?_
  simp only [Act.put, List.setIfInBounds_toArray, List.set_cons_succ, List.set_cons_zero]
  refine wpList_val (wanted_of rfl rfl rfl rfl) (exec_mv rfl (ev rfl)) ?_
  simp only [Act.put, List.setIfInBounds_toArray, List.set_cons_succ, List.set_cons_zero]
  refine wpList_val (v := .bool false) (wanted_of rfl rfl rfl rfl) (exec_neInt false rfl (ev rfl) (ev rfl) T3.out) ?_
  simp only [Act.put, List.setIfInBounds_toArray, List.set_cons_succ, List.set_cons_zero]
  refine wpList_valn (v := .bool false) rfl (exec_pf rfl (ev rfl) (ev rfl)) ?_
  simp only [Act.put, List.setIfInBounds_toArray, List.set_cons_succ, List.set_cons_zero]
  refine wpList_nil ?_
  rw [HN1.out] at HA
  rw [HN2.out] at HB
  have HL0 := HL00
  have HA0 := HA00
  have HB0 := HB00
  rw [HN1.out] at HA0
  rw [HN2.out] at HB0
  clear HL00 HA00 HB00
  rw [HN1.out, HN2.out]
  by_cases z2 : z = 2
  · have T4 : Hid ((z == 2) = true) := Lib.hid (by rw [beq_iff_eq]; exact z2)
    have HV : Hid (parB z l a b p = fold b) := Lib.hid ((if_pos HQ.out).trans (if_pos z2))
    have HE : Hid (parE z l a b = 0) := Lib.hid ((if_pos HQ.out).trans (if_pos (by omega)))
    clear z2
    go_upto_region 4 with fail
    refine wp_region_lit ?_
    refine wpList_valn rfl (exec_mv rfl (ev rfl)) ?_
    simp only [Act.put, List.setIfInBounds_toArray, List.set_cons_succ, List.set_cons_zero]
    refine wpList_valn (v := .bool true) rfl (exec_eqU8 true rfl (ev rfl) evk T4.out) ?_
    simp only [Act.put, List.setIfInBounds_toArray, List.set_cons_succ, List.set_cons_zero]
    refine wpList_nil ?_
    go_upto_region 5 with fail
    refine wp_region_lit ?_
    refine wpList_valn rfl (exec_mv rfl (ev rfl)) ?_
    simp only [Act.put, List.setIfInBounds_toArray, List.set_cons_succ, List.set_cons_zero]
    refine wpList_call rfl (exec_cl Try.call15 rfl (evc (ev rfl) evn)) ?_
    refine (refFold_any A2 n c2 N b w2 HB.out (Nat.le_trans HNB.out (by have := HW.out.size; rw [HBE.out] at this; exact this)) (by have := HN15.out; unfold maxLen; omega)).mono ?_
    rintro e w3 ⟨rfl, hb3⟩
    have HC3 := Lib.hid (HC1.out.below hb3)
    have HW3 := Lib.hid (HW.out.trans (hb3.mono (by have := HW.out.size; rw [HBE.out] at this; exact this)))
    clear hb3
    refine ⟨_, rfl, ?_⟩
    simp only [Act.put, List.setIfInBounds_toArray, List.set_cons_succ, List.set_cons_zero]
    refine wpList_nuln rfl (exec_store rfl (ev rfl) (ev rfl) HC3.out.there) ?_
    simp only [Act.put, List.setIfInBounds_toArray, List.set_cons_succ, List.set_cons_zero]
    refine wpList_valn rfl (exec_as rfl evk) ?_
    simp only [Act.put, List.setIfInBounds_toArray, List.set_cons_succ, List.set_cons_zero]
    refine wpList_nil ?_
    go_wp2_with fail
    (try simp only [Exit.inBlock, Exit.then])
    exact bodyPost_ret (res_blk2 (c := fold b) rfl _ _ (B + 1) rfl (World.rangeAt_setCells_same _ _ _ _ (by rw [cel_length]; exact HC3.out.there))) rfl ⟨by rw [HV.out, HE.out]; rfl, by first | exact below_put HW3.out (Nat.le_succ B) _ | (rw [HBE.out]; exact below_put HW3.out (Nat.le_succ B) _)⟩
  have T4 : Hid ((z == 2) = false) := Lib.hid (beq_eq_false_iff_ne.2 z2)
  go_upto_region 4 with fail
  refine wp_region_lit ?_
  refine wpList_valn rfl (exec_mv rfl (ev rfl)) ?_
  simp only [Act.put, List.setIfInBounds_toArray, List.set_cons_succ, List.set_cons_zero]
  refine wpList_valn (v := .bool false) rfl (exec_eqU8 false rfl (ev rfl) evk T4.out) ?_
  simp only [Act.put, List.setIfInBounds_toArray, List.set_cons_succ, List.set_cons_zero]
  refine wpList_nil ?_
  by_cases z4 : z = 4
  · have T5 : Hid ((z == 4) = true) := Lib.hid (by rw [beq_iff_eq]; exact z4)
    have HV : Hid (parB z l a b p = parN l a b p n) := Lib.hid ((if_pos HQ.out).trans ((if_neg z2).trans ((if_neg (by omega)).trans ((if_pos z4).trans (by rw [HLL.out])))))
    have HE : Hid (parE z l a b = 0) := Lib.hid ((if_pos HQ.out).trans (if_pos (by omega)))
    clear z2 z4
    go_upto_region 6 with fail
    refine wp_region_lit ?_
    refine wpList_valn rfl (exec_mv rfl (ev rfl)) ?_
    simp only [Act.put, List.setIfInBounds_toArray, List.set_cons_succ, List.set_cons_zero]
    refine wpList_valn (v := .bool true) rfl (exec_eqU8 true rfl (ev rfl) evk T5.out) ?_
    simp only [Act.put, List.setIfInBounds_toArray, List.set_cons_succ, List.set_cons_zero]
    refine wpList_nil ?_
    go_upto_region 7 with fail
    refine wp_region_lit ?_
    refine wpList_valn rfl (exec_as rfl evk) ?_
    simp only [Act.put, List.setIfInBounds_toArray, List.set_cons_succ, List.set_cons_zero]
    refine wpList_nil ?_
    go_wp2_with fail
    go_loopw [13] (fun v wr => ∃ i : Nat, v = .int .i64 i ∧ i ≤ n ∧ CelB wr B (parN l a b p i) ∧ CelB wr (B + 1) zeroB ∧ Below B w wr) (fun v _ => n - (intOf v).toNat)
    case atStart => exact ⟨0, by go_num, by omega, HC0.out, HC1.out, HW.out⟩
    case round =>
      obtain ⟨i, rfl, hi, hc, hz, hb⟩ := hrel
      have HC := Lib.hid hc
      have HZ := Lib.hid hz
      have HWR := Lib.hid hb
      have HSZ : Hid (B ≤ wr.heap.size) := Lib.hid (by have := hb.size; rw [HBE.out] at this; exact this)
      have HL' := Lib.hid (HL0.out.below (hb.mono HNB.out))
      have HA' := Lib.hid (HA0.out.below (hb.mono HNB.out))
      have HB' := Lib.hid (HB0.out.below (hb.mono HNB.out))
      clear hc hz hb
      by_cases hlt : i < n
      · have HI := Lib.hid hlt
        have HT : Hid (decide ((i : Int) < (n : Int)) = true) := Lib.hid (decide_eq_true (by omega))
        obtain ⟨bq, oq, rfl, _, hq⟩ := HL'.out.bo hlt
        obtain ⟨ba, oa, rfl, hba, hca⟩ := HA'.out.2 i hlt
        obtain ⟨bb, ob, rfl, hbb, hcb⟩ := HB'.out.2 i hlt
        obtain ⟨x, hx⟩ : ∃ x, l.getD i false = x := ⟨_, rfl⟩
        rw [hx] at hq
        have HX := Lib.hid hx
        have HQC : Hid (wr.cell? ⟨bq, oq + i * BoE.n, none⟩ = some (.bool x)) := Lib.hid (by show wr.cell? ⟨bq, oq + i * 1, none⟩ = _; rw [Nat.mul_one]; exact hq)
        obtain ⟨ya, hya⟩ : ∃ y, a.getD i zeroB = y := ⟨_, rfl⟩
        obtain ⟨yb, hyb⟩ : ∃ y, b.getD i zeroB = y := ⟨_, rfl⟩
        rw [hya] at hca
        rw [hyb] at hcb
        have HYA := Lib.hid hya
        have HYB := Lib.hid hyb
        have HCA := Lib.hid hca
        have HCB := Lib.hid hcb
        have HLA : Hid (ba < wr.heap.size) := Lib.hid (by have := HSZ.out; have := HNB.out; omega)
        have HLB : Hid (bb < wr.heap.size) := Lib.hid (by have := HSZ.out; have := HNB.out; omega)
        have HAJ : Hid (IntKind.i64.wrap ((i : Int) + 1) = ((i + 1 : Nat) : Int)) := Lib.hid (by have := HN15.out; rw [i64k ⟨by omega, by omega⟩]; omega)
        clear hq hca hcb hx hya hyb hba hbb hlt hi
        go_upto_region 8 with fail
        refine wp_region_lit ?_
        refine wpList_valn rfl (exec_mv rfl (ev rfl)) ?_
        simp only [Act.put, List.setIfInBounds_toArray, List.set_cons_succ, List.set_cons_zero]
        refine wpList_valn rfl (exec_mv rfl (ev rfl)) ?_
        simp only [Act.put, List.setIfInBounds_toArray, List.set_cons_succ, List.set_cons_zero]
        refine wpList_valn (v := .bool true) rfl (exec_lss true rfl (ev rfl) (ev rfl) HT.out) ?_
        simp only [Act.put, List.setIfInBounds_toArray, List.set_cons_succ, List.set_cons_zero]
        refine wpList_nil ?_
        go_upto_region 10 with fail
        refine wp_region_lit ?_
        refine wpList_valn rfl (exec_mv rfl (ev rfl)) ?_
        simp only [Act.put, List.setIfInBounds_toArray, List.set_cons_succ, List.set_cons_zero]
        refine wpList_valn rfl (exec_mv rfl (ev rfl)) ?_
        simp only [Act.put, List.setIfInBounds_toArray, List.set_cons_succ, List.set_cons_zero]
        refine wpList_valn rfl (exec_indexE (E := BoE) rfl (ev rfl) (ev rfl) HI.out) ?_
        simp only [Act.put, List.setIfInBounds_toArray, List.set_cons_succ, List.set_cons_zero]
        refine wpList_valn rfl (exec_ld rfl (ev rfl) (ldBoE HQC.out)) ?_
        simp only [Act.put, List.setIfInBounds_toArray, List.set_cons_succ, List.set_cons_zero]
        refine wpList_nil ?_
        cases x
        · go_upto_region 9 with fail
          refine wp_region_lit ?_
          refine wpList_valn rfl (exec_mv rfl (ev rfl)) ?_
          simp only [Act.put, List.setIfInBounds_toArray, List.set_cons_succ, List.set_cons_zero]
          refine wpList_valn rfl (exec_add rfl (ev rfl) evk HAJ.out) ?_
          simp only [Act.put, List.setIfInBounds_toArray, List.set_cons_succ, List.set_cons_zero]
          refine wpList_valn rfl (exec_as rfl (ev rfl)) ?_
          simp only [Act.put, List.setIfInBounds_toArray, List.set_cons_succ, List.set_cons_zero]
          refine wpList_nil ?_
          go_wp2_with fail
          go_roundw
          case rel => exact ⟨i + 1, by go_num, HI.out, by rw [parN_f HX.out]; exact HC.out, HZ.out, HWR.out⟩
          case measure => have := HI.out; simp [intOf]; omega
        · go_upto_region 11 with fail
          have hS : Below wr.heap.size wr wr.drew := bd (Below.refl _ _)
          refine wp_region_last (fun w' => Below wr.heap.size wr w') 11 (by kernel_rfl) ?_
          change wpAnyZ _ _ _ _ _ _ 12 _ _ wr.drew
          refine last_val 0 rfl (by kernel_rfl) (by kernel_rfl) (by kernel_rfl) (by decide) (by kernel_rfl) rfl (fun w' hw => exec_load rfl (ev rfl) (range_below HC.out.rng HC.out.lt hw)) (fun _ _ _ h => h) hS ?_
          simp only [Act.put, List.setIfInBounds_toArray, List.set_cons_succ, List.set_cons_zero]
          refine last_val 1 rfl (by kernel_rfl) (by kernel_rfl) (by kernel_rfl) (by decide) (by kernel_rfl) rfl (fun w' hw => exec_mv rfl (ev rfl)) (fun _ _ _ h => h) hS ?_
          simp only [Act.put, List.setIfInBounds_toArray, List.set_cons_succ, List.set_cons_zero]
          refine last_val 2 rfl (by kernel_rfl) (by kernel_rfl) (by kernel_rfl) (by decide) (by kernel_rfl) rfl (fun w' hw => exec_mv rfl (ev rfl)) (fun _ _ _ h => h) hS ?_
          simp only [Act.put, List.setIfInBounds_toArray, List.set_cons_succ, List.set_cons_zero]
          refine last_val 3 rfl (by kernel_rfl) (by kernel_rfl) (by kernel_rfl) (by decide) (by kernel_rfl) rfl (fun w' hw => exec_index rfl (ev rfl) (ev rfl) HI.out) (fun _ _ _ h => h) hS ?_
          simp only [Act.put, List.setIfInBounds_toArray, List.set_cons_succ, List.set_cons_zero]
          refine last_val 4 rfl (by kernel_rfl) (by kernel_rfl) (by kernel_rfl) (by decide) (by kernel_rfl) rfl (fun w' hw => exec_load rfl (ev rfl) (range_below HCA.out HLA.out hw)) (fun _ _ _ h => h) hS ?_
          simp only [Act.put, List.setIfInBounds_toArray, List.set_cons_succ, List.set_cons_zero]
          refine last_val 6 rfl (by kernel_rfl) (by kernel_rfl) (by kernel_rfl) (by decide) (by kernel_rfl) rfl (fun w' hw => exec_mv rfl (ev rfl)) (fun _ _ _ h => h) hS ?_
          simp only [Act.put, List.setIfInBounds_toArray, List.set_cons_succ, List.set_cons_zero]
          refine last_val 7 rfl (by kernel_rfl) (by kernel_rfl) (by kernel_rfl) (by decide) (by kernel_rfl) rfl (fun w' hw => exec_mv rfl (ev rfl)) (fun _ _ _ h => h) hS ?_
          simp only [Act.put, List.setIfInBounds_toArray, List.set_cons_succ, List.set_cons_zero]
          refine last_val 8 rfl (by kernel_rfl) (by kernel_rfl) (by kernel_rfl) (by decide) (by kernel_rfl) rfl (fun w' hw => exec_index rfl (ev rfl) (ev rfl) HI.out) (fun _ _ _ h => h) hS ?_
          simp only [Act.put, List.setIfInBounds_toArray, List.set_cons_succ, List.set_cons_zero]
          refine last_val 9 rfl (by kernel_rfl) (by kernel_rfl) (by kernel_rfl) (by decide) (by kernel_rfl) rfl (fun w' hw => exec_load rfl (ev rfl) (range_below HCB.out HLB.out hw)) (fun _ _ _ h => h) hS ?_
          simp only [Act.put, List.setIfInBounds_toArray, List.set_cons_succ, List.set_cons_zero]
          refine last_call 5 rfl (by kernel_rfl) rfl (exec_cl Try.call26 rfl (evc (ev rfl) (evc (ev rfl) evn))) ?_
          refine (refXor_any _ _ _).mono ?_
          rintro e w5 ⟨rfl, hb5⟩
          have hS5 : Below wr.heap.size wr w5 := hS.trans (hb5.mono hS.size)
          refine ⟨_, rfl, fun _ => hS5, ?_⟩
          simp only [Act.put, List.setIfInBounds_toArray, List.set_cons_succ, List.set_cons_zero]
          refine last_call 10 rfl (by kernel_rfl) rfl (exec_cl Try.call26 rfl (evc (ev rfl) (evc (ev rfl) evn))) ?_
          refine (refXor_any _ _ _).mono ?_
          rintro e w6 ⟨rfl, hb6⟩
          have hS6 : Below wr.heap.size wr w6 := hS5.trans (hb6.mono hS5.size)
          have HC6 := Lib.hid (HC.out.below hS6)
          refine ⟨_, rfl, fun _ => hS6, ?_⟩
          simp only [Act.put, List.setIfInBounds_toArray, List.set_cons_succ, List.set_cons_zero]
          refine last_nul 11 rfl (by kernel_rfl) rfl (exec_store rfl (ev rfl) (ev rfl) HC6.out.there) (fun e => absurd rfl e) ?_
          simp only [Act.put]
          refine wpAnyZ_done (by kernel_rfl) ?_ _
          have HZ6 := Lib.hid (HZ.out.below hS6)
          have HW6 := Lib.hid (HWR.out.trans (hS6.mono HSZ.out))
          clear hS hS5 hS6
          go_upto_region 9 with fail
          refine wp_region_lit ?_
          refine wpList_valn rfl (exec_mv rfl (ev rfl)) ?_
          simp only [Act.put, List.setIfInBounds_toArray, List.set_cons_succ, List.set_cons_zero]
          refine wpList_valn rfl (exec_add rfl (ev rfl) evk HAJ.out) ?_
          simp only [Act.put, List.setIfInBounds_toArray, List.set_cons_succ, List.set_cons_zero]
          refine wpList_valn rfl (exec_as rfl (ev rfl)) ?_
          simp only [Act.put, List.setIfInBounds_toArray, List.set_cons_succ, List.set_cons_zero]
          refine wpList_nil ?_
          go_wp2_with fail
          go_roundw
          case rel => exact ⟨i + 1, by go_num, HI.out, by rw [parN_t HX.out, HYA.out, HYB.out, ← bx_assoc]; exact HC6.out.put _, HZ6.out.off (Nat.succ_ne_self B), below_put HW6.out (Nat.le_refl B) _⟩
          case measure => have := HI.out; simp [intOf]; omega
      have hin : i = n := by omega
      subst hin
      have HT : Hid (decide ((i : Int) < (i : Int)) = false) := Lib.hid (decide_eq_false (by omega))
      clear hlt hi
      go_upto_region 8 with fail
      refine wp_region_lit ?_
      refine wpList_valn rfl (exec_mv rfl (ev rfl)) ?_
      simp only [Act.put, List.setIfInBounds_toArray, List.set_cons_succ, List.set_cons_zero]
      refine wpList_valn rfl (exec_mv rfl (ev rfl)) ?_
      simp only [Act.put, List.setIfInBounds_toArray, List.set_cons_succ, List.set_cons_zero]
      refine wpList_valn (v := .bool false) rfl (exec_lss false rfl (ev rfl) (ev rfl) HT.out) ?_
      simp only [Act.put, List.setIfInBounds_toArray, List.set_cons_succ, List.set_cons_zero]
      refine wpList_nil ?_
      go_upto_region 12 with fail
      refine wp_region_lit ?_
      refine wpList_valn rfl (exec_load rfl (ev rfl) HC.out.rng) ?_
      simp only [Act.put, List.setIfInBounds_toArray, List.set_cons_succ, List.set_cons_zero]
      refine wpList_nuln rfl (exec_store rfl (ev rfl) (ev rfl) HZ.out.there) ?_
      simp only [Act.put, List.setIfInBounds_toArray, List.set_cons_succ, List.set_cons_zero]
      refine wpList_valn rfl (exec_as rfl evk) ?_
      simp only [Act.put, List.setIfInBounds_toArray, List.set_cons_succ, List.set_cons_zero]
      refine wpList_nil ?_
      go_wp2_with fail
      (try simp only [Exit.inBlock, Exit.then])
      exact bodyPost_ret (res_blk2 (c := parN l a b p i) rfl _ _ (B + 1) rfl (World.rangeAt_setCells_same _ _ _ _ (by rw [cel_length]; exact HZ.out.there))) rfl ⟨by rw [HV.out, HE.out]; rfl, by first | exact below_put HWR.out (Nat.le_succ B) _ | (rw [HBE.out]; exact below_put HWR.out (Nat.le_succ B) _)⟩
  have T5 : Hid ((z == 4) = false) := Lib.hid (beq_eq_false_iff_ne.2 z4)
  go_upto_region 6 with fail
  refine wp_region_lit ?_
  refine wpList_valn rfl (exec_mv rfl (ev rfl)) ?_
  simp only [Act.put, List.setIfInBounds_toArray, List.set_cons_succ, List.set_cons_zero]
  refine wpList_valn (v := .bool false) rfl (exec_eqU8 false rfl (ev rfl) evk T5.out) ?_
  simp only [Act.put, List.setIfInBounds_toArray, List.set_cons_succ, List.set_cons_zero]
  refine wpList_nil ?_
  by_cases z3 : ¬ z = 3
  · have T6 : Hid ((z != 3) = true) := Lib.hid (by simp only [bne_iff_ne, ne_eq]; exact z3)
    have HV : Hid (parB z l a b p = zeroB) := Lib.hid ((if_pos HQ.out).trans ((if_neg z2).trans ((if_neg z3).trans (if_neg z4))))
    have HE : Hid (parE z l a b = 2) := Lib.hid ((if_pos HQ.out).trans (if_neg (by omega)))
    clear z2 z3 z4
    go_upto_region 13 with fail
    refine wp_region_lit ?_
    refine wpList_valn rfl (exec_mv rfl (ev rfl)) ?_
    simp only [Act.put, List.setIfInBounds_toArray, List.set_cons_succ, List.set_cons_zero]
    refine wpList_valn (v := .bool true) rfl (exec_neInt true rfl (ev rfl) evk T6.out) ?_
    simp only [Act.put, List.setIfInBounds_toArray, List.set_cons_succ, List.set_cons_zero]
    refine wpList_nil ?_
    go_upto_region 14 with fail
    refine wp_region_lit ?_
    refine wpList_valn rfl (exec_build (c := zeroB) (parts := []) rfl rfl) ?_
    simp only [Act.put, List.setIfInBounds_toArray, List.set_cons_succ, List.set_cons_zero]
    refine wpList_nuln rfl (exec_store rfl (ev rfl) (ev rfl) HC1.out.there) ?_
    simp only [Act.put, List.setIfInBounds_toArray, List.set_cons_succ, List.set_cons_zero]
    refine wpList_valn rfl (exec_as rfl evk) ?_
    simp only [Act.put, List.setIfInBounds_toArray, List.set_cons_succ, List.set_cons_zero]
    refine wpList_nil ?_
    go_wp2_with fail
    (try simp only [Exit.inBlock, Exit.then])
    exact bodyPost_ret (res_blk2 (c := zeroB) rfl _ _ (B + 1) rfl (World.rangeAt_setCells_same _ _ _ _ (by rw [cel_length]; exact HC1.out.there))) rfl ⟨by rw [HV.out, HE.out]; rfl, by first | exact below_put HW.out (Nat.le_succ B) _ | (rw [HBE.out]; exact below_put HW.out (Nat.le_succ B) _)⟩
  have T6 : Hid ((z != 3) = false) := Lib.hid (by simp only [bne_eq_false_iff_eq]; omega)
  have HV : Hid (parB z l a b p = fold (mixN l a b n)) := Lib.hid ((if_pos HQ.out).trans ((if_neg z2).trans ((if_pos (by omega)).trans (by rw [HLL.out]))))
  have HE : Hid (parE z l a b = 0) := Lib.hid ((if_pos HQ.out).trans (if_pos (by omega)))
  clear z2 z3 z4
  go_upto_region 13 with fail
  refine wp_region_lit ?_
  refine wpList_valn rfl (exec_mv rfl (ev rfl)) ?_
  simp only [Act.put, List.setIfInBounds_toArray, List.set_cons_succ, List.set_cons_zero]
  refine wpList_valn (v := .bool false) rfl (exec_neInt false rfl (ev rfl) evk T6.out) ?_
  simp only [Act.put, List.setIfInBounds_toArray, List.set_cons_succ, List.set_cons_zero]
  refine wpList_nil ?_
  obtain ⟨q, hq⟩ : ∃ q, w2.heap.size = q := ⟨_, rfl⟩
  have hcq := CelB.new w2 zeroB
  rw [hq] at hcq
  have hb3 : Below w2.heap.size w2 (w2.alloc (.cells (cel zeroB).toArray 34)) := (Below.refl _ _).alloc (Nat.le_refl _) _
  have HQE := Lib.hid hq
  have HQB : Hid (B + 1 < q) := Lib.hid (by have := HC1.out.lt; omega)
  have HCQ := Lib.hid hcq
  have HC3 := Lib.hid (HC1.out.below hb3)
  have HW3 := Lib.hid (HW.out.trans (hb3.mono (by have := HQB.out; omega)))
  clear hq hcq hb3
  go_upto_region 15 with fail
  refine wp_region_lit ?_
  refine wpList_valn rfl (exec_alloc rfl) ?_
  simp only [Act.put, List.setIfInBounds_toArray, List.set_cons_succ, List.set_cons_zero]
  refine wpList_nil ?_
  rw [HQE.out]
  generalize w2.alloc (.cells (cel zeroB).toArray 34) = w3 at *
  go_upto_region 16 with fail
  refine wp_region_lit ?_
  refine wpList_valn rfl (exec_as rfl evk) ?_
  simp only [Act.put, List.setIfInBounds_toArray, List.set_cons_succ, List.set_cons_zero]
  refine wpList_nil ?_
  go_wp2_with fail
  go_loopw [15] (fun v wr => ∃ i : Nat, v = .int .i64 i ∧ i ≤ n ∧ CelB wr q (fold (mixN l a b i)) ∧ CelB wr (B + 1) zeroB ∧ Below B w wr) (fun v _ => n - (intOf v).toNat)
  case atStart => exact ⟨0, by go_num, by omega, HCQ.out, HC3.out, HW3.out⟩
  case round =>
    obtain ⟨i, rfl, hi, hc, hz, hb⟩ := hrel
    have HC := Lib.hid hc
    have HZ := Lib.hid hz
    have HWR := Lib.hid hb
    have HSZ : Hid (B ≤ wr.heap.size) := Lib.hid (by have := hb.size; rw [HBE.out] at this; exact this)
    have HL' := Lib.hid (HL0.out.below (hb.mono HNB.out))
    have HA' := Lib.hid (HA0.out.below (hb.mono HNB.out))
    have HB' := Lib.hid (HB0.out.below (hb.mono HNB.out))
    clear hc hz hb
    by_cases hlt : i < n
    · have HI := Lib.hid hlt
      have HT : Hid (decide ((i : Int) < (n : Int)) = true) := Lib.hid (decide_eq_true (by omega))
      obtain ⟨bq, oq, rfl, _, hq⟩ := HL'.out.bo hlt
      obtain ⟨ba, oa, rfl, hba, hca⟩ := HA'.out.2 i hlt
      obtain ⟨bb, ob, rfl, hbb, hcb⟩ := HB'.out.2 i hlt
      obtain ⟨x, hx⟩ : ∃ x, l.getD i false = x := ⟨_, rfl⟩
      rw [hx] at hq
      have HX := Lib.hid hx
      have HQC : Hid (wr.cell? ⟨bq, oq + i * BoE.n, none⟩ = some (.bool x)) := Lib.hid (by show wr.cell? ⟨bq, oq + i * 1, none⟩ = _; rw [Nat.mul_one]; exact hq)
      obtain ⟨ya, hya⟩ : ∃ y, a.getD i zeroB = y := ⟨_, rfl⟩
      obtain ⟨yb, hyb⟩ : ∃ y, b.getD i zeroB = y := ⟨_, rfl⟩
      rw [hya] at hca
      rw [hyb] at hcb
      have HYA := Lib.hid hya
      have HYB := Lib.hid hyb
      have HCA := Lib.hid hca
      have HCB := Lib.hid hcb
      have HLA : Hid (ba < wr.heap.size) := Lib.hid (by have := HSZ.out; have := HNB.out; omega)
      have HLB : Hid (bb < wr.heap.size) := Lib.hid (by have := HSZ.out; have := HNB.out; omega)
      have HAJ : Hid (IntKind.i64.wrap ((i : Int) + 1) = ((i + 1 : Nat) : Int)) := Lib.hid (by have := HN15.out; rw [i64k ⟨by omega, by omega⟩]; omega)
      clear hq hca hcb hx hya hyb hba hbb hlt hi
      go_upto_region 17 with fail
      refine wp_region_lit ?_
      refine wpList_valn rfl (exec_mv rfl (ev rfl)) ?_
      simp only [Act.put, List.setIfInBounds_toArray, List.set_cons_succ, List.set_cons_zero]
      refine wpList_valn rfl (exec_mv rfl (ev rfl)) ?_
      simp only [Act.put, List.setIfInBounds_toArray, List.set_cons_succ, List.set_cons_zero]
      refine wpList_valn (v := .bool true) rfl (exec_lss true rfl (ev rfl) (ev rfl) HT.out) ?_
      simp only [Act.put, List.setIfInBounds_toArray, List.set_cons_succ, List.set_cons_zero]
      refine wpList_nil ?_
      go_upto_region 19 with fail
      refine wp_region_lit ?_
      refine wpList_valn rfl (exec_mv rfl (ev rfl)) ?_
      simp only [Act.put, List.setIfInBounds_toArray, List.set_cons_succ, List.set_cons_zero]
      refine wpList_valn rfl (exec_mv rfl (ev rfl)) ?_
      simp only [Act.put, List.setIfInBounds_toArray, List.set_cons_succ, List.set_cons_zero]
      refine wpList_valn rfl (exec_indexE (E := BoE) rfl (ev rfl) (ev rfl) HI.out) ?_
      simp only [Act.put, List.setIfInBounds_toArray, List.set_cons_succ, List.set_cons_zero]
      refine wpList_valn rfl (exec_ld rfl (ev rfl) (ldBoE HQC.out)) ?_
      simp only [Act.put, List.setIfInBounds_toArray, List.set_cons_succ, List.set_cons_zero]
      refine wpList_nil ?_
      cases x
      · go_upto_region 21 with fail
        refine wp_region_still_tail 5 (by kernel_rfl) (by kernel_rfl) ?_
        simp only [List.take_succ_cons, List.take_zero, List.drop_succ_cons, List.drop_zero]
        refine st_val rfl (exec_load rfl (ev rfl) HC.out.rng) ?_
        simp only [Act.put, List.setIfInBounds_toArray, List.set_cons_succ, List.set_cons_zero]
        refine st_val rfl (exec_mv rfl (ev rfl)) ?_
        simp only [Act.put, List.setIfInBounds_toArray, List.set_cons_succ, List.set_cons_zero]
        refine st_val rfl (exec_mv rfl (ev rfl)) ?_
        simp only [Act.put, List.setIfInBounds_toArray, List.set_cons_succ, List.set_cons_zero]
        refine st_val rfl (exec_index rfl (ev rfl) (ev rfl) HI.out) ?_
        simp only [Act.put, List.setIfInBounds_toArray, List.set_cons_succ, List.set_cons_zero]
        refine st_val rfl (exec_load rfl (ev rfl) HCA.out) ?_
        simp only [Act.put, List.setIfInBounds_toArray, List.set_cons_succ, List.set_cons_zero]
        refine wpStill_nil ?_
        change wpList _ _ _ _ _ (World.drew _)
        refine wpList_call rfl (exec_cl Try.call26 rfl (evc (ev rfl) (evc (ev rfl) evn))) ?_
        refine (refXor_any _ _ _).mono ?_
        rintro e w5 ⟨rfl, hb5⟩
        have hS5 : Below wr.heap.size wr w5 := (bd (Below.refl _ _)).trans hb5
        have HC5 := Lib.hid (HC.out.below hS5)
        have HZ5 := Lib.hid (HZ.out.below hS5)
        have HW5 := Lib.hid (HWR.out.trans (hS5.mono HSZ.out))
        clear hb5 hS5
        refine ⟨_, rfl, ?_⟩
        simp only [Act.put, List.setIfInBounds_toArray, List.set_cons_succ, List.set_cons_zero]
        refine wpList_nuln rfl (exec_store rfl (ev rfl) (ev rfl) HC5.out.there) ?_
        simp only [Act.put, List.setIfInBounds_toArray, List.set_cons_succ, List.set_cons_zero]
        refine wpList_nil ?_
        go_upto_region 18 with fail
        refine wp_region_lit ?_
        refine wpList_valn rfl (exec_mv rfl (ev rfl)) ?_
        simp only [Act.put, List.setIfInBounds_toArray, List.set_cons_succ, List.set_cons_zero]
        refine wpList_valn rfl (exec_add rfl (ev rfl) evk HAJ.out) ?_
        simp only [Act.put, List.setIfInBounds_toArray, List.set_cons_succ, List.set_cons_zero]
        refine wpList_valn rfl (exec_as rfl (ev rfl)) ?_
        simp only [Act.put, List.setIfInBounds_toArray, List.set_cons_succ, List.set_cons_zero]
        refine wpList_nil ?_
        go_wp2_with fail
        go_roundw
        case rel => exact ⟨i + 1, by go_num, HI.out, by rw [fold_mix_f HX.out, HYA.out]; exact HC5.out.put _, HZ5.out.off (Nat.ne_of_lt HQB.out), below_put HW5.out (by have := HQB.out; omega) _⟩
        case measure => have := HI.out; simp [intOf]; omega
      · go_upto_region 20 with fail
        refine wp_region_still_tail 5 (by kernel_rfl) (by kernel_rfl) ?_
        simp only [List.take_succ_cons, List.take_zero, List.drop_succ_cons, List.drop_zero]
        refine st_val rfl (exec_load rfl (ev rfl) HC.out.rng) ?_
        simp only [Act.put, List.setIfInBounds_toArray, List.set_cons_succ, List.set_cons_zero]
        refine st_val rfl (exec_mv rfl (ev rfl)) ?_
        simp only [Act.put, List.setIfInBounds_toArray, List.set_cons_succ, List.set_cons_zero]
        refine st_val rfl (exec_mv rfl (ev rfl)) ?_
        simp only [Act.put, List.setIfInBounds_toArray, List.set_cons_succ, List.set_cons_zero]
        refine st_val rfl (exec_index rfl (ev rfl) (ev rfl) HI.out) ?_
        simp only [Act.put, List.setIfInBounds_toArray, List.set_cons_succ, List.set_cons_zero]
        refine st_val rfl (exec_load rfl (ev rfl) HCB.out) ?_
        simp only [Act.put, List.setIfInBounds_toArray, List.set_cons_succ, List.set_cons_zero]
        refine wpStill_nil ?_
        change wpList _ _ _ _ _ (World.drew _)
        refine wpList_call rfl (exec_cl Try.call26 rfl (evc (ev rfl) (evc (ev rfl) evn))) ?_
        refine (refXor_any _ _ _).mono ?_
        rintro e w5 ⟨rfl, hb5⟩
        have hS5 : Below wr.heap.size wr w5 := (bd (Below.refl _ _)).trans hb5
        have HC5 := Lib.hid (HC.out.below hS5)
        have HZ5 := Lib.hid (HZ.out.below hS5)
        have HW5 := Lib.hid (HWR.out.trans (hS5.mono HSZ.out))
        clear hb5 hS5
        refine ⟨_, rfl, ?_⟩
        simp only [Act.put, List.setIfInBounds_toArray, List.set_cons_succ, List.set_cons_zero]
        refine wpList_nuln rfl (exec_store rfl (ev rfl) (ev rfl) HC5.out.there) ?_
        simp only [Act.put, List.setIfInBounds_toArray, List.set_cons_succ, List.set_cons_zero]
        refine wpList_nil ?_
        go_upto_region 18 with fail
        refine wp_region_lit ?_
        refine wpList_valn rfl (exec_mv rfl (ev rfl)) ?_
        simp only [Act.put, List.setIfInBounds_toArray, List.set_cons_succ, List.set_cons_zero]
        refine wpList_valn rfl (exec_add rfl (ev rfl) evk HAJ.out) ?_
        simp only [Act.put, List.setIfInBounds_toArray, List.set_cons_succ, List.set_cons_zero]
        refine wpList_valn rfl (exec_as rfl (ev rfl)) ?_
        simp only [Act.put, List.setIfInBounds_toArray, List.set_cons_succ, List.set_cons_zero]
        refine wpList_nil ?_
        go_wp2_with fail
        go_roundw
        case rel => exact ⟨i + 1, by go_num, HI.out, by rw [fold_mix_t HX.out, HYB.out]; exact HC5.out.put _, HZ5.out.off (Nat.ne_of_lt HQB.out), below_put HW5.out (by have := HQB.out; omega) _⟩
        case measure => have := HI.out; simp [intOf]; omega
    have hin : i = n := by omega
    subst hin
    have HT : Hid (decide ((i : Int) < (i : Int)) = false) := Lib.hid (decide_eq_false (by omega))
    clear hlt hi
    go_upto_region 17 with fail
    refine wp_region_lit ?_
    refine wpList_valn rfl (exec_mv rfl (ev rfl)) ?_
    simp only [Act.put, List.setIfInBounds_toArray, List.set_cons_succ, List.set_cons_zero]
    refine wpList_valn rfl (exec_mv rfl (ev rfl)) ?_
    simp only [Act.put, List.setIfInBounds_toArray, List.set_cons_succ, List.set_cons_zero]
    refine wpList_valn (v := .bool false) rfl (exec_lss false rfl (ev rfl) (ev rfl) HT.out) ?_
    simp only [Act.put, List.setIfInBounds_toArray, List.set_cons_succ, List.set_cons_zero]
    refine wpList_nil ?_
    go_upto_region 22 with fail
    refine wp_region_lit ?_
    refine wpList_valn rfl (exec_load rfl (ev rfl) HC.out.rng) ?_
    simp only [Act.put, List.setIfInBounds_toArray, List.set_cons_succ, List.set_cons_zero]
    refine wpList_nuln rfl (exec_store rfl (ev rfl) (ev rfl) HZ.out.there) ?_
    simp only [Act.put, List.setIfInBounds_toArray, List.set_cons_succ, List.set_cons_zero]
    refine wpList_valn rfl (exec_as rfl evk) ?_
    simp only [Act.put, List.setIfInBounds_toArray, List.set_cons_succ, List.set_cons_zero]
    refine wpList_nil ?_
    go_wp2_with fail
    (try simp only [Exit.inBlock, Exit.then])
    exact bodyPost_ret (res_blk2 (c := fold (mixN l a b i)) rfl _ _ (B + 1) rfl (World.rangeAt_setCells_same _ _ _ _ (by rw [cel_length]; exact HZ.out.there))) rfl ⟨by rw [HV.out, HE.out]; rfl, by first | exact below_put HWR.out (Nat.le_succ B) _ | (rw [HBE.out]; exact below_put HWR.out (Nat.le_succ B) _)⟩
end Go.Proofs.Ytplanbjjfaihbaa
