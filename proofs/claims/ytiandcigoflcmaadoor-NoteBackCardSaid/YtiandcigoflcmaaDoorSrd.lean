/-
  The document's seal: Get.
-/
import Derived.Test.YtiandcigoflcmaaDoorSpb
import Derived.Test.YtiandcigoflcmaaDoorCut
import Derived.Test.YtiandcigoflcmaaDoorApp
namespace Go.Proofs.YtiandcigoflcmaaDoor
open Go.RowKit
set_option linter.unusedVariables false
set_option maxRecDepth 100000

theorem Made.some {w : World} {B : Nat} {v : Value} {l : List UInt8} (h : Made w B v l) (h0 : 0 < l.length) : ∃ g c, v = .slice (some ⟨g, 0, none⟩) l.length c ∧ B ≤ g ∧ l.length ≤ c ∧ c ≤ maxLen := by
  rcases h.2 with ⟨_, h1⟩ | ⟨g, cap, cur, rfl, hB, _, h1, h2, _⟩
  · omega
  · exact ⟨g, cap, rfl, hB, h1, h2⟩
section
variable {ρ : Operand → Value} {o : Oper} {x y z : Operand} {w : World} {b off n c t u : Nat}
theorem head52 (h : 64 ≤ c) : (Instr.sliceAt 35 (.slice (some ⟨b, off, none⟩) n c) none (some (.int .i64 52)) none).run Tryd.prog w = .ok (.slice (some ⟨b, off, none⟩) 52 c) w := run_headU (t := 52) (by omega)
theorem mid852 (h : 64 ≤ c) : (Instr.sliceAt 35 (.slice (some ⟨b, 0, none⟩) n c) (some (.int .i64 8)) (some (.int .i64 52)) none).run Tryd.prog w = .ok (.slice (some ⟨b, 8, none⟩) 44 (c - 8)) w := by
  have := run_midU (b := b) (off := 0) (n := n) (w := w) (u := 8) (t := 52) (c := c) (by omega) (by omega) (by omega)
  simpa using this
theorem exec_headU (ho : o.op = .slice 35 x none (some (.const (.int .i64 52))) none) (hx : ρ x = .slice (some ⟨b, off, none⟩) n c) (hy : ρ (.const (.int .i64 52)) = .int .i64 52) (h : 64 ≤ c) : (execOp ρ o).run Tryd.prog w = .ok (.value (.slice (some ⟨b, off, none⟩) 52 c)) w := by
  unfold execOp
  simp only [ho, hx, hy, Option.map_some, Option.map_none, Sem.run_bind, head52 h, Result.andThen_ok, Sem.run_pure]
theorem exec_midU (ho : o.op = .slice 35 x (some (.const (.int .i64 8))) (some (.const (.int .i64 52))) none) (hx : ρ x = .slice (some ⟨b, 0, none⟩) n c) (hy : ρ (.const (.int .i64 52)) = .int .i64 52) (hz : ρ (.const (.int .i64 8)) = .int .i64 8) (h : 64 ≤ c) : (execOp ρ o).run Tryd.prog w = .ok (.value (.slice (some ⟨b, 8, none⟩) 44 (c - 8))) w := by
  unfold execOp
  simp only [ho, hx, hy, hz, Option.map_some, Option.map_none, Sem.run_bind, mid852 h, Result.andThen_ok, Sem.run_pure]
theorem run_wholeB : (Instr.sliceAt 27 (.pointer (some ⟨b, 0, none⟩)) none none none).run Tryd.prog w = .ok (.slice (some ⟨b, 0, none⟩) 64 64) w := by
  simp [Instr.sliceAt, Instr.sliceBounds, Instr.sureAddr, run_underlying undB, Tryd.sizeOf5, Addr.add_mid]
theorem exec_wholeB (ho : o.op = .slice 27 x none none none) (hx : ρ x = .pointer (some ⟨b, 0, none⟩)) : (execOp ρ o).run Tryd.prog w = .ok (.value (.slice (some ⟨b, 0, none⟩) 64 64)) w := by
  unfold execOp
  simp only [ho, hx, Option.map_none, Sem.run_bind, run_wholeB, Result.andThen_ok, Sem.run_pure]
end
/-- A piece of what reads as a list. -/
theorem Rd.piece {w : World} {N g n p k : Nat} {l : List UInt8} (h : Rd w N (some ⟨g, 0, none⟩) n l) (hk : p + k ≤ n) : Rd w N (some ⟨g, p, none⟩) k (piece l p k) :=
  ⟨length_piece (by have := h.1; omega), fun j hj => by
    obtain ⟨b, off, e, hb, hc⟩ := h.2 (p + j) (by omega)
    injection e with e
    injection e with e1 e2
    subst e1 e2
    refine ⟨g, p, rfl, hb, ?_⟩
    rw [bt_piece hj, ← hc, Nat.zero_add]⟩
/-! Get. -/
set_option maxHeartbeats 4000000 in
theorem rget_zero (b : Blk) (B : Nat) (w : World) (HB : Hid (B = w.heap.size)) (h0 : numO b.toList = 0) :
    Calls Tryd.prog 28 #[blk b] w fun e w' => ∃ v, e = .returned (.tuple #[.int .u64 (getN b.toList : Nat), v, .int .i64 (getE b.toList : Nat)]) ∧ Made w' B v (getB b.toList) ∧ Below B w w' := by
  have hA := RowL.blk w b 27
  have hbA := (Below.refl w.heap.size w).alloc (Nat.le_refl _) (.cells (cel b).toArray 27)
  have hRA := hA.rd (p := 0) (k := 64) (by simp)
  rw [piece_all (toList_len b)] at hRA
  have HRA := Lib.hid hRA
  have HBA := Lib.hid hbA
  have HL := Lib.hid (toList_len b)
  have hE := getE_form (.inl h0)
  have HE := Lib.hid hE
  have HN := Lib.hid (getN_no (l := b.toList) (by omega))
  have HBB := Lib.hid (getB_no (l := b.toList) (by omega))
  have HX : Hid (val 8 (piece b.toList 0 8) = 0) := Lib.hid h0
  obtain ⟨y, hy⟩ : ∃ y, agO b.toList = y := ⟨_, rfl⟩
  have HY : Hid (val 8 (piece b.toList 56 8) = y) := Lib.hid hy
  clear hE h0 hy
  clear hA hbA hRA
  go_enter Tryd.func28, Tryd.ntmps28
  go_wp2_with (first | (refine wpList_val rfl (exec_box rfl rfl) ?_) | (refine wpList_val rfl (exec_wholeB rfl rfl) ?_) | fail)
  refine (copy_any _ 64 64 _ _ b.toList _ (Lib.hid rfl) HRA.out (Nat.le_refl _) (by omega)).mono ?_
  rintro e w1 ⟨v1, rfl, hm1, hb1⟩
  obtain ⟨q, c, rfl, hq, hc1, hc2⟩ := hm1.some (by rw [HL.out]; omega)
  rw [HL.out] at hm1 hc1 ⊢
  have hrd := hm1.rd
  have HBL := Lib.hid (HBA.out.trans (hb1.mono (by simp only [World.size_alloc]; omega)))
  have HR := Lib.hid hrd
  have HC2 := Lib.hid hc2
  clear hb1 hrd hm1 HBA HRA hq hc2
  generalize hrr : w.heap.size = r at *
  have HSZ : Hid (r ≤ w1.heap.size) := Lib.hid (Nat.le_trans (Nat.le_of_eq hrr.symm) HBL.out.size)
  clear hrr
  go_wp2_with fail
  refine (rget_ok _ 64 c _ b.toList 0 8 _ HR.out (by unfold maxLen; omega) (by omega) (by omega) (by omega)).mono ?_
  rintro e w2 ⟨rfl, rfl⟩
  rw [HX.out]
  go_wp2_with fail
  refine (rget_ok _ 64 c _ b.toList 56 8 _ HR.out (by unfold maxLen; omega) (by omega) (by omega) (by omega)).mono ?_
  rintro e w2 ⟨rfl, rfl⟩
  rw [HY.out]
  go_wp2_with fail
  refine bodyPost_ret (v := .tuple #[.int .u64 0, .slice none 0 0, .int .i64 5]) (by simp [results, Tryd.results28, go_sem]) rfl ⟨_, by rw [HE.out, HN.out]; rfl, by rw [HBB.out]; exact World.ownsRow_nil _ _ _ _, by rw [HB.out]; exact HBL.out⟩
set_option maxHeartbeats 4000000 in
theorem rget_unlike (b : Blk) (B : Nat) (w : World) (HB : Hid (B = w.heap.size)) (h0 : numO b.toList ≠ 0) (h1 : numO b.toList ≠ agO b.toList) :
    Calls Tryd.prog 28 #[blk b] w fun e w' => ∃ v, e = .returned (.tuple #[.int .u64 (getN b.toList : Nat), v, .int .i64 (getE b.toList : Nat)]) ∧ Made w' B v (getB b.toList) ∧ Below B w w' := by
  have hA := RowL.blk w b 27
  have hbA := (Below.refl w.heap.size w).alloc (Nat.le_refl _) (.cells (cel b).toArray 27)
  have hRA := hA.rd (p := 0) (k := 64) (by simp)
  rw [piece_all (toList_len b)] at hRA
  have HRA := Lib.hid hRA
  have HBA := Lib.hid hbA
  have HL := Lib.hid (toList_len b)
  have hE := getE_form (.inr h1)
  have HE := Lib.hid hE
  have HN := Lib.hid (getN_no (l := b.toList) (by omega))
  have HBB := Lib.hid (getB_no (l := b.toList) (by omega))
  obtain ⟨x, hx⟩ : ∃ x, numO b.toList = x := ⟨_, rfl⟩
  have HX : Hid (val 8 (piece b.toList 0 8) = x) := Lib.hid hx
  obtain ⟨y, hy⟩ : ∃ y, agO b.toList = y := ⟨_, rfl⟩
  have HY : Hid (val 8 (piece b.toList 56 8) = y) := Lib.hid hy
  rw [hx] at h0 h1
  rw [hy] at h1
  have hz : ((x : Int) == 0) = false := by simp; omega
  have hn : ((x : Int) != (y : Int)) = true := by simp; omega
  clear hE h0 h1 hx hy
  clear hA hbA hRA
  go_enter Tryd.func28, Tryd.ntmps28
  go_wp2_with (first | (refine wpList_val rfl (exec_box rfl rfl) ?_) | (refine wpList_val rfl (exec_wholeB rfl rfl) ?_) | fail)
  refine (copy_any _ 64 64 _ _ b.toList _ (Lib.hid rfl) HRA.out (Nat.le_refl _) (by omega)).mono ?_
  rintro e w1 ⟨v1, rfl, hm1, hb1⟩
  obtain ⟨q, c, rfl, hq, hc1, hc2⟩ := hm1.some (by rw [HL.out]; omega)
  rw [HL.out] at hm1 hc1 ⊢
  have hrd := hm1.rd
  have HBL := Lib.hid (HBA.out.trans (hb1.mono (by simp only [World.size_alloc]; omega)))
  have HR := Lib.hid hrd
  have HC2 := Lib.hid hc2
  clear hb1 hrd hm1 HBA HRA hq hc2
  generalize hrr : w.heap.size = r at *
  have HSZ : Hid (r ≤ w1.heap.size) := Lib.hid (Nat.le_trans (Nat.le_of_eq hrr.symm) HBL.out.size)
  clear hrr
  go_wp2_with fail
  refine (rget_ok _ 64 c _ b.toList 0 8 _ HR.out (by unfold maxLen; omega) (by omega) (by omega) (by omega)).mono ?_
  rintro e w2 ⟨rfl, rfl⟩
  rw [HX.out]
  go_wp2_with fail
  refine (rget_ok _ 64 c _ b.toList 56 8 _ HR.out (by unfold maxLen; omega) (by omega) (by omega) (by omega)).mono ?_
  rintro e w2 ⟨rfl, rfl⟩
  rw [HY.out]
  go_wp2_with fail
  refine bodyPost_ret (v := .tuple #[.int .u64 0, .slice none 0 0, .int .i64 5]) (by simp [results, Tryd.results28, go_sem]) rfl ⟨_, by rw [HE.out, HN.out]; rfl, by rw [HBB.out]; exact World.ownsRow_nil _ _ _ _, by rw [HB.out]; exact HBL.out⟩
set_option maxHeartbeats 4000000 in
theorem rget_sum (b : Blk) (B : Nat) (w : World) (HB : Hid (B = w.heap.size)) (h0 : numO b.toList ≠ 0) (h1 : numO b.toList = agO b.toList) (h2 : sumO b.toList ≠ crcO b.toList) :
    Calls Tryd.prog 28 #[blk b] w fun e w' => ∃ v, e = .returned (.tuple #[.int .u64 (getN b.toList : Nat), v, .int .i64 (getE b.toList : Nat)]) ∧ Made w' B v (getB b.toList) ∧ Below B w w' := by
  have hA := RowL.blk w b 27
  have hbA := (Below.refl w.heap.size w).alloc (Nat.le_refl _) (.cells (cel b).toArray 27)
  have hRA := hA.rd (p := 0) (k := 64) (by simp)
  rw [piece_all (toList_len b)] at hRA
  have HRA := Lib.hid hRA
  have HBA := Lib.hid hbA
  have HL := Lib.hid (toList_len b)
  have hE := getE_sum h0 h1 h2
  have HE := Lib.hid hE
  have HN := Lib.hid (getN_no (l := b.toList) (by omega))
  have HBB := Lib.hid (getB_no (l := b.toList) (by omega))
  obtain ⟨x, hx⟩ : ∃ x, numO b.toList = x := ⟨_, rfl⟩
  have HX : Hid (val 8 (piece b.toList 0 8) = x) := Lib.hid hx
  have HY : Hid (val 8 (piece b.toList 56 8) = x) := Lib.hid (by rw [← hx]; exact h1.symm)
  rw [hx] at h0
  obtain ⟨s, hs⟩ : ∃ s, sumO b.toList = s := ⟨_, rfl⟩
  obtain ⟨k, hk⟩ : ∃ k, crcO b.toList = k := ⟨_, rfl⟩
  have HSU : Hid (val 8 (piece b.toList 52 4) = s) := Lib.hid hs
  have HCR : Hid (more 0 (piece b.toList 0 52) = k) := Lib.hid hk
  have hsl := sumO_lt (toList_len b)
  have hkl := crcO_lt b.toList
  rw [hs] at hsl h2
  rw [hk] at hkl h2
  have hz : ((x : Int) == 0) = false := by simp; omega
  have hn : ((x : Int) != (x : Int)) = false := by simp
  have hc : ((k : Int) != (s : Int)) = true := by simp; omega
  clear hE h0 h1 hx h2 hs hk
  clear hA hbA hRA
  go_enter Tryd.func28, Tryd.ntmps28
  go_wp2_with (first | (refine wpList_val rfl (exec_box rfl rfl) ?_) | (refine wpList_val rfl (exec_wholeB rfl rfl) ?_) | fail)
  refine (copy_any _ 64 64 _ _ b.toList _ (Lib.hid rfl) HRA.out (Nat.le_refl _) (by omega)).mono ?_
  rintro e w1 ⟨v1, rfl, hm1, hb1⟩
  obtain ⟨q, c, rfl, hq, hc1, hc2⟩ := hm1.some (by rw [HL.out]; omega)
  rw [HL.out] at hm1 hc1 ⊢
  have hrd := hm1.rd
  have HBL := Lib.hid (HBA.out.trans (hb1.mono (by simp only [World.size_alloc]; omega)))
  have HR := Lib.hid hrd
  have HC2 := Lib.hid hc2
  clear hb1 hrd hm1 HBA HRA hq hc2
  generalize hrr : w.heap.size = r at *
  have HSZ : Hid (r ≤ w1.heap.size) := Lib.hid (Nat.le_trans (Nat.le_of_eq hrr.symm) HBL.out.size)
  clear hrr
  go_wp2_with fail
  refine (rget_ok _ 64 c _ b.toList 0 8 _ HR.out (by unfold maxLen; omega) (by omega) (by omega) (by omega)).mono ?_
  rintro e w2 ⟨rfl, rfl⟩
  rw [HX.out]
  go_wp2_with fail
  refine (rget_ok _ 64 c _ b.toList 56 8 _ HR.out (by unfold maxLen; omega) (by omega) (by omega) (by omega)).mono ?_
  rintro e w2 ⟨rfl, rfl⟩
  rw [HY.out]
  go_wp2_with fail
  refine (rget_ok _ 64 c _ b.toList 52 4 _ HR.out (by unfold maxLen; omega) (by omega) (by omega) (by omega)).mono ?_
  rintro e w2 ⟨rfl, rfl⟩
  rw [HSU.out]
  go_wp2_with (first | (refine wpList_val rfl (exec_headU rfl rfl rfl hc1) ?_) | fail)
  refine (refOf_any _ 52 c _ (piece b.toList 0 52) _ (HR.out.piece (p := 0) (k := 52) (by omega)) (by unfold maxLen; omega)).mono ?_
  rintro e w2 ⟨rfl, rfl⟩
  rw [HCR.out]
  go_wp2_with fail
  refine bodyPost_ret (v := .tuple #[.int .u64 0, .slice none 0 0, .int .i64 6]) (by simp [results, Tryd.results28, go_sem]) rfl ⟨_, by rw [HE.out, HN.out]; rfl, by rw [HBB.out]; exact World.ownsRow_nil _ _ _ _, by rw [HB.out]; exact HBL.out⟩
set_option maxHeartbeats 4000000 in
theorem rget_fine (b : Blk) (B : Nat) (w : World) (HB : Hid (B = w.heap.size)) (h0 : numO b.toList ≠ 0) (h1 : numO b.toList = agO b.toList) (h2 : sumO b.toList = crcO b.toList) :
    Calls Tryd.prog 28 #[blk b] w fun e w' => ∃ v, e = .returned (.tuple #[.int .u64 (getN b.toList : Nat), v, .int .i64 (getE b.toList : Nat)]) ∧ Made w' B v (getB b.toList) ∧ Below B w w' := by
  have hA := RowL.blk w b 27
  have hbA := (Below.refl w.heap.size w).alloc (Nat.le_refl _) (.cells (cel b).toArray 27)
  have hRA := hA.rd (p := 0) (k := 64) (by simp)
  rw [piece_all (toList_len b)] at hRA
  have HRA := Lib.hid hRA
  have HBA := Lib.hid hbA
  have HL := Lib.hid (toList_len b)
  have hE := getE_ok h0 h1 h2
  have HE := Lib.hid hE
  have HN := Lib.hid (getN_of hE)
  have HBB := Lib.hid (getB_of hE)
  obtain ⟨x, hx⟩ : ∃ x, numO b.toList = x := ⟨_, rfl⟩
  have HX : Hid (val 8 (piece b.toList 0 8) = x) := Lib.hid hx
  have HY : Hid (val 8 (piece b.toList 56 8) = x) := Lib.hid (by rw [← hx]; exact h1.symm)
  rw [hx] at h0
  obtain ⟨s, hs⟩ : ∃ s, sumO b.toList = s := ⟨_, rfl⟩
  obtain ⟨k, hk⟩ : ∃ k, crcO b.toList = k := ⟨_, rfl⟩
  have HSU : Hid (val 8 (piece b.toList 52 4) = s) := Lib.hid hs
  have HCR : Hid (more 0 (piece b.toList 0 52) = k) := Lib.hid hk
  have hsl := sumO_lt (toList_len b)
  have hkl := crcO_lt b.toList
  rw [hs] at hsl h2
  rw [hk] at hkl h2
  have hz : ((x : Int) == 0) = false := by simp; omega
  have hn : ((x : Int) != (x : Int)) = false := by simp
  have hc : ((k : Int) != (s : Int)) = false := by simp; omega
  have HXX := Lib.hid hx
  clear hE h0 h1 hx h2 hs hk
  clear hA hbA hRA
  go_enter Tryd.func28, Tryd.ntmps28
  go_wp2_with (first | (refine wpList_val rfl (exec_box rfl rfl) ?_) | (refine wpList_val rfl (exec_wholeB rfl rfl) ?_) | fail)
  refine (copy_any _ 64 64 _ _ b.toList _ (Lib.hid rfl) HRA.out (Nat.le_refl _) (by omega)).mono ?_
  rintro e w1 ⟨v1, rfl, hm1, hb1⟩
  obtain ⟨q, c, rfl, hq, hc1, hc2⟩ := hm1.some (by rw [HL.out]; omega)
  rw [HL.out] at hm1 hc1 ⊢
  have hrd := hm1.rd
  have HBL := Lib.hid (HBA.out.trans (hb1.mono (by simp only [World.size_alloc]; omega)))
  have HR := Lib.hid hrd
  have HC2 := Lib.hid hc2
  clear hb1 hrd hm1 HBA HRA hq hc2
  generalize hrr : w.heap.size = r at *
  have HSZ : Hid (r ≤ w1.heap.size) := Lib.hid (Nat.le_trans (Nat.le_of_eq hrr.symm) HBL.out.size)
  clear hrr
  go_wp2_with fail
  refine (rget_ok _ 64 c _ b.toList 0 8 _ HR.out (by unfold maxLen; omega) (by omega) (by omega) (by omega)).mono ?_
  rintro e w2 ⟨rfl, rfl⟩
  rw [HX.out]
  go_wp2_with fail
  refine (rget_ok _ 64 c _ b.toList 56 8 _ HR.out (by unfold maxLen; omega) (by omega) (by omega) (by omega)).mono ?_
  rintro e w2 ⟨rfl, rfl⟩
  rw [HY.out]
  go_wp2_with fail
  refine (rget_ok _ 64 c _ b.toList 52 4 _ HR.out (by unfold maxLen; omega) (by omega) (by omega) (by omega)).mono ?_
  rintro e w2 ⟨rfl, rfl⟩
  rw [HSU.out]
  go_wp2_with (first | (refine wpList_val rfl (exec_headU rfl rfl rfl hc1) ?_) | fail)
  refine (refOf_any _ 52 c _ (piece b.toList 0 52) _ (HR.out.piece (p := 0) (k := 52) (by omega)) (by unfold maxLen; omega)).mono ?_
  rintro e w2 ⟨rfl, rfl⟩
  rw [HCR.out]
  go_wp2_with (first | (refine wpList_val rfl (exec_midU rfl rfl rfl rfl hc1) ?_) | fail)
  refine (copy_any _ 44 (c - 8) _ _ (piece b.toList 8 44) _ (Lib.hid rfl) (HR.out.piece (p := 8) (k := 44) (by omega)) (Nat.le_refl _) (by omega)).mono ?_
  rintro e w2 ⟨v2, rfl, hm2, hb2⟩
  have HM2 := Lib.hid hm2
  have HB2 := Lib.hid (HBL.out.trans (hb2.mono HSZ.out))
  clear hm2 hb2
  go_wp2_with fail
  refine bodyPost_ret (v := .tuple #[.int .u64 (x : Int), v2, .int .i64 0]) (by simp [results, Tryd.results28, go_sem]) rfl ⟨_, by rw [HE.out, HN.out, HXX.out]; rfl, by rw [HBB.out, HB.out]; exact HM2.out.base HSZ.out, by rw [HB.out]; exact HB2.out⟩
/-- The document's Get, whatever sector it is given. -/
theorem rget_any (b : Blk) (B : Nat) (w : World) (HB : Hid (B = w.heap.size)) : Calls Tryd.prog 28 #[blk b] w fun e w' => ∃ v, e = .returned (.tuple #[.int .u64 (getN b.toList : Nat), v, .int .i64 (getE b.toList : Nat)]) ∧ Made w' B v (getB b.toList) ∧ Below B w w' := by
  by_cases h0 : numO b.toList = 0
  · exact rget_zero b B w HB h0
  · by_cases h1 : numO b.toList = agO b.toList
    · by_cases h2 : sumO b.toList = crcO b.toList
      · exact rget_fine b B w HB h0 h1 h2
      · exact rget_sum b B w HB h0 h1 h2
    · exact rget_unlike b B w HB h0 h1
end Go.Proofs.YtiandcigoflcmaaDoor
