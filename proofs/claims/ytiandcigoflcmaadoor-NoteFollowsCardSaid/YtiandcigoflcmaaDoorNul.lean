/-
  ashlarlaw13.lives.
-/
import Derived.Test.YtiandcigoflcmaaDoorNrb
import Derived.Test.YtiandcigoflcmaaDoorNtf
namespace Go.Proofs.YtiandcigoflcmaaDoor
open Go.RowKit
set_option linter.unusedVariables false
set_option linter.unusedSimpArgs false
set_option maxRecDepth 100000

def oneNt : Nte := ⟨3, 7, 17, 0⟩
def twoNt : Nte := ⟨4, 26, 1, 0⟩
def offNt : Nte := ⟨4, 24, 1, 0⟩
theorem oneNt_fit : oneNt.fit := ⟨by decide, by decide, by decide⟩
theorem zeroNt_fit : zeroNt.fit := ⟨by decide, by decide, by decide⟩
section
variable {ρ : Operand → Value} {o : Oper} {x y z : Operand} {w : World}
theorem run_oneNt : (Instr.build 25 #[(0, .int .u64 3), (1, .int .u64 7), (2, .int .i64 17)]).run Tryd.prog w = .ok (nte oneNt) w := by kernel_rfl
theorem run_twoNt : (Instr.build 25 #[(0, .int .u64 4), (1, .int .u64 26), (2, .int .i64 1)]).run Tryd.prog w = .ok (nte twoNt) w := by kernel_rfl
theorem run_offNt : (Instr.build 25 #[(0, .int .u64 4), (1, .int .u64 24), (2, .int .i64 1)]).run Tryd.prog w = .ok (nte offNt) w := by kernel_rfl
theorem exec_bldNt3 {a b c : Int} (q : Nte) (ho : o.op = .build 25 #[(0, x), (1, y), (2, z)]) (hx : ρ x = .int .u64 a) (hy : ρ y = .int .u64 b) (hz : ρ z = .int .i64 c)
    (h : (Instr.build 25 #[(0, .int .u64 a), (1, .int .u64 b), (2, .int .i64 c)]).run Tryd.prog w = .ok (nte q) w) : (execOp ρ o).run Tryd.prog w = .ok (.value (nte q)) w := by
  unfold execOp
  simp only [ho, hx, hy, hz, List.map_toArray, List.map_cons, List.map_nil, Sem.run_bind, h, Result.andThen_ok, Sem.run_pure]
end
set_option maxHeartbeats 4000000 in
theorem note_lives (w : World) (T : TabNt w) : Calls Tryd.prog 15 #[] w fun e w' => e = .returned (.bool true) ∧ Below w.heap.size w w' := by
  have e1 : codNt.pE oneNt = 0 := codNt.pE_ok (by decide)
  have e0 : codNt.pE zeroNt = 2 := codNt.pE_no (by decide)
  have b0 : codNt.pB zeroNt = zeroB := codNt.pB_no (by decide)
  obtain ⟨g1, g2⟩ := codNt.put_get (y := oneNt) oneNt_fit e1
  have HP1 : Hid (∀ w1, TabNt w1 → Calls Tryd.prog 7 #[nte oneNt] w1 fun e w' => e = .returned (.tuple #[blk (codNt.pB oneNt), .int .i64 (0 : Nat)]) ∧ Below w1.heap.size w1 w') := Lib.hid fun w1 T1 => by
    have := pntput oneNt w1 T1 oneNt_fit
    rw [e1] at this
    exact this
  have HP0 : Hid (∀ w1, TabNt w1 → Calls Tryd.prog 7 #[nte zeroNt] w1 fun e w' => e = .returned (.tuple #[blk zeroB, .int .i64 (2 : Nat)]) ∧ Below w1.heap.size w1 w') := Lib.hid fun w1 T1 => by
    have := pntput zeroNt w1 T1 zeroNt_fit
    rw [e0, b0] at this
    exact this
  generalize codNt.pB oneNt = x at *
  have HG1 : Hid (∀ w1, TabNt w1 → Calls Tryd.prog 16 #[blk x] w1 fun e w' => e = .returned (.tuple #[nte oneNt, .int .i64 (0 : Nat)]) ∧ Below w1.heap.size w1 w') := Lib.hid fun w1 T1 => by
    have := pntget x w1 T1
    rw [g2, g1] at this
    exact this
  have HT := Lib.hid T
  have HB1 := Lib.hid (boxNt_new w oneNt).2.1
  have HS0 := Lib.hid (boxNt_new w oneNt).1
  clear e1 e0 b0 g1 g2 T
  go_enter Tryd.func15, Tryd.ntmps15
  go_upto_region 2 with (first | (refine wpList_valn rfl (exec_bldNt3 oneNt rfl rfl rfl rfl run_oneNt) ?_) | (refine wpList_valn rfl (exec_allocNt rfl) ?_) | (refine wpList_nuln rfl (exec_fillNt (c := oneNt) rfl rfl rfl) ?_) | fail)
  generalize w.alloc (.cells (celNt oneNt).toArray 25) = w1 at *
  go_wp2_with (first | (refine wpList_valn rfl (exec_loadNt (c := oneNt) rfl rfl ?_) ?_; (with_reducible exact HS0.out.range)) | fail)
  refine (HP1.out w1 (HT.out.below HB1.out)).mono ?_
  rintro e w2 ⟨rfl, hb⟩
  have hb2 := hb.alloc hb.size (.cells (cel x).toArray 27)
  have HB2 := Lib.hid (HB1.out.trans (hb2.mono HB1.out.size))
  have HS2 := Lib.hid (HS0.out.below (blk_lt HS0.out) hb2)
  have HX2 := Lib.hid (range_new w2 (cel x) 27)
  have HZ2 : Hid (w2.heap.size < (w2.alloc (.cells (cel x).toArray 27)).heap.size) := Lib.hid (by simp only [World.size_alloc]; omega)
  clear hb hb2 HB1 HS0
  go_upto_region 3 with (first | (refine wpList_valn rfl (exec_alloc rfl) ?_) | (refine wpList_nuln rfl (exec_fillN rfl rfl rfl) ?_) | fail)
  generalize w2.alloc (.cells (cel x).toArray 27) = w3 at *
  generalize w2.heap.size = xb at *
  go_wp2_with (first | (refine wpList_valn rfl (exec_bldNt rfl) ?_) | fail)
  refine (HP0.out w3 (HT.out.below HB2.out)).mono ?_
  rintro e w5 ⟨rfl, hb⟩
  have hb2 := hb.alloc hb.size (.cells (cel zeroB).toArray 27)
  have HB5 := Lib.hid (HB2.out.trans (hb2.mono HB2.out.size))
  have HS5 := Lib.hid (HS2.out.below (blk_lt HS2.out) hb2)
  have HX5 := Lib.hid (range_below HX2.out HZ2.out hb2)
  clear hb hb2 HB2 HX2 HZ2 HS2
  go_upto_region 4 with (first | (refine wpList_valn rfl (exec_alloc rfl) ?_) | (refine wpList_nuln rfl (exec_fillN rfl rfl rfl) ?_) | fail)
  generalize w5.alloc (.cells (cel zeroB).toArray 27) = w6 at *
  go_wp2_with (first | (refine wpList_valn rfl (exec_load (c := x) rfl rfl ?_) ?_; (with_reducible exact HX5.out)) | fail)
  refine (HG1.out w6 (HT.out.below HB5.out)).mono ?_
  rintro e w9 ⟨rfl, hb⟩
  have hb2 := hb.alloc hb.size (.cells (celNt oneNt).toArray 25)
  have HB7 := Lib.hid (HB5.out.trans (hb2.mono HB5.out.size))
  have HS1 := Lib.hid (HS5.out.below (blk_lt HS5.out) hb2)
  have HS7 := Lib.hid (NteAt.new w9 oneNt)
  clear hb hb2 HB5 HX5 HS5
  go_upto_region 5 with (first | (refine wpList_valn rfl (exec_allocNt rfl) ?_) | (refine wpList_nuln rfl (exec_fillNt (c := oneNt) rfl rfl rfl) ?_) | fail)
  generalize w9.alloc (.cells (celNt oneNt).toArray 25) = w10 at *
  generalize w9.heap.size = sb at *
  refine wp_region_lit ?_
  refine wpList_valn rfl (exec_mv rfl (ev rfl)) ?_
  simp only [Act.put, List.setIfInBounds_toArray, List.set_cons_succ, List.set_cons_zero]
  refine wpList_valn (v := .bool true) rfl (exec_eqInt true rfl (ev rfl) evk rfl) ?_
  simp only [Act.put, List.setIfInBounds_toArray, List.set_cons_succ, List.set_cons_zero]
  refine wpList_valn (v := .bool true) rfl (exec_mv rfl (ev rfl)) ?_
  simp only [Act.put, List.setIfInBounds_toArray, List.set_cons_succ, List.set_cons_zero]
  refine wpList_val (wanted_of rfl rfl rfl rfl) (exec_mv rfl (ev rfl)) ?_
  simp only [Act.put, List.setIfInBounds_toArray, List.set_cons_succ, List.set_cons_zero]
  refine wpList_val (v := .bool true) (wanted_of rfl rfl rfl rfl) (exec_eqInt true rfl (ev rfl) evk rfl) ?_
  simp only [Act.put, List.setIfInBounds_toArray, List.set_cons_succ, List.set_cons_zero]
  refine wpList_valn (v := .bool true) rfl (exec_pt rfl (ev rfl) (ev rfl)) ?_
  simp only [Act.put, List.setIfInBounds_toArray, List.set_cons_succ, List.set_cons_zero]
  refine wpList_valn (v := .bool true) rfl (exec_mv rfl (ev rfl)) ?_
  simp only [Act.put, List.setIfInBounds_toArray, List.set_cons_succ, List.set_cons_zero]
  refine wpList_val (wanted_of rfl rfl rfl rfl) (exec_loadNt (c := oneNt) rfl (ev rfl) HS7.out.range) ?_
  simp only [Act.put, List.setIfInBounds_toArray, List.set_cons_succ, List.set_cons_zero]
  refine wpList_val (wanted_of rfl rfl rfl rfl) (exec_loadNt (c := oneNt) rfl (ev rfl) HS1.out.range) ?_
  simp only [Act.put, List.setIfInBounds_toArray, List.set_cons_succ, List.set_cons_zero]
  refine wpList_val (v := .bool true) (wanted_of rfl rfl rfl rfl) (exec_eqNt true rfl (ev rfl) (ev rfl) (decide_eq_true rfl)) ?_
  simp only [Act.put, List.setIfInBounds_toArray, List.set_cons_succ, List.set_cons_zero]
  refine wpList_valn (v := .bool true) rfl (exec_pt rfl (ev rfl) (ev rfl)) ?_
  simp only [Act.put, List.setIfInBounds_toArray, List.set_cons_succ, List.set_cons_zero]
  refine wpList_valn (v := .bool true) rfl (exec_mv rfl (ev rfl)) ?_
  simp only [Act.put, List.setIfInBounds_toArray, List.set_cons_succ, List.set_cons_zero]
  refine wpList_val (wanted_of rfl rfl rfl rfl) (exec_mv rfl (ev rfl)) ?_
  simp only [Act.put, List.setIfInBounds_toArray, List.set_cons_succ, List.set_cons_zero]
  refine wpList_val (v := .bool true) (wanted_of rfl rfl rfl rfl) (exec_eqInt true rfl (ev rfl) evk rfl) ?_
  simp only [Act.put, List.setIfInBounds_toArray, List.set_cons_succ, List.set_cons_zero]
  refine wpList_valn (v := .bool true) rfl (exec_pt rfl (ev rfl) (ev rfl)) ?_
  simp only [Act.put, List.setIfInBounds_toArray, List.set_cons_succ, List.set_cons_zero]
  refine wpList_valn (v := .bool true) rfl (exec_mv rfl (ev rfl)) ?_
  simp only [Act.put, List.setIfInBounds_toArray, List.set_cons_succ, List.set_cons_zero]
  refine wpList_call (wanted_of rfl rfl rfl rfl) (exec_cl Tryd.call11 rfl (evc evk evn)) ?_
  refine (pntslot 9 _ (by omega)).mono ?_
  rintro e w' ⟨rfl, rfl⟩
  refine ⟨_, rfl, ?_⟩
  simp only [Act.put, List.setIfInBounds_toArray, List.set_cons_succ, List.set_cons_zero]
  refine wpList_val (v := .bool true) (wanted_of rfl rfl rfl rfl) (exec_eqInt true rfl (ev rfl) evk rfl) ?_
  simp only [Act.put, List.setIfInBounds_toArray, List.set_cons_succ, List.set_cons_zero]
  refine wpList_valn (v := .bool true) rfl (exec_pt rfl (ev rfl) (ev rfl)) ?_
  simp only [Act.put, List.setIfInBounds_toArray, List.set_cons_succ, List.set_cons_zero]
  refine wpList_valn (v := .bool true) rfl (exec_mv rfl (ev rfl)) ?_
  simp only [Act.put, List.setIfInBounds_toArray, List.set_cons_succ, List.set_cons_zero]
  refine wpList_val (wanted_of rfl rfl rfl rfl) (exec_loadNt (c := oneNt) rfl (ev rfl) HS1.out.range) ?_
  simp only [Act.put, List.setIfInBounds_toArray, List.set_cons_succ, List.set_cons_zero]
  refine wpList_val (wanted_of rfl rfl rfl rfl) (exec_bldNt3 twoNt rfl evk evk evk run_twoNt) ?_
  simp only [Act.put, List.setIfInBounds_toArray, List.set_cons_succ, List.set_cons_zero]
  refine wpList_call (wanted_of rfl rfl rfl rfl) (exec_cl Tryd.call13 rfl (evc (ev rfl) (evc (ev rfl) evn))) ?_
  refine (pntfols_b oneNt twoNt w10 (b := true) (by decide)).mono ?_
  rintro e w11 ⟨rfl, hb⟩
  have HB8 := Lib.hid (HB7.out.trans (hb.mono HB7.out.size))
  have HS1b := Lib.hid (HS1.out.below (blk_lt HS1.out) hb)
  clear hb HB7
  refine ⟨_, rfl, ?_⟩
  simp only [Act.put, List.setIfInBounds_toArray, List.set_cons_succ, List.set_cons_zero]
  refine wpList_valn (v := .bool true) rfl (exec_pt rfl (ev rfl) (ev rfl)) ?_
  simp only [Act.put, List.setIfInBounds_toArray, List.set_cons_succ, List.set_cons_zero]
  refine wpList_valn (v := .bool true) rfl (exec_mv rfl (ev rfl)) ?_
  simp only [Act.put, List.setIfInBounds_toArray, List.set_cons_succ, List.set_cons_zero]
  refine wpList_val (wanted_of rfl rfl rfl rfl) (exec_loadNt (c := oneNt) rfl (ev rfl) HS1b.out.range) ?_
  simp only [Act.put, List.setIfInBounds_toArray, List.set_cons_succ, List.set_cons_zero]
  refine wpList_val (wanted_of rfl rfl rfl rfl) (exec_bldNt3 offNt rfl evk evk evk run_offNt) ?_
  simp only [Act.put, List.setIfInBounds_toArray, List.set_cons_succ, List.set_cons_zero]
  refine wpList_call (wanted_of rfl rfl rfl rfl) (exec_cl Tryd.call13 rfl (evc (ev rfl) (evc (ev rfl) evn))) ?_
  refine (pntfols_b oneNt offNt w11 (b := false) (by decide)).mono ?_
  rintro e w12 ⟨rfl, hb⟩
  have HB9 := Lib.hid (HB8.out.trans (hb.mono HB8.out.size))
  clear hb HB8
  refine ⟨_, rfl, ?_⟩
  simp only [Act.put, List.setIfInBounds_toArray, List.set_cons_succ, List.set_cons_zero]
  refine wpList_val (v := .bool true) (wanted_of rfl rfl rfl rfl) (exec_not false rfl (ev rfl)) ?_
  simp only [Act.put, List.setIfInBounds_toArray, List.set_cons_succ, List.set_cons_zero]
  refine wpList_valn (v := .bool true) rfl (exec_pt rfl (ev rfl) (ev rfl)) ?_
  simp only [Act.put, List.setIfInBounds_toArray, List.set_cons_succ, List.set_cons_zero]
  refine wpList_valn (v := .bool true) rfl (exec_as rfl (ev rfl)) ?_
  simp only [Act.put, List.setIfInBounds_toArray, List.set_cons_succ, List.set_cons_zero]
  refine wpList_nil ?_
  go_wp2_with fail
  go_ret
  exact ⟨rfl, HB9.out⟩
end Go.Proofs.YtiandcigoflcmaaDoor
