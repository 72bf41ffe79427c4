/-
  ashlarlaw09.one, lives.
-/
import Derived.Test.YtmdpbnolgbfaeaaDoorMrc
namespace Go.Proofs.YtmdpbnolgbfaeaaDoor
open Go.RowKit
set_option linter.unusedVariables false
set_option linter.unusedSimpArgs false
set_option maxRecDepth 100000

def oneM : Mrk := ⟨9, 40, 1, 0⟩
theorem oneM_fit : oneM.fit := ⟨by decide, by decide, by decide⟩
section
variable {ρ : Operand → Value} {o : Oper} {x y z : Operand} {w : World}
theorem run_oneM (w : World) : (Instr.build 24 #[(0, .int .u64 9), (1, .int .i64 40), (2, .int .u64 1)]).run Tryd.prog w = .ok (mrk oneM) w := by kernel_rfl
theorem exec_oneM (ho : o.op = .build 24 #[(0, x), (1, y), (2, z)]) (hx : ρ x = .int .u64 9) (hy : ρ y = .int .i64 40) (hz : ρ z = .int .u64 1) : (execOp ρ o).run Tryd.prog w = .ok (.value (mrk oneM)) w := by
  unfold execOp
  simp only [ho, hx, hy, hz, List.map_toArray, List.map_cons, List.map_nil, Sem.run_bind, run_oneM, Result.andThen_ok, Sem.run_pure]
end
set_option maxHeartbeats 1000000 in
theorem ponem (w : World) : Calls Tryd.prog 25 #[] w fun e w' => e = .returned (mrk oneM) ∧ Below w.heap.size w w' := by
  have HB := Lib.hid (boxM_new w oneM).2.1
  have HS := Lib.hid (boxM_new w oneM).1.range
  go_enter Tryd.func25, Tryd.ntmps25
  go_wp2_with (first | (refine wpList_valn rfl (exec_allocM rfl) ?_) | (refine wpList_valn rfl (exec_oneM rfl rfl rfl rfl) ?_) | (refine wpList_nuln rfl (exec_fillM (c := oneM) rfl rfl rfl) ?_) | fail)
  refine bodyPost_ret (res_rng (t := 24) (cs := celM oneM) rfl _ _ _ rfl HS.out Tryd.underlying24 rfl sizeM) rfl ⟨rfl, HB.out⟩
theorem pmslot_d (n k : Nat) (w : World) (hn : n < 18446744073709551616) (h : n % 2 = k) : Calls Tryd.prog 11 #[.int .u64 n] w fun e w' => e = .returned (.int .i64 (k : Nat)) ∧ Below w.heap.size w w' := by
  subst h
  exact (pmslot n w hn).mono fun e w' ⟨he, hw⟩ => ⟨he, hw ▸ Below.refl _ _⟩
theorem rmslot_d (n k : Nat) (w : World) (hn : n < 18446744073709551616) (h : n % 2 = k) : Calls Tryd.prog 12 #[.int .u64 n] w fun e w' => e = .returned (.int .i64 (k : Nat)) ∧ Below w.heap.size w w' := by
  subst h
  exact (rmslot n w hn).mono fun e w' ⟨he, hw⟩ => ⟨he, hw ▸ Below.refl _ _⟩
set_option maxHeartbeats 4000000 in
theorem mark_lives (w : World) (T : TabM w) : Calls Tryd.prog 13 #[] w fun e w' => e = .returned (.bool true) ∧ Below w.heap.size w w' := by
  have e1 : codM.pE ⟨1, oneM⟩ = 0 := codM.pE_ok (by decide)
  have e0 : codM.pE ⟨1, zeroM⟩ = 2 := codM.pE_no (by decide)
  have b0 : codM.pB ⟨1, zeroM⟩ = zeroB := codM.pB_no (by decide)
  obtain ⟨g1, g2⟩ := codM.put_get (y := ⟨1, oneM⟩) ⟨by decide, oneM_fit⟩ e1
  have HP1 : Hid (∀ w1, TabM w1 → Calls Tryd.prog 7 #[.int .u64 1, mrk oneM] w1 fun e w' => e = .returned (.tuple #[blk (codM.pB ⟨1, oneM⟩), .int .i64 (0 : Nat)]) ∧ Below w1.heap.size w1 w') := Lib.hid fun w1 T1 => by
    have := pmput 1 oneM w1 T1 (by omega) oneM_fit
    rw [e1] at this
    exact this
  have HP0 : Hid (∀ w1, TabM w1 → Calls Tryd.prog 7 #[.int .u64 1, mrk zeroM] w1 fun e w' => e = .returned (.tuple #[blk zeroB, .int .i64 (2 : Nat)]) ∧ Below w1.heap.size w1 w') := Lib.hid fun w1 T1 => by
    have := pmput 1 zeroM w1 T1 (by omega) ⟨by decide, by decide, by decide⟩
    rw [e0, b0] at this
    exact this
  generalize codM.pB ⟨1, oneM⟩ = x at *
  have gn : codM.gN x = 1 := by unfold Cod.gN; rw [g2]; rfl
  have gz : codM.gN zeroB = 0 := codM.gN_no (by rw [codM.g_zero]; omega)
  have HG1 : Hid (∀ w1, TabM w1 → Calls Tryd.prog 14 #[blk x] w1 fun e w' => e = .returned (.tuple #[.int .u64 (1 : Nat), mrk oneM, .int .i64 (0 : Nat)]) ∧ Below w1.heap.size w1 w') := Lib.hid fun w1 T1 => by
    have := pmget x w1 T1
    rw [gn, g2, g1] at this
    exact this
  have nx : codM.nX x zeroB = ⟨1, oneM⟩ := by unfold Cod.nX; rw [gn, gz, if_neg (by omega), g2]
  have ne : codM.nE x zeroB = 0 := by unfold Cod.nE; rw [gn, if_neg (by omega)]
  have HN1 : Hid (∀ w1, TabM w1 → Calls Tryd.prog 17 #[blk x, blk zeroB] w1 fun e w' => e = .returned (.tuple #[.int .u64 (1 : Nat), mrk oneM, .int .i64 (0 : Nat)]) ∧ Below w1.heap.size w1 w') := Lib.hid fun w1 T1 => by
    have := pmnew x zeroB w1 T1
    rw [nx, ne] at this
    exact this
  have HT := Lib.hid T
  clear e1 e0 b0 g1 g2 gn gz nx ne T
  go_enter Tryd.func13, Tryd.ntmps13
  go_wp2_with fail
  refine (ponem w).mono ?_
  rintro e w1 ⟨rfl, hb⟩
  have HB1 := Lib.hid hb
  clear hb
  go_wp2_with fail
  refine (HP1.out w1 (HT.out.below HB1.out)).mono ?_
  rintro e w2 ⟨rfl, hb⟩
  have hb2 := hb.alloc hb.size (.cells (cel x).toArray 26)
  have HB2 := Lib.hid (HB1.out.trans (hb2.mono HB1.out.size))
  have HX2 := Lib.hid (range_new w2 (cel x) 26)
  have HZ2 : Hid (w2.heap.size < (w2.alloc (.cells (cel x).toArray 26)).heap.size) := Lib.hid (by simp only [World.size_alloc]; omega)
  clear hb hb2 HB1
  go_upto_region 2 with (first | (refine wpList_valn rfl (exec_alloc rfl) ?_) | (refine wpList_nuln rfl (exec_fillN rfl rfl rfl) ?_) | fail)
  generalize w2.alloc (.cells (cel x).toArray 26) = w3 at *
  generalize w2.heap.size = xb at *
  go_wp2_with (first | (refine wpList_valn rfl (exec_bldM rfl) ?_) | fail)
  refine (HP0.out w3 (HT.out.below HB2.out)).mono ?_
  rintro e w5 ⟨rfl, hb⟩
  have hb2 := hb.alloc hb.size (.cells (cel zeroB).toArray 26)
  have HB5 := Lib.hid (HB2.out.trans (hb2.mono HB2.out.size))
  have HX5 := Lib.hid (range_below HX2.out HZ2.out hb2)
  have HZ5 : Hid (xb < (w5.alloc (.cells (cel zeroB).toArray 26)).heap.size) := Lib.hid (Nat.lt_of_lt_of_le HZ2.out hb2.size)
  clear hb hb2 HB2 HX2 HZ2
  go_upto_region 3 with (first | (refine wpList_valn rfl (exec_alloc rfl) ?_) | (refine wpList_nuln rfl (exec_fillN rfl rfl rfl) ?_) | fail)
  generalize w5.alloc (.cells (cel zeroB).toArray 26) = w6 at *
  go_wp2_with (first | (refine wpList_valn rfl (exec_load (c := x) rfl rfl ?_) ?_; (with_reducible exact HX5.out)) | fail)
  refine (HG1.out w6 (HT.out.below HB5.out)).mono ?_
  rintro e w9 ⟨rfl, hb⟩
  have hb2 := hb.alloc hb.size (.cells (celM oneM).toArray 24)
  have HB7 := Lib.hid (HB5.out.trans (hb2.mono HB5.out.size))
  have HX7 := Lib.hid (range_below HX5.out HZ5.out hb2)
  have HS7 := Lib.hid (MrkAt.new w9 oneM)
  have HZ7 : Hid (xb < (w9.alloc (.cells (celM oneM).toArray 24)).heap.size) := Lib.hid (Nat.lt_of_lt_of_le HZ5.out hb2.size)
  clear hb hb2 HB5 HX5 HZ5
  go_upto_region 4 with (first | (refine wpList_valn rfl (exec_allocM rfl) ?_) | (refine wpList_nuln rfl (exec_fillM (c := oneM) rfl rfl rfl) ?_) | fail)
  generalize w9.alloc (.cells (celM oneM).toArray 24) = w10 at *
  generalize w9.heap.size = sb at *
  go_wp2_with (first | (refine wpList_valn rfl (exec_load (c := x) rfl rfl ?_) ?_; (with_reducible exact HX7.out)) | (refine wpList_valn rfl (exec_build (c := zeroB) (parts := []) rfl rfl) ?_) | fail)
  refine (HN1.out w10 (HT.out.below HB7.out)).mono ?_
  rintro e w11 ⟨rfl, hb⟩
  have hb2 := hb.alloc hb.size (.cells (celM oneM).toArray 24)
  have HB8 := Lib.hid (HB7.out.trans (hb2.mono HB7.out.size))
  have HS8 := Lib.hid (HS7.out.below (blk_lt HS7.out) hb2)
  clear hb hb2 HB7 HX7 HZ7 HS7
  go_upto_region 5 with (first | (refine wpList_valn rfl (exec_allocM rfl) ?_) | (refine wpList_nuln rfl (exec_fillM (c := oneM) rfl rfl rfl) ?_) | fail)
  generalize w11.alloc (.cells (celM oneM).toArray 24) = w12 at *
  refine wp_region_above (B := w12.heap.size) (by kernel_rfl) ?_
  refine qv_val rfl (fun w' hw => exec_mv rfl (ev rfl)) ?_
  simp only [Act.put, List.setIfInBounds_toArray, List.set_cons_succ, List.set_cons_zero]
  refine qv_val (v := .bool true) rfl (fun w' hw => exec_eqInt true rfl (ev rfl) evk rfl) ?_
  simp only [Act.put, List.setIfInBounds_toArray, List.set_cons_succ, List.set_cons_zero]
  refine qv_val (v := .bool true) rfl (fun w' hw => exec_mv rfl (ev rfl)) ?_
  simp only [Act.put, List.setIfInBounds_toArray, List.set_cons_succ, List.set_cons_zero]
  refine qv_val (wanted_of rfl rfl rfl rfl) (fun w' hw => exec_mv rfl (ev rfl)) ?_
  simp only [Act.put, List.setIfInBounds_toArray, List.set_cons_succ, List.set_cons_zero]
  refine qv_val (v := .bool true) (wanted_of rfl rfl rfl rfl) (fun w' hw => exec_eqInt true rfl (ev rfl) evk rfl) ?_
  simp only [Act.put, List.setIfInBounds_toArray, List.set_cons_succ, List.set_cons_zero]
  refine qv_val (v := .bool true) rfl (fun w' hw => exec_pt rfl (ev rfl) (ev rfl)) ?_
  simp only [Act.put, List.setIfInBounds_toArray, List.set_cons_succ, List.set_cons_zero]
  refine qv_val (v := .bool true) rfl (fun w' hw => exec_mv rfl (ev rfl)) ?_
  simp only [Act.put, List.setIfInBounds_toArray, List.set_cons_succ, List.set_cons_zero]
  refine qv_val (wanted_of rfl rfl rfl rfl) (fun w' hw => exec_mv rfl (ev rfl)) ?_
  simp only [Act.put, List.setIfInBounds_toArray, List.set_cons_succ, List.set_cons_zero]
  refine qv_val (v := .bool true) (wanted_of rfl rfl rfl rfl) (fun w' hw => exec_eqInt true rfl (ev rfl) evk rfl) ?_
  simp only [Act.put, List.setIfInBounds_toArray, List.set_cons_succ, List.set_cons_zero]
  refine qv_val (v := .bool true) rfl (fun w' hw => exec_pt rfl (ev rfl) (ev rfl)) ?_
  simp only [Act.put, List.setIfInBounds_toArray, List.set_cons_succ, List.set_cons_zero]
  refine qv_val (v := .bool true) rfl (fun w' hw => exec_mv rfl (ev rfl)) ?_
  simp only [Act.put, List.setIfInBounds_toArray, List.set_cons_succ, List.set_cons_zero]
  refine qv_val (wanted_of rfl rfl rfl rfl) (fun w' hw => exec_loadM (c := oneM) rfl (ev rfl) ((HS8.out.below (blk_lt HS8.out) hw).range)) ?_
  simp only [Act.put, List.setIfInBounds_toArray, List.set_cons_succ, List.set_cons_zero]
  refine qv_call (wanted_of rfl rfl rfl rfl) (fun _ => exec_cl Tryd.call25 rfl evn) (above_of (Nat.le_refl _) fun w' hw => ponem w') ?_
  simp only [Act.put, List.setIfInBounds_toArray, List.set_cons_succ, List.set_cons_zero]
  refine qv_val (v := .bool true) (wanted_of rfl rfl rfl rfl) (fun w' hw => exec_eqM true rfl (ev rfl) (ev rfl) (decide_eq_true rfl)) ?_
  simp only [Act.put, List.setIfInBounds_toArray, List.set_cons_succ, List.set_cons_zero]
  refine qv_val (v := .bool true) rfl (fun w' hw => exec_pt rfl (ev rfl) (ev rfl)) ?_
  simp only [Act.put, List.setIfInBounds_toArray, List.set_cons_succ, List.set_cons_zero]
  refine qv_val (v := .bool true) rfl (fun w' hw => exec_mv rfl (ev rfl)) ?_
  simp only [Act.put, List.setIfInBounds_toArray, List.set_cons_succ, List.set_cons_zero]
  refine qv_val (wanted_of rfl rfl rfl rfl) (fun w' hw => exec_mv rfl (ev rfl)) ?_
  simp only [Act.put, List.setIfInBounds_toArray, List.set_cons_succ, List.set_cons_zero]
  refine qv_val (v := .bool true) (wanted_of rfl rfl rfl rfl) (fun w' hw => exec_eqInt true rfl (ev rfl) evk rfl) ?_
  simp only [Act.put, List.setIfInBounds_toArray, List.set_cons_succ, List.set_cons_zero]
  refine qv_val (v := .bool true) rfl (fun w' hw => exec_pt rfl (ev rfl) (ev rfl)) ?_
  simp only [Act.put, List.setIfInBounds_toArray, List.set_cons_succ, List.set_cons_zero]
  refine qv_val (v := .bool true) rfl (fun w' hw => exec_mv rfl (ev rfl)) ?_
  simp only [Act.put, List.setIfInBounds_toArray, List.set_cons_succ, List.set_cons_zero]
  refine qv_val (wanted_of rfl rfl rfl rfl) (fun w' hw => exec_mv rfl (ev rfl)) ?_
  simp only [Act.put, List.setIfInBounds_toArray, List.set_cons_succ, List.set_cons_zero]
  refine qv_val (v := .bool true) (wanted_of rfl rfl rfl rfl) (fun w' hw => exec_eqInt true rfl (ev rfl) evk rfl) ?_
  simp only [Act.put, List.setIfInBounds_toArray, List.set_cons_succ, List.set_cons_zero]
  refine qv_val (v := .bool true) rfl (fun w' hw => exec_pt rfl (ev rfl) (ev rfl)) ?_
  simp only [Act.put, List.setIfInBounds_toArray, List.set_cons_succ, List.set_cons_zero]
  refine qv_val (v := .bool true) rfl (fun w' hw => exec_mv rfl (ev rfl)) ?_
  simp only [Act.put, List.setIfInBounds_toArray, List.set_cons_succ, List.set_cons_zero]
  refine qv_val (wanted_of rfl rfl rfl rfl) (fun w' hw => exec_mv rfl (ev rfl)) ?_
  simp only [Act.put, List.setIfInBounds_toArray, List.set_cons_succ, List.set_cons_zero]
  refine qv_val (v := .bool true) (wanted_of rfl rfl rfl rfl) (fun w' hw => exec_eqInt true rfl (ev rfl) evk rfl) ?_
  simp only [Act.put, List.setIfInBounds_toArray, List.set_cons_succ, List.set_cons_zero]
  refine qv_val (v := .bool true) rfl (fun w' hw => exec_pt rfl (ev rfl) (ev rfl)) ?_
  simp only [Act.put, List.setIfInBounds_toArray, List.set_cons_succ, List.set_cons_zero]
  refine qv_val (v := .bool true) rfl (fun w' hw => exec_mv rfl (ev rfl)) ?_
  simp only [Act.put, List.setIfInBounds_toArray, List.set_cons_succ, List.set_cons_zero]
  refine qv_call (wanted_of rfl rfl rfl rfl) (fun _ => exec_cl Tryd.call11 rfl (evc evk evn)) (above_of (Nat.le_refl _) fun w' hw => pmslot_d 4 0 w' (by omega) rfl) ?_
  simp only [Act.put, List.setIfInBounds_toArray, List.set_cons_succ, List.set_cons_zero]
  refine qv_val (v := .bool true) (wanted_of rfl rfl rfl rfl) (fun w' hw => exec_eqInt true rfl (ev rfl) evk rfl) ?_
  simp only [Act.put, List.setIfInBounds_toArray, List.set_cons_succ, List.set_cons_zero]
  refine qv_val (v := .bool true) rfl (fun w' hw => exec_pt rfl (ev rfl) (ev rfl)) ?_
  simp only [Act.put, List.setIfInBounds_toArray, List.set_cons_succ, List.set_cons_zero]
  refine qv_val (v := .bool true) rfl (fun w' hw => exec_as rfl (ev rfl)) ?_
  simp only [Act.put, List.setIfInBounds_toArray, List.set_cons_succ, List.set_cons_zero]
  refine wpQuiet_nil ?_
  intro w13 hw
  have HB9 := Lib.hid (HB8.out.trans (hw.mono HB8.out.size))
  clear hw
  go_wp2_with fail
  go_ret
  exact ⟨rfl, HB9.out⟩
end Go.Proofs.YtmdpbnolgbfaeaaDoor
