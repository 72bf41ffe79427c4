/-
  ashlarlaw08.one, lives.
  The walk of SuperPuts.
-/
import Derived.Test.YtiilclncedipiaaDoorMI
import Derived.Test.YtiilclncedipiaaDoorMB
namespace Go.Proofs.YtiilclncedipiaaDoor
open Go.RowKit
set_option linter.unusedVariables false
set_option linter.unusedSimpArgs false
set_option maxRecDepth 100000

def oneS : Sup := ⟨9, 1, ⟨3, 4, 40, zeroR.st, 0, false⟩⟩
section
variable {ρ : Operand → Value} {o : Oper} {x y z : Operand} {w : World}
theorem run_one1 (w : World) : (Instr.build 24 #[(0, .int .i64 3), (1, .int .i64 4), (2, .int .i64 40)]).run Tryd.prog w = .ok (geo oneS.ros) w := by kernel_rfl
theorem run_one2 (w : World) : (Instr.build 27 #[(0, geo oneS.ros)]).run Tryd.prog w = .ok (ros oneS.ros) w := by kernel_rfl
theorem run_one3 (w : World) : (Instr.build 29 #[(0, .int .u64 9), (1, .int .i64 1), (2, ros oneS.ros)]).run Tryd.prog w = .ok (sup oneS) w := by kernel_rfl
theorem exec_one1 (ho : o.op = .build 24 #[(0, x), (1, y), (2, z)]) (hx : ρ x = .int .i64 3) (hy : ρ y = .int .i64 4) (hz : ρ z = .int .i64 40) : (execOp ρ o).run Tryd.prog w = .ok (.value (geo oneS.ros)) w := by
  unfold execOp
  simp only [ho, hx, hy, hz, List.map_toArray, List.map_cons, List.map_nil, Sem.run_bind, run_one1, Result.andThen_ok, Sem.run_pure]
theorem exec_one2 (ho : o.op = .build 27 #[(0, x)]) (hx : ρ x = geo oneS.ros) : (execOp ρ o).run Tryd.prog w = .ok (.value (ros oneS.ros)) w := by
  unfold execOp
  simp only [ho, hx, List.map_toArray, List.map_cons, List.map_nil, Sem.run_bind, run_one2, Result.andThen_ok, Sem.run_pure]
theorem exec_one3 (ho : o.op = .build 29 #[(0, x), (1, y), (2, z)]) (hx : ρ x = .int .u64 9) (hy : ρ y = .int .i64 1) (hz : ρ z = ros oneS.ros) : (execOp ρ o).run Tryd.prog w = .ok (.value (sup oneS)) w := by
  unfold execOp
  simp only [ho, hx, hy, hz, List.map_toArray, List.map_cons, List.map_nil, Sem.run_bind, run_one3, Result.andThen_ok, Sem.run_pure]
end
set_option maxHeartbeats 1000000 in
theorem pone (w : World) : Calls Tryd.prog 31 #[] w fun e w' => e = .returned (sup oneS) ∧ Below w.heap.size w w' := by
  have HB := Lib.hid (boxS_new w oneS).2.1
  have HS := Lib.hid (boxS_new w oneS).1.range
  go_enter Tryd.func31, Tryd.ntmps31
  go_wp2_with (first | (refine wpList_valn rfl (exec_allocS rfl) ?_) | (refine wpList_valn rfl (exec_one1 rfl rfl rfl rfl) ?_) | (refine wpList_valn rfl (exec_one2 rfl rfl) ?_) | (refine wpList_valn rfl (exec_one3 rfl rfl rfl rfl) ?_) | (refine wpList_nuln rfl (exec_fillS (c := oneS) rfl rfl rfl) ?_) | fail)
  refine bodyPost_ret (res_rng (t := 29) (cs := celS oneS) rfl _ _ _ rfl HS.out Tryd.underlying29 rfl (by rw [celS_length]; exact sizeS)) rfl ⟨rfl, HB.out⟩
theorem pslot_b (a b : Blk) (k : Nat) (w : World) (T : Tab w) (h : sloT a b = k) : Calls Tryd.prog 20 #[blk a, blk b] w fun e w' => e = .returned (.int .i64 (k : Nat)) ∧ Below w.heap.size w w' := by
  subst h
  exact pslot a b w T
theorem one_ok : supB oneS = true := by decide +kernel
theorem exec_fillN {ρ : Operand → Value} {o : Oper} {x y : Operand} {w : World} {c : Blk} (ho : o.op = .store 31 x y) (hx : ρ x = .pointer (some ⟨w.heap.size, 0, none⟩)) (hy : ρ y = blk c) : (execOp ρ o).run Tryd.prog (w.alloc (.cells (cel zeroB).toArray 31)) = .ok .skip (w.alloc (.cells (cel c).toArray 31)) := exec_fill ho hx hy
set_option maxHeartbeats 4000000 in
theorem super_lives (w : World) (T : Tab w) : Calls Tryd.prog 14 #[] w fun e w' => e = .returned (.bool true) ∧ Below w.heap.size w w' := by
  have e3 : sputE 3 oneS = 0 := sputE_ok (by decide) one_ok
  have e0 : sputE 0 oneS = 2 := sputE_no (by decide)
  have e1 : sputE 1 zeroS = 2 := sputE_no (by rw [sup_zero_no]; decide)
  obtain ⟨g1, g2, g3⟩ := sput_get (n := 3) (x := oneS) (by decide) e3
  have z5 := gs_zero
  have zn : gsN zeroB = 0 := gsN_no (by rw [z5]; omega)
  have zs : gsS zeroB = zeroS := gsS_no (by rw [z5]; omega)
  have HP3 : Hid (∀ w1, Tab w1 → Calls Tryd.prog 8 #[.int .u64 3, sup oneS] w1 fun e w' => e = .returned (.tuple #[blk (sputB 3 oneS), .int .i64 (0 : Nat)]) ∧ Below w1.heap.size w1 w') := Lib.hid fun w1 T1 => by
    have := psput 3 oneS w1 T1 (by omega) (by decide)
    rw [e3] at this
    exact this
  generalize sputB 3 oneS = x at *
  have s1 : sloT x zeroB = 1 := by unfold sloT; rw [g2, zn]; rfl
  have s0 : sloT zeroB x = 0 := by unfold sloT; rw [g2, zn]; rfl
  have HE0 := Lib.hid e0
  have HE1 := Lib.hid e1
  have HG1 := Lib.hid g1
  have HG2 := Lib.hid g2
  have HG3 := Lib.hid g3
  have HZ5 := Lib.hid z5
  have HZN := Lib.hid zn
  have HZS := Lib.hid zs
  have HSL1 := Lib.hid s1
  have HSL0 := Lib.hid s0
  have HT := Lib.hid T
  clear e3 e0 e1 g1 g2 g3 z5 zn zs s1 s0 T
  go_enter Tryd.func14, Tryd.ntmps14
  go_wp2_with fail
  refine (pone w).mono ?_
  rintro e w1 ⟨rfl, hb⟩
  have HB1 := Lib.hid hb
  clear hb
  go_wp2_with fail
  refine (HP3.out w1 (HT.out.below HB1.out)).mono ?_
  rintro e w2 ⟨rfl, hb⟩
  have hb2 := hb.alloc hb.size (.cells (cel x).toArray 31)
  have HB2 := Lib.hid (HB1.out.trans (hb2.mono HB1.out.size))
  have HX2 := Lib.hid (range_new w2 (cel x) 31)
  have HZ2 : Hid (w2.heap.size < (w2.alloc (.cells (cel x).toArray 31)).heap.size) := Lib.hid (by simp only [World.size_alloc]; omega)
  clear hb hb2 HB1
  go_upto_region 2 with (first | (refine wpList_valn rfl (exec_alloc rfl) ?_) | (refine wpList_nuln rfl (exec_fillN rfl rfl rfl) ?_) | fail)
  generalize w2.alloc (.cells (cel x).toArray 31) = w3 at *
  generalize w2.heap.size = xb at *
  go_wp2_with fail
  refine (pone w3).mono ?_
  rintro e w4 ⟨rfl, hb⟩
  have HB4 := Lib.hid (HB2.out.trans (hb.mono HB2.out.size))
  have HX4 := Lib.hid (range_below HX2.out HZ2.out hb)
  have HZ4 : Hid (xb < w4.heap.size) := Lib.hid (Nat.lt_of_lt_of_le HZ2.out hb.size)
  clear hb HB2 HX2 HZ2
  go_wp2_with fail
  refine (psput 0 oneS w4 (HT.out.below HB4.out) (by omega) (by decide)).mono ?_
  rintro e w5 ⟨rfl, hb⟩
  rw [HE0.out]
  generalize sputB 0 oneS = u at *
  have hb2 := hb.alloc hb.size (.cells (cel u).toArray 31)
  have HB5 := Lib.hid (HB4.out.trans (hb2.mono HB4.out.size))
  have HX5 := Lib.hid (range_below HX4.out HZ4.out hb2)
  have HZ5' : Hid (xb < (w5.alloc (.cells (cel u).toArray 31)).heap.size) := Lib.hid (Nat.lt_of_lt_of_le HZ4.out hb2.size)
  clear hb hb2 HB4 HX4 HZ4
  go_upto_region 3 with (first | (refine wpList_valn rfl (exec_alloc rfl) ?_) | (refine wpList_nuln rfl (exec_fillN rfl rfl rfl) ?_) | fail)
  generalize w5.alloc (.cells (cel u).toArray 31) = w6 at *
  go_wp2_with (first | (refine wpList_valn rfl (exec_bldS rfl) ?_) | fail)
  refine (psput 1 zeroS w6 (HT.out.below HB5.out) (by omega) (by decide)).mono ?_
  rintro e w7 ⟨rfl, hb⟩
  rw [HE1.out]
  generalize sputB 1 zeroS = u2 at *
  have hb2 := hb.alloc hb.size (.cells (cel u2).toArray 31)
  have HB6 := Lib.hid (HB5.out.trans (hb2.mono HB5.out.size))
  have HX6 := Lib.hid (range_below HX5.out HZ5'.out hb2)
  have HZ6 : Hid (xb < (w7.alloc (.cells (cel u2).toArray 31)).heap.size) := Lib.hid (Nat.lt_of_lt_of_le HZ5'.out hb2.size)
  clear hb hb2 HB5 HX5 HZ5'
  go_upto_region 4 with (first | (refine wpList_valn rfl (exec_alloc rfl) ?_) | (refine wpList_nuln rfl (exec_fillN rfl rfl rfl) ?_) | fail)
  generalize w7.alloc (.cells (cel u2).toArray 31) = w8 at *
  go_wp2_with (first | (refine wpList_valn rfl (exec_load (c := x) rfl rfl ?_) ?_; (with_reducible exact HX6.out)) | fail)
  refine (psget x w8 (HT.out.below HB6.out)).mono ?_
  rintro e w9 ⟨rfl, hb⟩
  rw [HG2.out, HG3.out, HG1.out]
  have hb2 := hb.alloc hb.size (.cells (celS oneS).toArray 29)
  have HB7 := Lib.hid (HB6.out.trans (hb2.mono HB6.out.size))
  have HX7 := Lib.hid (range_below HX6.out HZ6.out hb2)
  have HS7 := Lib.hid (SupAt.new w9 oneS)
  have HZ7 : Hid (xb < (w9.alloc (.cells (celS oneS).toArray 29)).heap.size) := Lib.hid (Nat.lt_of_lt_of_le HZ6.out hb2.size)
  clear hb hb2 HB6 HX6 HZ6
  go_upto_region 5 with (first | (refine wpList_valn rfl (exec_allocS rfl) ?_) | (refine wpList_nuln rfl (exec_fillS (c := oneS) rfl rfl rfl) ?_) | fail)
  generalize w9.alloc (.cells (celS oneS).toArray 29) = w10 at *
  generalize w9.heap.size = sb at *
  go_wp2_with (first | (refine wpList_valn rfl (exec_build (c := zeroB) (parts := []) rfl rfl) ?_) | fail)
  refine (psget zeroB w10 (HT.out.below HB7.out)).mono ?_
  rintro e w11 ⟨rfl, hb⟩
  rw [HZN.out, HZS.out, HZ5.out]
  have hb2 := hb.alloc hb.size (.cells (celS zeroS).toArray 29)
  have HB8 := Lib.hid (HB7.out.trans (hb2.mono HB7.out.size))
  have HX8 := Lib.hid (range_below HX7.out HZ7.out hb2)
  have HS8 := Lib.hid (HS7.out.below (blk_lt HS7.out) hb2)
  have HZ8 : Hid (xb < (w11.alloc (.cells (celS zeroS).toArray 29)).heap.size) := Lib.hid (Nat.lt_of_lt_of_le HZ7.out hb2.size)
  have HT8 := Lib.hid (HT.out.below HB8.out)
  clear hb hb2 HB7 HX7 HZ7 HS7
  go_upto_region 6 with (first | (refine wpList_valn rfl (exec_allocS rfl) ?_) | (refine wpList_nuln rfl (exec_fillS (c := zeroS) rfl rfl rfl) ?_) | fail)
  generalize w11.alloc (.cells (celS zeroS).toArray 29) = w12 at *
  refine wp_region_above (B := w12.heap.size) (by kernel_rfl) ?_
  refine qv_val rfl (fun w' hw => exec_mv rfl (ev rfl)) ?_
  simp only [Act.put, List.setIfInBounds_toArray, List.set_cons_succ, List.set_cons_zero]
  refine qv_val (v := .bool true) rfl (fun w' hw => exec_eqInt true rfl (ev rfl) evk rfl) ?_
  simp only [Act.put, List.setIfInBounds_toArray, List.set_cons_succ, List.set_cons_zero]
  refine qv_val (v := .bool true) rfl (fun w' hw => exec_mv rfl (ev rfl)) ?_
  simp only [Act.put, List.setIfInBounds_toArray, List.set_cons_succ, List.set_cons_zero]
  refine qv_val (wanted_of rfl rfl rfl rfl) (fun w' hw => exec_mv rfl (ev rfl)) ?_
  simp only [Act.put, List.setIfInBounds_toArray, List.set_cons_succ, List.set_cons_zero]
  refine qv_val (v := .bool true) (wanted_of rfl rfl rfl rfl) (fun w' hw => exec_eqInt true rfl (ev rfl) evk rfl) ?_
  simp only [Act.put, List.setIfInBounds_toArray, List.set_cons_succ, List.set_cons_zero]
  refine qv_val (v := .bool true) rfl (fun w' hw => exec_pt rfl (ev rfl) (ev rfl)) ?_
  simp only [Act.put, List.setIfInBounds_toArray, List.set_cons_succ, List.set_cons_zero]
  refine qv_val (v := .bool true) rfl (fun w' hw => exec_mv rfl (ev rfl)) ?_
  simp only [Act.put, List.setIfInBounds_toArray, List.set_cons_succ, List.set_cons_zero]
  refine qv_val (wanted_of rfl rfl rfl rfl) (fun w' hw => exec_mv rfl (ev rfl)) ?_
  simp only [Act.put, List.setIfInBounds_toArray, List.set_cons_succ, List.set_cons_zero]
  refine qv_val (v := .bool true) (wanted_of rfl rfl rfl rfl) (fun w' hw => exec_eqInt true rfl (ev rfl) evk rfl) ?_
  simp only [Act.put, List.setIfInBounds_toArray, List.set_cons_succ, List.set_cons_zero]
  refine qv_val (v := .bool true) rfl (fun w' hw => exec_pt rfl (ev rfl) (ev rfl)) ?_
  simp only [Act.put, List.setIfInBounds_toArray, List.set_cons_succ, List.set_cons_zero]
  refine qv_val (v := .bool true) rfl (fun w' hw => exec_mv rfl (ev rfl)) ?_
  simp only [Act.put, List.setIfInBounds_toArray, List.set_cons_succ, List.set_cons_zero]
  refine qv_val (wanted_of rfl rfl rfl rfl) (fun w' hw => exec_mv rfl (ev rfl)) ?_
  simp only [Act.put, List.setIfInBounds_toArray, List.set_cons_succ, List.set_cons_zero]
  refine qv_val (v := .bool true) (wanted_of rfl rfl rfl rfl) (fun w' hw => exec_eqInt true rfl (ev rfl) evk rfl) ?_
  simp only [Act.put, List.setIfInBounds_toArray, List.set_cons_succ, List.set_cons_zero]
  refine qv_val (v := .bool true) rfl (fun w' hw => exec_pt rfl (ev rfl) (ev rfl)) ?_
  simp only [Act.put, List.setIfInBounds_toArray, List.set_cons_succ, List.set_cons_zero]
  refine qv_val (v := .bool true) rfl (fun w' hw => exec_mv rfl (ev rfl)) ?_
  simp only [Act.put, List.setIfInBounds_toArray, List.set_cons_succ, List.set_cons_zero]
  refine qv_val (wanted_of rfl rfl rfl rfl) (fun w' hw => exec_loadS (c := oneS) rfl (ev rfl) ((HS8.out.below (blk_lt HS8.out) hw).range)) ?_
  simp only [Act.put, List.setIfInBounds_toArray, List.set_cons_succ, List.set_cons_zero]
  refine qv_call (wanted_of rfl rfl rfl rfl) (fun _ => exec_cl Tryd.call31 rfl evn) (above_of (Nat.le_refl _) fun w' hw => pone w') ?_
  simp only [Act.put, List.setIfInBounds_toArray, List.set_cons_succ, List.set_cons_zero]
  refine qv_val (v := .bool true) (wanted_of rfl rfl rfl rfl) (fun w' hw => exec_eqS true rfl (ev rfl) (ev rfl) (decide_eq_true rfl)) ?_
  simp only [Act.put, List.setIfInBounds_toArray, List.set_cons_succ, List.set_cons_zero]
  refine qv_val (v := .bool true) rfl (fun w' hw => exec_pt rfl (ev rfl) (ev rfl)) ?_
  simp only [Act.put, List.setIfInBounds_toArray, List.set_cons_succ, List.set_cons_zero]
  refine qv_val (v := .bool true) rfl (fun w' hw => exec_mv rfl (ev rfl)) ?_
  simp only [Act.put, List.setIfInBounds_toArray, List.set_cons_succ, List.set_cons_zero]
  refine qv_val (wanted_of rfl rfl rfl rfl) (fun w' hw => exec_mv rfl (ev rfl)) ?_
  simp only [Act.put, List.setIfInBounds_toArray, List.set_cons_succ, List.set_cons_zero]
  refine qv_val (v := .bool true) (wanted_of rfl rfl rfl rfl) (fun w' hw => exec_eqInt true rfl (ev rfl) evk rfl) ?_
  simp only [Act.put, List.setIfInBounds_toArray, List.set_cons_succ, List.set_cons_zero]
  refine qv_val (v := .bool true) rfl (fun w' hw => exec_pt rfl (ev rfl) (ev rfl)) ?_
  simp only [Act.put, List.setIfInBounds_toArray, List.set_cons_succ, List.set_cons_zero]
  refine qv_val (v := .bool true) rfl (fun w' hw => exec_mv rfl (ev rfl)) ?_
  simp only [Act.put, List.setIfInBounds_toArray, List.set_cons_succ, List.set_cons_zero]
  refine qv_val (wanted_of rfl rfl rfl rfl) (fun w' hw => exec_mv rfl (ev rfl)) ?_
  simp only [Act.put, List.setIfInBounds_toArray, List.set_cons_succ, List.set_cons_zero]
  refine qv_val (v := .bool true) (wanted_of rfl rfl rfl rfl) (fun w' hw => exec_eqInt true rfl (ev rfl) evk rfl) ?_
  simp only [Act.put, List.setIfInBounds_toArray, List.set_cons_succ, List.set_cons_zero]
  refine qv_val (v := .bool true) rfl (fun w' hw => exec_pt rfl (ev rfl) (ev rfl)) ?_
  simp only [Act.put, List.setIfInBounds_toArray, List.set_cons_succ, List.set_cons_zero]
  refine qv_val (v := .bool true) rfl (fun w' hw => exec_mv rfl (ev rfl)) ?_
  simp only [Act.put, List.setIfInBounds_toArray, List.set_cons_succ, List.set_cons_zero]
  refine qv_val (wanted_of rfl rfl rfl rfl) (fun w' hw => exec_load (c := x) rfl (ev rfl) (range_below HX8.out HZ8.out hw)) ?_
  simp only [Act.put, List.setIfInBounds_toArray, List.set_cons_succ, List.set_cons_zero]
  refine qv_val (wanted_of rfl rfl rfl rfl) (fun w' hw => exec_build (c := zeroB) (parts := []) rfl rfl) ?_
  simp only [Act.put, List.setIfInBounds_toArray, List.set_cons_succ, List.set_cons_zero]
  refine qv_call (wanted_of rfl rfl rfl rfl) (fun _ => exec_cl Tryd.call20 rfl (evc (ev rfl) (evc (ev rfl) evn))) (above_of (Nat.le_refl _) fun w' hw => pslot_b x zeroB 1 w' (HT8.out.below hw) HSL1.out) ?_
  simp only [Act.put, List.setIfInBounds_toArray, List.set_cons_succ, List.set_cons_zero]
  refine qv_val (v := .bool true) (wanted_of rfl rfl rfl rfl) (fun w' hw => exec_eqInt true rfl (ev rfl) evk rfl) ?_
  simp only [Act.put, List.setIfInBounds_toArray, List.set_cons_succ, List.set_cons_zero]
  refine qv_val (v := .bool true) rfl (fun w' hw => exec_pt rfl (ev rfl) (ev rfl)) ?_
  simp only [Act.put, List.setIfInBounds_toArray, List.set_cons_succ, List.set_cons_zero]
  refine qv_val (v := .bool true) rfl (fun w' hw => exec_mv rfl (ev rfl)) ?_
  simp only [Act.put, List.setIfInBounds_toArray, List.set_cons_succ, List.set_cons_zero]
  refine qv_val (wanted_of rfl rfl rfl rfl) (fun w' hw => exec_build (c := zeroB) (parts := []) rfl rfl) ?_
  simp only [Act.put, List.setIfInBounds_toArray, List.set_cons_succ, List.set_cons_zero]
  refine qv_val (wanted_of rfl rfl rfl rfl) (fun w' hw => exec_load (c := x) rfl (ev rfl) (range_below HX8.out HZ8.out hw)) ?_
  simp only [Act.put, List.setIfInBounds_toArray, List.set_cons_succ, List.set_cons_zero]
  refine qv_call (wanted_of rfl rfl rfl rfl) (fun _ => exec_cl Tryd.call20 rfl (evc (ev rfl) (evc (ev rfl) evn))) (above_of (Nat.le_refl _) fun w' hw => pslot_b zeroB x 0 w' (HT8.out.below hw) HSL0.out) ?_
  simp only [Act.put, List.setIfInBounds_toArray, List.set_cons_succ, List.set_cons_zero]
  refine qv_val (v := .bool true) (wanted_of rfl rfl rfl rfl) (fun w' hw => exec_eqInt true rfl (ev rfl) evk rfl) ?_
  simp only [Act.put, List.setIfInBounds_toArray, List.set_cons_succ, List.set_cons_zero]
  refine qv_val (v := .bool true) rfl (fun w' hw => exec_pt rfl (ev rfl) (ev rfl)) ?_
  simp only [Act.put, List.setIfInBounds_toArray, List.set_cons_succ, List.set_cons_zero]
  refine qv_val (v := .bool true) rfl (fun w' hw => exec_as rfl (ev rfl)) ?_
  simp only [Act.put, List.setIfInBounds_toArray, List.set_cons_succ, List.set_cons_zero]
  refine wpQuiet_nil ?_
  intro w13 hw
  have HB9 := Lib.hid (HB8.out.trans (hw.mono HB8.out.size))
  clear hw
  go_wp2_with fail
  go_ret
  exact ⟨rfl, HB9.out⟩
end Go.Proofs.YtiilclncedipiaaDoor
namespace Go.Proofs.YtiilclncedipiaaDoor
open Go.RowKit
set_option linter.unusedVariables false
set_option linter.unusedSimpArgs false
set_option maxRecDepth 100000

theorem exec_eqlB {ρ : Operand → Value} {o : Oper} {x y : Operand} {w : World} {c d : Blk} {t : TypeId} (b : Bool) (ho : o.op = .binOp .eql 31 x y t) (hx : ρ x = blk c) (hy : ρ y = blk d) (h : decide (c = d) = b) : (execOp ρ o).run Tryd.prog w = .ok (.value (.bool b)) w := by
  subst h; exact exec_eql ho hx hy
theorem faS2 {b : Nat} {w : World} : (Instr.fieldAt 29 (.pointer (some ⟨b, 0, none⟩)) 2).run Tryd.prog w = .ok (.pointer (some ⟨b, 2, none⟩)) w := by kernel_rfl
theorem prosters_b (x y : Ros) (w : World) {b : Bool} (h : decide (x = y) = b) : Calls Tryd.prog 12 #[ros x, ros y] w fun e w' => e = .returned (.bool b) ∧ Below w.heap.size w w' := by
  subst h
  exact prosters x y w
theorem twoS_new (w : World) (x y : Sup) : SupAt ((w.alloc (.cells (celS x).toArray 29)).alloc (.cells (celS y).toArray 29)) w.heap.size x ∧ SupAt ((w.alloc (.cells (celS x).toArray 29)).alloc (.cells (celS y).toArray 29)) (w.heap.size + 1) y ∧ Below w.heap.size w ((w.alloc (.cells (celS x).toArray 29)).alloc (.cells (celS y).toArray 29)) := by
  obtain ⟨h1, h2, h3⟩ := boxS_new w x
  have h4 := SupAt.new (w.alloc (.cells (celS x).toArray 29)) y
  rw [World.size_alloc] at h4
  exact ⟨h1.past _, h4, h2.alloc h2.size _⟩
set_option maxHeartbeats 4000000 in
theorem superPuts_walk (n : Nat) (x y : Sup) (w : World) (T : Tab w) (hn : n < 18446744073709551616) (hid : x.id < 18446744073709551616) :
    Calls Tryd.prog 3 #[.int .u64 n, sup x, sup y] w fun e w' => e = .returned (.bool true) ∧ Below w.heap.size w w' := by
  obtain ⟨h1, h2, h3⟩ := twoS_new w x y
  have HX1 := Lib.hid h1
  have HY1 := Lib.hid h2
  have HB1 := Lib.hid h3
  have HT := Lib.hid T
  have HN := Lib.hid hn
  have HI := Lib.hid hid
  clear h1 h2 h3 T hn hid
  obtain ⟨pb, hpb⟩ : ∃ pb, sputB n x = pb := ⟨_, rfl⟩
  obtain ⟨E, hE⟩ : ∃ E, sputE n x = E := ⟨_, rfl⟩
  have HPB := Lib.hid hpb
  have HE := Lib.hid hE
  have HEE : Hid (((E : Int) == (E : Int)) = true) := Lib.hid (beq_self_eq_true _)
  clear hpb hE
  go_enter Tryd.func3, Tryd.ntmps3
  go_wp2_with (first | (refine wpList_valn rfl (exec_boxS rfl rfl) ?_) | (refine wpList_valn rfl (exec_loadS (c := x) rfl rfl ?_) ?_; (with_reducible exact HX1.out.range)) | fail)
  try simp only [World.size_alloc]
  generalize (w.alloc (.cells (celS x).toArray 29)).alloc (.cells (celS y).toArray 29) = w1 at *
  refine (psput n x w1 (HT.out.below HB1.out) HN.out HI.out).mono ?_
  rintro e w2 ⟨rfl, hb⟩
  rw [HPB.out, HE.out]
  have hb2 := hb.alloc hb.size (.cells (cel pb).toArray 31)
  have HX2 := Lib.hid (HX1.out.below (blk_lt HX1.out) hb2)
  have HY2 := Lib.hid (HY1.out.below (blk_lt HY1.out) hb2)
  have HB3 := Lib.hid (HB1.out.trans (hb2.mono HB1.out.size))
  have HA2 := Lib.hid (range_new w2 (cel pb) 31)
  have HZ2 : Hid (w2.heap.size < (w2.alloc (.cells (cel pb).toArray 31)).heap.size) := Lib.hid (by simp only [World.size_alloc]; omega)
  clear hb hb2 HX1 HY1 HB1
  go_upto_region 2 with (first | (refine wpList_valn rfl (exec_alloc rfl) ?_) | (refine wpList_nuln rfl (exec_fillN rfl rfl rfl) ?_) | fail)
  generalize w2.alloc (.cells (cel pb).toArray 31) = w3 at *
  generalize w2.heap.size = ab at *
  go_wp2_with (first | (refine wpList_valn rfl (exec_loadS (c := x) rfl rfl ?_) ?_; (with_reducible exact HX2.out.range)) | fail)
  refine (rsuput n x w3 HN.out HI.out).mono ?_
  rintro e w4 ⟨rfl, hb⟩
  rw [HPB.out, HE.out]
  have hb2 := hb.alloc hb.size (.cells (cel pb).toArray 31)
  have HX := Lib.hid (HX2.out.below (blk_lt HX2.out) hb2)
  have HY := Lib.hid (HY2.out.below (blk_lt HY2.out) hb2)
  have HB5 := Lib.hid (HB3.out.trans (hb2.mono HB3.out.size))
  have HA := Lib.hid (range_below HA2.out HZ2.out hb2)
  have HZA : Hid (ab < (w4.alloc (.cells (cel pb).toArray 31)).heap.size) := Lib.hid (Nat.lt_of_lt_of_le HZ2.out hb2.size)
  have HB2 := Lib.hid (range_new w4 (cel pb) 31)
  have HZB : Hid (w4.heap.size < (w4.alloc (.cells (cel pb).toArray 31)).heap.size) := Lib.hid (by simp only [World.size_alloc]; omega)
  have HT4 := Lib.hid (HT.out.below HB5.out)
  clear hb hb2 HX2 HY2 HB3 HA2 HZ2
  go_upto_region 3 with (first | (refine wpList_valn rfl (exec_alloc rfl) ?_) | (refine wpList_nuln rfl (exec_fillN rfl rfl rfl) ?_) | fail)
  generalize w4.alloc (.cells (cel pb).toArray 31) = w5 at *
  generalize w4.heap.size = bb at *
  refine wp_region_above (B := w5.heap.size) (by kernel_rfl) ?_
  refine qv_val rfl (fun w' hw => exec_loadS (c := x) rfl (ev rfl) ((HX.out.below (blk_lt HX.out) hw).range)) ?_
  simp only [Act.put, List.setIfInBounds_toArray, List.set_cons_succ, List.set_cons_zero]
  refine qv_call rfl (fun _ => exec_cl Tryd.call10 rfl (evc (ev rfl) evn)) (above_of (Nat.le_refl _) fun w' hw => pmay x w') ?_
  simp only [Act.put, List.setIfInBounds_toArray, List.set_cons_succ, List.set_cons_zero]
  refine qv_val rfl (fun w' hw => exec_loadS (c := x) rfl (ev rfl) ((HX.out.below (blk_lt HX.out) hw).range)) ?_
  simp only [Act.put, List.setIfInBounds_toArray, List.set_cons_succ, List.set_cons_zero]
  refine qv_call rfl (fun _ => exec_cl Tryd.call11 rfl (evc (ev rfl) evn)) (above_of (Nat.le_refl _) fun w' hw => rmay x w') ?_
  simp only [Act.put, List.setIfInBounds_toArray, List.set_cons_succ, List.set_cons_zero]
  refine qv_val (v := .bool true) rfl (fun w' hw => exec_eqBool true rfl (ev rfl) (ev rfl) (beq_self_eq_true _)) ?_
  simp only [Act.put, List.setIfInBounds_toArray, List.set_cons_succ, List.set_cons_zero]
  refine qv_val (v := .bool true) rfl (fun w' hw => exec_mv rfl (ev rfl)) ?_
  simp only [Act.put, List.setIfInBounds_toArray, List.set_cons_succ, List.set_cons_zero]
  refine qv_val (wanted_of rfl rfl rfl rfl) (fun w' hw => exec_load (c := pb) rfl (ev rfl) (range_below HA.out HZA.out hw)) ?_
  simp only [Act.put, List.setIfInBounds_toArray, List.set_cons_succ, List.set_cons_zero]
  refine qv_val (wanted_of rfl rfl rfl rfl) (fun w' hw => exec_load (c := pb) rfl (ev rfl) (range_below HB2.out HZB.out hw)) ?_
  simp only [Act.put, List.setIfInBounds_toArray, List.set_cons_succ, List.set_cons_zero]
  refine qv_val (v := .bool true) (wanted_of rfl rfl rfl rfl) (fun w' hw => exec_eqlB true rfl (ev rfl) (ev rfl) (decide_eq_true rfl)) ?_
  simp only [Act.put, List.setIfInBounds_toArray, List.set_cons_succ, List.set_cons_zero]
  refine qv_val (v := .bool true) rfl (fun w' hw => exec_pt rfl (ev rfl) (ev rfl)) ?_
  simp only [Act.put, List.setIfInBounds_toArray, List.set_cons_succ, List.set_cons_zero]
  refine qv_val (v := .bool true) rfl (fun w' hw => exec_mv rfl (ev rfl)) ?_
  simp only [Act.put, List.setIfInBounds_toArray, List.set_cons_succ, List.set_cons_zero]
  refine qv_val (wanted_of rfl rfl rfl rfl) (fun w' hw => exec_mv rfl (ev rfl)) ?_
  simp only [Act.put, List.setIfInBounds_toArray, List.set_cons_succ, List.set_cons_zero]
  refine qv_val (wanted_of rfl rfl rfl rfl) (fun w' hw => exec_mv rfl (ev rfl)) ?_
  simp only [Act.put, List.setIfInBounds_toArray, List.set_cons_succ, List.set_cons_zero]
  refine qv_val (v := .bool true) (wanted_of rfl rfl rfl rfl) (fun w' hw => exec_eqInt true rfl (ev rfl) (ev rfl) HEE.out) ?_
  simp only [Act.put, List.setIfInBounds_toArray, List.set_cons_succ, List.set_cons_zero]
  refine qv_val (v := .bool true) rfl (fun w' hw => exec_pt rfl (ev rfl) (ev rfl)) ?_
  simp only [Act.put, List.setIfInBounds_toArray, List.set_cons_succ, List.set_cons_zero]
  refine qv_val (v := .bool true) rfl (fun w' hw => exec_mv rfl (ev rfl)) ?_
  simp only [Act.put, List.setIfInBounds_toArray, List.set_cons_succ, List.set_cons_zero]
  refine qv_val (wanted_of rfl rfl rfl rfl) (fun w' hw => exec_faddr rfl (ev rfl) faS2) ?_
  simp only [Act.put, List.setIfInBounds_toArray, List.set_cons_succ, List.set_cons_zero]
  refine qv_val (wanted_of rfl rfl rfl rfl) (fun w' hw => exec_loadR (c := x.ros) rfl (ev rfl) ((HX.out.below (blk_lt HX.out) hw).rosr)) ?_
  simp only [Act.put, List.setIfInBounds_toArray, List.set_cons_succ, List.set_cons_zero]
  refine qv_val (wanted_of rfl rfl rfl rfl) (fun w' hw => exec_faddr rfl (ev rfl) faS2) ?_
  simp only [Act.put, List.setIfInBounds_toArray, List.set_cons_succ, List.set_cons_zero]
  refine qv_val (wanted_of rfl rfl rfl rfl) (fun w' hw => exec_loadR (c := y.ros) rfl (ev rfl) ((HY.out.below (blk_lt HY.out) hw).rosr)) ?_
  simp only [Act.put, List.setIfInBounds_toArray, List.set_cons_succ, List.set_cons_zero]
  refine qv_call (wanted_of rfl rfl rfl rfl) (fun _ => exec_cl Tryd.call12 rfl (evc (ev rfl) (evc (ev rfl) evn))) (above_of (Nat.le_refl _) fun w' hw => prosters x.ros y.ros w') ?_
  simp only [Act.put, List.setIfInBounds_toArray, List.set_cons_succ, List.set_cons_zero]
  refine qv_val (wanted_of rfl rfl rfl rfl) (fun w' hw => exec_faddr rfl (ev rfl) faS2) ?_
  simp only [Act.put, List.setIfInBounds_toArray, List.set_cons_succ, List.set_cons_zero]
  refine qv_val (wanted_of rfl rfl rfl rfl) (fun w' hw => exec_loadR (c := x.ros) rfl (ev rfl) ((HX.out.below (blk_lt HX.out) hw).rosr)) ?_
  simp only [Act.put, List.setIfInBounds_toArray, List.set_cons_succ, List.set_cons_zero]
  refine qv_val (wanted_of rfl rfl rfl rfl) (fun w' hw => exec_faddr rfl (ev rfl) faS2) ?_
  simp only [Act.put, List.setIfInBounds_toArray, List.set_cons_succ, List.set_cons_zero]
  refine qv_val (wanted_of rfl rfl rfl rfl) (fun w' hw => exec_loadR (c := y.ros) rfl (ev rfl) ((HY.out.below (blk_lt HY.out) hw).rosr)) ?_
  simp only [Act.put, List.setIfInBounds_toArray, List.set_cons_succ, List.set_cons_zero]
  refine qv_call (wanted_of rfl rfl rfl rfl) (fun _ => exec_cl Tryd.call13 rfl (evc (ev rfl) (evc (ev rfl) evn))) (above_of (Nat.le_refl _) fun w' hw => rrosters x.ros y.ros w') ?_
  simp only [Act.put, List.setIfInBounds_toArray, List.set_cons_succ, List.set_cons_zero]
  refine qv_val (v := .bool true) (wanted_of rfl rfl rfl rfl) (fun w' hw => exec_eqBool true rfl (ev rfl) (ev rfl) (beq_self_eq_true _)) ?_
  simp only [Act.put, List.setIfInBounds_toArray, List.set_cons_succ, List.set_cons_zero]
  refine qv_val (v := .bool true) rfl (fun w' hw => exec_pt rfl (ev rfl) (ev rfl)) ?_
  simp only [Act.put, List.setIfInBounds_toArray, List.set_cons_succ, List.set_cons_zero]
  refine qv_val (v := .bool true) rfl (fun w' hw => exec_mv rfl (ev rfl)) ?_
  simp only [Act.put, List.setIfInBounds_toArray, List.set_cons_succ, List.set_cons_zero]
  refine qv_val (wanted_of rfl rfl rfl rfl) (fun w' hw => exec_faddr rfl (ev rfl) faS2) ?_
  simp only [Act.put, List.setIfInBounds_toArray, List.set_cons_succ, List.set_cons_zero]
  refine qv_val (wanted_of rfl rfl rfl rfl) (fun w' hw => exec_loadR (c := x.ros) rfl (ev rfl) ((HX.out.below (blk_lt HX.out) hw).rosr)) ?_
  simp only [Act.put, List.setIfInBounds_toArray, List.set_cons_succ, List.set_cons_zero]
  refine qv_val (wanted_of rfl rfl rfl rfl) (fun w' hw => exec_faddr rfl (ev rfl) faS2) ?_
  simp only [Act.put, List.setIfInBounds_toArray, List.set_cons_succ, List.set_cons_zero]
  refine qv_val (wanted_of rfl rfl rfl rfl) (fun w' hw => exec_loadR (c := x.ros) rfl (ev rfl) ((HX.out.below (blk_lt HX.out) hw).rosr)) ?_
  simp only [Act.put, List.setIfInBounds_toArray, List.set_cons_succ, List.set_cons_zero]
  refine qv_call (wanted_of rfl rfl rfl rfl) (fun _ => exec_cl Tryd.call12 rfl (evc (ev rfl) (evc (ev rfl) evn))) (above_of (Nat.le_refl _) fun w' hw => prosters_b x.ros x.ros w' (decide_eq_true rfl)) ?_
  simp only [Act.put, List.setIfInBounds_toArray, List.set_cons_succ, List.set_cons_zero]
  refine qv_val (v := .bool true) rfl (fun w' hw => exec_pt rfl (ev rfl) (ev rfl)) ?_
  simp only [Act.put, List.setIfInBounds_toArray, List.set_cons_succ, List.set_cons_zero]
  refine qv_val (v := .bool true) rfl (fun w' hw => exec_mv rfl (ev rfl)) ?_
  simp only [Act.put, List.setIfInBounds_toArray, List.set_cons_succ, List.set_cons_zero]
  refine qv_call (wanted_of rfl rfl rfl rfl) (fun _ => exec_cl Tryd.call14 rfl evn) (above_of (Nat.le_refl _) fun w' hw => super_lives w' (HT4.out.below hw)) ?_
  simp only [Act.put, List.setIfInBounds_toArray, List.set_cons_succ, List.set_cons_zero]
  refine qv_val (v := .bool true) rfl (fun w' hw => exec_pt rfl (ev rfl) (ev rfl)) ?_
  simp only [Act.put, List.setIfInBounds_toArray, List.set_cons_succ, List.set_cons_zero]
  refine qv_val (v := .bool true) rfl (fun w' hw => exec_as rfl (ev rfl)) ?_
  simp only [Act.put, List.setIfInBounds_toArray, List.set_cons_succ, List.set_cons_zero]
  refine wpQuiet_nil ?_
  intro w6 hw
  have HB6 := Lib.hid (HB5.out.trans (hw.mono HB5.out.size))
  clear hw
  go_wp2_with fail
  go_ret
  exact ⟨rfl, HB6.out⟩
end Go.Proofs.YtiilclncedipiaaDoor
