/-
  Does the second note's record come behind the first one's: the program's, the document's.
-/
import Derived.Test.YtiandcigoflcmaaDoorNta
import Derived.Test.YtiandcigoflcmaaDoorCrs
import Derived.Test.YtiandcigoflcmaaDoorSkq
namespace Go.Proofs.YtiandcigoflcmaaDoor
open Go.RowKit
set_option linter.unusedVariables false
set_option linter.unusedSimpArgs false
set_option maxRecDepth 100000

theorem rsize_d (n : Int) (k : Nat) (w : World) (h : sizN n = k) : Calls Tryd.prog 25 #[.int .i64 n] w fun e w' => e = .returned (.int .i64 (k : Nat)) ∧ Below w.heap.size w w' := by
  subst h
  exact (rsize n w).mono fun e w' ⟨he, hw⟩ => ⟨he, hw ▸ Below.refl _ _⟩
set_option maxHeartbeats 2000000 in
theorem pntfols (x y : Nte) (w : World) : Calls Tryd.prog 13 #[nte x, nte y] w fun e w' => e = .returned (.bool (folB x y)) ∧ Below w.heap.size w w' := by
  have h1 := (Below.refl w.heap.size w).alloc (Nat.le_refl _) (.cells (celNt x).toArray 25)
  have h2 := h1.alloc h1.size (.cells (celNt y).toArray 25)
  have HB := Lib.hid h2
  have HX := Lib.hid ((NteAt.new w x).past (.cells (celNt y).toArray 25))
  have hz := NteAt.new (w.alloc (.cells (celNt x).toArray 25)) y
  rw [World.size_alloc] at hz
  have HY := Lib.hid hz
  clear h1 h2 hz
  go_enter Tryd.func13, Tryd.ntmps13
  go_upto_region 1 with (first | (refine wpList_valn rfl (exec_boxNt rfl rfl) ?_) | fail)
  try simp only [World.size_alloc]
  generalize (w.alloc (.cells (celNt x).toArray 25)).alloc (.cells (celNt y).toArray 25) = w1 at *
  by_cases hx : nteB x = true
  · have HMX := Lib.hid hx
    by_cases hy : nteB y = true
    · have HMY := Lib.hid hy
      by_cases hd : y = behNt x y.cells y.sum
      · have HD : Hid (decide (y = behNt x y.cells y.sum) = true) := Lib.hid (decide_eq_true hd)
        have HV : Hid (folB x y = true) := Lib.hid (by rw [fol_beh hx hy]; exact HD.out)
        clear hx hy hd
        refine wp_region_above (B := w1.heap.size) (by kernel_rfl) ?_
        refine qv_val rfl (fun w' hw => exec_loadNt (c := x) rfl (ev rfl) ((HX.out.below (blk_lt HX.out) hw).range)) ?_
        simp only [Act.put, List.setIfInBounds_toArray, List.set_cons_succ, List.set_cons_zero]
        refine qv_call rfl (fun _ => exec_cl Tryd.call9 rfl (evc (ev rfl) evn)) (above_of (Nat.le_refl _) fun w' hw => pntmay_b x w' HMX.out) ?_
        simp only [Act.put, List.setIfInBounds_toArray, List.set_cons_succ, List.set_cons_zero]
        refine qv_val (v := .bool true) rfl (fun w' hw => exec_mv rfl (ev rfl)) ?_
        simp only [Act.put, List.setIfInBounds_toArray, List.set_cons_succ, List.set_cons_zero]
        refine qv_val (wanted_of rfl rfl rfl rfl) (fun w' hw => exec_loadNt (c := y) rfl (ev rfl) ((HY.out.below (blk_lt HY.out) hw).range)) ?_
        simp only [Act.put, List.setIfInBounds_toArray, List.set_cons_succ, List.set_cons_zero]
        refine qv_call (wanted_of rfl rfl rfl rfl) (fun _ => exec_cl Tryd.call9 rfl (evc (ev rfl) evn)) (above_of (Nat.le_refl _) fun w' hw => pntmay_b y w' HMY.out) ?_
        simp only [Act.put, List.setIfInBounds_toArray, List.set_cons_succ, List.set_cons_zero]
        refine qv_val (v := .bool true) rfl (fun w' hw => exec_pt rfl (ev rfl) (ev rfl)) ?_
        simp only [Act.put, List.setIfInBounds_toArray, List.set_cons_succ, List.set_cons_zero]
        refine qv_val (v := .bool true) rfl (fun w' hw => exec_mv rfl (ev rfl)) ?_
        simp only [Act.put, List.setIfInBounds_toArray, List.set_cons_succ, List.set_cons_zero]
        refine qv_val (wanted_of rfl rfl rfl rfl) (fun w' hw => exec_loadNt (c := y) rfl (ev rfl) ((HY.out.below (blk_lt HY.out) hw).range)) ?_
        simp only [Act.put, List.setIfInBounds_toArray, List.set_cons_succ, List.set_cons_zero]
        refine qv_val (wanted_of rfl rfl rfl rfl) (fun w' hw => exec_loadNt (c := x) rfl (ev rfl) ((HX.out.below (blk_lt HX.out) hw).range)) ?_
        simp only [Act.put, List.setIfInBounds_toArray, List.set_cons_succ, List.set_cons_zero]
        refine qv_val (wanted_of rfl rfl rfl rfl) (fun w' hw => exec_faddr rfl (ev rfl) faNt2) ?_
        simp only [Act.put, List.setIfInBounds_toArray, List.set_cons_succ, List.set_cons_zero]
        refine qv_val (wanted_of rfl rfl rfl rfl) (fun w' hw => exec_ld rfl (ev rfl) (ldInt (HY.out.below (blk_lt HY.out) hw).cells.2.2.1)) ?_
        simp only [Act.put, List.setIfInBounds_toArray, List.set_cons_succ, List.set_cons_zero]
        refine qv_val (wanted_of rfl rfl rfl rfl) (fun w' hw => exec_faddr rfl (ev rfl) faNt3) ?_
        simp only [Act.put, List.setIfInBounds_toArray, List.set_cons_succ, List.set_cons_zero]
        refine qv_val (wanted_of rfl rfl rfl rfl) (fun w' hw => exec_ld rfl (ev rfl) (ldU32 (HY.out.below (blk_lt HY.out) hw).cells.2.2.2)) ?_
        simp only [Act.put, List.setIfInBounds_toArray, List.set_cons_succ, List.set_cons_zero]
        refine qv_call (wanted_of rfl rfl rfl rfl) (fun _ => exec_cl Tryd.call24 rfl (evc (ev rfl) (evc (ev rfl) (evc (ev rfl) evn)))) (above_of (Nat.le_refl _) fun w' hw => pntfol x y.cells y.sum w' HMX.out) ?_
        simp only [Act.put, List.setIfInBounds_toArray, List.set_cons_succ, List.set_cons_zero]
        refine qv_val (v := .bool true) (wanted_of rfl rfl rfl rfl) (fun w' hw => exec_eqNt true rfl (ev rfl) (ev rfl) HD.out) ?_
        simp only [Act.put, List.setIfInBounds_toArray, List.set_cons_succ, List.set_cons_zero]
        refine qv_val (v := .bool true) rfl (fun w' hw => exec_pt rfl (ev rfl) (ev rfl)) ?_
        simp only [Act.put, List.setIfInBounds_toArray, List.set_cons_succ, List.set_cons_zero]
        refine qv_val (v := .bool true) rfl (fun w' hw => exec_as rfl (ev rfl)) ?_
        simp only [Act.put, List.setIfInBounds_toArray, List.set_cons_succ, List.set_cons_zero]
        refine wpQuiet_nil ?_
        intro w2 hw
        have HB2 := Lib.hid (HB.out.trans (hw.mono HB.out.size))
        clear hw
        go_wp2_with fail
        go_ret
        exact ⟨ret_bool (by rw [HV.out]), HB2.out⟩
      · have HD : Hid (decide (y = behNt x y.cells y.sum) = false) := Lib.hid (decide_eq_false hd)
        have HV : Hid (folB x y = false) := Lib.hid (by rw [fol_beh hx hy]; exact HD.out)
        clear hx hy hd
        refine wp_region_above (B := w1.heap.size) (by kernel_rfl) ?_
        refine qv_val rfl (fun w' hw => exec_loadNt (c := x) rfl (ev rfl) ((HX.out.below (blk_lt HX.out) hw).range)) ?_
        simp only [Act.put, List.setIfInBounds_toArray, List.set_cons_succ, List.set_cons_zero]
        refine qv_call rfl (fun _ => exec_cl Tryd.call9 rfl (evc (ev rfl) evn)) (above_of (Nat.le_refl _) fun w' hw => pntmay_b x w' HMX.out) ?_
        simp only [Act.put, List.setIfInBounds_toArray, List.set_cons_succ, List.set_cons_zero]
        refine qv_val (v := .bool true) rfl (fun w' hw => exec_mv rfl (ev rfl)) ?_
        simp only [Act.put, List.setIfInBounds_toArray, List.set_cons_succ, List.set_cons_zero]
        refine qv_val (wanted_of rfl rfl rfl rfl) (fun w' hw => exec_loadNt (c := y) rfl (ev rfl) ((HY.out.below (blk_lt HY.out) hw).range)) ?_
        simp only [Act.put, List.setIfInBounds_toArray, List.set_cons_succ, List.set_cons_zero]
        refine qv_call (wanted_of rfl rfl rfl rfl) (fun _ => exec_cl Tryd.call9 rfl (evc (ev rfl) evn)) (above_of (Nat.le_refl _) fun w' hw => pntmay_b y w' HMY.out) ?_
        simp only [Act.put, List.setIfInBounds_toArray, List.set_cons_succ, List.set_cons_zero]
        refine qv_val (v := .bool true) rfl (fun w' hw => exec_pt rfl (ev rfl) (ev rfl)) ?_
        simp only [Act.put, List.setIfInBounds_toArray, List.set_cons_succ, List.set_cons_zero]
        refine qv_val (v := .bool true) rfl (fun w' hw => exec_mv rfl (ev rfl)) ?_
        simp only [Act.put, List.setIfInBounds_toArray, List.set_cons_succ, List.set_cons_zero]
        refine qv_val (wanted_of rfl rfl rfl rfl) (fun w' hw => exec_loadNt (c := y) rfl (ev rfl) ((HY.out.below (blk_lt HY.out) hw).range)) ?_
        simp only [Act.put, List.setIfInBounds_toArray, List.set_cons_succ, List.set_cons_zero]
        refine qv_val (wanted_of rfl rfl rfl rfl) (fun w' hw => exec_loadNt (c := x) rfl (ev rfl) ((HX.out.below (blk_lt HX.out) hw).range)) ?_
        simp only [Act.put, List.setIfInBounds_toArray, List.set_cons_succ, List.set_cons_zero]
        refine qv_val (wanted_of rfl rfl rfl rfl) (fun w' hw => exec_faddr rfl (ev rfl) faNt2) ?_
        simp only [Act.put, List.setIfInBounds_toArray, List.set_cons_succ, List.set_cons_zero]
        refine qv_val (wanted_of rfl rfl rfl rfl) (fun w' hw => exec_ld rfl (ev rfl) (ldInt (HY.out.below (blk_lt HY.out) hw).cells.2.2.1)) ?_
        simp only [Act.put, List.setIfInBounds_toArray, List.set_cons_succ, List.set_cons_zero]
        refine qv_val (wanted_of rfl rfl rfl rfl) (fun w' hw => exec_faddr rfl (ev rfl) faNt3) ?_
        simp only [Act.put, List.setIfInBounds_toArray, List.set_cons_succ, List.set_cons_zero]
        refine qv_val (wanted_of rfl rfl rfl rfl) (fun w' hw => exec_ld rfl (ev rfl) (ldU32 (HY.out.below (blk_lt HY.out) hw).cells.2.2.2)) ?_
        simp only [Act.put, List.setIfInBounds_toArray, List.set_cons_succ, List.set_cons_zero]
        refine qv_call (wanted_of rfl rfl rfl rfl) (fun _ => exec_cl Tryd.call24 rfl (evc (ev rfl) (evc (ev rfl) (evc (ev rfl) evn)))) (above_of (Nat.le_refl _) fun w' hw => pntfol x y.cells y.sum w' HMX.out) ?_
        simp only [Act.put, List.setIfInBounds_toArray, List.set_cons_succ, List.set_cons_zero]
        refine qv_val (v := .bool false) (wanted_of rfl rfl rfl rfl) (fun w' hw => exec_eqNt false rfl (ev rfl) (ev rfl) HD.out) ?_
        simp only [Act.put, List.setIfInBounds_toArray, List.set_cons_succ, List.set_cons_zero]
        refine qv_val (v := .bool false) rfl (fun w' hw => exec_pt rfl (ev rfl) (ev rfl)) ?_
        simp only [Act.put, List.setIfInBounds_toArray, List.set_cons_succ, List.set_cons_zero]
        refine qv_val (v := .bool false) rfl (fun w' hw => exec_as rfl (ev rfl)) ?_
        simp only [Act.put, List.setIfInBounds_toArray, List.set_cons_succ, List.set_cons_zero]
        refine wpQuiet_nil ?_
        intro w2 hw
        have HB2 := Lib.hid (HB.out.trans (hw.mono HB.out.size))
        clear hw
        go_wp2_with fail
        go_ret
        exact ⟨ret_bool (by rw [HV.out]), HB2.out⟩
    · have hy' : nteB y = false := by simpa using hy
      have HMY := Lib.hid hy'
      have HV := Lib.hid (fol_no2 (x := x) hy')
      clear hx hy hy'
      refine wp_region_above (B := w1.heap.size) (by kernel_rfl) ?_
      refine qv_val rfl (fun w' hw => exec_loadNt (c := x) rfl (ev rfl) ((HX.out.below (blk_lt HX.out) hw).range)) ?_
      simp only [Act.put, List.setIfInBounds_toArray, List.set_cons_succ, List.set_cons_zero]
      refine qv_call rfl (fun _ => exec_cl Tryd.call9 rfl (evc (ev rfl) evn)) (above_of (Nat.le_refl _) fun w' hw => pntmay_b x w' HMX.out) ?_
      simp only [Act.put, List.setIfInBounds_toArray, List.set_cons_succ, List.set_cons_zero]
      refine qv_val (v := .bool true) rfl (fun w' hw => exec_mv rfl (ev rfl)) ?_
      simp only [Act.put, List.setIfInBounds_toArray, List.set_cons_succ, List.set_cons_zero]
      refine qv_val (wanted_of rfl rfl rfl rfl) (fun w' hw => exec_loadNt (c := y) rfl (ev rfl) ((HY.out.below (blk_lt HY.out) hw).range)) ?_
      simp only [Act.put, List.setIfInBounds_toArray, List.set_cons_succ, List.set_cons_zero]
      refine qv_call (wanted_of rfl rfl rfl rfl) (fun _ => exec_cl Tryd.call9 rfl (evc (ev rfl) evn)) (above_of (Nat.le_refl _) fun w' hw => pntmay_b y w' HMY.out) ?_
      simp only [Act.put, List.setIfInBounds_toArray, List.set_cons_succ, List.set_cons_zero]
      refine qv_val (v := .bool false) rfl (fun w' hw => exec_pt rfl (ev rfl) (ev rfl)) ?_
      simp only [Act.put, List.setIfInBounds_toArray, List.set_cons_succ, List.set_cons_zero]
      refine qv_vals 8 (v := .bool false) rfl (fun w' hw => exec_mv rfl (ev rfl)) (by kernel_rfl) ?_
      simp only [skipAct, List.take_succ_cons, List.take_zero, List.drop_succ_cons, List.drop_zero, Act.put, List.setIfInBounds_toArray, List.set_cons_succ, List.set_cons_zero]
      refine qv_val (v := .bool false) rfl (fun w' hw => exec_pf rfl (ev rfl) evk) ?_
      simp only [Act.put, List.setIfInBounds_toArray, List.set_cons_succ, List.set_cons_zero]
      refine qv_val (v := .bool false) rfl (fun w' hw => exec_as rfl (ev rfl)) ?_
      simp only [Act.put, List.setIfInBounds_toArray, List.set_cons_succ, List.set_cons_zero]
      refine wpQuiet_nil ?_
      intro w2 hw
      have HB2 := Lib.hid (HB.out.trans (hw.mono HB.out.size))
      clear hw
      go_wp2_with fail
      go_ret
      exact ⟨ret_bool (by rw [HV.out]), HB2.out⟩
  · have hx' : nteB x = false := by simpa using hx
    have HMX := Lib.hid hx'
    have HV := Lib.hid (fol_no1 (y := y) hx')
    clear hx hx'
    refine wp_region_above (B := w1.heap.size) (by kernel_rfl) ?_
    refine qv_val rfl (fun w' hw => exec_loadNt (c := x) rfl (ev rfl) ((HX.out.below (blk_lt HX.out) hw).range)) ?_
    simp only [Act.put, List.setIfInBounds_toArray, List.set_cons_succ, List.set_cons_zero]
    refine qv_call rfl (fun _ => exec_cl Tryd.call9 rfl (evc (ev rfl) evn)) (above_of (Nat.le_refl _) fun w' hw => pntmay_b x w' HMX.out) ?_
    simp only [Act.put, List.setIfInBounds_toArray, List.set_cons_succ, List.set_cons_zero]
    refine qv_vals 2 (v := .bool false) rfl (fun w' hw => exec_mv rfl (ev rfl)) (by kernel_rfl) ?_
    simp only [skipAct, List.take_succ_cons, List.take_zero, List.drop_succ_cons, List.drop_zero, Act.put, List.setIfInBounds_toArray, List.set_cons_succ, List.set_cons_zero]
    refine qv_val (v := .bool false) rfl (fun w' hw => exec_pf rfl (ev rfl) evk) ?_
    simp only [Act.put, List.setIfInBounds_toArray, List.set_cons_succ, List.set_cons_zero]
    refine qv_vals 8 (v := .bool false) rfl (fun w' hw => exec_mv rfl (ev rfl)) (by kernel_rfl) ?_
    simp only [skipAct, List.take_succ_cons, List.take_zero, List.drop_succ_cons, List.drop_zero, Act.put, List.setIfInBounds_toArray, List.set_cons_succ, List.set_cons_zero]
    refine qv_val (v := .bool false) rfl (fun w' hw => exec_pf rfl (ev rfl) evk) ?_
    simp only [Act.put, List.setIfInBounds_toArray, List.set_cons_succ, List.set_cons_zero]
    refine qv_val (v := .bool false) rfl (fun w' hw => exec_as rfl (ev rfl)) ?_
    simp only [Act.put, List.setIfInBounds_toArray, List.set_cons_succ, List.set_cons_zero]
    refine wpQuiet_nil ?_
    intro w2 hw
    have HB2 := Lib.hid (HB.out.trans (hw.mono HB.out.size))
    clear hw
    go_wp2_with fail
    go_ret
    exact ⟨ret_bool (by rw [HV.out]), HB2.out⟩
set_option maxHeartbeats 2000000 in
theorem rntfols (x y : Nte) (w : World) : Calls Tryd.prog 14 #[nte x, nte y] w fun e w' => e = .returned (.bool (folB x y)) ∧ Below w.heap.size w w' := by
  have h1 := (Below.refl w.heap.size w).alloc (Nat.le_refl _) (.cells (celNt x).toArray 25)
  have h2 := h1.alloc h1.size (.cells (celNt y).toArray 25)
  have HB := Lib.hid h2
  have HX := Lib.hid ((NteAt.new w x).past (.cells (celNt y).toArray 25))
  have hz := NteAt.new (w.alloc (.cells (celNt x).toArray 25)) y
  rw [World.size_alloc] at hz
  have HY := Lib.hid hz
  clear h1 h2 hz
  go_enter Tryd.func14, Tryd.ntmps14
  go_upto_region 1 with (first | (refine wpList_valn rfl (exec_boxNt rfl rfl) ?_) | fail)
  try simp only [World.size_alloc]
  generalize (w.alloc (.cells (celNt x).toArray 25)).alloc (.cells (celNt y).toArray 25) = w1 at *
  by_cases hx : nteB x = true
  · have HMX := Lib.hid hx
    by_cases hy : nteB y = true
    · have HMY := Lib.hid hy
      have hmx := of_nteB hx
      have htk := takNt_le hx
      have HSZ := Lib.hid (takNt_siz hx)
      have HSQ : Hid (x.seq + 1 < 18446744073709551616) := Lib.hid (by omega)
      have HPS : Hid (x.pos + takNt x < 18446744073709551616) := Lib.hid (by omega)
      have HTL : Hid (takNt x < 18446744073709551616) := Lib.hid (by omega)
      clear hmx htk
      by_cases hq : y.seq = x.seq + 1
      · have HQ : Hid ((((y.seq : Nat) : Int) == ((x.seq + 1 : Nat) : Int)) = true) := Lib.hid (by rw [hq]; exact beq_self_eq_true _)
        by_cases hd : y.pos = x.pos + takNt x
        · have HD : Hid ((((y.pos : Nat) : Int) == ((x.pos + takNt x : Nat) : Int)) = true) := Lib.hid (by rw [hd]; exact beq_self_eq_true _)
          have HV : Hid (folB x y = true) := Lib.hid (by rw [fol_of hx hy]; exact decide_eq_true ⟨hq, hd⟩)
          clear hx hy hq hd
          refine wp_region_above (B := w1.heap.size) (by kernel_rfl) ?_
          refine qv_val rfl (fun w' hw => exec_loadNt (c := x) rfl (ev rfl) ((HX.out.below (blk_lt HX.out) hw).range)) ?_
          simp only [Act.put, List.setIfInBounds_toArray, List.set_cons_succ, List.set_cons_zero]
          refine qv_call rfl (fun _ => exec_cl Tryd.call10 rfl (evc (ev rfl) evn)) (above_of (Nat.le_refl _) fun w' hw => rntmay_b x w' HMX.out) ?_
          simp only [Act.put, List.setIfInBounds_toArray, List.set_cons_succ, List.set_cons_zero]
          refine qv_val (v := .bool true) rfl (fun w' hw => exec_mv rfl (ev rfl)) ?_
          simp only [Act.put, List.setIfInBounds_toArray, List.set_cons_succ, List.set_cons_zero]
          refine qv_val (wanted_of rfl rfl rfl rfl) (fun w' hw => exec_loadNt (c := y) rfl (ev rfl) ((HY.out.below (blk_lt HY.out) hw).range)) ?_
          simp only [Act.put, List.setIfInBounds_toArray, List.set_cons_succ, List.set_cons_zero]
          refine qv_call (wanted_of rfl rfl rfl rfl) (fun _ => exec_cl Tryd.call10 rfl (evc (ev rfl) evn)) (above_of (Nat.le_refl _) fun w' hw => rntmay_b y w' HMY.out) ?_
          simp only [Act.put, List.setIfInBounds_toArray, List.set_cons_succ, List.set_cons_zero]
          refine qv_val (v := .bool true) rfl (fun w' hw => exec_pt rfl (ev rfl) (ev rfl)) ?_
          simp only [Act.put, List.setIfInBounds_toArray, List.set_cons_succ, List.set_cons_zero]
          refine qv_val (v := .bool true) rfl (fun w' hw => exec_mv rfl (ev rfl)) ?_
          simp only [Act.put, List.setIfInBounds_toArray, List.set_cons_succ, List.set_cons_zero]
          refine qv_val (wanted_of rfl rfl rfl rfl) (fun w' hw => exec_faddr rfl (ev rfl) faNt0) ?_
          simp only [Act.put, List.setIfInBounds_toArray, List.set_cons_succ, List.set_cons_zero]
          refine qv_val (wanted_of rfl rfl rfl rfl) (fun w' hw => exec_ld rfl (ev rfl) (ldU64 (HY.out.below (blk_lt HY.out) hw).cells.1)) ?_
          simp only [Act.put, List.setIfInBounds_toArray, List.set_cons_succ, List.set_cons_zero]
          refine qv_val (wanted_of rfl rfl rfl rfl) (fun w' hw => exec_faddr rfl (ev rfl) faNt0) ?_
          simp only [Act.put, List.setIfInBounds_toArray, List.set_cons_succ, List.set_cons_zero]
          refine qv_val (wanted_of rfl rfl rfl rfl) (fun w' hw => exec_ld rfl (ev rfl) (ldU64 (HX.out.below (blk_lt HX.out) hw).cells.1)) ?_
          simp only [Act.put, List.setIfInBounds_toArray, List.set_cons_succ, List.set_cons_zero]
          refine qv_val (wanted_of rfl rfl rfl rfl) (fun w' hw => exec_adN rfl (ev rfl) evk HSQ.out) ?_
          simp only [Act.put, List.setIfInBounds_toArray, List.set_cons_succ, List.set_cons_zero]
          refine qv_val (v := .bool true) (wanted_of rfl rfl rfl rfl) (fun w' hw => exec_eqInt true rfl (ev rfl) (ev rfl) HQ.out) ?_
          simp only [Act.put, List.setIfInBounds_toArray, List.set_cons_succ, List.set_cons_zero]
          refine qv_val (v := .bool true) rfl (fun w' hw => exec_pt rfl (ev rfl) (ev rfl)) ?_
          simp only [Act.put, List.setIfInBounds_toArray, List.set_cons_succ, List.set_cons_zero]
          refine qv_val (v := .bool true) rfl (fun w' hw => exec_mv rfl (ev rfl)) ?_
          simp only [Act.put, List.setIfInBounds_toArray, List.set_cons_succ, List.set_cons_zero]
          refine qv_val (wanted_of rfl rfl rfl rfl) (fun w' hw => exec_faddr rfl (ev rfl) faNt1) ?_
          simp only [Act.put, List.setIfInBounds_toArray, List.set_cons_succ, List.set_cons_zero]
          refine qv_val (wanted_of rfl rfl rfl rfl) (fun w' hw => exec_ld rfl (ev rfl) (ldU64 (HY.out.below (blk_lt HY.out) hw).cells.2.1)) ?_
          simp only [Act.put, List.setIfInBounds_toArray, List.set_cons_succ, List.set_cons_zero]
          refine qv_val (wanted_of rfl rfl rfl rfl) (fun w' hw => exec_faddr rfl (ev rfl) faNt1) ?_
          simp only [Act.put, List.setIfInBounds_toArray, List.set_cons_succ, List.set_cons_zero]
          refine qv_val (wanted_of rfl rfl rfl rfl) (fun w' hw => exec_ld rfl (ev rfl) (ldU64 (HX.out.below (blk_lt HX.out) hw).cells.2.1)) ?_
          simp only [Act.put, List.setIfInBounds_toArray, List.set_cons_succ, List.set_cons_zero]
          refine qv_val (wanted_of rfl rfl rfl rfl) (fun w' hw => exec_faddr rfl (ev rfl) faNt2) ?_
          simp only [Act.put, List.setIfInBounds_toArray, List.set_cons_succ, List.set_cons_zero]
          refine qv_val (wanted_of rfl rfl rfl rfl) (fun w' hw => exec_ld rfl (ev rfl) (ldInt (HX.out.below (blk_lt HX.out) hw).cells.2.2.1)) ?_
          simp only [Act.put, List.setIfInBounds_toArray, List.set_cons_succ, List.set_cons_zero]
          refine qv_call (wanted_of rfl rfl rfl rfl) (fun _ => exec_cl Tryd.call25 rfl (evc (ev rfl) evn)) (above_of (Nat.le_refl _) fun w' hw => rsize_d x.cells (takNt x) w' HSZ.out) ?_
          simp only [Act.put, List.setIfInBounds_toArray, List.set_cons_succ, List.set_cons_zero]
          refine qv_val (wanted_of rfl rfl rfl rfl) (fun w' hw => exec_cvIU rfl (ev rfl) HTL.out) ?_
          simp only [Act.put, List.setIfInBounds_toArray, List.set_cons_succ, List.set_cons_zero]
          refine qv_val (wanted_of rfl rfl rfl rfl) (fun w' hw => exec_adN rfl (ev rfl) (ev rfl) HPS.out) ?_
          simp only [Act.put, List.setIfInBounds_toArray, List.set_cons_succ, List.set_cons_zero]
          refine qv_val (v := .bool true) (wanted_of rfl rfl rfl rfl) (fun w' hw => exec_eqInt true rfl (ev rfl) (ev rfl) HD.out) ?_
          simp only [Act.put, List.setIfInBounds_toArray, List.set_cons_succ, List.set_cons_zero]
          refine qv_val (v := .bool true) rfl (fun w' hw => exec_pt rfl (ev rfl) (ev rfl)) ?_
          simp only [Act.put, List.setIfInBounds_toArray, List.set_cons_succ, List.set_cons_zero]
          refine qv_val (v := .bool true) rfl (fun w' hw => exec_as rfl (ev rfl)) ?_
          simp only [Act.put, List.setIfInBounds_toArray, List.set_cons_succ, List.set_cons_zero]
          refine wpQuiet_nil ?_
          intro w2 hw
          have HB2 := Lib.hid (HB.out.trans (hw.mono HB.out.size))
          clear hw
          go_wp2_with fail
          go_ret
          exact ⟨ret_bool (by rw [HV.out]), HB2.out⟩
        · have HD : Hid ((((y.pos : Nat) : Int) == ((x.pos + takNt x : Nat) : Int)) = false) := Lib.hid (by simp; omega)
          have HV : Hid (folB x y = false) := Lib.hid (by rw [fol_of hx hy]; exact decide_eq_false (fun h => hd h.2))
          clear hx hy hq hd
          refine wp_region_above (B := w1.heap.size) (by kernel_rfl) ?_
          refine qv_val rfl (fun w' hw => exec_loadNt (c := x) rfl (ev rfl) ((HX.out.below (blk_lt HX.out) hw).range)) ?_
          simp only [Act.put, List.setIfInBounds_toArray, List.set_cons_succ, List.set_cons_zero]
          refine qv_call rfl (fun _ => exec_cl Tryd.call10 rfl (evc (ev rfl) evn)) (above_of (Nat.le_refl _) fun w' hw => rntmay_b x w' HMX.out) ?_
          simp only [Act.put, List.setIfInBounds_toArray, List.set_cons_succ, List.set_cons_zero]
          refine qv_val (v := .bool true) rfl (fun w' hw => exec_mv rfl (ev rfl)) ?_
          simp only [Act.put, List.setIfInBounds_toArray, List.set_cons_succ, List.set_cons_zero]
          refine qv_val (wanted_of rfl rfl rfl rfl) (fun w' hw => exec_loadNt (c := y) rfl (ev rfl) ((HY.out.below (blk_lt HY.out) hw).range)) ?_
          simp only [Act.put, List.setIfInBounds_toArray, List.set_cons_succ, List.set_cons_zero]
          refine qv_call (wanted_of rfl rfl rfl rfl) (fun _ => exec_cl Tryd.call10 rfl (evc (ev rfl) evn)) (above_of (Nat.le_refl _) fun w' hw => rntmay_b y w' HMY.out) ?_
          simp only [Act.put, List.setIfInBounds_toArray, List.set_cons_succ, List.set_cons_zero]
          refine qv_val (v := .bool true) rfl (fun w' hw => exec_pt rfl (ev rfl) (ev rfl)) ?_
          simp only [Act.put, List.setIfInBounds_toArray, List.set_cons_succ, List.set_cons_zero]
          refine qv_val (v := .bool true) rfl (fun w' hw => exec_mv rfl (ev rfl)) ?_
          simp only [Act.put, List.setIfInBounds_toArray, List.set_cons_succ, List.set_cons_zero]
          refine qv_val (wanted_of rfl rfl rfl rfl) (fun w' hw => exec_faddr rfl (ev rfl) faNt0) ?_
          simp only [Act.put, List.setIfInBounds_toArray, List.set_cons_succ, List.set_cons_zero]
          refine qv_val (wanted_of rfl rfl rfl rfl) (fun w' hw => exec_ld rfl (ev rfl) (ldU64 (HY.out.below (blk_lt HY.out) hw).cells.1)) ?_
          simp only [Act.put, List.setIfInBounds_toArray, List.set_cons_succ, List.set_cons_zero]
          refine qv_val (wanted_of rfl rfl rfl rfl) (fun w' hw => exec_faddr rfl (ev rfl) faNt0) ?_
          simp only [Act.put, List.setIfInBounds_toArray, List.set_cons_succ, List.set_cons_zero]
          refine qv_val (wanted_of rfl rfl rfl rfl) (fun w' hw => exec_ld rfl (ev rfl) (ldU64 (HX.out.below (blk_lt HX.out) hw).cells.1)) ?_
          simp only [Act.put, List.setIfInBounds_toArray, List.set_cons_succ, List.set_cons_zero]
          refine qv_val (wanted_of rfl rfl rfl rfl) (fun w' hw => exec_adN rfl (ev rfl) evk HSQ.out) ?_
          simp only [Act.put, List.setIfInBounds_toArray, List.set_cons_succ, List.set_cons_zero]
          refine qv_val (v := .bool true) (wanted_of rfl rfl rfl rfl) (fun w' hw => exec_eqInt true rfl (ev rfl) (ev rfl) HQ.out) ?_
          simp only [Act.put, List.setIfInBounds_toArray, List.set_cons_succ, List.set_cons_zero]
          refine qv_val (v := .bool true) rfl (fun w' hw => exec_pt rfl (ev rfl) (ev rfl)) ?_
          simp only [Act.put, List.setIfInBounds_toArray, List.set_cons_succ, List.set_cons_zero]
          refine qv_val (v := .bool true) rfl (fun w' hw => exec_mv rfl (ev rfl)) ?_
          simp only [Act.put, List.setIfInBounds_toArray, List.set_cons_succ, List.set_cons_zero]
          refine qv_val (wanted_of rfl rfl rfl rfl) (fun w' hw => exec_faddr rfl (ev rfl) faNt1) ?_
          simp only [Act.put, List.setIfInBounds_toArray, List.set_cons_succ, List.set_cons_zero]
          refine qv_val (wanted_of rfl rfl rfl rfl) (fun w' hw => exec_ld rfl (ev rfl) (ldU64 (HY.out.below (blk_lt HY.out) hw).cells.2.1)) ?_
          simp only [Act.put, List.setIfInBounds_toArray, List.set_cons_succ, List.set_cons_zero]
          refine qv_val (wanted_of rfl rfl rfl rfl) (fun w' hw => exec_faddr rfl (ev rfl) faNt1) ?_
          simp only [Act.put, List.setIfInBounds_toArray, List.set_cons_succ, List.set_cons_zero]
          refine qv_val (wanted_of rfl rfl rfl rfl) (fun w' hw => exec_ld rfl (ev rfl) (ldU64 (HX.out.below (blk_lt HX.out) hw).cells.2.1)) ?_
          simp only [Act.put, List.setIfInBounds_toArray, List.set_cons_succ, List.set_cons_zero]
          refine qv_val (wanted_of rfl rfl rfl rfl) (fun w' hw => exec_faddr rfl (ev rfl) faNt2) ?_
          simp only [Act.put, List.setIfInBounds_toArray, List.set_cons_succ, List.set_cons_zero]
          refine qv_val (wanted_of rfl rfl rfl rfl) (fun w' hw => exec_ld rfl (ev rfl) (ldInt (HX.out.below (blk_lt HX.out) hw).cells.2.2.1)) ?_
          simp only [Act.put, List.setIfInBounds_toArray, List.set_cons_succ, List.set_cons_zero]
          refine qv_call (wanted_of rfl rfl rfl rfl) (fun _ => exec_cl Tryd.call25 rfl (evc (ev rfl) evn)) (above_of (Nat.le_refl _) fun w' hw => rsize_d x.cells (takNt x) w' HSZ.out) ?_
          simp only [Act.put, List.setIfInBounds_toArray, List.set_cons_succ, List.set_cons_zero]
          refine qv_val (wanted_of rfl rfl rfl rfl) (fun w' hw => exec_cvIU rfl (ev rfl) HTL.out) ?_
          simp only [Act.put, List.setIfInBounds_toArray, List.set_cons_succ, List.set_cons_zero]
          refine qv_val (wanted_of rfl rfl rfl rfl) (fun w' hw => exec_adN rfl (ev rfl) (ev rfl) HPS.out) ?_
          simp only [Act.put, List.setIfInBounds_toArray, List.set_cons_succ, List.set_cons_zero]
          refine qv_val (v := .bool false) (wanted_of rfl rfl rfl rfl) (fun w' hw => exec_eqInt false rfl (ev rfl) (ev rfl) HD.out) ?_
          simp only [Act.put, List.setIfInBounds_toArray, List.set_cons_succ, List.set_cons_zero]
          refine qv_val (v := .bool false) rfl (fun w' hw => exec_pt rfl (ev rfl) (ev rfl)) ?_
          simp only [Act.put, List.setIfInBounds_toArray, List.set_cons_succ, List.set_cons_zero]
          refine qv_val (v := .bool false) rfl (fun w' hw => exec_as rfl (ev rfl)) ?_
          simp only [Act.put, List.setIfInBounds_toArray, List.set_cons_succ, List.set_cons_zero]
          refine wpQuiet_nil ?_
          intro w2 hw
          have HB2 := Lib.hid (HB.out.trans (hw.mono HB.out.size))
          clear hw
          go_wp2_with fail
          go_ret
          exact ⟨ret_bool (by rw [HV.out]), HB2.out⟩
      · have HQ : Hid ((((y.seq : Nat) : Int) == ((x.seq + 1 : Nat) : Int)) = false) := Lib.hid (by simp; omega)
        have HV : Hid (folB x y = false) := Lib.hid (by rw [fol_of hx hy]; exact decide_eq_false (fun h => hq h.1))
        clear hx hy hq
        refine wp_region_above (B := w1.heap.size) (by kernel_rfl) ?_
        refine qv_val rfl (fun w' hw => exec_loadNt (c := x) rfl (ev rfl) ((HX.out.below (blk_lt HX.out) hw).range)) ?_
        simp only [Act.put, List.setIfInBounds_toArray, List.set_cons_succ, List.set_cons_zero]
        refine qv_call rfl (fun _ => exec_cl Tryd.call10 rfl (evc (ev rfl) evn)) (above_of (Nat.le_refl _) fun w' hw => rntmay_b x w' HMX.out) ?_
        simp only [Act.put, List.setIfInBounds_toArray, List.set_cons_succ, List.set_cons_zero]
        refine qv_val (v := .bool true) rfl (fun w' hw => exec_mv rfl (ev rfl)) ?_
        simp only [Act.put, List.setIfInBounds_toArray, List.set_cons_succ, List.set_cons_zero]
        refine qv_val (wanted_of rfl rfl rfl rfl) (fun w' hw => exec_loadNt (c := y) rfl (ev rfl) ((HY.out.below (blk_lt HY.out) hw).range)) ?_
        simp only [Act.put, List.setIfInBounds_toArray, List.set_cons_succ, List.set_cons_zero]
        refine qv_call (wanted_of rfl rfl rfl rfl) (fun _ => exec_cl Tryd.call10 rfl (evc (ev rfl) evn)) (above_of (Nat.le_refl _) fun w' hw => rntmay_b y w' HMY.out) ?_
        simp only [Act.put, List.setIfInBounds_toArray, List.set_cons_succ, List.set_cons_zero]
        refine qv_val (v := .bool true) rfl (fun w' hw => exec_pt rfl (ev rfl) (ev rfl)) ?_
        simp only [Act.put, List.setIfInBounds_toArray, List.set_cons_succ, List.set_cons_zero]
        refine qv_val (v := .bool true) rfl (fun w' hw => exec_mv rfl (ev rfl)) ?_
        simp only [Act.put, List.setIfInBounds_toArray, List.set_cons_succ, List.set_cons_zero]
        refine qv_val (wanted_of rfl rfl rfl rfl) (fun w' hw => exec_faddr rfl (ev rfl) faNt0) ?_
        simp only [Act.put, List.setIfInBounds_toArray, List.set_cons_succ, List.set_cons_zero]
        refine qv_val (wanted_of rfl rfl rfl rfl) (fun w' hw => exec_ld rfl (ev rfl) (ldU64 (HY.out.below (blk_lt HY.out) hw).cells.1)) ?_
        simp only [Act.put, List.setIfInBounds_toArray, List.set_cons_succ, List.set_cons_zero]
        refine qv_val (wanted_of rfl rfl rfl rfl) (fun w' hw => exec_faddr rfl (ev rfl) faNt0) ?_
        simp only [Act.put, List.setIfInBounds_toArray, List.set_cons_succ, List.set_cons_zero]
        refine qv_val (wanted_of rfl rfl rfl rfl) (fun w' hw => exec_ld rfl (ev rfl) (ldU64 (HX.out.below (blk_lt HX.out) hw).cells.1)) ?_
        simp only [Act.put, List.setIfInBounds_toArray, List.set_cons_succ, List.set_cons_zero]
        refine qv_val (wanted_of rfl rfl rfl rfl) (fun w' hw => exec_adN rfl (ev rfl) evk HSQ.out) ?_
        simp only [Act.put, List.setIfInBounds_toArray, List.set_cons_succ, List.set_cons_zero]
        refine qv_val (v := .bool false) (wanted_of rfl rfl rfl rfl) (fun w' hw => exec_eqInt false rfl (ev rfl) (ev rfl) HQ.out) ?_
        simp only [Act.put, List.setIfInBounds_toArray, List.set_cons_succ, List.set_cons_zero]
        refine qv_val (v := .bool false) rfl (fun w' hw => exec_pt rfl (ev rfl) (ev rfl)) ?_
        simp only [Act.put, List.setIfInBounds_toArray, List.set_cons_succ, List.set_cons_zero]
        refine qv_vals 10 (v := .bool false) rfl (fun w' hw => exec_mv rfl (ev rfl)) (by kernel_rfl) ?_
        simp only [skipAct, List.take_succ_cons, List.take_zero, List.drop_succ_cons, List.drop_zero, Act.put, List.setIfInBounds_toArray, List.set_cons_succ, List.set_cons_zero]
        refine qv_val (v := .bool false) rfl (fun w' hw => exec_pf rfl (ev rfl) evk) ?_
        simp only [Act.put, List.setIfInBounds_toArray, List.set_cons_succ, List.set_cons_zero]
        refine qv_val (v := .bool false) rfl (fun w' hw => exec_as rfl (ev rfl)) ?_
        simp only [Act.put, List.setIfInBounds_toArray, List.set_cons_succ, List.set_cons_zero]
        refine wpQuiet_nil ?_
        intro w2 hw
        have HB2 := Lib.hid (HB.out.trans (hw.mono HB.out.size))
        clear hw
        go_wp2_with fail
        go_ret
        exact ⟨ret_bool (by rw [HV.out]), HB2.out⟩
    · have hy' : nteB y = false := by simpa using hy
      have HMY := Lib.hid hy'
      have HV := Lib.hid (fol_no2 (x := x) hy')
      clear hx hy hy'
      refine wp_region_above (B := w1.heap.size) (by kernel_rfl) ?_
      refine qv_val rfl (fun w' hw => exec_loadNt (c := x) rfl (ev rfl) ((HX.out.below (blk_lt HX.out) hw).range)) ?_
      simp only [Act.put, List.setIfInBounds_toArray, List.set_cons_succ, List.set_cons_zero]
      refine qv_call rfl (fun _ => exec_cl Tryd.call10 rfl (evc (ev rfl) evn)) (above_of (Nat.le_refl _) fun w' hw => rntmay_b x w' HMX.out) ?_
      simp only [Act.put, List.setIfInBounds_toArray, List.set_cons_succ, List.set_cons_zero]
      refine qv_val (v := .bool true) rfl (fun w' hw => exec_mv rfl (ev rfl)) ?_
      simp only [Act.put, List.setIfInBounds_toArray, List.set_cons_succ, List.set_cons_zero]
      refine qv_val (wanted_of rfl rfl rfl rfl) (fun w' hw => exec_loadNt (c := y) rfl (ev rfl) ((HY.out.below (blk_lt HY.out) hw).range)) ?_
      simp only [Act.put, List.setIfInBounds_toArray, List.set_cons_succ, List.set_cons_zero]
      refine qv_call (wanted_of rfl rfl rfl rfl) (fun _ => exec_cl Tryd.call10 rfl (evc (ev rfl) evn)) (above_of (Nat.le_refl _) fun w' hw => rntmay_b y w' HMY.out) ?_
      simp only [Act.put, List.setIfInBounds_toArray, List.set_cons_succ, List.set_cons_zero]
      refine qv_val (v := .bool false) rfl (fun w' hw => exec_pt rfl (ev rfl) (ev rfl)) ?_
      simp only [Act.put, List.setIfInBounds_toArray, List.set_cons_succ, List.set_cons_zero]
      refine qv_vals 6 (v := .bool false) rfl (fun w' hw => exec_mv rfl (ev rfl)) (by kernel_rfl) ?_
      simp only [skipAct, List.take_succ_cons, List.take_zero, List.drop_succ_cons, List.drop_zero, Act.put, List.setIfInBounds_toArray, List.set_cons_succ, List.set_cons_zero]
      refine qv_val (v := .bool false) rfl (fun w' hw => exec_pf rfl (ev rfl) evk) ?_
      simp only [Act.put, List.setIfInBounds_toArray, List.set_cons_succ, List.set_cons_zero]
      refine qv_vals 10 (v := .bool false) rfl (fun w' hw => exec_mv rfl (ev rfl)) (by kernel_rfl) ?_
      simp only [skipAct, List.take_succ_cons, List.take_zero, List.drop_succ_cons, List.drop_zero, Act.put, List.setIfInBounds_toArray, List.set_cons_succ, List.set_cons_zero]
      refine qv_val (v := .bool false) rfl (fun w' hw => exec_pf rfl (ev rfl) evk) ?_
      simp only [Act.put, List.setIfInBounds_toArray, List.set_cons_succ, List.set_cons_zero]
      refine qv_val (v := .bool false) rfl (fun w' hw => exec_as rfl (ev rfl)) ?_
      simp only [Act.put, List.setIfInBounds_toArray, List.set_cons_succ, List.set_cons_zero]
      refine wpQuiet_nil ?_
      intro w2 hw
      have HB2 := Lib.hid (HB.out.trans (hw.mono HB.out.size))
      clear hw
      go_wp2_with fail
      go_ret
      exact ⟨ret_bool (by rw [HV.out]), HB2.out⟩
  · have hx' : nteB x = false := by simpa using hx
    have HMX := Lib.hid hx'
    have HV := Lib.hid (fol_no1 (y := y) hx')
    clear hx hx'
    refine wp_region_above (B := w1.heap.size) (by kernel_rfl) ?_
    refine qv_val rfl (fun w' hw => exec_loadNt (c := x) rfl (ev rfl) ((HX.out.below (blk_lt HX.out) hw).range)) ?_
    simp only [Act.put, List.setIfInBounds_toArray, List.set_cons_succ, List.set_cons_zero]
    refine qv_call rfl (fun _ => exec_cl Tryd.call10 rfl (evc (ev rfl) evn)) (above_of (Nat.le_refl _) fun w' hw => rntmay_b x w' HMX.out) ?_
    simp only [Act.put, List.setIfInBounds_toArray, List.set_cons_succ, List.set_cons_zero]
    refine qv_vals 2 (v := .bool false) rfl (fun w' hw => exec_mv rfl (ev rfl)) (by kernel_rfl) ?_
    simp only [skipAct, List.take_succ_cons, List.take_zero, List.drop_succ_cons, List.drop_zero, Act.put, List.setIfInBounds_toArray, List.set_cons_succ, List.set_cons_zero]
    refine qv_val (v := .bool false) rfl (fun w' hw => exec_pf rfl (ev rfl) evk) ?_
    simp only [Act.put, List.setIfInBounds_toArray, List.set_cons_succ, List.set_cons_zero]
    refine qv_vals 6 (v := .bool false) rfl (fun w' hw => exec_mv rfl (ev rfl)) (by kernel_rfl) ?_
    simp only [skipAct, List.take_succ_cons, List.take_zero, List.drop_succ_cons, List.drop_zero, Act.put, List.setIfInBounds_toArray, List.set_cons_succ, List.set_cons_zero]
    refine qv_val (v := .bool false) rfl (fun w' hw => exec_pf rfl (ev rfl) evk) ?_
    simp only [Act.put, List.setIfInBounds_toArray, List.set_cons_succ, List.set_cons_zero]
    refine qv_vals 10 (v := .bool false) rfl (fun w' hw => exec_mv rfl (ev rfl)) (by kernel_rfl) ?_
    simp only [skipAct, List.take_succ_cons, List.take_zero, List.drop_succ_cons, List.drop_zero, Act.put, List.setIfInBounds_toArray, List.set_cons_succ, List.set_cons_zero]
    refine qv_val (v := .bool false) rfl (fun w' hw => exec_pf rfl (ev rfl) evk) ?_
    simp only [Act.put, List.setIfInBounds_toArray, List.set_cons_succ, List.set_cons_zero]
    refine qv_val (v := .bool false) rfl (fun w' hw => exec_as rfl (ev rfl)) ?_
    simp only [Act.put, List.setIfInBounds_toArray, List.set_cons_succ, List.set_cons_zero]
    refine wpQuiet_nil ?_
    intro w2 hw
    have HB2 := Lib.hid (HB.out.trans (hw.mono HB.out.size))
    clear hw
    go_wp2_with fail
    go_ret
    exact ⟨ret_bool (by rw [HV.out]), HB2.out⟩
theorem pntfols_b (x y : Nte) (w : World) {b : Bool} (h : folB x y = b) : Calls Tryd.prog 13 #[nte x, nte y] w fun e w' => e = .returned (.bool b) ∧ Below w.heap.size w w' := by
  subst h
  exact pntfols x y w
theorem rntfols_b (x y : Nte) (w : World) {b : Bool} (h : folB x y = b) : Calls Tryd.prog 14 #[nte x, nte y] w fun e w' => e = .returned (.bool b) ∧ Below w.heap.size w w' := by
  subst h
  exact rntfols x y w
end Go.Proofs.YtiandcigoflcmaaDoor
