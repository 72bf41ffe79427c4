/-
  The walk of NotePuts.
-/
import Derived.Test.YtiandcigoflcmaaDoorNul
namespace Go.Proofs.YtiandcigoflcmaaDoor
open Go.RowKit
set_option linter.unusedVariables false
set_option linter.unusedSimpArgs false
set_option maxRecDepth 100000

theorem of_ntputE {x : Nte} (h : codNt.pE x = 0) : nteB x = true := codNt.of_pE h
theorem range_sameNt {w : World} {b : Nat} (c : Nte) (h : w.there b 0 4) : (w.setCells b 0 (celNt c)).rangeAt b 0 (celNt c) := World.rangeAt_setCells_same _ _ _ _ h
set_option maxHeartbeats 4000000 in
theorem notePuts_walk (x y : Nte) (w : World) (T : TabNt w) (hid : x.fit) :
    Calls Tryd.prog 3 #[nte x, nte y] w fun e w' => e = .returned (.bool true) ∧ Below w.heap.size w w' := by
  have h1 := (Below.refl w.heap.size w).alloc (Nat.le_refl _) (.cells (celNt x).toArray 25)
  have h2 := h1.alloc h1.size (.cells (celNt y).toArray 25)
  have HB1 := Lib.hid h2
  have HX1 := Lib.hid ((NteAt.new w x).past (.cells (celNt y).toArray 25))
  have hz := NteAt.new (w.alloc (.cells (celNt x).toArray 25)) y
  rw [World.size_alloc] at hz
  have HY1 := Lib.hid hz
  have HT := Lib.hid T
  have HI := Lib.hid hid
  clear h1 h2 hz T hid
  obtain ⟨pb, hpb⟩ : ∃ pb, codNt.pB x = pb := ⟨_, rfl⟩
  obtain ⟨E, hE⟩ : ∃ E, codNt.pE x = E := ⟨_, rfl⟩
  have HPB := Lib.hid hpb
  have HE := Lib.hid hE
  have HEE : Hid (((E : Int) == (E : Int)) = true) := Lib.hid (beq_self_eq_true _)
  have HSL : Hid ((((x.seq % 8 : Nat) : Int) == ((x.seq % 8 : Nat) : Int)) = true) := Lib.hid (beq_self_eq_true _)
  clear hpb hE
  go_enter Tryd.func3, Tryd.ntmps3
  go_wp2_with (first | (refine wpList_valn rfl (exec_boxNt rfl rfl) ?_) | (refine wpList_valn rfl (exec_loadNt (c := x) rfl rfl ?_) ?_; (with_reducible exact HX1.out.range)) | fail)
  try simp only [World.size_alloc]
  generalize (w.alloc (.cells (celNt x).toArray 25)).alloc (.cells (celNt y).toArray 25) = w1 at *
  refine (pntput x w1 (HT.out.below HB1.out) HI.out).mono ?_
  rintro e w2 ⟨rfl, hb⟩
  rw [HPB.out, HE.out]
  have hb2 := hb.alloc hb.size (.cells (cel pb).toArray 27)
  have HX2 := Lib.hid (HX1.out.below (blk_lt HX1.out) hb2)
  have HY2 := Lib.hid (HY1.out.below (blk_lt HY1.out) hb2)
  have HB3 := Lib.hid (HB1.out.trans (hb2.mono HB1.out.size))
  have HA2 := Lib.hid (range_new w2 (cel pb) 27)
  have HZ2 : Hid (w2.heap.size < (w2.alloc (.cells (cel pb).toArray 27)).heap.size) := Lib.hid (by simp only [World.size_alloc]; omega)
  clear hb hb2 HX1 HY1 HB1
  go_upto_region 2 with (first | (refine wpList_valn rfl (exec_alloc rfl) ?_) | (refine wpList_nuln rfl (exec_fillN rfl rfl rfl) ?_) | fail)
  generalize w2.alloc (.cells (cel pb).toArray 27) = w3 at *
  generalize w2.heap.size = ab at *
  go_wp2_with (first | (refine wpList_valn rfl (exec_loadNt (c := x) rfl rfl ?_) ?_; (with_reducible exact HX2.out.range)) | fail)
  refine (rntput x w3 HI.out).mono ?_
  rintro e w4 ⟨rfl, hb⟩
  rw [HPB.out, HE.out]
  have hb2 := hb.alloc hb.size (.cells (cel pb).toArray 27)
  have HX := Lib.hid (HX2.out.below (blk_lt HX2.out) hb2)
  have HY := Lib.hid (HY2.out.below (blk_lt HY2.out) hb2)
  have HB5 := Lib.hid (HB3.out.trans (hb2.mono HB3.out.size))
  have HA := Lib.hid (range_below HA2.out HZ2.out hb2)
  have HZA : Hid (ab < (w4.alloc (.cells (cel pb).toArray 27)).heap.size) := Lib.hid (Nat.lt_of_lt_of_le HZ2.out hb2.size)
  have HB2 := Lib.hid (range_new w4 (cel pb) 27)
  have HZB : Hid (w4.heap.size < (w4.alloc (.cells (cel pb).toArray 27)).heap.size) := Lib.hid (by simp only [World.size_alloc]; omega)
  have HT4 := Lib.hid (HT.out.below HB5.out)
  clear hb hb2 HX2 HY2 HB3 HA2 HZ2
  go_upto_region 3 with (first | (refine wpList_valn rfl (exec_alloc rfl) ?_) | (refine wpList_nuln rfl (exec_fillN rfl rfl rfl) ?_) | fail)
  generalize w4.alloc (.cells (cel pb).toArray 27) = w5 at *
  generalize w4.heap.size = bb at *
  refine wp_region_above (B := w5.heap.size) (by kernel_rfl) ?_
  refine qv_val rfl (fun w' hw => exec_loadNt (c := x) rfl (ev rfl) ((HX.out.below (blk_lt HX.out) hw).range)) ?_
  simp only [Act.put, List.setIfInBounds_toArray, List.set_cons_succ, List.set_cons_zero]
  refine qv_call rfl (fun _ => exec_cl Tryd.call9 rfl (evc (ev rfl) evn)) (above_of (Nat.le_refl _) fun w' hw => pntmay x w') ?_
  simp only [Act.put, List.setIfInBounds_toArray, List.set_cons_succ, List.set_cons_zero]
  refine qv_val rfl (fun w' hw => exec_loadNt (c := x) rfl (ev rfl) ((HX.out.below (blk_lt HX.out) hw).range)) ?_
  simp only [Act.put, List.setIfInBounds_toArray, List.set_cons_succ, List.set_cons_zero]
  refine qv_call rfl (fun _ => exec_cl Tryd.call10 rfl (evc (ev rfl) evn)) (above_of (Nat.le_refl _) fun w' hw => rntmay x w') ?_
  simp only [Act.put, List.setIfInBounds_toArray, List.set_cons_succ, List.set_cons_zero]
  refine qv_val (v := .bool true) rfl (fun w' hw => exec_eqBool true rfl (ev rfl) (ev rfl) (beq_self_eq_true _)) ?_
  simp only [Act.put, List.setIfInBounds_toArray, List.set_cons_succ, List.set_cons_zero]
  refine qv_val (v := .bool true) rfl (fun w' hw => exec_mv rfl (ev rfl)) ?_
  simp only [Act.put, List.setIfInBounds_toArray, List.set_cons_succ, List.set_cons_zero]
  refine qv_val (wanted_of rfl rfl rfl rfl) (fun w' hw => exec_load (c := pb) rfl (ev rfl) (range_below HA.out HZA.out hw)) ?_
  simp only [Act.put, List.setIfInBounds_toArray, List.set_cons_succ, List.set_cons_zero]
  refine qv_val (wanted_of rfl rfl rfl rfl) (fun w' hw => exec_load (c := pb) rfl (ev rfl) (range_below HB2.out HZB.out hw)) ?_
  simp only [Act.put, List.setIfInBounds_toArray, List.set_cons_succ, List.set_cons_zero]
  refine qv_val (v := .bool true) (wanted_of rfl rfl rfl rfl) (fun w' hw => exec_eqlB true rfl (ev rfl) (ev rfl) (decide_eq_true rfl)) ?_
  simp only [Act.put, List.setIfInBounds_toArray, List.set_cons_succ, List.set_cons_zero]
  refine qv_val (v := .bool true) rfl (fun w' hw => exec_pt rfl (ev rfl) (ev rfl)) ?_
  simp only [Act.put, List.setIfInBounds_toArray, List.set_cons_succ, List.set_cons_zero]
  refine qv_val (v := .bool true) rfl (fun w' hw => exec_mv rfl (ev rfl)) ?_
  simp only [Act.put, List.setIfInBounds_toArray, List.set_cons_succ, List.set_cons_zero]
  refine qv_val (wanted_of rfl rfl rfl rfl) (fun w' hw => exec_mv rfl (ev rfl)) ?_
  simp only [Act.put, List.setIfInBounds_toArray, List.set_cons_succ, List.set_cons_zero]
  refine qv_val (wanted_of rfl rfl rfl rfl) (fun w' hw => exec_mv rfl (ev rfl)) ?_
  simp only [Act.put, List.setIfInBounds_toArray, List.set_cons_succ, List.set_cons_zero]
  refine qv_val (v := .bool true) (wanted_of rfl rfl rfl rfl) (fun w' hw => exec_eqInt true rfl (ev rfl) (ev rfl) HEE.out) ?_
  simp only [Act.put, List.setIfInBounds_toArray, List.set_cons_succ, List.set_cons_zero]
  refine qv_val (v := .bool true) rfl (fun w' hw => exec_pt rfl (ev rfl) (ev rfl)) ?_
  simp only [Act.put, List.setIfInBounds_toArray, List.set_cons_succ, List.set_cons_zero]
  refine qv_val (v := .bool true) rfl (fun w' hw => exec_mv rfl (ev rfl)) ?_
  simp only [Act.put, List.setIfInBounds_toArray, List.set_cons_succ, List.set_cons_zero]
  refine qv_val (wanted_of rfl rfl rfl rfl) (fun w' hw => exec_faddr rfl (ev rfl) faNt0) ?_
  simp only [Act.put, List.setIfInBounds_toArray, List.set_cons_succ, List.set_cons_zero]
  refine qv_val (wanted_of rfl rfl rfl rfl) (fun w' hw => exec_ld rfl (ev rfl) (ldU64 (HX.out.below (blk_lt HX.out) hw).cells.1)) ?_
  simp only [Act.put, List.setIfInBounds_toArray, List.set_cons_succ, List.set_cons_zero]
  refine qv_call (wanted_of rfl rfl rfl rfl) (fun _ => exec_cl Tryd.call11 rfl (evc (ev rfl) evn)) (above_of (Nat.le_refl _) fun w' hw => pntslot_d x.seq (x.seq % 8) w' HI.out.1 rfl) ?_
  simp only [Act.put, List.setIfInBounds_toArray, List.set_cons_succ, List.set_cons_zero]
  refine qv_val (wanted_of rfl rfl rfl rfl) (fun w' hw => exec_faddr rfl (ev rfl) faNt0) ?_
  simp only [Act.put, List.setIfInBounds_toArray, List.set_cons_succ, List.set_cons_zero]
  refine qv_val (wanted_of rfl rfl rfl rfl) (fun w' hw => exec_ld rfl (ev rfl) (ldU64 (HX.out.below (blk_lt HX.out) hw).cells.1)) ?_
  simp only [Act.put, List.setIfInBounds_toArray, List.set_cons_succ, List.set_cons_zero]
  refine qv_call (wanted_of rfl rfl rfl rfl) (fun _ => exec_cl Tryd.call12 rfl (evc (ev rfl) evn)) (above_of (Nat.le_refl _) fun w' hw => rntslot_d x.seq (x.seq % 8) w' HI.out.1 rfl) ?_
  simp only [Act.put, List.setIfInBounds_toArray, List.set_cons_succ, List.set_cons_zero]
  refine qv_val (v := .bool true) (wanted_of rfl rfl rfl rfl) (fun w' hw => exec_eqInt true rfl (ev rfl) (ev rfl) HSL.out) ?_
  simp only [Act.put, List.setIfInBounds_toArray, List.set_cons_succ, List.set_cons_zero]
  refine qv_val (v := .bool true) rfl (fun w' hw => exec_pt rfl (ev rfl) (ev rfl)) ?_
  simp only [Act.put, List.setIfInBounds_toArray, List.set_cons_succ, List.set_cons_zero]
  refine qv_val (v := .bool true) rfl (fun w' hw => exec_mv rfl (ev rfl)) ?_
  simp only [Act.put, List.setIfInBounds_toArray, List.set_cons_succ, List.set_cons_zero]
  refine qv_val (wanted_of rfl rfl rfl rfl) (fun w' hw => exec_loadNt (c := x) rfl (ev rfl) ((HX.out.below (blk_lt HX.out) hw).range)) ?_
  simp only [Act.put, List.setIfInBounds_toArray, List.set_cons_succ, List.set_cons_zero]
  refine qv_val (wanted_of rfl rfl rfl rfl) (fun w' hw => exec_loadNt (c := y) rfl (ev rfl) ((HY.out.below (blk_lt HY.out) hw).range)) ?_
  simp only [Act.put, List.setIfInBounds_toArray, List.set_cons_succ, List.set_cons_zero]
  refine qv_call (wanted_of rfl rfl rfl rfl) (fun _ => exec_cl Tryd.call13 rfl (evc (ev rfl) (evc (ev rfl) evn))) (above_of (Nat.le_refl _) fun w' hw => pntfols x y w') ?_
  simp only [Act.put, List.setIfInBounds_toArray, List.set_cons_succ, List.set_cons_zero]
  refine qv_val (wanted_of rfl rfl rfl rfl) (fun w' hw => exec_loadNt (c := x) rfl (ev rfl) ((HX.out.below (blk_lt HX.out) hw).range)) ?_
  simp only [Act.put, List.setIfInBounds_toArray, List.set_cons_succ, List.set_cons_zero]
  refine qv_val (wanted_of rfl rfl rfl rfl) (fun w' hw => exec_loadNt (c := y) rfl (ev rfl) ((HY.out.below (blk_lt HY.out) hw).range)) ?_
  simp only [Act.put, List.setIfInBounds_toArray, List.set_cons_succ, List.set_cons_zero]
  refine qv_call (wanted_of rfl rfl rfl rfl) (fun _ => exec_cl Tryd.call14 rfl (evc (ev rfl) (evc (ev rfl) evn))) (above_of (Nat.le_refl _) fun w' hw => rntfols x y w') ?_
  simp only [Act.put, List.setIfInBounds_toArray, List.set_cons_succ, List.set_cons_zero]
  refine qv_val (v := .bool true) (wanted_of rfl rfl rfl rfl) (fun w' hw => exec_eqBool true rfl (ev rfl) (ev rfl) (beq_self_eq_true _)) ?_
  simp only [Act.put, List.setIfInBounds_toArray, List.set_cons_succ, List.set_cons_zero]
  refine qv_val (v := .bool true) rfl (fun w' hw => exec_pt rfl (ev rfl) (ev rfl)) ?_
  simp only [Act.put, List.setIfInBounds_toArray, List.set_cons_succ, List.set_cons_zero]
  refine qv_val (v := .bool true) rfl (fun w' hw => exec_mv rfl (ev rfl)) ?_
  simp only [Act.put, List.setIfInBounds_toArray, List.set_cons_succ, List.set_cons_zero]
  refine qv_call (wanted_of rfl rfl rfl rfl) (fun _ => exec_cl Tryd.call15 rfl evn) (above_of (Nat.le_refl _) fun w' hw => note_lives w' (HT4.out.below hw)) ?_
  simp only [Act.put, List.setIfInBounds_toArray, List.set_cons_succ, List.set_cons_zero]
  refine qv_val (v := .bool true) rfl (fun w' hw => exec_pt rfl (ev rfl) (ev rfl)) ?_
  simp only [Act.put, List.setIfInBounds_toArray, List.set_cons_succ, List.set_cons_zero]
  refine qv_val (v := .bool true) rfl (fun w' hw => exec_as rfl (ev rfl)) ?_
  simp only [Act.put, List.setIfInBounds_toArray, List.set_cons_succ, List.set_cons_zero]
  refine wpQuiet_nil ?_
  intro w6 hw
  have HB6 := Lib.hid (HB5.out.trans (hw.mono HB5.out.size))
  clear hw
  go_wp2_with fail
  go_ret
  exact ⟨rfl, HB6.out⟩
end Go.Proofs.YtiandcigoflcmaaDoor
