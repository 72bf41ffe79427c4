/-
  The walk of MarkPuts.
-/
import Derived.Test.YtmdpbnolgbfaeaaDoorMul
namespace Go.Proofs.YtmdpbnolgbfaeaaDoor
open Go.RowKit
set_option linter.unusedVariables false
set_option linter.unusedSimpArgs false
set_option maxRecDepth 100000

theorem of_mputE {n : Nat} {x : Mrk} (h : codM.pE ⟨n, x⟩ = 0) : evB n = true ∧ mrkB x = true := by
  have := codM.of_pE h
  rw [codM_may, Bool.and_eq_true] at this
  exact this
theorem mputE_ok {n : Nat} {x : Mrk} (h : evB n = true) (h' : mrkB x = true) : codM.pE ⟨n, x⟩ = 0 := codM.pE_ok (by rw [codM_may, h, h']; rfl)
theorem mputE_no {n : Nat} {x : Mrk} (h : ¬ (evB n = true ∧ mrkB x = true)) : codM.pE ⟨n, x⟩ = 2 := codM.pE_no (fun e => h (by rw [codM_may, Bool.and_eq_true] at e; exact e))
theorem mput_get {n : Nat} {x : Mrk} (hf : x.fit) (h : codM.pE ⟨n, x⟩ = 0) : codM.gE (codM.pB ⟨n, x⟩) = 0 ∧ codM.gN (codM.pB ⟨n, x⟩) = n ∧ (codM.gX (codM.pB ⟨n, x⟩)).m = x := by
  have hn : n < 18446744073709551616 := by have := of_evB (of_mputE h).1; omega
  obtain ⟨h1, h2⟩ := codM.put_get (y := ⟨n, x⟩) ⟨hn, hf⟩ h
  exact ⟨h1, by unfold Cod.gN; rw [h2]; rfl, by rw [h2]⟩
theorem mget_put {b : Blk} (h : codM.gE b = 0) : codM.pE ⟨codM.gN b, (codM.gX b).m⟩ = 0 ∧ codM.pB ⟨codM.gN b, (codM.gX b).m⟩ = b ∧ (codM.gX b).m.fit := by
  obtain ⟨h1, h2⟩ := codM.get_put h
  exact ⟨h1, h2, (codM.gX_fits b).2⟩
theorem mX_no {b : Blk} (h : codM.gE b ≠ 0) : (codM.gX b).m = zeroM := by rw [codM.gX_no h]; rfl
theorem range_sameM {w : World} {b : Nat} (c : Mrk) (h : w.there b 0 4) : (w.setCells b 0 (celM c)).rangeAt b 0 (celM c) := World.rangeAt_setCells_same _ _ _ _ h
set_option maxHeartbeats 4000000 in
theorem markPuts_walk (n : Nat) (x : Mrk) (w : World) (T : TabM w) (hn : n < 18446744073709551616) (hid : x.fit) :
    Calls Tryd.prog 3 #[.int .u64 n, mrk x] w fun e w' => e = .returned (.bool true) ∧ Below w.heap.size w w' := by
  obtain ⟨h1, h2, h3⟩ := boxM_new w x
  have HX1 := Lib.hid h1
  have HB1 := Lib.hid h2
  have HT := Lib.hid T
  have HN := Lib.hid hn
  have HI := Lib.hid hid
  clear h1 h2 h3 T hn hid
  obtain ⟨pb, hpb⟩ : ∃ pb, codM.pB ⟨n, x⟩ = pb := ⟨_, rfl⟩
  obtain ⟨E, hE⟩ : ∃ E, codM.pE ⟨n, x⟩ = E := ⟨_, rfl⟩
  have HPB := Lib.hid hpb
  have HE := Lib.hid hE
  have HEE : Hid (((E : Int) == (E : Int)) = true) := Lib.hid (beq_self_eq_true _)
  have HSL : Hid ((((n % 2 : Nat) : Int) == ((n % 2 : Nat) : Int)) = true) := Lib.hid (beq_self_eq_true _)
  clear hpb hE
  go_enter Tryd.func3, Tryd.ntmps3
  go_wp2_with (first | (refine wpList_valn rfl (exec_boxM rfl rfl) ?_) | (refine wpList_valn rfl (exec_loadM (c := x) rfl rfl ?_) ?_; (with_reducible exact HX1.out.range)) | fail)
  generalize w.alloc (.cells (celM x).toArray 24) = w1 at *
  refine (pmput n x w1 (HT.out.below HB1.out) HN.out HI.out).mono ?_
  rintro e w2 ⟨rfl, hb⟩
  rw [HPB.out, HE.out]
  have hb2 := hb.alloc hb.size (.cells (cel pb).toArray 26)
  have HX2 := Lib.hid (HX1.out.below (blk_lt HX1.out) hb2)
  have HB3 := Lib.hid (HB1.out.trans (hb2.mono HB1.out.size))
  have HA2 := Lib.hid (range_new w2 (cel pb) 26)
  have HZ2 : Hid (w2.heap.size < (w2.alloc (.cells (cel pb).toArray 26)).heap.size) := Lib.hid (by simp only [World.size_alloc]; omega)
  clear hb hb2 HX1 HB1
  go_upto_region 2 with (first | (refine wpList_valn rfl (exec_alloc rfl) ?_) | (refine wpList_nuln rfl (exec_fillN rfl rfl rfl) ?_) | fail)
  generalize w2.alloc (.cells (cel pb).toArray 26) = w3 at *
  generalize w2.heap.size = ab at *
  go_wp2_with (first | (refine wpList_valn rfl (exec_loadM (c := x) rfl rfl ?_) ?_; (with_reducible exact HX2.out.range)) | fail)
  refine (rmput n x w3 HN.out HI.out).mono ?_
  rintro e w4 ⟨rfl, hb⟩
  rw [HPB.out, HE.out]
  have hb2 := hb.alloc hb.size (.cells (cel pb).toArray 26)
  have HX := Lib.hid (HX2.out.below (blk_lt HX2.out) hb2)
  have HB5 := Lib.hid (HB3.out.trans (hb2.mono HB3.out.size))
  have HA := Lib.hid (range_below HA2.out HZ2.out hb2)
  have HZA : Hid (ab < (w4.alloc (.cells (cel pb).toArray 26)).heap.size) := Lib.hid (Nat.lt_of_lt_of_le HZ2.out hb2.size)
  have HB2 := Lib.hid (range_new w4 (cel pb) 26)
  have HZB : Hid (w4.heap.size < (w4.alloc (.cells (cel pb).toArray 26)).heap.size) := Lib.hid (by simp only [World.size_alloc]; omega)
  have HT4 := Lib.hid (HT.out.below HB5.out)
  clear hb hb2 HX2 HB3 HA2 HZ2
  go_upto_region 3 with (first | (refine wpList_valn rfl (exec_alloc rfl) ?_) | (refine wpList_nuln rfl (exec_fillN rfl rfl rfl) ?_) | fail)
  generalize w4.alloc (.cells (cel pb).toArray 26) = w5 at *
  generalize w4.heap.size = bb at *
  refine wp_region_above (B := w5.heap.size) (by kernel_rfl) ?_
  refine qv_val rfl (fun w' hw => exec_loadM (c := x) rfl (ev rfl) ((HX.out.below (blk_lt HX.out) hw).range)) ?_
  simp only [Act.put, List.setIfInBounds_toArray, List.set_cons_succ, List.set_cons_zero]
  refine qv_call rfl (fun _ => exec_cl Tryd.call9 rfl (evc (ev rfl) evn)) (above_of (Nat.le_refl _) fun w' hw => pmmay x w') ?_
  simp only [Act.put, List.setIfInBounds_toArray, List.set_cons_succ, List.set_cons_zero]
  refine qv_val rfl (fun w' hw => exec_loadM (c := x) rfl (ev rfl) ((HX.out.below (blk_lt HX.out) hw).range)) ?_
  simp only [Act.put, List.setIfInBounds_toArray, List.set_cons_succ, List.set_cons_zero]
  refine qv_call rfl (fun _ => exec_cl Tryd.call10 rfl (evc (ev rfl) evn)) (above_of (Nat.le_refl _) fun w' hw => rmmay x w') ?_
  simp only [Act.put, List.setIfInBounds_toArray, List.set_cons_succ, List.set_cons_zero]
  refine qv_val (v := .bool true) rfl (fun w' hw => exec_eqBool true rfl (ev rfl) (ev rfl) (beq_self_eq_true _)) ?_
  simp only [Act.put, List.setIfInBounds_toArray, List.set_cons_succ, List.set_cons_zero]
  refine qv_val (v := .bool true) rfl (fun w' hw => exec_mv rfl (ev rfl)) ?_
  simp only [Act.put, List.setIfInBounds_toArray, List.set_cons_succ, List.set_cons_zero]
  refine qv_val (wanted_of rfl rfl rfl rfl) (fun w' hw => exec_load (c := pb) rfl (ev rfl) (range_below HA.out HZA.out hw)) ?_
  simp only [Act.put, List.setIfInBounds_toArray, List.set_cons_succ, List.set_cons_zero]
  refine qv_val (wanted_of rfl rfl rfl rfl) (fun w' hw => exec_load (c := pb) rfl (ev rfl) (range_below HB2.out HZB.out hw)) ?_
  simp only [Act.put, List.setIfInBounds_toArray, List.set_cons_succ, List.set_cons_zero]
  refine qv_val (v := .bool true) (wanted_of rfl rfl rfl rfl) (fun w' hw => exec_eqlB true rfl (ev rfl) (ev rfl) (decide_eq_true rfl)) ?_
  simp only [Act.put, List.setIfInBounds_toArray, List.set_cons_succ, List.set_cons_zero]
  refine qv_val (v := .bool true) rfl (fun w' hw => exec_pt rfl (ev rfl) (ev rfl)) ?_
  simp only [Act.put, List.setIfInBounds_toArray, List.set_cons_succ, List.set_cons_zero]
  refine qv_val (v := .bool true) rfl (fun w' hw => exec_mv rfl (ev rfl)) ?_
  simp only [Act.put, List.setIfInBounds_toArray, List.set_cons_succ, List.set_cons_zero]
  refine qv_val (wanted_of rfl rfl rfl rfl) (fun w' hw => exec_mv rfl (ev rfl)) ?_
  simp only [Act.put, List.setIfInBounds_toArray, List.set_cons_succ, List.set_cons_zero]
  refine qv_val (wanted_of rfl rfl rfl rfl) (fun w' hw => exec_mv rfl (ev rfl)) ?_
  simp only [Act.put, List.setIfInBounds_toArray, List.set_cons_succ, List.set_cons_zero]
  refine qv_val (v := .bool true) (wanted_of rfl rfl rfl rfl) (fun w' hw => exec_eqInt true rfl (ev rfl) (ev rfl) HEE.out) ?_
  simp only [Act.put, List.setIfInBounds_toArray, List.set_cons_succ, List.set_cons_zero]
  refine qv_val (v := .bool true) rfl (fun w' hw => exec_pt rfl (ev rfl) (ev rfl)) ?_
  simp only [Act.put, List.setIfInBounds_toArray, List.set_cons_succ, List.set_cons_zero]
  refine qv_val (v := .bool true) rfl (fun w' hw => exec_mv rfl (ev rfl)) ?_
  simp only [Act.put, List.setIfInBounds_toArray, List.set_cons_succ, List.set_cons_zero]
  refine qv_val (wanted_of rfl rfl rfl rfl) (fun w' hw => exec_mv rfl (ev rfl)) ?_
  simp only [Act.put, List.setIfInBounds_toArray, List.set_cons_succ, List.set_cons_zero]
  refine qv_call (wanted_of rfl rfl rfl rfl) (fun _ => exec_cl Tryd.call11 rfl (evc (ev rfl) evn)) (above_of (Nat.le_refl _) fun w' hw => pmslot_d n (n % 2) w' HN.out rfl) ?_
  simp only [Act.put, List.setIfInBounds_toArray, List.set_cons_succ, List.set_cons_zero]
  refine qv_val (wanted_of rfl rfl rfl rfl) (fun w' hw => exec_mv rfl (ev rfl)) ?_
  simp only [Act.put, List.setIfInBounds_toArray, List.set_cons_succ, List.set_cons_zero]
  refine qv_call (wanted_of rfl rfl rfl rfl) (fun _ => exec_cl Tryd.call12 rfl (evc (ev rfl) evn)) (above_of (Nat.le_refl _) fun w' hw => rmslot_d n (n % 2) w' HN.out rfl) ?_
  simp only [Act.put, List.setIfInBounds_toArray, List.set_cons_succ, List.set_cons_zero]
  refine qv_val (v := .bool true) (wanted_of rfl rfl rfl rfl) (fun w' hw => exec_eqInt true rfl (ev rfl) (ev rfl) HSL.out) ?_
  simp only [Act.put, List.setIfInBounds_toArray, List.set_cons_succ, List.set_cons_zero]
  refine qv_val (v := .bool true) rfl (fun w' hw => exec_pt rfl (ev rfl) (ev rfl)) ?_
  simp only [Act.put, List.setIfInBounds_toArray, List.set_cons_succ, List.set_cons_zero]
  refine qv_val (v := .bool true) rfl (fun w' hw => exec_mv rfl (ev rfl)) ?_
  simp only [Act.put, List.setIfInBounds_toArray, List.set_cons_succ, List.set_cons_zero]
  refine qv_call (wanted_of rfl rfl rfl rfl) (fun _ => exec_cl Tryd.call13 rfl evn) (above_of (Nat.le_refl _) fun w' hw => mark_lives w' (HT4.out.below hw)) ?_
  simp only [Act.put, List.setIfInBounds_toArray, List.set_cons_succ, List.set_cons_zero]
  refine qv_val (v := .bool true) rfl (fun w' hw => exec_pt rfl (ev rfl) (ev rfl)) ?_
  simp only [Act.put, List.setIfInBounds_toArray, List.set_cons_succ, List.set_cons_zero]
  refine qv_val (v := .bool true) rfl (fun w' hw => exec_as rfl (ev rfl)) ?_
  simp only [Act.put, List.setIfInBounds_toArray, List.set_cons_succ, List.set_cons_zero]
  refine wpQuiet_nil ?_
  intro w6 hw
  have HB6 := Lib.hid (HB5.out.trans (hw.mono HB5.out.size))
  clear hw
  go_wp2_with fail
  go_ret
  exact ⟨rfl, HB6.out⟩
end Go.Proofs.YtmdpbnolgbfaeaaDoor
