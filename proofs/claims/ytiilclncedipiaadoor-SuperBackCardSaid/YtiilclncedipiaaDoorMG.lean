/-
  The program's super.Get.
  The program's super.newest, Slot, Newest.
  The program's super.Slot, Newest.
-/
import Derived.Test.YtiilclncedipiaaDoorMF
import Derived.Test.YtiilclncedipiaaDoorMA
namespace Go.Proofs.YtiilclncedipiaaDoor
open Go.RowKit
set_option linter.unusedVariables false
set_option linter.unusedSimpArgs false
set_option maxRecDepth 100000

theorem res_tri {fn : Func} {p q u : Tmp} {t : TypeId} {cs : List Value} {d : TypeDesc} (h : fn.results = #[.tmp p, .cell q t, .tmp u]) (tmps : Array Value) (w : World) (b : Nat) (hq : tmps.getD q undef = .pointer (some ⟨b, 0, none⟩)) (hr : w.rangeAt b 0 cs) (hu : Tryd.prog.underlying t = some d) (hd : d.isRow = true) (hz : (Tryd.prog.info? t).map (·.size) = some cs.length) :
    (results fn tmps).run Tryd.prog w = .ok (.tuple #[tmps.getD p undef, .agg cs.toArray, tmps.getD u undef]) w := by
  have hl : (loadVar t ⟨b, 0, none⟩).run Tryd.prog w = .ok (.agg cs.toArray) w := run_loadVar_mid (P := Tryd.prog) w b 0 t cs d hr hu hd hz
  have hq' : tmps[q]?.getD undef = .pointer (some ⟨b, 0, none⟩) := by simpa using hq
  simp [results, h, hq', asAddr, hl]
theorem exec_s2a {ρ : Operand → Value} {o : Oper} {x : Operand} {w : World} {g c : Nat} (ho : o.op = .sliceToArrayPointer 52 x) (hx : ρ x = .slice (some ⟨g, 0, none⟩) 44 c) : (execOp ρ o).run Tryd.prog w = .ok (.value (.pointer (some ⟨g, 0, none⟩))) w := by
  unfold execOp
  simp [ho, hx, Instr.arrayAt, run_underlying Tryd.underlying52]
section
variable (b : Blk) (w : World)
/-- What the program's Get has laid when the body is told. -/
structure SgW (w w3 : World) (b : Blk) (g s : Nat) (l : List UInt8) (y : Sup) : Prop where
  row : RowL w3 g 5 l
  sup : SupAt w3 s y
  res : w3.there (w.heap.size + 1) 0 23
  bel : Below w.heap.size w w3
  lt : w.heap.size + 1 < w3.heap.size
theorem SgW.keep {w w3 w4 : World} {b : Blk} {g s : Nat} {l : List UInt8} {y : Sup} (h : SgW w w3 b g s l y) (hb : Below w3.heap.size w3 w4) : SgW w w4 b g s l y :=
  ⟨h.row.below h.row.lt hb, h.sup.below (blk_lt h.sup) hb, there_below h.res h.lt hb, h.bel.trans (hb.mono h.bel.size), Nat.lt_of_lt_of_le h.lt hb.size⟩
end
set_option maxHeartbeats 1000000 in
theorem psget_seal (b : Blk) (w : World) (T : Tab w) (h : getE b.toList ≠ 0) : Calls Tryd.prog 15 #[blk b] w fun e w' => e = .returned (.tuple #[.int .u64 (0 : Nat), sup zeroS, .int .i64 (getE b.toList : Nat)]) ∧ Below w.heap.size w w' := by
  obtain ⟨n, hn⟩ : ∃ n, getN b.toList = n := ⟨_, rfl⟩
  obtain ⟨l, hl⟩ : ∃ l, getB b.toList = l := ⟨_, rfl⟩
  have h1 := (Below.refl w.heap.size w).alloc (Nat.le_refl _) (.cells (cel b).toArray 31)
  have h2 := h1.alloc h1.size (.cells (celS zeroS).toArray 29)
  have HA : Hid (((w.alloc (.cells (cel b).toArray 31)).alloc (.cells (celS zeroS).toArray 29)).rangeAt w.heap.size 0 (cel b)) := Lib.hid (World.rangeAt_alloc (range_new w (cel b) 31) _)
  have hsn := SupAt.new (w.alloc (.cells (cel b).toArray 31)) zeroS
  rw [World.size_alloc] at hsn
  have HR := Lib.hid (there_at (o := 0) (n := 23) hsn (by rw [celS_length]; exact Nat.le_refl _))
  have HZ := Lib.hid (blk_lt hsn)
  have HB := Lib.hid h2
  have HT := Lib.hid (T.below h2)
  have HN := Lib.hid hn
  have HL := Lib.hid hl
  clear h1 h2 hsn T
  obtain ⟨E, hE⟩ : ∃ E, getE b.toList = E := ⟨_, rfl⟩
  rw [hE] at h
  have HE := Lib.hid hE
  have hne : ((E : Int) != 0) = true := by simp; omega
  clear hE hn hl
  go_enter Tryd.func15, Tryd.ntmps15
  go_wp2_with (first | (refine wpList_valn rfl (exec_box rfl rfl) ?_) | (refine wpList_valn rfl (exec_allocS rfl) ?_) | (refine wpList_valn rfl (exec_load (c := b) rfl rfl ?_) ?_; (with_reducible exact HA.out)) | fail)
  try simp only [World.size_alloc]
  generalize (w.alloc (.cells (cel b).toArray 31)).alloc (.cells (celS zeroS).toArray 29) = w0 at *
  refine (pget_any b _ w0 (Lib.hid rfl) HT.out).mono ?_
  rintro e w1 ⟨v, rfl, hv, hb⟩
  rw [HN.out]
  rw [HE.out]
  have HR1 := Lib.hid (there_below HR.out HZ.out hb)
  have HB1 := Lib.hid (HB.out.trans (hb.mono HB.out.size))
  clear hv hb HA HR HB
  go_wp2_with (first | (refine wpList_valn rfl (exec_bldS rfl) ?_) | (refine wpList_nuln rfl (exec_putS (c := zeroS) rfl rfl rfl ?_) ?_; (with_reducible exact HR1.out)) | fail)
  refine bodyPost_ret (res_tri (t := 29) (cs := celS zeroS) rfl _ _ _ rfl ?h1 Tryd.underlying29 rfl ?h2) rfl ⟨by rw [HE.out]; rfl, ?h3⟩
  case h1 => exact World.rangeAt_setCells_same _ _ _ _ (by rw [celS_length]; exact HR1.out)
  case h2 => rw [celS_length]; exact sizeS
  case h3 => exact below_setCells HB1.out (Nat.le_succ _) _
set_option maxHeartbeats 2000000 in
theorem psget_ev (b : Blk) (w : World) (T : Tab w) (h0 : getE b.toList = 0) (hev : evB (getN b.toList) = false) : Calls Tryd.prog 15 #[blk b] w fun e w' => e = .returned (.tuple #[.int .u64 (0 : Nat), sup zeroS, .int .i64 (5 : Nat)]) ∧ Below w.heap.size w w' := by
  obtain ⟨n, hn⟩ : ∃ n, getN b.toList = n := ⟨_, rfl⟩
  obtain ⟨l, hl⟩ : ∃ l, getB b.toList = l := ⟨_, rfl⟩
  have h1 := (Below.refl w.heap.size w).alloc (Nat.le_refl _) (.cells (cel b).toArray 31)
  have h2 := h1.alloc h1.size (.cells (celS zeroS).toArray 29)
  have HA : Hid (((w.alloc (.cells (cel b).toArray 31)).alloc (.cells (celS zeroS).toArray 29)).rangeAt w.heap.size 0 (cel b)) := Lib.hid (World.rangeAt_alloc (range_new w (cel b) 31) _)
  have hsn := SupAt.new (w.alloc (.cells (cel b).toArray 31)) zeroS
  rw [World.size_alloc] at hsn
  have HR := Lib.hid (there_at (o := 0) (n := 23) hsn (by rw [celS_length]; exact Nat.le_refl _))
  have HZ := Lib.hid (blk_lt hsn)
  have HB := Lib.hid h2
  have HT := Lib.hid (T.below h2)
  have HN := Lib.hid hn
  have HL := Lib.hid hl
  clear h1 h2 hsn T
  rw [hn] at hev
  have HEV := Lib.hid hev
  clear hev
  clear hn hl
  go_enter Tryd.func15, Tryd.ntmps15
  go_wp2_with (first | (refine wpList_valn rfl (exec_box rfl rfl) ?_) | (refine wpList_valn rfl (exec_allocS rfl) ?_) | (refine wpList_valn rfl (exec_load (c := b) rfl rfl ?_) ?_; (with_reducible exact HA.out)) | fail)
  try simp only [World.size_alloc]
  generalize (w.alloc (.cells (cel b).toArray 31)).alloc (.cells (celS zeroS).toArray 29) = w0 at *
  refine (pget_any b _ w0 (Lib.hid rfl) HT.out).mono ?_
  rintro e w1 ⟨v, rfl, hv, hb⟩
  rw [HN.out]
  rw [h0]
  have hll : l.length = 44 := by rw [← HL.out]; exact getB_len h0
  have HLL := Lib.hid hll
  rw [HL.out] at hv
  obtain ⟨g, hve, hrow⟩ : ∃ g, v = .slice (some ⟨g, 0, none⟩) 44 44 ∧ RowL w1 g 5 l := by
    rcases hv with ⟨_, rfl⟩ | ⟨g, e, _, hr, _⟩
    · simp at hll
    · rw [hll] at e; exact ⟨g, e, hr⟩
  subst hve
  have HR1 := Lib.hid (there_below HR.out HZ.out hb)
  have HB1 := Lib.hid (HB.out.trans (hb.mono HB.out.size))
  have HZ1 : Hid (w.heap.size + 1 < w1.heap.size) := Lib.hid (Nat.lt_of_lt_of_le HZ.out hb.size)
  have HRW := Lib.hid hrow
  clear hv hb HA HR HB HZ hll h0 hrow
  go_wp2_with fail
  refine (ptold g l w1 HLL.out HRW.out).mono ?_
  rintro e w2 ⟨rfl, hb⟩
  have hb3 := hb.alloc hb.size (.cells (celS (toldS l)).toArray 29)
  have HW3 : Hid (SgW w (w2.alloc (.cells (celS (toldS l)).toArray 29)) b g w2.heap.size l (toldS l)) := Lib.hid ⟨HRW.out.below HRW.out.lt hb3, SupAt.new w2 _, there_below HR1.out HZ1.out hb3, HB1.out.trans (hb3.mono HB1.out.size), Nat.lt_of_lt_of_le HZ1.out hb3.size⟩
  have HI : Hid ((toldS l).id < 18446744073709551616) := Lib.hid (told_id_lt (by rw [HLL.out]; omega))
  clear hb hb3 HRW HR1 HB1 HZ1
  obtain ⟨y, hy⟩ : ∃ y, toldS l = y := ⟨_, rfl⟩
  have HY := Lib.hid hy
  rw [hy] at HW3 HI
  rw [hy]
  clear hy
  have HFL := Lib.hid (fullL_length y)
  go_upto_region 5 with (first | (refine wpList_valn rfl (exec_allocS rfl) ?_) | (refine wpList_nuln rfl (exec_fillS rfl rfl rfl) ?_) | fail)
  generalize w2.alloc (.cells (celS y).toArray 29) = w3 at *
  have HS3 := Lib.hid HW3.out.sup
  have HR3 := Lib.hid HW3.out.row
  generalize w2.heap.size = s at *
  refine wp_region_above (B := w3.heap.size) (by kernel_rfl) ?_
  refine qv_val rfl (fun w' hw => exec_mv rfl (ev rfl)) ?_
  simp only [Act.put, List.setIfInBounds_toArray, List.set_cons_succ, List.set_cons_zero]
  refine qv_call rfl (fun _ => exec_cl Tryd.call23 rfl (evc (ev rfl) evn)) (above_of (Nat.le_refl _) fun w' hw => pevent_b n w' HEV.out) ?_
  simp only [Act.put, List.setIfInBounds_toArray, List.set_cons_succ, List.set_cons_zero]
  refine qv_val (v := .bool true) rfl (fun w' hw => exec_not false rfl (ev rfl)) ?_
  simp only [Act.put, List.setIfInBounds_toArray, List.set_cons_succ, List.set_cons_zero]
  refine qv_vals 3 (v := .bool true) rfl (fun w' hw => exec_mv rfl (ev rfl)) (by kernel_rfl) ?_
  simp only [skipAct, List.take_succ_cons, List.take_zero, List.drop_succ_cons, List.drop_zero, Act.put, List.setIfInBounds_toArray, List.set_cons_succ, List.set_cons_zero]
  refine qv_val (v := .bool true) rfl (fun w' hw => exec_pt rfl (ev rfl) evk) ?_
  simp only [Act.put, List.setIfInBounds_toArray, List.set_cons_succ, List.set_cons_zero]
  refine qv_vals 6 (v := .bool true) rfl (fun w' hw => exec_mv rfl (ev rfl)) (by kernel_rfl) ?_
  simp only [skipAct, List.take_succ_cons, List.take_zero, List.drop_succ_cons, List.drop_zero, Act.put, List.setIfInBounds_toArray, List.set_cons_succ, List.set_cons_zero]
  refine qv_val (v := .bool true) rfl (fun w' hw => exec_pt rfl (ev rfl) evk) ?_
  simp only [Act.put, List.setIfInBounds_toArray, List.set_cons_succ, List.set_cons_zero]
  refine wpQuiet_nil ?_
  intro w4 hw
  have HW4 := Lib.hid (HW3.out.keep hw)
  have HR4 := Lib.hid HW4.out.res
  have HB4 := Lib.hid HW4.out.bel
  clear HW3 HS3 HR3 hw
  go_wp2_with (first | (refine wpList_valn rfl (exec_bldS rfl) ?_) | (refine wpList_nuln rfl (exec_putS (c := zeroS) rfl rfl rfl ?_) ?_; (with_reducible exact HR4.out)) | fail)
  refine bodyPost_ret (res_tri (t := 29) (cs := celS zeroS) rfl _ _ _ rfl ?h1 Tryd.underlying29 rfl ?h2) rfl ⟨rfl, ?h3⟩
  case h1 => exact World.rangeAt_setCells_same _ _ _ _ (by rw [celS_length]; exact HR4.out)
  case h2 => rw [celS_length]; exact sizeS
  case h3 => exact below_setCells HB4.out (Nat.le_succ _) _
set_option maxHeartbeats 2000000 in
theorem psget_may (b : Blk) (w : World) (T : Tab w) (h0 : getE b.toList = 0) (hev : evB (getN b.toList) = true) (hm : supB (toldS (getB b.toList)) = false) : Calls Tryd.prog 15 #[blk b] w fun e w' => e = .returned (.tuple #[.int .u64 (0 : Nat), sup zeroS, .int .i64 (5 : Nat)]) ∧ Below w.heap.size w w' := by
  obtain ⟨n, hn⟩ : ∃ n, getN b.toList = n := ⟨_, rfl⟩
  obtain ⟨l, hl⟩ : ∃ l, getB b.toList = l := ⟨_, rfl⟩
  have h1 := (Below.refl w.heap.size w).alloc (Nat.le_refl _) (.cells (cel b).toArray 31)
  have h2 := h1.alloc h1.size (.cells (celS zeroS).toArray 29)
  have HA : Hid (((w.alloc (.cells (cel b).toArray 31)).alloc (.cells (celS zeroS).toArray 29)).rangeAt w.heap.size 0 (cel b)) := Lib.hid (World.rangeAt_alloc (range_new w (cel b) 31) _)
  have hsn := SupAt.new (w.alloc (.cells (cel b).toArray 31)) zeroS
  rw [World.size_alloc] at hsn
  have HR := Lib.hid (there_at (o := 0) (n := 23) hsn (by rw [celS_length]; exact Nat.le_refl _))
  have HZ := Lib.hid (blk_lt hsn)
  have HB := Lib.hid h2
  have HT := Lib.hid (T.below h2)
  have HN := Lib.hid hn
  have HL := Lib.hid hl
  clear h1 h2 hsn T
  rw [hn] at hev
  rw [hl] at hm
  have HEV := Lib.hid hev
  have HM0 := Lib.hid hm
  clear hev hm
  clear hn hl
  go_enter Tryd.func15, Tryd.ntmps15
  go_wp2_with (first | (refine wpList_valn rfl (exec_box rfl rfl) ?_) | (refine wpList_valn rfl (exec_allocS rfl) ?_) | (refine wpList_valn rfl (exec_load (c := b) rfl rfl ?_) ?_; (with_reducible exact HA.out)) | fail)
  try simp only [World.size_alloc]
  generalize (w.alloc (.cells (cel b).toArray 31)).alloc (.cells (celS zeroS).toArray 29) = w0 at *
  refine (pget_any b _ w0 (Lib.hid rfl) HT.out).mono ?_
  rintro e w1 ⟨v, rfl, hv, hb⟩
  rw [HN.out]
  rw [h0]
  have hll : l.length = 44 := by rw [← HL.out]; exact getB_len h0
  have HLL := Lib.hid hll
  rw [HL.out] at hv
  obtain ⟨g, hve, hrow⟩ : ∃ g, v = .slice (some ⟨g, 0, none⟩) 44 44 ∧ RowL w1 g 5 l := by
    rcases hv with ⟨_, rfl⟩ | ⟨g, e, _, hr, _⟩
    · simp at hll
    · rw [hll] at e; exact ⟨g, e, hr⟩
  subst hve
  have HR1 := Lib.hid (there_below HR.out HZ.out hb)
  have HB1 := Lib.hid (HB.out.trans (hb.mono HB.out.size))
  have HZ1 : Hid (w.heap.size + 1 < w1.heap.size) := Lib.hid (Nat.lt_of_lt_of_le HZ.out hb.size)
  have HRW := Lib.hid hrow
  clear hv hb HA HR HB HZ hll h0 hrow
  go_wp2_with fail
  refine (ptold g l w1 HLL.out HRW.out).mono ?_
  rintro e w2 ⟨rfl, hb⟩
  have hb3 := hb.alloc hb.size (.cells (celS (toldS l)).toArray 29)
  have HW3 : Hid (SgW w (w2.alloc (.cells (celS (toldS l)).toArray 29)) b g w2.heap.size l (toldS l)) := Lib.hid ⟨HRW.out.below HRW.out.lt hb3, SupAt.new w2 _, there_below HR1.out HZ1.out hb3, HB1.out.trans (hb3.mono HB1.out.size), Nat.lt_of_lt_of_le HZ1.out hb3.size⟩
  have HI : Hid ((toldS l).id < 18446744073709551616) := Lib.hid (told_id_lt (by rw [HLL.out]; omega))
  clear hb hb3 HRW HR1 HB1 HZ1
  obtain ⟨y, hy⟩ : ∃ y, toldS l = y := ⟨_, rfl⟩
  have HY := Lib.hid hy
  rw [hy] at HW3 HI HM0
  have HM := HM0
  rw [hy]
  clear hy
  have HFL := Lib.hid (fullL_length y)
  go_upto_region 5 with (first | (refine wpList_valn rfl (exec_allocS rfl) ?_) | (refine wpList_nuln rfl (exec_fillS rfl rfl rfl) ?_) | fail)
  generalize w2.alloc (.cells (celS y).toArray 29) = w3 at *
  have HS3 := Lib.hid HW3.out.sup
  have HR3 := Lib.hid HW3.out.row
  generalize w2.heap.size = s at *
  refine wp_region_above (B := w3.heap.size) (by kernel_rfl) ?_
  refine qv_val rfl (fun w' hw => exec_mv rfl (ev rfl)) ?_
  simp only [Act.put, List.setIfInBounds_toArray, List.set_cons_succ, List.set_cons_zero]
  refine qv_call rfl (fun _ => exec_cl Tryd.call23 rfl (evc (ev rfl) evn)) (above_of (Nat.le_refl _) fun w' hw => pevent_b n w' HEV.out) ?_
  simp only [Act.put, List.setIfInBounds_toArray, List.set_cons_succ, List.set_cons_zero]
  refine qv_val (v := .bool false) rfl (fun w' hw => exec_not true rfl (ev rfl)) ?_
  simp only [Act.put, List.setIfInBounds_toArray, List.set_cons_succ, List.set_cons_zero]
  refine qv_val (v := .bool false) rfl (fun w' hw => exec_mv rfl (ev rfl)) ?_
  simp only [Act.put, List.setIfInBounds_toArray, List.set_cons_succ, List.set_cons_zero]
  refine qv_val (wanted_of rfl rfl rfl rfl) (fun w' hw => exec_loadS (c := y) rfl (ev rfl) ((HS3.out.below (blk_lt HS3.out) hw).range)) ?_
  simp only [Act.put, List.setIfInBounds_toArray, List.set_cons_succ, List.set_cons_zero]
  refine qv_call (wanted_of rfl rfl rfl rfl) (fun _ => exec_cl Tryd.call10 rfl (evc (ev rfl) evn)) (above_of (Nat.le_refl _) fun w' hw => pmay_b y w' HM.out) ?_
  simp only [Act.put, List.setIfInBounds_toArray, List.set_cons_succ, List.set_cons_zero]
  refine qv_val (v := .bool true) (wanted_of rfl rfl rfl rfl) (fun w' hw => exec_not false rfl (ev rfl)) ?_
  simp only [Act.put, List.setIfInBounds_toArray, List.set_cons_succ, List.set_cons_zero]
  refine qv_val (v := .bool true) rfl (fun w' hw => exec_pf rfl (ev rfl) (ev rfl)) ?_
  simp only [Act.put, List.setIfInBounds_toArray, List.set_cons_succ, List.set_cons_zero]
  refine qv_vals 6 (v := .bool true) rfl (fun w' hw => exec_mv rfl (ev rfl)) (by kernel_rfl) ?_
  simp only [skipAct, List.take_succ_cons, List.take_zero, List.drop_succ_cons, List.drop_zero, Act.put, List.setIfInBounds_toArray, List.set_cons_succ, List.set_cons_zero]
  refine qv_val (v := .bool true) rfl (fun w' hw => exec_pt rfl (ev rfl) evk) ?_
  simp only [Act.put, List.setIfInBounds_toArray, List.set_cons_succ, List.set_cons_zero]
  refine wpQuiet_nil ?_
  intro w4 hw
  have HW4 := Lib.hid (HW3.out.keep hw)
  have HR4 := Lib.hid HW4.out.res
  have HB4 := Lib.hid HW4.out.bel
  clear HW3 HS3 HR3 hw
  go_wp2_with (first | (refine wpList_valn rfl (exec_bldS rfl) ?_) | (refine wpList_nuln rfl (exec_putS (c := zeroS) rfl rfl rfl ?_) ?_; (with_reducible exact HR4.out)) | fail)
  refine bodyPost_ret (res_tri (t := 29) (cs := celS zeroS) rfl _ _ _ rfl ?h1 Tryd.underlying29 rfl ?h2) rfl ⟨rfl, ?h3⟩
  case h1 => exact World.rangeAt_setCells_same _ _ _ _ (by rw [celS_length]; exact HR4.out)
  case h2 => rw [celS_length]; exact sizeS
  case h3 => exact below_setCells HB4.out (Nat.le_succ _) _
set_option maxHeartbeats 2000000 in
theorem psget_un (b : Blk) (w : World) (T : Tab w) (h0 : getE b.toList = 0) (hev : evB (getN b.toList) = true) (hm : supB (toldS (getB b.toList)) = true) (hd : fullL (toldS (getB b.toList)) ≠ getB b.toList) : Calls Tryd.prog 15 #[blk b] w fun e w' => e = .returned (.tuple #[.int .u64 (0 : Nat), sup zeroS, .int .i64 (5 : Nat)]) ∧ Below w.heap.size w w' := by
  obtain ⟨n, hn⟩ : ∃ n, getN b.toList = n := ⟨_, rfl⟩
  obtain ⟨l, hl⟩ : ∃ l, getB b.toList = l := ⟨_, rfl⟩
  have h1 := (Below.refl w.heap.size w).alloc (Nat.le_refl _) (.cells (cel b).toArray 31)
  have h2 := h1.alloc h1.size (.cells (celS zeroS).toArray 29)
  have HA : Hid (((w.alloc (.cells (cel b).toArray 31)).alloc (.cells (celS zeroS).toArray 29)).rangeAt w.heap.size 0 (cel b)) := Lib.hid (World.rangeAt_alloc (range_new w (cel b) 31) _)
  have hsn := SupAt.new (w.alloc (.cells (cel b).toArray 31)) zeroS
  rw [World.size_alloc] at hsn
  have HR := Lib.hid (there_at (o := 0) (n := 23) hsn (by rw [celS_length]; exact Nat.le_refl _))
  have HZ := Lib.hid (blk_lt hsn)
  have HB := Lib.hid h2
  have HT := Lib.hid (T.below h2)
  have HN := Lib.hid hn
  have HL := Lib.hid hl
  clear h1 h2 hsn T
  rw [hn] at hev
  rw [hl] at hm hd
  have HEV := Lib.hid hev
  have HM0 := Lib.hid hm
  have HD0 : Hid (decide (fullL (toldS l) = l) = false) := Lib.hid (decide_eq_false hd)
  clear hev hm hd
  clear hn hl
  go_enter Tryd.func15, Tryd.ntmps15
  go_wp2_with (first | (refine wpList_valn rfl (exec_box rfl rfl) ?_) | (refine wpList_valn rfl (exec_allocS rfl) ?_) | (refine wpList_valn rfl (exec_load (c := b) rfl rfl ?_) ?_; (with_reducible exact HA.out)) | fail)
  try simp only [World.size_alloc]
  generalize (w.alloc (.cells (cel b).toArray 31)).alloc (.cells (celS zeroS).toArray 29) = w0 at *
  refine (pget_any b _ w0 (Lib.hid rfl) HT.out).mono ?_
  rintro e w1 ⟨v, rfl, hv, hb⟩
  rw [HN.out]
  rw [h0]
  have hll : l.length = 44 := by rw [← HL.out]; exact getB_len h0
  have HLL := Lib.hid hll
  rw [HL.out] at hv
  obtain ⟨g, hve, hrow⟩ : ∃ g, v = .slice (some ⟨g, 0, none⟩) 44 44 ∧ RowL w1 g 5 l := by
    rcases hv with ⟨_, rfl⟩ | ⟨g, e, _, hr, _⟩
    · simp at hll
    · rw [hll] at e; exact ⟨g, e, hr⟩
  subst hve
  have HR1 := Lib.hid (there_below HR.out HZ.out hb)
  have HB1 := Lib.hid (HB.out.trans (hb.mono HB.out.size))
  have HZ1 : Hid (w.heap.size + 1 < w1.heap.size) := Lib.hid (Nat.lt_of_lt_of_le HZ.out hb.size)
  have HRW := Lib.hid hrow
  clear hv hb HA HR HB HZ hll h0 hrow
  go_wp2_with fail
  refine (ptold g l w1 HLL.out HRW.out).mono ?_
  rintro e w2 ⟨rfl, hb⟩
  have hb3 := hb.alloc hb.size (.cells (celS (toldS l)).toArray 29)
  have HW3 : Hid (SgW w (w2.alloc (.cells (celS (toldS l)).toArray 29)) b g w2.heap.size l (toldS l)) := Lib.hid ⟨HRW.out.below HRW.out.lt hb3, SupAt.new w2 _, there_below HR1.out HZ1.out hb3, HB1.out.trans (hb3.mono HB1.out.size), Nat.lt_of_lt_of_le HZ1.out hb3.size⟩
  have HI : Hid ((toldS l).id < 18446744073709551616) := Lib.hid (told_id_lt (by rw [HLL.out]; omega))
  clear hb hb3 HRW HR1 HB1 HZ1
  obtain ⟨y, hy⟩ : ∃ y, toldS l = y := ⟨_, rfl⟩
  have HY := Lib.hid hy
  rw [hy] at HW3 HI HM0 HD0
  have HM := HM0
  have HD := HD0
  rw [hy]
  clear hy
  have HFL := Lib.hid (fullL_length y)
  go_upto_region 5 with (first | (refine wpList_valn rfl (exec_allocS rfl) ?_) | (refine wpList_nuln rfl (exec_fillS rfl rfl rfl) ?_) | fail)
  generalize w2.alloc (.cells (celS y).toArray 29) = w3 at *
  have HS3 := Lib.hid HW3.out.sup
  have HR3 := Lib.hid HW3.out.row
  generalize w2.heap.size = s at *
  refine wp_region_above (B := w3.heap.size) (by kernel_rfl) ?_
  refine qv_val rfl (fun w' hw => exec_mv rfl (ev rfl)) ?_
  simp only [Act.put, List.setIfInBounds_toArray, List.set_cons_succ, List.set_cons_zero]
  refine qv_call rfl (fun _ => exec_cl Tryd.call23 rfl (evc (ev rfl) evn)) (above_of (Nat.le_refl _) fun w' hw => pevent_b n w' HEV.out) ?_
  simp only [Act.put, List.setIfInBounds_toArray, List.set_cons_succ, List.set_cons_zero]
  refine qv_val (v := .bool false) rfl (fun w' hw => exec_not true rfl (ev rfl)) ?_
  simp only [Act.put, List.setIfInBounds_toArray, List.set_cons_succ, List.set_cons_zero]
  refine qv_val (v := .bool false) rfl (fun w' hw => exec_mv rfl (ev rfl)) ?_
  simp only [Act.put, List.setIfInBounds_toArray, List.set_cons_succ, List.set_cons_zero]
  refine qv_val (wanted_of rfl rfl rfl rfl) (fun w' hw => exec_loadS (c := y) rfl (ev rfl) ((HS3.out.below (blk_lt HS3.out) hw).range)) ?_
  simp only [Act.put, List.setIfInBounds_toArray, List.set_cons_succ, List.set_cons_zero]
  refine qv_call (wanted_of rfl rfl rfl rfl) (fun _ => exec_cl Tryd.call10 rfl (evc (ev rfl) evn)) (above_of (Nat.le_refl _) fun w' hw => pmay_b y w' HM.out) ?_
  simp only [Act.put, List.setIfInBounds_toArray, List.set_cons_succ, List.set_cons_zero]
  refine qv_val (v := .bool false) (wanted_of rfl rfl rfl rfl) (fun w' hw => exec_not true rfl (ev rfl)) ?_
  simp only [Act.put, List.setIfInBounds_toArray, List.set_cons_succ, List.set_cons_zero]
  refine qv_val (v := .bool false) rfl (fun w' hw => exec_pf rfl (ev rfl) (ev rfl)) ?_
  simp only [Act.put, List.setIfInBounds_toArray, List.set_cons_succ, List.set_cons_zero]
  refine qv_val (v := .bool false) rfl (fun w' hw => exec_mv rfl (ev rfl)) ?_
  simp only [Act.put, List.setIfInBounds_toArray, List.set_cons_succ, List.set_cons_zero]
  refine qv_val (wanted_of rfl rfl rfl rfl) (fun w' hw => exec_loadS (c := y) rfl (ev rfl) ((HS3.out.below (blk_lt HS3.out) hw).range)) ?_
  simp only [Act.put, List.setIfInBounds_toArray, List.set_cons_succ, List.set_cons_zero]
  refine qv_call (wanted_of rfl rfl rfl rfl) (fun _ => exec_cl Tryd.call24 rfl (evc (ev rfl) evn)) (above_of (Nat.le_refl _) fun w' hw => plaid y w' HI.out HM.out) ?_
  simp only [Act.put, List.setIfInBounds_toArray, List.set_cons_succ, List.set_cons_zero]
  refine qv_val (wanted_of rfl rfl rfl rfl) (fun w' hw => exec_mv rfl (ev rfl)) ?_
  simp only [Act.put, List.setIfInBounds_toArray, List.set_cons_succ, List.set_cons_zero]
  refine qv_val (wanted_of rfl rfl rfl rfl) (fun w' hw => exec_s2a rfl (ev rfl)) ?_
  simp only [Act.put, List.setIfInBounds_toArray, List.set_cons_succ, List.set_cons_zero]
  refine qv_val (wanted_of rfl rfl rfl rfl) (fun w' hw => exec_load44 HLL.out rfl (ev rfl) (rng_at (HR3.out.below HR3.out.lt hw))) ?_
  simp only [Act.put, List.setIfInBounds_toArray, List.set_cons_succ, List.set_cons_zero]
  refine qv_val (v := .bool true) (wanted_of rfl rfl rfl rfl) (fun w' hw => exec_ne44 false HFL.out HLL.out rfl (ev rfl) (ev rfl) HD.out) ?_
  simp only [Act.put, List.setIfInBounds_toArray, List.set_cons_succ, List.set_cons_zero]
  refine qv_val (v := .bool true) rfl (fun w' hw => exec_pf rfl (ev rfl) (ev rfl)) ?_
  simp only [Act.put, List.setIfInBounds_toArray, List.set_cons_succ, List.set_cons_zero]
  refine wpQuiet_nil ?_
  intro w4 hw
  have HW4 := Lib.hid (HW3.out.keep hw)
  have HR4 := Lib.hid HW4.out.res
  have HB4 := Lib.hid HW4.out.bel
  clear HW3 HS3 HR3 hw
  go_wp2_with (first | (refine wpList_valn rfl (exec_bldS rfl) ?_) | (refine wpList_nuln rfl (exec_putS (c := zeroS) rfl rfl rfl ?_) ?_; (with_reducible exact HR4.out)) | fail)
  refine bodyPost_ret (res_tri (t := 29) (cs := celS zeroS) rfl _ _ _ rfl ?h1 Tryd.underlying29 rfl ?h2) rfl ⟨rfl, ?h3⟩
  case h1 => exact World.rangeAt_setCells_same _ _ _ _ (by rw [celS_length]; exact HR4.out)
  case h2 => rw [celS_length]; exact sizeS
  case h3 => exact below_setCells HB4.out (Nat.le_succ _) _
set_option maxHeartbeats 2000000 in
theorem psget_yes (b : Blk) (w : World) (T : Tab w) (h0 : getE b.toList = 0) (hev : evB (getN b.toList) = true) (hm : supB (toldS (getB b.toList)) = true) (hd : fullL (toldS (getB b.toList)) = getB b.toList) : Calls Tryd.prog 15 #[blk b] w fun e w' => e = .returned (.tuple #[.int .u64 (getN b.toList : Nat), sup (toldS (getB b.toList)), .int .i64 (0 : Nat)]) ∧ Below w.heap.size w w' := by
  obtain ⟨n, hn⟩ : ∃ n, getN b.toList = n := ⟨_, rfl⟩
  obtain ⟨l, hl⟩ : ∃ l, getB b.toList = l := ⟨_, rfl⟩
  have h1 := (Below.refl w.heap.size w).alloc (Nat.le_refl _) (.cells (cel b).toArray 31)
  have h2 := h1.alloc h1.size (.cells (celS zeroS).toArray 29)
  have HA : Hid (((w.alloc (.cells (cel b).toArray 31)).alloc (.cells (celS zeroS).toArray 29)).rangeAt w.heap.size 0 (cel b)) := Lib.hid (World.rangeAt_alloc (range_new w (cel b) 31) _)
  have hsn := SupAt.new (w.alloc (.cells (cel b).toArray 31)) zeroS
  rw [World.size_alloc] at hsn
  have HR := Lib.hid (there_at (o := 0) (n := 23) hsn (by rw [celS_length]; exact Nat.le_refl _))
  have HZ := Lib.hid (blk_lt hsn)
  have HB := Lib.hid h2
  have HT := Lib.hid (T.below h2)
  have HN := Lib.hid hn
  have HL := Lib.hid hl
  clear h1 h2 hsn T
  rw [hn] at hev
  rw [hl] at hm hd
  have HEV := Lib.hid hev
  have HM0 := Lib.hid hm
  have HD0 : Hid (decide (fullL (toldS l) = l) = true) := Lib.hid (decide_eq_true hd)
  clear hev hm hd
  clear hn hl
  go_enter Tryd.func15, Tryd.ntmps15
  go_wp2_with (first | (refine wpList_valn rfl (exec_box rfl rfl) ?_) | (refine wpList_valn rfl (exec_allocS rfl) ?_) | (refine wpList_valn rfl (exec_load (c := b) rfl rfl ?_) ?_; (with_reducible exact HA.out)) | fail)
  try simp only [World.size_alloc]
  generalize (w.alloc (.cells (cel b).toArray 31)).alloc (.cells (celS zeroS).toArray 29) = w0 at *
  refine (pget_any b _ w0 (Lib.hid rfl) HT.out).mono ?_
  rintro e w1 ⟨v, rfl, hv, hb⟩
  rw [HN.out]
  rw [h0]
  have hll : l.length = 44 := by rw [← HL.out]; exact getB_len h0
  have HLL := Lib.hid hll
  rw [HL.out] at hv
  obtain ⟨g, hve, hrow⟩ : ∃ g, v = .slice (some ⟨g, 0, none⟩) 44 44 ∧ RowL w1 g 5 l := by
    rcases hv with ⟨_, rfl⟩ | ⟨g, e, _, hr, _⟩
    · simp at hll
    · rw [hll] at e; exact ⟨g, e, hr⟩
  subst hve
  have HR1 := Lib.hid (there_below HR.out HZ.out hb)
  have HB1 := Lib.hid (HB.out.trans (hb.mono HB.out.size))
  have HZ1 : Hid (w.heap.size + 1 < w1.heap.size) := Lib.hid (Nat.lt_of_lt_of_le HZ.out hb.size)
  have HRW := Lib.hid hrow
  clear hv hb HA HR HB HZ hll h0 hrow
  go_wp2_with fail
  refine (ptold g l w1 HLL.out HRW.out).mono ?_
  rintro e w2 ⟨rfl, hb⟩
  have hb3 := hb.alloc hb.size (.cells (celS (toldS l)).toArray 29)
  have HW3 : Hid (SgW w (w2.alloc (.cells (celS (toldS l)).toArray 29)) b g w2.heap.size l (toldS l)) := Lib.hid ⟨HRW.out.below HRW.out.lt hb3, SupAt.new w2 _, there_below HR1.out HZ1.out hb3, HB1.out.trans (hb3.mono HB1.out.size), Nat.lt_of_lt_of_le HZ1.out hb3.size⟩
  have HI : Hid ((toldS l).id < 18446744073709551616) := Lib.hid (told_id_lt (by rw [HLL.out]; omega))
  clear hb hb3 HRW HR1 HB1 HZ1
  obtain ⟨y, hy⟩ : ∃ y, toldS l = y := ⟨_, rfl⟩
  have HY := Lib.hid hy
  rw [hy] at HW3 HI HM0 HD0
  have HM := HM0
  have HD := HD0
  rw [hy]
  clear hy
  have HFL := Lib.hid (fullL_length y)
  go_upto_region 5 with (first | (refine wpList_valn rfl (exec_allocS rfl) ?_) | (refine wpList_nuln rfl (exec_fillS rfl rfl rfl) ?_) | fail)
  generalize w2.alloc (.cells (celS y).toArray 29) = w3 at *
  have HS3 := Lib.hid HW3.out.sup
  have HR3 := Lib.hid HW3.out.row
  generalize w2.heap.size = s at *
  refine wp_region_above (B := w3.heap.size) (by kernel_rfl) ?_
  refine qv_val rfl (fun w' hw => exec_mv rfl (ev rfl)) ?_
  simp only [Act.put, List.setIfInBounds_toArray, List.set_cons_succ, List.set_cons_zero]
  refine qv_call rfl (fun _ => exec_cl Tryd.call23 rfl (evc (ev rfl) evn)) (above_of (Nat.le_refl _) fun w' hw => pevent_b n w' HEV.out) ?_
  simp only [Act.put, List.setIfInBounds_toArray, List.set_cons_succ, List.set_cons_zero]
  refine qv_val (v := .bool false) rfl (fun w' hw => exec_not true rfl (ev rfl)) ?_
  simp only [Act.put, List.setIfInBounds_toArray, List.set_cons_succ, List.set_cons_zero]
  refine qv_val (v := .bool false) rfl (fun w' hw => exec_mv rfl (ev rfl)) ?_
  simp only [Act.put, List.setIfInBounds_toArray, List.set_cons_succ, List.set_cons_zero]
  refine qv_val (wanted_of rfl rfl rfl rfl) (fun w' hw => exec_loadS (c := y) rfl (ev rfl) ((HS3.out.below (blk_lt HS3.out) hw).range)) ?_
  simp only [Act.put, List.setIfInBounds_toArray, List.set_cons_succ, List.set_cons_zero]
  refine qv_call (wanted_of rfl rfl rfl rfl) (fun _ => exec_cl Tryd.call10 rfl (evc (ev rfl) evn)) (above_of (Nat.le_refl _) fun w' hw => pmay_b y w' HM.out) ?_
  simp only [Act.put, List.setIfInBounds_toArray, List.set_cons_succ, List.set_cons_zero]
  refine qv_val (v := .bool false) (wanted_of rfl rfl rfl rfl) (fun w' hw => exec_not true rfl (ev rfl)) ?_
  simp only [Act.put, List.setIfInBounds_toArray, List.set_cons_succ, List.set_cons_zero]
  refine qv_val (v := .bool false) rfl (fun w' hw => exec_pf rfl (ev rfl) (ev rfl)) ?_
  simp only [Act.put, List.setIfInBounds_toArray, List.set_cons_succ, List.set_cons_zero]
  refine qv_val (v := .bool false) rfl (fun w' hw => exec_mv rfl (ev rfl)) ?_
  simp only [Act.put, List.setIfInBounds_toArray, List.set_cons_succ, List.set_cons_zero]
  refine qv_val (wanted_of rfl rfl rfl rfl) (fun w' hw => exec_loadS (c := y) rfl (ev rfl) ((HS3.out.below (blk_lt HS3.out) hw).range)) ?_
  simp only [Act.put, List.setIfInBounds_toArray, List.set_cons_succ, List.set_cons_zero]
  refine qv_call (wanted_of rfl rfl rfl rfl) (fun _ => exec_cl Tryd.call24 rfl (evc (ev rfl) evn)) (above_of (Nat.le_refl _) fun w' hw => plaid y w' HI.out HM.out) ?_
  simp only [Act.put, List.setIfInBounds_toArray, List.set_cons_succ, List.set_cons_zero]
  refine qv_val (wanted_of rfl rfl rfl rfl) (fun w' hw => exec_mv rfl (ev rfl)) ?_
  simp only [Act.put, List.setIfInBounds_toArray, List.set_cons_succ, List.set_cons_zero]
  refine qv_val (wanted_of rfl rfl rfl rfl) (fun w' hw => exec_s2a rfl (ev rfl)) ?_
  simp only [Act.put, List.setIfInBounds_toArray, List.set_cons_succ, List.set_cons_zero]
  refine qv_val (wanted_of rfl rfl rfl rfl) (fun w' hw => exec_load44 HLL.out rfl (ev rfl) (rng_at (HR3.out.below HR3.out.lt hw))) ?_
  simp only [Act.put, List.setIfInBounds_toArray, List.set_cons_succ, List.set_cons_zero]
  refine qv_val (v := .bool false) (wanted_of rfl rfl rfl rfl) (fun w' hw => exec_ne44 true HFL.out HLL.out rfl (ev rfl) (ev rfl) HD.out) ?_
  simp only [Act.put, List.setIfInBounds_toArray, List.set_cons_succ, List.set_cons_zero]
  refine qv_val (v := .bool false) rfl (fun w' hw => exec_pf rfl (ev rfl) (ev rfl)) ?_
  simp only [Act.put, List.setIfInBounds_toArray, List.set_cons_succ, List.set_cons_zero]
  refine wpQuiet_nil ?_
  intro w4 hw
  have HW4 := Lib.hid (HW3.out.keep hw)
  have HR4 := Lib.hid HW4.out.res
  have HB4 := Lib.hid HW4.out.bel
  have HLD := Lib.hid HW4.out.sup.range
  clear HW3 HS3 HR3 hw
  go_wp2_with fail
  refine wp_region_still_tail 3 (by kernel_rfl) (by kernel_rfl) ?_
  simp only [List.take_succ_cons, List.take_zero, List.drop_succ_cons, List.drop_zero]
  refine st_val rfl (exec_mv rfl (ev rfl)) ?_
  simp only [Act.put, List.setIfInBounds_toArray, List.set_cons_succ, List.set_cons_zero]
  refine st_val rfl (exec_loadS (c := y) rfl (ev rfl) HLD.out) ?_
  simp only [Act.put, List.setIfInBounds_toArray, List.set_cons_succ, List.set_cons_zero]
  refine st_val rfl (exec_as rfl (ev rfl)) ?_
  simp only [Act.put, List.setIfInBounds_toArray, List.set_cons_succ, List.set_cons_zero]
  refine wpStill_nil ?_
  change wpList _ _ _ _ _ (World.drew _)
  refine wpList_nul rfl (exec_putS (c := y) rfl (ev rfl) (ev rfl) HR4.out) ?_
  simp only [Act.put, List.setIfInBounds_toArray, List.set_cons_succ, List.set_cons_zero]
  refine wpList_val rfl (exec_as rfl evk) ?_
  simp only [Act.put, List.setIfInBounds_toArray, List.set_cons_succ, List.set_cons_zero]
  refine wpList_nil ?_
  go_wp2_with fail
  refine bodyPost_ret (res_tri (t := 29) (cs := celS y) rfl _ _ _ rfl ?h1 Tryd.underlying29 rfl ?h2) rfl ⟨by rw [HN.out, HL.out, HY.out]; rfl, ?h3⟩
  case h1 => exact World.rangeAt_setCells_same _ _ _ _ (by rw [celS_length]; exact HR4.out)
  case h2 => rw [celS_length]; exact sizeS
  case h3 => exact below_setCells (bd HB4.out) (Nat.le_succ _) _
theorem psget (b : Blk) (w : World) (T : Tab w) : Calls Tryd.prog 15 #[blk b] w fun e w' => e = .returned (.tuple #[.int .u64 (gsN b : Nat), sup (gsS b), .int .i64 (gsE b : Nat)]) ∧ Below w.heap.size w w' := by
  by_cases h0 : getE b.toList = 0
  · by_cases hev : evB (getN b.toList) = true
    · by_cases hm : supB (toldS (getB b.toList)) = true
      · by_cases hd : fullL (toldS (getB b.toList)) = getB b.toList
        · have hE := gsE_ok h0 ⟨hev, hm, hd⟩
          rw [gsN_of hE, gsS_of hE, hE]
          exact psget_yes b w T h0 hev hm hd
        · have hE := gsE_form h0 (fun h => hd h.2.2)
          rw [gsN_no (by omega), gsS_no (by omega), hE]
          exact psget_un b w T h0 hev hm hd
      · have hE := gsE_form h0 (fun h => hm h.2.1)
        rw [gsN_no (by omega), gsS_no (by omega), hE]
        exact psget_may b w T h0 hev (by simpa using hm)
    · have hE := gsE_form h0 (fun h => hev h.1)
      rw [gsN_no (by omega), gsS_no (by omega), hE]
      exact psget_ev b w T h0 (by simpa using hev)
  · have hE := gsE_seal h0
    rw [gsN_no (by omega), gsS_no (by omega), hE]
    exact psget_seal b w T h0
end Go.Proofs.YtiilclncedipiaaDoor
namespace Go.Proofs.YtiilclncedipiaaDoor
open Go.RowKit
set_option linter.unusedVariables false
set_option linter.unusedSimpArgs false
set_option maxRecDepth 100000

/-- Two blocks boxed, and a superblock's place. -/
def w3_ (w : World) (a b : Blk) : World := ((w.alloc (.cells (cel a).toArray 31)).alloc (.cells (cel b).toArray 31)).alloc (.cells (celS zeroS).toArray 29)
theorem three_new (w : World) (a b : Blk) : (w3_ w a b).rangeAt w.heap.size 0 (cel a) ∧ (w3_ w a b).rangeAt (w.heap.size + 1) 0 (cel b) ∧ (w3_ w a b).there (w.heap.size + 1 + 1) 0 23 ∧ Below w.heap.size w (w3_ w a b) ∧ w.heap.size + 1 + 1 < (w3_ w a b).heap.size := by
  unfold w3_
  have e1 := World.size_alloc (w := w) (o := Obj.cells (cel a).toArray 31)
  have e2 := World.size_alloc (w := (w.alloc (.cells (cel a).toArray 31))) (o := Obj.cells (cel b).toArray 31)
  have h3 := SupAt.new ((w.alloc (.cells (cel a).toArray 31)).alloc (.cells (cel b).toArray 31)) zeroS
  rw [e2, e1] at h3
  refine ⟨World.rangeAt_alloc (World.rangeAt_alloc (range_new w (cel a) _) _) _, ?_, there_at (o := 0) (n := 23) h3 (by rw [celS_length]; exact Nat.le_refl _), ?_, blk_lt h3⟩
  · rw [← e1]; exact World.rangeAt_alloc (range_new _ (cel b) _) _
  · exact (((Below.refl _ w).alloc (Nat.le_refl _) _).alloc (by omega) _).alloc (by omega) _
theorem res_tri2 {fn : Func} {p q u : Tmp} {t : TypeId} {cs : List Value} {d : TypeDesc} (h : fn.results = #[.tmp p, .tmp u, .cell q t]) (tmps : Array Value) (w : World) (b : Nat) (hq : tmps.getD q undef = .pointer (some ⟨b, 0, none⟩)) (hr : w.rangeAt b 0 cs) (hu : Tryd.prog.underlying t = some d) (hd : d.isRow = true) (hz : (Tryd.prog.info? t).map (·.size) = some cs.length) :
    (results fn tmps).run Tryd.prog w = .ok (.tuple #[tmps.getD p undef, tmps.getD u undef, .agg cs.toArray]) w := by
  have hl : (loadVar t ⟨b, 0, none⟩).run Tryd.prog w = .ok (.agg cs.toArray) w := run_loadVar_mid (P := Tryd.prog) w b 0 t cs d hr hu hd hz
  have hq' : tmps[q]?.getD undef = .pointer (some ⟨b, 0, none⟩) := by simpa using hq
  simp [results, h, hq', asAddr, hl]
theorem range_same {w : World} {b : Nat} (c : Sup) (h : w.there b 0 23) : (w.setCells b 0 (celS c)).rangeAt b 0 (celS c) := World.rangeAt_setCells_same _ _ _ _ (by rw [celS_length]; exact h)
theorem size_setCells (w : World) (b o : Nat) (vs : List Value) : (w.setCells b o vs).heap.size = w.heap.size := (heap_setCells b vs o w).1
def nwW (a b : Blk) : Nat := if gsN a < gsN b then 1 else 0
set_option maxHeartbeats 2000000 in
theorem pnewest_b (a b : Blk) (w : World) (T : Tab w) (hlt : gsN a < gsN b) : Calls Tryd.prog 41 #[blk a, blk b] w fun e w' => e = .returned (.tuple #[.int .i64 1, .int .u64 (gsN b : Nat), sup (gsS b)]) ∧ Below w.heap.size w w' := by
  obtain ⟨h1, h2, h3, h4, h5⟩ := three_new w a b
  unfold w3_ at h1 h2 h3 h4 h5
  obtain ⟨x, hx⟩ : ∃ x, gsN a = x := ⟨_, rfl⟩
  obtain ⟨y, hy⟩ : ∃ y, gsN b = y := ⟨_, rfl⟩
  rw [hx, hy] at hlt
  obtain ⟨p, hp⟩ : ∃ p, gsS a = p := ⟨_, rfl⟩
  obtain ⟨q, hq⟩ : ∃ q, gsS b = q := ⟨_, rfl⟩
  have HX := Lib.hid hx
  have HY := Lib.hid hy
  have HP := Lib.hid hp
  have HQ := Lib.hid hq
  have HA := Lib.hid h1
  have HBK := Lib.hid h2
  have HR := Lib.hid h3
  have HB := Lib.hid h4
  have HZ := Lib.hid h5
  have HT := Lib.hid T
  clear h1 h2 h3 h4 h5 T hx hy hp hq
  go_enter Tryd.func41, Tryd.ntmps41
  go_wp2_with (first | (refine wpList_valn rfl (exec_box rfl rfl) ?_) | (refine wpList_valn rfl (exec_allocS rfl) ?_) | (refine wpList_valn rfl (exec_load (c := a) rfl rfl ?_) ?_; (with_reducible exact HA.out)) | fail)
  try simp only [World.size_alloc]
  generalize ((w.alloc (.cells (cel a).toArray 31)).alloc (.cells (cel b).toArray 31)).alloc (.cells (celS zeroS).toArray 29) = w0 at *
  refine (psget a w0 (HT.out.below HB.out)).mono ?_
  rintro e w1 ⟨rfl, hb⟩
  have HBK1 := Lib.hid (World.rangeAt_setCells_apart (range_below HBK.out (by have := HZ.out; omega) hb) (w.heap.size + 1 + 1) 0 (celS (gsS a)) (.inl (by omega)))
  have HR1 := Lib.hid (there_below HR.out HZ.out hb)
  have hb1 := HB.out.trans (hb.mono HB.out.size)
  have HB1 := Lib.hid (below_setCells (b := w.heap.size + 1 + 1) (o := 0) hb1 (by omega) (celS (gsS a)))
  have HPR := Lib.hid (range_same (gsS a) HR1.out)
  have HR2 := Lib.hid (World.there_setCells HR1.out (w.heap.size + 1 + 1) 0 (celS (gsS a)))
  have HZ1 : Hid (w.heap.size + 1 + 1 < (w1.setCells (w.heap.size + 1 + 1) 0 (celS (gsS a))).heap.size) := Lib.hid (by rw [size_setCells]; exact Nat.lt_of_lt_of_le HZ.out hb.size)
  rw [HP.out] at HBK1 HB1 HPR HR2 HZ1
  rw [HX.out, HP.out]
  clear hb hb1 HBK HR HB HA HZ
  go_upto_region 2 with (first | (refine wpList_nuln rfl (exec_putS (c := p) rfl rfl rfl ?_) ?_; (with_reducible exact HR1.out)) | fail)
  generalize w1.setCells (w.heap.size + 1 + 1) 0 (celS p) = w2 at *
  go_wp2_with (first | (refine wpList_valn rfl (exec_load (c := b) rfl rfl ?_) ?_; (with_reducible exact HBK1.out)) | fail)
  refine (psget b w2 (HT.out.below HB1.out)).mono ?_
  rintro e w3 ⟨rfl, hb⟩
  have hb3 := hb.alloc hb.size (.cells (celS (gsS b)).toArray 29)
  have HPR3 := Lib.hid (range_below HPR.out HZ1.out hb3)
  have HR3 := Lib.hid (there_below HR2.out HZ1.out hb3)
  have HB3 := Lib.hid (HB1.out.trans (hb3.mono HB1.out.size))
  have HQR3 := Lib.hid (SupAt.new w3 (gsS b)).range
  rw [HQ.out] at HPR3 HR3 HB3 HQR3
  rw [HY.out, HQ.out]
  clear hb hb3 HBK1 HPR HR2 HB1 HR1 HZ1
  have hd : decide ((x : Int) < (y : Int)) = true := by simp; omega
  have hd2 : decide (x < y) = true := by simp; omega
  clear hlt
  go_upto_region 4 with (first | (refine wpList_valn rfl (exec_allocS rfl) ?_) | (refine wpList_nuln rfl (exec_fillS rfl rfl rfl) ?_) | fail)
  generalize w3.alloc (.cells (celS q).toArray 29) = w4 at *
  go_wp2_with fail
  refine wp_region_still_tail 4 (by kernel_rfl) (by kernel_rfl) ?_
  simp only [List.take_succ_cons, List.take_zero, List.drop_succ_cons, List.drop_zero]
  refine st_val rfl (exec_mv rfl (ev rfl)) ?_
  simp only [Act.put, List.setIfInBounds_toArray, List.set_cons_succ, List.set_cons_zero]
  refine st_val rfl (exec_loadS (c := q) rfl (ev rfl) HQR3.out) ?_
  simp only [Act.put, List.setIfInBounds_toArray, List.set_cons_succ, List.set_cons_zero]
  refine st_val rfl (exec_as rfl evk) ?_
  simp only [Act.put, List.setIfInBounds_toArray, List.set_cons_succ, List.set_cons_zero]
  refine st_val rfl (exec_as rfl (ev rfl)) ?_
  simp only [Act.put, List.setIfInBounds_toArray, List.set_cons_succ, List.set_cons_zero]
  refine wpStill_nil ?_
  change wpList _ _ _ _ _ (World.drew _)
  refine wpList_nul rfl (exec_putS (c := q) rfl (ev rfl) (ev rfl) HR3.out) ?_
  simp only [Act.put, List.setIfInBounds_toArray, List.set_cons_succ, List.set_cons_zero]
  refine wpList_nil ?_
  go_wp2_with fail
  refine bodyPost_ret (res_tri2 (t := 29) (cs := celS q) rfl _ _ _ rfl ?h1 Tryd.underlying29 rfl ?h2) rfl ⟨by rw [HY.out, HQ.out]; rfl, ?h3⟩
  case h1 => exact World.rangeAt_setCells_same _ _ _ _ (by rw [celS_length]; exact HR3.out)
  case h2 => rw [celS_length]; exact sizeS
  case h3 => exact below_setCells (bd HB3.out) (by omega) _
set_option maxHeartbeats 2000000 in
theorem pnewest_a (a b : Blk) (w : World) (T : Tab w) (hlt : ¬ gsN a < gsN b) : Calls Tryd.prog 41 #[blk a, blk b] w fun e w' => e = .returned (.tuple #[.int .i64 0, .int .u64 (gsN a : Nat), sup (gsS a)]) ∧ Below w.heap.size w w' := by
  obtain ⟨h1, h2, h3, h4, h5⟩ := three_new w a b
  unfold w3_ at h1 h2 h3 h4 h5
  obtain ⟨x, hx⟩ : ∃ x, gsN a = x := ⟨_, rfl⟩
  obtain ⟨y, hy⟩ : ∃ y, gsN b = y := ⟨_, rfl⟩
  rw [hx, hy] at hlt
  obtain ⟨p, hp⟩ : ∃ p, gsS a = p := ⟨_, rfl⟩
  obtain ⟨q, hq⟩ : ∃ q, gsS b = q := ⟨_, rfl⟩
  have HX := Lib.hid hx
  have HY := Lib.hid hy
  have HP := Lib.hid hp
  have HQ := Lib.hid hq
  have HA := Lib.hid h1
  have HBK := Lib.hid h2
  have HR := Lib.hid h3
  have HB := Lib.hid h4
  have HZ := Lib.hid h5
  have HT := Lib.hid T
  clear h1 h2 h3 h4 h5 T hx hy hp hq
  go_enter Tryd.func41, Tryd.ntmps41
  go_wp2_with (first | (refine wpList_valn rfl (exec_box rfl rfl) ?_) | (refine wpList_valn rfl (exec_allocS rfl) ?_) | (refine wpList_valn rfl (exec_load (c := a) rfl rfl ?_) ?_; (with_reducible exact HA.out)) | fail)
  try simp only [World.size_alloc]
  generalize ((w.alloc (.cells (cel a).toArray 31)).alloc (.cells (cel b).toArray 31)).alloc (.cells (celS zeroS).toArray 29) = w0 at *
  refine (psget a w0 (HT.out.below HB.out)).mono ?_
  rintro e w1 ⟨rfl, hb⟩
  have HBK1 := Lib.hid (World.rangeAt_setCells_apart (range_below HBK.out (by have := HZ.out; omega) hb) (w.heap.size + 1 + 1) 0 (celS (gsS a)) (.inl (by omega)))
  have HR1 := Lib.hid (there_below HR.out HZ.out hb)
  have hb1 := HB.out.trans (hb.mono HB.out.size)
  have HB1 := Lib.hid (below_setCells (b := w.heap.size + 1 + 1) (o := 0) hb1 (by omega) (celS (gsS a)))
  have HPR := Lib.hid (range_same (gsS a) HR1.out)
  have HR2 := Lib.hid (World.there_setCells HR1.out (w.heap.size + 1 + 1) 0 (celS (gsS a)))
  have HZ1 : Hid (w.heap.size + 1 + 1 < (w1.setCells (w.heap.size + 1 + 1) 0 (celS (gsS a))).heap.size) := Lib.hid (by rw [size_setCells]; exact Nat.lt_of_lt_of_le HZ.out hb.size)
  rw [HP.out] at HBK1 HB1 HPR HR2 HZ1
  rw [HX.out, HP.out]
  clear hb hb1 HBK HR HB HA HZ
  go_upto_region 2 with (first | (refine wpList_nuln rfl (exec_putS (c := p) rfl rfl rfl ?_) ?_; (with_reducible exact HR1.out)) | fail)
  generalize w1.setCells (w.heap.size + 1 + 1) 0 (celS p) = w2 at *
  go_wp2_with (first | (refine wpList_valn rfl (exec_load (c := b) rfl rfl ?_) ?_; (with_reducible exact HBK1.out)) | fail)
  refine (psget b w2 (HT.out.below HB1.out)).mono ?_
  rintro e w3 ⟨rfl, hb⟩
  have hb3 := hb.alloc hb.size (.cells (celS (gsS b)).toArray 29)
  have HPR3 := Lib.hid (range_below HPR.out HZ1.out hb3)
  have HR3 := Lib.hid (there_below HR2.out HZ1.out hb3)
  have HB3 := Lib.hid (HB1.out.trans (hb3.mono HB1.out.size))
  have HQR3 := Lib.hid (SupAt.new w3 (gsS b)).range
  rw [HQ.out] at HPR3 HR3 HB3 HQR3
  rw [HY.out, HQ.out]
  clear hb hb3 HBK1 HPR HR2 HB1 HR1 HZ1
  have hd : decide ((x : Int) < (y : Int)) = false := by simp; omega
  have hd2 : decide (x < y) = false := by simp; omega
  clear hlt
  go_upto_region 5 with (first | (refine wpList_valn rfl (exec_allocS rfl) ?_) | (refine wpList_nuln rfl (exec_fillS rfl rfl rfl) ?_) | fail)
  generalize w3.alloc (.cells (celS q).toArray 29) = w4 at *
  go_wp2_with fail
  refine wp_region_still_tail 4 (by kernel_rfl) (by kernel_rfl) ?_
  simp only [List.take_succ_cons, List.take_zero, List.drop_succ_cons, List.drop_zero]
  refine st_val rfl (exec_mv rfl (ev rfl)) ?_
  simp only [Act.put, List.setIfInBounds_toArray, List.set_cons_succ, List.set_cons_zero]
  refine st_val rfl (exec_loadS (c := p) rfl (ev rfl) HPR3.out) ?_
  simp only [Act.put, List.setIfInBounds_toArray, List.set_cons_succ, List.set_cons_zero]
  refine st_val rfl (exec_as rfl evk) ?_
  simp only [Act.put, List.setIfInBounds_toArray, List.set_cons_succ, List.set_cons_zero]
  refine st_val rfl (exec_as rfl (ev rfl)) ?_
  simp only [Act.put, List.setIfInBounds_toArray, List.set_cons_succ, List.set_cons_zero]
  refine wpStill_nil ?_
  change wpList _ _ _ _ _ (World.drew _)
  refine wpList_nul rfl (exec_putS (c := p) rfl (ev rfl) (ev rfl) HR3.out) ?_
  simp only [Act.put, List.setIfInBounds_toArray, List.set_cons_succ, List.set_cons_zero]
  refine wpList_nil ?_
  go_wp2_with fail
  refine bodyPost_ret (res_tri2 (t := 29) (cs := celS p) rfl _ _ _ rfl ?h1 Tryd.underlying29 rfl ?h2) rfl ⟨by rw [HX.out, HP.out]; rfl, ?h3⟩
  case h1 => exact World.rangeAt_setCells_same _ _ _ _ (by rw [celS_length]; exact HR3.out)
  case h2 => rw [celS_length]; exact sizeS
  case h3 => exact below_setCells (bd HB3.out) (by omega) _
theorem pnewest (a b : Blk) (w : World) (T : Tab w) : Calls Tryd.prog 41 #[blk a, blk b] w fun e w' => e = .returned (.tuple #[.int .i64 (nwW a b : Nat), .int .u64 (nwN a b : Nat), sup (nwS a b)]) ∧ Below w.heap.size w w' := by
  unfold nwW nwN nwS
  by_cases hlt : gsN a < gsN b
  · rw [if_pos hlt, if_pos hlt, if_pos hlt]
    exact pnewest_b a b w T hlt
  · rw [if_neg hlt, if_neg hlt, if_neg hlt]
    exact pnewest_a a b w T hlt
end Go.Proofs.YtiilclncedipiaaDoor
namespace Go.Proofs.YtiilclncedipiaaDoor
open Go.RowKit
set_option linter.unusedVariables false
set_option linter.unusedSimpArgs false
set_option maxRecDepth 100000

theorem two_new (w : World) (a b : Blk) : ((w.alloc (.cells (cel a).toArray 31)).alloc (.cells (cel b).toArray 31)).rangeAt w.heap.size 0 (cel a) ∧ ((w.alloc (.cells (cel a).toArray 31)).alloc (.cells (cel b).toArray 31)).rangeAt (w.heap.size + 1) 0 (cel b) ∧ Below w.heap.size w ((w.alloc (.cells (cel a).toArray 31)).alloc (.cells (cel b).toArray 31)) ∧ w.heap.size + 1 < ((w.alloc (.cells (cel a).toArray 31)).alloc (.cells (cel b).toArray 31)).heap.size := by
  have e1 := World.size_alloc (w := w) (o := Obj.cells (cel a).toArray 31)
  refine ⟨World.rangeAt_alloc (range_new w (cel a) _) _, ?_, ?_, by simp only [World.size_alloc]; omega⟩
  · rw [← e1]; exact range_new _ (cel b) _
  · exact ((Below.refl _ w).alloc (Nat.le_refl _) _).alloc (by omega) _
theorem slot_of (a b : Blk) : sloT a b = if nwN a b ≠ 0 ∧ nwW a b = 0 then 1 else 0 := by
  unfold sloT nwN nwW
  by_cases h : gsN a < gsN b
  · rw [if_pos h, if_pos h, if_neg (by omega), if_neg (by omega)]
  · rw [if_neg h, if_neg h]
    by_cases h0 : gsN a ≠ 0
    · rw [if_pos ⟨h0, h⟩, if_pos ⟨h0, rfl⟩]
    · rw [if_neg (by omega), if_neg (by omega)]
theorem nwW_two (a b : Blk) : nwW a b = 0 ∨ nwW a b = 1 := by unfold nwW; split <;> omega
set_option maxHeartbeats 2000000 in
theorem pslot (a b : Blk) (w : World) (T : Tab w) : Calls Tryd.prog 20 #[blk a, blk b] w fun e w' => e = .returned (.int .i64 (sloT a b : Nat)) ∧ Below w.heap.size w w' := by
  obtain ⟨h1, h2, h4, h5⟩ := two_new w a b
  have HSL := Lib.hid (slot_of a b)
  have h2w := nwW_two a b
  obtain ⟨n, hn⟩ : ∃ n, nwN a b = n := ⟨_, rfl⟩
  obtain ⟨k, hk⟩ : ∃ k, nwW a b = k := ⟨_, rfl⟩
  obtain ⟨p, hp⟩ : ∃ p, nwS a b = p := ⟨_, rfl⟩
  rw [hn, hk] at HSL
  rw [hk] at h2w
  have HA := Lib.hid h1
  have HBK := Lib.hid h2
  have HB := Lib.hid h4
  have HT := Lib.hid (T.below h4)
  have HN := Lib.hid hn
  have HK := Lib.hid hk
  have HP := Lib.hid hp
  clear h1 h2 h4 h5 T hn hk hp
  go_enter Tryd.func20, Tryd.ntmps20
  go_wp2_with (first | (refine wpList_valn rfl (exec_box rfl rfl) ?_) | (refine wpList_valn rfl (exec_load (c := a) rfl rfl ?_) ?_; (with_reducible exact HA.out)) | (refine wpList_valn rfl (exec_load (c := b) rfl rfl ?_) ?_; (with_reducible exact HBK.out)) | fail)
  refine (pnewest a b _ HT.out).mono ?_
  rintro e w1 ⟨rfl, hb⟩
  rw [HN.out, HK.out, HP.out]
  have hb1 := HB.out.trans (hb.mono HB.out.size)
  have HB1 := Lib.hid (hb1.alloc hb1.size (.cells (celS p).toArray 29))
  clear hb hb1 HA HBK HB HT
  by_cases hn0 : n = 0
  · subst hn0
    rw [if_neg (by omega)] at HSL
    go_wp2_with (first | (refine wpList_valn rfl (exec_allocS rfl) ?_) | (refine wpList_nuln rfl (exec_fillS rfl rfl rfl) ?_) | fail)
    go_ret
    exact ⟨by rw [HSL.out]; rfl, HB1.out⟩
  · have hne : ((n : Int) != 0) = true := by simp; omega
    rcases h2w with rfl | rfl
    · rw [if_pos ⟨hn0, rfl⟩] at HSL
      clear hn0
      go_wp2_with (first | (refine wpList_valn rfl (exec_allocS rfl) ?_) | (refine wpList_nuln rfl (exec_fillS rfl rfl rfl) ?_) | fail)
      go_ret
      exact ⟨by rw [HSL.out]; rfl, HB1.out⟩
    · rw [if_neg (by omega)] at HSL
      clear hn0
      go_wp2_with (first | (refine wpList_valn rfl (exec_allocS rfl) ?_) | (refine wpList_nuln rfl (exec_fillS rfl rfl rfl) ?_) | fail)
      go_ret
      exact ⟨by rw [HSL.out]; rfl, HB1.out⟩
theorem nwE_of (a b : Blk) : nwE a b = if nwN a b = 0 then 7 else 0 := by
  unfold nwE nwN
  by_cases h : gsN a < gsN b
  · rw [if_pos h, if_neg (by omega), if_neg (by omega)]
  · rw [if_neg h]
    by_cases h0 : gsN a = 0
    · rw [if_pos (by omega), if_pos h0]
    · rw [if_neg (by omega), if_neg h0]
theorem nwS_none {a b : Blk} (h : nwN a b = 0) : nwS a b = zeroS := by
  unfold nwN at h
  unfold nwS
  by_cases hl : gsN a < gsN b
  · rw [if_pos hl] at h; omega
  · rw [if_neg hl] at h ⊢
    exact gsS_no (gsN_zero.1 h)
set_option maxHeartbeats 2000000 in
theorem pnew_super (a b : Blk) (w : World) (T : Tab w) : Calls Tryd.prog 18 #[blk a, blk b] w fun e w' => e = .returned (.tuple #[.int .u64 (nwN a b : Nat), sup (nwS a b), .int .i64 (nwE a b : Nat)]) ∧ Below w.heap.size w w' := by
  obtain ⟨h1, h2, h3, h4, h5⟩ := three_new w a b
  unfold w3_ at h1 h2 h3 h4 h5
  have HE := Lib.hid (nwE_of a b)
  have HNO := fun h => Lib.hid (nwS_none (a := a) (b := b) h)
  obtain ⟨n, hn⟩ : ∃ n, nwN a b = n := ⟨_, rfl⟩
  obtain ⟨p, hp⟩ : ∃ p, nwS a b = p := ⟨_, rfl⟩
  rw [hn] at HE HNO
  rw [hp] at HNO
  have HA := Lib.hid h1
  have HBK := Lib.hid h2
  have HR := Lib.hid h3
  have HB := Lib.hid h4
  have HZ := Lib.hid h5
  have HT := Lib.hid (T.below h4)
  have HN := Lib.hid hn
  have HP := Lib.hid hp
  clear h1 h2 h3 h4 h5 T hn hp
  go_enter Tryd.func18, Tryd.ntmps18
  go_wp2_with (first | (refine wpList_valn rfl (exec_box rfl rfl) ?_) | (refine wpList_valn rfl (exec_allocS rfl) ?_) | (refine wpList_valn rfl (exec_load (c := a) rfl rfl ?_) ?_; (with_reducible exact HA.out)) | (refine wpList_valn rfl (exec_load (c := b) rfl rfl ?_) ?_; (with_reducible exact HBK.out)) | fail)
  try simp only [World.size_alloc]
  generalize ((w.alloc (.cells (cel a).toArray 31)).alloc (.cells (cel b).toArray 31)).alloc (.cells (celS zeroS).toArray 29) = w0 at *
  refine (pnewest a b w0 HT.out).mono ?_
  rintro e w1 ⟨rfl, hb⟩
  rw [HN.out, HP.out]
  have hb2 := hb.alloc hb.size (.cells (celS p).toArray 29)
  have HR1 := Lib.hid (there_below HR.out HZ.out hb2)
  have HB1 := Lib.hid (HB.out.trans (hb2.mono HB.out.size))
  have HPR := Lib.hid (SupAt.new w1 p).range
  clear hb hb2 HA HBK HR HB HT
  by_cases hn0 : n = 0
  · have HPZ := HNO hn0
    subst hn0
    rw [if_pos rfl] at HE
    go_wp2_with (first | (refine wpList_valn rfl (exec_allocS rfl) ?_) | (refine wpList_nuln rfl (exec_fillS rfl rfl rfl) ?_) | (refine wpList_valn rfl (exec_bldS rfl) ?_) | (refine wpList_nuln rfl (exec_putS (c := zeroS) rfl rfl rfl ?_) ?_; (with_reducible exact HR1.out)) | fail)
    refine bodyPost_ret (res_tri (t := 29) (cs := celS zeroS) rfl _ _ _ rfl ?h1 Tryd.underlying29 rfl ?h2) rfl ⟨by rw [HN.out, HP.out, HPZ.out, HE.out]; rfl, ?h3⟩
    case h1 => exact World.rangeAt_setCells_same _ _ _ _ (by rw [celS_length]; exact HR1.out)
    case h2 => rw [celS_length]; exact sizeS
    case h3 => exact below_setCells HB1.out (by omega) _
  · have hne : ((n : Int) == 0) = false := by simp; omega
    rw [if_neg hn0] at HE
    clear hn0
    go_upto_region 4 with (first | (refine wpList_valn rfl (exec_allocS rfl) ?_) | (refine wpList_nuln rfl (exec_fillS rfl rfl rfl) ?_) | fail)
    generalize w1.alloc (.cells (celS p).toArray 29) = w2 at *
    go_wp2_with fail
    refine wp_region_still_tail 3 (by kernel_rfl) (by kernel_rfl) ?_
    simp only [List.take_succ_cons, List.take_zero, List.drop_succ_cons, List.drop_zero]
    refine st_val rfl (exec_mv rfl (ev rfl)) ?_
    simp only [Act.put, List.setIfInBounds_toArray, List.set_cons_succ, List.set_cons_zero]
    refine st_val rfl (exec_loadS (c := p) rfl (ev rfl) HPR.out) ?_
    simp only [Act.put, List.setIfInBounds_toArray, List.set_cons_succ, List.set_cons_zero]
    refine st_val rfl (exec_as rfl (ev rfl)) ?_
    simp only [Act.put, List.setIfInBounds_toArray, List.set_cons_succ, List.set_cons_zero]
    refine wpStill_nil ?_
    change wpList _ _ _ _ _ (World.drew _)
    refine wpList_nul rfl (exec_putS (c := p) rfl (ev rfl) (ev rfl) HR1.out) ?_
    simp only [Act.put, List.setIfInBounds_toArray, List.set_cons_succ, List.set_cons_zero]
    refine wpList_val rfl (exec_as rfl evk) ?_
    simp only [Act.put, List.setIfInBounds_toArray, List.set_cons_succ, List.set_cons_zero]
    refine wpList_nil ?_
    go_wp2_with fail
    refine bodyPost_ret (res_tri (t := 29) (cs := celS p) rfl _ _ _ rfl ?h1 Tryd.underlying29 rfl ?h2) rfl ⟨by rw [HN.out, HP.out, HE.out]; rfl, ?h3⟩
    case h1 => exact World.rangeAt_setCells_same _ _ _ _ (by rw [celS_length]; exact HR1.out)
    case h2 => rw [celS_length]; exact sizeS
    case h3 => exact below_setCells (bd HB1.out) (by omega) _
end Go.Proofs.YtiilclncedipiaaDoor
