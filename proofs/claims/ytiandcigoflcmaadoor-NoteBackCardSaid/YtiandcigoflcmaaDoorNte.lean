/-
  The program's note.Put, Get.
-/
import Derived.Test.YtiandcigoflcmaaDoorNtc
import Derived.Test.YtiandcigoflcmaaDoorNtd
import Derived.Test.YtiandcigoflcmaaDoorSpc
import Derived.Test.YtiandcigoflcmaaDoorSpd
import Derived.Test.YtiandcigoflcmaaDoorSkq
import Derived.Test.YtiandcigoflcmaaDoorLast
namespace Go.Proofs.YtiandcigoflcmaaDoor
open Go.RowKit
set_option linter.unusedVariables false
set_option linter.unusedSimpArgs false
set_option maxRecDepth 100000

theorem res_two {fn : Func} {q u : Tmp} {t : TypeId} {cs : List Value} {d : TypeDesc} (h : fn.results = #[.cell q t, .tmp u]) (tmps : Array Value) (w : World) (b : Nat) (hq : tmps.getD q undef = .pointer (some ⟨b, 0, none⟩)) (hr : w.rangeAt b 0 cs) (hu : Tryd.prog.underlying t = some d) (hd : d.isRow = true) (hz : (Tryd.prog.info? t).map (·.size) = some cs.length) :
    (results fn tmps).run Tryd.prog w = .ok (.tuple #[.agg cs.toArray, tmps.getD u undef]) w := by
  have hl : (loadVar t ⟨b, 0, none⟩).run Tryd.prog w = .ok (.agg cs.toArray) w := run_loadVar_mid (P := Tryd.prog) w b 0 t cs d hr hu hd hz
  have hq' : tmps[q]?.getD undef = .pointer (some ⟨b, 0, none⟩) := by simpa using hq
  simp [results, h, hq', asAddr, hl]
theorem nt_may {b : Blk} : codNt.may (codNt.raw b) = nteB (toldNt (getN b.toList) (getB b.toList)) := rfl
set_option maxHeartbeats 1000000 in
theorem pntput (x : Nte) (w : World) (T : TabNt w) (hf : x.fit) :
    Calls Tryd.prog 7 #[nte x] w fun e w' => e = .returned (.tuple #[blk (codNt.pB x), .int .i64 (codNt.pE x : Nat)]) ∧ Below w.heap.size w w' := by
  obtain ⟨h1, h2, h3⟩ := boxNt_new w x
  have HS := Lib.hid (h1.past (.cells (cel zeroB).toArray 27))
  have HB := Lib.hid (h2.alloc h2.size (.cells (cel zeroB).toArray 27))
  have HT := Lib.hid T
  have HI := Lib.hid hf
  have HR : Hid (((w.alloc (.cells (celNt x).toArray 25)).alloc (.cells (cel zeroB).toArray 27)).there (w.heap.size + 1) 0 64) := Lib.hid (by
    have := there_new (w.alloc (.cells (celNt x).toArray 25)) zeroB 27
    rwa [World.size_alloc] at this)
  have HZ : Hid (w.heap.size + 1 < ((w.alloc (.cells (celNt x).toArray 25)).alloc (.cells (cel zeroB).toArray 27)).heap.size) := Lib.hid (by simp only [World.size_alloc]; omega)
  clear h1 h2 h3 T hf
  go_enter Tryd.func7, Tryd.ntmps7
  go_wp2_with (first | (refine wpList_valn rfl (exec_boxNt rfl rfl) ?_) | (refine wpList_valn rfl (exec_alloc rfl) ?_) | (refine wpList_valn rfl (exec_loadNt (c := x) rfl rfl ?_) ?_; (with_reducible exact HS.out.range)) | fail)
  try simp only [World.size_alloc]
  generalize (w.alloc (.cells (celNt x).toArray 25)).alloc (.cells (cel zeroB).toArray 27) = w1 at *
  refine (pntmay x w1).mono ?_
  rintro e w2 ⟨rfl, hb⟩
  have HS2 := Lib.hid (HS.out.below (blk_lt HS.out) hb)
  have HB2 := Lib.hid (HB.out.trans (hb.mono HB.out.size))
  have HR2 := Lib.hid (there_below HR.out HZ.out hb)
  have HZ2 : Hid (w.heap.size + 1 < w2.heap.size) := Lib.hid (by have := hb.size; have := HZ.out; omega)
  clear hb HS HB HR HZ
  by_cases hm : nteB x = true
  · rw [hm]
    have HM := Lib.hid hm
    clear hm
    go_wp2_with (first | (refine wpList_valn rfl (exec_loadNt (c := x) rfl rfl ?_) ?_; (with_reducible exact HS2.out.range)) | fail)
    refine (pntlaid x w2 (HT.out.below HB2.out).siz HI.out HM.out).mono ?_
    rintro e w3 ⟨rfl, hb⟩
    have hb3 := HB2.out.trans (hb.mono HB2.out.size)
    have HB3 := Lib.hid (hb3.alloc hb3.size (.cells (vals (fullNt x)).toArray 43))
    have HR3 := Lib.hid (there_below HR2.out HZ2.out (hb.alloc hb.size (.cells (vals (fullNt x)).toArray 43)))
    have hrd := (RowL.new w3 (fullNt x) 43).rd (p := 0) (k := 44) (by rw [fullNt_length]; omega)
    rw [piece_all (fullNt_length x)] at hrd
    have HRD := Lib.hid hrd
    have HFL := Lib.hid (fullNt_length x)
    have HS3 := Lib.hid (HS2.out.below (blk_lt HS2.out) (hb.alloc hb.size (.cells (vals (fullNt x)).toArray 43)))
    have HZ3 : Hid (w.heap.size + 1 < (w3.alloc (.cells (vals (fullNt x)).toArray 43)).heap.size) := Lib.hid (by have := hb.size; have := HZ2.out; simp only [World.size_alloc]; omega)
    clear hb hb3 hrd HS2 HB2 HR2 HZ2
    go_upto_region 4 with (first | (refine wpList_valn rfl (exec_alloc44n rfl) ?_) | (refine wpList_nuln rfl (exec_fill44n (l := fullNt x) HFL.out rfl rfl rfl) ?_) | fail)
    generalize hw4 : w3.alloc (.cells (vals (fullNt x)).toArray 43) = w4 at *
    refine wp_region_last (fun _ => True) 7 (by kernel_rfl) ?_
    change wpAnyZ _ _ _ _ _ _ 8 _ _ w4.drew
    refine last_val 0 rfl (by kernel_rfl) (by kernel_rfl) (by kernel_rfl) (by decide) (by kernel_rfl) rfl (fun w' hw => exec_faddr rfl (ev rfl) faNt0) (fun _ _ _ h => h) trivial ?_
    simp only [Act.put, List.setIfInBounds_toArray, List.set_cons_succ, List.set_cons_zero]
    refine last_val 2 rfl (by kernel_rfl) (by kernel_rfl) (by kernel_rfl) (by decide) (by kernel_rfl) rfl (fun w' hw => exec_all44n rfl (ev rfl)) (fun _ _ _ h => h) trivial ?_
    simp only [Act.put, List.setIfInBounds_toArray, List.set_cons_succ, List.set_cons_zero]
    refine last_turn 1 rfl (by kernel_rfl) rfl (exec_ld (w := w4.drew) rfl (ev rfl) (ldU64 HS3.out.cells.1)) (fun _ => trivial) ?_
    simp only [Act.put, List.setIfInBounds_toArray, List.set_cons_succ, List.set_cons_zero]
    refine last_call 3 rfl (by kernel_rfl) rfl (exec_cl Tryd.call20 rfl (evc (ev rfl) (evc (ev rfl) evn))) ?_
    refine (put_all x.seq 44 44 _ _ (fullNt x) w4.drew (HT.out.below (bd HB3.out)).tab HI.out.1 HRD.out (Nat.le_refl _) (by unfold maxLen; omega)).mono ?_
    rintro e w5 ⟨rfl, hb⟩
    rw [show putB x.seq (fullNt x) = putB x.seq (bodyNt x) from codNt.putB_full x.seq x, show putE x.seq (fullNt x) = putE x.seq (bodyNt x) from codNt.putE_full x.seq x, show putE x.seq (bodyNt x) = 0 from codNt.body_putE x (by have := of_nteB HM.out; omega)]
    have HR5 := Lib.hid (there_below (w := w4.drew) HR3.out HZ3.out hb)
    have HB5 := Lib.hid ((bd HB3.out).trans (hb.mono HB3.out.size))
    have HPB : Hid (codNt.pB x = putB x.seq (bodyNt x)) := Lib.hid (codNt.pB_ok HM.out)
    have HPE := Lib.hid (codNt.pE_ok HM.out)
    clear hb hw4 HRD HR3 HZ3 HB3
    generalize putB x.seq (bodyNt x) = pb at *
    refine ⟨_, rfl, fun _ => trivial, ?_⟩
    simp only [Act.put, List.setIfInBounds_toArray, List.set_cons_succ, List.set_cons_zero]
    refine last_val 4 rfl (by kernel_rfl) (by kernel_rfl) (by kernel_rfl) (by decide) (by kernel_rfl) rfl (fun w' hw => exec_ext rfl (ev rfl) rfl) (fun _ _ _ h => h) trivial ?_
    simp only [Act.put, List.setIfInBounds_toArray, List.set_cons_succ, List.set_cons_zero]
    refine last_val 5 rfl (by kernel_rfl) (by kernel_rfl) (by kernel_rfl) (by decide) (by kernel_rfl) rfl (fun w' hw => exec_ext rfl (ev rfl) rfl) (fun _ _ _ h => h) trivial ?_
    simp only [Act.put, List.setIfInBounds_toArray, List.set_cons_succ, List.set_cons_zero]
    refine last_nul 6 rfl (by kernel_rfl) rfl (exec_store (c := pb) rfl (ev rfl) (ev rfl) HR5.out) (fun _ => trivial) ?_
    simp only [Act.put]
    refine last_turn 7 rfl (by kernel_rfl) rfl (exec_as rfl (ev rfl)) (fun _ => trivial) ?_
    simp only [Act.put, List.setIfInBounds_toArray, List.set_cons_succ, List.set_cons_zero]
    refine wpAnyZ_done (by kernel_rfl) ?_ _
    go_wp2_with fail
    refine bodyPost_ret (res_blk2 rfl _ _ _ rfl (World.rangeAt_setCells_same _ _ _ _ (by rw [cel_length]; exact HR5.out))) rfl ⟨by rw [HPB.out, HPE.out]; rfl, below_setCells HB5.out (Nat.le_succ _) _⟩
  · have hm' : nteB x = false := by simpa using hm
    have hmay : ¬ codNt.may x = true := hm
    have HPB := Lib.hid (codNt.pB_no hmay)
    have HPE := Lib.hid (codNt.pE_no hmay)
    rw [hm']
    clear hm hm' hmay
    go_wp2_with (first | (refine wpList_valn rfl (exec_build (c := zeroB) (parts := []) rfl rfl) ?_) | (refine wpList_nuln rfl (exec_store (c := zeroB) rfl rfl rfl ?_) ?_; (with_reducible exact HR2.out)) | fail)
    refine bodyPost_ret (res_blk2 rfl _ _ _ rfl (World.rangeAt_setCells_same _ _ _ _ (by rw [cel_length]; exact HR2.out))) rfl ⟨by rw [HPB.out, HPE.out]; rfl, below_setCells HB2.out (Nat.le_succ _) _⟩
/-- What the program's Get has laid when the body is told. -/
structure NgW (w w3 : World) (g s : Nat) (l : List UInt8) (y : Nte) : Prop where
  row : RowL w3 g 5 l
  sup : NteAt w3 s y
  res : w3.there (w.heap.size + 1) 0 4
  bel : Below w.heap.size w w3
  lt : w.heap.size + 1 < w3.heap.size
theorem NgW.keep {w w3 w4 : World} {g s : Nat} {l : List UInt8} {y : Nte} (h : NgW w w3 g s l y) (hb : Below w3.heap.size w3 w4) : NgW w w4 g s l y :=
  ⟨h.row.below h.row.lt hb, h.sup.below (blk_lt h.sup) hb, there_below h.res h.lt hb, h.bel.trans (hb.mono h.bel.size), Nat.lt_of_lt_of_le h.lt hb.size⟩
set_option maxHeartbeats 1000000 in
theorem pntget_seal (b : Blk) (w : World) (T : TabNt w) (h : getE b.toList ≠ 0) : Calls Tryd.prog 16 #[blk b] w fun e w' => e = .returned (.tuple #[nte zeroNt, .int .i64 (getE b.toList : Nat)]) ∧ Below w.heap.size w w' := by
  obtain ⟨n, hn⟩ : ∃ n, getN b.toList = n := ⟨_, rfl⟩
  obtain ⟨l, hl⟩ : ∃ l, getB b.toList = l := ⟨_, rfl⟩
  have hn64 : n < 18446744073709551616 := by rw [← hn]; exact getN_lt64 b
  have HN64 := Lib.hid hn64
  have h1 := (Below.refl w.heap.size w).alloc (Nat.le_refl _) (.cells (cel b).toArray 27)
  have h2 := h1.alloc h1.size (.cells (celNt zeroNt).toArray 25)
  have HA : Hid (((w.alloc (.cells (cel b).toArray 27)).alloc (.cells (celNt zeroNt).toArray 25)).rangeAt w.heap.size 0 (cel b)) := Lib.hid (World.rangeAt_alloc (range_new w (cel b) 27) _)
  have hsn := NteAt.new (w.alloc (.cells (cel b).toArray 27)) zeroNt
  rw [World.size_alloc] at hsn
  have HR := Lib.hid hsn.there
  have HZ := Lib.hid (blk_lt hsn)
  have HB := Lib.hid h2
  have HT := Lib.hid (T.below h2)
  have HN := Lib.hid hn
  have HL := Lib.hid hl
  clear h1 h2 hsn T hn64
  obtain ⟨E, hE⟩ : ∃ E, getE b.toList = E := ⟨_, rfl⟩
  rw [hE] at h
  have HE := Lib.hid hE
  have hne : ((E : Int) != 0) = true := by simp; omega
  clear hE hn hl
  go_enter Tryd.func16, Tryd.ntmps16
  go_wp2_with (first | (refine wpList_valn rfl (exec_box rfl rfl) ?_) | (refine wpList_valn rfl (exec_allocNt rfl) ?_) | (refine wpList_valn rfl (exec_load (c := b) rfl rfl ?_) ?_; (with_reducible exact HA.out)) | fail)
  try simp only [World.size_alloc]
  generalize (w.alloc (.cells (cel b).toArray 27)).alloc (.cells (celNt zeroNt).toArray 25) = w0 at *
  refine (pget_any b _ w0 (Lib.hid rfl) HT.out.tab).mono ?_
  rintro e w1 ⟨v, rfl, hv, hb⟩
  rw [HN.out]
  rw [HE.out]
  have HR1 := Lib.hid (there_below HR.out HZ.out hb)
  have HB1 := Lib.hid (HB.out.trans (hb.mono HB.out.size))
  clear hv hb HA HR HB
  go_wp2_with (first | (refine wpList_valn rfl (exec_bldNt rfl) ?_) | (refine wpList_nuln rfl (exec_putNt (c := zeroNt) rfl rfl rfl ?_) ?_; (with_reducible exact HR1.out)) | fail)
  refine bodyPost_ret (res_two (t := 25) (cs := celNt zeroNt) rfl _ _ _ rfl ?h1 Tryd.underlying25 rfl ?h2) rfl ⟨by rw [HE.out]; rfl, ?h3⟩
  case h1 => exact World.rangeAt_setCells_same _ _ _ _ HR1.out
  case h2 => exact sizeNt
  case h3 => exact below_setCells HB1.out (Nat.le_succ _) _
set_option maxHeartbeats 2000000 in
theorem pntget_may (b : Blk) (w : World) (T : TabNt w) (h0 : getE b.toList = 0) (hm : nteB (toldNt (getN b.toList) (getB b.toList)) = false) : Calls Tryd.prog 16 #[blk b] w fun e w' => e = .returned (.tuple #[nte zeroNt, .int .i64 (5 : Nat)]) ∧ Below w.heap.size w w' := by
  obtain ⟨n, hn⟩ : ∃ n, getN b.toList = n := ⟨_, rfl⟩
  obtain ⟨l, hl⟩ : ∃ l, getB b.toList = l := ⟨_, rfl⟩
  have hn64 : n < 18446744073709551616 := by rw [← hn]; exact getN_lt64 b
  have HN64 := Lib.hid hn64
  have h1 := (Below.refl w.heap.size w).alloc (Nat.le_refl _) (.cells (cel b).toArray 27)
  have h2 := h1.alloc h1.size (.cells (celNt zeroNt).toArray 25)
  have HA : Hid (((w.alloc (.cells (cel b).toArray 27)).alloc (.cells (celNt zeroNt).toArray 25)).rangeAt w.heap.size 0 (cel b)) := Lib.hid (World.rangeAt_alloc (range_new w (cel b) 27) _)
  have hsn := NteAt.new (w.alloc (.cells (cel b).toArray 27)) zeroNt
  rw [World.size_alloc] at hsn
  have HR := Lib.hid hsn.there
  have HZ := Lib.hid (blk_lt hsn)
  have HB := Lib.hid h2
  have HT := Lib.hid (T.below h2)
  have HN := Lib.hid hn
  have HL := Lib.hid hl
  clear h1 h2 hsn T hn64
  rw [hn, hl] at hm
  have HM := Lib.hid hm
  clear hm
  clear hn hl
  go_enter Tryd.func16, Tryd.ntmps16
  go_wp2_with (first | (refine wpList_valn rfl (exec_box rfl rfl) ?_) | (refine wpList_valn rfl (exec_allocNt rfl) ?_) | (refine wpList_valn rfl (exec_load (c := b) rfl rfl ?_) ?_; (with_reducible exact HA.out)) | fail)
  try simp only [World.size_alloc]
  generalize (w.alloc (.cells (cel b).toArray 27)).alloc (.cells (celNt zeroNt).toArray 25) = w0 at *
  refine (pget_any b _ w0 (Lib.hid rfl) HT.out.tab).mono ?_
  rintro e w1 ⟨v, rfl, hv, hb⟩
  rw [HN.out]
  rw [h0]
  have hll : l.length = 44 := by rw [← HL.out]; exact getB_len h0
  have HLL := Lib.hid hll
  rw [HL.out] at hv
  obtain ⟨g, hve, hrow⟩ : ∃ g, v = .slice (some ⟨g, 0, none⟩) 44 44 ∧ RowL w1 g 5 l := by
    rcases hv with ⟨_, rfl⟩ | ⟨g, e, _, hr, _⟩
    · simp at hll
    · rw [hll] at e; exact ⟨g, e, hr⟩
  subst hve
  have HR1 := Lib.hid (there_below HR.out HZ.out hb)
  have HB1 := Lib.hid (HB.out.trans (hb.mono HB.out.size))
  have HZ1 : Hid (w.heap.size + 1 < w1.heap.size) := Lib.hid (Nat.lt_of_lt_of_le HZ.out hb.size)
  have HRW := Lib.hid hrow
  have hrd := hrow.rd (p := 0) (k := 44) (by rw [hll]; omega)
  rw [piece_all hll] at hrd
  have HRD := Lib.hid hrd
  have HT1 := Lib.hid (HT.out.below hb)
  clear hv hb HA HR HB HZ hll h0 hrow hrd
  go_wp2_with fail
  refine (pnttold n _ 44 l w1 HT1.out.siz HRD.out).mono ?_
  rintro e w2 ⟨rfl, hb⟩
  have hb3 := hb.alloc hb.size (.cells (celNt (toldNt n l)).toArray 25)
  have HW3 : Hid (NgW w (w2.alloc (.cells (celNt (toldNt n l)).toArray 25)) g w2.heap.size l (toldNt n l)) := Lib.hid ⟨HRW.out.below HRW.out.lt hb3, NteAt.new w2 _, there_below HR1.out HZ1.out hb3, HB1.out.trans (hb3.mono HB1.out.size), Nat.lt_of_lt_of_le HZ1.out hb3.size⟩
  have HI : Hid ((toldNt n l).fit) := Lib.hid (told_fitNt HN64.out HLL.out)
  have HSZ3 := Lib.hid (HT1.out.below hb3).siz
  clear hb hb3 HRW HR1 HB1 HZ1 HRD HT1
  obtain ⟨y, hy⟩ : ∃ y, toldNt n l = y := ⟨_, rfl⟩
  have HY := Lib.hid hy
  rw [hy] at HW3 HI HSZ3 HM
  rw [hy]
  clear hy
  have HFL := Lib.hid (fullNt_length y)
  go_upto_region 5 with (first | (refine wpList_valn rfl (exec_allocNt rfl) ?_) | (refine wpList_nuln rfl (exec_fillNt rfl rfl rfl) ?_) | fail)
  generalize w2.alloc (.cells (celNt y).toArray 25) = w3 at *
  have HS3 := Lib.hid HW3.out.sup
  have HR3 := Lib.hid HW3.out.row
  generalize w2.heap.size = s at *
  refine wp_region_above (B := w3.heap.size) (by kernel_rfl) ?_
  refine qv_val rfl (fun w' hw => exec_loadNt (c := y) rfl (ev rfl) ((HS3.out.below (blk_lt HS3.out) hw).range)) ?_
  simp only [Act.put, List.setIfInBounds_toArray, List.set_cons_succ, List.set_cons_zero]
  refine qv_call rfl (fun _ => exec_cl Tryd.call9 rfl (evc (ev rfl) evn)) (above_of (Nat.le_refl _) fun w' hw => pntmay_b y w' HM.out) ?_
  simp only [Act.put, List.setIfInBounds_toArray, List.set_cons_succ, List.set_cons_zero]
  refine qv_val (v := .bool true) rfl (fun w' hw => exec_not false rfl (ev rfl)) ?_
  simp only [Act.put, List.setIfInBounds_toArray, List.set_cons_succ, List.set_cons_zero]
  refine qv_vals 6 (v := .bool true) rfl (fun w' hw => exec_mv rfl (ev rfl)) (by kernel_rfl) ?_
  simp only [skipAct, List.take_succ_cons, List.take_zero, List.drop_succ_cons, List.drop_zero, Act.put, List.setIfInBounds_toArray, List.set_cons_succ, List.set_cons_zero]
  refine qv_val (v := .bool true) rfl (fun w' hw => exec_pt rfl (ev rfl) evk) ?_
  simp only [Act.put, List.setIfInBounds_toArray, List.set_cons_succ, List.set_cons_zero]
  refine wpQuiet_nil ?_
  intro w4 hw
  have HW4 := Lib.hid (HW3.out.keep hw)
  have HR4 := Lib.hid HW4.out.res
  have HB4 := Lib.hid HW4.out.bel
  clear HW3 HS3 HR3 hw
  go_wp2_with (first | (refine wpList_valn rfl (exec_bldNt rfl) ?_) | (refine wpList_nuln rfl (exec_putNt (c := zeroNt) rfl rfl rfl ?_) ?_; (with_reducible exact HR4.out)) | fail)
  refine bodyPost_ret (res_two (t := 25) (cs := celNt zeroNt) rfl _ _ _ rfl ?h1 Tryd.underlying25 rfl ?h2) rfl ⟨rfl, ?h3⟩
  case h1 => exact World.rangeAt_setCells_same _ _ _ _ HR4.out
  case h2 => exact sizeNt
  case h3 => exact below_setCells HB4.out (Nat.le_succ _) _
set_option maxHeartbeats 2000000 in
theorem pntget_un (b : Blk) (w : World) (T : TabNt w) (h0 : getE b.toList = 0) (hm : nteB (toldNt (getN b.toList) (getB b.toList)) = true) (hd : fullNt (toldNt (getN b.toList) (getB b.toList)) ≠ getB b.toList) : Calls Tryd.prog 16 #[blk b] w fun e w' => e = .returned (.tuple #[nte zeroNt, .int .i64 (5 : Nat)]) ∧ Below w.heap.size w w' := by
  obtain ⟨n, hn⟩ : ∃ n, getN b.toList = n := ⟨_, rfl⟩
  obtain ⟨l, hl⟩ : ∃ l, getB b.toList = l := ⟨_, rfl⟩
  have hn64 : n < 18446744073709551616 := by rw [← hn]; exact getN_lt64 b
  have HN64 := Lib.hid hn64
  have h1 := (Below.refl w.heap.size w).alloc (Nat.le_refl _) (.cells (cel b).toArray 27)
  have h2 := h1.alloc h1.size (.cells (celNt zeroNt).toArray 25)
  have HA : Hid (((w.alloc (.cells (cel b).toArray 27)).alloc (.cells (celNt zeroNt).toArray 25)).rangeAt w.heap.size 0 (cel b)) := Lib.hid (World.rangeAt_alloc (range_new w (cel b) 27) _)
  have hsn := NteAt.new (w.alloc (.cells (cel b).toArray 27)) zeroNt
  rw [World.size_alloc] at hsn
  have HR := Lib.hid hsn.there
  have HZ := Lib.hid (blk_lt hsn)
  have HB := Lib.hid h2
  have HT := Lib.hid (T.below h2)
  have HN := Lib.hid hn
  have HL := Lib.hid hl
  clear h1 h2 hsn T hn64
  rw [hn, hl] at hm hd
  have HM := Lib.hid hm
  have HD : Hid (decide (fullNt (toldNt n l) = l) = false) := Lib.hid (decide_eq_false hd)
  clear hm hd
  clear hn hl
  go_enter Tryd.func16, Tryd.ntmps16
  go_wp2_with (first | (refine wpList_valn rfl (exec_box rfl rfl) ?_) | (refine wpList_valn rfl (exec_allocNt rfl) ?_) | (refine wpList_valn rfl (exec_load (c := b) rfl rfl ?_) ?_; (with_reducible exact HA.out)) | fail)
  try simp only [World.size_alloc]
  generalize (w.alloc (.cells (cel b).toArray 27)).alloc (.cells (celNt zeroNt).toArray 25) = w0 at *
  refine (pget_any b _ w0 (Lib.hid rfl) HT.out.tab).mono ?_
  rintro e w1 ⟨v, rfl, hv, hb⟩
  rw [HN.out]
  rw [h0]
  have hll : l.length = 44 := by rw [← HL.out]; exact getB_len h0
  have HLL := Lib.hid hll
  rw [HL.out] at hv
  obtain ⟨g, hve, hrow⟩ : ∃ g, v = .slice (some ⟨g, 0, none⟩) 44 44 ∧ RowL w1 g 5 l := by
    rcases hv with ⟨_, rfl⟩ | ⟨g, e, _, hr, _⟩
    · simp at hll
    · rw [hll] at e; exact ⟨g, e, hr⟩
  subst hve
  have HR1 := Lib.hid (there_below HR.out HZ.out hb)
  have HB1 := Lib.hid (HB.out.trans (hb.mono HB.out.size))
  have HZ1 : Hid (w.heap.size + 1 < w1.heap.size) := Lib.hid (Nat.lt_of_lt_of_le HZ.out hb.size)
  have HRW := Lib.hid hrow
  have hrd := hrow.rd (p := 0) (k := 44) (by rw [hll]; omega)
  rw [piece_all hll] at hrd
  have HRD := Lib.hid hrd
  have HT1 := Lib.hid (HT.out.below hb)
  clear hv hb HA HR HB HZ hll h0 hrow hrd
  go_wp2_with fail
  refine (pnttold n _ 44 l w1 HT1.out.siz HRD.out).mono ?_
  rintro e w2 ⟨rfl, hb⟩
  have hb3 := hb.alloc hb.size (.cells (celNt (toldNt n l)).toArray 25)
  have HW3 : Hid (NgW w (w2.alloc (.cells (celNt (toldNt n l)).toArray 25)) g w2.heap.size l (toldNt n l)) := Lib.hid ⟨HRW.out.below HRW.out.lt hb3, NteAt.new w2 _, there_below HR1.out HZ1.out hb3, HB1.out.trans (hb3.mono HB1.out.size), Nat.lt_of_lt_of_le HZ1.out hb3.size⟩
  have HI : Hid ((toldNt n l).fit) := Lib.hid (told_fitNt HN64.out HLL.out)
  have HSZ3 := Lib.hid (HT1.out.below hb3).siz
  clear hb hb3 HRW HR1 HB1 HZ1 HRD HT1
  obtain ⟨y, hy⟩ : ∃ y, toldNt n l = y := ⟨_, rfl⟩
  have HY := Lib.hid hy
  rw [hy] at HW3 HI HSZ3 HM HD
  rw [hy]
  clear hy
  have HFL := Lib.hid (fullNt_length y)
  go_upto_region 5 with (first | (refine wpList_valn rfl (exec_allocNt rfl) ?_) | (refine wpList_nuln rfl (exec_fillNt rfl rfl rfl) ?_) | fail)
  generalize w2.alloc (.cells (celNt y).toArray 25) = w3 at *
  have HS3 := Lib.hid HW3.out.sup
  have HR3 := Lib.hid HW3.out.row
  generalize w2.heap.size = s at *
  refine wp_region_above (B := w3.heap.size) (by kernel_rfl) ?_
  refine qv_val rfl (fun w' hw => exec_loadNt (c := y) rfl (ev rfl) ((HS3.out.below (blk_lt HS3.out) hw).range)) ?_
  simp only [Act.put, List.setIfInBounds_toArray, List.set_cons_succ, List.set_cons_zero]
  refine qv_call rfl (fun _ => exec_cl Tryd.call9 rfl (evc (ev rfl) evn)) (above_of (Nat.le_refl _) fun w' hw => pntmay_b y w' HM.out) ?_
  simp only [Act.put, List.setIfInBounds_toArray, List.set_cons_succ, List.set_cons_zero]
  refine qv_val (v := .bool false) rfl (fun w' hw => exec_not true rfl (ev rfl)) ?_
  simp only [Act.put, List.setIfInBounds_toArray, List.set_cons_succ, List.set_cons_zero]
  refine qv_val (v := .bool false) rfl (fun w' hw => exec_mv rfl (ev rfl)) ?_
  simp only [Act.put, List.setIfInBounds_toArray, List.set_cons_succ, List.set_cons_zero]
  refine qv_val (wanted_of rfl rfl rfl rfl) (fun w' hw => exec_loadNt (c := y) rfl (ev rfl) ((HS3.out.below (blk_lt HS3.out) hw).range)) ?_
  simp only [Act.put, List.setIfInBounds_toArray, List.set_cons_succ, List.set_cons_zero]
  refine qv_call (wanted_of rfl rfl rfl rfl) (fun _ => exec_cl Tryd.call19 rfl (evc (ev rfl) evn)) (above_of (Nat.le_refl _) fun w' hw => pntlaid y w' (HSZ3.out.below hw) HI.out HM.out) ?_
  simp only [Act.put, List.setIfInBounds_toArray, List.set_cons_succ, List.set_cons_zero]
  refine qv_val (wanted_of rfl rfl rfl rfl) (fun w' hw => exec_mv rfl (ev rfl)) ?_
  simp only [Act.put, List.setIfInBounds_toArray, List.set_cons_succ, List.set_cons_zero]
  refine qv_val (wanted_of rfl rfl rfl rfl) (fun w' hw => exec_s2an rfl (ev rfl)) ?_
  simp only [Act.put, List.setIfInBounds_toArray, List.set_cons_succ, List.set_cons_zero]
  refine qv_val (wanted_of rfl rfl rfl rfl) (fun w' hw => exec_load44n HLL.out rfl (ev rfl) (rng_at (HR3.out.below HR3.out.lt hw))) ?_
  simp only [Act.put, List.setIfInBounds_toArray, List.set_cons_succ, List.set_cons_zero]
  refine qv_val (v := .bool true) (wanted_of rfl rfl rfl rfl) (fun w' hw => exec_ne44n false HFL.out HLL.out rfl (ev rfl) (ev rfl) HD.out) ?_
  simp only [Act.put, List.setIfInBounds_toArray, List.set_cons_succ, List.set_cons_zero]
  refine qv_val (v := .bool true) rfl (fun w' hw => exec_pf rfl (ev rfl) (ev rfl)) ?_
  simp only [Act.put, List.setIfInBounds_toArray, List.set_cons_succ, List.set_cons_zero]
  refine wpQuiet_nil ?_
  intro w4 hw
  have HW4 := Lib.hid (HW3.out.keep hw)
  have HR4 := Lib.hid HW4.out.res
  have HB4 := Lib.hid HW4.out.bel
  clear HW3 HS3 HR3 hw
  go_wp2_with (first | (refine wpList_valn rfl (exec_bldNt rfl) ?_) | (refine wpList_nuln rfl (exec_putNt (c := zeroNt) rfl rfl rfl ?_) ?_; (with_reducible exact HR4.out)) | fail)
  refine bodyPost_ret (res_two (t := 25) (cs := celNt zeroNt) rfl _ _ _ rfl ?h1 Tryd.underlying25 rfl ?h2) rfl ⟨rfl, ?h3⟩
  case h1 => exact World.rangeAt_setCells_same _ _ _ _ HR4.out
  case h2 => exact sizeNt
  case h3 => exact below_setCells HB4.out (Nat.le_succ _) _
set_option maxHeartbeats 2000000 in
theorem pntget_yes (b : Blk) (w : World) (T : TabNt w) (h0 : getE b.toList = 0) (hm : nteB (toldNt (getN b.toList) (getB b.toList)) = true) (hd : fullNt (toldNt (getN b.toList) (getB b.toList)) = getB b.toList) : Calls Tryd.prog 16 #[blk b] w fun e w' => e = .returned (.tuple #[nte (toldNt (getN b.toList) (getB b.toList)), .int .i64 (0 : Nat)]) ∧ Below w.heap.size w w' := by
  obtain ⟨n, hn⟩ : ∃ n, getN b.toList = n := ⟨_, rfl⟩
  obtain ⟨l, hl⟩ : ∃ l, getB b.toList = l := ⟨_, rfl⟩
  have hn64 : n < 18446744073709551616 := by rw [← hn]; exact getN_lt64 b
  have HN64 := Lib.hid hn64
  have h1 := (Below.refl w.heap.size w).alloc (Nat.le_refl _) (.cells (cel b).toArray 27)
  have h2 := h1.alloc h1.size (.cells (celNt zeroNt).toArray 25)
  have HA : Hid (((w.alloc (.cells (cel b).toArray 27)).alloc (.cells (celNt zeroNt).toArray 25)).rangeAt w.heap.size 0 (cel b)) := Lib.hid (World.rangeAt_alloc (range_new w (cel b) 27) _)
  have hsn := NteAt.new (w.alloc (.cells (cel b).toArray 27)) zeroNt
  rw [World.size_alloc] at hsn
  have HR := Lib.hid hsn.there
  have HZ := Lib.hid (blk_lt hsn)
  have HB := Lib.hid h2
  have HT := Lib.hid (T.below h2)
  have HN := Lib.hid hn
  have HL := Lib.hid hl
  clear h1 h2 hsn T hn64
  rw [hn, hl] at hm hd
  have HM := Lib.hid hm
  have HD : Hid (decide (fullNt (toldNt n l) = l) = true) := Lib.hid (decide_eq_true hd)
  clear hm hd
  clear hn hl
  go_enter Tryd.func16, Tryd.ntmps16
  go_wp2_with (first | (refine wpList_valn rfl (exec_box rfl rfl) ?_) | (refine wpList_valn rfl (exec_allocNt rfl) ?_) | (refine wpList_valn rfl (exec_load (c := b) rfl rfl ?_) ?_; (with_reducible exact HA.out)) | fail)
  try simp only [World.size_alloc]
  generalize (w.alloc (.cells (cel b).toArray 27)).alloc (.cells (celNt zeroNt).toArray 25) = w0 at *
  refine (pget_any b _ w0 (Lib.hid rfl) HT.out.tab).mono ?_
  rintro e w1 ⟨v, rfl, hv, hb⟩
  rw [HN.out]
  rw [h0]
  have hll : l.length = 44 := by rw [← HL.out]; exact getB_len h0
  have HLL := Lib.hid hll
  rw [HL.out] at hv
  obtain ⟨g, hve, hrow⟩ : ∃ g, v = .slice (some ⟨g, 0, none⟩) 44 44 ∧ RowL w1 g 5 l := by
    rcases hv with ⟨_, rfl⟩ | ⟨g, e, _, hr, _⟩
    · simp at hll
    · rw [hll] at e; exact ⟨g, e, hr⟩
  subst hve
  have HR1 := Lib.hid (there_below HR.out HZ.out hb)
  have HB1 := Lib.hid (HB.out.trans (hb.mono HB.out.size))
  have HZ1 : Hid (w.heap.size + 1 < w1.heap.size) := Lib.hid (Nat.lt_of_lt_of_le HZ.out hb.size)
  have HRW := Lib.hid hrow
  have hrd := hrow.rd (p := 0) (k := 44) (by rw [hll]; omega)
  rw [piece_all hll] at hrd
  have HRD := Lib.hid hrd
  have HT1 := Lib.hid (HT.out.below hb)
  clear hv hb HA HR HB HZ hll h0 hrow hrd
  go_wp2_with fail
  refine (pnttold n _ 44 l w1 HT1.out.siz HRD.out).mono ?_
  rintro e w2 ⟨rfl, hb⟩
  have hb3 := hb.alloc hb.size (.cells (celNt (toldNt n l)).toArray 25)
  have HW3 : Hid (NgW w (w2.alloc (.cells (celNt (toldNt n l)).toArray 25)) g w2.heap.size l (toldNt n l)) := Lib.hid ⟨HRW.out.below HRW.out.lt hb3, NteAt.new w2 _, there_below HR1.out HZ1.out hb3, HB1.out.trans (hb3.mono HB1.out.size), Nat.lt_of_lt_of_le HZ1.out hb3.size⟩
  have HI : Hid ((toldNt n l).fit) := Lib.hid (told_fitNt HN64.out HLL.out)
  have HSZ3 := Lib.hid (HT1.out.below hb3).siz
  clear hb hb3 HRW HR1 HB1 HZ1 HRD HT1
  obtain ⟨y, hy⟩ : ∃ y, toldNt n l = y := ⟨_, rfl⟩
  have HY := Lib.hid hy
  rw [hy] at HW3 HI HSZ3 HM HD
  rw [hy]
  clear hy
  have HFL := Lib.hid (fullNt_length y)
  go_upto_region 5 with (first | (refine wpList_valn rfl (exec_allocNt rfl) ?_) | (refine wpList_nuln rfl (exec_fillNt rfl rfl rfl) ?_) | fail)
  generalize w2.alloc (.cells (celNt y).toArray 25) = w3 at *
  have HS3 := Lib.hid HW3.out.sup
  have HR3 := Lib.hid HW3.out.row
  generalize w2.heap.size = s at *
  refine wp_region_above (B := w3.heap.size) (by kernel_rfl) ?_
  refine qv_val rfl (fun w' hw => exec_loadNt (c := y) rfl (ev rfl) ((HS3.out.below (blk_lt HS3.out) hw).range)) ?_
  simp only [Act.put, List.setIfInBounds_toArray, List.set_cons_succ, List.set_cons_zero]
  refine qv_call rfl (fun _ => exec_cl Tryd.call9 rfl (evc (ev rfl) evn)) (above_of (Nat.le_refl _) fun w' hw => pntmay_b y w' HM.out) ?_
  simp only [Act.put, List.setIfInBounds_toArray, List.set_cons_succ, List.set_cons_zero]
  refine qv_val (v := .bool false) rfl (fun w' hw => exec_not true rfl (ev rfl)) ?_
  simp only [Act.put, List.setIfInBounds_toArray, List.set_cons_succ, List.set_cons_zero]
  refine qv_val (v := .bool false) rfl (fun w' hw => exec_mv rfl (ev rfl)) ?_
  simp only [Act.put, List.setIfInBounds_toArray, List.set_cons_succ, List.set_cons_zero]
  refine qv_val (wanted_of rfl rfl rfl rfl) (fun w' hw => exec_loadNt (c := y) rfl (ev rfl) ((HS3.out.below (blk_lt HS3.out) hw).range)) ?_
  simp only [Act.put, List.setIfInBounds_toArray, List.set_cons_succ, List.set_cons_zero]
  refine qv_call (wanted_of rfl rfl rfl rfl) (fun _ => exec_cl Tryd.call19 rfl (evc (ev rfl) evn)) (above_of (Nat.le_refl _) fun w' hw => pntlaid y w' (HSZ3.out.below hw) HI.out HM.out) ?_
  simp only [Act.put, List.setIfInBounds_toArray, List.set_cons_succ, List.set_cons_zero]
  refine qv_val (wanted_of rfl rfl rfl rfl) (fun w' hw => exec_mv rfl (ev rfl)) ?_
  simp only [Act.put, List.setIfInBounds_toArray, List.set_cons_succ, List.set_cons_zero]
  refine qv_val (wanted_of rfl rfl rfl rfl) (fun w' hw => exec_s2an rfl (ev rfl)) ?_
  simp only [Act.put, List.setIfInBounds_toArray, List.set_cons_succ, List.set_cons_zero]
  refine qv_val (wanted_of rfl rfl rfl rfl) (fun w' hw => exec_load44n HLL.out rfl (ev rfl) (rng_at (HR3.out.below HR3.out.lt hw))) ?_
  simp only [Act.put, List.setIfInBounds_toArray, List.set_cons_succ, List.set_cons_zero]
  refine qv_val (v := .bool false) (wanted_of rfl rfl rfl rfl) (fun w' hw => exec_ne44n true HFL.out HLL.out rfl (ev rfl) (ev rfl) HD.out) ?_
  simp only [Act.put, List.setIfInBounds_toArray, List.set_cons_succ, List.set_cons_zero]
  refine qv_val (v := .bool false) rfl (fun w' hw => exec_pf rfl (ev rfl) (ev rfl)) ?_
  simp only [Act.put, List.setIfInBounds_toArray, List.set_cons_succ, List.set_cons_zero]
  refine wpQuiet_nil ?_
  intro w4 hw
  have HW4 := Lib.hid (HW3.out.keep hw)
  have HR4 := Lib.hid HW4.out.res
  have HB4 := Lib.hid HW4.out.bel
  have HLD := Lib.hid HW4.out.sup.range
  clear HW3 HS3 HR3 hw
  go_wp2_with (first | (refine wpList_valn rfl (exec_loadNt (c := y) rfl rfl ?_) ?_; (with_reducible exact HLD.out)) | (refine wpList_nuln rfl (exec_putNt (c := y) rfl rfl rfl ?_) ?_; (with_reducible exact HR4.out)) | fail)
  refine bodyPost_ret (res_two (t := 25) (cs := celNt y) rfl _ _ _ rfl ?h1 Tryd.underlying25 rfl ?h2) rfl ⟨by rw [HN.out, HL.out, HY.out]; rfl, ?h3⟩
  case h1 => exact World.rangeAt_setCells_same _ _ _ _ HR4.out
  case h2 => exact sizeNt
  case h3 => exact below_setCells HB4.out (Nat.le_succ _) _
theorem pntget (b : Blk) (w : World) (T : TabNt w) : Calls Tryd.prog 16 #[blk b] w fun e w' => e = .returned (.tuple #[nte (codNt.gX b), .int .i64 (codNt.gE b : Nat)]) ∧ Below w.heap.size w w' := by
  by_cases h0 : getE b.toList = 0
  · by_cases hm : nteB (toldNt (getN b.toList) (getB b.toList)) = true
    · by_cases hd : fullNt (toldNt (getN b.toList) (getB b.toList)) = getB b.toList
      · have hE := codNt.gE_ok h0 (codNt.good_iff.2 ⟨hm, hd⟩)
        rw [codNt.gX_of hE, hE]
        exact pntget_yes b w T h0 hm hd
      · have hE := codNt.gE_form h0 (fun h => hd (codNt.good_iff.1 h).2)
        rw [codNt.gX_no (by omega), hE]
        exact pntget_un b w T h0 hm hd
    · have hE := codNt.gE_form h0 (fun h => hm (codNt.good_iff.1 h).1)
      rw [codNt.gX_no (by omega), hE]
      exact pntget_may b w T h0 (by simpa using hm)
  · have hE := codNt.gE_seal h0
    rw [codNt.gX_no (by omega), hE]
    exact pntget_seal b w T h0
end Go.Proofs.YtiandcigoflcmaaDoor
