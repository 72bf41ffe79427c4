/-
  The program's mark.Put, Get.
-/
import Derived.Test.YtmdpbnolgbfaeaaDoorMkc
import Derived.Test.YtmdpbnolgbfaeaaDoorMkd
import Derived.Test.YtmdpbnolgbfaeaaDoorSpc
import Derived.Test.YtmdpbnolgbfaeaaDoorSpd
import Derived.Test.YtmdpbnolgbfaeaaDoorSkq
namespace Go.Proofs.YtmdpbnolgbfaeaaDoor
open Go.RowKit
set_option linter.unusedVariables false
set_option linter.unusedSimpArgs false
set_option maxRecDepth 100000

set_option maxHeartbeats 1000000 in
theorem pmput (n : Nat) (x : Mrk) (w : World) (T : TabM w) (hn : n < 18446744073709551616) (hf : x.fit) :
    Calls Tryd.prog 7 #[.int .u64 n, mrk x] w fun e w' => e = .returned (.tuple #[blk (codM.pB ⟨n, x⟩), .int .i64 (codM.pE ⟨n, x⟩ : Nat)]) ∧ Below w.heap.size w w' := by
  obtain ⟨h1, h2, h3⟩ := boxM_new w x
  have HS := Lib.hid (h1.past (.cells (cel zeroB).toArray 26))
  have HB := Lib.hid (h2.alloc h2.size (.cells (cel zeroB).toArray 26))
  have HT := Lib.hid T
  have HN := Lib.hid hn
  have HI := Lib.hid hf
  have HR : Hid (((w.alloc (.cells (celM x).toArray 24)).alloc (.cells (cel zeroB).toArray 26)).there (w.heap.size + 1) 0 64) := Lib.hid (by
    have := there_new (w.alloc (.cells (celM x).toArray 24)) zeroB 26
    rwa [World.size_alloc] at this)
  have HZ : Hid (w.heap.size + 1 < ((w.alloc (.cells (celM x).toArray 24)).alloc (.cells (cel zeroB).toArray 26)).heap.size) := Lib.hid (by simp only [World.size_alloc]; omega)
  clear h1 h2 h3 T hn hf
  go_enter Tryd.func7, Tryd.ntmps7
  go_wp2_with (first | (refine wpList_valn rfl (exec_boxM rfl rfl) ?_) | (refine wpList_valn rfl (exec_alloc rfl) ?_) | fail)
  try simp only [World.size_alloc]
  generalize (w.alloc (.cells (celM x).toArray 24)).alloc (.cells (cel zeroB).toArray 26) = w1 at *
  refine (pcount n w1).mono ?_
  rintro e w' ⟨rfl, rfl⟩
  by_cases hev : evB n = true
  · rw [hev]
    have HEV := Lib.hid hev
    clear hev
    go_wp2_with (first | (refine wpList_val (by rfl) (exec_loadM (c := x) rfl rfl ?_) ?_; (with_reducible exact HS.out.range)) | fail)
    refine (pmmay x w1).mono ?_
    rintro e w2 ⟨rfl, hb⟩
    have HS2 := Lib.hid (HS.out.below (blk_lt HS.out) hb)
    have HB2 := Lib.hid (HB.out.trans (hb.mono HB.out.size))
    have HR2 := Lib.hid (there_below HR.out HZ.out hb)
    have HZ2 : Hid (w.heap.size + 1 < w2.heap.size) := Lib.hid (by have := hb.size; have := HZ.out; omega)
    clear hb HS HB HR HZ
    by_cases hm : mrkB x = true
    · rw [hm]
      have HM := Lib.hid hm
      clear hm
      go_wp2_with (first | (refine wpList_valn rfl (exec_loadM (c := x) rfl rfl ?_) ?_; (with_reducible exact HS2.out.range)) | fail)
      refine (pmlaid x w2 (HT.out.below HB2.out).siz HI.out HM.out).mono ?_
      rintro e w3 ⟨rfl, hb⟩
      have hb3 := HB2.out.trans (hb.mono HB2.out.size)
      have HB3 := Lib.hid (hb3.alloc hb3.size (.cells (vals (fullM x)).toArray 44))
      have HR3 := Lib.hid (there_below HR2.out HZ2.out (hb.alloc hb.size (.cells (vals (fullM x)).toArray 44)))
      have hrd := (RowL.new w3 (fullM x) 44).rd (p := 0) (k := 44) (by rw [fullM_length]; omega)
      rw [piece_all (fullM_length x)] at hrd
      have HRD := Lib.hid hrd
      have HFL := Lib.hid (fullM_length x)
      have HZ3 : Hid (w.heap.size + 1 < (w3.alloc (.cells (vals (fullM x)).toArray 44)).heap.size) := Lib.hid (by have := hb.size; have := HZ2.out; simp only [World.size_alloc]; omega)
      clear hb hb3 hrd HS2 HB2 HR2 HZ2
      go_wp2_with (first | (refine wpList_valn rfl (exec_alloc44m rfl) ?_) | (refine wpList_nuln rfl (exec_fill44m (l := fullM x) HFL.out rfl rfl rfl) ?_) | (refine wpList_valn rfl (exec_all44m rfl rfl) ?_) | fail)
      generalize hw4 : w3.alloc (.cells (vals (fullM x)).toArray 44) = w4 at *
      refine (put_all n 44 44 _ _ (fullM x) w4 (HT.out.below HB3.out).tab HN.out HRD.out (Nat.le_refl _) (by unfold maxLen; omega)).mono ?_
      rintro e w5 ⟨rfl, hb⟩
      rw [show putB n (fullM x) = putB n (bodyM x) from codM.putB_full n ⟨n, x⟩, show putE n (fullM x) = putE n (bodyM x) from codM.putE_full n ⟨n, x⟩, show putE n (bodyM x) = 0 from codM.body_putE ⟨n, x⟩ (by have := of_evB HEV.out; omega)]
      have HR5 := Lib.hid (there_below HR3.out HZ3.out hb)
      have HB5 := Lib.hid (HB3.out.trans (hb.mono HB3.out.size))
      have hmay : codM.may ⟨n, x⟩ = true := by rw [codM_may, HEV.out, HM.out]; rfl
      have HPB : Hid (codM.pB ⟨n, x⟩ = putB n (bodyM x)) := Lib.hid (codM.pB_ok hmay)
      have HPE := Lib.hid (codM.pE_ok hmay)
      clear hb hw4 HRD HR3 HZ3 HB3 hmay
      generalize putB n (bodyM x) = pb at *
      go_wp2_with (first | (refine wpList_nuln rfl (exec_store (c := pb) rfl rfl rfl ?_) ?_; (with_reducible exact HR5.out)) | fail)
      refine bodyPost_ret (res_blk2 rfl _ _ _ rfl (World.rangeAt_setCells_same _ _ _ _ (by rw [cel_length]; exact HR5.out))) rfl ⟨by rw [HPB.out, HPE.out]; rfl, below_setCells HB5.out (Nat.le_succ _) _⟩
    · have hm' : mrkB x = false := by simpa using hm
      have hmay : ¬ codM.may ⟨n, x⟩ = true := by rw [codM_may, hm', Bool.and_false]; decide
      have HPB := Lib.hid (codM.pB_no hmay)
      have HPE := Lib.hid (codM.pE_no hmay)
      rw [hm']
      clear hm hm' hmay
      go_wp2_with (first | (refine wpList_valn rfl (exec_build (c := zeroB) (parts := []) rfl rfl) ?_) | (refine wpList_nuln rfl (exec_store (c := zeroB) rfl rfl rfl ?_) ?_; (with_reducible exact HR2.out)) | fail)
      refine bodyPost_ret (res_blk2 rfl _ _ _ rfl (World.rangeAt_setCells_same _ _ _ _ (by rw [cel_length]; exact HR2.out))) rfl ⟨by rw [HPB.out, HPE.out]; rfl, below_setCells HB2.out (Nat.le_succ _) _⟩
  · have hev' : evB n = false := by simpa using hev
    have hmay : ¬ codM.may ⟨n, x⟩ = true := by rw [codM_may, hev', Bool.false_and]; decide
    have HPB := Lib.hid (codM.pB_no hmay)
    have HPE := Lib.hid (codM.pE_no hmay)
    rw [hev']
    clear hev hev' hmay
    go_wp2_with (first | (refine wpList_valn rfl (exec_build (c := zeroB) (parts := []) rfl rfl) ?_) | (refine wpList_nuln rfl (exec_store (c := zeroB) rfl rfl rfl ?_) ?_; (with_reducible exact HR.out)) | fail)
    refine bodyPost_ret (res_blk2 rfl _ _ _ rfl (World.rangeAt_setCells_same _ _ _ _ (by rw [cel_length]; exact HR.out))) rfl ⟨by rw [HPB.out, HPE.out]; rfl, below_setCells HB.out (Nat.le_succ _) _⟩
/-- What the program's Get has laid when the body is told. -/
structure MgW (w w3 : World) (g s : Nat) (l : List UInt8) (y : Mrk) : Prop where
  row : RowL w3 g 5 l
  sup : MrkAt w3 s y
  res : w3.there (w.heap.size + 1) 0 4
  bel : Below w.heap.size w w3
  lt : w.heap.size + 1 < w3.heap.size
theorem MgW.keep {w w3 w4 : World} {g s : Nat} {l : List UInt8} {y : Mrk} (h : MgW w w3 g s l y) (hb : Below w3.heap.size w3 w4) : MgW w w4 g s l y :=
  ⟨h.row.below h.row.lt hb, h.sup.below (blk_lt h.sup) hb, there_below h.res h.lt hb, h.bel.trans (hb.mono h.bel.size), Nat.lt_of_lt_of_le h.lt hb.size⟩
set_option maxHeartbeats 1000000 in
theorem pmget_seal (b : Blk) (w : World) (T : TabM w) (h : getE b.toList ≠ 0) : Calls Tryd.prog 14 #[blk b] w fun e w' => e = .returned (.tuple #[.int .u64 (0 : Nat), mrk zeroM, .int .i64 (getE b.toList : Nat)]) ∧ Below w.heap.size w w' := by
  obtain ⟨n, hn⟩ : ∃ n, getN b.toList = n := ⟨_, rfl⟩
  obtain ⟨l, hl⟩ : ∃ l, getB b.toList = l := ⟨_, rfl⟩
  have h1 := (Below.refl w.heap.size w).alloc (Nat.le_refl _) (.cells (cel b).toArray 26)
  have h2 := h1.alloc h1.size (.cells (celM zeroM).toArray 24)
  have HA : Hid (((w.alloc (.cells (cel b).toArray 26)).alloc (.cells (celM zeroM).toArray 24)).rangeAt w.heap.size 0 (cel b)) := Lib.hid (World.rangeAt_alloc (range_new w (cel b) 26) _)
  have hsn := MrkAt.new (w.alloc (.cells (cel b).toArray 26)) zeroM
  rw [World.size_alloc] at hsn
  have HR := Lib.hid hsn.there
  have HZ := Lib.hid (blk_lt hsn)
  have HB := Lib.hid h2
  have HT := Lib.hid (T.below h2)
  have HN := Lib.hid hn
  have HL := Lib.hid hl
  clear h1 h2 hsn T
  obtain ⟨E, hE⟩ : ∃ E, getE b.toList = E := ⟨_, rfl⟩
  rw [hE] at h
  have HE := Lib.hid hE
  have hne : ((E : Int) != 0) = true := by simp; omega
  clear hE hn hl
  go_enter Tryd.func14, Tryd.ntmps14
  go_wp2_with (first | (refine wpList_valn rfl (exec_box rfl rfl) ?_) | (refine wpList_valn rfl (exec_allocM rfl) ?_) | (refine wpList_valn rfl (exec_load (c := b) rfl rfl ?_) ?_; (with_reducible exact HA.out)) | fail)
  try simp only [World.size_alloc]
  generalize (w.alloc (.cells (cel b).toArray 26)).alloc (.cells (celM zeroM).toArray 24) = w0 at *
  refine (pget_any b _ w0 (Lib.hid rfl) HT.out.tab).mono ?_
  rintro e w1 ⟨v, rfl, hv, hb⟩
  rw [HN.out]
  rw [HE.out]
  have HR1 := Lib.hid (there_below HR.out HZ.out hb)
  have HB1 := Lib.hid (HB.out.trans (hb.mono HB.out.size))
  clear hv hb HA HR HB
  go_wp2_with (first | (refine wpList_valn rfl (exec_bldM rfl) ?_) | (refine wpList_nuln rfl (exec_putM (c := zeroM) rfl rfl rfl ?_) ?_; (with_reducible exact HR1.out)) | fail)
  refine bodyPost_ret (res_tri (t := 24) (cs := celM zeroM) rfl _ _ _ rfl ?h1 Tryd.underlying24 rfl ?h2) rfl ⟨by rw [HE.out]; rfl, ?h3⟩
  case h1 => exact World.rangeAt_setCells_same _ _ _ _ HR1.out
  case h2 => exact sizeM
  case h3 => exact below_setCells HB1.out (Nat.le_succ _) _
set_option maxHeartbeats 2000000 in
theorem pmget_ev (b : Blk) (w : World) (T : TabM w) (h0 : getE b.toList = 0) (hev : evB (getN b.toList) = false) : Calls Tryd.prog 14 #[blk b] w fun e w' => e = .returned (.tuple #[.int .u64 (0 : Nat), mrk zeroM, .int .i64 (5 : Nat)]) ∧ Below w.heap.size w w' := by
  obtain ⟨n, hn⟩ : ∃ n, getN b.toList = n := ⟨_, rfl⟩
  obtain ⟨l, hl⟩ : ∃ l, getB b.toList = l := ⟨_, rfl⟩
  have h1 := (Below.refl w.heap.size w).alloc (Nat.le_refl _) (.cells (cel b).toArray 26)
  have h2 := h1.alloc h1.size (.cells (celM zeroM).toArray 24)
  have HA : Hid (((w.alloc (.cells (cel b).toArray 26)).alloc (.cells (celM zeroM).toArray 24)).rangeAt w.heap.size 0 (cel b)) := Lib.hid (World.rangeAt_alloc (range_new w (cel b) 26) _)
  have hsn := MrkAt.new (w.alloc (.cells (cel b).toArray 26)) zeroM
  rw [World.size_alloc] at hsn
  have HR := Lib.hid hsn.there
  have HZ := Lib.hid (blk_lt hsn)
  have HB := Lib.hid h2
  have HT := Lib.hid (T.below h2)
  have HN := Lib.hid hn
  have HL := Lib.hid hl
  clear h1 h2 hsn T
  rw [hn] at hev
  have HEV := Lib.hid hev
  clear hev
  clear hn hl
  go_enter Tryd.func14, Tryd.ntmps14
  go_wp2_with (first | (refine wpList_valn rfl (exec_box rfl rfl) ?_) | (refine wpList_valn rfl (exec_allocM rfl) ?_) | (refine wpList_valn rfl (exec_load (c := b) rfl rfl ?_) ?_; (with_reducible exact HA.out)) | fail)
  try simp only [World.size_alloc]
  generalize (w.alloc (.cells (cel b).toArray 26)).alloc (.cells (celM zeroM).toArray 24) = w0 at *
  refine (pget_any b _ w0 (Lib.hid rfl) HT.out.tab).mono ?_
  rintro e w1 ⟨v, rfl, hv, hb⟩
  rw [HN.out]
  rw [h0]
  have hll : l.length = 44 := by rw [← HL.out]; exact getB_len h0
  have HLL := Lib.hid hll
  rw [HL.out] at hv
  obtain ⟨g, hve, hrow⟩ : ∃ g, v = .slice (some ⟨g, 0, none⟩) 44 44 ∧ RowL w1 g 5 l := by
    rcases hv with ⟨_, rfl⟩ | ⟨g, e, _, hr, _⟩
    · simp at hll
    · rw [hll] at e; exact ⟨g, e, hr⟩
  subst hve
  have HR1 := Lib.hid (there_below HR.out HZ.out hb)
  have HB1 := Lib.hid (HB.out.trans (hb.mono HB.out.size))
  have HZ1 : Hid (w.heap.size + 1 < w1.heap.size) := Lib.hid (Nat.lt_of_lt_of_le HZ.out hb.size)
  have HRW := Lib.hid hrow
  have hrd := hrow.rd (p := 0) (k := 44) (by rw [hll]; omega)
  rw [piece_all hll] at hrd
  have HRD := Lib.hid hrd
  have HT1 := Lib.hid (HT.out.below hb)
  clear hv hb HA HR HB HZ hll h0 hrow hrd
  go_wp2_with fail
  refine (pmtold _ 44 l w1 HT1.out.siz HRD.out).mono ?_
  rintro e w2 ⟨rfl, hb⟩
  have hb3 := hb.alloc hb.size (.cells (celM (toldM l)).toArray 24)
  have HW3 : Hid (MgW w (w2.alloc (.cells (celM (toldM l)).toArray 24)) g w2.heap.size l (toldM l)) := Lib.hid ⟨HRW.out.below HRW.out.lt hb3, MrkAt.new w2 _, there_below HR1.out HZ1.out hb3, HB1.out.trans (hb3.mono HB1.out.size), Nat.lt_of_lt_of_le HZ1.out hb3.size⟩
  have HI : Hid ((toldM l).fit) := Lib.hid (told_fitM HLL.out)
  have HSZ3 := Lib.hid (HT1.out.below hb3).siz
  clear hb hb3 HRW HR1 HB1 HZ1 HRD HT1
  obtain ⟨y, hy⟩ : ∃ y, toldM l = y := ⟨_, rfl⟩
  have HY := Lib.hid hy
  rw [hy] at HW3 HI HSZ3
  rw [hy]
  clear hy
  have HFL := Lib.hid (fullM_length y)
  go_upto_region 5 with (first | (refine wpList_valn rfl (exec_allocM rfl) ?_) | (refine wpList_nuln rfl (exec_fillM rfl rfl rfl) ?_) | fail)
  generalize w2.alloc (.cells (celM y).toArray 24) = w3 at *
  have HS3 := Lib.hid HW3.out.sup
  have HR3 := Lib.hid HW3.out.row
  generalize w2.heap.size = s at *
  refine wp_region_above (B := w3.heap.size) (by kernel_rfl) ?_
  refine qv_val rfl (fun w' hw => exec_mv rfl (ev rfl)) ?_
  simp only [Act.put, List.setIfInBounds_toArray, List.set_cons_succ, List.set_cons_zero]
  refine qv_call rfl (fun _ => exec_cl Tryd.call19 rfl (evc (ev rfl) evn)) (above_of (Nat.le_refl _) fun w' hw => pcount_d n w' HEV.out) ?_
  simp only [Act.put, List.setIfInBounds_toArray, List.set_cons_succ, List.set_cons_zero]
  refine qv_val (v := .bool true) rfl (fun w' hw => exec_not false rfl (ev rfl)) ?_
  simp only [Act.put, List.setIfInBounds_toArray, List.set_cons_succ, List.set_cons_zero]
  refine qv_vals 3 (v := .bool true) rfl (fun w' hw => exec_mv rfl (ev rfl)) (by kernel_rfl) ?_
  simp only [skipAct, List.take_succ_cons, List.take_zero, List.drop_succ_cons, List.drop_zero, Act.put, List.setIfInBounds_toArray, List.set_cons_succ, List.set_cons_zero]
  refine qv_val (v := .bool true) rfl (fun w' hw => exec_pt rfl (ev rfl) evk) ?_
  simp only [Act.put, List.setIfInBounds_toArray, List.set_cons_succ, List.set_cons_zero]
  refine qv_vals 6 (v := .bool true) rfl (fun w' hw => exec_mv rfl (ev rfl)) (by kernel_rfl) ?_
  simp only [skipAct, List.take_succ_cons, List.take_zero, List.drop_succ_cons, List.drop_zero, Act.put, List.setIfInBounds_toArray, List.set_cons_succ, List.set_cons_zero]
  refine qv_val (v := .bool true) rfl (fun w' hw => exec_pt rfl (ev rfl) evk) ?_
  simp only [Act.put, List.setIfInBounds_toArray, List.set_cons_succ, List.set_cons_zero]
  refine wpQuiet_nil ?_
  intro w4 hw
  have HW4 := Lib.hid (HW3.out.keep hw)
  have HR4 := Lib.hid HW4.out.res
  have HB4 := Lib.hid HW4.out.bel
  clear HW3 HS3 HR3 hw
  go_wp2_with (first | (refine wpList_valn rfl (exec_bldM rfl) ?_) | (refine wpList_nuln rfl (exec_putM (c := zeroM) rfl rfl rfl ?_) ?_; (with_reducible exact HR4.out)) | fail)
  refine bodyPost_ret (res_tri (t := 24) (cs := celM zeroM) rfl _ _ _ rfl ?h1 Tryd.underlying24 rfl ?h2) rfl ⟨rfl, ?h3⟩
  case h1 => exact World.rangeAt_setCells_same _ _ _ _ HR4.out
  case h2 => exact sizeM
  case h3 => exact below_setCells HB4.out (Nat.le_succ _) _
set_option maxHeartbeats 2000000 in
theorem pmget_may (b : Blk) (w : World) (T : TabM w) (h0 : getE b.toList = 0) (hev : evB (getN b.toList) = true) (hm : mrkB (toldM (getB b.toList)) = false) : Calls Tryd.prog 14 #[blk b] w fun e w' => e = .returned (.tuple #[.int .u64 (0 : Nat), mrk zeroM, .int .i64 (5 : Nat)]) ∧ Below w.heap.size w w' := by
  obtain ⟨n, hn⟩ : ∃ n, getN b.toList = n := ⟨_, rfl⟩
  obtain ⟨l, hl⟩ : ∃ l, getB b.toList = l := ⟨_, rfl⟩
  have h1 := (Below.refl w.heap.size w).alloc (Nat.le_refl _) (.cells (cel b).toArray 26)
  have h2 := h1.alloc h1.size (.cells (celM zeroM).toArray 24)
  have HA : Hid (((w.alloc (.cells (cel b).toArray 26)).alloc (.cells (celM zeroM).toArray 24)).rangeAt w.heap.size 0 (cel b)) := Lib.hid (World.rangeAt_alloc (range_new w (cel b) 26) _)
  have hsn := MrkAt.new (w.alloc (.cells (cel b).toArray 26)) zeroM
  rw [World.size_alloc] at hsn
  have HR := Lib.hid hsn.there
  have HZ := Lib.hid (blk_lt hsn)
  have HB := Lib.hid h2
  have HT := Lib.hid (T.below h2)
  have HN := Lib.hid hn
  have HL := Lib.hid hl
  clear h1 h2 hsn T
  rw [hn] at hev
  rw [hl] at hm
  have HEV := Lib.hid hev
  have HM := Lib.hid hm
  clear hev hm
  clear hn hl
  go_enter Tryd.func14, Tryd.ntmps14
  go_wp2_with (first | (refine wpList_valn rfl (exec_box rfl rfl) ?_) | (refine wpList_valn rfl (exec_allocM rfl) ?_) | (refine wpList_valn rfl (exec_load (c := b) rfl rfl ?_) ?_; (with_reducible exact HA.out)) | fail)
  try simp only [World.size_alloc]
  generalize (w.alloc (.cells (cel b).toArray 26)).alloc (.cells (celM zeroM).toArray 24) = w0 at *
  refine (pget_any b _ w0 (Lib.hid rfl) HT.out.tab).mono ?_
  rintro e w1 ⟨v, rfl, hv, hb⟩
  rw [HN.out]
  rw [h0]
  have hll : l.length = 44 := by rw [← HL.out]; exact getB_len h0
  have HLL := Lib.hid hll
  rw [HL.out] at hv
  obtain ⟨g, hve, hrow⟩ : ∃ g, v = .slice (some ⟨g, 0, none⟩) 44 44 ∧ RowL w1 g 5 l := by
    rcases hv with ⟨_, rfl⟩ | ⟨g, e, _, hr, _⟩
    · simp at hll
    · rw [hll] at e; exact ⟨g, e, hr⟩
  subst hve
  have HR1 := Lib.hid (there_below HR.out HZ.out hb)
  have HB1 := Lib.hid (HB.out.trans (hb.mono HB.out.size))
  have HZ1 : Hid (w.heap.size + 1 < w1.heap.size) := Lib.hid (Nat.lt_of_lt_of_le HZ.out hb.size)
  have HRW := Lib.hid hrow
  have hrd := hrow.rd (p := 0) (k := 44) (by rw [hll]; omega)
  rw [piece_all hll] at hrd
  have HRD := Lib.hid hrd
  have HT1 := Lib.hid (HT.out.below hb)
  clear hv hb HA HR HB HZ hll h0 hrow hrd
  go_wp2_with fail
  refine (pmtold _ 44 l w1 HT1.out.siz HRD.out).mono ?_
  rintro e w2 ⟨rfl, hb⟩
  have hb3 := hb.alloc hb.size (.cells (celM (toldM l)).toArray 24)
  have HW3 : Hid (MgW w (w2.alloc (.cells (celM (toldM l)).toArray 24)) g w2.heap.size l (toldM l)) := Lib.hid ⟨HRW.out.below HRW.out.lt hb3, MrkAt.new w2 _, there_below HR1.out HZ1.out hb3, HB1.out.trans (hb3.mono HB1.out.size), Nat.lt_of_lt_of_le HZ1.out hb3.size⟩
  have HI : Hid ((toldM l).fit) := Lib.hid (told_fitM HLL.out)
  have HSZ3 := Lib.hid (HT1.out.below hb3).siz
  clear hb hb3 HRW HR1 HB1 HZ1 HRD HT1
  obtain ⟨y, hy⟩ : ∃ y, toldM l = y := ⟨_, rfl⟩
  have HY := Lib.hid hy
  rw [hy] at HW3 HI HSZ3 HM
  rw [hy]
  clear hy
  have HFL := Lib.hid (fullM_length y)
  go_upto_region 5 with (first | (refine wpList_valn rfl (exec_allocM rfl) ?_) | (refine wpList_nuln rfl (exec_fillM rfl rfl rfl) ?_) | fail)
  generalize w2.alloc (.cells (celM y).toArray 24) = w3 at *
  have HS3 := Lib.hid HW3.out.sup
  have HR3 := Lib.hid HW3.out.row
  generalize w2.heap.size = s at *
  refine wp_region_above (B := w3.heap.size) (by kernel_rfl) ?_
  refine qv_val rfl (fun w' hw => exec_mv rfl (ev rfl)) ?_
  simp only [Act.put, List.setIfInBounds_toArray, List.set_cons_succ, List.set_cons_zero]
  refine qv_call rfl (fun _ => exec_cl Tryd.call19 rfl (evc (ev rfl) evn)) (above_of (Nat.le_refl _) fun w' hw => pcount_d n w' HEV.out) ?_
  simp only [Act.put, List.setIfInBounds_toArray, List.set_cons_succ, List.set_cons_zero]
  refine qv_val (v := .bool false) rfl (fun w' hw => exec_not true rfl (ev rfl)) ?_
  simp only [Act.put, List.setIfInBounds_toArray, List.set_cons_succ, List.set_cons_zero]
  refine qv_val (v := .bool false) rfl (fun w' hw => exec_mv rfl (ev rfl)) ?_
  simp only [Act.put, List.setIfInBounds_toArray, List.set_cons_succ, List.set_cons_zero]
  refine qv_val (wanted_of rfl rfl rfl rfl) (fun w' hw => exec_loadM (c := y) rfl (ev rfl) ((HS3.out.below (blk_lt HS3.out) hw).range)) ?_
  simp only [Act.put, List.setIfInBounds_toArray, List.set_cons_succ, List.set_cons_zero]
  refine qv_call (wanted_of rfl rfl rfl rfl) (fun _ => exec_cl Tryd.call9 rfl (evc (ev rfl) evn)) (above_of (Nat.le_refl _) fun w' hw => pmmay_b y w' HM.out) ?_
  simp only [Act.put, List.setIfInBounds_toArray, List.set_cons_succ, List.set_cons_zero]
  refine qv_val (v := .bool true) (wanted_of rfl rfl rfl rfl) (fun w' hw => exec_not false rfl (ev rfl)) ?_
  simp only [Act.put, List.setIfInBounds_toArray, List.set_cons_succ, List.set_cons_zero]
  refine qv_val (v := .bool true) rfl (fun w' hw => exec_pf rfl (ev rfl) (ev rfl)) ?_
  simp only [Act.put, List.setIfInBounds_toArray, List.set_cons_succ, List.set_cons_zero]
  refine qv_vals 6 (v := .bool true) rfl (fun w' hw => exec_mv rfl (ev rfl)) (by kernel_rfl) ?_
  simp only [skipAct, List.take_succ_cons, List.take_zero, List.drop_succ_cons, List.drop_zero, Act.put, List.setIfInBounds_toArray, List.set_cons_succ, List.set_cons_zero]
  refine qv_val (v := .bool true) rfl (fun w' hw => exec_pt rfl (ev rfl) evk) ?_
  simp only [Act.put, List.setIfInBounds_toArray, List.set_cons_succ, List.set_cons_zero]
  refine wpQuiet_nil ?_
  intro w4 hw
  have HW4 := Lib.hid (HW3.out.keep hw)
  have HR4 := Lib.hid HW4.out.res
  have HB4 := Lib.hid HW4.out.bel
  clear HW3 HS3 HR3 hw
  go_wp2_with (first | (refine wpList_valn rfl (exec_bldM rfl) ?_) | (refine wpList_nuln rfl (exec_putM (c := zeroM) rfl rfl rfl ?_) ?_; (with_reducible exact HR4.out)) | fail)
  refine bodyPost_ret (res_tri (t := 24) (cs := celM zeroM) rfl _ _ _ rfl ?h1 Tryd.underlying24 rfl ?h2) rfl ⟨rfl, ?h3⟩
  case h1 => exact World.rangeAt_setCells_same _ _ _ _ HR4.out
  case h2 => exact sizeM
  case h3 => exact below_setCells HB4.out (Nat.le_succ _) _
set_option maxHeartbeats 2000000 in
theorem pmget_un (b : Blk) (w : World) (T : TabM w) (h0 : getE b.toList = 0) (hev : evB (getN b.toList) = true) (hm : mrkB (toldM (getB b.toList)) = true) (hd : fullM (toldM (getB b.toList)) ≠ getB b.toList) : Calls Tryd.prog 14 #[blk b] w fun e w' => e = .returned (.tuple #[.int .u64 (0 : Nat), mrk zeroM, .int .i64 (5 : Nat)]) ∧ Below w.heap.size w w' := by
  obtain ⟨n, hn⟩ : ∃ n, getN b.toList = n := ⟨_, rfl⟩
  obtain ⟨l, hl⟩ : ∃ l, getB b.toList = l := ⟨_, rfl⟩
  have h1 := (Below.refl w.heap.size w).alloc (Nat.le_refl _) (.cells (cel b).toArray 26)
  have h2 := h1.alloc h1.size (.cells (celM zeroM).toArray 24)
  have HA : Hid (((w.alloc (.cells (cel b).toArray 26)).alloc (.cells (celM zeroM).toArray 24)).rangeAt w.heap.size 0 (cel b)) := Lib.hid (World.rangeAt_alloc (range_new w (cel b) 26) _)
  have hsn := MrkAt.new (w.alloc (.cells (cel b).toArray 26)) zeroM
  rw [World.size_alloc] at hsn
  have HR := Lib.hid hsn.there
  have HZ := Lib.hid (blk_lt hsn)
  have HB := Lib.hid h2
  have HT := Lib.hid (T.below h2)
  have HN := Lib.hid hn
  have HL := Lib.hid hl
  clear h1 h2 hsn T
  rw [hn] at hev
  rw [hl] at hm hd
  have HEV := Lib.hid hev
  have HM := Lib.hid hm
  have HD : Hid (decide (fullM (toldM l) = l) = false) := Lib.hid (decide_eq_false hd)
  clear hev hm hd
  clear hn hl
  go_enter Tryd.func14, Tryd.ntmps14
  go_wp2_with (first | (refine wpList_valn rfl (exec_box rfl rfl) ?_) | (refine wpList_valn rfl (exec_allocM rfl) ?_) | (refine wpList_valn rfl (exec_load (c := b) rfl rfl ?_) ?_; (with_reducible exact HA.out)) | fail)
  try simp only [World.size_alloc]
  generalize (w.alloc (.cells (cel b).toArray 26)).alloc (.cells (celM zeroM).toArray 24) = w0 at *
  refine (pget_any b _ w0 (Lib.hid rfl) HT.out.tab).mono ?_
  rintro e w1 ⟨v, rfl, hv, hb⟩
  rw [HN.out]
  rw [h0]
  have hll : l.length = 44 := by rw [← HL.out]; exact getB_len h0
  have HLL := Lib.hid hll
  rw [HL.out] at hv
  obtain ⟨g, hve, hrow⟩ : ∃ g, v = .slice (some ⟨g, 0, none⟩) 44 44 ∧ RowL w1 g 5 l := by
    rcases hv with ⟨_, rfl⟩ | ⟨g, e, _, hr, _⟩
    · simp at hll
    · rw [hll] at e; exact ⟨g, e, hr⟩
  subst hve
  have HR1 := Lib.hid (there_below HR.out HZ.out hb)
  have HB1 := Lib.hid (HB.out.trans (hb.mono HB.out.size))
  have HZ1 : Hid (w.heap.size + 1 < w1.heap.size) := Lib.hid (Nat.lt_of_lt_of_le HZ.out hb.size)
  have HRW := Lib.hid hrow
  have hrd := hrow.rd (p := 0) (k := 44) (by rw [hll]; omega)
  rw [piece_all hll] at hrd
  have HRD := Lib.hid hrd
  have HT1 := Lib.hid (HT.out.below hb)
  clear hv hb HA HR HB HZ hll h0 hrow hrd
  go_wp2_with fail
  refine (pmtold _ 44 l w1 HT1.out.siz HRD.out).mono ?_
  rintro e w2 ⟨rfl, hb⟩
  have hb3 := hb.alloc hb.size (.cells (celM (toldM l)).toArray 24)
  have HW3 : Hid (MgW w (w2.alloc (.cells (celM (toldM l)).toArray 24)) g w2.heap.size l (toldM l)) := Lib.hid ⟨HRW.out.below HRW.out.lt hb3, MrkAt.new w2 _, there_below HR1.out HZ1.out hb3, HB1.out.trans (hb3.mono HB1.out.size), Nat.lt_of_lt_of_le HZ1.out hb3.size⟩
  have HI : Hid ((toldM l).fit) := Lib.hid (told_fitM HLL.out)
  have HSZ3 := Lib.hid (HT1.out.below hb3).siz
  clear hb hb3 HRW HR1 HB1 HZ1 HRD HT1
  obtain ⟨y, hy⟩ : ∃ y, toldM l = y := ⟨_, rfl⟩
  have HY := Lib.hid hy
  rw [hy] at HW3 HI HSZ3 HM HD
  rw [hy]
  clear hy
  have HFL := Lib.hid (fullM_length y)
  go_upto_region 5 with (first | (refine wpList_valn rfl (exec_allocM rfl) ?_) | (refine wpList_nuln rfl (exec_fillM rfl rfl rfl) ?_) | fail)
  generalize w2.alloc (.cells (celM y).toArray 24) = w3 at *
  have HS3 := Lib.hid HW3.out.sup
  have HR3 := Lib.hid HW3.out.row
  generalize w2.heap.size = s at *
  refine wp_region_above (B := w3.heap.size) (by kernel_rfl) ?_
  refine qv_val rfl (fun w' hw => exec_mv rfl (ev rfl)) ?_
  simp only [Act.put, List.setIfInBounds_toArray, List.set_cons_succ, List.set_cons_zero]
  refine qv_call rfl (fun _ => exec_cl Tryd.call19 rfl (evc (ev rfl) evn)) (above_of (Nat.le_refl _) fun w' hw => pcount_d n w' HEV.out) ?_
  simp only [Act.put, List.setIfInBounds_toArray, List.set_cons_succ, List.set_cons_zero]
  refine qv_val (v := .bool false) rfl (fun w' hw => exec_not true rfl (ev rfl)) ?_
  simp only [Act.put, List.setIfInBounds_toArray, List.set_cons_succ, List.set_cons_zero]
  refine qv_val (v := .bool false) rfl (fun w' hw => exec_mv rfl (ev rfl)) ?_
  simp only [Act.put, List.setIfInBounds_toArray, List.set_cons_succ, List.set_cons_zero]
  refine qv_val (wanted_of rfl rfl rfl rfl) (fun w' hw => exec_loadM (c := y) rfl (ev rfl) ((HS3.out.below (blk_lt HS3.out) hw).range)) ?_
  simp only [Act.put, List.setIfInBounds_toArray, List.set_cons_succ, List.set_cons_zero]
  refine qv_call (wanted_of rfl rfl rfl rfl) (fun _ => exec_cl Tryd.call9 rfl (evc (ev rfl) evn)) (above_of (Nat.le_refl _) fun w' hw => pmmay_b y w' HM.out) ?_
  simp only [Act.put, List.setIfInBounds_toArray, List.set_cons_succ, List.set_cons_zero]
  refine qv_val (v := .bool false) (wanted_of rfl rfl rfl rfl) (fun w' hw => exec_not true rfl (ev rfl)) ?_
  simp only [Act.put, List.setIfInBounds_toArray, List.set_cons_succ, List.set_cons_zero]
  refine qv_val (v := .bool false) rfl (fun w' hw => exec_pf rfl (ev rfl) (ev rfl)) ?_
  simp only [Act.put, List.setIfInBounds_toArray, List.set_cons_succ, List.set_cons_zero]
  refine qv_val (v := .bool false) rfl (fun w' hw => exec_mv rfl (ev rfl)) ?_
  simp only [Act.put, List.setIfInBounds_toArray, List.set_cons_succ, List.set_cons_zero]
  refine qv_val (wanted_of rfl rfl rfl rfl) (fun w' hw => exec_loadM (c := y) rfl (ev rfl) ((HS3.out.below (blk_lt HS3.out) hw).range)) ?_
  simp only [Act.put, List.setIfInBounds_toArray, List.set_cons_succ, List.set_cons_zero]
  refine qv_call (wanted_of rfl rfl rfl rfl) (fun _ => exec_cl Tryd.call20 rfl (evc (ev rfl) evn)) (above_of (Nat.le_refl _) fun w' hw => pmlaid y w' (HSZ3.out.below hw) HI.out HM.out) ?_
  simp only [Act.put, List.setIfInBounds_toArray, List.set_cons_succ, List.set_cons_zero]
  refine qv_val (wanted_of rfl rfl rfl rfl) (fun w' hw => exec_mv rfl (ev rfl)) ?_
  simp only [Act.put, List.setIfInBounds_toArray, List.set_cons_succ, List.set_cons_zero]
  refine qv_val (wanted_of rfl rfl rfl rfl) (fun w' hw => exec_s2am rfl (ev rfl)) ?_
  simp only [Act.put, List.setIfInBounds_toArray, List.set_cons_succ, List.set_cons_zero]
  refine qv_val (wanted_of rfl rfl rfl rfl) (fun w' hw => exec_load44m HLL.out rfl (ev rfl) (rng_at (HR3.out.below HR3.out.lt hw))) ?_
  simp only [Act.put, List.setIfInBounds_toArray, List.set_cons_succ, List.set_cons_zero]
  refine qv_val (v := .bool true) (wanted_of rfl rfl rfl rfl) (fun w' hw => exec_ne44m false HFL.out HLL.out rfl (ev rfl) (ev rfl) HD.out) ?_
  simp only [Act.put, List.setIfInBounds_toArray, List.set_cons_succ, List.set_cons_zero]
  refine qv_val (v := .bool true) rfl (fun w' hw => exec_pf rfl (ev rfl) (ev rfl)) ?_
  simp only [Act.put, List.setIfInBounds_toArray, List.set_cons_succ, List.set_cons_zero]
  refine wpQuiet_nil ?_
  intro w4 hw
  have HW4 := Lib.hid (HW3.out.keep hw)
  have HR4 := Lib.hid HW4.out.res
  have HB4 := Lib.hid HW4.out.bel
  clear HW3 HS3 HR3 hw
  go_wp2_with (first | (refine wpList_valn rfl (exec_bldM rfl) ?_) | (refine wpList_nuln rfl (exec_putM (c := zeroM) rfl rfl rfl ?_) ?_; (with_reducible exact HR4.out)) | fail)
  refine bodyPost_ret (res_tri (t := 24) (cs := celM zeroM) rfl _ _ _ rfl ?h1 Tryd.underlying24 rfl ?h2) rfl ⟨rfl, ?h3⟩
  case h1 => exact World.rangeAt_setCells_same _ _ _ _ HR4.out
  case h2 => exact sizeM
  case h3 => exact below_setCells HB4.out (Nat.le_succ _) _
set_option maxHeartbeats 2000000 in
theorem pmget_yes (b : Blk) (w : World) (T : TabM w) (h0 : getE b.toList = 0) (hev : evB (getN b.toList) = true) (hm : mrkB (toldM (getB b.toList)) = true) (hd : fullM (toldM (getB b.toList)) = getB b.toList) : Calls Tryd.prog 14 #[blk b] w fun e w' => e = .returned (.tuple #[.int .u64 (getN b.toList : Nat), mrk (toldM (getB b.toList)), .int .i64 (0 : Nat)]) ∧ Below w.heap.size w w' := by
  obtain ⟨n, hn⟩ : ∃ n, getN b.toList = n := ⟨_, rfl⟩
  obtain ⟨l, hl⟩ : ∃ l, getB b.toList = l := ⟨_, rfl⟩
  have h1 := (Below.refl w.heap.size w).alloc (Nat.le_refl _) (.cells (cel b).toArray 26)
  have h2 := h1.alloc h1.size (.cells (celM zeroM).toArray 24)
  have HA : Hid (((w.alloc (.cells (cel b).toArray 26)).alloc (.cells (celM zeroM).toArray 24)).rangeAt w.heap.size 0 (cel b)) := Lib.hid (World.rangeAt_alloc (range_new w (cel b) 26) _)
  have hsn := MrkAt.new (w.alloc (.cells (cel b).toArray 26)) zeroM
  rw [World.size_alloc] at hsn
  have HR := Lib.hid hsn.there
  have HZ := Lib.hid (blk_lt hsn)
  have HB := Lib.hid h2
  have HT := Lib.hid (T.below h2)
  have HN := Lib.hid hn
  have HL := Lib.hid hl
  clear h1 h2 hsn T
  rw [hn] at hev
  rw [hl] at hm hd
  have HEV := Lib.hid hev
  have HM := Lib.hid hm
  have HD : Hid (decide (fullM (toldM l) = l) = true) := Lib.hid (decide_eq_true hd)
  clear hev hm hd
  clear hn hl
  go_enter Tryd.func14, Tryd.ntmps14
  go_wp2_with (first | (refine wpList_valn rfl (exec_box rfl rfl) ?_) | (refine wpList_valn rfl (exec_allocM rfl) ?_) | (refine wpList_valn rfl (exec_load (c := b) rfl rfl ?_) ?_; (with_reducible exact HA.out)) | fail)
  try simp only [World.size_alloc]
  generalize (w.alloc (.cells (cel b).toArray 26)).alloc (.cells (celM zeroM).toArray 24) = w0 at *
  refine (pget_any b _ w0 (Lib.hid rfl) HT.out.tab).mono ?_
  rintro e w1 ⟨v, rfl, hv, hb⟩
  rw [HN.out]
  rw [h0]
  have hll : l.length = 44 := by rw [← HL.out]; exact getB_len h0
  have HLL := Lib.hid hll
  rw [HL.out] at hv
  obtain ⟨g, hve, hrow⟩ : ∃ g, v = .slice (some ⟨g, 0, none⟩) 44 44 ∧ RowL w1 g 5 l := by
    rcases hv with ⟨_, rfl⟩ | ⟨g, e, _, hr, _⟩
    · simp at hll
    · rw [hll] at e; exact ⟨g, e, hr⟩
  subst hve
  have HR1 := Lib.hid (there_below HR.out HZ.out hb)
  have HB1 := Lib.hid (HB.out.trans (hb.mono HB.out.size))
  have HZ1 : Hid (w.heap.size + 1 < w1.heap.size) := Lib.hid (Nat.lt_of_lt_of_le HZ.out hb.size)
  have HRW := Lib.hid hrow
  have hrd := hrow.rd (p := 0) (k := 44) (by rw [hll]; omega)
  rw [piece_all hll] at hrd
  have HRD := Lib.hid hrd
  have HT1 := Lib.hid (HT.out.below hb)
  clear hv hb HA HR HB HZ hll h0 hrow hrd
  go_wp2_with fail
  refine (pmtold _ 44 l w1 HT1.out.siz HRD.out).mono ?_
  rintro e w2 ⟨rfl, hb⟩
  have hb3 := hb.alloc hb.size (.cells (celM (toldM l)).toArray 24)
  have HW3 : Hid (MgW w (w2.alloc (.cells (celM (toldM l)).toArray 24)) g w2.heap.size l (toldM l)) := Lib.hid ⟨HRW.out.below HRW.out.lt hb3, MrkAt.new w2 _, there_below HR1.out HZ1.out hb3, HB1.out.trans (hb3.mono HB1.out.size), Nat.lt_of_lt_of_le HZ1.out hb3.size⟩
  have HI : Hid ((toldM l).fit) := Lib.hid (told_fitM HLL.out)
  have HSZ3 := Lib.hid (HT1.out.below hb3).siz
  clear hb hb3 HRW HR1 HB1 HZ1 HRD HT1
  obtain ⟨y, hy⟩ : ∃ y, toldM l = y := ⟨_, rfl⟩
  have HY := Lib.hid hy
  rw [hy] at HW3 HI HSZ3 HM HD
  rw [hy]
  clear hy
  have HFL := Lib.hid (fullM_length y)
  go_upto_region 5 with (first | (refine wpList_valn rfl (exec_allocM rfl) ?_) | (refine wpList_nuln rfl (exec_fillM rfl rfl rfl) ?_) | fail)
  generalize w2.alloc (.cells (celM y).toArray 24) = w3 at *
  have HS3 := Lib.hid HW3.out.sup
  have HR3 := Lib.hid HW3.out.row
  generalize w2.heap.size = s at *
  refine wp_region_above (B := w3.heap.size) (by kernel_rfl) ?_
  refine qv_val rfl (fun w' hw => exec_mv rfl (ev rfl)) ?_
  simp only [Act.put, List.setIfInBounds_toArray, List.set_cons_succ, List.set_cons_zero]
  refine qv_call rfl (fun _ => exec_cl Tryd.call19 rfl (evc (ev rfl) evn)) (above_of (Nat.le_refl _) fun w' hw => pcount_d n w' HEV.out) ?_
  simp only [Act.put, List.setIfInBounds_toArray, List.set_cons_succ, List.set_cons_zero]
  refine qv_val (v := .bool false) rfl (fun w' hw => exec_not true rfl (ev rfl)) ?_
  simp only [Act.put, List.setIfInBounds_toArray, List.set_cons_succ, List.set_cons_zero]
  refine qv_val (v := .bool false) rfl (fun w' hw => exec_mv rfl (ev rfl)) ?_
  simp only [Act.put, List.setIfInBounds_toArray, List.set_cons_succ, List.set_cons_zero]
  refine qv_val (wanted_of rfl rfl rfl rfl) (fun w' hw => exec_loadM (c := y) rfl (ev rfl) ((HS3.out.below (blk_lt HS3.out) hw).range)) ?_
  simp only [Act.put, List.setIfInBounds_toArray, List.set_cons_succ, List.set_cons_zero]
  refine qv_call (wanted_of rfl rfl rfl rfl) (fun _ => exec_cl Tryd.call9 rfl (evc (ev rfl) evn)) (above_of (Nat.le_refl _) fun w' hw => pmmay_b y w' HM.out) ?_
  simp only [Act.put, List.setIfInBounds_toArray, List.set_cons_succ, List.set_cons_zero]
  refine qv_val (v := .bool false) (wanted_of rfl rfl rfl rfl) (fun w' hw => exec_not true rfl (ev rfl)) ?_
  simp only [Act.put, List.setIfInBounds_toArray, List.set_cons_succ, List.set_cons_zero]
  refine qv_val (v := .bool false) rfl (fun w' hw => exec_pf rfl (ev rfl) (ev rfl)) ?_
  simp only [Act.put, List.setIfInBounds_toArray, List.set_cons_succ, List.set_cons_zero]
  refine qv_val (v := .bool false) rfl (fun w' hw => exec_mv rfl (ev rfl)) ?_
  simp only [Act.put, List.setIfInBounds_toArray, List.set_cons_succ, List.set_cons_zero]
  refine qv_val (wanted_of rfl rfl rfl rfl) (fun w' hw => exec_loadM (c := y) rfl (ev rfl) ((HS3.out.below (blk_lt HS3.out) hw).range)) ?_
  simp only [Act.put, List.setIfInBounds_toArray, List.set_cons_succ, List.set_cons_zero]
  refine qv_call (wanted_of rfl rfl rfl rfl) (fun _ => exec_cl Tryd.call20 rfl (evc (ev rfl) evn)) (above_of (Nat.le_refl _) fun w' hw => pmlaid y w' (HSZ3.out.below hw) HI.out HM.out) ?_
  simp only [Act.put, List.setIfInBounds_toArray, List.set_cons_succ, List.set_cons_zero]
  refine qv_val (wanted_of rfl rfl rfl rfl) (fun w' hw => exec_mv rfl (ev rfl)) ?_
  simp only [Act.put, List.setIfInBounds_toArray, List.set_cons_succ, List.set_cons_zero]
  refine qv_val (wanted_of rfl rfl rfl rfl) (fun w' hw => exec_s2am rfl (ev rfl)) ?_
  simp only [Act.put, List.setIfInBounds_toArray, List.set_cons_succ, List.set_cons_zero]
  refine qv_val (wanted_of rfl rfl rfl rfl) (fun w' hw => exec_load44m HLL.out rfl (ev rfl) (rng_at (HR3.out.below HR3.out.lt hw))) ?_
  simp only [Act.put, List.setIfInBounds_toArray, List.set_cons_succ, List.set_cons_zero]
  refine qv_val (v := .bool false) (wanted_of rfl rfl rfl rfl) (fun w' hw => exec_ne44m true HFL.out HLL.out rfl (ev rfl) (ev rfl) HD.out) ?_
  simp only [Act.put, List.setIfInBounds_toArray, List.set_cons_succ, List.set_cons_zero]
  refine qv_val (v := .bool false) rfl (fun w' hw => exec_pf rfl (ev rfl) (ev rfl)) ?_
  simp only [Act.put, List.setIfInBounds_toArray, List.set_cons_succ, List.set_cons_zero]
  refine wpQuiet_nil ?_
  intro w4 hw
  have HW4 := Lib.hid (HW3.out.keep hw)
  have HR4 := Lib.hid HW4.out.res
  have HB4 := Lib.hid HW4.out.bel
  have HLD := Lib.hid HW4.out.sup.range
  clear HW3 HS3 HR3 hw
  go_wp2_with fail
  refine wp_region_still_tail 3 (by kernel_rfl) (by kernel_rfl) ?_
  simp only [List.take_succ_cons, List.take_zero, List.drop_succ_cons, List.drop_zero]
  refine st_val rfl (exec_mv rfl (ev rfl)) ?_
  simp only [Act.put, List.setIfInBounds_toArray, List.set_cons_succ, List.set_cons_zero]
  refine st_val rfl (exec_loadM (c := y) rfl (ev rfl) HLD.out) ?_
  simp only [Act.put, List.setIfInBounds_toArray, List.set_cons_succ, List.set_cons_zero]
  refine st_val rfl (exec_as rfl (ev rfl)) ?_
  simp only [Act.put, List.setIfInBounds_toArray, List.set_cons_succ, List.set_cons_zero]
  refine wpStill_nil ?_
  change wpList _ _ _ _ _ (World.drew _)
  refine wpList_nul rfl (exec_putM (c := y) rfl (ev rfl) (ev rfl) HR4.out) ?_
  simp only [Act.put, List.setIfInBounds_toArray, List.set_cons_succ, List.set_cons_zero]
  refine wpList_val rfl (exec_as rfl evk) ?_
  simp only [Act.put, List.setIfInBounds_toArray, List.set_cons_succ, List.set_cons_zero]
  refine wpList_nil ?_
  go_wp2_with fail
  refine bodyPost_ret (res_tri (t := 24) (cs := celM y) rfl _ _ _ rfl ?h1 Tryd.underlying24 rfl ?h2) rfl ⟨by rw [HN.out, HL.out, HY.out]; rfl, ?h3⟩
  case h1 => exact World.rangeAt_setCells_same _ _ _ _ HR4.out
  case h2 => exact sizeM
  case h3 => exact below_setCells (bd HB4.out) (Nat.le_succ _) _
theorem pmget (b : Blk) (w : World) (T : TabM w) : Calls Tryd.prog 14 #[blk b] w fun e w' => e = .returned (.tuple #[.int .u64 (codM.gN b : Nat), mrk (codM.gX b).m, .int .i64 (codM.gE b : Nat)]) ∧ Below w.heap.size w w' := by
  by_cases h0 : getE b.toList = 0
  · by_cases hev : evB (getN b.toList) = true
    · by_cases hm : mrkB (toldM (getB b.toList)) = true
      · by_cases hd : fullM (toldM (getB b.toList)) = getB b.toList
        · have hE := codM.gE_ok h0 (codM.good_iff.2 ⟨by show (evB (getN b.toList) && mrkB (toldM (getB b.toList))) = true; rw [hev, hm]; rfl, hd⟩)
          rw [codM.gN_of hE, codM.gX_of hE, hE]
          exact pmget_yes b w T h0 hev hm hd
        · have hE := codM.gE_form h0 (fun h => hd (codM.good_iff.1 h).2)
          rw [codM.gN_no (by omega), codM.gX_no (by omega), hE]
          exact pmget_un b w T h0 hev hm hd
      · have hE := codM.gE_form h0 (fun h => hm (by have this : (evB (getN b.toList) && mrkB (toldM (getB b.toList))) = true := (codM.good_iff.1 h).1; rw [Bool.and_eq_true] at this; exact this.2))
        rw [codM.gN_no (by omega), codM.gX_no (by omega), hE]
        exact pmget_may b w T h0 hev (by simpa using hm)
    · have hE := codM.gE_form h0 (fun h => hev (by have this : (evB (getN b.toList) && mrkB (toldM (getB b.toList))) = true := (codM.good_iff.1 h).1; rw [Bool.and_eq_true] at this; exact this.1))
      rw [codM.gN_no (by omega), codM.gX_no (by omega), hE]
      exact pmget_ev b w T h0 (by simpa using hev)
  · have hE := codM.gE_seal h0
    rw [codM.gN_no (by omega), codM.gX_no (by omega), hE]
    exact pmget_seal b w T h0
end Go.Proofs.YtmdpbnolgbfaeaaDoor
