import Derived.Test.YtcafafdimcecpaaGreatDoorLcar
import Derived.Test.YtcafafdimcecpaaGreatDoorLcaq
import Derived.Test.YtcafafdimcecpaaGreatDoorLcak
import Derived.Test.YtcafafdimcecpaaGreatDoorLcab
import Derived.Test.YtcafafdimcecpaaGreatDoorLcap
import Derived.Test.YtcafafdimcecpaaGreatDoorLcZ
namespace Go.Proofs.YtcafafdimcecpaaGreatDoor
open Go.RowKit
set_option linter.unusedVariables false
set_option linter.unusedSimpArgs false
set_option maxRecDepth 100000
theorem res_two {fn : Func} {q u : Tmp} {t : TypeId} {cs : List Value} {d : TypeDesc} (h : fn.results = #[.cell q t, .tmp u]) (tmps : Array Value) (w : World) (b : Nat) (hq : tmps.getD q undef = .pointer (some ⟨b, 0, none⟩)) (hr : w.rangeAt b 0 cs) (hu : Tryz.prog.underlying t = some d) (hd : d.isRow = true) (hz : (Tryz.prog.info? t).map (·.size) = some cs.length) :
    (results fn tmps).run Tryz.prog w = .ok (.tuple #[.agg cs.toArray, tmps.getD u undef]) w := by
  have hl : (loadVar t ⟨b, 0, none⟩).run Tryz.prog w = .ok (.agg cs.toArray) w := run_loadVar_mid (P := Tryz.prog) w b 0 t cs d hr hu hd hz
  have hq' : tmps[q]?.getD undef = .pointer (some ⟨b, 0, none⟩) := by simpa using hq
  simp [results, h, hq', asAddr, hl]
set_option maxHeartbeats 1000000 in
theorem pntput (x : Nte) (w : World) (T : TabNt w) (hf : x.fit) :
    Calls Tryz.prog 129 #[nte x] w fun e w' => e = .returned (.tuple #[blk (aT.pB x), .int .i64 (aT.pE x : Nat)]) ∧ Below w.heap.size w w' := by
  obtain ⟨h1, h2, h3⟩ := dr w x
  have HS := Lib.hid (h1.past (.cells (cel al).toArray 65))
  have HB := Lib.hid (h2.alloc h2.size (.cells (cel al).toArray 65))
  have HT := Lib.hid T
  have HI := Lib.hid hf
  have HR : Hid (((w.alloc (.cells (aS x).toArray 70)).alloc (.cells (cel al).toArray 65)).there (w.heap.size + 1) 0 64) := Lib.hid (by
    have := db (w.alloc (.cells (aS x).toArray 70)) al 65
    rwa [World.size_alloc] at this)
  have HZ : Hid (w.heap.size + 1 < ((w.alloc (.cells (aS x).toArray 70)).alloc (.cells (cel al).toArray 65)).heap.size) := Lib.hid (by simp only [World.size_alloc]; omega)
  clear h1 h2 h3 T hf
  go_enter Tryz.func129, Tryz.ntmps129
  go_wp2_with (first | (refine ag rfl (cI rfl rfl) ?_) | (refine ag rfl (aK rfl) ?_) | (refine ag rfl (aZ (c := x) rfl rfl ?_) ?_; (with_reducible exact HS.out.range)) | fail)
  try simp only [World.size_alloc]
  generalize (w.alloc (.cells (aS x).toArray 70)).alloc (.cells (cel al).toArray 65) = w1 at *
  refine (pntmay x w1).mono ?_
  rintro e w2 ⟨rfl, hb⟩
  have HS2 := Lib.hid (HS.out.below (aV HS.out) hb)
  have HB2 := Lib.hid (HB.out.trans (hb.mono HB.out.size))
  have HR2 := Lib.hid (aL HR.out HZ.out hb)
  have HZ2 : Hid (w.heap.size + 1 < w2.heap.size) := Lib.hid (by have := hb.size; have := HZ.out; omega)
  clear hb HS HB HR HZ
  by_cases hm : nteB x = true
  · rw [hm]
    have HM := Lib.hid hm
    clear hm
    go_wp2_with (first | (refine ag rfl (aZ (c := x) rfl rfl ?_) ?_; (with_reducible exact HS2.out.range)) | fail)
    refine (pntlaid x w2 (HT.out.below HB2.out).siz HI.out HM.out).mono ?_
    rintro e w3 ⟨rfl, hb⟩
    have hb3 := HB2.out.trans (hb.mono HB2.out.size)
    have HB3 := Lib.hid (hb3.alloc hb3.size (.cells (vals (cg x)).toArray 194))
    have HR3 := Lib.hid (aL HR2.out HZ2.out (hb.alloc hb.size (.cells (vals (cg x)).toArray 194)))
    have hrd := (bF.new w3 (cg x) 194).rd (p := 0) (k := 44) (by rw [dl]; omega)
    rw [dD (dl x)] at hrd
    have HRD := Lib.hid hrd
    have HFL := Lib.hid (dl x)
    have HS3 := Lib.hid (HS2.out.below (aV HS2.out) (hb.alloc hb.size (.cells (vals (cg x)).toArray 194)))
    have HZ3 : Hid (w.heap.size + 1 < (w3.alloc (.cells (vals (cg x)).toArray 194)).heap.size) := Lib.hid (by have := hb.size; have := HZ2.out; simp only [World.size_alloc]; omega)
    clear hb hb3 hrd HS2 HB2 HR2 HZ2
    go_upto_region 4 with (first | (refine ag rfl (fN rfl) ?_) | (refine aB rfl (exec_fill44n (l := cg x) HFL.out rfl rfl rfl) ?_) | fail)
    generalize hw4 : w3.alloc (.cells (vals (cg x)).toArray 194) = w4 at *
    refine bx (fun _ => True) 7 (by kernel_rfl) ?_
    change cm _ _ _ _ _ _ 8 _ _ w4.drew
    refine ap 0 rfl (by kernel_rfl) (by kernel_rfl) (by kernel_rfl) (by decide) (by kernel_rfl) rfl (fun w' hw => ak rfl (ev rfl) faNt0) (fun _ _ _ h => h) trivial ?_
    simp only [Act.put, aa, ae, af]
    refine ap 2 rfl (by kernel_rfl) (by kernel_rfl) (by kernel_rfl) (by decide) (by kernel_rfl) rfl (fun w' hw => exec_all44n rfl (ev rfl)) (fun _ _ _ h => h) trivial ?_
    simp only [Act.put, aa, ae, af]
    refine bl 1 rfl (by kernel_rfl) rfl (av (w := w4.drew) rfl (ev rfl) (bR HS3.out.cells.1)) (fun _ => trivial) ?_
    simp only [Act.put, aa, ae, af]
    refine dd 3 rfl (by kernel_rfl) rfl (au Tryz.call164 rfl (evc (ev rfl) (evc (ev rfl) evn))) ?_
    refine (put_all x.seq 44 44 _ _ (cg x) w4.drew (HT.out.below (bd HB3.out)).tab HI.out.1 HRD.out (Nat.le_refl _) (by unfold maxLen; omega)).mono ?_
    rintro e w5 ⟨rfl, hb⟩
    rw [show putB x.seq (cg x) = putB x.seq (eG x) from aT.putB_full x.seq x, show putE x.seq (cg x) = putE x.seq (eG x) from aT.putE_full x.seq x, show putE x.seq (eG x) = 0 from aT.body_putE x (by have := of_nteB HM.out; omega)]
    have HR5 := Lib.hid (aL (w := w4.drew) HR3.out HZ3.out hb)
    have HB5 := Lib.hid ((bd HB3.out).trans (hb.mono HB3.out.size))
    have HPB : Hid (aT.pB x = putB x.seq (eG x)) := Lib.hid (aT.pB_ok HM.out)
    have HPE := Lib.hid (aT.pE_ok HM.out)
    clear hb hw4 HRD HR3 HZ3 HB3
    generalize putB x.seq (eG x) = pb at *
    refine ⟨_, rfl, fun _ => trivial, ?_⟩
    simp only [Act.put, aa, ae, af]
    refine ap 4 rfl (by kernel_rfl) (by kernel_rfl) (by kernel_rfl) (by decide) (by kernel_rfl) rfl (fun w' hw => aC rfl (ev rfl) rfl) (fun _ _ _ h => h) trivial ?_
    simp only [Act.put, aa, ae, af]
    refine ap 5 rfl (by kernel_rfl) (by kernel_rfl) (by kernel_rfl) (by decide) (by kernel_rfl) rfl (fun w' hw => aC rfl (ev rfl) rfl) (fun _ _ _ h => h) trivial ?_
    simp only [Act.put, aa, ae, af]
    refine ey 6 rfl (by kernel_rfl) rfl (aH (c := pb) rfl (ev rfl) (ev rfl) HR5.out) (fun _ => trivial) ?_
    simp only [Act.put]
    refine bl 7 rfl (by kernel_rfl) rfl (aq rfl (ev rfl)) (fun _ => trivial) ?_
    simp only [Act.put, aa, ae, af]
    refine b8 (by kernel_rfl) ?_ _
    go_wp2_with fail
    refine bodyPost_ret (bN rfl _ _ _ rfl (World.rangeAt_setCells_same _ _ _ _ (by rw [ax]; exact HR5.out))) rfl ⟨by rw [HPB.out, HPE.out]; rfl, below_setCells HB5.out (Nat.le_succ _) _⟩
  · have hm' : nteB x = false := by simpa using hm
    have hmay : ¬ aT.may x = true := hm
    have HPB := Lib.hid (aT.pB_no hmay)
    have HPE := Lib.hid (aT.pE_no hmay)
    rw [hm']
    clear hm hm' hmay
    go_wp2_with (first | (refine ag rfl (bU (c := al) (parts := []) rfl rfl) ?_) | (refine aB rfl (aH (c := al) rfl rfl rfl ?_) ?_; (with_reducible exact HR2.out)) | fail)
    refine bodyPost_ret (bN rfl _ _ _ rfl (World.rangeAt_setCells_same _ _ _ _ (by rw [ax]; exact HR2.out))) rfl ⟨by rw [HPB.out, HPE.out]; rfl, below_setCells HB2.out (Nat.le_succ _) _⟩
structure NgW (w w3 : World) (g s : Nat) (l : List UInt8) (y : Nte) : Prop where
  row : bF w3 g 5 l
  sup : bT w3 s y
  res : w3.there (w.heap.size + 1) 0 4
  bel : Below w.heap.size w w3
  lt : w.heap.size + 1 < w3.heap.size
theorem NgW.keep {w w3 w4 : World} {g s : Nat} {l : List UInt8} {y : Nte} (h : NgW w w3 g s l y) (hb : Below w3.heap.size w3 w4) : NgW w w4 g s l y :=
  ⟨h.row.below h.row.lt hb, h.sup.below (aV h.sup) hb, aL h.res h.lt hb, h.bel.trans (hb.mono h.bel.size), Nat.lt_of_lt_of_le h.lt hb.size⟩
set_option maxHeartbeats 1000000 in
theorem pntget_seal (b : Blk) (w : World) (T : TabNt w) (h : da b.toList ≠ 0) : Calls Tryz.prog 135 #[blk b] w fun e w' => e = .returned (.tuple #[nte aG, .int .i64 (da b.toList : Nat)]) ∧ Below w.heap.size w w' := by
  obtain ⟨n, hn⟩ : ∃ n, dt b.toList = n := ⟨_, rfl⟩
  obtain ⟨l, hl⟩ : ∃ l, cR b.toList = l := ⟨_, rfl⟩
  have hn64 : n < 18446744073709551616 := by rw [← hn]; exact getN_lt64 b
  have HN64 := Lib.hid hn64
  have h1 := (Below.refl w.heap.size w).alloc (Nat.le_refl _) (.cells (cel b).toArray 65)
  have h2 := h1.alloc h1.size (.cells (aS aG).toArray 70)
  have HA : Hid (((w.alloc (.cells (cel b).toArray 65)).alloc (.cells (aS aG).toArray 70)).rangeAt w.heap.size 0 (cel b)) := Lib.hid (World.rangeAt_alloc (b7 w (cel b) 65) _)
  have hsn := bT.new (w.alloc (.cells (cel b).toArray 65)) aG
  rw [World.size_alloc] at hsn
  have HR := Lib.hid hsn.there
  have HZ := Lib.hid (aV hsn)
  have HB := Lib.hid h2
  have HT := Lib.hid (T.below h2)
  have HN := Lib.hid hn
  have HL := Lib.hid hl
  clear h1 h2 hsn T hn64
  obtain ⟨E, hE⟩ : ∃ E, da b.toList = E := ⟨_, rfl⟩
  rw [hE] at h
  have HE := Lib.hid hE
  have hne : ((E : Int) != 0) = true := by simp; omega
  clear hE hn hl
  go_enter Tryz.func135, Tryz.ntmps135
  go_wp2_with (first | (refine ag rfl (bD rfl rfl) ?_) | (refine ag rfl (ci rfl) ?_) | (refine ag rfl (aJ (c := b) rfl rfl ?_) ?_; (with_reducible exact HA.out)) | fail)
  try simp only [World.size_alloc]
  generalize (w.alloc (.cells (cel b).toArray 65)).alloc (.cells (aS aG).toArray 70) = w0 at *
  refine (eF b _ w0 (Lib.hid rfl) HT.out.tab).mono ?_
  rintro e w1 ⟨v, rfl, hv, hb⟩
  rw [HN.out]
  rw [HE.out]
  have HR1 := Lib.hid (aL HR.out HZ.out hb)
  have HB1 := Lib.hid (HB.out.trans (hb.mono HB.out.size))
  clear hv hb HA HR HB
  go_wp2_with (first | (refine ag rfl (exec_bldNt rfl) ?_) | (refine aB rfl (fI (c := aG) rfl rfl rfl ?_) ?_; (with_reducible exact HR1.out)) | fail)
  refine bodyPost_ret (res_two (t := 70) (cs := aS aG) rfl _ _ _ rfl ?h1 Tryz.underlying70 rfl ?h2) rfl ⟨by rw [HE.out]; rfl, ?h3⟩
  case h1 => exact World.rangeAt_setCells_same _ _ _ _ HR1.out
  case h2 => exact sizeNt
  case h3 => exact below_setCells HB1.out (Nat.le_succ _) _
set_option maxHeartbeats 2000000 in
theorem pntget_may (b : Blk) (w : World) (T : TabNt w) (h0 : da b.toList = 0) (hm : nteB (cd (dt b.toList) (cR b.toList)) = false) : Calls Tryz.prog 135 #[blk b] w fun e w' => e = .returned (.tuple #[nte aG, .int .i64 (5 : Nat)]) ∧ Below w.heap.size w w' := by
  obtain ⟨n, hn⟩ : ∃ n, dt b.toList = n := ⟨_, rfl⟩
  obtain ⟨l, hl⟩ : ∃ l, cR b.toList = l := ⟨_, rfl⟩
  have hn64 : n < 18446744073709551616 := by rw [← hn]; exact getN_lt64 b
  have HN64 := Lib.hid hn64
  have h1 := (Below.refl w.heap.size w).alloc (Nat.le_refl _) (.cells (cel b).toArray 65)
  have h2 := h1.alloc h1.size (.cells (aS aG).toArray 70)
  have HA : Hid (((w.alloc (.cells (cel b).toArray 65)).alloc (.cells (aS aG).toArray 70)).rangeAt w.heap.size 0 (cel b)) := Lib.hid (World.rangeAt_alloc (b7 w (cel b) 65) _)
  have hsn := bT.new (w.alloc (.cells (cel b).toArray 65)) aG
  rw [World.size_alloc] at hsn
  have HR := Lib.hid hsn.there
  have HZ := Lib.hid (aV hsn)
  have HB := Lib.hid h2
  have HT := Lib.hid (T.below h2)
  have HN := Lib.hid hn
  have HL := Lib.hid hl
  clear h1 h2 hsn T hn64
  rw [hn, hl] at hm
  have HM := Lib.hid hm
  clear hm
  clear hn hl
  go_enter Tryz.func135, Tryz.ntmps135
  go_wp2_with (first | (refine ag rfl (bD rfl rfl) ?_) | (refine ag rfl (ci rfl) ?_) | (refine ag rfl (aJ (c := b) rfl rfl ?_) ?_; (with_reducible exact HA.out)) | fail)
  try simp only [World.size_alloc]
  generalize (w.alloc (.cells (cel b).toArray 65)).alloc (.cells (aS aG).toArray 70) = w0 at *
  refine (eF b _ w0 (Lib.hid rfl) HT.out.tab).mono ?_
  rintro e w1 ⟨v, rfl, hv, hb⟩
  rw [HN.out]
  rw [h0]
  have hll : l.length = 44 := by rw [← HL.out]; exact fi h0
  have HLL := Lib.hid hll
  rw [HL.out] at hv
  obtain ⟨g, hve, hrow⟩ : ∃ g, v = .slice (some ⟨g, 0, none⟩) 44 44 ∧ bF w1 g 5 l := by
    rcases hv with ⟨_, rfl⟩ | ⟨g, e, _, hr, _⟩
    · simp at hll
    · rw [hll] at e; exact ⟨g, e, hr⟩
  subst hve
  have HR1 := Lib.hid (aL HR.out HZ.out hb)
  have HB1 := Lib.hid (HB.out.trans (hb.mono HB.out.size))
  have HZ1 : Hid (w.heap.size + 1 < w1.heap.size) := Lib.hid (Nat.lt_of_lt_of_le HZ.out hb.size)
  have HRW := Lib.hid hrow
  have hrd := hrow.rd (p := 0) (k := 44) (by rw [hll]; omega)
  rw [dD hll] at hrd
  have HRD := Lib.hid hrd
  have HT1 := Lib.hid (HT.out.below hb)
  clear hv hb HA HR HB HZ hll h0 hrow hrd
  go_wp2_with fail
  refine (pnttold n _ 44 l w1 HT1.out.siz HRD.out).mono ?_
  rintro e w2 ⟨rfl, hb⟩
  have hb3 := hb.alloc hb.size (.cells (aS (cd n l)).toArray 70)
  have HW3 : Hid (NgW w (w2.alloc (.cells (aS (cd n l)).toArray 70)) g w2.heap.size l (cd n l)) := Lib.hid ⟨HRW.out.below HRW.out.lt hb3, bT.new w2 _, aL HR1.out HZ1.out hb3, HB1.out.trans (hb3.mono HB1.out.size), Nat.lt_of_lt_of_le HZ1.out hb3.size⟩
  have HI : Hid ((cd n l).fit) := Lib.hid (told_fitNt HN64.out HLL.out)
  have HSZ3 := Lib.hid (HT1.out.below hb3).siz
  clear hb hb3 HRW HR1 HB1 HZ1 HRD HT1
  obtain ⟨y, hy⟩ : ∃ y, cd n l = y := ⟨_, rfl⟩
  have HY := Lib.hid hy
  rw [hy] at HW3 HI HSZ3 HM
  rw [hy]
  clear hy
  have HFL := Lib.hid (dl y)
  go_upto_region 5 with (first | (refine ag rfl (ci rfl) ?_) | (refine aB rfl (dK rfl rfl rfl) ?_) | fail)
  generalize w2.alloc (.cells (aS y).toArray 70) = w3 at *
  have HS3 := Lib.hid HW3.out.sup
  have HR3 := Lib.hid HW3.out.row
  generalize w2.heap.size = s at *
  refine aE (B := w3.heap.size) (by kernel_rfl) ?_
  refine am rfl (fun w' hw => aZ (c := y) rfl (ev rfl) ((HS3.out.below (aV HS3.out) hw).range)) ?_
  simp only [Act.put, aa, ae, af]
  refine a9 rfl (fun _ => au Tryz.call173 rfl (evc (ev rfl) evn)) (aU (Nat.le_refl _) fun w' hw => pntmay_b y w' HM.out) ?_
  simp only [Act.put, aa, ae, af]
  refine am (v := .bool true) rfl (fun w' hw => aX false rfl (ev rfl)) ?_
  simp only [Act.put, aa, ae, af]
  refine fp 6 (v := .bool true) rfl (fun w' hw => ah rfl (ev rfl)) (by kernel_rfl) ?_
  simp only [bc, List.take_succ_cons, List.take_zero, List.drop_succ_cons, List.drop_zero, Act.put, List.setIfInBounds_toArray, List.set_cons_succ, List.set_cons_zero]
  refine am (v := .bool true) rfl (fun w' hw => aM rfl (ev rfl) evk) ?_
  simp only [Act.put, aa, ae, af]
  refine wpQuiet_nil ?_
  intro w4 hw
  have HW4 := Lib.hid (HW3.out.keep hw)
  have HR4 := Lib.hid HW4.out.res
  have HB4 := Lib.hid HW4.out.bel
  clear HW3 HS3 HR3 hw
  go_wp2_with (first | (refine ag rfl (exec_bldNt rfl) ?_) | (refine aB rfl (fI (c := aG) rfl rfl rfl ?_) ?_; (with_reducible exact HR4.out)) | fail)
  refine bodyPost_ret (res_two (t := 70) (cs := aS aG) rfl _ _ _ rfl ?h1 Tryz.underlying70 rfl ?h2) rfl ⟨rfl, ?h3⟩
  case h1 => exact World.rangeAt_setCells_same _ _ _ _ HR4.out
  case h2 => exact sizeNt
  case h3 => exact below_setCells HB4.out (Nat.le_succ _) _
set_option maxHeartbeats 2000000 in
theorem pntget_un (b : Blk) (w : World) (T : TabNt w) (h0 : da b.toList = 0) (hm : nteB (cd (dt b.toList) (cR b.toList)) = true) (hd : cg (cd (dt b.toList) (cR b.toList)) ≠ cR b.toList) : Calls Tryz.prog 135 #[blk b] w fun e w' => e = .returned (.tuple #[nte aG, .int .i64 (5 : Nat)]) ∧ Below w.heap.size w w' := by
  obtain ⟨n, hn⟩ : ∃ n, dt b.toList = n := ⟨_, rfl⟩
  obtain ⟨l, hl⟩ : ∃ l, cR b.toList = l := ⟨_, rfl⟩
  have hn64 : n < 18446744073709551616 := by rw [← hn]; exact getN_lt64 b
  have HN64 := Lib.hid hn64
  have h1 := (Below.refl w.heap.size w).alloc (Nat.le_refl _) (.cells (cel b).toArray 65)
  have h2 := h1.alloc h1.size (.cells (aS aG).toArray 70)
  have HA : Hid (((w.alloc (.cells (cel b).toArray 65)).alloc (.cells (aS aG).toArray 70)).rangeAt w.heap.size 0 (cel b)) := Lib.hid (World.rangeAt_alloc (b7 w (cel b) 65) _)
  have hsn := bT.new (w.alloc (.cells (cel b).toArray 65)) aG
  rw [World.size_alloc] at hsn
  have HR := Lib.hid hsn.there
  have HZ := Lib.hid (aV hsn)
  have HB := Lib.hid h2
  have HT := Lib.hid (T.below h2)
  have HN := Lib.hid hn
  have HL := Lib.hid hl
  clear h1 h2 hsn T hn64
  rw [hn, hl] at hm hd
  have HM := Lib.hid hm
  have HD : Hid (decide (cg (cd n l) = l) = false) := Lib.hid (decide_eq_false hd)
  clear hm hd
  clear hn hl
  go_enter Tryz.func135, Tryz.ntmps135
  go_wp2_with (first | (refine ag rfl (bD rfl rfl) ?_) | (refine ag rfl (ci rfl) ?_) | (refine ag rfl (aJ (c := b) rfl rfl ?_) ?_; (with_reducible exact HA.out)) | fail)
  try simp only [World.size_alloc]
  generalize (w.alloc (.cells (cel b).toArray 65)).alloc (.cells (aS aG).toArray 70) = w0 at *
  refine (eF b _ w0 (Lib.hid rfl) HT.out.tab).mono ?_
  rintro e w1 ⟨v, rfl, hv, hb⟩
  rw [HN.out]
  rw [h0]
  have hll : l.length = 44 := by rw [← HL.out]; exact fi h0
  have HLL := Lib.hid hll
  rw [HL.out] at hv
  obtain ⟨g, hve, hrow⟩ : ∃ g, v = .slice (some ⟨g, 0, none⟩) 44 44 ∧ bF w1 g 5 l := by
    rcases hv with ⟨_, rfl⟩ | ⟨g, e, _, hr, _⟩
    · simp at hll
    · rw [hll] at e; exact ⟨g, e, hr⟩
  subst hve
  have HR1 := Lib.hid (aL HR.out HZ.out hb)
  have HB1 := Lib.hid (HB.out.trans (hb.mono HB.out.size))
  have HZ1 : Hid (w.heap.size + 1 < w1.heap.size) := Lib.hid (Nat.lt_of_lt_of_le HZ.out hb.size)
  have HRW := Lib.hid hrow
  have hrd := hrow.rd (p := 0) (k := 44) (by rw [hll]; omega)
  rw [dD hll] at hrd
  have HRD := Lib.hid hrd
  have HT1 := Lib.hid (HT.out.below hb)
  clear hv hb HA HR HB HZ hll h0 hrow hrd
  go_wp2_with fail
  refine (pnttold n _ 44 l w1 HT1.out.siz HRD.out).mono ?_
  rintro e w2 ⟨rfl, hb⟩
  have hb3 := hb.alloc hb.size (.cells (aS (cd n l)).toArray 70)
  have HW3 : Hid (NgW w (w2.alloc (.cells (aS (cd n l)).toArray 70)) g w2.heap.size l (cd n l)) := Lib.hid ⟨HRW.out.below HRW.out.lt hb3, bT.new w2 _, aL HR1.out HZ1.out hb3, HB1.out.trans (hb3.mono HB1.out.size), Nat.lt_of_lt_of_le HZ1.out hb3.size⟩
  have HI : Hid ((cd n l).fit) := Lib.hid (told_fitNt HN64.out HLL.out)
  have HSZ3 := Lib.hid (HT1.out.below hb3).siz
  clear hb hb3 HRW HR1 HB1 HZ1 HRD HT1
  obtain ⟨y, hy⟩ : ∃ y, cd n l = y := ⟨_, rfl⟩
  have HY := Lib.hid hy
  rw [hy] at HW3 HI HSZ3 HM HD
  rw [hy]
  clear hy
  have HFL := Lib.hid (dl y)
  go_upto_region 5 with (first | (refine ag rfl (ci rfl) ?_) | (refine aB rfl (dK rfl rfl rfl) ?_) | fail)
  generalize w2.alloc (.cells (aS y).toArray 70) = w3 at *
  have HS3 := Lib.hid HW3.out.sup
  have HR3 := Lib.hid HW3.out.row
  generalize w2.heap.size = s at *
  refine aE (B := w3.heap.size) (by kernel_rfl) ?_
  refine am rfl (fun w' hw => aZ (c := y) rfl (ev rfl) ((HS3.out.below (aV HS3.out) hw).range)) ?_
  simp only [Act.put, aa, ae, af]
  refine a9 rfl (fun _ => au Tryz.call173 rfl (evc (ev rfl) evn)) (aU (Nat.le_refl _) fun w' hw => pntmay_b y w' HM.out) ?_
  simp only [Act.put, aa, ae, af]
  refine am (v := .bool false) rfl (fun w' hw => aX true rfl (ev rfl)) ?_
  simp only [Act.put, aa, ae, af]
  refine am (v := .bool false) rfl (fun w' hw => ah rfl (ev rfl)) ?_
  simp only [Act.put, aa, ae, af]
  refine am (aj rfl rfl rfl rfl) (fun w' hw => aZ (c := y) rfl (ev rfl) ((HS3.out.below (aV HS3.out) hw).range)) ?_
  simp only [Act.put, aa, ae, af]
  refine a9 (aj rfl rfl rfl rfl) (fun _ => au Tryz.call174 rfl (evc (ev rfl) evn)) (aU (Nat.le_refl _) fun w' hw => pntlaid y w' (HSZ3.out.below hw) HI.out HM.out) ?_
  simp only [Act.put, aa, ae, af]
  refine am (aj rfl rfl rfl rfl) (fun w' hw => ah rfl (ev rfl)) ?_
  simp only [Act.put, aa, ae, af]
  refine am (aj rfl rfl rfl rfl) (fun w' hw => exec_s2an rfl (ev rfl)) ?_
  simp only [Act.put, aa, ae, af]
  refine am (aj rfl rfl rfl rfl) (fun w' hw => exec_load44n HLL.out rfl (ev rfl) (d7 (HR3.out.below HR3.out.lt hw))) ?_
  simp only [Act.put, aa, ae, af]
  refine am (v := .bool true) (aj rfl rfl rfl rfl) (fun w' hw => exec_ne44n false HFL.out HLL.out rfl (ev rfl) (ev rfl) HD.out) ?_
  simp only [Act.put, aa, ae, af]
  refine am (v := .bool true) rfl (fun w' hw => aN rfl (ev rfl) (ev rfl)) ?_
  simp only [Act.put, aa, ae, af]
  refine wpQuiet_nil ?_
  intro w4 hw
  have HW4 := Lib.hid (HW3.out.keep hw)
  have HR4 := Lib.hid HW4.out.res
  have HB4 := Lib.hid HW4.out.bel
  clear HW3 HS3 HR3 hw
  go_wp2_with (first | (refine ag rfl (exec_bldNt rfl) ?_) | (refine aB rfl (fI (c := aG) rfl rfl rfl ?_) ?_; (with_reducible exact HR4.out)) | fail)
  refine bodyPost_ret (res_two (t := 70) (cs := aS aG) rfl _ _ _ rfl ?h1 Tryz.underlying70 rfl ?h2) rfl ⟨rfl, ?h3⟩
  case h1 => exact World.rangeAt_setCells_same _ _ _ _ HR4.out
  case h2 => exact sizeNt
  case h3 => exact below_setCells HB4.out (Nat.le_succ _) _
set_option maxHeartbeats 2000000 in
theorem pntget_yes (b : Blk) (w : World) (T : TabNt w) (h0 : da b.toList = 0) (hm : nteB (cd (dt b.toList) (cR b.toList)) = true) (hd : cg (cd (dt b.toList) (cR b.toList)) = cR b.toList) : Calls Tryz.prog 135 #[blk b] w fun e w' => e = .returned (.tuple #[nte (cd (dt b.toList) (cR b.toList)), .int .i64 (0 : Nat)]) ∧ Below w.heap.size w w' := by
  obtain ⟨n, hn⟩ : ∃ n, dt b.toList = n := ⟨_, rfl⟩
  obtain ⟨l, hl⟩ : ∃ l, cR b.toList = l := ⟨_, rfl⟩
  have hn64 : n < 18446744073709551616 := by rw [← hn]; exact getN_lt64 b
  have HN64 := Lib.hid hn64
  have h1 := (Below.refl w.heap.size w).alloc (Nat.le_refl _) (.cells (cel b).toArray 65)
  have h2 := h1.alloc h1.size (.cells (aS aG).toArray 70)
  have HA : Hid (((w.alloc (.cells (cel b).toArray 65)).alloc (.cells (aS aG).toArray 70)).rangeAt w.heap.size 0 (cel b)) := Lib.hid (World.rangeAt_alloc (b7 w (cel b) 65) _)
  have hsn := bT.new (w.alloc (.cells (cel b).toArray 65)) aG
  rw [World.size_alloc] at hsn
  have HR := Lib.hid hsn.there
  have HZ := Lib.hid (aV hsn)
  have HB := Lib.hid h2
  have HT := Lib.hid (T.below h2)
  have HN := Lib.hid hn
  have HL := Lib.hid hl
  clear h1 h2 hsn T hn64
  rw [hn, hl] at hm hd
  have HM := Lib.hid hm
  have HD : Hid (decide (cg (cd n l) = l) = true) := Lib.hid (decide_eq_true hd)
  clear hm hd
  clear hn hl
  go_enter Tryz.func135, Tryz.ntmps135
  go_wp2_with (first | (refine ag rfl (bD rfl rfl) ?_) | (refine ag rfl (ci rfl) ?_) | (refine ag rfl (aJ (c := b) rfl rfl ?_) ?_; (with_reducible exact HA.out)) | fail)
  try simp only [World.size_alloc]
  generalize (w.alloc (.cells (cel b).toArray 65)).alloc (.cells (aS aG).toArray 70) = w0 at *
  refine (eF b _ w0 (Lib.hid rfl) HT.out.tab).mono ?_
  rintro e w1 ⟨v, rfl, hv, hb⟩
  rw [HN.out]
  rw [h0]
  have hll : l.length = 44 := by rw [← HL.out]; exact fi h0
  have HLL := Lib.hid hll
  rw [HL.out] at hv
  obtain ⟨g, hve, hrow⟩ : ∃ g, v = .slice (some ⟨g, 0, none⟩) 44 44 ∧ bF w1 g 5 l := by
    rcases hv with ⟨_, rfl⟩ | ⟨g, e, _, hr, _⟩
    · simp at hll
    · rw [hll] at e; exact ⟨g, e, hr⟩
  subst hve
  have HR1 := Lib.hid (aL HR.out HZ.out hb)
  have HB1 := Lib.hid (HB.out.trans (hb.mono HB.out.size))
  have HZ1 : Hid (w.heap.size + 1 < w1.heap.size) := Lib.hid (Nat.lt_of_lt_of_le HZ.out hb.size)
  have HRW := Lib.hid hrow
  have hrd := hrow.rd (p := 0) (k := 44) (by rw [hll]; omega)
  rw [dD hll] at hrd
  have HRD := Lib.hid hrd
  have HT1 := Lib.hid (HT.out.below hb)
  clear hv hb HA HR HB HZ hll h0 hrow hrd
  go_wp2_with fail
  refine (pnttold n _ 44 l w1 HT1.out.siz HRD.out).mono ?_
  rintro e w2 ⟨rfl, hb⟩
  have hb3 := hb.alloc hb.size (.cells (aS (cd n l)).toArray 70)
  have HW3 : Hid (NgW w (w2.alloc (.cells (aS (cd n l)).toArray 70)) g w2.heap.size l (cd n l)) := Lib.hid ⟨HRW.out.below HRW.out.lt hb3, bT.new w2 _, aL HR1.out HZ1.out hb3, HB1.out.trans (hb3.mono HB1.out.size), Nat.lt_of_lt_of_le HZ1.out hb3.size⟩
  have HI : Hid ((cd n l).fit) := Lib.hid (told_fitNt HN64.out HLL.out)
  have HSZ3 := Lib.hid (HT1.out.below hb3).siz
  clear hb hb3 HRW HR1 HB1 HZ1 HRD HT1
  obtain ⟨y, hy⟩ : ∃ y, cd n l = y := ⟨_, rfl⟩
  have HY := Lib.hid hy
  rw [hy] at HW3 HI HSZ3 HM HD
  rw [hy]
  clear hy
  have HFL := Lib.hid (dl y)
  go_upto_region 5 with (first | (refine ag rfl (ci rfl) ?_) | (refine aB rfl (dK rfl rfl rfl) ?_) | fail)
  generalize w2.alloc (.cells (aS y).toArray 70) = w3 at *
  have HS3 := Lib.hid HW3.out.sup
  have HR3 := Lib.hid HW3.out.row
  generalize w2.heap.size = s at *
  refine aE (B := w3.heap.size) (by kernel_rfl) ?_
  refine am rfl (fun w' hw => aZ (c := y) rfl (ev rfl) ((HS3.out.below (aV HS3.out) hw).range)) ?_
  simp only [Act.put, aa, ae, af]
  refine a9 rfl (fun _ => au Tryz.call173 rfl (evc (ev rfl) evn)) (aU (Nat.le_refl _) fun w' hw => pntmay_b y w' HM.out) ?_
  simp only [Act.put, aa, ae, af]
  refine am (v := .bool false) rfl (fun w' hw => aX true rfl (ev rfl)) ?_
  simp only [Act.put, aa, ae, af]
  refine am (v := .bool false) rfl (fun w' hw => ah rfl (ev rfl)) ?_
  simp only [Act.put, aa, ae, af]
  refine am (aj rfl rfl rfl rfl) (fun w' hw => aZ (c := y) rfl (ev rfl) ((HS3.out.below (aV HS3.out) hw).range)) ?_
  simp only [Act.put, aa, ae, af]
  refine a9 (aj rfl rfl rfl rfl) (fun _ => au Tryz.call174 rfl (evc (ev rfl) evn)) (aU (Nat.le_refl _) fun w' hw => pntlaid y w' (HSZ3.out.below hw) HI.out HM.out) ?_
  simp only [Act.put, aa, ae, af]
  refine am (aj rfl rfl rfl rfl) (fun w' hw => ah rfl (ev rfl)) ?_
  simp only [Act.put, aa, ae, af]
  refine am (aj rfl rfl rfl rfl) (fun w' hw => exec_s2an rfl (ev rfl)) ?_
  simp only [Act.put, aa, ae, af]
  refine am (aj rfl rfl rfl rfl) (fun w' hw => exec_load44n HLL.out rfl (ev rfl) (d7 (HR3.out.below HR3.out.lt hw))) ?_
  simp only [Act.put, aa, ae, af]
  refine am (v := .bool false) (aj rfl rfl rfl rfl) (fun w' hw => exec_ne44n true HFL.out HLL.out rfl (ev rfl) (ev rfl) HD.out) ?_
  simp only [Act.put, aa, ae, af]
  refine am (v := .bool false) rfl (fun w' hw => aN rfl (ev rfl) (ev rfl)) ?_
  simp only [Act.put, aa, ae, af]
  refine wpQuiet_nil ?_
  intro w4 hw
  have HW4 := Lib.hid (HW3.out.keep hw)
  have HR4 := Lib.hid HW4.out.res
  have HB4 := Lib.hid HW4.out.bel
  have HLD := Lib.hid HW4.out.sup.range
  clear HW3 HS3 HR3 hw
  go_wp2_with (first | (refine ag rfl (aZ (c := y) rfl rfl ?_) ?_; (with_reducible exact HLD.out)) | (refine aB rfl (fI (c := y) rfl rfl rfl ?_) ?_; (with_reducible exact HR4.out)) | fail)
  refine bodyPost_ret (res_two (t := 70) (cs := aS y) rfl _ _ _ rfl ?h1 Tryz.underlying70 rfl ?h2) rfl ⟨by rw [HN.out, HL.out, HY.out]; rfl, ?h3⟩
  case h1 => exact World.rangeAt_setCells_same _ _ _ _ HR4.out
  case h2 => exact sizeNt
  case h3 => exact below_setCells HB4.out (Nat.le_succ _) _
theorem pntget (b : Blk) (w : World) (T : TabNt w) : Calls Tryz.prog 135 #[blk b] w fun e w' => e = .returned (.tuple #[nte (aT.gX b), .int .i64 (aT.gE b : Nat)]) ∧ Below w.heap.size w w' := by
  by_cases h0 : da b.toList = 0
  · by_cases hm : nteB (cd (dt b.toList) (cR b.toList)) = true
    · by_cases hd : cg (cd (dt b.toList) (cR b.toList)) = cR b.toList
      · have hE := aT.gE_ok h0 (aT.ex.2 ⟨hm, hd⟩)
        rw [aT.gX_of hE, hE]
        exact pntget_yes b w T h0 hm hd
      · have hE := aT.gE_form h0 (fun h => hd (aT.ex.1 h).2)
        rw [aT.gX_no (by omega), hE]
        exact pntget_un b w T h0 hm hd
    · have hE := aT.gE_form h0 (fun h => hm (aT.ex.1 h).1)
      rw [aT.gX_no (by omega), hE]
      exact pntget_may b w T h0 (by simpa using hm)
  · have hE := aT.gE_seal h0
    rw [aT.gX_no (by omega), hE]
    exact pntget_seal b w T h0
def PtrAt (w : World) (a p : Nat) : Prop := w.heap[a]? = some (.cells #[ptr p] 29 (0, 0))
def IntAt (w : World) (a : Nat) (n : Int) : Prop := w.heap[a]? = some (.cells #[.int .i64 n] 3 (0, 0))
def U64At (w : World) (a n : Nat) : Prop := w.heap[a]? = some (.cells #[.int .u64 (n : Int)] 35 (0, 0))
def cU (w : World) (a : Nat) (x : Blk) : Prop := w.heap[a]? = some (.cells (cel x).toArray 65 (0, 0))
theorem PtrAt.cell {w : World} {a p : Nat} (h : PtrAt w a p) : w.cell? ⟨a, 0, none⟩ = some (.pointer (some ⟨p, 0, none⟩)) := cell_of_row w a 0 _ _ _ h
theorem IntAt.cell {w : World} {a : Nat} {n : Int} (h : IntAt w a n) : w.cell? ⟨a, 0, none⟩ = some (.int .i64 n) := cell_of_row w a 0 _ _ _ h
theorem U64At.cell {w : World} {a n : Nat} (h : U64At w a n) : w.cell? ⟨a, 0, none⟩ = some (.int .u64 (n : Int)) := cell_of_row w a 0 _ _ _ h
theorem cU.range {w : World} {a : Nat} {x : Blk} (h : cU w a x) : w.rangeAt a 0 (cel x) := d7 h
inductive StpAt (K : Nat → Prop) (w : World) (p : Nat) : Fv → Stp → Prop
  | fl : StpAt K w p ⟨61, [ptr p], [], Tryz.call61⟩ .fl
  | wr (a b c : Nat) (n : Int) (x : Blk) (ha : PtrAt w a p) (hb : IntAt w b n) (hc : cU w c x) (ka : K a) (kb : K b) (kc : K c) :
      StpAt K w p ⟨172, [], [ptr a, ptr b, ptr c], Tryz.call172⟩ (.wr n x)
  | mk (a b c : Nat) (n : Nat) (m : Mrk) (ha : U64At w a n) (hb : bG w b m) (hc : PtrAt w c p) (ka : K a) (kb : K b) (kc : K c) (hn : n < 18446744073709551616) (hf : m.fit) (he : aR.pE ⟨n, m⟩ = 0) :
      StpAt K w p ⟨116, [], [ptr a, ptr b, ptr c], Tryz.call116⟩ (.wr (ef n) (aR.pB ⟨n, m⟩))
  | nt (a b : Nat) (y : Nte) (ha : bT w a y) (hb : PtrAt w b p) (ka : K a) (kb : K b) (hf : y.fit) (he : aT.pE y = 0) :
      StpAt K w p ⟨128, [], [ptr a, ptr b], Tryz.call128⟩ (.wr (cz y.seq) (aT.pB y))
theorem StpAt.keep_ {K K' : Nat → Prop} {w w' : World} {p : Nat} {s : Fv} {t : Stp} (h : StpAt K w p s t) (hk : ∀ b, K b → w'.heap[b]? = w.heap[b]?) (hK : ∀ b, K b → K' b) : StpAt K' w' p s t := by
  cases h with
  | fl => exact .fl
  | wr a b c n x ha hb hc ka kb kc => exact .wr a b c n x ((hk a ka).trans ha) ((hk b kb).trans hb) ((hk c kc).trans hc) (hK _ ka) (hK _ kb) (hK _ kc)
  | mk a b c n m ha hb hc ka kb kc hn hf he => exact .mk a b c n m ((hk a ka).trans ha) ((hk b kb).trans hb) ((hk c kc).trans hc) (hK _ ka) (hK _ kb) (hK _ kc) hn hf he
  | nt a b y ha hb ka kb hf he => exact .nt a b y ((hk a ka).trans ha) ((hk b kb).trans hb) (hK _ ka) (hK _ kb) hf he
def Btw (B C b : Nat) : Prop := B ≤ b ∧ b < C
theorem StpAt.below {B C B' C' : Nat} {w w' : World} {p : Nat} {s : Fv} {t : Stp} (h : StpAt (Btw B C) w p s t) (hC : C ≤ w.heap.size) (hb : Below w.heap.size w w') (h1 : B' ≤ B) (h2 : C ≤ C') : StpAt (Btw B' C') w' p s t :=
  h.keep_ (fun b hb' => hb.block b (Nat.lt_of_lt_of_le hb'.2 hC)) fun b hb' => ⟨Nat.le_trans h1 hb'.1, Nat.lt_of_lt_of_le hb'.2 h2⟩
def Stps (K : Nat → Prop) (w : World) (p : Nat) : List Fv → List Stp → Prop
  | [], [] => True
  | s :: l, t :: ts => StpAt K w p s t ∧ Stps K w p l ts
  | _, _ => False
theorem Stps.append {K : Nat → Prop} {w : World} {p : Nat} : ∀ {l : List Fv} {ts : List Stp} {l' : List Fv} {ts' : List Stp}, Stps K w p l ts → Stps K w p l' ts' → Stps K w p (l ++ l') (ts ++ ts')
  | [], [], _, _, _, h => h
  | _ :: _, _ :: _, _, _, h, h' => ⟨h.1, h.2.append h'⟩
theorem Stps.keep_ {K K' : Nat → Prop} {w w' : World} {p : Nat} (hk : ∀ b, K b → w'.heap[b]? = w.heap[b]?) (hK : ∀ b, K b → K' b) : ∀ {l : List Fv} {ts : List Stp}, Stps K w p l ts → Stps K' w' p l ts
  | [], [], _ => trivial
  | _ :: _, _ :: _, h => ⟨h.1.keep_ hk hK, Stps.keep_ hk hK h.2⟩
theorem Stps.below {B C B' C' : Nat} {w w' : World} {p : Nat} {l : List Fv} {ts : List Stp} (h : Stps (Btw B C) w p l ts) (hC : C ≤ w.heap.size) (hb : Below w.heap.size w w') (h1 : B' ≤ B) (h2 : C ≤ C') : Stps (Btw B' C') w' p l ts :=
  h.keep_ (fun b hb' => hb.block b (Nat.lt_of_lt_of_le hb'.2 hC)) fun b hb' => ⟨Nat.le_trans h1 hb'.1, Nat.lt_of_lt_of_le hb'.2 h2⟩
theorem Stps.len {K : Nat → Prop} {w : World} {p : Nat} : ∀ {l : List Fv} {ts : List Stp}, Stps K w p l ts → l.length = ts.length
  | [], [], _ => rfl
  | _ :: _, _ :: _, h => by rw [List.length_cons, List.length_cons, Stps.len h.2]
theorem run_mkFn (fn : Fn) (fs cs : Array Value) (w : World) : (Instr.makeFunc fn fs cs).run Tryz.prog w = .ok (.func fn fs cs) w := rfl
theorem alloc2 (w : World) (o1 o2 : Obj) : Below w.heap.size w ((w.alloc o1).alloc o2) ∧ ((w.alloc o1).alloc o2).heap[w.heap.size]? = some o1 ∧ ((w.alloc o1).alloc o2).heap[w.heap.size + 1]? = some o2 ∧ ((w.alloc o1).alloc o2).heap.size = w.heap.size + 2 := by
  have e1 := World.size_alloc (w := w) (o := o1)
  have e2 := World.size_alloc (w := w.alloc o1) (o := o2)
  have n1 := heap_alloc_new w o1
  have n2 := heap_alloc_new (w.alloc o1) o2
  rw [e1] at n2 e2
  refine ⟨((Below.refl _ w).alloc (Nat.le_refl _) _).alloc (by omega) _, ?_, n2, e2⟩
  have hlt : w.heap.size < (w.alloc o1).heap.size := by omega
  exact (((Below.refl (w.alloc o1).heap.size (w.alloc o1)).alloc (Nat.le_refl _) o2).block _ hlt).trans n1
theorem alloc3 (w : World) (o1 o2 o3 : Obj) : Below w.heap.size w (((w.alloc o1).alloc o2).alloc o3) ∧ (((w.alloc o1).alloc o2).alloc o3).heap[w.heap.size]? = some o1 ∧ (((w.alloc o1).alloc o2).alloc o3).heap[w.heap.size + 1]? = some o2 ∧ (((w.alloc o1).alloc o2).alloc o3).heap[w.heap.size + 1 + 1]? = some o3 ∧ (((w.alloc o1).alloc o2).alloc o3).heap.size = w.heap.size + 3 := by
  obtain ⟨h1, h2, h3, h4⟩ := alloc2 w o1 o2
  have e3 := World.size_alloc (w := (w.alloc o1).alloc o2) (o := o3)
  have n3 := heap_alloc_new ((w.alloc o1).alloc o2) o3
  rw [h4] at n3 e3
  have hb := (Below.refl ((w.alloc o1).alloc o2).heap.size ((w.alloc o1).alloc o2)).alloc (Nat.le_refl _) o3
  exact ⟨h1.alloc h1.size _, (hb.block _ (by omega)).trans h2, (hb.block _ (by omega)).trans h3, n3, e3⟩
section
variable {p : Nat} {w : World}
theorem pwriting (n : Int) (x : Blk) : Calls Tryz.prog 127 #[.pointer (some ⟨p, 0, none⟩), .int .i64 n, blk x] w fun e w' => ∃ s : Fv, e = .returned s.val ∧ StpAt (Btw w.heap.size w'.heap.size) w' p s (.wr n x) ∧ Below w.heap.size w w' := by
  have hmf := run_mkFn
  go_enter Tryz.func127, Tryz.ntmps127
  go_wp2_with (first | (refine ag rfl (bD rfl rfl) ?_) | fail)
  go_ret
  obtain ⟨h1, h2, h3, h4, h5⟩ := alloc3 w (.cells #[ptr p] 29) (.cells #[.int .i64 n] 3) (.cells (cel x).toArray 65)
  exact ⟨⟨172, [], [ptr w.heap.size, ptr (w.heap.size + 1), ptr (w.heap.size + 1 + 1)], Tryz.call172⟩, rfl, .wr _ _ _ n x h2 h3 h4 ⟨Nat.le_refl _, aV h2⟩ ⟨Nat.le_succ _, aV h3⟩ ⟨Nat.le_add_right _ 2, aV h4⟩, h1⟩
theorem pmarking (n : Nat) (m : Mrk) (hn : n < 18446744073709551616) (hf : m.fit) (he : aR.pE ⟨n, m⟩ = 0) : Calls Tryz.prog 60 #[.pointer (some ⟨p, 0, none⟩), .int .u64 (n : Nat), mrk m] w fun e w' => ∃ s : Fv, e = .returned s.val ∧ StpAt (Btw w.heap.size w'.heap.size) w' p s (.wr (ef n) (aR.pB ⟨n, m⟩)) ∧ Below w.heap.size w w' := by
  have hmf := run_mkFn
  have HN := Lib.hid hn
  have HF := Lib.hid hf
  have HE := Lib.hid he
  clear hn hf he
  go_enter Tryz.func60, Tryz.ntmps60
  go_wp2_with (first | (refine ag rfl (exec_boxM rfl rfl) ?_) | fail)
  go_ret
  obtain ⟨h1, h2, h3, h4, h5⟩ := alloc3 w (.cells #[ptr p] 29) (.cells #[.int .u64 (n : Int)] 35) (.cells (bk m).toArray 67)
  exact ⟨⟨116, [], [ptr (w.heap.size + 1), ptr (w.heap.size + 1 + 1), ptr w.heap.size], Tryz.call116⟩, rfl, .mk _ _ _ n m h3 h4 h2 ⟨Nat.le_succ _, aV h3⟩ ⟨Nat.le_add_right _ 2, aV h4⟩ ⟨Nat.le_refl _, aV h2⟩ HN.out HF.out HE.out, h1⟩
theorem pnoting (y : Nte) (hf : y.fit) (he : aT.pE y = 0) : Calls Tryz.prog 68 #[.pointer (some ⟨p, 0, none⟩), nte y] w fun e w' => ∃ s : Fv, e = .returned s.val ∧ StpAt (Btw w.heap.size w'.heap.size) w' p s (.wr (cz y.seq) (aT.pB y)) ∧ Below w.heap.size w w' := by
  have hmf := run_mkFn
  have HF := Lib.hid hf
  have HE := Lib.hid he
  clear hf he
  go_enter Tryz.func68, Tryz.ntmps68
  go_wp2_with (first | (refine ag rfl (cI rfl rfl) ?_) | fail)
  go_ret
  obtain ⟨h1, h2, h3, h4⟩ := alloc2 w (.cells #[ptr p] 29) (.cells (aS y).toArray 70)
  exact ⟨⟨128, [], [ptr (w.heap.size + 1), ptr w.heap.size], Tryz.call128⟩, rfl, .nt _ _ y h3 h2 ⟨Nat.le_succ _, aV h3⟩ ⟨Nat.le_refl _, aV h2⟩ HF.out HE.out, h1⟩
end
section
variable {w0 w : World} {H K : Nat → Prop} {p q : Nat} {v : Value} {M : BenS} {x : LgS}
theorem pflush (hr : Room M 1) (h : PJ w0 H K w p q v M x) : Calls Tryz.prog 61 #[.pointer (some ⟨p, 0, none⟩)] w fun e w' => e = .returned (.int .i64 (flE6 M (x.d : Int))) ∧ PJ w0 H K w' p q v (flS6 M (x.d : Int)) x ∧ kept K w w' := by
  have HJ := Lib.hid h.drew
  have HL := Lib.hid h.drew.log
  have HR := Lib.hid hr
  clear h hr
  go_enter Tryz.func61, Tryz.ntmps61
  go_upto_region 1 with fail
  refine wp_region_still_tail 8 (by kernel_rfl) (by kernel_rfl) ?_
  simp only [List.take_succ_cons, List.take_zero, List.drop_succ_cons, List.drop_zero]
  refine aw rfl (ah rfl (ev rfl)) ?_
  simp only [Act.put, aa, ae, af]
  refine aw rfl (az rfl (ev rfl)) ?_
  simp only [Act.put, aa, ae, af]
  refine aw rfl (ak rfl (ev rfl) faQl0) ?_
  simp only [Act.put, aa, ae, af]
  refine aw rfl (av rfl (ev rfl) (ldQp (PLg.c0 HL.out))) ?_
  simp only [Act.put, aa, ae, af]
  refine aw rfl (ah rfl (ev rfl)) ?_
  simp only [Act.put, aa, ae, af]
  refine aw rfl (az rfl (ev rfl)) ?_
  simp only [Act.put, aa, ae, af]
  refine aw rfl (ak rfl (ev rfl) faQl1) ?_
  simp only [Act.put, aa, ae, af]
  refine aw rfl (av rfl (ev rfl) (bW (PLg.c1 HL.out))) ?_
  simp only [Act.put, aa, ae, af]
  refine wpStill_nil ?_
  change wpList _ _ _ _ _ (World.drew _)
  refine ao rfl (au Tryz.call119 rfl (evc (ev rfl) (evc (ev rfl) evn))) ?_
  refine (PJ.flush (x.d : Int) HR.out HJ.out).mono ?_
  rintro e w1 ⟨rfl, hj, hk⟩
  refine ⟨_, rfl, ?_⟩
  simp only [Act.put, aa, ae, af]
  refine ag rfl (aq rfl (ev rfl)) ?_
  simp only [Act.put, aa, ae, af]
  refine wpList_nil ?_
  go_wp2_with fail
  go_ret
  exact ⟨rfl, hj, hk⟩
theorem pwriting1 {a b c : Nat} (n : Int) (y : Blk) (hr : Room M 1) (h : PJ w0 H K w p q v M x) (ha : PtrAt w a p) (hb : IntAt w b n) (hc : cU w c y) : Calls Tryz.prog 172 #[.pointer (some ⟨a, 0, none⟩), .pointer (some ⟨b, 0, none⟩), .pointer (some ⟨c, 0, none⟩)] w fun e w' => e = .returned (.int .i64 (wrE6 M (x.d : Int) n)) ∧ PJ w0 H K w' p q v (wrS6 M (x.d : Int) n y) x ∧ kept K w w' := by
  have HJ := Lib.hid h.drew
  have HL := Lib.hid h.drew.log
  have HA := Lib.hid (show PtrAt w.drew a p from ha)
  have HB := Lib.hid (show IntAt w.drew b n from hb)
  have HC := Lib.hid (show cU w.drew c y from hc)
  have HR := Lib.hid hr
  clear h hr ha hb hc
  go_enter Tryz.func172, Tryz.ntmps172
  go_upto_region 1 with fail
  refine wp_region_still_tail 10 (by kernel_rfl) (by kernel_rfl) ?_
  simp only [List.take_succ_cons, List.take_zero, List.drop_succ_cons, List.drop_zero]
  refine aw rfl (av rfl (ev rfl) (ldLp HA.out.cell)) ?_
  simp only [Act.put, aa, ae, af]
  refine aw rfl (az rfl (ev rfl)) ?_
  simp only [Act.put, aa, ae, af]
  refine aw rfl (ak rfl (ev rfl) faQl0) ?_
  simp only [Act.put, aa, ae, af]
  refine aw rfl (av rfl (ev rfl) (ldQp (PLg.c0 HL.out))) ?_
  simp only [Act.put, aa, ae, af]
  refine aw rfl (av rfl (ev rfl) (ldLp HA.out.cell)) ?_
  simp only [Act.put, aa, ae, af]
  refine aw rfl (az rfl (ev rfl)) ?_
  simp only [Act.put, aa, ae, af]
  refine aw rfl (ak rfl (ev rfl) faQl1) ?_
  simp only [Act.put, aa, ae, af]
  refine aw rfl (av rfl (ev rfl) (bW (PLg.c1 HL.out))) ?_
  simp only [Act.put, aa, ae, af]
  refine aw rfl (av rfl (ev rfl) (bW HB.out.cell)) ?_
  simp only [Act.put, aa, ae, af]
  refine aw rfl (aJ (c := y) rfl (ev rfl) HC.out.range) ?_
  simp only [Act.put, aa, ae, af]
  refine wpStill_nil ?_
  change wpList _ _ _ _ _ (World.drew _)
  refine ao rfl (au Tryz.call27 rfl (evc (ev rfl) (evc (ev rfl) (evc (ev rfl) (evc (ev rfl) evn))))) ?_
  refine (PJ.write (x.d : Int) n y HR.out HJ.out).mono ?_
  rintro e w1 ⟨rfl, hj, hk⟩
  refine ⟨_, rfl, ?_⟩
  simp only [Act.put, aa, ae, af]
  refine ag rfl (aq rfl (ev rfl)) ?_
  simp only [Act.put, aa, ae, af]
  refine wpList_nil ?_
  go_wp2_with fail
  go_ret
  exact ⟨rfl, hj, hk⟩
set_option maxHeartbeats 1600000 in
theorem pmarking1 {a b c : Nat} (n : Nat) (m : Mrk) (hr : Room M 1) (h : PJ w0 H K w p q v M x) (ha : U64At w a n) (hb : bG w b m) (hc : PtrAt w c p) (ka : K a) (kc : K c) (hn : n < 18446744073709551616) (hf : m.fit) (he : aR.pE ⟨n, m⟩ = 0) : Calls Tryz.prog 116 #[.pointer (some ⟨a, 0, none⟩), .pointer (some ⟨b, 0, none⟩), .pointer (some ⟨c, 0, none⟩)] w fun e w' => e = .returned (.int .i64 (wrE6 M (x.d : Int) (ef n))) ∧ PJ w0 H K w' p q v (wrS6 M (x.d : Int) (ef n) (aR.pB ⟨n, m⟩)) x ∧ kept K w w' := by
  obtain ⟨mb, hmb⟩ : ∃ mb, aR.pB ⟨n, m⟩ = mb := ⟨_, rfl⟩
  have HMB := Lib.hid hmb
  rw [hmb]
  have HJ := Lib.hid h
  have HR := Lib.hid hr
  have HS0 := Lib.hid (Below.refl w.heap.size w)
  have HA := Lib.hid ha
  have HB := Lib.hid hb
  have HC := Lib.hid hc
  have HN := Lib.hid hn
  have HF := Lib.hid hf
  have HE := Lib.hid he
  have HKA := Lib.hid ka
  have HKC := Lib.hid kc
  clear ha hb hc hn hf he ka kc
  clear h hr hmb
  go_enter Tryz.func116, Tryz.ntmps116
  go_upto_region 1 with fail
  refine wp_region_lit ?_
  refine ag rfl (av rfl (ev rfl) (bR HA.out.cell)) ?_
  simp only [Act.put, aa, ae, af]
  refine ag rfl (bC (c := m) rfl (ev rfl) HB.out.range) ?_
  simp only [Act.put, aa, ae, af]
  refine ao rfl (au Tryz.call117 rfl (evc (ev rfl) (evc (ev rfl) evn))) ?_
  refine (pmput n m w HJ.out.tab.m HN.out HF.out).mono ?_
  rintro e w1 ⟨rfl, hb1⟩
  rw [HMB.out, HE.out]
  have HB1 := Lib.hid hb1
  clear hb1
  refine ⟨_, rfl, ?_⟩
  simp only [Act.put, aa, ae, af]
  refine ag rfl (ah rfl (ev rfl)) ?_
  simp only [Act.put, aa, ae, af]
  refine ag rfl (aC rfl (ev rfl) rfl) ?_
  simp only [Act.put, aa, ae, af]
  refine ag rfl (aC rfl (ev rfl) rfl) ?_
  simp only [Act.put, aa, ae, af]
  refine ag rfl (aK rfl) ?_
  simp only [Act.put, aa, ae, af]
  refine aB rfl (fF (c := mb) rfl (ev rfl) (ev rfl)) ?_
  simp only [Act.put, aa, ae, af]
  refine ag rfl (aq rfl (ev rfl)) ?_
  simp only [Act.put, aa, ae, af]
  refine wpList_nil ?_
  have HBN := Lib.hid (HB1.out.alloc HB1.out.size (.cells (cel mb).toArray 65))
  have HBB := Lib.hid (b7 w1 (cel mb) 65)
  have HBL : Hid (w.heap.size ≤ w1.heap.size ∧ w1.heap.size < (w1.alloc (.cells (cel mb).toArray 65)).heap.size) := Lib.hid ⟨HB1.out.size, by rw [World.size_alloc]; omega⟩
  generalize w1.alloc (.cells (cel mb).toArray 65) = w2 at *
  generalize w1.heap.size = bb at *
  have HJ2 := Lib.hid (HJ.out.guard (K' := fun b => K b ∨ b = bb) HBN.out (fun b e => e.elim .inl (fun e => .inr (by rw [e]; exact HBL.out))))
  have HK2 := Lib.hid (HJ.out.kept HBN.out)
  have HA2 : Hid (U64At w2.drew a n) := Lib.hid (bK HA.out (bd HBN.out))
  have HC2 : Hid (PtrAt w2.drew c p) := Lib.hid (bK HC.out (bd HBN.out))
  have hS : PLg w2.drew p q v x ∧ w2.drew.rangeAt bb 0 (cel mb) ∧ U64At w2.drew a n ∧ PtrAt w2.drew c p := ⟨HJ2.out.drew.log, HBB.out, HA2.out, HC2.out⟩
  go_upto_region 4 with fail
  refine bx (fun w' => PLg w' p q v x ∧ w'.rangeAt bb 0 (cel mb) ∧ U64At w' a n ∧ PtrAt w' c p) 12 (by kernel_rfl) ?_
  change cm _ _ _ _ _ _ 13 _ _ w2.drew
  refine ap 0 rfl (by kernel_rfl) (by kernel_rfl) (by kernel_rfl) (by decide) (by kernel_rfl) rfl (fun w' hw => av rfl (ev rfl) (ldLp hw.2.2.2.cell)) (fun _ _ _ h => h) hS ?_
  simp only [Act.put, aa, ae, af]
  refine ap 1 rfl (by kernel_rfl) (by kernel_rfl) (by kernel_rfl) (by decide) (by kernel_rfl) rfl (fun w' hw => az rfl (ev rfl)) (fun _ _ _ h => h) hS ?_
  simp only [Act.put, aa, ae, af]
  refine ap 2 rfl (by kernel_rfl) (by kernel_rfl) (by kernel_rfl) (by decide) (by kernel_rfl) rfl (fun w' hw => ak rfl (ev rfl) faQl0) (fun _ _ _ h => h) hS ?_
  simp only [Act.put, aa, ae, af]
  refine ap 3 rfl (by kernel_rfl) (by kernel_rfl) (by kernel_rfl) (by decide) (by kernel_rfl) rfl (fun w' hw => av rfl (ev rfl) (ldQp (PLg.c0 hw.1))) (fun _ _ _ h => h) hS ?_
  simp only [Act.put, aa, ae, af]
  refine ap 4 rfl (by kernel_rfl) (by kernel_rfl) (by kernel_rfl) (by decide) (by kernel_rfl) rfl (fun w' hw => av rfl (ev rfl) (ldLp hw.2.2.2.cell)) (fun _ _ _ h => h) hS ?_
  simp only [Act.put, aa, ae, af]
  refine ap 5 rfl (by kernel_rfl) (by kernel_rfl) (by kernel_rfl) (by decide) (by kernel_rfl) rfl (fun w' hw => az rfl (ev rfl)) (fun _ _ _ h => h) hS ?_
  simp only [Act.put, aa, ae, af]
  refine ap 6 rfl (by kernel_rfl) (by kernel_rfl) (by kernel_rfl) (by decide) (by kernel_rfl) rfl (fun w' hw => ak rfl (ev rfl) faQl1) (fun _ _ _ h => h) hS ?_
  simp only [Act.put, aa, ae, af]
  refine ap 7 rfl (by kernel_rfl) (by kernel_rfl) (by kernel_rfl) (by decide) (by kernel_rfl) rfl (fun w' hw => av rfl (ev rfl) (bW (PLg.c1 hw.1))) (fun _ _ _ h => h) hS ?_
  simp only [Act.put, aa, ae, af]
  refine ap 8 rfl (by kernel_rfl) (by kernel_rfl) (by kernel_rfl) (by decide) (by kernel_rfl) rfl (fun w' hw => av rfl (ev rfl) (bR hw.2.2.1.cell)) (fun _ _ _ h => h) hS ?_
  simp only [Act.put, aa, ae, af]
  refine ap 10 rfl (by kernel_rfl) (by kernel_rfl) (by kernel_rfl) (by decide) (by kernel_rfl) rfl (fun w' hw => aJ (c := mb) rfl (ev rfl) hw.2.1) (fun _ _ _ h => h) hS ?_
  simp only [Act.put, aa, ae, af]
  refine dd 9 rfl (by kernel_rfl) rfl (au Tryz.call118 rfl (evc (ev rfl) evn)) ?_
  refine (pmslot n w2.drew HN.out).mono ?_
  rintro e w' ⟨rfl, rfl⟩
  refine ⟨_, rfl, fun _ => hS, ?_⟩
  simp only [Act.put, aa, ae, af]
  refine dd 11 rfl (by kernel_rfl) rfl (au Tryz.call27 rfl (evc (ev rfl) (evc (ev rfl) (evc (ev rfl) (evc (ev rfl) evn))))) ?_
  refine (PJ.write (x.d : Int) (ef n) mb HR.out HJ2.out.drew).mono ?_
  rintro e w3 ⟨rfl, hj, hk⟩
  refine ⟨_, rfl, fun _ => ?_, ?_⟩
  · exact ⟨hj.log, rng_kept (hk bb (.inr rfl)) HBB.out, (hk a (.inl HKA.out)).trans HA2.out, (hk c (.inl HKC.out)).trans HC2.out⟩
  simp only [Act.put, aa, ae, af]
  refine bl 12 rfl (by kernel_rfl) rfl (aq rfl (ev rfl)) (fun e => absurd rfl e) ?_
  simp only [Act.put, aa, ae, af]
  refine b8 (by kernel_rfl) ?_ _
  go_wp2_with fail
  go_ret
  exact ⟨rfl, hj.less fun b e => .inl e, HK2.out.trans fun b e => hk b (.inl e)⟩
set_option maxHeartbeats 1600000 in
theorem pnoting1 {a b : Nat} (y : Nte) (hr : Room M 1) (h : PJ w0 H K w p q v M x) (ha : bT w a y) (hb : PtrAt w b p) (ka : K a) (kb : K b) (hf : y.fit) (he : aT.pE y = 0) : Calls Tryz.prog 128 #[.pointer (some ⟨a, 0, none⟩), .pointer (some ⟨b, 0, none⟩)] w fun e w' => e = .returned (.int .i64 (wrE6 M (x.d : Int) (cz y.seq))) ∧ PJ w0 H K w' p q v (wrS6 M (x.d : Int) (cz y.seq) (aT.pB y)) x ∧ kept K w w' := by
  obtain ⟨mb, hmb⟩ : ∃ mb, aT.pB y = mb := ⟨_, rfl⟩
  have HMB := Lib.hid hmb
  rw [hmb]
  have HJ := Lib.hid h
  have HR := Lib.hid hr
  have HS0 := Lib.hid (Below.refl w.heap.size w)
  have HA := Lib.hid ha
  have HC := Lib.hid hb
  have HF := Lib.hid hf
  have HE := Lib.hid he
  have HKA := Lib.hid ka
  have HKC := Lib.hid kb
  have HSQ : Hid (y.seq < 18446744073709551616) := Lib.hid hf.1
  have HAD : Hid (IntKind.i64.wrap (2 + ((y.seq % 8 : Nat) : Int)) = cz y.seq) := Lib.hid (by unfold cz; rw [IntWalk.i64_in _ ⟨by omega, by omega⟩]; omega)
  clear ha hb hf he ka kb
  clear h hr hmb
  go_enter Tryz.func128, Tryz.ntmps128
  go_upto_region 1 with fail
  refine wp_region_lit ?_
  refine ag rfl (aZ (c := y) rfl (ev rfl) HA.out.range) ?_
  simp only [Act.put, aa, ae, af]
  refine ao rfl (au Tryz.call129 rfl (evc (ev rfl) evn)) ?_
  refine (pntput y w HJ.out.tab.n HF.out).mono ?_
  rintro e w1 ⟨rfl, hb1⟩
  rw [HMB.out, HE.out]
  have HB1 := Lib.hid hb1
  clear hb1
  refine ⟨_, rfl, ?_⟩
  simp only [Act.put, aa, ae, af]
  refine ag rfl (ah rfl (ev rfl)) ?_
  simp only [Act.put, aa, ae, af]
  refine ag rfl (aC rfl (ev rfl) rfl) ?_
  simp only [Act.put, aa, ae, af]
  refine ag rfl (aC rfl (ev rfl) rfl) ?_
  simp only [Act.put, aa, ae, af]
  refine ag rfl (aK rfl) ?_
  simp only [Act.put, aa, ae, af]
  refine aB rfl (fF (c := mb) rfl (ev rfl) (ev rfl)) ?_
  simp only [Act.put, aa, ae, af]
  refine ag rfl (aq rfl (ev rfl)) ?_
  simp only [Act.put, aa, ae, af]
  refine wpList_nil ?_
  have HBN := Lib.hid (HB1.out.alloc HB1.out.size (.cells (cel mb).toArray 65))
  have HBB := Lib.hid (b7 w1 (cel mb) 65)
  have HBL : Hid (w.heap.size ≤ w1.heap.size ∧ w1.heap.size < (w1.alloc (.cells (cel mb).toArray 65)).heap.size) := Lib.hid ⟨HB1.out.size, by rw [World.size_alloc]; omega⟩
  generalize w1.alloc (.cells (cel mb).toArray 65) = w2 at *
  generalize w1.heap.size = bb at *
  have HJ2 := Lib.hid (HJ.out.guard (K' := fun b => K b ∨ b = bb) HBN.out (fun b e => e.elim .inl (fun e => .inr (by rw [e]; exact HBL.out))))
  have HK2 := Lib.hid (HJ.out.kept HBN.out)
  have HA2 : Hid (bT w2.drew a y) := Lib.hid (bK HA.out (bd HBN.out))
  have HC2 : Hid (PtrAt w2.drew b p) := Lib.hid (bK HC.out (bd HBN.out))
  have hS : PLg w2.drew p q v x ∧ w2.drew.rangeAt bb 0 (cel mb) ∧ bT w2.drew a y ∧ PtrAt w2.drew b p := ⟨HJ2.out.drew.log, HBB.out, HA2.out, HC2.out⟩
  go_upto_region 4 with fail
  refine bx (fun w' => PLg w' p q v x ∧ w'.rangeAt bb 0 (cel mb) ∧ bT w' a y ∧ PtrAt w' b p) 14 (by kernel_rfl) ?_
  change cm _ _ _ _ _ _ 15 _ _ w2.drew
  refine ap 0 rfl (by kernel_rfl) (by kernel_rfl) (by kernel_rfl) (by decide) (by kernel_rfl) rfl (fun w' hw => av rfl (ev rfl) (ldLp hw.2.2.2.cell)) (fun _ _ _ h => h) hS ?_
  simp only [Act.put, aa, ae, af]
  refine ap 1 rfl (by kernel_rfl) (by kernel_rfl) (by kernel_rfl) (by decide) (by kernel_rfl) rfl (fun w' hw => az rfl (ev rfl)) (fun _ _ _ h => h) hS ?_
  simp only [Act.put, aa, ae, af]
  refine ap 2 rfl (by kernel_rfl) (by kernel_rfl) (by kernel_rfl) (by decide) (by kernel_rfl) rfl (fun w' hw => ak rfl (ev rfl) faQl0) (fun _ _ _ h => h) hS ?_
  simp only [Act.put, aa, ae, af]
  refine ap 3 rfl (by kernel_rfl) (by kernel_rfl) (by kernel_rfl) (by decide) (by kernel_rfl) rfl (fun w' hw => av rfl (ev rfl) (ldQp (PLg.c0 hw.1))) (fun _ _ _ h => h) hS ?_
  simp only [Act.put, aa, ae, af]
  refine ap 4 rfl (by kernel_rfl) (by kernel_rfl) (by kernel_rfl) (by decide) (by kernel_rfl) rfl (fun w' hw => av rfl (ev rfl) (ldLp hw.2.2.2.cell)) (fun _ _ _ h => h) hS ?_
  simp only [Act.put, aa, ae, af]
  refine ap 5 rfl (by kernel_rfl) (by kernel_rfl) (by kernel_rfl) (by decide) (by kernel_rfl) rfl (fun w' hw => az rfl (ev rfl)) (fun _ _ _ h => h) hS ?_
  simp only [Act.put, aa, ae, af]
  refine ap 6 rfl (by kernel_rfl) (by kernel_rfl) (by kernel_rfl) (by decide) (by kernel_rfl) rfl (fun w' hw => ak rfl (ev rfl) faQl1) (fun _ _ _ h => h) hS ?_
  simp only [Act.put, aa, ae, af]
  refine ap 7 rfl (by kernel_rfl) (by kernel_rfl) (by kernel_rfl) (by decide) (by kernel_rfl) rfl (fun w' hw => av rfl (ev rfl) (bW (PLg.c1 hw.1))) (fun _ _ _ h => h) hS ?_
  simp only [Act.put, aa, ae, af]
  refine ap 8 rfl (by kernel_rfl) (by kernel_rfl) (by kernel_rfl) (by decide) (by kernel_rfl) rfl (fun w' hw => ak rfl (ev rfl) faNt0) (fun _ _ _ h => h) hS ?_
  simp only [Act.put, aa, ae, af]
  refine ap 9 rfl (by kernel_rfl) (by kernel_rfl) (by kernel_rfl) (by decide) (by kernel_rfl) rfl (fun w' hw => av rfl (ev rfl) (bR hw.2.2.1.cells.1)) (fun _ _ _ h => h) hS ?_
  simp only [Act.put, aa, ae, af]
  refine ap 12 rfl (by kernel_rfl) (by kernel_rfl) (by kernel_rfl) (by decide) (by kernel_rfl) rfl (fun w' hw => aJ (c := mb) rfl (ev rfl) hw.2.1) (fun _ _ _ h => h) hS ?_
  simp only [Act.put, aa, ae, af]
  refine dd 10 rfl (by kernel_rfl) rfl (au Tryz.call130 rfl (evc (ev rfl) evn)) ?_
  refine (pntslot y.seq w2.drew HSQ.out).mono ?_
  rintro e w' ⟨rfl, rfl⟩
  refine ⟨_, rfl, fun _ => hS, ?_⟩
  simp only [Act.put, aa, ae, af]
  refine ap 11 rfl (by kernel_rfl) (by kernel_rfl) (by kernel_rfl) (by decide) (by kernel_rfl) rfl (fun w' hw => fb rfl evk (ev rfl) HAD.out) (fun _ _ _ h => h) hS ?_
  simp only [Act.put, aa, ae, af]
  refine dd 13 rfl (by kernel_rfl) rfl (au Tryz.call27 rfl (evc (ev rfl) (evc (ev rfl) (evc (ev rfl) (evc (ev rfl) evn))))) ?_
  refine (PJ.write (x.d : Int) (cz y.seq) mb HR.out HJ2.out.drew).mono ?_
  rintro e w3 ⟨rfl, hj, hk⟩
  refine ⟨_, rfl, fun _ => ?_, ?_⟩
  · exact ⟨hj.log, rng_kept (hk bb (.inr rfl)) HBB.out, (hk a (.inl HKA.out)).trans HA2.out, (hk b (.inl HKC.out)).trans HC2.out⟩
  simp only [Act.put, aa, ae, af]
  refine bl 14 rfl (by kernel_rfl) rfl (aq rfl (ev rfl)) (fun e => absurd rfl e) ?_
  simp only [Act.put, aa, ae, af]
  refine b8 (by kernel_rfl) ?_ _
  go_wp2_with fail
  go_ret
  exact ⟨rfl, hj.less fun b e => .inl e, HK2.out.trans fun b e => hk b (.inl e)⟩
theorem StpAt.run {s : Fv} {t : Stp} (hr : Room M 1) (h : PJ w0 H K w p q v M x) (hs : StpAt K w p s t) : Calls Tryz.prog s.f (s.fst ++ s.cap).toArray w fun e w' => e = .returned (.int .i64 (stpE (x.d : Int) M t)) ∧ PJ w0 H K w' p q v (stpS (x.d : Int) M t) x ∧ kept K w w' := by
  cases hs with
  | fl => exact pflush hr h
  | wr a b c n y ha hb hc ka kb kc => exact pwriting1 n y hr h ha hb hc
  | mk a b c n m ha hb hc ka kb kc hn hf he => exact pmarking1 n m hr h ha hb hc ka kc hn hf he
  | nt a b y ha hb ka kb hf he => exact pnoting1 y hr h ha hb ka kb hf he
theorem chn_go {wK : World} {Kr : Nat → Prop} (hKr : ∀ b, Kr b → K b) : ∀ (l : List Fv) (ts : List Stp) {w : World} {M : BenS}, Stps K w p l ts → PJ w0 H K w p q v M x → kept K wK w → Room M ts.length →
    Chn Kr (fun E w' => E = goE (x.d : Int) M ts ∧ PJ w0 H K w' p q v (goB (x.d : Int) M ts) x ∧ kept K wK w') l w
  | [], [], w, M, _, h, hk0, _ => fun w' hb => ⟨rfl, h.below hb, hk0.trans (h.kept hb)⟩
  | s :: l, t :: ts, w, M, hs, h, hk0, hr => fun w1 hb => by
    have h1 := h.below hb
    have hk1 := hk0.trans (h.kept hb)
    have hs1 : Stps K w1 p (s :: l) (t :: ts) := Stps.keep_ (fun b hb' => hb.block b (h.lt hb')) (fun _ e => e) hs
    have hr1 : Room M (ts.length + 1) := hr
    refine (StpAt.run (room_more hr1 (by omega)) h1 hs1.1).mono fun e w2 ⟨he, hj, hk⟩ => ⟨fun b hb' => hk b (hKr b hb'), stpE (x.d : Int) M t, he, ?_⟩
    by_cases h0 : stpE (x.d : Int) M t = 0
    · left
      refine ⟨h0, ?_⟩
      rw [(go_ok h0).1, (go_ok h0).2]
      exact chn_go hKr l ts (Stps.keep_ hk (fun _ e => e) hs1.2) hj (hk1.trans hk) (room_stp hr1 t)
    · right
      refine ⟨h0, fun w3 hb3 => ?_⟩
      rw [(go_no h0).1, (go_no h0).2]
      exact ⟨rfl, hj.below hb3, (hk1.trans hk).trans (hj.kept hb3)⟩
end
end Go.Proofs.YtcafafdimcecpaaGreatDoor
