import Derived.Test.YtcafafdimcecpaaGreatDoorLcap
import Derived.Test.YtcafafdimcecpaaGreatDoorLcaq
import Derived.Test.YtcafafdimcecpaaGreatDoorLcak
import Derived.Test.YtcafafdimcecpaaGreatDoorLcai
import Derived.Test.YtcafafdimcecpaaGreatDoorLcah
import Derived.Test.YtcafafdimcecpaaGreatDoorLcZ
namespace Go.Proofs.YtcafafdimcecpaaGreatDoor
open Go.RowKit
set_option linter.unusedVariables false
set_option linter.unusedSimpArgs false
set_option maxRecDepth 100000
set_option maxHeartbeats 1000000 in
theorem pmput (n : Nat) (x : Mrk) (w : World) (T : TabM w) (hn : n < 18446744073709551616) (hf : x.fit) :
    Calls Tryz.prog 117 #[.int .u64 n, mrk x] w fun e w' => e = .returned (.tuple #[blk (aR.pB ⟨n, x⟩), .int .i64 (aR.pE ⟨n, x⟩ : Nat)]) ∧ Below w.heap.size w w' := by
  obtain ⟨h1, h2, h3⟩ := boxM_new w x
  have HS := Lib.hid (h1.past (.cells (cel al).toArray 65))
  have HB := Lib.hid (h2.alloc h2.size (.cells (cel al).toArray 65))
  have HT := Lib.hid T
  have HN := Lib.hid hn
  have HI := Lib.hid hf
  have HR : Hid (((w.alloc (.cells (bk x).toArray 67)).alloc (.cells (cel al).toArray 65)).there (w.heap.size + 1) 0 64) := Lib.hid (by
    have := db (w.alloc (.cells (bk x).toArray 67)) al 65
    rwa [World.size_alloc] at this)
  have HZ : Hid (w.heap.size + 1 < ((w.alloc (.cells (bk x).toArray 67)).alloc (.cells (cel al).toArray 65)).heap.size) := Lib.hid (by simp only [World.size_alloc]; omega)
  clear h1 h2 h3 T hn hf
  go_enter Tryz.func117, Tryz.ntmps117
  go_wp2_with (first | (refine ag rfl (exec_boxM rfl rfl) ?_) | (refine ag rfl (aK rfl) ?_) | fail)
  try simp only [World.size_alloc]
  generalize (w.alloc (.cells (bk x).toArray 67)).alloc (.cells (cel al).toArray 65) = w1 at *
  refine (pcount n w1).mono ?_
  rintro e w' ⟨rfl, rfl⟩
  by_cases hev : evB n = true
  · rw [hev]
    have HEV := Lib.hid hev
    clear hev
    go_wp2_with (first | (refine ai (by rfl) (bC (c := x) rfl rfl ?_) ?_; (with_reducible exact HS.out.range)) | fail)
    refine (pmmay x w1).mono ?_
    rintro e w2 ⟨rfl, hb⟩
    have HS2 := Lib.hid (HS.out.below (aV HS.out) hb)
    have HB2 := Lib.hid (HB.out.trans (hb.mono HB.out.size))
    have HR2 := Lib.hid (aL HR.out HZ.out hb)
    have HZ2 : Hid (w.heap.size + 1 < w2.heap.size) := Lib.hid (by have := hb.size; have := HZ.out; omega)
    clear hb HS HB HR HZ
    by_cases hm : mrkB x = true
    · rw [hm]
      have HM := Lib.hid hm
      clear hm
      go_wp2_with (first | (refine ag rfl (bC (c := x) rfl rfl ?_) ?_; (with_reducible exact HS2.out.range)) | fail)
      refine (pmlaid x w2 (HT.out.below HB2.out).siz HI.out HM.out).mono ?_
      rintro e w3 ⟨rfl, hb⟩
      have hb3 := HB2.out.trans (hb.mono HB2.out.size)
      have HB3 := Lib.hid (hb3.alloc hb3.size (.cells (vals (cH x)).toArray 187))
      have HR3 := Lib.hid (aL HR2.out HZ2.out (hb.alloc hb.size (.cells (vals (cH x)).toArray 187)))
      have hrd := (bF.new w3 (cH x) 187).rd (p := 0) (k := 44) (by rw [de]; omega)
      rw [dD (de x)] at hrd
      have HRD := Lib.hid hrd
      have HFL := Lib.hid (de x)
      have HZ3 : Hid (w.heap.size + 1 < (w3.alloc (.cells (vals (cH x)).toArray 187)).heap.size) := Lib.hid (by have := hb.size; have := HZ2.out; simp only [World.size_alloc]; omega)
      clear hb hb3 hrd HS2 HB2 HR2 HZ2
      go_wp2_with (first | (refine ag rfl (fK rfl) ?_) | (refine aB rfl (exec_fill44m (l := cH x) HFL.out rfl rfl rfl) ?_) | (refine ag rfl (exec_all44m rfl rfl) ?_) | fail)
      generalize hw4 : w3.alloc (.cells (vals (cH x)).toArray 187) = w4 at *
      refine (put_all n 44 44 _ _ (cH x) w4 (HT.out.below HB3.out).tab HN.out HRD.out (Nat.le_refl _) (by unfold maxLen; omega)).mono ?_
      rintro e w5 ⟨rfl, hb⟩
      rw [show putB n (cH x) = putB n (bodyM x) from aR.putB_full n ⟨n, x⟩, show putE n (cH x) = putE n (bodyM x) from aR.putE_full n ⟨n, x⟩, show putE n (bodyM x) = 0 from aR.body_putE ⟨n, x⟩ (by have := of_evB HEV.out; omega)]
      have HR5 := Lib.hid (aL HR3.out HZ3.out hb)
      have HB5 := Lib.hid (HB3.out.trans (hb.mono HB3.out.size))
      have hmay : aR.may ⟨n, x⟩ = true := by rw [eB, HEV.out, HM.out]; rfl
      have HPB : Hid (aR.pB ⟨n, x⟩ = putB n (bodyM x)) := Lib.hid (aR.pB_ok hmay)
      have HPE := Lib.hid (aR.pE_ok hmay)
      clear hb hw4 HRD HR3 HZ3 HB3 hmay
      generalize putB n (bodyM x) = pb at *
      go_wp2_with (first | (refine aB rfl (aH (c := pb) rfl rfl rfl ?_) ?_; (with_reducible exact HR5.out)) | fail)
      refine bodyPost_ret (bN rfl _ _ _ rfl (World.rangeAt_setCells_same _ _ _ _ (by rw [ax]; exact HR5.out))) rfl ⟨by rw [HPB.out, HPE.out]; rfl, below_setCells HB5.out (Nat.le_succ _) _⟩
    · have hm' : mrkB x = false := by simpa using hm
      have hmay : ¬ aR.may ⟨n, x⟩ = true := by rw [eB, hm', Bool.and_false]; decide
      have HPB := Lib.hid (aR.pB_no hmay)
      have HPE := Lib.hid (aR.pE_no hmay)
      rw [hm']
      clear hm hm' hmay
      go_wp2_with (first | (refine ag rfl (bU (c := al) (parts := []) rfl rfl) ?_) | (refine aB rfl (aH (c := al) rfl rfl rfl ?_) ?_; (with_reducible exact HR2.out)) | fail)
      refine bodyPost_ret (bN rfl _ _ _ rfl (World.rangeAt_setCells_same _ _ _ _ (by rw [ax]; exact HR2.out))) rfl ⟨by rw [HPB.out, HPE.out]; rfl, below_setCells HB2.out (Nat.le_succ _) _⟩
  · have hev' : evB n = false := by simpa using hev
    have hmay : ¬ aR.may ⟨n, x⟩ = true := by rw [eB, hev', Bool.false_and]; decide
    have HPB := Lib.hid (aR.pB_no hmay)
    have HPE := Lib.hid (aR.pE_no hmay)
    rw [hev']
    clear hev hev' hmay
    go_wp2_with (first | (refine ag rfl (bU (c := al) (parts := []) rfl rfl) ?_) | (refine aB rfl (aH (c := al) rfl rfl rfl ?_) ?_; (with_reducible exact HR.out)) | fail)
    refine bodyPost_ret (bN rfl _ _ _ rfl (World.rangeAt_setCells_same _ _ _ _ (by rw [ax]; exact HR.out))) rfl ⟨by rw [HPB.out, HPE.out]; rfl, below_setCells HB.out (Nat.le_succ _) _⟩
structure MgW (w w3 : World) (g s : Nat) (l : List UInt8) (y : Mrk) : Prop where
  row : bF w3 g 5 l
  sup : bG w3 s y
  res : w3.there (w.heap.size + 1) 0 4
  bel : Below w.heap.size w w3
  lt : w.heap.size + 1 < w3.heap.size
theorem MgW.keep {w w3 w4 : World} {g s : Nat} {l : List UInt8} {y : Mrk} (h : MgW w w3 g s l y) (hb : Below w3.heap.size w3 w4) : MgW w w4 g s l y :=
  ⟨h.row.below h.row.lt hb, h.sup.below (aV h.sup) hb, aL h.res h.lt hb, h.bel.trans (hb.mono h.bel.size), Nat.lt_of_lt_of_le h.lt hb.size⟩
set_option maxHeartbeats 1000000 in
theorem pmget_seal (b : Blk) (w : World) (T : TabM w) (h : da b.toList ≠ 0) : Calls Tryz.prog 176 #[blk b] w fun e w' => e = .returned (.tuple #[.int .u64 (0 : Nat), mrk bI, .int .i64 (da b.toList : Nat)]) ∧ Below w.heap.size w w' := by
  obtain ⟨n, hn⟩ : ∃ n, dt b.toList = n := ⟨_, rfl⟩
  obtain ⟨l, hl⟩ : ∃ l, cR b.toList = l := ⟨_, rfl⟩
  have h1 := (Below.refl w.heap.size w).alloc (Nat.le_refl _) (.cells (cel b).toArray 65)
  have h2 := h1.alloc h1.size (.cells (bk bI).toArray 67)
  have HA : Hid (((w.alloc (.cells (cel b).toArray 65)).alloc (.cells (bk bI).toArray 67)).rangeAt w.heap.size 0 (cel b)) := Lib.hid (World.rangeAt_alloc (b7 w (cel b) 65) _)
  have hsn := bG.new (w.alloc (.cells (cel b).toArray 65)) bI
  rw [World.size_alloc] at hsn
  have HR := Lib.hid hsn.there
  have HZ := Lib.hid (aV hsn)
  have HB := Lib.hid h2
  have HT := Lib.hid (T.below h2)
  have HN := Lib.hid hn
  have HL := Lib.hid hl
  clear h1 h2 hsn T
  obtain ⟨E, hE⟩ : ∃ E, da b.toList = E := ⟨_, rfl⟩
  rw [hE] at h
  have HE := Lib.hid hE
  have hne : ((E : Int) != 0) = true := by simp; omega
  clear hE hn hl
  go_enter Tryz.func176, Tryz.ntmps176
  go_wp2_with (first | (refine ag rfl (bD rfl rfl) ?_) | (refine ag rfl (bJ rfl) ?_) | (refine ag rfl (aJ (c := b) rfl rfl ?_) ?_; (with_reducible exact HA.out)) | fail)
  try simp only [World.size_alloc]
  generalize (w.alloc (.cells (cel b).toArray 65)).alloc (.cells (bk bI).toArray 67) = w0 at *
  refine (eF b _ w0 (Lib.hid rfl) HT.out.tab).mono ?_
  rintro e w1 ⟨v, rfl, hv, hb⟩
  rw [HN.out]
  rw [HE.out]
  have HR1 := Lib.hid (aL HR.out HZ.out hb)
  have HB1 := Lib.hid (HB.out.trans (hb.mono HB.out.size))
  clear hv hb HA HR HB
  go_wp2_with (first | (refine ag rfl (exec_bldM rfl) ?_) | (refine aB rfl (cQ (c := bI) rfl rfl rfl ?_) ?_; (with_reducible exact HR1.out)) | fail)
  refine bodyPost_ret (eS (t := 67) (cs := bk bI) rfl _ _ _ rfl ?h1 Tryz.underlying67 rfl ?h2) rfl ⟨by rw [HE.out]; rfl, ?h3⟩
  case h1 => exact World.rangeAt_setCells_same _ _ _ _ HR1.out
  case h2 => exact sizeM
  case h3 => exact below_setCells HB1.out (Nat.le_succ _) _
set_option maxHeartbeats 2000000 in
theorem pmget_ev (b : Blk) (w : World) (T : TabM w) (h0 : da b.toList = 0) (hev : evB (dt b.toList) = false) : Calls Tryz.prog 176 #[blk b] w fun e w' => e = .returned (.tuple #[.int .u64 (0 : Nat), mrk bI, .int .i64 (5 : Nat)]) ∧ Below w.heap.size w w' := by
  obtain ⟨n, hn⟩ : ∃ n, dt b.toList = n := ⟨_, rfl⟩
  obtain ⟨l, hl⟩ : ∃ l, cR b.toList = l := ⟨_, rfl⟩
  have h1 := (Below.refl w.heap.size w).alloc (Nat.le_refl _) (.cells (cel b).toArray 65)
  have h2 := h1.alloc h1.size (.cells (bk bI).toArray 67)
  have HA : Hid (((w.alloc (.cells (cel b).toArray 65)).alloc (.cells (bk bI).toArray 67)).rangeAt w.heap.size 0 (cel b)) := Lib.hid (World.rangeAt_alloc (b7 w (cel b) 65) _)
  have hsn := bG.new (w.alloc (.cells (cel b).toArray 65)) bI
  rw [World.size_alloc] at hsn
  have HR := Lib.hid hsn.there
  have HZ := Lib.hid (aV hsn)
  have HB := Lib.hid h2
  have HT := Lib.hid (T.below h2)
  have HN := Lib.hid hn
  have HL := Lib.hid hl
  clear h1 h2 hsn T
  rw [hn] at hev
  have HEV := Lib.hid hev
  clear hev
  clear hn hl
  go_enter Tryz.func176, Tryz.ntmps176
  go_wp2_with (first | (refine ag rfl (bD rfl rfl) ?_) | (refine ag rfl (bJ rfl) ?_) | (refine ag rfl (aJ (c := b) rfl rfl ?_) ?_; (with_reducible exact HA.out)) | fail)
  try simp only [World.size_alloc]
  generalize (w.alloc (.cells (cel b).toArray 65)).alloc (.cells (bk bI).toArray 67) = w0 at *
  refine (eF b _ w0 (Lib.hid rfl) HT.out.tab).mono ?_
  rintro e w1 ⟨v, rfl, hv, hb⟩
  rw [HN.out]
  rw [h0]
  have hll : l.length = 44 := by rw [← HL.out]; exact fi h0
  have HLL := Lib.hid hll
  rw [HL.out] at hv
  obtain ⟨g, hve, hrow⟩ : ∃ g, v = .slice (some ⟨g, 0, none⟩) 44 44 ∧ bF w1 g 5 l := by
    rcases hv with ⟨_, rfl⟩ | ⟨g, e, _, hr, _⟩
    · simp at hll
    · rw [hll] at e; exact ⟨g, e, hr⟩
  subst hve
  have HR1 := Lib.hid (aL HR.out HZ.out hb)
  have HB1 := Lib.hid (HB.out.trans (hb.mono HB.out.size))
  have HZ1 : Hid (w.heap.size + 1 < w1.heap.size) := Lib.hid (Nat.lt_of_lt_of_le HZ.out hb.size)
  have HRW := Lib.hid hrow
  have hrd := hrow.rd (p := 0) (k := 44) (by rw [hll]; omega)
  rw [dD hll] at hrd
  have HRD := Lib.hid hrd
  have HT1 := Lib.hid (HT.out.below hb)
  clear hv hb HA HR HB HZ hll h0 hrow hrd
  go_wp2_with fail
  refine (pmtold _ 44 l w1 HT1.out.siz HRD.out).mono ?_
  rintro e w2 ⟨rfl, hb⟩
  have hb3 := hb.alloc hb.size (.cells (bk (co l)).toArray 67)
  have HW3 : Hid (MgW w (w2.alloc (.cells (bk (co l)).toArray 67)) g w2.heap.size l (co l)) := Lib.hid ⟨HRW.out.below HRW.out.lt hb3, bG.new w2 _, aL HR1.out HZ1.out hb3, HB1.out.trans (hb3.mono HB1.out.size), Nat.lt_of_lt_of_le HZ1.out hb3.size⟩
  have HI : Hid ((co l).fit) := Lib.hid (told_fitM HLL.out)
  have HSZ3 := Lib.hid (HT1.out.below hb3).siz
  clear hb hb3 HRW HR1 HB1 HZ1 HRD HT1
  obtain ⟨y, hy⟩ : ∃ y, co l = y := ⟨_, rfl⟩
  have HY := Lib.hid hy
  rw [hy] at HW3 HI HSZ3
  rw [hy]
  clear hy
  have HFL := Lib.hid (de y)
  go_upto_region 5 with (first | (refine ag rfl (bJ rfl) ?_) | (refine aB rfl (dj rfl rfl rfl) ?_) | fail)
  generalize w2.alloc (.cells (bk y).toArray 67) = w3 at *
  have HS3 := Lib.hid HW3.out.sup
  have HR3 := Lib.hid HW3.out.row
  generalize w2.heap.size = s at *
  refine aE (B := w3.heap.size) (by kernel_rfl) ?_
  refine am rfl (fun w' hw => ah rfl (ev rfl)) ?_
  simp only [Act.put, aa, ae, af]
  refine a9 rfl (fun _ => au Tryz.call162 rfl (evc (ev rfl) evn)) (aU (Nat.le_refl _) fun w' hw => pcount_d n w' HEV.out) ?_
  simp only [Act.put, aa, ae, af]
  refine am (v := .bool true) rfl (fun w' hw => aX false rfl (ev rfl)) ?_
  simp only [Act.put, aa, ae, af]
  refine fp 3 (v := .bool true) rfl (fun w' hw => ah rfl (ev rfl)) (by kernel_rfl) ?_
  simp only [bc, List.take_succ_cons, List.take_zero, List.drop_succ_cons, List.drop_zero, Act.put, List.setIfInBounds_toArray, List.set_cons_succ, List.set_cons_zero]
  refine am (v := .bool true) rfl (fun w' hw => aM rfl (ev rfl) evk) ?_
  simp only [Act.put, aa, ae, af]
  refine fp 6 (v := .bool true) rfl (fun w' hw => ah rfl (ev rfl)) (by kernel_rfl) ?_
  simp only [bc, List.take_succ_cons, List.take_zero, List.drop_succ_cons, List.drop_zero, Act.put, List.setIfInBounds_toArray, List.set_cons_succ, List.set_cons_zero]
  refine am (v := .bool true) rfl (fun w' hw => aM rfl (ev rfl) evk) ?_
  simp only [Act.put, aa, ae, af]
  refine wpQuiet_nil ?_
  intro w4 hw
  have HW4 := Lib.hid (HW3.out.keep hw)
  have HR4 := Lib.hid HW4.out.res
  have HB4 := Lib.hid HW4.out.bel
  clear HW3 HS3 HR3 hw
  go_wp2_with (first | (refine ag rfl (exec_bldM rfl) ?_) | (refine aB rfl (cQ (c := bI) rfl rfl rfl ?_) ?_; (with_reducible exact HR4.out)) | fail)
  refine bodyPost_ret (eS (t := 67) (cs := bk bI) rfl _ _ _ rfl ?h1 Tryz.underlying67 rfl ?h2) rfl ⟨rfl, ?h3⟩
  case h1 => exact World.rangeAt_setCells_same _ _ _ _ HR4.out
  case h2 => exact sizeM
  case h3 => exact below_setCells HB4.out (Nat.le_succ _) _
set_option maxHeartbeats 2000000 in
theorem pmget_may (b : Blk) (w : World) (T : TabM w) (h0 : da b.toList = 0) (hev : evB (dt b.toList) = true) (hm : mrkB (co (cR b.toList)) = false) : Calls Tryz.prog 176 #[blk b] w fun e w' => e = .returned (.tuple #[.int .u64 (0 : Nat), mrk bI, .int .i64 (5 : Nat)]) ∧ Below w.heap.size w w' := by
  obtain ⟨n, hn⟩ : ∃ n, dt b.toList = n := ⟨_, rfl⟩
  obtain ⟨l, hl⟩ : ∃ l, cR b.toList = l := ⟨_, rfl⟩
  have h1 := (Below.refl w.heap.size w).alloc (Nat.le_refl _) (.cells (cel b).toArray 65)
  have h2 := h1.alloc h1.size (.cells (bk bI).toArray 67)
  have HA : Hid (((w.alloc (.cells (cel b).toArray 65)).alloc (.cells (bk bI).toArray 67)).rangeAt w.heap.size 0 (cel b)) := Lib.hid (World.rangeAt_alloc (b7 w (cel b) 65) _)
  have hsn := bG.new (w.alloc (.cells (cel b).toArray 65)) bI
  rw [World.size_alloc] at hsn
  have HR := Lib.hid hsn.there
  have HZ := Lib.hid (aV hsn)
  have HB := Lib.hid h2
  have HT := Lib.hid (T.below h2)
  have HN := Lib.hid hn
  have HL := Lib.hid hl
  clear h1 h2 hsn T
  rw [hn] at hev
  rw [hl] at hm
  have HEV := Lib.hid hev
  have HM := Lib.hid hm
  clear hev hm
  clear hn hl
  go_enter Tryz.func176, Tryz.ntmps176
  go_wp2_with (first | (refine ag rfl (bD rfl rfl) ?_) | (refine ag rfl (bJ rfl) ?_) | (refine ag rfl (aJ (c := b) rfl rfl ?_) ?_; (with_reducible exact HA.out)) | fail)
  try simp only [World.size_alloc]
  generalize (w.alloc (.cells (cel b).toArray 65)).alloc (.cells (bk bI).toArray 67) = w0 at *
  refine (eF b _ w0 (Lib.hid rfl) HT.out.tab).mono ?_
  rintro e w1 ⟨v, rfl, hv, hb⟩
  rw [HN.out]
  rw [h0]
  have hll : l.length = 44 := by rw [← HL.out]; exact fi h0
  have HLL := Lib.hid hll
  rw [HL.out] at hv
  obtain ⟨g, hve, hrow⟩ : ∃ g, v = .slice (some ⟨g, 0, none⟩) 44 44 ∧ bF w1 g 5 l := by
    rcases hv with ⟨_, rfl⟩ | ⟨g, e, _, hr, _⟩
    · simp at hll
    · rw [hll] at e; exact ⟨g, e, hr⟩
  subst hve
  have HR1 := Lib.hid (aL HR.out HZ.out hb)
  have HB1 := Lib.hid (HB.out.trans (hb.mono HB.out.size))
  have HZ1 : Hid (w.heap.size + 1 < w1.heap.size) := Lib.hid (Nat.lt_of_lt_of_le HZ.out hb.size)
  have HRW := Lib.hid hrow
  have hrd := hrow.rd (p := 0) (k := 44) (by rw [hll]; omega)
  rw [dD hll] at hrd
  have HRD := Lib.hid hrd
  have HT1 := Lib.hid (HT.out.below hb)
  clear hv hb HA HR HB HZ hll h0 hrow hrd
  go_wp2_with fail
  refine (pmtold _ 44 l w1 HT1.out.siz HRD.out).mono ?_
  rintro e w2 ⟨rfl, hb⟩
  have hb3 := hb.alloc hb.size (.cells (bk (co l)).toArray 67)
  have HW3 : Hid (MgW w (w2.alloc (.cells (bk (co l)).toArray 67)) g w2.heap.size l (co l)) := Lib.hid ⟨HRW.out.below HRW.out.lt hb3, bG.new w2 _, aL HR1.out HZ1.out hb3, HB1.out.trans (hb3.mono HB1.out.size), Nat.lt_of_lt_of_le HZ1.out hb3.size⟩
  have HI : Hid ((co l).fit) := Lib.hid (told_fitM HLL.out)
  have HSZ3 := Lib.hid (HT1.out.below hb3).siz
  clear hb hb3 HRW HR1 HB1 HZ1 HRD HT1
  obtain ⟨y, hy⟩ : ∃ y, co l = y := ⟨_, rfl⟩
  have HY := Lib.hid hy
  rw [hy] at HW3 HI HSZ3 HM
  rw [hy]
  clear hy
  have HFL := Lib.hid (de y)
  go_upto_region 5 with (first | (refine ag rfl (bJ rfl) ?_) | (refine aB rfl (dj rfl rfl rfl) ?_) | fail)
  generalize w2.alloc (.cells (bk y).toArray 67) = w3 at *
  have HS3 := Lib.hid HW3.out.sup
  have HR3 := Lib.hid HW3.out.row
  generalize w2.heap.size = s at *
  refine aE (B := w3.heap.size) (by kernel_rfl) ?_
  refine am rfl (fun w' hw => ah rfl (ev rfl)) ?_
  simp only [Act.put, aa, ae, af]
  refine a9 rfl (fun _ => au Tryz.call162 rfl (evc (ev rfl) evn)) (aU (Nat.le_refl _) fun w' hw => pcount_d n w' HEV.out) ?_
  simp only [Act.put, aa, ae, af]
  refine am (v := .bool false) rfl (fun w' hw => aX true rfl (ev rfl)) ?_
  simp only [Act.put, aa, ae, af]
  refine am (v := .bool false) rfl (fun w' hw => ah rfl (ev rfl)) ?_
  simp only [Act.put, aa, ae, af]
  refine am (aj rfl rfl rfl rfl) (fun w' hw => bC (c := y) rfl (ev rfl) ((HS3.out.below (aV HS3.out) hw).range)) ?_
  simp only [Act.put, aa, ae, af]
  refine a9 (aj rfl rfl rfl rfl) (fun _ => au Tryz.call101 rfl (evc (ev rfl) evn)) (aU (Nat.le_refl _) fun w' hw => pmmay_b y w' HM.out) ?_
  simp only [Act.put, aa, ae, af]
  refine am (v := .bool true) (aj rfl rfl rfl rfl) (fun w' hw => aX false rfl (ev rfl)) ?_
  simp only [Act.put, aa, ae, af]
  refine am (v := .bool true) rfl (fun w' hw => aN rfl (ev rfl) (ev rfl)) ?_
  simp only [Act.put, aa, ae, af]
  refine fp 6 (v := .bool true) rfl (fun w' hw => ah rfl (ev rfl)) (by kernel_rfl) ?_
  simp only [bc, List.take_succ_cons, List.take_zero, List.drop_succ_cons, List.drop_zero, Act.put, List.setIfInBounds_toArray, List.set_cons_succ, List.set_cons_zero]
  refine am (v := .bool true) rfl (fun w' hw => aM rfl (ev rfl) evk) ?_
  simp only [Act.put, aa, ae, af]
  refine wpQuiet_nil ?_
  intro w4 hw
  have HW4 := Lib.hid (HW3.out.keep hw)
  have HR4 := Lib.hid HW4.out.res
  have HB4 := Lib.hid HW4.out.bel
  clear HW3 HS3 HR3 hw
  go_wp2_with (first | (refine ag rfl (exec_bldM rfl) ?_) | (refine aB rfl (cQ (c := bI) rfl rfl rfl ?_) ?_; (with_reducible exact HR4.out)) | fail)
  refine bodyPost_ret (eS (t := 67) (cs := bk bI) rfl _ _ _ rfl ?h1 Tryz.underlying67 rfl ?h2) rfl ⟨rfl, ?h3⟩
  case h1 => exact World.rangeAt_setCells_same _ _ _ _ HR4.out
  case h2 => exact sizeM
  case h3 => exact below_setCells HB4.out (Nat.le_succ _) _
set_option maxHeartbeats 2000000 in
theorem pmget_un (b : Blk) (w : World) (T : TabM w) (h0 : da b.toList = 0) (hev : evB (dt b.toList) = true) (hm : mrkB (co (cR b.toList)) = true) (hd : cH (co (cR b.toList)) ≠ cR b.toList) : Calls Tryz.prog 176 #[blk b] w fun e w' => e = .returned (.tuple #[.int .u64 (0 : Nat), mrk bI, .int .i64 (5 : Nat)]) ∧ Below w.heap.size w w' := by
  obtain ⟨n, hn⟩ : ∃ n, dt b.toList = n := ⟨_, rfl⟩
  obtain ⟨l, hl⟩ : ∃ l, cR b.toList = l := ⟨_, rfl⟩
  have h1 := (Below.refl w.heap.size w).alloc (Nat.le_refl _) (.cells (cel b).toArray 65)
  have h2 := h1.alloc h1.size (.cells (bk bI).toArray 67)
  have HA : Hid (((w.alloc (.cells (cel b).toArray 65)).alloc (.cells (bk bI).toArray 67)).rangeAt w.heap.size 0 (cel b)) := Lib.hid (World.rangeAt_alloc (b7 w (cel b) 65) _)
  have hsn := bG.new (w.alloc (.cells (cel b).toArray 65)) bI
  rw [World.size_alloc] at hsn
  have HR := Lib.hid hsn.there
  have HZ := Lib.hid (aV hsn)
  have HB := Lib.hid h2
  have HT := Lib.hid (T.below h2)
  have HN := Lib.hid hn
  have HL := Lib.hid hl
  clear h1 h2 hsn T
  rw [hn] at hev
  rw [hl] at hm hd
  have HEV := Lib.hid hev
  have HM := Lib.hid hm
  have HD : Hid (decide (cH (co l) = l) = false) := Lib.hid (decide_eq_false hd)
  clear hev hm hd
  clear hn hl
  go_enter Tryz.func176, Tryz.ntmps176
  go_wp2_with (first | (refine ag rfl (bD rfl rfl) ?_) | (refine ag rfl (bJ rfl) ?_) | (refine ag rfl (aJ (c := b) rfl rfl ?_) ?_; (with_reducible exact HA.out)) | fail)
  try simp only [World.size_alloc]
  generalize (w.alloc (.cells (cel b).toArray 65)).alloc (.cells (bk bI).toArray 67) = w0 at *
  refine (eF b _ w0 (Lib.hid rfl) HT.out.tab).mono ?_
  rintro e w1 ⟨v, rfl, hv, hb⟩
  rw [HN.out]
  rw [h0]
  have hll : l.length = 44 := by rw [← HL.out]; exact fi h0
  have HLL := Lib.hid hll
  rw [HL.out] at hv
  obtain ⟨g, hve, hrow⟩ : ∃ g, v = .slice (some ⟨g, 0, none⟩) 44 44 ∧ bF w1 g 5 l := by
    rcases hv with ⟨_, rfl⟩ | ⟨g, e, _, hr, _⟩
    · simp at hll
    · rw [hll] at e; exact ⟨g, e, hr⟩
  subst hve
  have HR1 := Lib.hid (aL HR.out HZ.out hb)
  have HB1 := Lib.hid (HB.out.trans (hb.mono HB.out.size))
  have HZ1 : Hid (w.heap.size + 1 < w1.heap.size) := Lib.hid (Nat.lt_of_lt_of_le HZ.out hb.size)
  have HRW := Lib.hid hrow
  have hrd := hrow.rd (p := 0) (k := 44) (by rw [hll]; omega)
  rw [dD hll] at hrd
  have HRD := Lib.hid hrd
  have HT1 := Lib.hid (HT.out.below hb)
  clear hv hb HA HR HB HZ hll h0 hrow hrd
  go_wp2_with fail
  refine (pmtold _ 44 l w1 HT1.out.siz HRD.out).mono ?_
  rintro e w2 ⟨rfl, hb⟩
  have hb3 := hb.alloc hb.size (.cells (bk (co l)).toArray 67)
  have HW3 : Hid (MgW w (w2.alloc (.cells (bk (co l)).toArray 67)) g w2.heap.size l (co l)) := Lib.hid ⟨HRW.out.below HRW.out.lt hb3, bG.new w2 _, aL HR1.out HZ1.out hb3, HB1.out.trans (hb3.mono HB1.out.size), Nat.lt_of_lt_of_le HZ1.out hb3.size⟩
  have HI : Hid ((co l).fit) := Lib.hid (told_fitM HLL.out)
  have HSZ3 := Lib.hid (HT1.out.below hb3).siz
  clear hb hb3 HRW HR1 HB1 HZ1 HRD HT1
  obtain ⟨y, hy⟩ : ∃ y, co l = y := ⟨_, rfl⟩
  have HY := Lib.hid hy
  rw [hy] at HW3 HI HSZ3 HM HD
  rw [hy]
  clear hy
  have HFL := Lib.hid (de y)
  go_upto_region 5 with (first | (refine ag rfl (bJ rfl) ?_) | (refine aB rfl (dj rfl rfl rfl) ?_) | fail)
  generalize w2.alloc (.cells (bk y).toArray 67) = w3 at *
  have HS3 := Lib.hid HW3.out.sup
  have HR3 := Lib.hid HW3.out.row
  generalize w2.heap.size = s at *
  refine aE (B := w3.heap.size) (by kernel_rfl) ?_
  refine am rfl (fun w' hw => ah rfl (ev rfl)) ?_
  simp only [Act.put, aa, ae, af]
  refine a9 rfl (fun _ => au Tryz.call162 rfl (evc (ev rfl) evn)) (aU (Nat.le_refl _) fun w' hw => pcount_d n w' HEV.out) ?_
  simp only [Act.put, aa, ae, af]
  refine am (v := .bool false) rfl (fun w' hw => aX true rfl (ev rfl)) ?_
  simp only [Act.put, aa, ae, af]
  refine am (v := .bool false) rfl (fun w' hw => ah rfl (ev rfl)) ?_
  simp only [Act.put, aa, ae, af]
  refine am (aj rfl rfl rfl rfl) (fun w' hw => bC (c := y) rfl (ev rfl) ((HS3.out.below (aV HS3.out) hw).range)) ?_
  simp only [Act.put, aa, ae, af]
  refine a9 (aj rfl rfl rfl rfl) (fun _ => au Tryz.call101 rfl (evc (ev rfl) evn)) (aU (Nat.le_refl _) fun w' hw => pmmay_b y w' HM.out) ?_
  simp only [Act.put, aa, ae, af]
  refine am (v := .bool false) (aj rfl rfl rfl rfl) (fun w' hw => aX true rfl (ev rfl)) ?_
  simp only [Act.put, aa, ae, af]
  refine am (v := .bool false) rfl (fun w' hw => aN rfl (ev rfl) (ev rfl)) ?_
  simp only [Act.put, aa, ae, af]
  refine am (v := .bool false) rfl (fun w' hw => ah rfl (ev rfl)) ?_
  simp only [Act.put, aa, ae, af]
  refine am (aj rfl rfl rfl rfl) (fun w' hw => bC (c := y) rfl (ev rfl) ((HS3.out.below (aV HS3.out) hw).range)) ?_
  simp only [Act.put, aa, ae, af]
  refine a9 (aj rfl rfl rfl rfl) (fun _ => au Tryz.call163 rfl (evc (ev rfl) evn)) (aU (Nat.le_refl _) fun w' hw => pmlaid y w' (HSZ3.out.below hw) HI.out HM.out) ?_
  simp only [Act.put, aa, ae, af]
  refine am (aj rfl rfl rfl rfl) (fun w' hw => ah rfl (ev rfl)) ?_
  simp only [Act.put, aa, ae, af]
  refine am (aj rfl rfl rfl rfl) (fun w' hw => exec_s2am rfl (ev rfl)) ?_
  simp only [Act.put, aa, ae, af]
  refine am (aj rfl rfl rfl rfl) (fun w' hw => exec_load44m HLL.out rfl (ev rfl) (d7 (HR3.out.below HR3.out.lt hw))) ?_
  simp only [Act.put, aa, ae, af]
  refine am (v := .bool true) (aj rfl rfl rfl rfl) (fun w' hw => exec_ne44m false HFL.out HLL.out rfl (ev rfl) (ev rfl) HD.out) ?_
  simp only [Act.put, aa, ae, af]
  refine am (v := .bool true) rfl (fun w' hw => aN rfl (ev rfl) (ev rfl)) ?_
  simp only [Act.put, aa, ae, af]
  refine wpQuiet_nil ?_
  intro w4 hw
  have HW4 := Lib.hid (HW3.out.keep hw)
  have HR4 := Lib.hid HW4.out.res
  have HB4 := Lib.hid HW4.out.bel
  clear HW3 HS3 HR3 hw
  go_wp2_with (first | (refine ag rfl (exec_bldM rfl) ?_) | (refine aB rfl (cQ (c := bI) rfl rfl rfl ?_) ?_; (with_reducible exact HR4.out)) | fail)
  refine bodyPost_ret (eS (t := 67) (cs := bk bI) rfl _ _ _ rfl ?h1 Tryz.underlying67 rfl ?h2) rfl ⟨rfl, ?h3⟩
  case h1 => exact World.rangeAt_setCells_same _ _ _ _ HR4.out
  case h2 => exact sizeM
  case h3 => exact below_setCells HB4.out (Nat.le_succ _) _
set_option maxHeartbeats 2000000 in
theorem pmget_yes (b : Blk) (w : World) (T : TabM w) (h0 : da b.toList = 0) (hev : evB (dt b.toList) = true) (hm : mrkB (co (cR b.toList)) = true) (hd : cH (co (cR b.toList)) = cR b.toList) : Calls Tryz.prog 176 #[blk b] w fun e w' => e = .returned (.tuple #[.int .u64 (dt b.toList : Nat), mrk (co (cR b.toList)), .int .i64 (0 : Nat)]) ∧ Below w.heap.size w w' := by
  obtain ⟨n, hn⟩ : ∃ n, dt b.toList = n := ⟨_, rfl⟩
  obtain ⟨l, hl⟩ : ∃ l, cR b.toList = l := ⟨_, rfl⟩
  have h1 := (Below.refl w.heap.size w).alloc (Nat.le_refl _) (.cells (cel b).toArray 65)
  have h2 := h1.alloc h1.size (.cells (bk bI).toArray 67)
  have HA : Hid (((w.alloc (.cells (cel b).toArray 65)).alloc (.cells (bk bI).toArray 67)).rangeAt w.heap.size 0 (cel b)) := Lib.hid (World.rangeAt_alloc (b7 w (cel b) 65) _)
  have hsn := bG.new (w.alloc (.cells (cel b).toArray 65)) bI
  rw [World.size_alloc] at hsn
  have HR := Lib.hid hsn.there
  have HZ := Lib.hid (aV hsn)
  have HB := Lib.hid h2
  have HT := Lib.hid (T.below h2)
  have HN := Lib.hid hn
  have HL := Lib.hid hl
  clear h1 h2 hsn T
  rw [hn] at hev
  rw [hl] at hm hd
  have HEV := Lib.hid hev
  have HM := Lib.hid hm
  have HD : Hid (decide (cH (co l) = l) = true) := Lib.hid (decide_eq_true hd)
  clear hev hm hd
  clear hn hl
  go_enter Tryz.func176, Tryz.ntmps176
  go_wp2_with (first | (refine ag rfl (bD rfl rfl) ?_) | (refine ag rfl (bJ rfl) ?_) | (refine ag rfl (aJ (c := b) rfl rfl ?_) ?_; (with_reducible exact HA.out)) | fail)
  try simp only [World.size_alloc]
  generalize (w.alloc (.cells (cel b).toArray 65)).alloc (.cells (bk bI).toArray 67) = w0 at *
  refine (eF b _ w0 (Lib.hid rfl) HT.out.tab).mono ?_
  rintro e w1 ⟨v, rfl, hv, hb⟩
  rw [HN.out]
  rw [h0]
  have hll : l.length = 44 := by rw [← HL.out]; exact fi h0
  have HLL := Lib.hid hll
  rw [HL.out] at hv
  obtain ⟨g, hve, hrow⟩ : ∃ g, v = .slice (some ⟨g, 0, none⟩) 44 44 ∧ bF w1 g 5 l := by
    rcases hv with ⟨_, rfl⟩ | ⟨g, e, _, hr, _⟩
    · simp at hll
    · rw [hll] at e; exact ⟨g, e, hr⟩
  subst hve
  have HR1 := Lib.hid (aL HR.out HZ.out hb)
  have HB1 := Lib.hid (HB.out.trans (hb.mono HB.out.size))
  have HZ1 : Hid (w.heap.size + 1 < w1.heap.size) := Lib.hid (Nat.lt_of_lt_of_le HZ.out hb.size)
  have HRW := Lib.hid hrow
  have hrd := hrow.rd (p := 0) (k := 44) (by rw [hll]; omega)
  rw [dD hll] at hrd
  have HRD := Lib.hid hrd
  have HT1 := Lib.hid (HT.out.below hb)
  clear hv hb HA HR HB HZ hll h0 hrow hrd
  go_wp2_with fail
  refine (pmtold _ 44 l w1 HT1.out.siz HRD.out).mono ?_
  rintro e w2 ⟨rfl, hb⟩
  have hb3 := hb.alloc hb.size (.cells (bk (co l)).toArray 67)
  have HW3 : Hid (MgW w (w2.alloc (.cells (bk (co l)).toArray 67)) g w2.heap.size l (co l)) := Lib.hid ⟨HRW.out.below HRW.out.lt hb3, bG.new w2 _, aL HR1.out HZ1.out hb3, HB1.out.trans (hb3.mono HB1.out.size), Nat.lt_of_lt_of_le HZ1.out hb3.size⟩
  have HI : Hid ((co l).fit) := Lib.hid (told_fitM HLL.out)
  have HSZ3 := Lib.hid (HT1.out.below hb3).siz
  clear hb hb3 HRW HR1 HB1 HZ1 HRD HT1
  obtain ⟨y, hy⟩ : ∃ y, co l = y := ⟨_, rfl⟩
  have HY := Lib.hid hy
  rw [hy] at HW3 HI HSZ3 HM HD
  rw [hy]
  clear hy
  have HFL := Lib.hid (de y)
  go_upto_region 5 with (first | (refine ag rfl (bJ rfl) ?_) | (refine aB rfl (dj rfl rfl rfl) ?_) | fail)
  generalize w2.alloc (.cells (bk y).toArray 67) = w3 at *
  have HS3 := Lib.hid HW3.out.sup
  have HR3 := Lib.hid HW3.out.row
  generalize w2.heap.size = s at *
  refine aE (B := w3.heap.size) (by kernel_rfl) ?_
  refine am rfl (fun w' hw => ah rfl (ev rfl)) ?_
  simp only [Act.put, aa, ae, af]
  refine a9 rfl (fun _ => au Tryz.call162 rfl (evc (ev rfl) evn)) (aU (Nat.le_refl _) fun w' hw => pcount_d n w' HEV.out) ?_
  simp only [Act.put, aa, ae, af]
  refine am (v := .bool false) rfl (fun w' hw => aX true rfl (ev rfl)) ?_
  simp only [Act.put, aa, ae, af]
  refine am (v := .bool false) rfl (fun w' hw => ah rfl (ev rfl)) ?_
  simp only [Act.put, aa, ae, af]
  refine am (aj rfl rfl rfl rfl) (fun w' hw => bC (c := y) rfl (ev rfl) ((HS3.out.below (aV HS3.out) hw).range)) ?_
  simp only [Act.put, aa, ae, af]
  refine a9 (aj rfl rfl rfl rfl) (fun _ => au Tryz.call101 rfl (evc (ev rfl) evn)) (aU (Nat.le_refl _) fun w' hw => pmmay_b y w' HM.out) ?_
  simp only [Act.put, aa, ae, af]
  refine am (v := .bool false) (aj rfl rfl rfl rfl) (fun w' hw => aX true rfl (ev rfl)) ?_
  simp only [Act.put, aa, ae, af]
  refine am (v := .bool false) rfl (fun w' hw => aN rfl (ev rfl) (ev rfl)) ?_
  simp only [Act.put, aa, ae, af]
  refine am (v := .bool false) rfl (fun w' hw => ah rfl (ev rfl)) ?_
  simp only [Act.put, aa, ae, af]
  refine am (aj rfl rfl rfl rfl) (fun w' hw => bC (c := y) rfl (ev rfl) ((HS3.out.below (aV HS3.out) hw).range)) ?_
  simp only [Act.put, aa, ae, af]
  refine a9 (aj rfl rfl rfl rfl) (fun _ => au Tryz.call163 rfl (evc (ev rfl) evn)) (aU (Nat.le_refl _) fun w' hw => pmlaid y w' (HSZ3.out.below hw) HI.out HM.out) ?_
  simp only [Act.put, aa, ae, af]
  refine am (aj rfl rfl rfl rfl) (fun w' hw => ah rfl (ev rfl)) ?_
  simp only [Act.put, aa, ae, af]
  refine am (aj rfl rfl rfl rfl) (fun w' hw => exec_s2am rfl (ev rfl)) ?_
  simp only [Act.put, aa, ae, af]
  refine am (aj rfl rfl rfl rfl) (fun w' hw => exec_load44m HLL.out rfl (ev rfl) (d7 (HR3.out.below HR3.out.lt hw))) ?_
  simp only [Act.put, aa, ae, af]
  refine am (v := .bool false) (aj rfl rfl rfl rfl) (fun w' hw => exec_ne44m true HFL.out HLL.out rfl (ev rfl) (ev rfl) HD.out) ?_
  simp only [Act.put, aa, ae, af]
  refine am (v := .bool false) rfl (fun w' hw => aN rfl (ev rfl) (ev rfl)) ?_
  simp only [Act.put, aa, ae, af]
  refine wpQuiet_nil ?_
  intro w4 hw
  have HW4 := Lib.hid (HW3.out.keep hw)
  have HR4 := Lib.hid HW4.out.res
  have HB4 := Lib.hid HW4.out.bel
  have HLD := Lib.hid HW4.out.sup.range
  clear HW3 HS3 HR3 hw
  go_wp2_with fail
  refine wp_region_still_tail 3 (by kernel_rfl) (by kernel_rfl) ?_
  simp only [List.take_succ_cons, List.take_zero, List.drop_succ_cons, List.drop_zero]
  refine aw rfl (ah rfl (ev rfl)) ?_
  simp only [Act.put, aa, ae, af]
  refine aw rfl (bC (c := y) rfl (ev rfl) HLD.out) ?_
  simp only [Act.put, aa, ae, af]
  refine aw rfl (aq rfl (ev rfl)) ?_
  simp only [Act.put, aa, ae, af]
  refine wpStill_nil ?_
  change wpList _ _ _ _ _ (World.drew _)
  refine aF rfl (cQ (c := y) rfl (ev rfl) (ev rfl) HR4.out) ?_
  simp only [Act.put, aa, ae, af]
  refine ai rfl (aq rfl evk) ?_
  simp only [Act.put, aa, ae, af]
  refine wpList_nil ?_
  go_wp2_with fail
  refine bodyPost_ret (eS (t := 67) (cs := bk y) rfl _ _ _ rfl ?h1 Tryz.underlying67 rfl ?h2) rfl ⟨by rw [HN.out, HL.out, HY.out]; rfl, ?h3⟩
  case h1 => exact World.rangeAt_setCells_same _ _ _ _ HR4.out
  case h2 => exact sizeM
  case h3 => exact below_setCells (bd HB4.out) (Nat.le_succ _) _
theorem pmget (b : Blk) (w : World) (T : TabM w) : Calls Tryz.prog 176 #[blk b] w fun e w' => e = .returned (.tuple #[.int .u64 (aR.gN b : Nat), mrk (aR.gX b).m, .int .i64 (aR.gE b : Nat)]) ∧ Below w.heap.size w w' := by
  by_cases h0 : da b.toList = 0
  · by_cases hev : evB (dt b.toList) = true
    · by_cases hm : mrkB (co (cR b.toList)) = true
      · by_cases hd : cH (co (cR b.toList)) = cR b.toList
        · have hE := aR.gE_ok h0 (aR.ex.2 ⟨by show (evB (dt b.toList) && mrkB (co (cR b.toList))) = true; rw [hev, hm]; rfl, hd⟩)
          rw [aR.gN_of hE, aR.gX_of hE, hE]
          exact pmget_yes b w T h0 hev hm hd
        · have hE := aR.gE_form h0 (fun h => hd (aR.ex.1 h).2)
          rw [aR.gN_no (by omega), aR.gX_no (by omega), hE]
          exact pmget_un b w T h0 hev hm hd
      · have hE := aR.gE_form h0 (fun h => hm (by have this : (evB (dt b.toList) && mrkB (co (cR b.toList))) = true := (aR.ex.1 h).1; rw [Bool.and_eq_true] at this; exact this.2))
        rw [aR.gN_no (by omega), aR.gX_no (by omega), hE]
        exact pmget_may b w T h0 hev (by simpa using hm)
    · have hE := aR.gE_form h0 (fun h => hev (by have this : (evB (dt b.toList) && mrkB (co (cR b.toList))) = true := (aR.ex.1 h).1; rw [Bool.and_eq_true] at this; exact this.1))
      rw [aR.gN_no (by omega), aR.gX_no (by omega), hE]
      exact pmget_ev b w T h0 (by simpa using hev)
  · have hE := aR.gE_seal h0
    rw [aR.gN_no (by omega), aR.gX_no (by omega), hE]
    exact pmget_seal b w T h0
def dv (x : Nte) : Nat → List UInt8
  | 0 => []
  | 1 => aY 8 8 x.pos
  | 2 => aY 8 8 x.pos ++ aY 8 2 x.cells.toNat
  | _ => aY 8 8 x.pos ++ aY 8 2 x.cells.toNat ++ aY 8 4 x.sum
theorem preNt_all (x : Nte) : b9 (dv x 3) = cg x := by
  unfold cg eG dv
  simp only [List.append_assoc]
theorem preNt_1 (x : Nte) : splice (b9 (dv x 0)) 0 (aY 8 8 x.pos) = b9 (dv x 1) := d8 (a := []) (by simp [ay])
theorem preNt_2 (x : Nte) : splice (b9 (dv x 1)) 8 (aY 8 2 x.cells.toNat) = b9 (dv x 2) := by
  have := d8 (a := dv x 1) (x := aY 8 2 x.cells.toNat) (by simp [dv, ay])
  rwa [show (dv x 1).length = 8 from ay _ _ _] at this
theorem preNt_3 (x : Nte) : splice (b9 (dv x 2)) 10 (aY 8 4 x.sum) = b9 (dv x 3) := by
  have := d8 (a := dv x 2) (x := aY 8 4 x.sum) (by simp [dv, ay])
  rwa [show (dv x 2).length = 10 from by simp [dv, ay]] at this
theorem preNt_len (x : Nte) (k : Nat) (hk : k < 4) : (b9 (dv x k)).length = 44 := by
  apply dw
  have : k = 0 ∨ k = 1 ∨ k = 2 ∨ k = 3 := by omega
  rcases this with rfl | rfl | rfl | rfl <;> simp [dv, ay]
structure LdNt (B : Nat) (w0 w : World) (r n g a b c : Nat) (l : List UInt8) : Prop where
  res : bF w r 194 z44
  num : NumAtn w n a b c
  row : bF w g 194 l
  bel : Below B w0 w
  g0 : B ≤ g
  r0 : B ≤ r
  dif : r ≠ g ∧ n ≠ g
section
variable {B : Nat} {w0 w w' : World} {r n g a b c : Nat} {l l' : List UInt8}
theorem LdNt.keep (h : LdNt B w0 w r n g a b c l) (hb : Below w.heap.size w w') (hB : B ≤ w0.heap.size) : LdNt B w0 w' r n g a b c l :=
  ⟨bK h.res hb, bK h.num hb, bK h.row hb, h.bel.trans (hb.mono (Nat.le_trans hB h.bel.size)), h.g0, h.r0, h.dif⟩
theorem LdNt.step (h : LdNt B w0 w r n g a b c l) (hr : bF w' g 194 l') (hg : w.grownBy w' (some g)) (hB : B ≤ w0.heap.size) : LdNt B w0 w' r n g a b c l' :=
  ⟨eJ h.res hg h.dif.1, eJ h.num hg h.dif.2, hr, h.bel.grown hg (Nat.le_trans hB h.bel.size) (fun k hk => by injection hk with e; have := h.g0; omega), h.g0, h.r0, h.dif⟩
end
def pNt : Nat → Nat
  | 0 => 0 | 1 => 8 | 2 => 10 | _ => 14
def LrNt (B : Nat) (w0 : World) (r n g : Nat) (R : Nat) (x : Nte) (p i : Value) (w : World) : Prop :=
  ∃ k, k < 4 ∧ i = .int .i64 ((k : Nat) : Int) ∧ p = .int .i64 ((pNt k : Nat) : Int) ∧ LdNt B w0 w r n g x.pos R x.sum (b9 (dv x k))
theorem LrNt.four {B : Nat} {w0 w : World} {r n g R : Nat} {x : Nte} {p i : Value} (h : LrNt B w0 r n g R x p i w) :
    (i = .int .i64 0 ∧ p = .int .i64 0 ∧ LdNt B w0 w r n g x.pos R x.sum (b9 (dv x 0))) ∨
    (i = .int .i64 1 ∧ p = .int .i64 8 ∧ LdNt B w0 w r n g x.pos R x.sum (b9 (dv x 1))) ∨
    (i = .int .i64 2 ∧ p = .int .i64 10 ∧ LdNt B w0 w r n g x.pos R x.sum (b9 (dv x 2))) ∨
    (i = .int .i64 3 ∧ p = .int .i64 14 ∧ LdNt B w0 w r n g x.pos R x.sum (b9 (dv x 3))) := by
  obtain ⟨k, hk, rfl, rfl, h⟩ := h
  have : k = 0 ∨ k = 1 ∨ k = 2 ∨ k = 3 := by omega
  rcases this with rfl | rfl | rfl | rfl
  · exact .inl ⟨rfl, rfl, h⟩
  · exact .inr (.inl ⟨rfl, rfl, h⟩)
  · exact .inr (.inr (.inl ⟨rfl, rfl, h⟩))
  · exact .inr (.inr (.inr ⟨rfl, rfl, h⟩))
theorem ldNt_start (w : World) (x : Nte) (R : Nat) : LdNt w.heap.size w ((((w.alloc (.cells (aS x).toArray 70)).alloc (.cells (vals z44).toArray 194)).alloc (.cells (dW x.pos R x.sum).toArray 213)).alloc (.cells (vals z44).toArray 194))
    (w.heap.size + 1) (w.heap.size + 1 + 1) (w.heap.size + 1 + 1 + 1) x.pos R x.sum (b9 (dv x 0)) := by
  have h1 := (Below.refl w.heap.size w).alloc (Nat.le_refl _) (.cells (aS x).toArray 70)
  have h2 := h1.alloc h1.size (.cells (vals z44).toArray 194)
  have h3 := h2.alloc h2.size (.cells (dW x.pos R x.sum).toArray 213)
  have h4 := h3.alloc h3.size (.cells (vals z44).toArray 194)
  have e1 := World.size_alloc (w := w) (o := Obj.cells (aS x).toArray 70)
  have r1 := bF.new (w.alloc (.cells (aS x).toArray 70)) z44 194
  rw [e1] at r1
  have e2 := World.size_alloc (w := (w.alloc (.cells (aS x).toArray 70))) (o := Obj.cells (vals z44).toArray 194)
  have n1 : NumAtn (((w.alloc (.cells (aS x).toArray 70)).alloc (.cells (vals z44).toArray 194)).alloc (.cells (dW x.pos R x.sum).toArray 213)) ((w.alloc (.cells (aS x).toArray 70)).alloc (.cells (vals z44).toArray 194)).heap.size x.pos R x.sum := heap_alloc_new _ _
  rw [e2, e1] at n1
  have e3 := World.size_alloc (w := ((w.alloc (.cells (aS x).toArray 70)).alloc (.cells (vals z44).toArray 194))) (o := Obj.cells (dW x.pos R x.sum).toArray 213)
  have g1 := bF.new (((w.alloc (.cells (aS x).toArray 70)).alloc (.cells (vals z44).toArray 194)).alloc (.cells (dW x.pos R x.sum).toArray 213)) z44 194
  rw [e3, e2, e1] at g1
  exact ⟨(r1.past _).past _, bM n1 _, g1, h4, by omega, by omega, by omega, by omega⟩
set_option maxHeartbeats 4000000 in
theorem pntlaid (x : Nte) (w : World) (S : SizNt w) (hf : x.fit) (hx : nteB x = true) : Calls Tryz.prog 174 #[nte x] w fun e w' => e = .returned (arr (cg x)) ∧ Below w.heap.size w w' := by
  obtain ⟨-, -, -, q1, q2⟩ := of_nteB hx
  obtain ⟨f1, f2, f3⟩ := hf
  obtain ⟨R, hR⟩ : ∃ R : Nat, x.cells.toNat = R := ⟨_, rfl⟩
  have hRr : x.cells = (R : Int) := by omega
  have hR32 : R ≤ 32 := by omega
  obtain ⟨h1, h2, h3⟩ := dr w x
  have HMK := Lib.hid (h1.past (.cells (vals z44).toArray 194))
  have hc1 : ((w.alloc (.cells (aS x).toArray 70)).alloc (.cells (vals z44).toArray 194)).cell? ⟨w.heap.size, 2, none⟩ = some (.int .i64 (R : Int)) := by rw [← hRr]; exact (h1.past _).cells.2.2.1
  have HC1 := Lib.hid hc1
  have HP1 := Lib.hid (preNt_1 x)
  have HP2 := Lib.hid (preNt_2 x)
  have HP3 := Lib.hid (preNt_3 x)
  have HPA := Lib.hid (preNt_all x)
  rw [hR] at HP2
  have HLEN := fun k hk => Lib.hid (preNt_len x k hk)
  have HST := Lib.hid (ldNt_start w x R)
  have HSZ := Lib.hid (S.below (ldNt_start w x R).bel)
  have HF2 := Lib.hid f2
  have HF3 := Lib.hid f3
  have HFL := Lib.hid (dl x)
  clear q1 q2 f1 f2 f3 hR hRr h1 h2 h3 hc1 S hx
  go_enter Tryz.func174, Tryz.ntmps174
  go_upto_region 1 with (first | (refine ag rfl (cI rfl rfl) ?_) | (refine ag rfl (fN rfl) ?_) | fail)
  try simp only [World.size_alloc]
  obtain ⟨-, c1, -, c3⟩ := HMK.out.cells
  have c2 := HC1.out
  go_upto_region 4 with (first | (refine ag rfl (exec_faNt1 rfl rfl) ?_) | (refine ag rfl (exec_faNt2 rfl rfl) ?_) | (refine ag rfl (exec_faNt3 rfl rfl) ?_) | (refine ag rfl (exec_cv32 rfl rfl HF3.out) ?_) | (refine ag rfl (exec_bldNn3 x.pos R x.sum rfl rfl rfl rfl) ?_) | (refine ag rfl (exec_allocNn rfl) ?_) | (refine aB rfl (exec_fillNn (a := x.pos) (b := R) (c := x.sum) rfl rfl rfl) ?_) | (refine ag rfl (fN rfl) ?_) | fail)
  clear c1 c2 c3
  try simp only [World.size_alloc]
  generalize (((w.alloc (.cells (aS x).toArray 70)).alloc (.cells (vals z44).toArray 194)).alloc (.cells (dW x.pos R x.sum).toArray 213)).alloc (.cells (vals z44).toArray 194) = w1 at *
  obtain ⟨B, hB⟩ : ∃ B, w.heap.size = B := ⟨_, rfl⟩
  rw [hB] at HST ⊢
  have HBB := Lib.hid hB
  have HB : Hid (B ≤ w.heap.size) := Lib.hid (by omega)
  clear hB HMK HC1
  obtain ⟨r, hr⟩ : ∃ r, B + 1 = r := ⟨_, rfl⟩
  rw [hr] at HST ⊢
  clear hr
  obtain ⟨n, hn⟩ : ∃ n, r + 1 = n := ⟨_, rfl⟩
  rw [hn] at HST ⊢
  clear hn
  obtain ⟨g, hg⟩ : ∃ g, n + 1 = g := ⟨_, rfl⟩
  rw [hg] at HST ⊢
  clear hg
  go_upto_region 5 with (first | (refine ag rfl (exec_loadZn rfl rfl HSZ.out) ?_) | fail)
  go_loopw [5, 20] (fun p i wr => LrNt B w r n g R x p i wr) (fun _ i _ => 3 - (intOf i).toNat)
  case atStart => exact ⟨0, by omega, rfl, rfl, HST.out⟩
  case round =>
    clear HST
    rcases hrel.four with ⟨rfl, rfl, hl⟩ | ⟨rfl, rfl, hl⟩ | ⟨rfl, rfl, hl⟩ | ⟨rfl, rfl, hl⟩
    · have H0 := Lib.hid hl
      clear hl hrel
      have cc := H0.out.num.cells.1
      go_wp2_with (first | (refine ag rfl (exec_ixZn0 rfl rfl rfl) ?_) | (refine ag rfl (exec_ixNn0 rfl rfl rfl) ?_) | fail)
      clear cc
      refine (put_ok x.pos 8 wr (by omega) (by omega) (by have := HF2.out; simpa using this)).mono ?_
      rintro e w2 ⟨v, rfl, hv, hb⟩
      obtain ⟨A, c, rfl, hrd, _, _⟩ := hv.made.open_ (ay 8 8 x.pos)
      have H1 := Lib.hid (H0.out.keep hb HB.out)
      have HRD := Lib.hid hrd
      have HW := Lib.hid H1.out.row
      have HLN := HLEN 0 (by omega)
      clear hv hrd hb H0
      go_wp2_with (first | (refine ag rfl (exec_from44n 0 44 rfl (by omega) rfl rfl rfl) ?_) | (with_reducible refine cw rfl _ _ rfl g 0 44 44 8 c _ A 194 (b9 (dv x 0)) (aY 8 8 x.pos) rfl rfl HW.out HRD.out (by omega) (by rw [HLN.out]; omega) ?_) | fail)
      intro w3 hr3 hg3
      rw [HP1.out] at hr3
      have H2 := Lib.hid (H1.out.step hr3 hg3 HB.out)
      clear hr3 hg3 H1 HRD HW
      go_wp2_with fail
      go_roundw
      case rel => exact ⟨1, by omega, rfl, rfl, H2.out⟩
      case measure => simp [intOf]
    · have H0 := Lib.hid hl
      clear hl hrel
      have cc := H0.out.num.cells.2.1
      go_wp2_with (first | (refine ag rfl (exec_ixZn1 rfl rfl rfl) ?_) | (refine ag rfl (exec_ixNn1 rfl rfl rfl) ?_) | fail)
      clear cc
      refine (put_ok R 2 wr (by omega) (by omega) (by omega)).mono ?_
      rintro e w2 ⟨v, rfl, hv, hb⟩
      obtain ⟨A, c, rfl, hrd, _, _⟩ := hv.made.open_ (ay 8 2 R)
      have H1 := Lib.hid (H0.out.keep hb HB.out)
      have HRD := Lib.hid hrd
      have HW := Lib.hid H1.out.row
      have HLN := HLEN 1 (by omega)
      clear hv hrd hb H0
      go_wp2_with (first | (refine ag rfl (exec_from44n 8 36 rfl (by omega) rfl rfl rfl) ?_) | (with_reducible refine cw rfl _ _ rfl g 8 36 36 2 c _ A 194 (b9 (dv x 1)) (aY 8 2 R) rfl rfl HW.out HRD.out (by omega) (by rw [HLN.out]; omega) ?_) | fail)
      intro w3 hr3 hg3
      rw [HP2.out] at hr3
      have H2 := Lib.hid (H1.out.step hr3 hg3 HB.out)
      clear hr3 hg3 H1 HRD HW
      go_wp2_with fail
      go_roundw
      case rel => exact ⟨2, by omega, rfl, rfl, H2.out⟩
      case measure => simp [intOf]
    · have H0 := Lib.hid hl
      clear hl hrel
      have cc := H0.out.num.cells.2.2
      go_wp2_with (first | (refine ag rfl (exec_ixZn2 rfl rfl rfl) ?_) | (refine ag rfl (exec_ixNn2 rfl rfl rfl) ?_) | fail)
      clear cc
      refine (put_ok x.sum 4 wr (by omega) (by omega) (by have := HF3.out; simpa using this)).mono ?_
      rintro e w2 ⟨v, rfl, hv, hb⟩
      obtain ⟨A, c, rfl, hrd, _, _⟩ := hv.made.open_ (ay 8 4 x.sum)
      have H1 := Lib.hid (H0.out.keep hb HB.out)
      have HRD := Lib.hid hrd
      have HW := Lib.hid H1.out.row
      have HLN := HLEN 2 (by omega)
      clear hv hrd hb H0
      go_wp2_with (first | (refine ag rfl (exec_from44n 10 34 rfl (by omega) rfl rfl rfl) ?_) | (with_reducible refine cw rfl _ _ rfl g 10 34 34 4 c _ A 194 (b9 (dv x 2)) (aY 8 4 x.sum) rfl rfl HW.out HRD.out (by omega) (by rw [HLN.out]; omega) ?_) | fail)
      intro w3 hr3 hg3
      rw [HP3.out] at hr3
      have H2 := Lib.hid (H1.out.step hr3 hg3 HB.out)
      clear hr3 hg3 H1 HRD HW
      go_wp2_with fail
      go_roundw
      case rel => exact ⟨3, by omega, rfl, rfl, H2.out⟩
      case measure => simp [intOf]
    · have H0 := Lib.hid hl
      clear hl hrel
      have HLD : Hid (wr.rangeAt g 0 (vals (cg x))) := Lib.hid (by rw [← HPA.out]; exact d7 H0.out.row)
      have HTH := Lib.hid (dI (o := 0) (n := 44) H0.out.res (by rw [bh, z44_length]; omega))
      go_wp2_with (first | (refine ag rfl (exec_load44n (l := cg x) HFL.out rfl rfl ?_) ?_; (with_reducible exact HLD.out)) | (refine aB rfl (exec_put44n (l := cg x) HFL.out rfl rfl rfl ?_) ?_; (with_reducible exact HTH.out)) | fail)
      refine bodyPost_ret (res_rng (t := 194) (cs := vals (cg x)) rfl _ _ r rfl ?h1 Tryz.underlying194 rfl ?h2) rfl ⟨rfl, ?h3⟩
      case h1 => exact World.rangeAt_setCells_same _ _ _ _ (by rw [bh, HFL.out]; exact HTH.out)
      case h2 => rw [bh, HFL.out]; exact size44n
      case h3 => rw [HBB.out]; exact below_setCells H0.out.bel H0.out.r0 _
structure TlNt (B : Nat) (w0 w : World) (A : Option Addr) (l : List UInt8) (r n a b c : Nat) : Prop where
  rd : Rd w B A 44 l
  res : bT w r aG
  num : NumAtn w n a b c
  bel : Below B w0 w
  n0 : B ≤ n
  r0 : B ≤ r
  dif : r ≠ n
theorem TlNt.set {B : Nat} {w0 w : World} {A : Option Addr} {l : List UInt8} {r n a b c a' b' c' j v : Nat} (h : TlNt B w0 w A l r n a b c) (e : (dW a b c).set j (.int .u64 v) = dW a' b' c') (hB : B ≤ w0.heap.size) : TlNt B w0 (w.setCell ⟨n, j, none⟩ (.int .u64 v)) A l r n a' b' c' :=
  have hg := grown_set w n j (.int .u64 v)
  have hb : Below B w (w.setCell ⟨n, j, none⟩ (.int .u64 v)) := (Below.refl B w).grown hg (Nat.le_trans hB h.bel.size) (fun k hk => by injection hk with e; have := h.n0; omega)
  ⟨h.rd.below hb, eJ h.res hg h.dif, h.num.set e, h.bel.trans hb, h.n0, h.r0, h.dif⟩
def TrNt (B : Nat) (w0 : World) (A : Option Addr) (l : List UInt8) (r n v0 v1 v2 : Nat) (p i : Value) (w : World) : Prop :=
  (i = .int .i64 0 ∧ p = .int .i64 0 ∧ TlNt B w0 w A l r n 0 0 0) ∨
    (i = .int .i64 1 ∧ p = .int .i64 8 ∧ TlNt B w0 w A l r n v0 0 0) ∨
    (i = .int .i64 2 ∧ p = .int .i64 10 ∧ TlNt B w0 w A l r n v0 v1 0) ∨
    (i = .int .i64 3 ∧ p = .int .i64 14 ∧ TlNt B w0 w A l r n v0 v1 v2)
theorem tlNt_start (w : World) (A : Option Addr) (l : List UInt8) (hr : Rd w w.heap.size A 44 l) : TlNt w.heap.size w ((w.alloc (.cells (aS aG).toArray 70)).alloc (.cells (dW 0 0 0).toArray 213)) A l w.heap.size (w.heap.size + 1) 0 0 0 := by
  have h1 := (Below.refl w.heap.size w).alloc (Nat.le_refl _) (.cells (aS aG).toArray 70)
  have h2 := h1.alloc h1.size (.cells (dW 0 0 0).toArray 213)
  have n1 : NumAtn ((w.alloc (.cells (aS aG).toArray 70)).alloc (.cells (dW 0 0 0).toArray 213)) (w.alloc (.cells (aS aG).toArray 70)).heap.size 0 0 0 := heap_alloc_new _ _
  rw [World.size_alloc] at n1
  exact ⟨hr.below h2, (bT.new w aG).past _, n1, h2, by omega, by omega, by omega⟩
theorem exec_cvU32 {ρ : Operand → Value} {o : Oper} {x : Operand} {w : World} {n : Nat} (ho : o.op = .convert 35 68 x) (hx : ρ x = .int .u64 (n : Int)) (hn : n < 4294967296) : (execOp ρ o).run Tryz.prog w = .ok (.value (.int .u32 (n : Int))) w := by
  have h : IntKind.u32.wrap (n : Int) = (n : Int) := IntWalk.u32_in _ ⟨by omega, by omega⟩
  have hc : (convert 35 68 (.int .u64 (n : Int))).run Tryz.prog w = .ok (.int .u32 (n : Int)) w := by simp [convert, go_sem, h]
  unfold execOp
  simp only [ho, hx, Sem.run_bind, hc, Result.andThen_ok, Sem.run_pure]
set_option maxHeartbeats 4000000 in
theorem pnttold (q : Nat) (A : Option Addr) (c : Nat) (l : List UInt8) (w : World) (S : SizNt w) (hr : Rd w w.heap.size A 44 l) : Calls Tryz.prog 178 #[.int .u64 q, .slice A 44 c] w fun e w' => e = .returned (nte (cd q l)) ∧ Below w.heap.size w w' := by
  have hl := hr.1
  obtain ⟨v0, h0⟩ : ∃ v, val 8 (piece l 0 8) = v := ⟨_, rfl⟩
  obtain ⟨v1, h1⟩ : ∃ v, val 8 (piece l 8 2) = v := ⟨_, rfl⟩
  obtain ⟨v2, h2⟩ : ∃ v, val 8 (piece l 10 4) = v := ⟨_, rfl⟩
  have b1 : v1 < 65536 := by rw [← h1]; exact cu (b := l) (p := 8) (k := 2) (by omega)
  have b2 : v2 < 4294967296 := by rw [← h2]; exact cu (b := l) (p := 10) (k := 4) (by omega)
  have HB2 := Lib.hid b2
  have HV0 := Lib.hid h0
  have HV1 := Lib.hid h1
  have HV2 := Lib.hid h2
  have HT : Hid (cd q l = ⟨q, v0, (v1 : Nat), v2⟩) := Lib.hid (by unfold cd; rw [h0, h1, h2])
  have HST := Lib.hid (tlNt_start w A l hr)
  have HSZ := Lib.hid (S.below (tlNt_start w A l hr).bel)
  have HL := Lib.hid hl
  clear h0 h1 h2 hr S hl b2
  go_enter Tryz.func178, Tryz.ntmps178
  go_upto_region 3 with (first | (refine ag rfl (ci rfl) ?_) | (refine ag rfl (exec_allocNn rfl) ?_) | fail)
  try simp only [World.size_alloc]
  generalize (w.alloc (.cells (aS aG).toArray 70)).alloc (.cells (dW 0 0 0).toArray 213) = w1 at *
  obtain ⟨B, hB⟩ : ∃ B, w.heap.size = B := ⟨_, rfl⟩
  rw [hB] at HST ⊢
  have HBD := Lib.hid hB
  have HB : Hid (B ≤ w.heap.size) := Lib.hid (by omega)
  clear hB
  obtain ⟨n, hn⟩ : ∃ n, B + 1 = n := ⟨_, rfl⟩
  rw [hn] at HST ⊢
  clear hn
  go_upto_region 4 with (first | (refine ag rfl (exec_loadZn rfl rfl HSZ.out) ?_) | fail)
  go_loopw [6, 10] (fun p i wr => TrNt B w A l B n v0 v1 v2 p i wr) (fun _ i _ => 3 - (intOf i).toNat)
  case atStart => exact .inl ⟨rfl, rfl, HST.out⟩
  case round =>
    clear HST
    rcases hrel with ⟨rfl, rfl, hl⟩ | ⟨rfl, rfl, hl⟩ | ⟨rfl, rfl, hl⟩ | ⟨rfl, rfl, hl⟩
    · have H0 := Lib.hid hl
      clear hl
      have HRD := Lib.hid H0.out.rd
      have cc := H0.out.num.cells.1
      have ff := H0.out.num.free 0
      have H2 : Hid (TlNt B w (wr.setCell ⟨n, 0, none⟩ (.int .u64 (v0 : Nat))) A l B n v0 0 0) := Lib.hid (H0.out.set rfl HB.out)
      go_wp2_with (first | (refine ag rfl (exec_ixZn0 rfl rfl rfl) ?_) | fail)
      refine (get_ok A 44 c _ l 0 8 wr HRD.out (by unfold maxLen; omega) (by omega) (by omega) (by omega)).mono ?_
      rintro e w2 ⟨rfl, rfl⟩
      rw [HV0.out]
      go_wp2_with (first | (refine ag rfl (exec_ixNn0 rfl rfl rfl) ?_) | fail)
      go_roundw
      case rel => exact .inr (.inl ⟨rfl, rfl, H2.out⟩)
      case measure => simp [intOf]
    · have H0 := Lib.hid hl
      clear hl
      have HRD := Lib.hid H0.out.rd
      have cc := H0.out.num.cells.2.1
      have ff := H0.out.num.free 1
      have H2 : Hid (TlNt B w (wr.setCell ⟨n, 1, none⟩ (.int .u64 (v1 : Nat))) A l B n v0 v1 0) := Lib.hid (H0.out.set rfl HB.out)
      go_wp2_with (first | (refine ag rfl (exec_ixZn1 rfl rfl rfl) ?_) | fail)
      refine (get_ok A 44 c _ l 8 2 wr HRD.out (by unfold maxLen; omega) (by omega) (by omega) (by omega)).mono ?_
      rintro e w2 ⟨rfl, rfl⟩
      rw [HV1.out]
      go_wp2_with (first | (refine ag rfl (exec_ixNn1 rfl rfl rfl) ?_) | fail)
      go_roundw
      case rel => exact .inr (.inr (.inl ⟨rfl, rfl, H2.out⟩))
      case measure => simp [intOf]
    · have H0 := Lib.hid hl
      clear hl
      have HRD := Lib.hid H0.out.rd
      have cc := H0.out.num.cells.2.2
      have ff := H0.out.num.free 2
      have H2 : Hid (TlNt B w (wr.setCell ⟨n, 2, none⟩ (.int .u64 (v2 : Nat))) A l B n v0 v1 v2) := Lib.hid (H0.out.set rfl HB.out)
      go_wp2_with (first | (refine ag rfl (exec_ixZn2 rfl rfl rfl) ?_) | fail)
      refine (get_ok A 44 c _ l 10 4 wr HRD.out (by unfold maxLen; omega) (by omega) (by omega) (by omega)).mono ?_
      rintro e w2 ⟨rfl, rfl⟩
      rw [HV2.out]
      go_wp2_with (first | (refine ag rfl (exec_ixNn2 rfl rfl rfl) ?_) | fail)
      go_roundw
      case rel => exact .inr (.inr (.inr ⟨rfl, rfl, H2.out⟩))
      case measure => simp [intOf]
    · have H0 := Lib.hid hl
      clear hl
      obtain ⟨c0, c1, c2⟩ := H0.out.num.cells
      have HTH := Lib.hid H0.out.res.there
      go_wp2_with (first | (refine ag rfl (exec_ixNn0 rfl rfl rfl) ?_) | (refine ag rfl (exec_ixNn1 rfl rfl rfl) ?_) | (refine ag rfl (exec_ixNn2 rfl rfl rfl) ?_) | (refine ag rfl (exec_cvU32 rfl rfl HB2.out) ?_) | (refine ag rfl (exec_bldNt4 q v0 v1 v2 rfl rfl rfl rfl rfl) ?_) | (refine aB rfl (fI (c := ⟨q, v0, (v1 : Nat), v2⟩) rfl rfl rfl ?_) ?_; (with_reducible exact HTH.out)) | fail)
      refine bodyPost_ret (res_rng (t := 70) (cs := aS ⟨q, v0, (v1 : Nat), v2⟩) rfl _ _ B rfl ?h1 Tryz.underlying70 rfl ?h2) rfl ⟨by rw [HT.out]; rfl, ?h3⟩
      case h1 => exact World.rangeAt_setCells_same _ _ _ _ HTH.out
      case h2 => exact sizeNt
      case h3 => rw [HBD.out]; exact below_setCells H0.out.bel H0.out.r0 _
end Go.Proofs.YtcafafdimcecpaaGreatDoor
