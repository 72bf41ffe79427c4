import Derived.Test.YtbbcdhkinbmdnaaGreatDoorLoau
import Derived.Test.YtbbcdhkinbmdnaaGreatDoorLoav
import Derived.Test.YtbbcdhkinbmdnaaGreatDoorLoam
import Derived.Test.YtbbcdhkinbmdnaaGreatDoorLoar
import Derived.Test.YtbbcdhkinbmdnaaGreatDoorLoae
import Derived.Test.YtbbcdhkinbmdnaaGreatDoorLoZ
namespace Go.Proofs.YtbbcdhkinbmdnaaGreatDoor
open Go.RowKit
set_option linter.unusedVariables false
set_option linter.unusedSimpArgs false
set_option maxRecDepth 100000
set_option maxHeartbeats 1000000 in
theorem pmput (n : Nat) (x : Mrk) (w : World) (T : TabM w) (hn : n < 18446744073709551616) (hf : x.fit) :
  Calls Tryz.prog 136 #[.int .u64 n, mrk x] w fun e w' => e = .returned (.tuple #[blk (aN.pB ⟨n, x⟩), .int .i64 (aN.pE ⟨n, x⟩ : Nat)]) ∧ Below w.heap.size w w' := by
 obtain ⟨h1, h2, h3⟩ := eZ w x
 have HS := af (h1.past (.cells (cel ap).toArray 29))
 have HB := af (h2.alloc h2.size (.cells (cel ap).toArray 29))
 have HT := af T
 have HN := af hn
 have HI := af hf
 have HR : Hid (((w.alloc (.cells (a8 x).toArray 32)).alloc (.cells (cel ap).toArray 29)).there (w.heap.size + 1) 0 64) := af (by
  have := dl (w.alloc (.cells (a8 x).toArray 32)) ap 29
  rwa [World.size_alloc] at this)
 have HZ : Hid (w.heap.size + 1 < ((w.alloc (.cells (a8 x).toArray 32)).alloc (.cells (cel ap).toArray 29)).heap.size) := af (by simp only [World.size_alloc]; omega)
 clear h1 h2 h3 T hn hf
 go_enter Tryz.func136, Tryz.ntmps136
 go_wp2_with (first | (refine ai rfl (fk rfl rfl) ?_) | (refine ai rfl (aT rfl) ?_) | fail)
 try simp only [World.size_alloc]
 generalize (w.alloc (.cells (a8 x).toArray 32)).alloc (.cells (cel ap).toArray 29) = w1 at *
 refine (pcount n w1).mono ?_
 rintro e w' ⟨rfl, rfl⟩
 by_cases hev : evB n = true
 ·rw [hev]
  have HEV := af hev
  clear hev
  go_wp2_with (first | (refine al (by rfl) (bk (c := x) rfl rfl ?_) ?_; (with_reducible exact HS.out.range)) | fail)
  refine (pmmay x w1).mono ?_
  rintro e w2 ⟨rfl, hb⟩
  have HS2 := af (HS.out.below (aK HS.out) hb)
  have HB2 := af (HB.out.trans (hb.mono HB.out.size))
  have HR2 := af (aO HR.out HZ.out hb)
  have HZ2 : Hid (w.heap.size + 1 < w2.heap.size) := af (by have := hb.size; have := HZ.out; omega)
  clear hb HS HB HR HZ
  by_cases hm : dq x = true
  ·rw [hm]
   have HM := af hm
   clear hm
   go_wp2_with (first | (refine ai rfl (bk (c := x) rfl rfl ?_) ?_; (with_reducible exact HS2.out.range)) | fail)
   refine (pmlaid x w2 (HT.out.below HB2.out).siz HI.out HM.out).mono ?_
   rintro e w3 ⟨rfl, hb⟩
   have hb3 := HB2.out.trans (hb.mono HB2.out.size)
   have HB3 := af (hb3.alloc hb3.size (.cells (vals (cW x)).toArray 179))
   have HR3 := af (aO HR2.out HZ2.out (hb.alloc hb.size (.cells (vals (cW x)).toArray 179)))
   have hrd := (bR.new w3 (cW x) 179).rd (p := 0) (k := 44) (by rw [dw]; omega)
   rw [df (dw x)] at hrd
   have HRD := af hrd
   have HFL := af (dw x)
   have HZ3 : Hid (w.heap.size + 1 < (w3.alloc (.cells (vals (cW x)).toArray 179)).heap.size) := af (by have := hb.size; have := HZ2.out; simp only [World.size_alloc]; omega)
   clear hb hb3 hrd HS2 HB2 HR2 HZ2
   go_wp2_with (first | (refine ai rfl (gp rfl) ?_) | (refine az rfl (exec_fill44m (l := cW x) HFL.out rfl rfl rfl) ?_) | (refine ai rfl (exec_all44m rfl rfl) ?_) | fail)
   generalize hw4 : w3.alloc (.cells (vals (cW x)).toArray 179) = w4 at *
   refine (put_all n 44 44 _ _ (cW x) w4 (HT.out.below HB3.out).tab HN.out HRD.out (Nat.le_refl _) (by unfold maxLen; omega)).mono ?_
   rintro e w5 ⟨rfl, hb⟩
   rw [show dL n (cW x) = dL n (eh x) from aN.putB_full n ⟨n, x⟩, show dW n (cW x) = dW n (eh x) from aN.putE_full n ⟨n, x⟩, show dW n (eh x) = 0 from aN.body_putE ⟨n, x⟩ (by have := of_evB HEV.out; omega)]
   have HR5 := af (aO HR3.out HZ3.out hb)
   have HB5 := af (HB3.out.trans (hb.mono HB3.out.size))
   have hmay : aN.may ⟨n, x⟩ = true := by rw [dM, HEV.out, HM.out]; rfl
   have HPB : Hid (aN.pB ⟨n, x⟩ = dL n (eh x)) := af (aN.pB_ok hmay)
   have HPE := af (aN.pE_ok hmay)
   clear hb hw4 HRD HR3 HZ3 HB3 hmay
   generalize dL n (eh x) = pb at *
   go_wp2_with (first | (refine az rfl (aR (c := pb) rfl rfl rfl ?_) ?_; (with_reducible exact HR5.out)) | fail)
   refine bodyPost_ret (bZ rfl _ _ _ rfl (World.rangeAt_setCells_same _ _ _ _ (by rw [aA]; exact HR5.out))) rfl ⟨by rw [HPB.out, HPE.out]; rfl, below_setCells HB5.out (Nat.le_succ _) _⟩
  ·have hm' : dq x = false := by simpa using hm
   have hmay : ¬ aN.may ⟨n, x⟩ = true := by rw [dM, hm', Bool.and_false]; decide
   have HPB := af (aN.pB_no hmay)
   have HPE := af (aN.pE_no hmay)
   rw [hm']
   clear hm hm' hmay
   go_wp2_with (first | (refine ai rfl (b8 (c := ap) (parts := []) rfl rfl) ?_) | (refine az rfl (aR (c := ap) rfl rfl rfl ?_) ?_; (with_reducible exact HR2.out)) | fail)
   refine bodyPost_ret (bZ rfl _ _ _ rfl (World.rangeAt_setCells_same _ _ _ _ (by rw [aA]; exact HR2.out))) rfl ⟨by rw [HPB.out, HPE.out]; rfl, below_setCells HB2.out (Nat.le_succ _) _⟩
 ·have hev' : evB n = false := by simpa using hev
  have hmay : ¬ aN.may ⟨n, x⟩ = true := by rw [dM, hev', Bool.false_and]; decide
  have HPB := af (aN.pB_no hmay)
  have HPE := af (aN.pE_no hmay)
  rw [hev']
  clear hev hev' hmay
  go_wp2_with (first | (refine ai rfl (b8 (c := ap) (parts := []) rfl rfl) ?_) | (refine az rfl (aR (c := ap) rfl rfl rfl ?_) ?_; (with_reducible exact HR.out)) | fail)
  refine bodyPost_ret (bZ rfl _ _ _ rfl (World.rangeAt_setCells_same _ _ _ _ (by rw [aA]; exact HR.out))) rfl ⟨by rw [HPB.out, HPE.out]; rfl, below_setCells HB.out (Nat.le_succ _) _⟩
structure MgW (w w3 : World) (g s : Nat) (l : List UInt8) (y : Mrk) : Prop where
 row : bR w3 g 5 l
 sup : bP w3 s y
 res : w3.there (w.heap.size + 1) 0 4
 bel : Below w.heap.size w w3
 lt : w.heap.size + 1 < w3.heap.size
theorem MgW.keep {w w3 w4 : World} {g s : Nat} {l : List UInt8} {y : Mrk} (h : MgW w w3 g s l y) (hb : Below w3.heap.size w3 w4) : MgW w w4 g s l y :=
 ⟨h.row.below h.row.lt hb, h.sup.below (aK h.sup) hb, aO h.res h.lt hb, h.bel.trans (hb.mono h.bel.size), Nat.lt_of_lt_of_le h.lt hb.size⟩
set_option maxHeartbeats 1000000 in
theorem pmget_seal (b : Blk) (w : World) (T : TabM w) (h : cu b.toList ≠ 0) : Calls Tryz.prog 108 #[blk b] w fun e w' => e = .returned (.tuple #[.int .u64 (0 : Nat), mrk br, .int .i64 (cu b.toList : Nat)]) ∧ Below w.heap.size w w' := by
 obtain ⟨n, hn⟩ : ∃ n, cP b.toList = n := ⟨_, rfl⟩
 obtain ⟨l, hl⟩ : ∃ l, cv b.toList = l := ⟨_, rfl⟩
 have h1 := (Below.refl w.heap.size w).alloc (Nat.le_refl _) (.cells (cel b).toArray 29)
 have h2 := h1.alloc h1.size (.cells (a8 br).toArray 32)
 have HA : Hid (((w.alloc (.cells (cel b).toArray 29)).alloc (.cells (a8 br).toArray 32)).rangeAt w.heap.size 0 (cel b)) := af (World.rangeAt_alloc (cf w (cel b) 29) _)
 have hsn := bP.new (w.alloc (.cells (cel b).toArray 29)) br
 rw [World.size_alloc] at hsn
 have HR := af hsn.there
 have HZ := af (aK hsn)
 have HB := af h2
 have HT := af (T.below h2)
 have HN := af hn
 have HL := af hl
 clear h1 h2 hsn T
 obtain ⟨E, hE⟩ : ∃ E, cu b.toList = E := ⟨_, rfl⟩
 rw [hE] at h
 have HE := af hE
 have hne : ((E : Int) != 0) = true := by simp; omega
 clear hE hn hl
 go_enter Tryz.func108, Tryz.ntmps108
 go_wp2_with (first | (refine ai rfl (bE rfl rfl) ?_) | (refine ai rfl (bG rfl) ?_) | (refine ai rfl (aS (c := b) rfl rfl ?_) ?_; (with_reducible exact HA.out)) | fail)
 try simp only [World.size_alloc]
 generalize (w.alloc (.cells (cel b).toArray 29)).alloc (.cells (a8 br).toArray 32) = w0 at *
 refine (eY b _ w0 (af rfl) HT.out.tab).mono ?_
 rintro e w1 ⟨v, rfl, hv, hb⟩
 rw [HN.out]
 rw [HE.out]
 have HR1 := af (aO HR.out HZ.out hb)
 have HB1 := af (HB.out.trans (hb.mono HB.out.size))
 clear hv hb HA HR HB
 go_wp2_with (first | (refine ai rfl (d8 rfl) ?_) | (refine az rfl (b7 (c := br) rfl rfl rfl ?_) ?_; (with_reducible exact HR1.out)) | fail)
 refine bodyPost_ret (de (t := 32) (cs := a8 br) rfl _ _ _ rfl ?h1 Tryz.underlying32 rfl ?h2) rfl ⟨by rw [HE.out]; rfl, ?h3⟩
 case h1 => exact World.rangeAt_setCells_same _ _ _ _ HR1.out
 case h2 => exact ec
 case h3 => exact below_setCells HB1.out (Nat.le_succ _) _
set_option maxHeartbeats 2000000 in
theorem pmget_ev (b : Blk) (w : World) (T : TabM w) (h0 : cu b.toList = 0) (hev : evB (cP b.toList) = false) : Calls Tryz.prog 108 #[blk b] w fun e w' => e = .returned (.tuple #[.int .u64 (0 : Nat), mrk br, .int .i64 (5 : Nat)]) ∧ Below w.heap.size w w' := by
 obtain ⟨n, hn⟩ : ∃ n, cP b.toList = n := ⟨_, rfl⟩
 obtain ⟨l, hl⟩ : ∃ l, cv b.toList = l := ⟨_, rfl⟩
 have h1 := (Below.refl w.heap.size w).alloc (Nat.le_refl _) (.cells (cel b).toArray 29)
 have h2 := h1.alloc h1.size (.cells (a8 br).toArray 32)
 have HA : Hid (((w.alloc (.cells (cel b).toArray 29)).alloc (.cells (a8 br).toArray 32)).rangeAt w.heap.size 0 (cel b)) := af (World.rangeAt_alloc (cf w (cel b) 29) _)
 have hsn := bP.new (w.alloc (.cells (cel b).toArray 29)) br
 rw [World.size_alloc] at hsn
 have HR := af hsn.there
 have HZ := af (aK hsn)
 have HB := af h2
 have HT := af (T.below h2)
 have HN := af hn
 have HL := af hl
 clear h1 h2 hsn T
 rw [hn] at hev
 have HEV := af hev
 clear hev
 clear hn hl
 go_enter Tryz.func108, Tryz.ntmps108
 go_wp2_with (first | (refine ai rfl (bE rfl rfl) ?_) | (refine ai rfl (bG rfl) ?_) | (refine ai rfl (aS (c := b) rfl rfl ?_) ?_; (with_reducible exact HA.out)) | fail)
 try simp only [World.size_alloc]
 generalize (w.alloc (.cells (cel b).toArray 29)).alloc (.cells (a8 br).toArray 32) = w0 at *
 refine (eY b _ w0 (af rfl) HT.out.tab).mono ?_
 rintro e w1 ⟨v, rfl, hv, hb⟩
 rw [HN.out]
 rw [h0]
 have hll : l.length = 44 := by rw [← HL.out]; exact dA h0
 have HLL := af hll
 rw [HL.out] at hv
 obtain ⟨g, hve, hrow⟩ : ∃ g, v = .slice (some ⟨g, 0, none⟩) 44 44 ∧ bR w1 g 5 l := by
  rcases hv with ⟨_, rfl⟩ | ⟨g, e, _, hr, _⟩
  ·simp at hll
  ·rw [hll] at e; exact ⟨g, e, hr⟩
 subst hve
 have HR1 := af (aO HR.out HZ.out hb)
 have HB1 := af (HB.out.trans (hb.mono HB.out.size))
 have HZ1 : Hid (w.heap.size + 1 < w1.heap.size) := af (Nat.lt_of_lt_of_le HZ.out hb.size)
 have HRW := af hrow
 have hrd := hrow.rd (p := 0) (k := 44) (by rw [hll]; omega)
 rw [df hll] at hrd
 have HRD := af hrd
 have HT1 := af (HT.out.below hb)
 clear hv hb HA HR HB HZ hll h0 hrow hrd
 go_wp2_with fail
 refine (pmtold _ 44 l w1 HT1.out.siz HRD.out).mono ?_
 rintro e w2 ⟨rfl, hb⟩
 have hb3 := hb.alloc hb.size (.cells (a8 (ci l)).toArray 32)
 have HW3 : Hid (MgW w (w2.alloc (.cells (a8 (ci l)).toArray 32)) g w2.heap.size l (ci l)) := af ⟨HRW.out.below HRW.out.lt hb3, bP.new w2 _, aO HR1.out HZ1.out hb3, HB1.out.trans (hb3.mono HB1.out.size), Nat.lt_of_lt_of_le HZ1.out hb3.size⟩
 have HI : Hid ((ci l).fit) := af (told_fitM HLL.out)
 have HSZ3 := af (HT1.out.below hb3).siz
 clear hb hb3 HRW HR1 HB1 HZ1 HRD HT1
 obtain ⟨y, hy⟩ : ∃ y, ci l = y := ⟨_, rfl⟩
 have HY := af hy
 rw [hy] at HW3 HI HSZ3
 rw [hy]
 clear hy
 have HFL := af (dw y)
 go_upto_region 5 with (first | (refine ai rfl (bG rfl) ?_) | (refine az rfl (cX rfl rfl rfl) ?_) | fail)
 generalize w2.alloc (.cells (a8 y).toArray 32) = w3 at *
 have HS3 := af HW3.out.sup
 have HR3 := af HW3.out.row
 generalize w2.heap.size = s at *
 refine aI (B := w3.heap.size) (by kernel_rfl) ?_
 refine ao rfl (fun w' hw => aj rfl (ev rfl)) ?_;simp only [aa]
 refine a9 rfl (fun _ => av Tryz.call143 rfl (evc (ev rfl) evn)) (aW (Nat.le_refl _) fun w' hw => pcount_d n w' HEV.out) ?_;simp only [aa]
 refine ao (v := .bool true) rfl (fun w' hw => bf false rfl (ev rfl)) ?_;simp only [aa]
 refine cI 3 (v := .bool true) rfl (fun w' hw => aj rfl (ev rfl)) (by kernel_rfl) ?_
 simp only [aJ, ae, aa]
 refine ao (v := .bool true) rfl (fun w' hw => aG rfl (ev rfl) evk) ?_;simp only [aa]
 refine cI 6 (v := .bool true) rfl (fun w' hw => aj rfl (ev rfl)) (by kernel_rfl) ?_
 simp only [aJ, ae, aa]
 refine ao (v := .bool true) rfl (fun w' hw => aG rfl (ev rfl) evk) ?_;simp only [aa]
 refine wpQuiet_nil ?_
 intro w4 hw
 have HW4 := af (HW3.out.keep hw)
 have HR4 := af HW4.out.res
 have HB4 := af HW4.out.bel
 clear HW3 HS3 HR3 hw
 go_wp2_with (first | (refine ai rfl (d8 rfl) ?_) | (refine az rfl (b7 (c := br) rfl rfl rfl ?_) ?_; (with_reducible exact HR4.out)) | fail)
 refine bodyPost_ret (de (t := 32) (cs := a8 br) rfl _ _ _ rfl ?h1 Tryz.underlying32 rfl ?h2) rfl ⟨rfl, ?h3⟩
 case h1 => exact World.rangeAt_setCells_same _ _ _ _ HR4.out
 case h2 => exact ec
 case h3 => exact below_setCells HB4.out (Nat.le_succ _) _
set_option maxHeartbeats 2000000 in
theorem pmget_may (b : Blk) (w : World) (T : TabM w) (h0 : cu b.toList = 0) (hev : evB (cP b.toList) = true) (hm : dq (ci (cv b.toList)) = false) : Calls Tryz.prog 108 #[blk b] w fun e w' => e = .returned (.tuple #[.int .u64 (0 : Nat), mrk br, .int .i64 (5 : Nat)]) ∧ Below w.heap.size w w' := by
 obtain ⟨n, hn⟩ : ∃ n, cP b.toList = n := ⟨_, rfl⟩
 obtain ⟨l, hl⟩ : ∃ l, cv b.toList = l := ⟨_, rfl⟩
 have h1 := (Below.refl w.heap.size w).alloc (Nat.le_refl _) (.cells (cel b).toArray 29)
 have h2 := h1.alloc h1.size (.cells (a8 br).toArray 32)
 have HA : Hid (((w.alloc (.cells (cel b).toArray 29)).alloc (.cells (a8 br).toArray 32)).rangeAt w.heap.size 0 (cel b)) := af (World.rangeAt_alloc (cf w (cel b) 29) _)
 have hsn := bP.new (w.alloc (.cells (cel b).toArray 29)) br
 rw [World.size_alloc] at hsn
 have HR := af hsn.there
 have HZ := af (aK hsn)
 have HB := af h2
 have HT := af (T.below h2)
 have HN := af hn
 have HL := af hl
 clear h1 h2 hsn T
 rw [hn] at hev
 rw [hl] at hm
 have HEV := af hev
 have HM := af hm
 clear hev hm
 clear hn hl
 go_enter Tryz.func108, Tryz.ntmps108
 go_wp2_with (first | (refine ai rfl (bE rfl rfl) ?_) | (refine ai rfl (bG rfl) ?_) | (refine ai rfl (aS (c := b) rfl rfl ?_) ?_; (with_reducible exact HA.out)) | fail)
 try simp only [World.size_alloc]
 generalize (w.alloc (.cells (cel b).toArray 29)).alloc (.cells (a8 br).toArray 32) = w0 at *
 refine (eY b _ w0 (af rfl) HT.out.tab).mono ?_
 rintro e w1 ⟨v, rfl, hv, hb⟩
 rw [HN.out]
 rw [h0]
 have hll : l.length = 44 := by rw [← HL.out]; exact dA h0
 have HLL := af hll
 rw [HL.out] at hv
 obtain ⟨g, hve, hrow⟩ : ∃ g, v = .slice (some ⟨g, 0, none⟩) 44 44 ∧ bR w1 g 5 l := by
  rcases hv with ⟨_, rfl⟩ | ⟨g, e, _, hr, _⟩
  ·simp at hll
  ·rw [hll] at e; exact ⟨g, e, hr⟩
 subst hve
 have HR1 := af (aO HR.out HZ.out hb)
 have HB1 := af (HB.out.trans (hb.mono HB.out.size))
 have HZ1 : Hid (w.heap.size + 1 < w1.heap.size) := af (Nat.lt_of_lt_of_le HZ.out hb.size)
 have HRW := af hrow
 have hrd := hrow.rd (p := 0) (k := 44) (by rw [hll]; omega)
 rw [df hll] at hrd
 have HRD := af hrd
 have HT1 := af (HT.out.below hb)
 clear hv hb HA HR HB HZ hll h0 hrow hrd
 go_wp2_with fail
 refine (pmtold _ 44 l w1 HT1.out.siz HRD.out).mono ?_
 rintro e w2 ⟨rfl, hb⟩
 have hb3 := hb.alloc hb.size (.cells (a8 (ci l)).toArray 32)
 have HW3 : Hid (MgW w (w2.alloc (.cells (a8 (ci l)).toArray 32)) g w2.heap.size l (ci l)) := af ⟨HRW.out.below HRW.out.lt hb3, bP.new w2 _, aO HR1.out HZ1.out hb3, HB1.out.trans (hb3.mono HB1.out.size), Nat.lt_of_lt_of_le HZ1.out hb3.size⟩
 have HI : Hid ((ci l).fit) := af (told_fitM HLL.out)
 have HSZ3 := af (HT1.out.below hb3).siz
 clear hb hb3 HRW HR1 HB1 HZ1 HRD HT1
 obtain ⟨y, hy⟩ : ∃ y, ci l = y := ⟨_, rfl⟩
 have HY := af hy
 rw [hy] at HW3 HI HSZ3 HM
 rw [hy]
 clear hy
 have HFL := af (dw y)
 go_upto_region 5 with (first | (refine ai rfl (bG rfl) ?_) | (refine az rfl (cX rfl rfl rfl) ?_) | fail)
 generalize w2.alloc (.cells (a8 y).toArray 32) = w3 at *
 have HS3 := af HW3.out.sup
 have HR3 := af HW3.out.row
 generalize w2.heap.size = s at *
 refine aI (B := w3.heap.size) (by kernel_rfl) ?_
 refine ao rfl (fun w' hw => aj rfl (ev rfl)) ?_;simp only [aa]
 refine a9 rfl (fun _ => av Tryz.call143 rfl (evc (ev rfl) evn)) (aW (Nat.le_refl _) fun w' hw => pcount_d n w' HEV.out) ?_;simp only [aa]
 refine ao (v := .bool false) rfl (fun w' hw => bf true rfl (ev rfl)) ?_;simp only [aa]
 refine ao (v := .bool false) rfl (fun w' hw => aj rfl (ev rfl)) ?_;simp only [aa]
 refine ao gr (fun w' hw => bk (c := y) rfl (ev rfl) ((HS3.out.below (aK HS3.out) hw).range)) ?_;simp only [aa]
 refine a9 gr (fun _ => av Tryz.call99 rfl (evc (ev rfl) evn)) (aW (Nat.le_refl _) fun w' hw => pmmay_b y w' HM.out) ?_;simp only [aa]
 refine ao (v := .bool true) gr (fun w' hw => bf false rfl (ev rfl)) ?_;simp only [aa]
 refine ao (v := .bool true) rfl (fun w' hw => aE rfl (ev rfl) (ev rfl)) ?_;simp only [aa]
 refine cI 6 (v := .bool true) rfl (fun w' hw => aj rfl (ev rfl)) (by kernel_rfl) ?_
 simp only [aJ, ae, aa]
 refine ao (v := .bool true) rfl (fun w' hw => aG rfl (ev rfl) evk) ?_;simp only [aa]
 refine wpQuiet_nil ?_
 intro w4 hw
 have HW4 := af (HW3.out.keep hw)
 have HR4 := af HW4.out.res
 have HB4 := af HW4.out.bel
 clear HW3 HS3 HR3 hw
 go_wp2_with (first | (refine ai rfl (d8 rfl) ?_) | (refine az rfl (b7 (c := br) rfl rfl rfl ?_) ?_; (with_reducible exact HR4.out)) | fail)
 refine bodyPost_ret (de (t := 32) (cs := a8 br) rfl _ _ _ rfl ?h1 Tryz.underlying32 rfl ?h2) rfl ⟨rfl, ?h3⟩
 case h1 => exact World.rangeAt_setCells_same _ _ _ _ HR4.out
 case h2 => exact ec
 case h3 => exact below_setCells HB4.out (Nat.le_succ _) _
set_option maxHeartbeats 2000000 in
theorem pmget_un (b : Blk) (w : World) (T : TabM w) (h0 : cu b.toList = 0) (hev : evB (cP b.toList) = true) (hm : dq (ci (cv b.toList)) = true) (hd : cW (ci (cv b.toList)) ≠ cv b.toList) : Calls Tryz.prog 108 #[blk b] w fun e w' => e = .returned (.tuple #[.int .u64 (0 : Nat), mrk br, .int .i64 (5 : Nat)]) ∧ Below w.heap.size w w' := by
 obtain ⟨n, hn⟩ : ∃ n, cP b.toList = n := ⟨_, rfl⟩
 obtain ⟨l, hl⟩ : ∃ l, cv b.toList = l := ⟨_, rfl⟩
 have h1 := (Below.refl w.heap.size w).alloc (Nat.le_refl _) (.cells (cel b).toArray 29)
 have h2 := h1.alloc h1.size (.cells (a8 br).toArray 32)
 have HA : Hid (((w.alloc (.cells (cel b).toArray 29)).alloc (.cells (a8 br).toArray 32)).rangeAt w.heap.size 0 (cel b)) := af (World.rangeAt_alloc (cf w (cel b) 29) _)
 have hsn := bP.new (w.alloc (.cells (cel b).toArray 29)) br
 rw [World.size_alloc] at hsn
 have HR := af hsn.there
 have HZ := af (aK hsn)
 have HB := af h2
 have HT := af (T.below h2)
 have HN := af hn
 have HL := af hl
 clear h1 h2 hsn T
 rw [hn] at hev
 rw [hl] at hm hd
 have HEV := af hev
 have HM := af hm
 have HD : Hid (decide (cW (ci l) = l) = false) := af (decide_eq_false hd)
 clear hev hm hd
 clear hn hl
 go_enter Tryz.func108, Tryz.ntmps108
 go_wp2_with (first | (refine ai rfl (bE rfl rfl) ?_) | (refine ai rfl (bG rfl) ?_) | (refine ai rfl (aS (c := b) rfl rfl ?_) ?_; (with_reducible exact HA.out)) | fail)
 try simp only [World.size_alloc]
 generalize (w.alloc (.cells (cel b).toArray 29)).alloc (.cells (a8 br).toArray 32) = w0 at *
 refine (eY b _ w0 (af rfl) HT.out.tab).mono ?_
 rintro e w1 ⟨v, rfl, hv, hb⟩
 rw [HN.out]
 rw [h0]
 have hll : l.length = 44 := by rw [← HL.out]; exact dA h0
 have HLL := af hll
 rw [HL.out] at hv
 obtain ⟨g, hve, hrow⟩ : ∃ g, v = .slice (some ⟨g, 0, none⟩) 44 44 ∧ bR w1 g 5 l := by
  rcases hv with ⟨_, rfl⟩ | ⟨g, e, _, hr, _⟩
  ·simp at hll
  ·rw [hll] at e; exact ⟨g, e, hr⟩
 subst hve
 have HR1 := af (aO HR.out HZ.out hb)
 have HB1 := af (HB.out.trans (hb.mono HB.out.size))
 have HZ1 : Hid (w.heap.size + 1 < w1.heap.size) := af (Nat.lt_of_lt_of_le HZ.out hb.size)
 have HRW := af hrow
 have hrd := hrow.rd (p := 0) (k := 44) (by rw [hll]; omega)
 rw [df hll] at hrd
 have HRD := af hrd
 have HT1 := af (HT.out.below hb)
 clear hv hb HA HR HB HZ hll h0 hrow hrd
 go_wp2_with fail
 refine (pmtold _ 44 l w1 HT1.out.siz HRD.out).mono ?_
 rintro e w2 ⟨rfl, hb⟩
 have hb3 := hb.alloc hb.size (.cells (a8 (ci l)).toArray 32)
 have HW3 : Hid (MgW w (w2.alloc (.cells (a8 (ci l)).toArray 32)) g w2.heap.size l (ci l)) := af ⟨HRW.out.below HRW.out.lt hb3, bP.new w2 _, aO HR1.out HZ1.out hb3, HB1.out.trans (hb3.mono HB1.out.size), Nat.lt_of_lt_of_le HZ1.out hb3.size⟩
 have HI : Hid ((ci l).fit) := af (told_fitM HLL.out)
 have HSZ3 := af (HT1.out.below hb3).siz
 clear hb hb3 HRW HR1 HB1 HZ1 HRD HT1
 obtain ⟨y, hy⟩ : ∃ y, ci l = y := ⟨_, rfl⟩
 have HY := af hy
 rw [hy] at HW3 HI HSZ3 HM HD
 rw [hy]
 clear hy
 have HFL := af (dw y)
 go_upto_region 5 with (first | (refine ai rfl (bG rfl) ?_) | (refine az rfl (cX rfl rfl rfl) ?_) | fail)
 generalize w2.alloc (.cells (a8 y).toArray 32) = w3 at *
 have HS3 := af HW3.out.sup
 have HR3 := af HW3.out.row
 generalize w2.heap.size = s at *
 refine aI (B := w3.heap.size) (by kernel_rfl) ?_
 refine ao rfl (fun w' hw => aj rfl (ev rfl)) ?_;simp only [aa]
 refine a9 rfl (fun _ => av Tryz.call143 rfl (evc (ev rfl) evn)) (aW (Nat.le_refl _) fun w' hw => pcount_d n w' HEV.out) ?_;simp only [aa]
 refine ao (v := .bool false) rfl (fun w' hw => bf true rfl (ev rfl)) ?_;simp only [aa]
 refine ao (v := .bool false) rfl (fun w' hw => aj rfl (ev rfl)) ?_;simp only [aa]
 refine ao gr (fun w' hw => bk (c := y) rfl (ev rfl) ((HS3.out.below (aK HS3.out) hw).range)) ?_;simp only [aa]
 refine a9 gr (fun _ => av Tryz.call99 rfl (evc (ev rfl) evn)) (aW (Nat.le_refl _) fun w' hw => pmmay_b y w' HM.out) ?_;simp only [aa]
 refine ao (v := .bool false) gr (fun w' hw => bf true rfl (ev rfl)) ?_;simp only [aa]
 refine ao (v := .bool false) rfl (fun w' hw => aE rfl (ev rfl) (ev rfl)) ?_;simp only [aa]
 refine ao (v := .bool false) rfl (fun w' hw => aj rfl (ev rfl)) ?_;simp only [aa]
 refine ao gr (fun w' hw => bk (c := y) rfl (ev rfl) ((HS3.out.below (aK HS3.out) hw).range)) ?_;simp only [aa]
 refine a9 gr (fun _ => av Tryz.call144 rfl (evc (ev rfl) evn)) (aW (Nat.le_refl _) fun w' hw => pmlaid y w' (HSZ3.out.below hw) HI.out HM.out) ?_;simp only [aa]
 refine ao gr (fun w' hw => aj rfl (ev rfl)) ?_;simp only [aa]
 refine ao gr (fun w' hw => exec_s2am rfl (ev rfl)) ?_;simp only [aa]
 refine ao gr (fun w' hw => exec_load44m HLL.out rfl (ev rfl) (dt (HR3.out.below HR3.out.lt hw))) ?_;simp only [aa]
 refine ao (v := .bool true) gr (fun w' hw => exec_ne44m false HFL.out HLL.out rfl (ev rfl) (ev rfl) HD.out) ?_;simp only [aa]
 refine ao (v := .bool true) rfl (fun w' hw => aE rfl (ev rfl) (ev rfl)) ?_;simp only [aa]
 refine wpQuiet_nil ?_
 intro w4 hw
 have HW4 := af (HW3.out.keep hw)
 have HR4 := af HW4.out.res
 have HB4 := af HW4.out.bel
 clear HW3 HS3 HR3 hw
 go_wp2_with (first | (refine ai rfl (d8 rfl) ?_) | (refine az rfl (b7 (c := br) rfl rfl rfl ?_) ?_; (with_reducible exact HR4.out)) | fail)
 refine bodyPost_ret (de (t := 32) (cs := a8 br) rfl _ _ _ rfl ?h1 Tryz.underlying32 rfl ?h2) rfl ⟨rfl, ?h3⟩
 case h1 => exact World.rangeAt_setCells_same _ _ _ _ HR4.out
 case h2 => exact ec
 case h3 => exact below_setCells HB4.out (Nat.le_succ _) _
set_option maxHeartbeats 2000000 in
theorem pmget_yes (b : Blk) (w : World) (T : TabM w) (h0 : cu b.toList = 0) (hev : evB (cP b.toList) = true) (hm : dq (ci (cv b.toList)) = true) (hd : cW (ci (cv b.toList)) = cv b.toList) : Calls Tryz.prog 108 #[blk b] w fun e w' => e = .returned (.tuple #[.int .u64 (cP b.toList : Nat), mrk (ci (cv b.toList)), .int .i64 (0 : Nat)]) ∧ Below w.heap.size w w' := by
 obtain ⟨n, hn⟩ : ∃ n, cP b.toList = n := ⟨_, rfl⟩
 obtain ⟨l, hl⟩ : ∃ l, cv b.toList = l := ⟨_, rfl⟩
 have h1 := (Below.refl w.heap.size w).alloc (Nat.le_refl _) (.cells (cel b).toArray 29)
 have h2 := h1.alloc h1.size (.cells (a8 br).toArray 32)
 have HA : Hid (((w.alloc (.cells (cel b).toArray 29)).alloc (.cells (a8 br).toArray 32)).rangeAt w.heap.size 0 (cel b)) := af (World.rangeAt_alloc (cf w (cel b) 29) _)
 have hsn := bP.new (w.alloc (.cells (cel b).toArray 29)) br
 rw [World.size_alloc] at hsn
 have HR := af hsn.there
 have HZ := af (aK hsn)
 have HB := af h2
 have HT := af (T.below h2)
 have HN := af hn
 have HL := af hl
 clear h1 h2 hsn T
 rw [hn] at hev
 rw [hl] at hm hd
 have HEV := af hev
 have HM := af hm
 have HD : Hid (decide (cW (ci l) = l) = true) := af (decide_eq_true hd)
 clear hev hm hd
 clear hn hl
 go_enter Tryz.func108, Tryz.ntmps108
 go_wp2_with (first | (refine ai rfl (bE rfl rfl) ?_) | (refine ai rfl (bG rfl) ?_) | (refine ai rfl (aS (c := b) rfl rfl ?_) ?_; (with_reducible exact HA.out)) | fail)
 try simp only [World.size_alloc]
 generalize (w.alloc (.cells (cel b).toArray 29)).alloc (.cells (a8 br).toArray 32) = w0 at *
 refine (eY b _ w0 (af rfl) HT.out.tab).mono ?_
 rintro e w1 ⟨v, rfl, hv, hb⟩
 rw [HN.out]
 rw [h0]
 have hll : l.length = 44 := by rw [← HL.out]; exact dA h0
 have HLL := af hll
 rw [HL.out] at hv
 obtain ⟨g, hve, hrow⟩ : ∃ g, v = .slice (some ⟨g, 0, none⟩) 44 44 ∧ bR w1 g 5 l := by
  rcases hv with ⟨_, rfl⟩ | ⟨g, e, _, hr, _⟩
  ·simp at hll
  ·rw [hll] at e; exact ⟨g, e, hr⟩
 subst hve
 have HR1 := af (aO HR.out HZ.out hb)
 have HB1 := af (HB.out.trans (hb.mono HB.out.size))
 have HZ1 : Hid (w.heap.size + 1 < w1.heap.size) := af (Nat.lt_of_lt_of_le HZ.out hb.size)
 have HRW := af hrow
 have hrd := hrow.rd (p := 0) (k := 44) (by rw [hll]; omega)
 rw [df hll] at hrd
 have HRD := af hrd
 have HT1 := af (HT.out.below hb)
 clear hv hb HA HR HB HZ hll h0 hrow hrd
 go_wp2_with fail
 refine (pmtold _ 44 l w1 HT1.out.siz HRD.out).mono ?_
 rintro e w2 ⟨rfl, hb⟩
 have hb3 := hb.alloc hb.size (.cells (a8 (ci l)).toArray 32)
 have HW3 : Hid (MgW w (w2.alloc (.cells (a8 (ci l)).toArray 32)) g w2.heap.size l (ci l)) := af ⟨HRW.out.below HRW.out.lt hb3, bP.new w2 _, aO HR1.out HZ1.out hb3, HB1.out.trans (hb3.mono HB1.out.size), Nat.lt_of_lt_of_le HZ1.out hb3.size⟩
 have HI : Hid ((ci l).fit) := af (told_fitM HLL.out)
 have HSZ3 := af (HT1.out.below hb3).siz
 clear hb hb3 HRW HR1 HB1 HZ1 HRD HT1
 obtain ⟨y, hy⟩ : ∃ y, ci l = y := ⟨_, rfl⟩
 have HY := af hy
 rw [hy] at HW3 HI HSZ3 HM HD
 rw [hy]
 clear hy
 have HFL := af (dw y)
 go_upto_region 5 with (first | (refine ai rfl (bG rfl) ?_) | (refine az rfl (cX rfl rfl rfl) ?_) | fail)
 generalize w2.alloc (.cells (a8 y).toArray 32) = w3 at *
 have HS3 := af HW3.out.sup
 have HR3 := af HW3.out.row
 generalize w2.heap.size = s at *
 refine aI (B := w3.heap.size) (by kernel_rfl) ?_
 refine ao rfl (fun w' hw => aj rfl (ev rfl)) ?_;simp only [aa]
 refine a9 rfl (fun _ => av Tryz.call143 rfl (evc (ev rfl) evn)) (aW (Nat.le_refl _) fun w' hw => pcount_d n w' HEV.out) ?_;simp only [aa]
 refine ao (v := .bool false) rfl (fun w' hw => bf true rfl (ev rfl)) ?_;simp only [aa]
 refine ao (v := .bool false) rfl (fun w' hw => aj rfl (ev rfl)) ?_;simp only [aa]
 refine ao gr (fun w' hw => bk (c := y) rfl (ev rfl) ((HS3.out.below (aK HS3.out) hw).range)) ?_;simp only [aa]
 refine a9 gr (fun _ => av Tryz.call99 rfl (evc (ev rfl) evn)) (aW (Nat.le_refl _) fun w' hw => pmmay_b y w' HM.out) ?_;simp only [aa]
 refine ao (v := .bool false) gr (fun w' hw => bf true rfl (ev rfl)) ?_;simp only [aa]
 refine ao (v := .bool false) rfl (fun w' hw => aE rfl (ev rfl) (ev rfl)) ?_;simp only [aa]
 refine ao (v := .bool false) rfl (fun w' hw => aj rfl (ev rfl)) ?_;simp only [aa]
 refine ao gr (fun w' hw => bk (c := y) rfl (ev rfl) ((HS3.out.below (aK HS3.out) hw).range)) ?_;simp only [aa]
 refine a9 gr (fun _ => av Tryz.call144 rfl (evc (ev rfl) evn)) (aW (Nat.le_refl _) fun w' hw => pmlaid y w' (HSZ3.out.below hw) HI.out HM.out) ?_;simp only [aa]
 refine ao gr (fun w' hw => aj rfl (ev rfl)) ?_;simp only [aa]
 refine ao gr (fun w' hw => exec_s2am rfl (ev rfl)) ?_;simp only [aa]
 refine ao gr (fun w' hw => exec_load44m HLL.out rfl (ev rfl) (dt (HR3.out.below HR3.out.lt hw))) ?_;simp only [aa]
 refine ao (v := .bool false) gr (fun w' hw => exec_ne44m true HFL.out HLL.out rfl (ev rfl) (ev rfl) HD.out) ?_;simp only [aa]
 refine ao (v := .bool false) rfl (fun w' hw => aE rfl (ev rfl) (ev rfl)) ?_;simp only [aa]
 refine wpQuiet_nil ?_
 intro w4 hw
 have HW4 := af (HW3.out.keep hw)
 have HR4 := af HW4.out.res
 have HB4 := af HW4.out.bel
 have HLD := af HW4.out.sup.range
 clear HW3 HS3 HR3 hw
 go_wp2_with fail
 refine wp_region_still_tail 3 (by kernel_rfl) (by kernel_rfl) ?_
 simp only [ae]
 refine aF rfl (aj rfl (ev rfl)) ?_;simp only [aa]
 refine aF rfl (bk (c := y) rfl (ev rfl) HLD.out) ?_;simp only [aa]
 refine aF rfl (aq rfl (ev rfl)) ?_;simp only [aa]
 refine wpStill_nil ?_
 change wpList _ _ _ _ _ (World.drew _)
 refine aV rfl (b7 (c := y) rfl (ev rfl) (ev rfl) HR4.out) ?_;simp only [aa]
 refine al rfl (aq rfl evk) ?_;simp only [aa]
 refine ah ?_
 go_wp2_with fail
 refine bodyPost_ret (de (t := 32) (cs := a8 y) rfl _ _ _ rfl ?h1 Tryz.underlying32 rfl ?h2) rfl ⟨by rw [HN.out, HL.out, HY.out]; rfl, ?h3⟩
 case h1 => exact World.rangeAt_setCells_same _ _ _ _ HR4.out
 case h2 => exact ec
 case h3 => exact below_setCells (bd HB4.out) (Nat.le_succ _) _
theorem pmget (b : Blk) (w : World) (T : TabM w) : Calls Tryz.prog 108 #[blk b] w fun e w' => e = .returned (.tuple #[.int .u64 (aN.gN b : Nat), mrk (aN.gX b).m, .int .i64 (aN.gE b : Nat)]) ∧ Below w.heap.size w w' := by
 by_cases h0 : cu b.toList = 0
 ·by_cases hev : evB (cP b.toList) = true
  ·by_cases hm : dq (ci (cv b.toList)) = true
   ·by_cases hd : cW (ci (cv b.toList)) = cv b.toList
    ·have hE := aN.gE_ok h0 (aN.ef.2 ⟨by show (evB (cP b.toList) && dq (ci (cv b.toList))) = true; rw [hev, hm]; rfl, hd⟩)
     rw [aN.gN_of hE, aN.gX_of hE, hE]
     exact pmget_yes b w T h0 hev hm hd
    ·have hE := aN.gE_form h0 (fun h => hd (aN.ef.1 h).2)
     rw [aN.gN_no (by omega), aN.gX_no (by omega), hE]
     exact pmget_un b w T h0 hev hm hd
   ·have hE := aN.gE_form h0 (fun h => hm (by have this : (evB (cP b.toList) && dq (ci (cv b.toList))) = true := (aN.ef.1 h).1; rw [Bool.and_eq_true] at this; exact this.2))
    rw [aN.gN_no (by omega), aN.gX_no (by omega), hE]
    exact pmget_may b w T h0 hev (by simpa using hm)
  ·have hE := aN.gE_form h0 (fun h => hev (by have this : (evB (cP b.toList) && dq (ci (cv b.toList))) = true := (aN.ef.1 h).1; rw [Bool.and_eq_true] at this; exact this.1))
   rw [aN.gN_no (by omega), aN.gX_no (by omega), hE]
   exact pmget_ev b w T h0 (by simpa using hev)
 ·have hE := aN.gE_seal h0
  rw [aN.gN_no (by omega), aN.gX_no (by omega), hE]
  exact pmget_seal b w T h0
def dP (x : Nte) : Nat → List UInt8
 | 0 => []
 | 1 => aX 8 8 x.pos
 | 2 => aX 8 8 x.pos ++ aX 8 2 x.cells.toNat
 | _ => aX 8 8 x.pos ++ aX 8 2 x.cells.toNat ++ aX 8 4 x.sum
theorem preNt_all (x : Nte) : cy (dP x 3) = cw x := by
 unfold cw dG dP
 simp only [List.append_assoc]
theorem preNt_1 (x : Nte) : splice (cy (dP x 0)) 0 (aX 8 8 x.pos) = cy (dP x 1) := eH (a := []) (by simp [ay])
theorem preNt_2 (x : Nte) : splice (cy (dP x 1)) 8 (aX 8 2 x.cells.toNat) = cy (dP x 2) := by
 have := eH (a := dP x 1) (x := aX 8 2 x.cells.toNat) (by simp [dP, ay])
 rwa [show (dP x 1).length = 8 from ay _ _ _] at this
theorem preNt_3 (x : Nte) : splice (cy (dP x 2)) 10 (aX 8 4 x.sum) = cy (dP x 3) := by
 have := eH (a := dP x 2) (x := aX 8 4 x.sum) (by simp [dP, ay])
 rwa [show (dP x 2).length = 10 from by simp [dP, ay]] at this
theorem preNt_len (x : Nte) (k : Nat) (hk : k < 4) : (cy (dP x k)).length = 44 := by
 apply cT
 have : k = 0 ∨ k = 1 ∨ k = 2 ∨ k = 3 := by omega
 rcases this with rfl | rfl | rfl | rfl <;> simp [dP, ay]
structure LdNt (B : Nat) (w0 w : World) (r n g a b c : Nat) (l : List UInt8) : Prop where
 res : bR w r 159 z44
 num : NumAtn w n a b c
 row : bR w g 159 l
 bel : Below B w0 w
 g0 : B ≤ g
 r0 : B ≤ r
 dif : r ≠ g ∧ n ≠ g
section
variable {B : Nat} {w0 w w' : World} {r n g a b c : Nat} {l l' : List UInt8}
theorem LdNt.keep (h : LdNt B w0 w r n g a b c l) (hb : Below w.heap.size w w') (hB : B ≤ w0.heap.size) : LdNt B w0 w' r n g a b c l :=
 ⟨cj h.res hb, cj h.num hb, cj h.row hb, h.bel.trans (hb.mono (Nat.le_trans hB h.bel.size)), h.g0, h.r0, h.dif⟩
theorem LdNt.step (h : LdNt B w0 w r n g a b c l) (hr : bR w' g 159 l') (hg : w.grownBy w' (some g)) (hB : B ≤ w0.heap.size) : LdNt B w0 w' r n g a b c l' :=
 ⟨fm h.res hg h.dif.1, fm h.num hg h.dif.2, hr, h.bel.grown hg (Nat.le_trans hB h.bel.size) (fun k hk => by injection hk with e; have := h.g0; omega), h.g0, h.r0, h.dif⟩
end
def pNt : Nat → Nat
 | 0 => 0 | 1 => 8 | 2 => 10 | _ => 14
def LrNt (B : Nat) (w0 : World) (r n g : Nat) (R : Nat) (x : Nte) (p i : Value) (w : World) : Prop :=
 ∃ k, k < 4 ∧ i = .int .i64 ((k : Nat) : Int) ∧ p = .int .i64 ((pNt k : Nat) : Int) ∧ LdNt B w0 w r n g x.pos R x.sum (cy (dP x k))
theorem LrNt.four {B : Nat} {w0 w : World} {r n g R : Nat} {x : Nte} {p i : Value} (h : LrNt B w0 r n g R x p i w) :
  (i = .int .i64 0 ∧ p = .int .i64 0 ∧ LdNt B w0 w r n g x.pos R x.sum (cy (dP x 0))) ∨
  (i = .int .i64 1 ∧ p = .int .i64 8 ∧ LdNt B w0 w r n g x.pos R x.sum (cy (dP x 1))) ∨
  (i = .int .i64 2 ∧ p = .int .i64 10 ∧ LdNt B w0 w r n g x.pos R x.sum (cy (dP x 2))) ∨
  (i = .int .i64 3 ∧ p = .int .i64 14 ∧ LdNt B w0 w r n g x.pos R x.sum (cy (dP x 3))) := by
 obtain ⟨k, hk, rfl, rfl, h⟩ := h
 have : k = 0 ∨ k = 1 ∨ k = 2 ∨ k = 3 := by omega
 rcases this with rfl | rfl | rfl | rfl
 ·exact .inl ⟨rfl, rfl, h⟩
 ·exact .inr (.inl ⟨rfl, rfl, h⟩)
 ·exact .inr (.inr (.inl ⟨rfl, rfl, h⟩))
 ·exact .inr (.inr (.inr ⟨rfl, rfl, h⟩))
theorem ldNt_start (w : World) (x : Nte) (R : Nat) : LdNt w.heap.size w ((((w.alloc (.cells (aQ x).toArray 35)).alloc (.cells (vals z44).toArray 159)).alloc (.cells (ew x.pos R x.sum).toArray 187)).alloc (.cells (vals z44).toArray 159))
  (w.heap.size + 1) (w.heap.size + 1 + 1) (w.heap.size + 1 + 1 + 1) x.pos R x.sum (cy (dP x 0)) := by
 have h1 := (Below.refl w.heap.size w).alloc (Nat.le_refl _) (.cells (aQ x).toArray 35)
 have h2 := h1.alloc h1.size (.cells (vals z44).toArray 159)
 have h3 := h2.alloc h2.size (.cells (ew x.pos R x.sum).toArray 187)
 have h4 := h3.alloc h3.size (.cells (vals z44).toArray 159)
 have e1 := World.size_alloc (w := w) (o := Obj.cells (aQ x).toArray 35)
 have r1 := bR.new (w.alloc (.cells (aQ x).toArray 35)) z44 159
 rw [e1] at r1
 have e2 := World.size_alloc (w := (w.alloc (.cells (aQ x).toArray 35))) (o := Obj.cells (vals z44).toArray 159)
 have n1 : NumAtn (((w.alloc (.cells (aQ x).toArray 35)).alloc (.cells (vals z44).toArray 159)).alloc (.cells (ew x.pos R x.sum).toArray 187)) ((w.alloc (.cells (aQ x).toArray 35)).alloc (.cells (vals z44).toArray 159)).heap.size x.pos R x.sum := heap_alloc_new _ _
 rw [e2, e1] at n1
 have e3 := World.size_alloc (w := ((w.alloc (.cells (aQ x).toArray 35)).alloc (.cells (vals z44).toArray 159))) (o := Obj.cells (ew x.pos R x.sum).toArray 187)
 have g1 := bR.new (((w.alloc (.cells (aQ x).toArray 35)).alloc (.cells (vals z44).toArray 159)).alloc (.cells (ew x.pos R x.sum).toArray 187)) z44 159
 rw [e3, e2, e1] at g1
 exact ⟨(r1.past _).past _, bU n1 _, g1, h4, by omega, by omega, by omega, by omega⟩
set_option maxHeartbeats 4000000 in
theorem pntlaid (x : Nte) (w : World) (S : SizNt w) (hf : x.fit) (hx : nteB x = true) : Calls Tryz.prog 112 #[nte x] w fun e w' => e = .returned (arr (cw x)) ∧ Below w.heap.size w w' := by
 obtain ⟨-, -, -, q1, q2⟩ := eX hx
 obtain ⟨f1, f2, f3⟩ := hf
 obtain ⟨R, hR⟩ : ∃ R : Nat, x.cells.toNat = R := ⟨_, rfl⟩
 have hRr : x.cells = (R : Int) := by omega
 have hR32 : R ≤ 32 := by omega
 obtain ⟨h1, h2, h3⟩ := dm w x
 have HMK := af (h1.past (.cells (vals z44).toArray 159))
 have hc1 : ((w.alloc (.cells (aQ x).toArray 35)).alloc (.cells (vals z44).toArray 159)).cell? ⟨w.heap.size, 2, none⟩ = some (.int .i64 (R : Int)) := by rw [← hRr]; exact (h1.past _).cells.2.2.1
 have HC1 := af hc1
 have HP1 := af (preNt_1 x)
 have HP2 := af (preNt_2 x)
 have HP3 := af (preNt_3 x)
 have HPA := af (preNt_all x)
 rw [hR] at HP2
 have HLEN := fun k hk => af (preNt_len x k hk)
 have HST := af (ldNt_start w x R)
 have HSZ := af (S.below (ldNt_start w x R).bel)
 have HF2 := af f2
 have HF3 := af f3
 have HFL := af (dE x)
 clear q1 q2 f1 f2 f3 hR hRr h1 h2 h3 hc1 S hx
 go_enter Tryz.func112, Tryz.ntmps112
 go_upto_region 1 with (first | (refine ai rfl (cO rfl rfl) ?_) | (refine ai rfl (gm rfl) ?_) | fail)
 try simp only [World.size_alloc]
 obtain ⟨-, c1, -, c3⟩ := HMK.out.cells
 have c2 := HC1.out
 go_upto_region 4 with (first | (refine ai rfl (exec_faNt1 rfl rfl) ?_) | (refine ai rfl (exec_faNt2 rfl rfl) ?_) | (refine ai rfl (exec_faNt3 rfl rfl) ?_) | (refine ai rfl (fb rfl rfl HF3.out) ?_) | (refine ai rfl (exec_bldNn3 x.pos R x.sum rfl rfl rfl rfl) ?_) | (refine ai rfl (exec_allocNn rfl) ?_) | (refine az rfl (exec_fillNn (a := x.pos) (b := R) (c := x.sum) rfl rfl rfl) ?_) | (refine ai rfl (gm rfl) ?_) | fail)
 clear c1 c2 c3
 try simp only [World.size_alloc]
 generalize (((w.alloc (.cells (aQ x).toArray 35)).alloc (.cells (vals z44).toArray 159)).alloc (.cells (ew x.pos R x.sum).toArray 187)).alloc (.cells (vals z44).toArray 159) = w1 at *
 obtain ⟨B, hB⟩ : ∃ B, w.heap.size = B := ⟨_, rfl⟩
 rw [hB] at HST ⊢
 have HBB := af hB
 have HB : Hid (B ≤ w.heap.size) := af (by omega)
 clear hB HMK HC1
 obtain ⟨r, hr⟩ : ∃ r, B + 1 = r := ⟨_, rfl⟩
 rw [hr] at HST ⊢
 clear hr
 obtain ⟨n, hn⟩ : ∃ n, r + 1 = n := ⟨_, rfl⟩
 rw [hn] at HST ⊢
 clear hn
 obtain ⟨g, hg⟩ : ∃ g, n + 1 = g := ⟨_, rfl⟩
 rw [hg] at HST ⊢
 clear hg
 go_upto_region 5 with (first | (refine ai rfl (exec_loadZn rfl rfl HSZ.out) ?_) | fail)
 go_loopw [5, 20] (fun p i wr => LrNt B w r n g R x p i wr) (fun _ i _ => 3 - (intOf i).toNat)
 case atStart => exact ⟨0, by omega, rfl, rfl, HST.out⟩
 case round =>
  clear HST
  rcases hrel.four with ⟨rfl, rfl, hl⟩ | ⟨rfl, rfl, hl⟩ | ⟨rfl, rfl, hl⟩ | ⟨rfl, rfl, hl⟩
  ·have H0 := af hl
   clear hl hrel
   have cc := H0.out.num.cells.1
   go_wp2_with (first | (refine ai rfl (exec_ixZn0 rfl rfl rfl) ?_) | (refine ai rfl (exec_ixNn0 rfl rfl rfl) ?_) | fail)
   clear cc
   refine (put_ok x.pos 8 wr (by omega) (by omega) (by have := HF2.out; simpa using this)).mono ?_
   rintro e w2 ⟨v, rfl, hv, hb⟩
   obtain ⟨A, c, rfl, hrd, _, _⟩ := hv.made.open_ (ay 8 8 x.pos)
   have H1 := af (H0.out.keep hb HB.out)
   have HRD := af hrd
   have HW := af H1.out.row
   have HLN := HLEN 0 (by omega)
   clear hv hrd hb H0
   go_wp2_with (first | (refine ai rfl (exec_from44n 0 44 rfl (by omega) rfl rfl rfl) ?_) | (with_reducible refine cN rfl _ _ rfl g 0 44 44 8 c _ A 159 (cy (dP x 0)) (aX 8 8 x.pos) rfl rfl HW.out HRD.out (by omega) (by rw [HLN.out]; omega) ?_) | fail)
   intro w3 hr3 hg3
   rw [HP1.out] at hr3
   have H2 := af (H1.out.step hr3 hg3 HB.out)
   clear hr3 hg3 H1 HRD HW
   go_wp2_with fail
   go_roundw
   case rel => exact ⟨1, by omega, rfl, rfl, H2.out⟩
   case measure => simp [intOf]
  ·have H0 := af hl
   clear hl hrel
   have cc := H0.out.num.cells.2.1
   go_wp2_with (first | (refine ai rfl (exec_ixZn1 rfl rfl rfl) ?_) | (refine ai rfl (exec_ixNn1 rfl rfl rfl) ?_) | fail)
   clear cc
   refine (put_ok R 2 wr (by omega) (by omega) (by omega)).mono ?_
   rintro e w2 ⟨v, rfl, hv, hb⟩
   obtain ⟨A, c, rfl, hrd, _, _⟩ := hv.made.open_ (ay 8 2 R)
   have H1 := af (H0.out.keep hb HB.out)
   have HRD := af hrd
   have HW := af H1.out.row
   have HLN := HLEN 1 (by omega)
   clear hv hrd hb H0
   go_wp2_with (first | (refine ai rfl (exec_from44n 8 36 rfl (by omega) rfl rfl rfl) ?_) | (with_reducible refine cN rfl _ _ rfl g 8 36 36 2 c _ A 159 (cy (dP x 1)) (aX 8 2 R) rfl rfl HW.out HRD.out (by omega) (by rw [HLN.out]; omega) ?_) | fail)
   intro w3 hr3 hg3
   rw [HP2.out] at hr3
   have H2 := af (H1.out.step hr3 hg3 HB.out)
   clear hr3 hg3 H1 HRD HW
   go_wp2_with fail
   go_roundw
   case rel => exact ⟨2, by omega, rfl, rfl, H2.out⟩
   case measure => simp [intOf]
  ·have H0 := af hl
   clear hl hrel
   have cc := H0.out.num.cells.2.2
   go_wp2_with (first | (refine ai rfl (exec_ixZn2 rfl rfl rfl) ?_) | (refine ai rfl (exec_ixNn2 rfl rfl rfl) ?_) | fail)
   clear cc
   refine (put_ok x.sum 4 wr (by omega) (by omega) (by have := HF3.out; simpa using this)).mono ?_
   rintro e w2 ⟨v, rfl, hv, hb⟩
   obtain ⟨A, c, rfl, hrd, _, _⟩ := hv.made.open_ (ay 8 4 x.sum)
   have H1 := af (H0.out.keep hb HB.out)
   have HRD := af hrd
   have HW := af H1.out.row
   have HLN := HLEN 2 (by omega)
   clear hv hrd hb H0
   go_wp2_with (first | (refine ai rfl (exec_from44n 10 34 rfl (by omega) rfl rfl rfl) ?_) | (with_reducible refine cN rfl _ _ rfl g 10 34 34 4 c _ A 159 (cy (dP x 2)) (aX 8 4 x.sum) rfl rfl HW.out HRD.out (by omega) (by rw [HLN.out]; omega) ?_) | fail)
   intro w3 hr3 hg3
   rw [HP3.out] at hr3
   have H2 := af (H1.out.step hr3 hg3 HB.out)
   clear hr3 hg3 H1 HRD HW
   go_wp2_with fail
   go_roundw
   case rel => exact ⟨3, by omega, rfl, rfl, H2.out⟩
   case measure => simp [intOf]
  ·have H0 := af hl
   clear hl hrel
   have HLD : Hid (wr.rangeAt g 0 (vals (cw x))) := af (by rw [← HPA.out]; exact dt H0.out.row)
   have HTH := af (d7 (o := 0) (n := 44) H0.out.res (by rw [bu, z44_length]; omega))
   go_wp2_with (first | (refine ai rfl (exec_load44n (l := cw x) HFL.out rfl rfl ?_) ?_; (with_reducible exact HLD.out)) | (refine az rfl (exec_put44n (l := cw x) HFL.out rfl rfl rfl ?_) ?_; (with_reducible exact HTH.out)) | fail)
   refine bodyPost_ret (res_rng (t := 159) (cs := vals (cw x)) rfl _ _ r rfl ?h1 Tryz.underlying159 rfl ?h2) rfl ⟨rfl, ?h3⟩
   case h1 => exact World.rangeAt_setCells_same _ _ _ _ (by rw [bu, HFL.out]; exact HTH.out)
   case h2 => rw [bu, HFL.out]; exact size44n
   case h3 => rw [HBB.out]; exact below_setCells H0.out.bel H0.out.r0 _
end Go.Proofs.YtbbcdhkinbmdnaaGreatDoor
