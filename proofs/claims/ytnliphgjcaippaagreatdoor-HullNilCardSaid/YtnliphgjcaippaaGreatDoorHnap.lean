import Derived.Test.YtnliphgjcaippaaGreatDoorHnao
import Derived.Test.YtnliphgjcaippaaGreatDoorHnaf
import Derived.Test.YtnliphgjcaippaaGreatDoorHnak
import Derived.Test.YtnliphgjcaippaaGreatDoorHnaa
import Derived.Test.YtnliphgjcaippaaGreatDoorHnam
import Derived.Test.YtnliphgjcaippaaGreatDoorHnal
import Derived.Test.YtnliphgjcaippaaGreatDoorHnan
import Derived.Laws.EntriesVeiled
import Derived.Test.YtnliphgjcaippaaGreatDoorHnZ
namespace Go.Proofs.YtnliphgjcaippaaGreatDoor
open Go.RowKit
set_option linter.unusedVariables false
set_option linter.unusedSimpArgs false
set_option maxRecDepth 100000
theorem run_bldRz (w : World) : (Instr.build 28 #[]).run Tryz.prog w = .ok (ros a4) w := by kernel_rfl
set_option maxHeartbeats 4000000 in
theorem whullNil (C : HulI) (s m : Int) (x : Blk) (d : Int) (z : Bool) (w : World) (T : Tab w) : Calls Tryz.prog 5 #[.agg #[.int .i64 s, .int .i64 m], blk x, .int .i64 d, .bool z] w fun e w' => e = .returned (.bool true) ∧ Below w.heap.size w w' := by
  have HB0 : Hid (Below w.heap.size w w) := Lib.hid (Below.refl _ _)
  have HT := Lib.hid T
  clear T
  go_enter Tryz.func5, Tryz.ntmps5
  go_upto_region 0 with fail
  refine wp_region_lit ?_
  refine af rfl (bN (cs := ([.int .i64 s, .int .i64 m] : List Value)) rfl (ev rfl)) ?_
  simp only [Act.put, aa, ac, ae]
  have hbx := (Below.refl w.heap.size w).alloc (Nat.le_refl _) (.cells ([.int .i64 s, .int .i64 m] : List Value).toArray 68)
  have HB1 := Lib.hid (HB0.out.trans (hbx.mono HB0.out.size))
  have P1 := Lib.hid (heap_alloc_new w (.cells ([.int .i64 s, .int .i64 m] : List Value).toArray 68))
  clear hbx
  generalize w.alloc (.cells ([.int .i64 s, .int .i64 m] : List Value).toArray 68) = w1 at *
  refine af rfl (bO rfl (ev rfl)) ?_
  simp only [Act.put, aa, ac, ae]
  have hbx := (Below.refl w1.heap.size w1).alloc (Nat.le_refl _) (.cells (cel x).toArray 58)
  have HB2 := Lib.hid (HB1.out.trans (hbx.mono HB1.out.size))
  have P2 := Lib.hid (aj P1.out hbx)
  have X2 := Lib.hid (heap_alloc_new w1 (.cells (cel x).toArray 58))
  clear hbx
  generalize w1.alloc (.cells (cel x).toArray 58) = w2 at *
  refine af (v := .bool false) rfl (ak rfl evk) ?_
  simp only [Act.put, aa, ac, ae]
  refine wpList_nil ?_
  go_upto_region 1 with fail
  refine wp_region_lit ?_
  refine af rfl (ak rfl evk) ?_
  simp only [Act.put, aa, ac, ae]
  refine wpList_nil ?_
  cases z
  · go_upto_region 2 with fail
    refine wp_region_lit ?_
    refine af (v := .bool false) rfl (ai rfl (ev rfl)) ?_
    simp only [Act.put, aa, ac, ae]
    refine wpList_nil ?_
    obtain ⟨w3, hw3⟩ : ∃ w3, w2 = w3 := ⟨_, rfl⟩
    have HB3 := HB2
    have X3 := X2
    have P3 := P2
    rw [hw3] at HB3 X3 P3
    have HN3 := Lib.hid (C.no_nil w3)
    rw [hw3]
    go_upto_region 4 with fail
    refine wp_region_lit ?_
    refine af rfl (ai rfl (ev rfl)) ?_
    simp only [Act.put, aa, ac, ae]
    refine af rfl (bm (cs := ([.int .i64 s, .int .i64 m] : List Value)) Tryz.underlying68 rfl (by kernel_rfl) rfl (ev rfl) (aL P3.out)) ?_
    simp only [Act.put, aa, ac, ae]
    refine al rfl (ao Tryz.call23 rfl (evc (ev rfl) (evc (ev rfl) evn))) ?_
    refine (C.no_read w3 _ s m HN3.out).mono ?_
    rintro e w4 ⟨rfl, b3⟩
    have HB4 := Lib.hid (HB3.out.trans (b3.mono HB3.out.size))
    have P4 := Lib.hid (aj P3.out b3)
    have X4 := Lib.hid (aj X3.out b3)
    have HN4 := Lib.hid (C.no_below HN3.out b3)
    clear b3
    refine ⟨_, rfl, ?_⟩
    simp only [Act.put, aa, ac, ae]
    refine af rfl (ai rfl (ev rfl)) ?_
    simp only [Act.put, aa, ac, ae]
    refine af rfl (aP rfl (ev rfl) rfl) ?_
    simp only [Act.put, aa, ac, ae]
    refine af rfl (aP rfl (ev rfl) rfl) ?_
    simp only [Act.put, aa, ac, ae]
    refine af rfl (aV rfl) ?_
    simp only [Act.put, aa, ac, ae]
    refine aw rfl (dn (c := ar) rfl (ev rfl) (ev rfl)) ?_
    simp only [Act.put, aa, ac, ae]
    have hbx := (Below.refl w4.heap.size w4).alloc (Nat.le_refl _) (.cells (cel ar).toArray 58)
    have HB5 := Lib.hid (HB4.out.trans (hbx.mono HB4.out.size))
    have P5 := Lib.hid (aj P4.out hbx)
    have X5 := Lib.hid (aj X4.out hbx)
    have HN5 := Lib.hid (C.no_below HN4.out hbx)
    clear hbx
    generalize w4.alloc (.cells (cel ar).toArray 58) = w5 at *
    refine af rfl (ak rfl (ev rfl)) ?_
    simp only [Act.put, aa, ac, ae]
    refine wpList_nil ?_
    go_upto_region 5 with fail
    refine wp_region_lit ?_
    refine af rfl (dm rfl (C.bldB _)) ?_
    simp only [Act.put, aa, ac, ae]
    refine af rfl (bN (cs := C.zb) rfl (ev rfl)) ?_
    simp only [Act.put, aa, ac, ae]
    have hbx := (Below.refl w5.heap.size w5).alloc (Nat.le_refl _) (.cells C.zb.toArray 74)
    have HB6 := Lib.hid (HB5.out.trans (hbx.mono HB5.out.size))
    have P6 := Lib.hid (aj P5.out hbx)
    have X6 := Lib.hid (aj X5.out hbx)
    have HN6 := Lib.hid (C.no_below HN5.out hbx)
    have Z6 := Lib.hid (heap_alloc_new w5 (.cells C.zb.toArray 74))
    clear hbx
    generalize w5.alloc (.cells C.zb.toArray 74) = w6 at *
    refine af rfl (dm rfl (run_bldRz _)) ?_
    simp only [Act.put, aa, ac, ae]
    refine al rfl (ao Tryz.call8 rfl (evc (ev rfl) (evc evk (evc evk (evc (ev rfl) evn))))) ?_
    refine (C.new_zero w6 _ 1 1 a4 Z6.out (by omega) (by omega)).mono ?_
    rintro e w7 ⟨rfl, b3⟩
    have HB7 := Lib.hid (HB6.out.trans (b3.mono HB6.out.size))
    have P7 := Lib.hid (aj P6.out b3)
    have X7 := Lib.hid (aj X6.out b3)
    have Z7 := Lib.hid (aj Z6.out b3)
    have HN7 := Lib.hid (C.no_below HN6.out b3)
    clear b3
    refine ⟨_, rfl, ?_⟩
    simp only [Act.put, aa, ac, ae]
    refine af rfl (ai rfl (ev rfl)) ?_
    simp only [Act.put, aa, ac, ae]
    refine af rfl (aP rfl (ev rfl) rfl) ?_
    simp only [Act.put, aa, ac, ae]
    refine af rfl (aP rfl (ev rfl) rfl) ?_
    simp only [Act.put, aa, ac, ae]
    refine af rfl (ak rfl (ev rfl)) ?_
    simp only [Act.put, aa, ac, ae]
    refine af rfl (ak rfl (ev rfl)) ?_
    simp only [Act.put, aa, ac, ae]
    refine wpList_nil ?_
    go_upto_region 6 with fail
    refine wp_region_lit ?_
    refine af rfl (ai rfl (ev rfl)) ?_
    simp only [Act.put, aa, ac, ae]
    refine af (v := .bool true) rfl (aq true rfl (ev rfl) evk rfl) ?_
    simp only [Act.put, aa, ac, ae]
    refine af (v := .bool true) rfl (ai rfl (ev rfl)) ?_
    simp only [Act.put, aa, ac, ae]
    refine ag (ah rfl rfl rfl rfl) (ai rfl (ev rfl)) ?_
    simp only [Act.put, aa, ac, ae]
    refine ag (v := .bool true) (ah rfl rfl rfl rfl) (aq true rfl (ev rfl) evk rfl) ?_
    simp only [Act.put, aa, ac, ae]
    refine af (v := .bool true) rfl (ay rfl (ev rfl) (ev rfl)) ?_
    simp only [Act.put, aa, ac, ae]
    refine af (v := .bool true) rfl (ai rfl (ev rfl)) ?_
    simp only [Act.put, aa, ac, ae]
    refine ag (ah rfl rfl rfl rfl) (ai rfl (ev rfl)) ?_
    simp only [Act.put, aa, ac, ae]
    refine ag (ah rfl rfl rfl rfl) (bm (cs := ([.int .i64 s, .int .i64 m] : List Value)) Tryz.underlying68 rfl (by kernel_rfl) rfl (ev rfl) (aL P7.out)) ?_
    simp only [Act.put, aa, ac, ae]
    refine ag (ah rfl rfl rfl rfl) (bc rfl (ev rfl) (aL X7.out)) ?_
    simp only [Act.put, aa, ac, ae]
    refine al (ah rfl rfl rfl rfl) (ao Tryz.call24 rfl (evc (ev rfl) (evc (ev rfl) (evc (ev rfl) evn)))) ?_
    refine (C.no_write w7 _ s m x HN7.out).mono ?_
    rintro e w8 ⟨rfl, b3⟩
    have HB8 := Lib.hid (HB7.out.trans (b3.mono HB7.out.size))
    have P8 := Lib.hid (aj P7.out b3)
    have X8 := Lib.hid (aj X7.out b3)
    have Z8 := Lib.hid (aj Z7.out b3)
    have HN8 := Lib.hid (C.no_below HN7.out b3)
    clear b3
    refine ⟨_, rfl, ?_⟩
    simp only [Act.put, aa, ac, ae]
    refine ag (v := .bool true) (ah rfl rfl rfl rfl) (aq true rfl (ev rfl) evk rfl) ?_
    simp only [Act.put, aa, ac, ae]
    refine af (v := .bool true) rfl (ay rfl (ev rfl) (ev rfl)) ?_
    simp only [Act.put, aa, ac, ae]
    refine af (v := .bool true) rfl (ai rfl (ev rfl)) ?_
    simp only [Act.put, aa, ac, ae]
    refine ag (ah rfl rfl rfl rfl) (ai rfl (ev rfl)) ?_
    simp only [Act.put, aa, ac, ae]
    refine ag (ah rfl rfl rfl rfl) (bc rfl (ev rfl) (aL X8.out)) ?_
    simp only [Act.put, aa, ac, ae]
    refine al (ah rfl rfl rfl rfl) (ao Tryz.call25 rfl (evc (ev rfl) (evc (ev rfl) evn))) ?_
    refine (C.no_fill w8 _ x HN8.out).mono ?_
    rintro e w9 ⟨rfl, b3⟩
    have HB9 := Lib.hid (HB8.out.trans (b3.mono HB8.out.size))
    have P9 := Lib.hid (aj P8.out b3)
    have X9 := Lib.hid (aj X8.out b3)
    have Z9 := Lib.hid (aj Z8.out b3)
    have HN9 := Lib.hid (C.no_below HN8.out b3)
    clear b3
    refine ⟨_, rfl, ?_⟩
    simp only [Act.put, aa, ac, ae]
    refine ag (v := .bool true) (ah rfl rfl rfl rfl) (aq true rfl (ev rfl) evk rfl) ?_
    simp only [Act.put, aa, ac, ae]
    refine af (v := .bool true) rfl (ay rfl (ev rfl) (ev rfl)) ?_
    simp only [Act.put, aa, ac, ae]
    refine af (v := .bool true) rfl (ai rfl (ev rfl)) ?_
    simp only [Act.put, aa, ac, ae]
    refine ag (ah rfl rfl rfl rfl) (ai rfl (ev rfl)) ?_
    simp only [Act.put, aa, ac, ae]
    refine al (ah rfl rfl rfl rfl) (ao Tryz.call26 rfl (evc (ev rfl) evn)) ?_
    refine (C.no_flush w9 _ HN9.out).mono ?_
    rintro e w10 ⟨rfl, b3⟩
    have HB10 := Lib.hid (HB9.out.trans (b3.mono HB9.out.size))
    have P10 := Lib.hid (aj P9.out b3)
    have X10 := Lib.hid (aj X9.out b3)
    have Z10 := Lib.hid (aj Z9.out b3)
    have HN10 := Lib.hid (C.no_below HN9.out b3)
    clear b3
    refine ⟨_, rfl, ?_⟩
    simp only [Act.put, aa, ac, ae]
    refine ag (v := .bool true) (ah rfl rfl rfl rfl) (aq true rfl (ev rfl) evk rfl) ?_
    simp only [Act.put, aa, ac, ae]
    refine af (v := .bool true) rfl (ay rfl (ev rfl) (ev rfl)) ?_
    simp only [Act.put, aa, ac, ae]
    refine af (v := .bool true) rfl (ai rfl (ev rfl)) ?_
    simp only [Act.put, aa, ac, ae]
    refine ag (ah rfl rfl rfl rfl) (ai rfl (ev rfl)) ?_
    simp only [Act.put, aa, ac, ae]
    refine al (ah rfl rfl rfl rfl) (ao Tryz.call17 rfl (evc (ev rfl) evn)) ?_
    refine (C.no_save w10 _ HN10.out).mono ?_
    rintro e w11 ⟨rfl, b3⟩
    have HB11 := Lib.hid (HB10.out.trans (b3.mono HB10.out.size))
    have P11 := Lib.hid (aj P10.out b3)
    have X11 := Lib.hid (aj X10.out b3)
    have Z11 := Lib.hid (aj Z10.out b3)
    have HN11 := Lib.hid (C.no_below HN10.out b3)
    clear b3
    refine ⟨_, rfl, ?_⟩
    simp only [Act.put, aa, ac, ae]
    refine ag (v := .bool true) (ah rfl rfl rfl rfl) (aq true rfl (ev rfl) evk rfl) ?_
    simp only [Act.put, aa, ac, ae]
    refine af (v := .bool true) rfl (ay rfl (ev rfl) (ev rfl)) ?_
    simp only [Act.put, aa, ac, ae]
    refine af (v := .bool true) rfl (ai rfl (ev rfl)) ?_
    simp only [Act.put, aa, ac, ae]
    refine ag (ah rfl rfl rfl rfl) (ai rfl (ev rfl)) ?_
    simp only [Act.put, aa, ac, ae]
    refine ag (ah rfl rfl rfl rfl) (ai rfl (ev rfl)) ?_
    simp only [Act.put, aa, ac, ae]
    refine al (ah rfl rfl rfl rfl) (ao Tryz.call27 rfl (evc (ev rfl) (evc (ev rfl) evn))) ?_
    refine (C.no_find w11 _ d HN11.out).mono ?_
    rintro e w12 ⟨rfl, b3⟩
    have HB12 := Lib.hid (HB11.out.trans (b3.mono HB11.out.size))
    have P12 := Lib.hid (aj P11.out b3)
    have X12 := Lib.hid (aj X11.out b3)
    have Z12 := Lib.hid (aj Z11.out b3)
    have HN12 := Lib.hid (C.no_below HN11.out b3)
    clear b3
    refine ⟨_, rfl, ?_⟩
    simp only [Act.put, aa, ac, ae]
    refine ag (v := .bool true) (ah rfl rfl rfl rfl) (aq true rfl (ev rfl) evk rfl) ?_
    simp only [Act.put, aa, ac, ae]
    refine af (v := .bool true) rfl (ay rfl (ev rfl) (ev rfl)) ?_
    simp only [Act.put, aa, ac, ae]
    refine af (v := .bool true) rfl (ai rfl (ev rfl)) ?_
    simp only [Act.put, aa, ac, ae]
    refine ag (ah rfl rfl rfl rfl) (ai rfl (ev rfl)) ?_
    simp only [Act.put, aa, ac, ae]
    refine ag (ah rfl rfl rfl rfl) (ai rfl (ev rfl)) ?_
    simp only [Act.put, aa, ac, ae]
    refine al (ah rfl rfl rfl rfl) (ao Tryz.call28 rfl (evc (ev rfl) (evc (ev rfl) evn))) ?_
    refine (C.no_begin w12 _ d HN12.out).mono ?_
    rintro e w13 ⟨rfl, b3⟩
    have HB13 := Lib.hid (HB12.out.trans (b3.mono HB12.out.size))
    have P13 := Lib.hid (aj P12.out b3)
    have X13 := Lib.hid (aj X12.out b3)
    have Z13 := Lib.hid (aj Z12.out b3)
    have HN13 := Lib.hid (C.no_below HN12.out b3)
    clear b3
    refine ⟨_, rfl, ?_⟩
    simp only [Act.put, aa, ac, ae]
    refine ag (v := .bool true) (ah rfl rfl rfl rfl) (aq true rfl (ev rfl) evk rfl) ?_
    simp only [Act.put, aa, ac, ae]
    refine af (v := .bool true) rfl (ay rfl (ev rfl) (ev rfl)) ?_
    simp only [Act.put, aa, ac, ae]
    refine af (v := .bool true) rfl (ai rfl (ev rfl)) ?_
    simp only [Act.put, aa, ac, ae]
    refine ag (ah rfl rfl rfl rfl) (ai rfl (ev rfl)) ?_
    simp only [Act.put, aa, ac, ae]
    refine al (ah rfl rfl rfl rfl) (ao Tryz.call29 rfl (evc (ev rfl) (evc evk evn))) ?_
    refine (C.no_gone w13 _ true HN13.out).mono ?_
    rintro e w14 ⟨rfl, b3⟩
    have HB14 := Lib.hid (HB13.out.trans (b3.mono HB13.out.size))
    have P14 := Lib.hid (aj P13.out b3)
    have X14 := Lib.hid (aj X13.out b3)
    have Z14 := Lib.hid (aj Z13.out b3)
    have HN14 := Lib.hid (C.no_below HN13.out b3)
    clear b3
    refine ⟨_, rfl, ?_⟩
    simp only [Act.put, aa, ac, ae]
    refine ag (v := .bool true) (ah rfl rfl rfl rfl) (aq true rfl (ev rfl) evk rfl) ?_
    simp only [Act.put, aa, ac, ae]
    refine af (v := .bool true) rfl (ay rfl (ev rfl) (ev rfl)) ?_
    simp only [Act.put, aa, ac, ae]
    refine af (v := .bool true) rfl (ai rfl (ev rfl)) ?_
    simp only [Act.put, aa, ac, ae]
    refine ag (ah rfl rfl rfl rfl) (ai rfl (ev rfl)) ?_
    simp only [Act.put, aa, ac, ae]
    refine al (ah rfl rfl rfl rfl) (ao Tryz.call18 rfl (evc (ev rfl) evn)) ?_
    refine (C.no_event w14 _ HN14.out).mono ?_
    rintro e w15 ⟨rfl, b3⟩
    have HB15 := Lib.hid (HB14.out.trans (b3.mono HB14.out.size))
    have P15 := Lib.hid (aj P14.out b3)
    have X15 := Lib.hid (aj X14.out b3)
    have Z15 := Lib.hid (aj Z14.out b3)
    have HN15 := Lib.hid (C.no_below HN14.out b3)
    clear b3
    refine ⟨_, rfl, ?_⟩
    simp only [Act.put, aa, ac, ae]
    refine ag (v := .bool true) (ah rfl rfl rfl rfl) (aq true rfl (ev rfl) evk rfl) ?_
    simp only [Act.put, aa, ac, ae]
    refine af (v := .bool true) rfl (ay rfl (ev rfl) (ev rfl)) ?_
    simp only [Act.put, aa, ac, ae]
    refine af (v := .bool true) rfl (ai rfl (ev rfl)) ?_
    simp only [Act.put, aa, ac, ae]
    refine ag (ah rfl rfl rfl rfl) (ai rfl (ev rfl)) ?_
    simp only [Act.put, aa, ac, ae]
    refine al (ah rfl rfl rfl rfl) (ao Tryz.call30 rfl (evc (ev rfl) evn)) ?_
    refine (C.no_id w15 _ HN15.out).mono ?_
    rintro e w16 ⟨rfl, b3⟩
    have HB16 := Lib.hid (HB15.out.trans (b3.mono HB15.out.size))
    have P16 := Lib.hid (aj P15.out b3)
    have X16 := Lib.hid (aj X15.out b3)
    have Z16 := Lib.hid (aj Z15.out b3)
    have HN16 := Lib.hid (C.no_below HN15.out b3)
    clear b3
    refine ⟨_, rfl, ?_⟩
    simp only [Act.put, aa, ac, ae]
    refine ag (v := .bool true) (ah rfl rfl rfl rfl) (aq true rfl (ev rfl) evk rfl) ?_
    simp only [Act.put, aa, ac, ae]
    refine af (v := .bool true) rfl (ay rfl (ev rfl) (ev rfl)) ?_
    simp only [Act.put, aa, ac, ae]
    refine af (v := .bool true) rfl (ai rfl (ev rfl)) ?_
    simp only [Act.put, aa, ac, ae]
    refine ag (ah rfl rfl rfl rfl) (ai rfl (ev rfl)) ?_
    simp only [Act.put, aa, ac, ae]
    refine al (ah rfl rfl rfl rfl) (ao Tryz.call31 rfl (evc (ev rfl) evn)) ?_
    refine (C.no_state w16 _ HN16.out).mono ?_
    rintro e w17 ⟨rfl, b3⟩
    have HB17 := Lib.hid (HB16.out.trans (b3.mono HB16.out.size))
    have P17 := Lib.hid (aj P16.out b3)
    have X17 := Lib.hid (aj X16.out b3)
    have Z17 := Lib.hid (aj Z16.out b3)
    have HN17 := Lib.hid (C.no_below HN16.out b3)
    clear b3
    refine ⟨_, rfl, ?_⟩
    simp only [Act.put, aa, ac, ae]
    refine ag (v := .bool true) (ah rfl rfl rfl rfl) (aq true rfl (ev rfl) evk rfl) ?_
    simp only [Act.put, aa, ac, ae]
    refine af (v := .bool true) rfl (ay rfl (ev rfl) (ev rfl)) ?_
    simp only [Act.put, aa, ac, ae]
    refine af (v := .bool true) rfl (ai rfl (ev rfl)) ?_
    simp only [Act.put, aa, ac, ae]
    refine al (ah rfl rfl rfl rfl) (ao Tryz.call9 rfl evn) ?_
    refine (hlives C w17 (fun i hi => (World.cell?_of_block (w := w) (HB17.out.block _ (HBas.start HT.out).lo)).trans (HT.out i hi))).mono ?_
    rintro e wz ⟨rfl, b9⟩
    have HZ := Lib.hid (HB17.out.trans (b9.mono HB17.out.size))
    clear b9
    refine ⟨_, rfl, ?_⟩
    simp only [Act.put, aa, ac, ae]
    refine af (v := .bool true) rfl (ay rfl (ev rfl) (ev rfl)) ?_
    simp only [Act.put, aa, ac, ae]
    refine af (v := .bool true) rfl (ak rfl (ev rfl)) ?_
    simp only [Act.put, aa, ac, ae]
    refine wpList_nil ?_
    go_wp2_with fail
    go_ret
    exact ⟨rfl, HZ.out⟩
  · go_upto_region 2 with fail
    refine wp_region_lit ?_
    refine af (v := .bool true) rfl (ai rfl (ev rfl)) ?_
    simp only [Act.put, aa, ac, ae]
    refine wpList_nil ?_
    go_upto_region 3 with fail
    refine wp_region_lit ?_
    refine af rfl (dm rfl (C.bld0 _)) ?_
    simp only [Act.put, aa, ac, ae]
    refine af rfl (bN (cs := C.zc) rfl (ev rfl)) ?_
    simp only [Act.put, aa, ac, ae]
    have hbx := (Below.refl w2.heap.size w2).alloc (Nat.le_refl _) (.cells C.zc.toArray 70)
    have HN3 := Lib.hid (C.no_zero w2)
    have HB3 := Lib.hid (HB2.out.trans (hbx.mono HB2.out.size))
    have P3 := Lib.hid (aj P2.out hbx)
    have X3 := Lib.hid (aj X2.out hbx)
    clear hbx
    generalize w2.alloc (.cells C.zc.toArray 70) = w3 at *
    refine af rfl (ak rfl (ev rfl)) ?_
    simp only [Act.put, aa, ac, ae]
    refine wpList_nil ?_
    go_upto_region 4 with fail
    refine wp_region_lit ?_
    refine af rfl (ai rfl (ev rfl)) ?_
    simp only [Act.put, aa, ac, ae]
    refine af rfl (bm (cs := ([.int .i64 s, .int .i64 m] : List Value)) Tryz.underlying68 rfl (by kernel_rfl) rfl (ev rfl) (aL P3.out)) ?_
    simp only [Act.put, aa, ac, ae]
    refine al rfl (ao Tryz.call23 rfl (evc (ev rfl) (evc (ev rfl) evn))) ?_
    refine (C.no_read w3 _ s m HN3.out).mono ?_
    rintro e w4 ⟨rfl, b3⟩
    have HB4 := Lib.hid (HB3.out.trans (b3.mono HB3.out.size))
    have P4 := Lib.hid (aj P3.out b3)
    have X4 := Lib.hid (aj X3.out b3)
    have HN4 := Lib.hid (C.no_below HN3.out b3)
    clear b3
    refine ⟨_, rfl, ?_⟩
    simp only [Act.put, aa, ac, ae]
    refine af rfl (ai rfl (ev rfl)) ?_
    simp only [Act.put, aa, ac, ae]
    refine af rfl (aP rfl (ev rfl) rfl) ?_
    simp only [Act.put, aa, ac, ae]
    refine af rfl (aP rfl (ev rfl) rfl) ?_
    simp only [Act.put, aa, ac, ae]
    refine af rfl (aV rfl) ?_
    simp only [Act.put, aa, ac, ae]
    refine aw rfl (dn (c := ar) rfl (ev rfl) (ev rfl)) ?_
    simp only [Act.put, aa, ac, ae]
    have hbx := (Below.refl w4.heap.size w4).alloc (Nat.le_refl _) (.cells (cel ar).toArray 58)
    have HB5 := Lib.hid (HB4.out.trans (hbx.mono HB4.out.size))
    have P5 := Lib.hid (aj P4.out hbx)
    have X5 := Lib.hid (aj X4.out hbx)
    have HN5 := Lib.hid (C.no_below HN4.out hbx)
    clear hbx
    generalize w4.alloc (.cells (cel ar).toArray 58) = w5 at *
    refine af rfl (ak rfl (ev rfl)) ?_
    simp only [Act.put, aa, ac, ae]
    refine wpList_nil ?_
    go_upto_region 5 with fail
    refine wp_region_lit ?_
    refine af rfl (dm rfl (C.bldB _)) ?_
    simp only [Act.put, aa, ac, ae]
    refine af rfl (bN (cs := C.zb) rfl (ev rfl)) ?_
    simp only [Act.put, aa, ac, ae]
    have hbx := (Below.refl w5.heap.size w5).alloc (Nat.le_refl _) (.cells C.zb.toArray 74)
    have HB6 := Lib.hid (HB5.out.trans (hbx.mono HB5.out.size))
    have P6 := Lib.hid (aj P5.out hbx)
    have X6 := Lib.hid (aj X5.out hbx)
    have HN6 := Lib.hid (C.no_below HN5.out hbx)
    have Z6 := Lib.hid (heap_alloc_new w5 (.cells C.zb.toArray 74))
    clear hbx
    generalize w5.alloc (.cells C.zb.toArray 74) = w6 at *
    refine af rfl (dm rfl (run_bldRz _)) ?_
    simp only [Act.put, aa, ac, ae]
    refine al rfl (ao Tryz.call8 rfl (evc (ev rfl) (evc evk (evc evk (evc (ev rfl) evn))))) ?_
    refine (C.new_zero w6 _ 1 1 a4 Z6.out (by omega) (by omega)).mono ?_
    rintro e w7 ⟨rfl, b3⟩
    have HB7 := Lib.hid (HB6.out.trans (b3.mono HB6.out.size))
    have P7 := Lib.hid (aj P6.out b3)
    have X7 := Lib.hid (aj X6.out b3)
    have Z7 := Lib.hid (aj Z6.out b3)
    have HN7 := Lib.hid (C.no_below HN6.out b3)
    clear b3
    refine ⟨_, rfl, ?_⟩
    simp only [Act.put, aa, ac, ae]
    refine af rfl (ai rfl (ev rfl)) ?_
    simp only [Act.put, aa, ac, ae]
    refine af rfl (aP rfl (ev rfl) rfl) ?_
    simp only [Act.put, aa, ac, ae]
    refine af rfl (aP rfl (ev rfl) rfl) ?_
    simp only [Act.put, aa, ac, ae]
    refine af rfl (ak rfl (ev rfl)) ?_
    simp only [Act.put, aa, ac, ae]
    refine af rfl (ak rfl (ev rfl)) ?_
    simp only [Act.put, aa, ac, ae]
    refine wpList_nil ?_
    go_upto_region 6 with fail
    refine wp_region_lit ?_
    refine af rfl (ai rfl (ev rfl)) ?_
    simp only [Act.put, aa, ac, ae]
    refine af (v := .bool true) rfl (aq true rfl (ev rfl) evk rfl) ?_
    simp only [Act.put, aa, ac, ae]
    refine af (v := .bool true) rfl (ai rfl (ev rfl)) ?_
    simp only [Act.put, aa, ac, ae]
    refine ag (ah rfl rfl rfl rfl) (ai rfl (ev rfl)) ?_
    simp only [Act.put, aa, ac, ae]
    refine ag (v := .bool true) (ah rfl rfl rfl rfl) (aq true rfl (ev rfl) evk rfl) ?_
    simp only [Act.put, aa, ac, ae]
    refine af (v := .bool true) rfl (ay rfl (ev rfl) (ev rfl)) ?_
    simp only [Act.put, aa, ac, ae]
    refine af (v := .bool true) rfl (ai rfl (ev rfl)) ?_
    simp only [Act.put, aa, ac, ae]
    refine ag (ah rfl rfl rfl rfl) (ai rfl (ev rfl)) ?_
    simp only [Act.put, aa, ac, ae]
    refine ag (ah rfl rfl rfl rfl) (bm (cs := ([.int .i64 s, .int .i64 m] : List Value)) Tryz.underlying68 rfl (by kernel_rfl) rfl (ev rfl) (aL P7.out)) ?_
    simp only [Act.put, aa, ac, ae]
    refine ag (ah rfl rfl rfl rfl) (bc rfl (ev rfl) (aL X7.out)) ?_
    simp only [Act.put, aa, ac, ae]
    refine al (ah rfl rfl rfl rfl) (ao Tryz.call24 rfl (evc (ev rfl) (evc (ev rfl) (evc (ev rfl) evn)))) ?_
    refine (C.no_write w7 _ s m x HN7.out).mono ?_
    rintro e w8 ⟨rfl, b3⟩
    have HB8 := Lib.hid (HB7.out.trans (b3.mono HB7.out.size))
    have P8 := Lib.hid (aj P7.out b3)
    have X8 := Lib.hid (aj X7.out b3)
    have Z8 := Lib.hid (aj Z7.out b3)
    have HN8 := Lib.hid (C.no_below HN7.out b3)
    clear b3
    refine ⟨_, rfl, ?_⟩
    simp only [Act.put, aa, ac, ae]
    refine ag (v := .bool true) (ah rfl rfl rfl rfl) (aq true rfl (ev rfl) evk rfl) ?_
    simp only [Act.put, aa, ac, ae]
    refine af (v := .bool true) rfl (ay rfl (ev rfl) (ev rfl)) ?_
    simp only [Act.put, aa, ac, ae]
    refine af (v := .bool true) rfl (ai rfl (ev rfl)) ?_
    simp only [Act.put, aa, ac, ae]
    refine ag (ah rfl rfl rfl rfl) (ai rfl (ev rfl)) ?_
    simp only [Act.put, aa, ac, ae]
    refine ag (ah rfl rfl rfl rfl) (bc rfl (ev rfl) (aL X8.out)) ?_
    simp only [Act.put, aa, ac, ae]
    refine al (ah rfl rfl rfl rfl) (ao Tryz.call25 rfl (evc (ev rfl) (evc (ev rfl) evn))) ?_
    refine (C.no_fill w8 _ x HN8.out).mono ?_
    rintro e w9 ⟨rfl, b3⟩
    have HB9 := Lib.hid (HB8.out.trans (b3.mono HB8.out.size))
    have P9 := Lib.hid (aj P8.out b3)
    have X9 := Lib.hid (aj X8.out b3)
    have Z9 := Lib.hid (aj Z8.out b3)
    have HN9 := Lib.hid (C.no_below HN8.out b3)
    clear b3
    refine ⟨_, rfl, ?_⟩
    simp only [Act.put, aa, ac, ae]
    refine ag (v := .bool true) (ah rfl rfl rfl rfl) (aq true rfl (ev rfl) evk rfl) ?_
    simp only [Act.put, aa, ac, ae]
    refine af (v := .bool true) rfl (ay rfl (ev rfl) (ev rfl)) ?_
    simp only [Act.put, aa, ac, ae]
    refine af (v := .bool true) rfl (ai rfl (ev rfl)) ?_
    simp only [Act.put, aa, ac, ae]
    refine ag (ah rfl rfl rfl rfl) (ai rfl (ev rfl)) ?_
    simp only [Act.put, aa, ac, ae]
    refine al (ah rfl rfl rfl rfl) (ao Tryz.call26 rfl (evc (ev rfl) evn)) ?_
    refine (C.no_flush w9 _ HN9.out).mono ?_
    rintro e w10 ⟨rfl, b3⟩
    have HB10 := Lib.hid (HB9.out.trans (b3.mono HB9.out.size))
    have P10 := Lib.hid (aj P9.out b3)
    have X10 := Lib.hid (aj X9.out b3)
    have Z10 := Lib.hid (aj Z9.out b3)
    have HN10 := Lib.hid (C.no_below HN9.out b3)
    clear b3
    refine ⟨_, rfl, ?_⟩
    simp only [Act.put, aa, ac, ae]
    refine ag (v := .bool true) (ah rfl rfl rfl rfl) (aq true rfl (ev rfl) evk rfl) ?_
    simp only [Act.put, aa, ac, ae]
    refine af (v := .bool true) rfl (ay rfl (ev rfl) (ev rfl)) ?_
    simp only [Act.put, aa, ac, ae]
    refine af (v := .bool true) rfl (ai rfl (ev rfl)) ?_
    simp only [Act.put, aa, ac, ae]
    refine ag (ah rfl rfl rfl rfl) (ai rfl (ev rfl)) ?_
    simp only [Act.put, aa, ac, ae]
    refine al (ah rfl rfl rfl rfl) (ao Tryz.call17 rfl (evc (ev rfl) evn)) ?_
    refine (C.no_save w10 _ HN10.out).mono ?_
    rintro e w11 ⟨rfl, b3⟩
    have HB11 := Lib.hid (HB10.out.trans (b3.mono HB10.out.size))
    have P11 := Lib.hid (aj P10.out b3)
    have X11 := Lib.hid (aj X10.out b3)
    have Z11 := Lib.hid (aj Z10.out b3)
    have HN11 := Lib.hid (C.no_below HN10.out b3)
    clear b3
    refine ⟨_, rfl, ?_⟩
    simp only [Act.put, aa, ac, ae]
    refine ag (v := .bool true) (ah rfl rfl rfl rfl) (aq true rfl (ev rfl) evk rfl) ?_
    simp only [Act.put, aa, ac, ae]
    refine af (v := .bool true) rfl (ay rfl (ev rfl) (ev rfl)) ?_
    simp only [Act.put, aa, ac, ae]
    refine af (v := .bool true) rfl (ai rfl (ev rfl)) ?_
    simp only [Act.put, aa, ac, ae]
    refine ag (ah rfl rfl rfl rfl) (ai rfl (ev rfl)) ?_
    simp only [Act.put, aa, ac, ae]
    refine ag (ah rfl rfl rfl rfl) (ai rfl (ev rfl)) ?_
    simp only [Act.put, aa, ac, ae]
    refine al (ah rfl rfl rfl rfl) (ao Tryz.call27 rfl (evc (ev rfl) (evc (ev rfl) evn))) ?_
    refine (C.no_find w11 _ d HN11.out).mono ?_
    rintro e w12 ⟨rfl, b3⟩
    have HB12 := Lib.hid (HB11.out.trans (b3.mono HB11.out.size))
    have P12 := Lib.hid (aj P11.out b3)
    have X12 := Lib.hid (aj X11.out b3)
    have Z12 := Lib.hid (aj Z11.out b3)
    have HN12 := Lib.hid (C.no_below HN11.out b3)
    clear b3
    refine ⟨_, rfl, ?_⟩
    simp only [Act.put, aa, ac, ae]
    refine ag (v := .bool true) (ah rfl rfl rfl rfl) (aq true rfl (ev rfl) evk rfl) ?_
    simp only [Act.put, aa, ac, ae]
    refine af (v := .bool true) rfl (ay rfl (ev rfl) (ev rfl)) ?_
    simp only [Act.put, aa, ac, ae]
    refine af (v := .bool true) rfl (ai rfl (ev rfl)) ?_
    simp only [Act.put, aa, ac, ae]
    refine ag (ah rfl rfl rfl rfl) (ai rfl (ev rfl)) ?_
    simp only [Act.put, aa, ac, ae]
    refine ag (ah rfl rfl rfl rfl) (ai rfl (ev rfl)) ?_
    simp only [Act.put, aa, ac, ae]
    refine al (ah rfl rfl rfl rfl) (ao Tryz.call28 rfl (evc (ev rfl) (evc (ev rfl) evn))) ?_
    refine (C.no_begin w12 _ d HN12.out).mono ?_
    rintro e w13 ⟨rfl, b3⟩
    have HB13 := Lib.hid (HB12.out.trans (b3.mono HB12.out.size))
    have P13 := Lib.hid (aj P12.out b3)
    have X13 := Lib.hid (aj X12.out b3)
    have Z13 := Lib.hid (aj Z12.out b3)
    have HN13 := Lib.hid (C.no_below HN12.out b3)
    clear b3
    refine ⟨_, rfl, ?_⟩
    simp only [Act.put, aa, ac, ae]
    refine ag (v := .bool true) (ah rfl rfl rfl rfl) (aq true rfl (ev rfl) evk rfl) ?_
    simp only [Act.put, aa, ac, ae]
    refine af (v := .bool true) rfl (ay rfl (ev rfl) (ev rfl)) ?_
    simp only [Act.put, aa, ac, ae]
    refine af (v := .bool true) rfl (ai rfl (ev rfl)) ?_
    simp only [Act.put, aa, ac, ae]
    refine ag (ah rfl rfl rfl rfl) (ai rfl (ev rfl)) ?_
    simp only [Act.put, aa, ac, ae]
    refine al (ah rfl rfl rfl rfl) (ao Tryz.call29 rfl (evc (ev rfl) (evc evk evn))) ?_
    refine (C.no_gone w13 _ true HN13.out).mono ?_
    rintro e w14 ⟨rfl, b3⟩
    have HB14 := Lib.hid (HB13.out.trans (b3.mono HB13.out.size))
    have P14 := Lib.hid (aj P13.out b3)
    have X14 := Lib.hid (aj X13.out b3)
    have Z14 := Lib.hid (aj Z13.out b3)
    have HN14 := Lib.hid (C.no_below HN13.out b3)
    clear b3
    refine ⟨_, rfl, ?_⟩
    simp only [Act.put, aa, ac, ae]
    refine ag (v := .bool true) (ah rfl rfl rfl rfl) (aq true rfl (ev rfl) evk rfl) ?_
    simp only [Act.put, aa, ac, ae]
    refine af (v := .bool true) rfl (ay rfl (ev rfl) (ev rfl)) ?_
    simp only [Act.put, aa, ac, ae]
    refine af (v := .bool true) rfl (ai rfl (ev rfl)) ?_
    simp only [Act.put, aa, ac, ae]
    refine ag (ah rfl rfl rfl rfl) (ai rfl (ev rfl)) ?_
    simp only [Act.put, aa, ac, ae]
    refine al (ah rfl rfl rfl rfl) (ao Tryz.call18 rfl (evc (ev rfl) evn)) ?_
    refine (C.no_event w14 _ HN14.out).mono ?_
    rintro e w15 ⟨rfl, b3⟩
    have HB15 := Lib.hid (HB14.out.trans (b3.mono HB14.out.size))
    have P15 := Lib.hid (aj P14.out b3)
    have X15 := Lib.hid (aj X14.out b3)
    have Z15 := Lib.hid (aj Z14.out b3)
    have HN15 := Lib.hid (C.no_below HN14.out b3)
    clear b3
    refine ⟨_, rfl, ?_⟩
    simp only [Act.put, aa, ac, ae]
    refine ag (v := .bool true) (ah rfl rfl rfl rfl) (aq true rfl (ev rfl) evk rfl) ?_
    simp only [Act.put, aa, ac, ae]
    refine af (v := .bool true) rfl (ay rfl (ev rfl) (ev rfl)) ?_
    simp only [Act.put, aa, ac, ae]
    refine af (v := .bool true) rfl (ai rfl (ev rfl)) ?_
    simp only [Act.put, aa, ac, ae]
    refine ag (ah rfl rfl rfl rfl) (ai rfl (ev rfl)) ?_
    simp only [Act.put, aa, ac, ae]
    refine al (ah rfl rfl rfl rfl) (ao Tryz.call30 rfl (evc (ev rfl) evn)) ?_
    refine (C.no_id w15 _ HN15.out).mono ?_
    rintro e w16 ⟨rfl, b3⟩
    have HB16 := Lib.hid (HB15.out.trans (b3.mono HB15.out.size))
    have P16 := Lib.hid (aj P15.out b3)
    have X16 := Lib.hid (aj X15.out b3)
    have Z16 := Lib.hid (aj Z15.out b3)
    have HN16 := Lib.hid (C.no_below HN15.out b3)
    clear b3
    refine ⟨_, rfl, ?_⟩
    simp only [Act.put, aa, ac, ae]
    refine ag (v := .bool true) (ah rfl rfl rfl rfl) (aq true rfl (ev rfl) evk rfl) ?_
    simp only [Act.put, aa, ac, ae]
    refine af (v := .bool true) rfl (ay rfl (ev rfl) (ev rfl)) ?_
    simp only [Act.put, aa, ac, ae]
    refine af (v := .bool true) rfl (ai rfl (ev rfl)) ?_
    simp only [Act.put, aa, ac, ae]
    refine ag (ah rfl rfl rfl rfl) (ai rfl (ev rfl)) ?_
    simp only [Act.put, aa, ac, ae]
    refine al (ah rfl rfl rfl rfl) (ao Tryz.call31 rfl (evc (ev rfl) evn)) ?_
    refine (C.no_state w16 _ HN16.out).mono ?_
    rintro e w17 ⟨rfl, b3⟩
    have HB17 := Lib.hid (HB16.out.trans (b3.mono HB16.out.size))
    have P17 := Lib.hid (aj P16.out b3)
    have X17 := Lib.hid (aj X16.out b3)
    have Z17 := Lib.hid (aj Z16.out b3)
    have HN17 := Lib.hid (C.no_below HN16.out b3)
    clear b3
    refine ⟨_, rfl, ?_⟩
    simp only [Act.put, aa, ac, ae]
    refine ag (v := .bool true) (ah rfl rfl rfl rfl) (aq true rfl (ev rfl) evk rfl) ?_
    simp only [Act.put, aa, ac, ae]
    refine af (v := .bool true) rfl (ay rfl (ev rfl) (ev rfl)) ?_
    simp only [Act.put, aa, ac, ae]
    refine af (v := .bool true) rfl (ai rfl (ev rfl)) ?_
    simp only [Act.put, aa, ac, ae]
    refine al (ah rfl rfl rfl rfl) (ao Tryz.call9 rfl evn) ?_
    refine (hlives C w17 (fun i hi => (World.cell?_of_block (w := w) (HB17.out.block _ (HBas.start HT.out).lo)).trans (HT.out i hi))).mono ?_
    rintro e wz ⟨rfl, b9⟩
    have HZ := Lib.hid (HB17.out.trans (b9.mono HB17.out.size))
    clear b9
    refine ⟨_, rfl, ?_⟩
    simp only [Act.put, aa, ac, ae]
    refine af (v := .bool true) rfl (ay rfl (ev rfl) (ev rfl)) ?_
    simp only [Act.put, aa, ac, ae]
    refine af (v := .bool true) rfl (ak rfl (ev rfl)) ?_
    simp only [Act.put, aa, ac, ae]
    refine wpList_nil ?_
    go_wp2_with fail
    go_ret
    exact ⟨rfl, HZ.out⟩
section
variable {id ev : Nat} {R : Ros} {M : BenS} {k m : Nat} {h : HuS} {d : Int}
theorem cr {n : Nat} (h : Room M n) (hm : m ≤ n) : Room M m := ⟨by have := h.1; omega, h.2.1, fun d hd => by have := h.2.2 d hd; omega⟩
theorem rm_stp (h : Room M (k + 1)) (s : Stp) : Room (stpS d M s) k := by
  cases s with
  | wr n b => exact room_wr h d n b
  | fl => exact room_fl h d
theorem rm_go (l : List Stp) : ∀ {M : BenS}, Room M (k + l.length) → Room (goB d M l) k := by
  induction l with
  | nil => intro M h; exact h
  | cons s l ih =>
    intro M h
    rw [List.length_cons] at h
    have h1 := rm_stp (d := d) (k := k + l.length) h s
    rw [goB]
    split
    · exact ih h1
    · exact cr h1 (by omega)
theorem rm_put (h : Room M (k + 2)) : Room (cn id ev R M m) k := by
  unfold cn
  split
  · exact rm_go _ h
  · exact cr h (by omega)
theorem rm_once : ∀ (n m : Nat) (M : BenS), Room M (k + 2 * n) → Room (bW id ev R n m M).2.2 k
  | 0, m, M, h => h
  | n + 1, m, M, h => by
    have h1 : Room (cn id ev R M m) (k + 2 * n) := rm_put (cr h (by omega))
    rw [bW]
    split
    · exact rm_once n (m + 1) M (cr h (by omega))
    · split
      · exact cr h1 (by omega)
      · split
        · exact rm_once n (m + 1) _ h1
        · exact cr h1 (by omega)
theorem fine_m (hf : aH R = true) : R.m.toNat ≤ 16 := by
  unfold aH at hf
  simp only [Bool.and_eq_true] at hf
  have := dj hf.1.1.1
  omega
end
def outJ (R : Ros) (j : Nat) : Bool := decide (sta R j ≠ 1)
structure OnS (h0 : HuS) (f : Nat) (h : HuS) : Prop where
  same : saveK f h = saveK 17 h0
  pot : potK (outJ h.R) h.R.m.toNat < f
  fine : aH h.R = true
  id : h.id = h0.id
  m : h.R.m = h0.R.m
  ev : h.ev + f ≤ h0.ev + 17
  rm : Room h.M (34 * f)
theorem OnS.start {h : HuS} (hf : aH h.R = true) (hr : Room h.M 600) : OnS h 17 h :=
  ⟨rfl, by have := potK_le (outJ h.R) h.R.m.toNat; have := fine_m hf; omega, hf, rfl, rfl, Nat.le_refl _, cr hr (by omega)⟩
section
variable {h0 h : HuS} {f m : Nat} {e : Int} {M' : BenS}
theorem OnS.pos (k : OnS h0 f h) : ∃ f', f = f' + 1 := ⟨f - 1, by have := k.pot; omega⟩
theorem OnS.fin (k : OnS h0 f h) (ho : bW h.id (h.ev + 1) h.R h.R.m.toNat 0 h.M = (none, e, M')) : savE h0 = e ∧ savS h0 = ⟨M', h.id, h.ev + 1, h.R⟩ := by
  obtain ⟨f', rfl⟩ := k.pos
  have := k.same
  rw [saveK] at this
  simp only [ho] at this
  unfold savE savS
  rw [← this]
  exact ⟨rfl, rfl⟩
theorem onceK_some {id ev : Nat} {R : Ros} : ∀ (k m : Nat) (M : BenS) {d : Nat} {e : Int} {M' : BenS}, bW id ev R k m M = (some d, e, M') → m ≤ d ∧ d < m + k ∧ sta R d ≠ 1
  | 0, m, M, d, e, M', h => by rw [bW] at h; cases h
  | k + 1, m, M, d, e, M', h => by
    rw [bW] at h
    split at h
    · obtain ⟨h1, h2, h3⟩ := onceK_some k (m + 1) M h
      exact ⟨by omega, by omega, h3⟩
    · rename_i hs
      split at h
      · cases h
        exact ⟨Nat.le_refl _, by omega, hs⟩
      · split at h
        · obtain ⟨h1, h2, h3⟩ := onceK_some k (m + 1) _ h
          exact ⟨by omega, by omega, h3⟩
        · cases h
theorem OnS.go (k : OnS h0 f h) {d : Nat} (ho : bW h.id (h.ev + 1) h.R h.R.m.toNat 0 h.M = (some d, e, M')) : ∃ f', f = f' + 1 ∧ OnS h0 f' ⟨M', h.id, h.ev + 1, losX h.R d⟩ := by
  obtain ⟨f', rfl⟩ := k.pos
  obtain ⟨_, hd, hs⟩ := onceK_some _ _ _ ho
  have hl := los_sta k.fine (d := d) (by omega) hs
  refine ⟨f', rfl, ?_⟩
  have hq : outJ h.R d = true := decide_eq_true hs
  have hq' : outJ (losX h.R d) d = false := by unfold outJ; rw [hl.2 d, if_pos rfl]; rfl
  have hsub : ∀ j, outJ (losX h.R d) j = true → outJ h.R j = true := fun j hj => by
    unfold outJ at hj ⊢
    rw [hl.2 j] at hj
    by_cases e : j = d
    · rw [if_pos e] at hj; simp at hj
    · rwa [if_neg e] at hj
  have hlt := potK_lt hsub hq hq' (n := h.R.m.toNat) (by omega)
  have hr : Room M' (34 * f') := by
    have hm := fine_m k.fine
    have h1 := rm_once (k := 34 * f' + 2) (id := h.id) (ev := h.ev + 1) (R := h.R) h.R.m.toNat 0 h.M (cr k.rm (by omega))
    rw [ho] at h1
    exact cr h1 (by omega)
  refine ⟨?_, ?_, fine_los _ k.fine, k.id, hl.1.trans k.m, by have := k.ev; show h.ev + 1 + f' ≤ _; omega, hr⟩
  · have := k.same
    rw [saveK] at this
    simp only [ho] at this
    exact this
  · show potK (outJ (losX h.R d)) (losX h.R d).m.toNat < f'
    rw [hl.1]
    have := k.pot
    omega
theorem onceK_step {id ev : Nat} {R : Ros} {k m : Nat} {M : BenS} (hs : sta R m ≠ 1) (he : cl id ev R M m = 0) : bW id ev R (k + 1) m M = bW id ev R k (m + 1) (cn id ev R M m) := by
  rw [bW, if_neg hs, if_neg (by rw [he]; decide), if_pos he]
theorem onceK_skip {id ev : Nat} {R : Ros} {k m : Nat} {M : BenS} (hs : sta R m = 1) : bW id ev R (k + 1) m M = bW id ev R k (m + 1) M := by rw [bW, if_pos hs]
theorem onceK_dead {id ev : Nat} {R : Ros} {k m : Nat} {M : BenS} (hs : sta R m ≠ 1) (he : cl id ev R M m = 9) : bW id ev R (k + 1) m M = (some m, 0, cn id ev R M m) := by rw [bW, if_neg hs, if_pos he]
theorem onceK_err {id ev : Nat} {R : Ros} {k m : Nat} {M : BenS} (hs : sta R m ≠ 1) (h0 : cl id ev R M m ≠ 0) (h9 : cl id ev R M m ≠ 9) : bW id ev R (k + 1) m M = (none, cl id ev R M m, cn id ev R M m) := by rw [bW, if_neg hs, if_neg h9, if_neg h0]
end
theorem pslot_b (a b : Blk) (k : Nat) (w : World) (T : Tab w) (h : sloT a b = k) : Calls Tryz.prog 116 #[blk a, blk b] w fun e w' => e = .returned (.int .i64 (k : Nat)) ∧ Below w.heap.size w w' := by
  subst h
  exact pslot a b w T
structure HpS where
  id : Nat
  ev : Nat
  us : Nat
  R : Ros
def phC (qa : Option Addr) (x : HpS) : List Value := .pointer qa :: .int .u64 (x.id : Int) :: .int .u64 (x.ev : Int) :: (aD x.R ++ [.int .u64 (x.us : Int)])
theorem phC_len (qa : Option Addr) (x : HpS) : (phC qa x).length = 25 := by simp [phC, aQ]
def PHo (w : World) (p : Nat) (qa : Option Addr) (x : HpS) : Prop := w.heap[p]? = some (.cells (phC qa x).toArray 70 (0, 0))
abbrev PHu (w : World) (p q : Nat) (x : HpS) : Prop := PHo w p (some ⟨q, 0, none⟩) x
section
variable {w w' : World} {p : Nat} {qa : Option Addr} {x : HpS} {G : Nat → Prop}
theorem PHo.only (h : PHo w p qa x) (ho : Only G w w') (hn : ¬ G p) : PHo w' p qa x := ho.keep h hn
theorem PHo.below (h : PHo w p qa x) (hb : Below w.heap.size w w') : PHo w' p qa x := aj h hb
theorem PHo.lt (h : PHo w p qa x) : p < w.heap.size := aF h
theorem PHo.c0 (h : PHo w p qa x) : w.cell? ⟨p, 0, none⟩ = some (.pointer qa) := (aL h) 0 _ rfl
theorem PHo.c1 (h : PHo w p qa x) : w.cell? ⟨p, 1, none⟩ = some (.int .u64 (x.id : Int)) := (aL h) 1 _ rfl
theorem PHo.c2 (h : PHo w p qa x) : w.cell? ⟨p, 2, none⟩ = some (.int .u64 (x.ev : Int)) := (aL h) 2 _ rfl
theorem PHo.c24 (h : PHo w p qa x) : w.cell? ⟨p, 24, none⟩ = some (.int .u64 (x.us : Int)) := (aL h) 24 _ (by
  show (aD x.R ++ [_])[21]? = _
  rw [List.getElem?_append_right (by rw [aQ]; exact Nat.le_refl _), aQ]; rfl)
theorem PHo.ros (h : PHo w p qa x) : w.rangeAt p 3 (aD x.R) := by
  have := du (k := 3) (ds := [.pointer qa, .int .u64 (x.id : Int), .int .u64 (x.ev : Int)]) (es := aD x.R) (fs := [.int .u64 (x.us : Int)]) (aL h) (by simp [phC]) rfl
  rwa [Nat.zero_add] at this
theorem PHo.geo (h : PHo w p qa x) : w.rangeAt p 3 (celG x.R) := du (cs := aD x.R) (ds := []) (k := 0) h.ros rfl rfl
theorem PHo.free_ (h : PHo w p qa x) (j : Nat) : w.frozen? ⟨p, j, none⟩ = false := frozen_of_row w p j _ _ h
theorem PHo.there (h : PHo w p qa x) {o n : Nat} (hn : o + n ≤ 25) : w.there p o n := cE h (by rw [phC_len]; exact hn)
theorem faHp0 : (Instr.fieldAt 70 (.pointer (some ⟨p, 0, none⟩)) 0).run Tryz.prog w = .ok (.pointer (some ⟨p, 0, none⟩)) w := by kernel_rfl
theorem faHp1 : (Instr.fieldAt 70 (.pointer (some ⟨p, 0, none⟩)) 1).run Tryz.prog w = .ok (.pointer (some ⟨p, 1, none⟩)) w := by kernel_rfl
theorem faHp2 : (Instr.fieldAt 70 (.pointer (some ⟨p, 0, none⟩)) 2).run Tryz.prog w = .ok (.pointer (some ⟨p, 2, none⟩)) w := by kernel_rfl
theorem faHp3 : (Instr.fieldAt 70 (.pointer (some ⟨p, 0, none⟩)) 3).run Tryz.prog w = .ok (.pointer (some ⟨p, 3, none⟩)) w := by kernel_rfl
theorem faHp4 : (Instr.fieldAt 70 (.pointer (some ⟨p, 0, none⟩)) 4).run Tryz.prog w = .ok (.pointer (some ⟨p, 24, none⟩)) w := by kernel_rfl
theorem faHr0 : (Instr.fieldAt 28 (.pointer (some ⟨p, 3, none⟩)) 0).run Tryz.prog w = .ok (.pointer (some ⟨p, 3, none⟩)) w := by kernel_rfl
theorem ldHb {ad : Addr} {a : Option Addr} (h : w.cell? ad = some (.pointer a)) : (Instr.loadAt 29 (.pointer (some ad))).run Tryz.prog w = .ok (.pointer a) w := by simp [go_sem, h]
theorem ldHp {ad : Addr} {a : Option Addr} (h : w.cell? ad = some (.pointer a)) : (Instr.loadAt 36 (.pointer (some ad))).run Tryz.prog w = .ok (.pointer a) w := by simp [go_sem, h]
theorem PHo.set {y : HpS} (h : PHo w p qa x) {j : Nat} {u : Value} (hy : (phC qa x).set j u = phC qa y) : PHo (w.setCell ⟨p, j, none⟩ u) p qa y := by
  have := heap_setCell_same w p j _ 70 u h
  rw [List.setIfInBounds_toArray, hy] at this
  exact this
theorem PHo.put (h : PHo w p qa x) (y : Ros) : PHo (w.setCells p 3 (aD y)) p qa { x with R := y } :=
  heap_put p 70 [.int .u64 (x.us : Int)] (aD y) (aD x.R) [.pointer qa, .int .u64 (x.id : Int), .int .u64 (x.ev : Int)] w (by rw [aQ, aQ]) h
theorem phC_ev (qa : Option Addr) (x : HpS) (e : Nat) : (phC qa x).set 2 (.int .u64 (e : Int)) = phC qa { x with ev := e } := rfl
theorem phC_us (qa : Option Addr) (x : HpS) (e : Nat) : (phC qa x).set 24 (.int .u64 (e : Int)) = phC qa { x with us := e } := by
  show _ :: _ :: _ :: (aD x.R ++ [_]).set 21 _ = _
  rw [List.set_append_right _ _ (by rw [aQ]; exact Nat.le_refl _), aQ]
  rfl
end
def HJ (w0 : World) (H K : Nat → Prop) (w : World) (p q : Nat) (M : BenS) (x : HpS) : Prop :=
  ∃ G, aS.Bn w G q M ∧ PHu w p q x ∧ ¬ G p ∧ Only H w0 w ∧ Grow w0 H (fun b => G b ∨ b = p) ∧ (∀ b, K b → ¬ G b ∧ b ≠ p ∧ b < w.heap.size) ∧ CrG w0 H
section
variable {w0 w w' : World} {H K K' : Nat → Prop} {p q : Nat} {M : BenS} {x y : HpS}
theorem HJ.hul (h : HJ w0 H K w p q M x) : PHu w p q x := by obtain ⟨_, _, h, _⟩ := h; exact h
theorem HJ.tab (h : HJ w0 H K w p q M x) : Tab w := by
  obtain ⟨_, _, _, _, h, _, _, hT⟩ := h
  intro i hi
  have := hT.t i hi
  exact (h.cell (p := ⟨0, i, none⟩) (lt_of_cell_ this) hT.off).trans this
theorem HJ.lt (h : HJ w0 H K w p q M x) {b : Nat} (hb : K b) : b < w.heap.size := by obtain ⟨_, _, _, _, _, _, h, _⟩ := h; exact (h b hb).2.2
theorem HJ.ne (h : HJ w0 H K w p q M x) {b : Nat} (hb : K b) : b ≠ p := by obtain ⟨_, _, _, _, _, _, h, _⟩ := h; exact (h b hb).2.1
theorem HJ.size (h : HJ w0 H K w p q M x) : w0.heap.size ≤ w.heap.size := by obtain ⟨_, _, _, _, h, _⟩ := h; exact h.size
theorem HJ.guard (h : HJ w0 H K w p q M x) (hb : Below w.heap.size w w') (hK : ∀ b, K' b → K b ∨ (w.heap.size ≤ b ∧ b < w'.heap.size)) : HJ w0 H K' w' p q M x := by
  obtain ⟨G, h1, h2, h3, h4, h5, h6, h7⟩ := h
  have hlt := aS.lt h1
  have hp := h2.lt
  have hs := hb.size
  refine ⟨G, aS.below h1 hb, h2.below hb, h3, h4.then_below hb, h5, fun b e => ?_, h7⟩
  rcases hK b e with e | ⟨e1, e2⟩
  · obtain ⟨g1, g2, g3⟩ := h6 b e
    exact ⟨g1, g2, by omega⟩
  · exact ⟨fun hg => by have := hlt b hg; omega, by omega, e2⟩
theorem HJ.below (h : HJ w0 H K w p q M x) (hb : Below w.heap.size w w') : HJ w0 H K w' p q M x := h.guard hb fun b e => .inl e
theorem HJ.drew (h : HJ w0 H K w p q M x) : HJ w0 H K w.drew p q M x := h.below (bd (Below.refl _ _))
theorem HJ.less (h : HJ w0 H K w p q M x) (hK : ∀ b, K' b → K b) : HJ w0 H K' w p q M x := h.guard (Below.refl _ _) fun b e => .inl (hK b e)
def up (K : Nat → Prop) (n m : Nat) : Nat → Prop := fun b => K b ∨ (n ≤ b ∧ b < m)
theorem HJ.up (h : HJ w0 H K w p q M x) (hb : Below w.heap.size w w') : HJ w0 H (Proofs.YtnliphgjcaippaaGreatDoor.up K w.heap.size w'.heap.size) w' p q M x := h.guard hb fun b e => e
theorem HJ.kept (h : HJ w0 H K w p q M x) (hb : Below w.heap.size w w') : bD K w w' := fun b e => hb.block b (h.lt e)
theorem HJ.turn {G G' : Nat → Prop} {M' : BenS} (h1 : aS.Bn w G q M) (h2 : PHu w p q x) (h3 : ¬ G p) (h4 : Only H w0 w) (h5 : Grow w0 H (fun b => G b ∨ b = p)) (h6 : ∀ b, K b → ¬ G b ∧ b ≠ p ∧ b < w.heap.size) (h7 : CrG w0 H)
    (k1 : aS.Bn w' G' q M') (k2 : Only G w w') (k3 : Grow w G G') : HJ w0 H K w' p q M' x ∧ bD K w w' := by
  have hs := k2.size
  have hs0 := h4.size
  have hp := h2.lt
  refine ⟨⟨G', k1, h2.only k2 h3, fun e => ?_, h4.trans k2 fun b e => h5 b (.inl e), fun b e => ?_, fun b e => ?_, h7⟩, fun b e => k2.block b (h6 b e).2.2 (h6 b e).1⟩
  · rcases k3 p e with e | e
    · exact h3 e
    · omega
  · rcases e with e | e
    · rcases k3 b e with e | e
      · exact h5 b (.inl e)
      · exact .inr (by omega)
    · exact h5 b (.inr e)
  · obtain ⟨g1, g2, g3⟩ := h6 b e
    refine ⟨fun hg => ?_, g2, by omega⟩
    rcases k3 b hg with e | e
    · exact g1 e
    · omega
theorem HJ.write (d n : Int) (b : Blk) (hr : Room M 1) (h : HJ w0 H K w p q M x) : Calls Tryz.prog 58 #[.pointer (some ⟨q, 0, none⟩), .int .i64 d, .int .i64 n, blk b] w fun e w' => e = .returned (.int .i64 (cx M d n)) ∧ HJ w0 H K w' p q (wrS6 M d n b) x ∧ bD K w w' := by
  obtain ⟨G, h1, h2, h3, h4, h5, h6, h7⟩ := h
  exact (aS.write d n b hr h1).mono fun e w' ⟨k0, G', k1, k2, k3⟩ => ⟨k0, HJ.turn h1 h2 h3 h4 h5 h6 h7 k1 k2 k3⟩
theorem HJ.flush (d : Int) (hr : Room M 1) (h : HJ w0 H K w p q M x) : Calls Tryz.prog 69 #[.pointer (some ⟨q, 0, none⟩), .int .i64 d] w fun e w' => e = .returned (.int .i64 (flE6 M d)) ∧ HJ w0 H K w' p q (flS6 M d) x ∧ bD K w w' := by
  obtain ⟨G, h1, h2, h3, h4, h5, h6, h7⟩ := h
  exact (aS.flush d hr h1).mono fun e w' ⟨k0, G', k1, k2, k3⟩ => ⟨k0, HJ.turn h1 h2 h3 h4 h5 h6 h7 k1 k2 k3⟩
theorem HJ.read (d n : Int) (h : HJ w0 H K w p q M x) : Calls Tryz.prog 56 #[.pointer (some ⟨q, 0, none⟩), .int .i64 d, .int .i64 n] w fun e w' => e = .returned (.tuple #[blk (rdB6 M d n), .int .i64 (bx M d n)]) ∧ Below w.heap.size w w' := by
  obtain ⟨G, h1, _⟩ := h
  exact aS.read d n h1
theorem HJ.obj (h : HJ w0 H K w p q M x) (ho : Only (fun b => b = p) w w') (hp : PHu w' p q y) : HJ w0 H K w' p q M y ∧ bD K w w' := by
  obtain ⟨G, h1, h2, h3, h4, h5, h6, h7⟩ := h
  have hs := ho.size
  refine ⟨⟨G, aS.only h1 ho fun b hb e => h3 (e ▸ hb), hp, h3, h4.trans ho fun b e => h5 b (.inr e), h5, fun b e => ?_, h7⟩, fun b e => ho.block b (h6 b e).2.2 (h6 b e).2.1⟩
  obtain ⟨g1, g2, g3⟩ := h6 b e
  exact ⟨g1, g2, by omega⟩
theorem HJ.mine {g : Nat} (h : HJ w0 H K w p q M x) (hg : K g) (hg0 : w0.heap.size ≤ g) (ho : Only (fun b => b = g) w w') : HJ w0 H K w' p q M x := by
  obtain ⟨G, h1, h2, h3, h4, h5, h6, h7⟩ := h
  have hs := ho.size
  obtain ⟨g1, g2, g3⟩ := h6 g hg
  refine ⟨G, aS.only h1 ho fun b hb e => g1 (e ▸ hb), h2.only ho fun e => g2 e.symm, h3, h4.trans ho fun b e => .inr (by omega), h5, fun b e => ?_, h7⟩
  obtain ⟨g1, g2, g3⟩ := h6 b e
  exact ⟨g1, g2, by omega⟩
end
theorem bD.refl (K : Nat → Prop) (w : World) : bD K w w := fun _ _ => rfl
theorem bD.trans {K : Nat → Prop} {w1 w2 w3 : World} (h : bD K w1 w2) (k : bD K w2 w3) : bD K w1 w3 := fun b e => (k b e).trans (h b e)
theorem bD.less {K K' : Nat → Prop} {w1 w2 : World} (h : bD K w1 w2) (hK : ∀ b, K' b → K b) : bD K' w1 w2 := fun b e => h b (hK b e)
theorem bD.at_ {K : Nat → Prop} {w w' : World} {b : Nat} {o : Obj} (k : bD K w w') (hb : K b) (ho : w.heap[b]? = some o) : w'.heap[b]? = some o := (k b hb).trans ho
theorem bD.of_only {K : Nat → Prop} {w w' : World} {g : Nat} (ho : Only (fun b => b = g) w w') (hK : ∀ b, K b → b ≠ g ∧ b < w.heap.size) : bD K w w' := fun b e => ho.block b (hK b e).2 (hK b e).1
structure Fu where
  f : FuncId
  cap : List Value
  ok : ∀ (args : Array Value) (w : World), (callFunc f args).run Tryz.prog w = .ok (.enter f args) w
def Fu.val (s : Fu) : Value := .func (.func s.f) #[] s.cap.toArray
section
variable {ρ : Operand → Value} {o : Oper} {x y : Operand} {w : World} {s : Fu} {v : Value}
theorem ldFu1 {ad : Addr} (h : w.cell? ad = some s.val) : (Instr.loadAt 53 (.pointer (some ad))).run Tryz.prog w = .ok s.val w := by unfold Fu.val at *; simp [go_sem, h]
theorem exec_callU0 {a : Act} {ats : Array TypeId} (ho : o.op = .call { callee := .value x, args := #[], argTypes := ats }) (hx : a.eval x = s.val) : (execOp a.eval o).run Tryz.prog w = .ok (.enter s.f s.cap.toArray) w := by
  unfold Fu.val at hx
  unfold execOp
  simp [ho, resolve, Deferred.ofValue, invoke, hx, s.ok]
theorem exec_callU1 {a : Act} {ats : Array TypeId} (ho : o.op = .call { callee := .value x, args := #[y], argTypes := ats }) (hx : a.eval x = s.val) (hy : a.eval y = v) : (execOp a.eval o).run Tryz.prog w = .ok (.enter s.f (v :: s.cap).toArray) w := by
  unfold Fu.val at hx
  unfold execOp
  simp [ho, resolve, Deferred.ofValue, invoke, hx, hy, s.ok]
end
end Go.Proofs.YtnliphgjcaippaaGreatDoor
