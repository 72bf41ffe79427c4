import Derived.Test.YtbbcdhkinbmdnaaGreatDoorLobd
import Derived.Test.YtbbcdhkinbmdnaaGreatDoorLobf
import Derived.Test.YtbbcdhkinbmdnaaGreatDoorLoaf
import Derived.Test.YtbbcdhkinbmdnaaGreatDoorLoah
import Derived.Test.YtbbcdhkinbmdnaaGreatDoorLoai
import Derived.Test.YtbbcdhkinbmdnaaGreatDoorLoan
import Derived.Test.YtbbcdhkinbmdnaaGreatDoorLoaj
import Derived.Test.YtbbcdhkinbmdnaaGreatDoorLoZ
namespace Go.Proofs.YtbbcdhkinbmdnaaGreatDoor
open Go.RowKit
set_option linter.unusedVariables false
set_option linter.unusedSimpArgs false
set_option maxRecDepth 100000
def nxtZ (M : BenS) (x : LgS) : Blk := cq M x.d (cp x.next)
theorem opnN_no {M : BenS} {x : LgS} (k : Nat) (h : nxtQ x (nxtZ M x) = false) : opnN M k x = x := by
 cases k with
 | zero => rfl
 | succ k => exact if_neg (by unfold nxtZ at h; rw [h]; decide)
theorem opnN_yes {M : BenS} {x : LgS} (k : Nat) (h : nxtQ x (nxtZ M x) = true) : opnN M (k + 1) x = opnN M k (x.with_ (aL.gX (nxtZ M x))) := if_pos h
theorem nxtQ_awt {x : LgS} {z : Blk} (h : aL.gE z = 0) : nxtQ x z = awtB x (aL.gX z) := by
 unfold nxtQ awtB
 simp [h]
structure RnS (M : BenS) (X : LgS) (d k : Nat) (x : LgS) : Prop where
 ok : LgOk M x 0
 d : x.d = d
 len : x.nts.length ≤ k
 rest : opnN M (8 - k) x = X
 fst : x.fst ≤ 2305843009213693952
 pos : x.pos ≤ 2305843009213693952
theorem RnS.next {M : BenS} {X x : LgS} {d k : Nat} (h : RnS M X d k x) (hk : k < 8) (hq : nxtQ x (nxtZ M x) = true) : RnS M X d (k + 1) (x.with_ (aL.gX (nxtZ M x))) := by
 obtain ⟨q1, q2, q3, q4⟩ : aL.gE (nxtZ M x) = 0 ∧ (aL.gX (nxtZ M x)).seq = x.next ∧ (aL.gX (nxtZ M x)).pos = x.head ∧ bc (aL.gX (nxtZ M x)) ≤ x.free := of_decide_eq_true hq
 have m1 := eX (aL.gX_may q1)
 have m2 : (aL.gX (nxtZ M x)).fit := aL.gX_fits _
 have hl := h.len
 have hu := h.ok.use
 have hs := h.ok.siz
 have hfr : x.free = x.size - x.used := rfl
 have hhd : x.head = x.pos + x.used := rfl
 have hnx : x.next = x.fst + x.nts.length := rfl
 have hc := h.ok.cnt
 have hf := h.fst
 have hp := h.pos
 refine ⟨h.ok.with_ (by omega) ⟨m1.2.2.2.1, m1.2.2.2.2⟩ q3 m2 q4 (by omega) (by omega) (by omega) hc, h.d, ?_, ?_, hf, hp⟩
 ·show (x.nts ++ [_]).length ≤ k + 1
  rw [List.length_append, List.length_singleton]
  omega
 ·have := h.rest
  rw [show 8 - k = (8 - (k + 1)) + 1 from by omega, opnN_yes _ hq] at this
  exact this
def RnPost (w : World) (p q : Nat) (X : LgS) (e : Ending) (w' : World) : Prop :=
 e = .returned (.int .i64 0) ∧ Only (fun b => b = p) w w' ∧ ∃ v', PLg w' p q v' X ∧ ∀ b, v'.ownBlock = some b → w.heap.size ≤ b
structure RnW (w wr : World) (p q : Nat) (v : Value) (x : LgS) : Prop where
 log : PLg wr p q v x
 only : Only (fun b => b = p) w wr
 own : ∀ b, v.ownBlock = some b → w.heap.size ≤ b
theorem RnW.below {w wr wz : World} {p q : Nat} {v : Value} {x : LgS} (h : RnW w wr p q v x) (hb : Below wr.heap.size wr wz) : RnW w wz p q v x := ⟨h.log.below hb, h.only.dH hb, h.own⟩
set_option maxHeartbeats 6000000 in
theorem plreadNotes {w0 w : World} {H K : Nat → Prop} {p q d : Nat} {M : BenS} {X x : LgS} (h : PJ w0 H K w p q (.slice none 0 0) M x) (hr : RnS M X d 0 x) (h1 : dV M (d : Int) = 0) (h2 : 50 ≤ bO M (d : Int)) (h3 : bT M (d : Int) 0 = 0) : Calls Tryz.prog 30 #[.pointer (some ⟨p, 0, none⟩)] w (RnPost w p q X) := by
 have HJ0 : Hid (∀ wr v' x', RnW w wr p q v' x' → PJ w0 H (fun _ => False) wr p q v' M x') := af fun wr v' x' k => h.grow (k.only.wide fun b e => .inl e) k.log fun b e => .inr (k.own b e)
 have HW0 : Hid (RnW w w p q (.slice none 0 0) x) := af ⟨h.log, Only.refl _ _, fun b e => by simp [Value.ownBlock] at e⟩
 have HRS := af hr
 have HHS := af h1
 have HSE := af h2
 have HRD := af h3
 clear h hr h1 h2 h3
 go_enter Tryz.func30, Tryz.ntmps30
 go_wp2_with fail
 go_loopw [6] (fun i wr => ∃ (k : Nat) (v : Value) (x : LgS), k ≤ 8 ∧ i = .int .i64 k ∧ RnW w wr p q v x ∧ RnS M X d k x) (fun i _ => 8 - (intOf i).toNat)
 case atStart => exact ⟨0, _, x, Nat.zero_le _, rfl, HW0.out, HRS.out⟩
 case round =>
  clear HW0 HRS
  obtain ⟨k, v, x, hk, rfl, hw, hs⟩ := hrel
  by_cases hlt : k < 8
  rotate_left 1
  ·have hkt : k = 8 := by omega
   subst hkt
   have hxX : x = X := hs.rest
   have HW := af hw
   rw [hxX] at HW
   clear hw hs
   go_wp2_with fail
   go_ret
   exact ⟨rfl, HW.out.only, v, HW.out.log, HW.out.own⟩
  obtain ⟨A, cc, rfl, hcc1, hcc2⟩ := hw.log.slice
  have HW := af hw
  have HS := af hs
  have HK := af hs.ok
  have HLR := af hw.log
  have HJR : Hid (∀ w', Below wr.heap.size wr w' → PJ w0 H (fun _ => False) w' p q (.slice A x.nts.length cc) M x) := af fun w' hb => HJ0.out _ _ _ (hw.below hb)
  have hnx := hs.ok.nxt
  have hmod := Nat.mod_lt x.next (show 0 < 8 by omega)
  have HSQ : Hid (x.next < 18446744073709551616) := af (by omega)
  have HAD : Hid (IntKind.i64.wrap (2 + ((x.next % 8 : Nat) : Int)) = cp x.next) := af (by unfold cp; rw [IntWalk.i64_in _ ⟨by omega, by omega⟩]; omega)
  obtain ⟨c, hc⟩ : ∃ c, nxtZ M x = c := ⟨_, rfl⟩
  have HRC : Hid (cq M (x.d : Int) (cp x.next) = c) := af hc
  have HRE : Hid (bT M (x.d : Int) (cp x.next) = 0) := af (by
   rw [hs.d]
   exact (rd_two HHS.out HSE.out ⟨by unfold cp; omega, by unfold cp; omega⟩ (by omega)).trans HRD.out)
  clear hw hs hnx hmod hc hcc1 hcc2
  go_upto_region 3 with fail
  apply share (α := Nat) (β := World) (F := fun bv wv => Below wr.heap.size wr wv ∧ cz wv bv c ∧ wr.heap.size ≤ bv)
  ·intro tail_
   refine wp_region_held (S := fun w' => Below wr.heap.size wr w') (by kernel_rfl) ?_
   change wpAnyH _ _ _ _ _ 19 _ _ wr.drew
   have HS0 := af (bd (Below.refl wr.heap.size wr))
   refine gt 0 rfl (fun w' hw => aj rfl (ev rfl)) HS0.out ?_;simp only [aa]
   refine gt 1 rfl (fun w' hw => aB rfl (ev rfl)) HS0.out ?_;simp only [aa]
   refine gt 2 rfl (fun w' hw => am rfl (ev rfl) faQl0) HS0.out ?_;simp only [aa]
   refine gt 3 rfl (fun w' hw => au rfl (ev rfl) (ldQp (PLg.c0 (HLR.out.below hw)))) HS0.out ?_;simp only [aa]
   refine gt 4 rfl (fun w' hw => aj rfl (ev rfl)) HS0.out ?_;simp only [aa]
   refine gt 5 rfl (fun w' hw => aB rfl (ev rfl)) HS0.out ?_;simp only [aa]
   refine gt 6 rfl (fun w' hw => am rfl (ev rfl) faQl1) HS0.out ?_;simp only [aa]
   refine gt 7 rfl (fun w' hw => au rfl (ev rfl) (bj (PLg.c1 (HLR.out.below hw)))) HS0.out ?_;simp only [aa]
   refine gt 8 rfl (fun w' hw => aj rfl (ev rfl)) HS0.out ?_;simp only [aa]
   refine held_two 9 16 (by kernel_rfl) ?_ ?_
   ·refine dC 9 rfl rfl (av Tryz.call71 rfl (evc (ev rfl) evn)) ?_
    refine (plnext wr.drew (HLR.out.below HS0.out) HK.out).mono ?_
    rintro e wc1 ⟨rfl, hb5⟩
    have HC1 := af (HS0.out.trans (hb5.mono HS0.out.size))
    clear hb5
    refine ⟨_, rfl, HC1.out, ?_⟩
    simp only [aa]
    refine held_two 10 16 (by kernel_rfl) ?_ ?_
    ·refine dC 10 rfl rfl (av Tryz.call70 rfl (evc (ev rfl) evn)) ?_
     refine (pntslot x.next wc1 HSQ.out).mono ?_
     rintro e w' ⟨rfl, rfl⟩
     refine ⟨_, rfl, HC1.out, ?_⟩
     simp only [aa]
     refine gt 11 rfl (fun w' hw => da rfl evk (ev rfl) HAD.out) HC1.out ?_;simp only [aa]
     refine held_two 12 16 (by kernel_rfl) ?_ ?_
     ·refine dC 12 rfl rfl (av Tryz.call68 rfl (evc (ev rfl) (evc (ev rfl) (evc (ev rfl) evn)))) ?_
      refine (PJ.read (x.d : Int) (cp x.next) (HJR.out _ HC1.out)).mono ?_
      rintro e wc3 ⟨rfl, hb5⟩
      rw [HRC.out, HRE.out]
      have HC3 := af (HC1.out.trans (hb5.mono HC1.out.size))
      clear hb5
      refine ⟨_, rfl, HC3.out, ?_⟩
      simp only [aa]
      refine gt 13 rfl (fun w' hw => aj rfl (ev rfl)) HC3.out ?_;simp only [aa]
      refine gt 14 rfl (fun w' hw => aD rfl (ev rfl) rfl) HC3.out ?_;simp only [aa]
      refine gt 15 rfl (fun w' hw => aD rfl (ev rfl) rfl) HC3.out ?_;simp only [aa]
      refine cM 16 (by kernel_rfl) (fa 16 rfl rfl (aT rfl) ⟨HC3.out.alloc HC3.out.size _, ?_⟩)
      simp only [aa]
      have HS2 := af (HC3.out.alloc HC3.out.size (.cells (cel c).toArray 29))
      refine eg 17 rfl (by kernel_rfl) rfl (dp (c := c) rfl (ev rfl) (ev rfl)) HS2.out ?_
      simp only [Act.put]
      refine gt 18 rfl (fun w' hw => aq rfl (ev rfl)) HS2.out ?_;simp only [aa]
      refine wpAnyH_done (by kernel_rfl) ?_ _
      have hb : cz (wc3.alloc (.cells (cel c).toArray 29)) wc3.heap.size c := heap_alloc_new wc3 _
      have hz : wr.heap.size ≤ wc3.heap.size := HC3.out.size
      have hs2 := HS2.out
      generalize wc3.alloc (.cells (cel c).toArray 29) = wq at *
      generalize wc3.heap.size = bq at *
      exact tail_ bq wq ⟨hs2, hb, hz⟩
     ·refine fa 16 rfl rfl (aT rfl) ⟨HC1.out.alloc HC1.out.size _, ?_⟩
      simp only [aa]
      have HA4 := af (HC1.out.alloc HC1.out.size (.cells (cel ap).toArray 29))
      have HBZ := af (show cz (wc1.alloc (.cells (cel ap).toArray 29)) wc1.heap.size ap from heap_alloc_new wc1 _)
      have HBA : Hid (wr.heap.size ≤ wc1.heap.size) := af HC1.out.size
      obtain ⟨ba, hba⟩ : ∃ ba, wc1.heap.size = ba := ⟨_, rfl⟩
      rw [hba] at HBZ HBA ⊢
      clear hba
      generalize wc1.alloc (.cells (cel ap).toArray 29) = wa4 at *
      refine cM 12 (by kernel_rfl) (dC 12 rfl rfl (av Tryz.call68 rfl (evc (ev rfl) (evc (ev rfl) (evc (ev rfl) evn)))) ?_)
      refine (PJ.read (x.d : Int) (cp x.next) (HJR.out _ HA4.out)).mono ?_
      rintro e wc5 ⟨rfl, hb5⟩
      rw [HRC.out, HRE.out]
      have HC5 := af (HA4.out.trans (hb5.mono HA4.out.size))
      have HBZ : Hid (cz wc5 ba ap) := af ((hb5.block ba (aK HBZ.out)).trans HBZ.out)
      clear hb5
      refine ⟨_, rfl, HC5.out, ?_⟩
      simp only [aa]
      refine gt 13 rfl (fun w' hw => aj rfl (ev rfl)) HC5.out ?_;simp only [aa]
      refine gt 14 rfl (fun w' hw => aD rfl (ev rfl) rfl) HC5.out ?_;simp only [aa]
      refine gt 15 rfl (fun w' hw => aD rfl (ev rfl) rfl) HC5.out ?_;simp only [aa]
      have HS2 := af (below_setCells (b := ba) (o := 0) HC5.out HBA.out (cel c))
      refine eg 17 rfl (by kernel_rfl) rfl (aR (c := c) rfl (ev rfl) (ev rfl) (d7 (o := 0) (n := 64) HBZ.out (by show 64 ≤ (cel ap).toArray.size; simp [aA]))) HS2.out ?_
      simp only [Act.put]
      refine gt 18 rfl (fun w' hw => aq rfl (ev rfl)) HS2.out ?_;simp only [aa]
      refine wpAnyH_done (by kernel_rfl) ?_ _
      have hb : cz (wc5.setCells ba 0 (cel c)) ba c := HBZ.out.set c
      have hs2 := HS2.out
      generalize wc5.setCells ba 0 (cel c) = wq at *
      exact tail_ ba wq ⟨hs2, hb, HBA.out⟩
    ·refine fa 16 rfl rfl (aT rfl) ⟨HC1.out.alloc HC1.out.size _, ?_⟩
     simp only [aa]
     have HA6 := af (HC1.out.alloc HC1.out.size (.cells (cel ap).toArray 29))
     have HBZ := af (show cz (wc1.alloc (.cells (cel ap).toArray 29)) wc1.heap.size ap from heap_alloc_new wc1 _)
     have HBA : Hid (wr.heap.size ≤ wc1.heap.size) := af HC1.out.size
     obtain ⟨ba, hba⟩ : ∃ ba, wc1.heap.size = ba := ⟨_, rfl⟩
     rw [hba] at HBZ HBA ⊢
     clear hba
     generalize wc1.alloc (.cells (cel ap).toArray 29) = wa6 at *
     refine cM 10 (by kernel_rfl) (dC 10 rfl rfl (av Tryz.call70 rfl (evc (ev rfl) evn)) ?_)
     refine (pntslot x.next wa6 HSQ.out).mono ?_
     rintro e w' ⟨rfl, rfl⟩
     refine ⟨_, rfl, HA6.out, ?_⟩
     simp only [aa]
     refine gt 11 rfl (fun w' hw => da rfl evk (ev rfl) HAD.out) HA6.out ?_;simp only [aa]
     refine cM 12 (by kernel_rfl) (dC 12 rfl rfl (av Tryz.call68 rfl (evc (ev rfl) (evc (ev rfl) (evc (ev rfl) evn)))) ?_)
     refine (PJ.read (x.d : Int) (cp x.next) (HJR.out _ HA6.out)).mono ?_
     rintro e wc8 ⟨rfl, hb5⟩
     rw [HRC.out, HRE.out]
     have HC8 := af (HA6.out.trans (hb5.mono HA6.out.size))
     have HBZ : Hid (cz wc8 ba ap) := af ((hb5.block ba (aK HBZ.out)).trans HBZ.out)
     clear hb5
     refine ⟨_, rfl, HC8.out, ?_⟩
     simp only [aa]
     refine gt 13 rfl (fun w' hw => aj rfl (ev rfl)) HC8.out ?_;simp only [aa]
     refine gt 14 rfl (fun w' hw => aD rfl (ev rfl) rfl) HC8.out ?_;simp only [aa]
     refine gt 15 rfl (fun w' hw => aD rfl (ev rfl) rfl) HC8.out ?_;simp only [aa]
     have HS2 := af (below_setCells (b := ba) (o := 0) HC8.out HBA.out (cel c))
     refine eg 17 rfl (by kernel_rfl) rfl (aR (c := c) rfl (ev rfl) (ev rfl) (d7 (o := 0) (n := 64) HBZ.out (by show 64 ≤ (cel ap).toArray.size; simp [aA]))) HS2.out ?_
     simp only [Act.put]
     refine gt 18 rfl (fun w' hw => aq rfl (ev rfl)) HS2.out ?_;simp only [aa]
     refine wpAnyH_done (by kernel_rfl) ?_ _
     have hb : cz (wc8.setCells ba 0 (cel c)) ba c := HBZ.out.set c
     have hs2 := HS2.out
     generalize wc8.setCells ba 0 (cel c) = wq at *
     exact tail_ ba wq ⟨hs2, hb, HBA.out⟩
   ·refine fa 16 rfl rfl (aT rfl) ⟨HS0.out.alloc HS0.out.size _, ?_⟩
    simp only [aa]
    have HA9 := af (HS0.out.alloc HS0.out.size (.cells (cel ap).toArray 29))
    have HBZ := af (show cz (wr.drew.alloc (.cells (cel ap).toArray 29)) wr.drew.heap.size ap from heap_alloc_new wr.drew _)
    have HBA : Hid (wr.heap.size ≤ wr.drew.heap.size) := af HS0.out.size
    obtain ⟨ba, hba⟩ : ∃ ba, wr.drew.heap.size = ba := ⟨_, rfl⟩
    rw [hba] at HBZ HBA ⊢
    clear hba
    generalize wr.drew.alloc (.cells (cel ap).toArray 29) = wa9 at *
    refine cM 9 (by kernel_rfl) (dC 9 rfl rfl (av Tryz.call71 rfl (evc (ev rfl) evn)) ?_)
    refine (plnext wa9 (HLR.out.below HA9.out) HK.out).mono ?_
    rintro e wc10 ⟨rfl, hb5⟩
    have HC10 := af (HA9.out.trans (hb5.mono HA9.out.size))
    have HBZ : Hid (cz wc10 ba ap) := af ((hb5.block ba (aK HBZ.out)).trans HBZ.out)
    clear hb5
    refine ⟨_, rfl, HC10.out, ?_⟩
    simp only [aa]
    refine cM 10 (by kernel_rfl) (dC 10 rfl rfl (av Tryz.call70 rfl (evc (ev rfl) evn)) ?_)
    refine (pntslot x.next wc10 HSQ.out).mono ?_
    rintro e w' ⟨rfl, rfl⟩
    refine ⟨_, rfl, HC10.out, ?_⟩
    simp only [aa]
    refine gt 11 rfl (fun w' hw => da rfl evk (ev rfl) HAD.out) HC10.out ?_;simp only [aa]
    refine cM 12 (by kernel_rfl) (dC 12 rfl rfl (av Tryz.call68 rfl (evc (ev rfl) (evc (ev rfl) (evc (ev rfl) evn)))) ?_)
    refine (PJ.read (x.d : Int) (cp x.next) (HJR.out _ HC10.out)).mono ?_
    rintro e wc12 ⟨rfl, hb5⟩
    rw [HRC.out, HRE.out]
    have HC12 := af (HC10.out.trans (hb5.mono HC10.out.size))
    have HBZ : Hid (cz wc12 ba ap) := af ((hb5.block ba (aK HBZ.out)).trans HBZ.out)
    clear hb5
    refine ⟨_, rfl, HC12.out, ?_⟩
    simp only [aa]
    refine gt 13 rfl (fun w' hw => aj rfl (ev rfl)) HC12.out ?_;simp only [aa]
    refine gt 14 rfl (fun w' hw => aD rfl (ev rfl) rfl) HC12.out ?_;simp only [aa]
    refine gt 15 rfl (fun w' hw => aD rfl (ev rfl) rfl) HC12.out ?_;simp only [aa]
    have HS2 := af (below_setCells (b := ba) (o := 0) HC12.out HBA.out (cel c))
    refine eg 17 rfl (by kernel_rfl) rfl (aR (c := c) rfl (ev rfl) (ev rfl) (d7 (o := 0) (n := 64) HBZ.out (by show 64 ≤ (cel ap).toArray.size; simp [aA]))) HS2.out ?_
    simp only [Act.put]
    refine gt 18 rfl (fun w' hw => aq rfl (ev rfl)) HS2.out ?_;simp only [aa]
    refine wpAnyH_done (by kernel_rfl) ?_ _
    have hb : cz (wc12.setCells ba 0 (cel c)) ba c := HBZ.out.set c
    have hs2 := HS2.out
    generalize wc12.setCells ba 0 (cel c) = wq at *
    exact tail_ ba wq ⟨hs2, hb, HBA.out⟩
  ·intro bb wz hf
   obtain ⟨hb1, hbk, hz⟩ := hf
   have HB1 := af hb1
   have HKB := af hbk
   clear hb1 hbk hz
   go_upto_region 6 with fail
   refine ag ?_
   refine ai rfl (aS (c := c) rfl (ev rfl) HKB.out.range) ?_;simp only [aa]
   refine ar rfl (av Tryz.call72 rfl (evc (ev rfl) evn)) ?_
   refine (pntget c wz (HJR.out wz HB1.out).tab.n).mono ?_
   rintro e w4 ⟨rfl, hb4⟩
   have HB4 := af (HB1.out.trans (hb4.mono HB1.out.size))
   clear hb4
   refine ⟨_, rfl, ?_⟩
   simp only [aa]
   refine ai rfl (aj rfl (ev rfl)) ?_;simp only [aa]
   refine ai rfl (aD rfl (ev rfl) rfl) ?_;simp only [aa]
   refine ai rfl (aD rfl (ev rfl) rfl) ?_;simp only [aa]
   refine ai rfl (bW rfl) ?_;simp only [aa]
   refine az rfl (dk (c := aL.gX c) rfl (ev rfl) (ev rfl)) ?_;simp only [aa]
   refine ai rfl (aq rfl (ev rfl)) ?_;simp only [aa]
   refine ah ?_
   obtain ⟨y, hy⟩ : ∃ y, aL.gX c = y := ⟨_, rfl⟩
   obtain ⟨F, hF⟩ : ∃ F : Nat, aL.gE c = F := ⟨_, rfl⟩
   have HGX := af hy
   have HGE := af hF
   rw [hy, hF]
   clear hy hF
   have HY := af (bI.new w4 y)
   have HB5 := af (HB4.out.alloc HB4.out.size (.cells (aQ y).toArray 35))
   have HLE : Hid (w4.heap.size < (w4.alloc (.cells (aQ y).toArray 35)).heap.size) := af (by rw [World.size_alloc]; omega)
   have HNB : Hid (wr.heap.size ≤ w4.heap.size) := af HB4.out.size
   generalize w4.alloc (.cells (aQ y).toArray 35) = w5 at *
   clear HB1 HB4 HKB
   generalize w4.heap.size = nb at *
   by_cases hf0 : F = 0
   rotate_left 1
   ·have HC : Hid (((F : Int) != 0) = true) := af (by simp; omega)
    have HX : Hid (x = X) := af (by
     have := HS.out.rest
     rwa [opnN_no _ (decide_eq_false fun e => by
      have e1 := e.1
      have : aL.gE (nxtZ M x) = F := by rw [show nxtZ M x = c from HRC.out]; exact HGE.out
      omega)] at this)
    have HW5 := af (HW.out.below HB5.out)
    rw [HX.out] at HW5
    clear hf0
    go_upto_region 7 with fail
    refine ag ?_
    refine ai rfl (aj rfl (ev rfl)) ?_;simp only [aa]
    refine ai (v := .bool true) rfl (aU true rfl (ev rfl) evk HC.out) ?_;simp only [aa]
    refine aC 4 (v := .bool true) rfl (aj rfl (ev rfl)) (by kernel_rfl) ?_
    simp only [aJ, ae, aa]
    refine ai (v := .bool true) rfl (aG rfl (ev rfl) evk) ?_;simp only [aa]
    refine ah ?_
    go_wp2_with fail
    go_ret
    exact ⟨rfl, HW5.out.only, _, HW5.out.log, HW5.out.own⟩
   have HC : Hid (((F : Int) != 0) = false) := af (by rw [hf0]; rfl)
   have hzc : nxtZ M x = c := HRC.out
   have hge : aL.gE (nxtZ M x) = 0 := by rw [hzc]; exact HGE.out.trans hf0
   have hm1 := eX (aL.gX_may hge)
   rw [hzc, HGX.out] at hm1
   have HCL : Hid (1 ≤ y.cells ∧ y.cells ≤ 32) := af ⟨hm1.2.2.2.1, hm1.2.2.2.2⟩
   have HNQ : Hid (nxtQ x (nxtZ M x) = awtB x y) := af (by rw [nxtQ_awt hge, hzc, HGX.out])
   have HGZ : Hid (aL.gX (nxtZ M x) = y) := af (by rw [hzc]; exact HGX.out)
   clear hzc hge hm1 hf0
   cases haw : awtB x y
   ·have HAW := af haw
    have HX : Hid (x = X) := af (by
     have := HS.out.rest
     rwa [opnN_no _ (HNQ.out.trans haw)] at this)
    clear haw
    go_upto_region 7 with fail
    refine ag ?_
    refine ai rfl (aj rfl (ev rfl)) ?_;simp only [aa]
    refine ai (v := .bool false) rfl (aU false rfl (ev rfl) evk HC.out) ?_;simp only [aa]
    refine ai (v := .bool false) rfl (aj rfl (ev rfl)) ?_;simp only [aa]
    refine al gr (aj rfl (ev rfl)) ?_;simp only [aa]
    refine al gr (bh rfl (ev rfl) HY.out.range) ?_;simp only [aa]
    refine ar gr (av Tryz.call73 rfl (evc (ev rfl) (evc (ev rfl) evn))) ?_
    refine (plawaited w5 (HW.out.below HB5.out).log HK.out HCL.out HAW.out).mono ?_
    rintro e w6 ⟨rfl, hb6⟩
    have HB6 := af hb6
    clear hb6
    refine ⟨_, rfl, ?_⟩
    simp only [aa]
    refine al (v := .bool true) gr (bf false rfl (ev rfl)) ?_;simp only [aa]
    refine ai (v := .bool true) rfl (aE rfl (ev rfl) (ev rfl)) ?_;simp only [aa]
    refine ah ?_
    have HW6 := af ((HW.out.below HB5.out).below HB6.out)
    rw [HX.out] at HW6
    go_wp2_with fail
    go_ret
    exact ⟨rfl, HW6.out.only, _, HW6.out.log, HW6.out.own⟩
   ·have HAW := af haw
    have HSN := af (HS.out.next hlt (HNQ.out.trans haw))
    rw [HGZ.out] at HSN
    clear haw
    go_upto_region 7 with fail
    refine ag ?_
    refine ai rfl (aj rfl (ev rfl)) ?_;simp only [aa]
    refine ai (v := .bool false) rfl (aU false rfl (ev rfl) evk HC.out) ?_;simp only [aa]
    refine ai (v := .bool false) rfl (aj rfl (ev rfl)) ?_;simp only [aa]
    refine al gr (aj rfl (ev rfl)) ?_;simp only [aa]
    refine al gr (bh rfl (ev rfl) HY.out.range) ?_;simp only [aa]
    refine ar gr (av Tryz.call73 rfl (evc (ev rfl) (evc (ev rfl) evn))) ?_
    refine (plawaited w5 (HW.out.below HB5.out).log HK.out HCL.out HAW.out).mono ?_
    rintro e w6 ⟨rfl, hb6⟩
    have HB6 := af hb6
    clear hb6
    refine ⟨_, rfl, ?_⟩
    simp only [aa]
    refine al (v := .bool false) gr (bf true rfl (ev rfl)) ?_;simp only [aa]
    refine ai (v := .bool false) rfl (aE rfl (ev rfl) (ev rfl)) ?_;simp only [aa]
    refine ah ?_
    have HW6 := af ((HW.out.below HB5.out).below HB6.out)
    have HY6 := af (HY.out.below HLE.out HB6.out)
    have HNF : Hid (¬ ch p (.slice A x.nts.length cc) nb) := af fun e => by have := HLR.out.lt nb e; have := HNB.out; omega
    have HL6 := af HW6.out.log
    obtain ⟨An, cn, w12, hrun, hp12, hn12, hpl, hon, hn13, hown⟩ := app_row HL6.out HY6.out HNF.out HK.out.eig
    have HRUN := af hrun
    have HP12 := af hp12
    have HN12 := af hn12
    have HPL := af hpl
    have HON := af hon
    have HOWN := af hown
    have HMK : Hid ((nte y).cells = (aY.cel y).toArray) := af (by show Value.cells (.agg _) = _; simp [Value.cells]; rfl)
    have hS : w6.drew.heap[p]? = some (.cells (plgC q (.slice A x.nts.length cc) x).toArray 80 (0, 0)) ∧ bI w6.drew nb y := ⟨HL6.out.at_, HY6.out⟩
    have hS5 : (w6.drew.alloc (.cells (aY.cel y).toArray aY.t)).heap[p]? = some (.cells (plgC q (.slice A x.nts.length cc) x).toArray 80 (0, 0)) ∧ bI (w6.drew.alloc (.cells (aY.cel y).toArray aY.t)) nb y := ⟨bU hS.1 _, hS.2.past _⟩
    clear hrun hp12 hn12 hpl hon hn13 hown
    go_upto_region 9 with fail
    refine bH (fun w' => w'.heap[p]? = some (.cells (plgC q (.slice A x.nts.length cc) x).toArray 80 (0, 0)) ∧ bI w' nb y) 10 (by kernel_rfl) ?_
    change cF _ _ _ _ _ _ 11 _ _ w6.drew
    refine gu 0 rfl (fun w' hw => aj rfl (ev rfl)) hS ?_;simp only [aa]
    refine gu 1 rfl (fun w' hw => aj rfl (ev rfl)) hS ?_;simp only [aa]
    refine gu 2 rfl (fun w' hw => aB rfl (ev rfl)) hS ?_;simp only [aa]
    refine gu 3 rfl (fun w' hw => am rfl (ev rfl) faQl4) hS ?_;simp only [aa]
    refine gu 4 rfl (fun w' hw => au rfl (ev rfl) (ldNts (cell_row (j := 7) hw.1 rfl))) hS ?_;simp only [aa]
    refine gu 5 rfl (fun w' hw => bh (c := y) rfl (ev rfl) hw.2.range) hS ?_;simp only [aa]
    refine bl 6 rfl (by kernel_rfl) rfl (du (E := aY) (a := y) rfl (ev rfl) HMK.out (by show 4 ≤ _; omega)) (fun _ => hS5) ?_;simp only [aa]
    refine bl 7 rfl (by kernel_rfl) rfl (fP (E := aY) rfl (ev rfl) (ev rfl) HRUN.out) (fun _ => ⟨HP12.out, HN12.out⟩) ?_;simp only [aa]
    refine bl 8 rfl (by kernel_rfl) rfl (aB rfl (ev rfl)) (fun _ => ⟨HP12.out, HN12.out⟩) ?_;simp only [aa]
    refine bl 9 rfl (by kernel_rfl) rfl (am rfl (ev rfl) faQl4) (fun _ => ⟨HP12.out, HN12.out⟩) ?_;simp only [aa]
    refine fy 10 rfl (by kernel_rfl) rfl (exec_stN rfl (ev rfl) (ev rfl) (cell_row (j := 7) HP12.out rfl) (frozen_of_row w12 p 7 _ _ HP12.out)) (fun e => absurd rfl e) ?_
    simp only [Act.put]
    refine cm (by kernel_rfl) ?_ _
    have HWN : Hid (RnW w (w12.setCell ⟨p, 7, none⟩ (.slice An (x.nts.length + 1) cn)) p q (.slice An (x.nts.length + 1) cn) (x.with_ y)) := af ⟨HPL.out, HW6.out.only.trans HON.out fun b e => e.imp id fun e => HW6.out.own b e, fun b e => (HOWN.out b e).elim (fun e => HW6.out.own b e) fun e => Nat.le_trans HW6.out.only.size e⟩
    generalize w12.setCell ⟨p, 7, none⟩ (.slice An (x.nts.length + 1) cn) = w13 at *
    clear hS hS5
    go_wp2_with fail
    go_roundw
    case rel => exact ⟨k + 1, _, _, by omega, by go_num, HWN.out, HSN.out⟩
    case measure => simp [intOf]; omega
def Spot14.blk (a : Spot14) : Blk := if a.Kind = 1 then aN.pB ⟨a.Count, a.Mark⟩ else if a.Kind = 2 then aL.pB a.Note else a.B
theorem fZ {w : World} {b : Nat} {c : Blk} (h : cz w b c) : w.there b 0 64 := d7 (o := 0) (n := 64) h (by show 64 ≤ (cel c).toArray.size; simp [aA])
set_option maxHeartbeats 1000000 in
theorem pblock (a : Spot14) (w : World) (h3 : a.Count < 18446744073709551616) (h4 : a.Mark.fit) (h5 : a.Note.fit) : Calls Tryz.prog 5 #[a.V] w fun e w' => e = .returned (Value.agg (cel a.blk).toArray) ∧ Below w.heap.size w w' := by
 have HC := af h3
 have HM := af h4
 have HN := af h5
 have HA0 := af (((Spot14.At_.new w a).past (.cells (cel ap).toArray 29)).past (.cells (cel a.B).toArray 29))
 have HA1 := af ((Spot14.At_.new w a).past (.cells (cel ap).toArray 29))
 have HZ : Hid (cz (((w.alloc (.cells a.C.toArray 37)).alloc (.cells (cel ap).toArray 29)).alloc (.cells (cel a.B).toArray 29)) (w.alloc (.cells a.C.toArray 37)).heap.size ap) := af (bU (heap_alloc_new _ _) _)
 have HB : Hid (cz (((w.alloc (.cells a.C.toArray 37)).alloc (.cells (cel ap).toArray 29)).alloc (.cells (cel a.B).toArray 29)) ((w.alloc (.cells a.C.toArray 37)).alloc (.cells (cel ap).toArray 29)).heap.size a.B) := af (heap_alloc_new _ _)
 have q1 := (Below.refl w.heap.size w).alloc (Nat.le_refl _) (.cells a.C.toArray 37)
 have q2 := q1.alloc q1.size (.cells (cel ap).toArray 29)
 have HW := af (q2.alloc q2.size (.cells (cel a.B).toArray 29))
 have HS1 : Hid ((w.alloc (.cells a.C.toArray 37)).heap.size = w.heap.size + 1) := af (World.size_alloc ..)
 have HS2 : Hid (((w.alloc (.cells a.C.toArray 37)).alloc (.cells (cel ap).toArray 29)).heap.size = w.heap.size + 2) := af (by rw [World.size_alloc, HS1.out])
 clear h3 h4 h5 q1 q2
 go_enter Tryz.func5, Tryz.ntmps5
 go_upto_region 1 with (first | (refine ai rfl (exec_boxSpot14 rfl rfl) ?_) | (refine ai rfl (aT rfl) ?_) | fail)
 refine ag ?_
 refine ai rfl (am rfl (ev rfl) faSpot142) ?_;simp only [aa]
 refine ai rfl (aS (c := a.B) rfl (ev rfl) HA1.out.f2) ?_;simp only [aa]
 refine ai rfl (aT rfl) ?_;simp only [aa]
 refine az rfl (dp (c := a.B) rfl (ev rfl) (ev rfl)) ?_;simp only [aa]
 refine ah ?_
 generalize ((w.alloc (.cells a.C.toArray 37)).alloc (.cells (cel ap).toArray 29)).alloc (.cells (cel a.B).toArray 29) = w3 at *
 generalize ((w.alloc (.cells a.C.toArray 37)).alloc (.cells (cel ap).toArray 29)).heap.size = b3 at *
 generalize (w.alloc (.cells a.C.toArray 37)).heap.size = b2 at *
 clear HA1
 go_upto_region 2 with fail
 refine ag ?_
 refine ai rfl (am rfl (ev rfl) faSpot140) ?_;simp only [aa]
 refine ai rfl (au rfl (ev rfl) (bj HA0.out.f0)) ?_;simp only [aa]
 by_cases h1 : a.Kind = 1
 ·have HK1 : Hid ((a.Kind == 1) = true) := af (by rw [h1]; rfl)
  have HV : Hid (a.blk = aN.pB ⟨a.Count, a.Mark⟩) := af (if_pos h1)
  clear h1
  refine ai (v := .bool true) rfl (aP true rfl (ev rfl) evk HK1.out) ?_;simp only [aa]
  refine ah ?_
  go_upto_region 3 with fail
  refine ag ?_
  refine ai rfl (am rfl (ev rfl) faSpot143) ?_;simp only [aa]
  refine ai rfl (au rfl (ev rfl) (bL HA0.out.f3)) ?_;simp only [aa]
  refine ai rfl (am rfl (ev rfl) faSpot144) ?_;simp only [aa]
  refine ai rfl (bk rfl (ev rfl) HA0.out.f4) ?_;simp only [aa]
  refine ar rfl (av Tryz.call15 rfl (evc (ev rfl) (evc (ev rfl) evn))) ?_
  refine (rmput a.Count a.Mark w3 HC.out HM.out).mono ?_
  rintro e w4 ⟨rfl, hb⟩
  have HW4 := af (HW.out.trans (hb.mono HW.out.size))
  have HB4 : Hid (cz w4 b3 a.B) := af ((hb.block b3 (aK HB.out)).trans HB.out)
  have HZ4 : Hid (cz w4 b2 ap) := af ((hb.block b2 (aK HZ.out)).trans HZ.out)
  have HA4 := af (Spot14.At_.below HA0.out (aK HA0.out) hb)
  clear hb HW HB HZ HA0
  refine ⟨_, rfl, ?_⟩
  simp only [aa]
  refine ai rfl (aj rfl (ev rfl)) ?_;simp only [aa]
  refine ai rfl (aD rfl (ev rfl) rfl) ?_;simp only [aa]
  refine ai rfl (aD rfl (ev rfl) rfl) ?_;simp only [aa]
  refine az rfl (aR (c := aN.pB ⟨a.Count, a.Mark⟩) rfl (ev rfl) (ev rfl) (fZ HB4.out)) ?_;simp only [aa]
  refine ah ?_
  have HB := af (HB4.out.set (aN.pB ⟨a.Count, a.Mark⟩))
  have HZ : Hid (cz (w4.setCells b3 0 (cel (aN.pB ⟨a.Count, a.Mark⟩))) b2 ap) := af ((cY b3 _ _ _ b2 (by have := HS1.out; have := HS2.out; omega)).trans HZ4.out)
  have HA0 : Hid (Spot14.At_ (w4.setCells b3 0 (cel (aN.pB ⟨a.Count, a.Mark⟩))) w.heap.size a) := af ((cY b3 _ _ _ _ (by have := HS2.out; omega)).trans HA4.out)
  have HW := af (below_setCells (b := b3) (o := 0) HW4.out (by have := HS2.out; omega) (cel (aN.pB ⟨a.Count, a.Mark⟩)))
  clear HB4 HZ4 HA4 HW4
  generalize w4.setCells b3 0 (cel (aN.pB ⟨a.Count, a.Mark⟩)) = w5 at *
  have HK2 : Hid ((a.Kind == 2) = false) := af (by have := HK1.out; rw [beq_iff_eq] at this; rw [this]; rfl)
  go_upto_region 4 with fail
  refine ag ?_
  refine ai rfl (am rfl (ev rfl) faSpot140) ?_;simp only [aa]
  refine ai rfl (au rfl (ev rfl) (bj HA0.out.f0)) ?_;simp only [aa]
  refine ai (v := .bool false) rfl (aP false rfl (ev rfl) evk HK2.out) ?_;simp only [aa]
  refine ah ?_
  go_upto_region 6 with fail
  refine ag ?_
  refine ai rfl (aS (c := aN.pB ⟨a.Count, a.Mark⟩) rfl (ev rfl) HB.out.range) ?_;simp only [aa]
  refine az rfl (aR (c := aN.pB ⟨a.Count, a.Mark⟩) rfl (ev rfl) (ev rfl) (fZ HZ.out)) ?_;simp only [aa]
  refine ah ?_
  go_wp2_with fail
  (try simp only [Exit.inBlock, Exit.then])
  exact bodyPost_ret (res_blk (c := aN.pB ⟨a.Count, a.Mark⟩) rfl _ _ b2 rfl (HZ.out.set _).range) rfl ⟨by rw [HV.out]; rfl, below_setCells (b := b2) (o := 0) HW.out (by have := HS1.out; omega) _⟩
 have HK1 : Hid ((a.Kind == 1) = false) := af (by rw [beq_eq_false_iff_ne]; exact h1)
 refine ai (v := .bool false) rfl (aP false rfl (ev rfl) evk HK1.out) ?_;simp only [aa]
 refine ah ?_
 go_upto_region 4 with fail
 refine ag ?_
 refine ai rfl (am rfl (ev rfl) faSpot140) ?_;simp only [aa]
 refine ai rfl (au rfl (ev rfl) (bj HA0.out.f0)) ?_;simp only [aa]
 by_cases h2 : a.Kind = 2
 ·have HK2 : Hid ((a.Kind == 2) = true) := af (by rw [h2]; rfl)
  have HV : Hid (a.blk = aL.pB a.Note) := af ((if_neg h1).trans (if_pos h2))
  clear h1 h2
  refine ai (v := .bool true) rfl (aP true rfl (ev rfl) evk HK2.out) ?_;simp only [aa]
  refine ah ?_
  go_upto_region 5 with fail
  refine ag ?_
  refine ai rfl (am rfl (ev rfl) faSpot145) ?_;simp only [aa]
  refine ai rfl (bh rfl (ev rfl) HA0.out.f5) ?_;simp only [aa]
  refine ar rfl (av Tryz.call16 rfl (evc (ev rfl) evn)) ?_
  refine (rntput a.Note w3 HN.out).mono ?_
  rintro e w4 ⟨rfl, hb⟩
  have HW4 := af (HW.out.trans (hb.mono HW.out.size))
  have HB4 : Hid (cz w4 b3 a.B) := af ((hb.block b3 (aK HB.out)).trans HB.out)
  have HZ4 : Hid (cz w4 b2 ap) := af ((hb.block b2 (aK HZ.out)).trans HZ.out)
  have HA4 := af (Spot14.At_.below HA0.out (aK HA0.out) hb)
  clear hb HW HB HZ HA0
  refine ⟨_, rfl, ?_⟩
  simp only [aa]
  refine ai rfl (aj rfl (ev rfl)) ?_;simp only [aa]
  refine ai rfl (aD rfl (ev rfl) rfl) ?_;simp only [aa]
  refine ai rfl (aD rfl (ev rfl) rfl) ?_;simp only [aa]
  refine az rfl (aR (c := aL.pB a.Note) rfl (ev rfl) (ev rfl) (fZ HB4.out)) ?_;simp only [aa]
  refine ah ?_
  have HB := af (HB4.out.set (aL.pB a.Note))
  have HZ : Hid (cz (w4.setCells b3 0 (cel (aL.pB a.Note))) b2 ap) := af ((cY b3 _ _ _ b2 (by have := HS1.out; have := HS2.out; omega)).trans HZ4.out)
  have HA0 : Hid (Spot14.At_ (w4.setCells b3 0 (cel (aL.pB a.Note))) w.heap.size a) := af ((cY b3 _ _ _ _ (by have := HS2.out; omega)).trans HA4.out)
  have HW := af (below_setCells (b := b3) (o := 0) HW4.out (by have := HS2.out; omega) (cel (aL.pB a.Note)))
  clear HB4 HZ4 HA4 HW4
  generalize w4.setCells b3 0 (cel (aL.pB a.Note)) = w5 at *
  go_upto_region 6 with fail
  refine ag ?_
  refine ai rfl (aS (c := aL.pB a.Note) rfl (ev rfl) HB.out.range) ?_;simp only [aa]
  refine az rfl (aR (c := aL.pB a.Note) rfl (ev rfl) (ev rfl) (fZ HZ.out)) ?_;simp only [aa]
  refine ah ?_
  go_wp2_with fail
  (try simp only [Exit.inBlock, Exit.then])
  exact bodyPost_ret (res_blk (c := aL.pB a.Note) rfl _ _ b2 rfl (HZ.out.set _).range) rfl ⟨by rw [HV.out]; rfl, below_setCells (b := b2) (o := 0) HW.out (by have := HS1.out; omega) _⟩
 have HK2 : Hid ((a.Kind == 2) = false) := af (by rw [beq_eq_false_iff_ne]; exact h2)
 have HV : Hid (a.blk = a.B) := af ((if_neg h1).trans (if_neg h2))
 clear h1 h2
 refine ai (v := .bool false) rfl (aP false rfl (ev rfl) evk HK2.out) ?_;simp only [aa]
 refine ah ?_
 go_upto_region 6 with fail
 refine ag ?_
 refine ai rfl (aS (c := a.B) rfl (ev rfl) HB.out.range) ?_;simp only [aa]
 refine az rfl (aR (c := a.B) rfl (ev rfl) (ev rfl) (fZ HZ.out)) ?_;simp only [aa]
 refine ah ?_
 go_wp2_with fail
 (try simp only [Exit.inBlock, Exit.then])
 exact bodyPost_ret (res_blk (c := a.B) rfl _ _ b2 rfl (HZ.out.set _).range) rfl ⟨by rw [HV.out]; rfl, below_setCells (b := b2) (o := 0) HW.out (by have := HS1.out; omega) _⟩
def Wd (R : List DevS) (M M' : BenS) : Prop := ∃ a l k s, M = ⟨[a], l, k, s⟩ ∧ M' = ⟨a :: R, l, k, s⟩
section
variable {R : List DevS} {M M' : BenS}
theorem Wd.has (h : Wd R M M') : dV M 0 = 0 ∧ dV M' 0 = 0 := by
 obtain ⟨a, l, k, s, rfl, rfl⟩ := h
 constructor <;> simp [dV]
theorem Wd.dev (h : Wd R M M') : M'.dev 0 = M.dev 0 := by
 obtain ⟨a, l, k, s, rfl, rfl⟩ := h
 rfl
theorem Wd.lit (h : Wd R M M') : dF M' 0 = dF M 0 := by
 obtain ⟨h1, h2⟩ := h.has
 obtain ⟨a, l, k, s, rfl, rfl⟩ := h
 unfold dF
 rw [h1, h2]
theorem Wd.se (h : Wd R M M') : bO M' 0 = bO M 0 := by
 obtain ⟨h1, h2⟩ := h.has
 unfold bO
 rw [h1, h2, h.dev]
theorem Wd.rdE (h : Wd R M M') (n : Int) : bT M' 0 n = bT M 0 n := by
 unfold bT
 rw [h.lit, h.dev]
theorem Wd.rdB (h : Wd R M M') (n : Int) : cq M' 0 n = cq M 0 n := by
 unfold cq
 rw [h.lit, h.dev]
theorem Wd.stp (h : Wd R M M') (t : Stp) : stpE 0 M' t = stpE 0 M t ∧ Wd R (stpS 0 M t) (stpS 0 M' t) := by
 cases t with
 | wr n b =>
  have e1 := h.rdE n
  have e2 := h.dev
  obtain ⟨a, l, k, s, rfl, rfl⟩ := h
  refine ⟨?_, ?_⟩
  ·show wrE6 _ 0 n = wrE6 _ 0 n
   unfold wrE6
   rw [e1]
   rfl
  ·show Wd R (dK _ 0 n b) (dK _ 0 n b)
   unfold dK
   rw [e1]
   by_cases h0 : bT ⟨[a], l, k, s⟩ 0 n = 0
   ·rw [if_pos h0, if_pos h0]
    by_cases h1 : l = 1
    ·subst h1
     exact ⟨a, 1, true, s, rfl, rfl⟩
    ·rw [if_neg h1, if_neg h1]
     exact ⟨_, _, _, _, rfl, rfl⟩
   ·rw [if_neg h0, if_neg h0]
    exact ⟨_, _, _, _, rfl, rfl⟩
 | fl =>
  have e1 : flA6 M' 0 = flA6 M 0 := by unfold flA6; rw [h.lit, h.dev]
  obtain ⟨a, l, k, s, rfl, rfl⟩ := h
  refine ⟨?_, ?_⟩
  ·show flE6 _ 0 = flE6 _ 0
   unfold flE6
   rw [e1]
   rfl
  ·show Wd R (flS6 _ 0) (flS6 _ 0)
   unfold flS6
   rw [e1]
   by_cases h0 : flA6 ⟨[a], l, k, s⟩ 0 = 0
   ·rw [if_pos h0, if_pos h0]
    by_cases h1 : l = 1
    ·subst h1
     exact ⟨a, 1, true, s, rfl, rfl⟩
    ·rw [if_neg h1, if_neg h1]
     exact ⟨_, _, _, _, rfl, rfl⟩
   ·rw [if_neg h0, if_neg h0]
    exact ⟨_, _, _, _, rfl, rfl⟩
theorem Wd.go (T : List Stp) : ∀ {M M' : BenS}, Wd R M M' → goE 0 M' T = goE 0 M T ∧ Wd R (goB 0 M T) (goB 0 M' T) := by
 induction T with
 | nil => intro M M' h; exact ⟨rfl, h⟩
 | cons t T ih =>
  intro M M' h
  obtain ⟨h1, h2⟩ := h.stp t
  by_cases e : stpE 0 M t = 0
  ·have e' : stpE 0 M' t = 0 := h1.trans e
   rw [(go_ok e).1, (go_ok e).2, (go_ok e').1, (go_ok e').2]
   exact ih h2
  ·have e' : ¬ stpE 0 M' t = 0 := by rw [h1]; exact e
   rw [(go_no e).1, (go_no e).2, (go_no e').1, (go_no e').2]
   exact ⟨h1, h2⟩
variable {x : LgS} {cs : List Cl} {f q : Nat}
theorem Wd.lay (h : Wd R M M') (id : Nat) (r : Int) : layE M' 0 id r = layE M 0 id r ∧ Wd R (layB M 0 id r) (layB M' 0 id r) := by
 have e : layQ M' 0 id r = layQ M 0 id r := by
  unfold layQ
  rw [h.se, h.has.1, h.has.2]
 unfold layE layB
 rw [e]
 split
 ·exact h.go _
 ·exact ⟨rfl, h⟩
theorem Wd.app (h : Wd R M M') (hx : x.d = 0) : appE M' x cs = appE M x cs ∧ Wd R (appB M x cs) (appB M' x cs) := by
 unfold appE appB
 rw [hx]
 split
 ·exact h.go _
 ·exact ⟨rfl, h⟩
theorem Wd.clr (h : Wd R M M') (hx : x.d = 0) : clrE M' x f = clrE M x f ∧ Wd R (clrB M x f) (clrB M' x f) := by
 unfold clrE clrB
 rw [hx]
 split
 ·exact h.go _
 ·exact ⟨rfl, h⟩
theorem Wd.rcd (h : Wd R M M') (hx : x.d = 0) : rcdE M' x q = rcdE M x q ∧ rcdC M' x q = rcdC M x q := by
 have e1 : ∀ n, rcdL M' x n = rcdL M x n := fun n => by
  unfold rcdL
  rw [hx]
  exact List.map_congr_left fun i _ => h.rdB _
 have e2 : rcdE M' x q = rcdE M x q := by
  unfold rcdE
  rw [e1, hx]
  rw [show bT M' ((0 : Nat) : Int) (bK x.size (x.note q).pos) = bT M ((0 : Nat) : Int) (bK x.size (x.note q).pos) from h.rdE _]
 exact ⟨e2, by unfold rcdC; rw [e2, e1]⟩
end
def lvC : Cl := ⟨0, 0, ap.set 0 5⟩
def lvR : List DevS := [⟨List.replicate 12 ap, [], false⟩]
def lvM : BenS := newS6 [50, 12]
def lvX1 : LgS := ⟨0, 7, 40, 1, 1, 0, []⟩
def lvM1 : BenS := layB lvM 0 7 40
def lvX2 : LgS := lvX1.with_ (dh lvX1 [lvC])
def lvM2 : BenS := appB lvM1 lvX1 [lvC]
def lvX3 : LgS := lvX2.cut 2
def lvM3 : BenS := clrB lvM2 lvX2 2
theorem lv_wd : Wd lvR (solo (List.replicate 50 ap) [] 0 false 0) lvM := ⟨_, _, _, _, rfl, rfl⟩
theorem Wd.is {R : List DevS} {S : List Blk} {L : List (Int × Blk)} {left st : Nat} {dark : Bool} {M' : BenS} (h : Wd R (solo S L left dark st) M') : M' = ⟨⟨S, L, false⟩ :: R, left, dark, st⟩ := by
 obtain ⟨a, l, k, s, h1, rfl⟩ := h
 unfold solo at h1
 injection h1 with e1 e2 e3 e4
 injection e1 with e1 _
 subst e1 e2 e3 e4
 rfl
theorem Wd.room {R : List DevS} {S : List Blk} {st k : Nat} {M' : BenS} (h : Wd R (solo S [] 0 false st) M') (hs : st + k ≤ 1000000) (hR : ∀ d ∈ R, d.L.length + k ≤ 1000000) : Room M' k := by
 rw [h.is]
 refine ⟨hs, by show 0 < _; omega, fun d hd => ?_⟩
 rcases List.mem_cons.1 hd with rfl | hd
 ·show 0 + k ≤ _; omega
 ·exact hR d hd
theorem lvR_room {k : Nat} (hk : k ≤ 1000000) : ∀ d ∈ lvR, d.L.length + k ≤ 1000000 := by
 intro d hd
 unfold lvR at hd
 rw [List.mem_singleton] at hd
 subst hd
 show 0 + k ≤ _
 omega
theorem shp_lay (M : BenS) (d : Int) (id : Nat) (r : Int) : Shp M (layB M d id r) := by
 unfold layB
 split
 ·exact shp_go d _ M
 ·exact Shp.refl M
theorem shp_app (M : BenS) (x : LgS) (cs : List Cl) : Shp M (appB M x cs) := by
 unfold appB
 split
 ·exact shp_go _ _ M
 ·exact Shp.refl M
theorem shp_clr (M : BenS) (x : LgS) (f : Nat) : Shp M (clrB M x f) := by
 unfold clrB
 split
 ·exact shp_go _ _ M
 ·exact Shp.refl M
theorem zeroB_gN : aN.gN ap = 0 := by
 have := aN.gN_le_num ap
 rw [zeroB_num.2] at this
 omega
theorem lv_open : dI lvM 0 = 5 := by
 have hw := lv_wd
 have h0 : dV lvM 0 = 0 ∧ 50 ≤ bO lvM 0 := ⟨hw.has.2, by rw [hw.se, solo_se]; decide⟩
 have h1 : bT lvM 0 0 = 0 := by rw [hw.rdE]; exact solo_rdE ⟨by omega, by rw [List.length_replicate]; omega⟩
 have b0 : cq lvM 0 0 = ap := by rw [hw.rdB]; exact (solo_rdB (k := 0) (by rw [List.length_replicate]; omega)).trans (by simp)
 have b1 : cq lvM 0 1 = ap := by rw [hw.rdB]; exact (solo_rdB (k := 1) (by rw [List.length_replicate]; omega)).trans (by simp)
 have hF : ¬ opnF lvM 0 = true := fun e => by
  obtain ⟨e1, _⟩ := of_decide_eq_true e
  rw [b0, b1] at e1
  unfold Cod.nE at e1
  rw [zeroB_gN] at e1
  simp at e1
 exact (if_pos (show opnQ lvM 0 = true from decide_eq_true h0)).trans ((if_pos h1).trans (if_neg hF))
theorem lv_lay : layE lvM 0 7 40 = 0 ∧ ∃ S, Wd lvR (solo S [] 0 false 13) lvM1 ∧ OnD S lvX1 (fun _ => []) 1 ∧ Twn S lvX1 := by
 obtain ⟨h1, S, h2, h3, h4⟩ := lay_go 7 40 0 (by omega) (by omega) (fun _ => [])
 obtain ⟨g1, g2⟩ := lv_wd.lay 7 ((40 : Nat) : Int)
 have e2 : layB (solo (List.replicate 50 ap) [] 0 false 0) 0 7 ((40 : Nat) : Int) = solo S [] 0 false 13 := h2
 rw [e2] at g2
 exact ⟨g1.trans h1, S, g2, h3, h4⟩
theorem lv_recE : recE [lvC] = 0 := by decide
theorem lv_len : (bS [lvC]).length = 2 := by rw [ca]; rfl
theorem lv_appQ : appQ lvX1 [lvC] = 0 := by
 unfold appQ
 rw [lv_recE, if_neg (by omega), if_neg]
 rw [lv_len]
 show ¬ (8 ≤ 0 ∨ 40 - usd [] < 2)
 rw [usd_nil]
 omega
theorem lv_app : appE lvM1 lvX1 [lvC] = 0 ∧ ∃ S, Wd lvR (solo S [] 0 false 18) lvM2 ∧ OnD S lvX2 (upA (fun _ => []) 1 [lvC]) 2 ∧ Twn S lvX2 := by
 obtain ⟨_, S, h1, h2, h3⟩ := lv_lay
 obtain ⟨g1, g2⟩ := h1.app (cs := [lvC]) (x := lvX1) rfl
 rcases app_go (left := 0) (st := 13) h2 h3 lv_appQ (by omega) with ⟨_, k1, S', k2, k3, k4⟩ | ⟨k, _⟩
 ·rw [k2, lv_len] at g2
  exact ⟨g1.trans k1, S', g2, k3, k4⟩
 ·omega
theorem lv_free2 : lvX2.free = 38 := by
 show 40 - usd ([] ++ [dh lvX1 [lvC]]) = 38
 rw [List.nil_append, usd_cons, usd_nil, fB, lv_len]
theorem lv_rcd : rcdE lvM2 lvX2 1 = 0 ∧ rcdC lvM2 lvX2 1 = [lvC] := by
 obtain ⟨_, S, h1, h2, h3⟩ := lv_app
 obtain ⟨g1, g2⟩ := h1.rcd (x := lvX2) (q := 1) rfl
 obtain ⟨k1, k2⟩ := h2.record (left := 0) (st := 18) (q := 1) (decide_eq_true ⟨by show 1 ≤ 1; omega, by show 1 < 2; omega⟩)
 exact ⟨g1.trans k1, g2.trans (k2.trans upA_at)⟩
theorem lv_clrQ : clrQ lvX2 2 = true := decide_eq_true ⟨by show 1 ≤ 2; omega, by show 2 ≤ 2; omega⟩
theorem lv_clr : clrE lvM2 lvX2 2 = 0 ∧ ∃ S, Wd lvR (solo S [] 0 false 20) lvM3 := by
 obtain ⟨_, S, h1, h2, h3⟩ := lv_app
 obtain ⟨g1, g2⟩ := h1.clr (x := lvX2) (f := 2) rfl
 rcases clr_go (left := 0) (st := 18) h2 h3 lv_clrQ (by omega) with ⟨_, k1, S', k2, k3, k4⟩ | ⟨k, _⟩
 ·rw [k2] at g2
  exact ⟨g1.trans k1, S', g2⟩
 ·omega
theorem lv_free3 : lvX3.free = 40 := by
 show 40 - usd (([] ++ [dh lvX1 [lvC]]).drop (2 - 1)) = 40
 rfl
theorem lv_dead : rcdE lvM3 lvX3 1 = 7 := if_neg fun e => by
 obtain ⟨e1, _⟩ := of_decide_eq_true e
 exact absurd e1 (by show ¬ 2 ≤ 1; omega)
theorem lv_small : layE lvM3 1 7 40 = 2 := by
 obtain ⟨_, S, h⟩ := lv_clr
 have he := h.is
 refine if_neg fun e => ?_
 obtain ⟨_, _, _, _, e5⟩ := of_decide_eq_true e
 rw [he] at e5
 have : bO ⟨⟨S, [], false⟩ :: lvR, 0, false, 20⟩ 1 = 12 := by
  unfold bO
  rw [if_pos (by simp [dV, lvR])]
  rfl
 omega
theorem lv_ok1 : LgOk lvM1 lvX1 0 := (lay_ok (M := lvM) (d := 0) (id := 7) (r := 40) (by omega) (decide_eq_true ⟨lv_wd.has.2, by omega, by omega, by omega, by rw [lv_wd.se, solo_se]; decide⟩)).shp (shp_lay _ _ _ _)
theorem lv_ok2 : LgOk lvM2 lvX2 1 := (lv_ok1.app lv_appQ (by omega)).shp (shp_app _ _ _)
theorem lv_ok3 : LgOk lvM3 lvX3 2 := (lv_ok2.cut lv_clrQ (by omega)).shp (shp_clr _ _ _)
theorem lv_room : Room lvM 13 ∧ Room lvM1 40 ∧ Room lvM2 2 := by
 obtain ⟨_, S1, h1, _⟩ := lv_lay
 obtain ⟨_, S2, h2, _⟩ := lv_app
 exact ⟨lv_wd.room (by omega) (lvR_room (by omega)), h1.room (by omega) (lvR_room (by omega)), h2.room (by omega) (lvR_room (by omega))⟩
theorem lv_room3 : Room lvM3 13 := by
 obtain ⟨_, S, h⟩ := lv_clr
 exact h.room (by omega) (lvR_room (by omega))
end Go.Proofs.YtbbcdhkinbmdnaaGreatDoor
