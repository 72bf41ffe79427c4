import Derived.Test.YtcafafdimcecpaaGreatDoorLcaw
import Derived.Test.YtcafafdimcecpaaGreatDoorLcax
import Derived.Test.YtcafafdimcecpaaGreatDoorLcZ
namespace Go.Proofs.YtcafafdimcecpaaGreatDoor
open Go.RowKit
set_option linter.unusedVariables false
set_option linter.unusedSimpArgs false
set_option maxRecDepth 100000
def nxtZ (M : BenS) (x : LgS) : Blk := cC M x.d (cz x.next)
theorem opnN_no {M : BenS} {x : LgS} (k : Nat) (h : nxtQ x (nxtZ M x) = false) : opnN M k x = x := by
  cases k with
  | zero => rfl
  | succ k => exact if_neg (by unfold nxtZ at h; rw [h]; decide)
theorem opnN_yes {M : BenS} {x : LgS} (k : Nat) (h : nxtQ x (nxtZ M x) = true) : opnN M (k + 1) x = opnN M k (x.with_ (aT.gX (nxtZ M x))) := if_pos h
theorem nxtQ_awt {x : LgS} {z : Blk} (h : aT.gE z = 0) : nxtQ x z = awtB x (aT.gX z) := by
  unfold nxtQ awtB
  simp [h]
structure RnS (M : BenS) (X : LgS) (d k : Nat) (x : LgS) : Prop where
  ok : LgOk M x 0
  d : x.d = d
  len : x.nts.length ≤ k
  rest : opnN M (8 - k) x = X
  fst : x.fst ≤ 2305843009213693952
  pos : x.pos ≤ 2305843009213693952
theorem RnS.next {M : BenS} {X x : LgS} {d k : Nat} (h : RnS M X d k x) (hk : k < 8) (hq : nxtQ x (nxtZ M x) = true) : RnS M X d (k + 1) (x.with_ (aT.gX (nxtZ M x))) := by
  obtain ⟨q1, q2, q3, q4⟩ : aT.gE (nxtZ M x) = 0 ∧ (aT.gX (nxtZ M x)).seq = x.next ∧ (aT.gX (nxtZ M x)).pos = x.head ∧ bf (aT.gX (nxtZ M x)) ≤ x.free := of_decide_eq_true hq
  have m1 := of_nteB (aT.gX_may q1)
  have m2 : (aT.gX (nxtZ M x)).fit := aT.gX_fits _
  have hl := h.len
  have hu := h.ok.use
  have hs := h.ok.siz
  have hfr : x.free = x.size - x.used := rfl
  have hhd : x.head = x.pos + x.used := rfl
  have hnx : x.next = x.fst + x.nts.length := rfl
  have hc := h.ok.cnt
  have hf := h.fst
  have hp := h.pos
  refine ⟨h.ok.with_ (by omega) ⟨m1.2.2.2.1, m1.2.2.2.2⟩ q3 m2 q4 (by omega) (by omega) (by omega) hc, h.d, ?_, ?_, hf, hp⟩
  · show (x.nts ++ [_]).length ≤ k + 1
    rw [List.length_append, List.length_singleton]
    omega
  · have := h.rest
    rw [show 8 - k = (8 - (k + 1)) + 1 from by omega, opnN_yes _ hq] at this
    exact this
def RnPost (w : World) (p q : Nat) (X : LgS) (e : Ending) (w' : World) : Prop :=
  e = .returned (.int .i64 0) ∧ Only (fun b => b = p) w w' ∧ ∃ v', PLg w' p q v' X ∧ ∀ b, v'.ownBlock = some b → w.heap.size ≤ b
structure RnW (w wr : World) (p q : Nat) (v : Value) (x : LgS) : Prop where
  log : PLg wr p q v x
  only : Only (fun b => b = p) w wr
  own : ∀ b, v.ownBlock = some b → w.heap.size ≤ b
theorem RnW.below {w wr wz : World} {p q : Nat} {v : Value} {x : LgS} (h : RnW w wr p q v x) (hb : Below wr.heap.size wr wz) : RnW w wz p q v x := ⟨h.log.below hb, h.only.cJ hb, h.own⟩
set_option maxHeartbeats 6000000 in
theorem plreadNotes {w0 w : World} {H K : Nat → Prop} {p q d : Nat} {M : BenS} {X x : LgS} (h : PJ w0 H K w p q (.slice none 0 0) M x) (hr : RnS M X d 0 x) (h1 : dx M (d : Int) = 0) (h2 : 50 ≤ ca M (d : Int)) (h3 : bX M (d : Int) 0 = 0) : Calls Tryz.prog 73 #[.pointer (some ⟨p, 0, none⟩)] w (RnPost w p q X) := by
  have HJ0 : Hid (∀ wr v' x', RnW w wr p q v' x' → PJ w0 H (fun _ => False) wr p q v' M x') := Lib.hid fun wr v' x' k => h.grow (k.only.wide fun b e => .inl e) k.log fun b e => .inr (k.own b e)
  have HW0 : Hid (RnW w w p q (.slice none 0 0) x) := Lib.hid ⟨h.log, Only.refl _ _, fun b e => by simp [Value.ownBlock] at e⟩
  have HRS := Lib.hid hr
  have HHS := Lib.hid h1
  have HSE := Lib.hid h2
  have HRD := Lib.hid h3
  clear h hr h1 h2 h3
  go_enter Tryz.func73, Tryz.ntmps73
  go_wp2_with fail
  go_loopw [6] (fun i wr => ∃ (k : Nat) (v : Value) (x : LgS), k ≤ 8 ∧ i = .int .i64 k ∧ RnW w wr p q v x ∧ RnS M X d k x) (fun i _ => 8 - (intOf i).toNat)
  case atStart => exact ⟨0, _, x, Nat.zero_le _, rfl, HW0.out, HRS.out⟩
  case round =>
    clear HW0 HRS
    obtain ⟨k, v, x, hk, rfl, hw, hs⟩ := hrel
    by_cases hlt : k < 8
    rotate_left 1
    · have hkt : k = 8 := by omega
      subst hkt
      have hxX : x = X := hs.rest
      have HW := Lib.hid hw
      rw [hxX] at HW
      clear hw hs
      go_wp2_with fail
      go_ret
      exact ⟨rfl, HW.out.only, v, HW.out.log, HW.out.own⟩
    obtain ⟨A, cc, rfl, hcc1, hcc2⟩ := hw.log.slice
    have HW := Lib.hid hw
    have HS := Lib.hid hs
    have HK := Lib.hid hs.ok
    have HLR := Lib.hid hw.log
    have HJR : Hid (∀ w', Below wr.heap.size wr w' → PJ w0 H (fun _ => False) w' p q (.slice A x.nts.length cc) M x) := Lib.hid fun w' hb => HJ0.out _ _ _ (hw.below hb)
    have hnx := hs.ok.nxt
    have hmod := Nat.mod_lt x.next (show 0 < 8 by omega)
    have HSQ : Hid (x.next < 18446744073709551616) := Lib.hid (by omega)
    have HAD : Hid (IntKind.i64.wrap (2 + ((x.next % 8 : Nat) : Int)) = cz x.next) := Lib.hid (by unfold cz; rw [IntWalk.i64_in _ ⟨by omega, by omega⟩]; omega)
    obtain ⟨c, hc⟩ : ∃ c, nxtZ M x = c := ⟨_, rfl⟩
    have HRC : Hid (cC M (x.d : Int) (cz x.next) = c) := Lib.hid hc
    have HRE : Hid (bX M (x.d : Int) (cz x.next) = 0) := Lib.hid (by
      rw [hs.d]
      exact (rd_two HHS.out HSE.out ⟨by unfold cz; omega, by unfold cz; omega⟩ (by omega)).trans HRD.out)
    clear hw hs hnx hmod hc hcc1 hcc2
    go_upto_region 3 with fail
    apply share (α := Nat) (β := World) (F := fun bv wv => Below wr.heap.size wr wv ∧ cU wv bv c ∧ wr.heap.size ≤ bv)
    · intro tail_
      refine wp_region_held (S := fun w' => Below wr.heap.size wr w') (by kernel_rfl) ?_
      change wpAnyH _ _ _ _ _ 19 _ _ wr.drew
      have HS0 := Lib.hid (bd (Below.refl wr.heap.size wr))
      refine aD 0 rfl (by kernel_rfl) (by kernel_rfl) (by kernel_rfl) rfl (fun w' hw => ah rfl (ev rfl)) (fun _ _ _ h => h) HS0.out ?_
      simp only [Act.put, aa, ae, af]
      refine aD 1 rfl (by kernel_rfl) (by kernel_rfl) (by kernel_rfl) rfl (fun w' hw => az rfl (ev rfl)) (fun _ _ _ h => h) HS0.out ?_
      simp only [Act.put, aa, ae, af]
      refine aD 2 rfl (by kernel_rfl) (by kernel_rfl) (by kernel_rfl) rfl (fun w' hw => ak rfl (ev rfl) faQl0) (fun _ _ _ h => h) HS0.out ?_
      simp only [Act.put, aa, ae, af]
      refine aD 3 rfl (by kernel_rfl) (by kernel_rfl) (by kernel_rfl) rfl (fun w' hw => av rfl (ev rfl) (ldQp (PLg.c0 (HLR.out.below hw)))) (fun _ _ _ h => h) HS0.out ?_
      simp only [Act.put, aa, ae, af]
      refine aD 4 rfl (by kernel_rfl) (by kernel_rfl) (by kernel_rfl) rfl (fun w' hw => ah rfl (ev rfl)) (fun _ _ _ h => h) HS0.out ?_
      simp only [Act.put, aa, ae, af]
      refine aD 5 rfl (by kernel_rfl) (by kernel_rfl) (by kernel_rfl) rfl (fun w' hw => az rfl (ev rfl)) (fun _ _ _ h => h) HS0.out ?_
      simp only [Act.put, aa, ae, af]
      refine aD 6 rfl (by kernel_rfl) (by kernel_rfl) (by kernel_rfl) rfl (fun w' hw => ak rfl (ev rfl) faQl1) (fun _ _ _ h => h) HS0.out ?_
      simp only [Act.put, aa, ae, af]
      refine aD 7 rfl (by kernel_rfl) (by kernel_rfl) (by kernel_rfl) rfl (fun w' hw => av rfl (ev rfl) (bW (PLg.c1 (HLR.out.below hw)))) (fun _ _ _ h => h) HS0.out ?_
      simp only [Act.put, aa, ae, af]
      refine aD 8 rfl (by kernel_rfl) (by kernel_rfl) (by kernel_rfl) rfl (fun w' hw => ah rfl (ev rfl)) (fun _ _ _ h => h) HS0.out ?_
      simp only [Act.put, aa, ae, af]
      refine held_two 9 16 (by kernel_rfl) ?_ ?_
      · refine dV 9 rfl rfl (au Tryz.call57 rfl (evc (ev rfl) evn)) ?_
        refine (plnext wr.drew (HLR.out.below HS0.out) HK.out).mono ?_
        rintro e wc1 ⟨rfl, hb5⟩
        have HC1 := Lib.hid (HS0.out.trans (hb5.mono HS0.out.size))
        clear hb5
        refine ⟨_, rfl, HC1.out, ?_⟩
        simp only [Act.put, aa, ae, af]
        refine held_two 10 16 (by kernel_rfl) ?_ ?_
        · refine dV 10 rfl rfl (au Tryz.call130 rfl (evc (ev rfl) evn)) ?_
          refine (pntslot x.next wc1 HSQ.out).mono ?_
          rintro e w' ⟨rfl, rfl⟩
          refine ⟨_, rfl, HC1.out, ?_⟩
          simp only [Act.put, aa, ae, af]
          refine aD 11 rfl (by kernel_rfl) (by kernel_rfl) (by kernel_rfl) rfl (fun w' hw => fb rfl evk (ev rfl) HAD.out) (fun _ _ _ h => h) HC1.out ?_
          simp only [Act.put, aa, ae, af]
          refine held_two 12 16 (by kernel_rfl) ?_ ?_
          · refine dV 12 rfl rfl (au Tryz.call133 rfl (evc (ev rfl) (evc (ev rfl) (evc (ev rfl) evn)))) ?_
            refine (PJ.read (x.d : Int) (cz x.next) (HJR.out _ HC1.out)).mono ?_
            rintro e wc3 ⟨rfl, hb5⟩
            rw [HRC.out, HRE.out]
            have HC3 := Lib.hid (HC1.out.trans (hb5.mono HC1.out.size))
            clear hb5
            refine ⟨_, rfl, HC3.out, ?_⟩
            simp only [Act.put, aa, ae, af]
            refine aD 13 rfl (by kernel_rfl) (by kernel_rfl) (by kernel_rfl) rfl (fun w' hw => ah rfl (ev rfl)) (fun _ _ _ h => h) HC3.out ?_
            simp only [Act.put, aa, ae, af]
            refine aD 14 rfl (by kernel_rfl) (by kernel_rfl) (by kernel_rfl) rfl (fun w' hw => aC rfl (ev rfl) rfl) (fun _ _ _ h => h) HC3.out ?_
            simp only [Act.put, aa, ae, af]
            refine aD 15 rfl (by kernel_rfl) (by kernel_rfl) (by kernel_rfl) rfl (fun w' hw => aC rfl (ev rfl) rfl) (fun _ _ _ h => h) HC3.out ?_
            simp only [Act.put, aa, ae, af]
            refine dH 16 (by kernel_rfl) (op_val 16 rfl rfl (aK rfl) ⟨HC3.out.alloc HC3.out.size _, ?_⟩)
            simp only [Act.put, aa, ae, af]
            have HS2 := Lib.hid (HC3.out.alloc HC3.out.size (.cells (cel c).toArray 65))
            refine eY 17 rfl (by kernel_rfl) rfl (fF (c := c) rfl (ev rfl) (ev rfl)) HS2.out ?_
            simp only [Act.put]
            refine aD 18 rfl (by kernel_rfl) (by kernel_rfl) (by kernel_rfl) rfl (fun w' hw => aq rfl (ev rfl)) (fun _ _ _ h => h) HS2.out ?_
            simp only [Act.put, aa, ae, af]
            refine wpAnyH_done (by kernel_rfl) ?_ _
            have hb : cU (wc3.alloc (.cells (cel c).toArray 65)) wc3.heap.size c := heap_alloc_new wc3 _
            have hz : wr.heap.size ≤ wc3.heap.size := HC3.out.size
            have hs2 := HS2.out
            generalize wc3.alloc (.cells (cel c).toArray 65) = wq at *
            generalize wc3.heap.size = bq at *
            exact tail_ bq wq ⟨hs2, hb, hz⟩
          · refine op_val 16 rfl rfl (aK rfl) ⟨HC1.out.alloc HC1.out.size _, ?_⟩
            simp only [Act.put, aa, ae, af]
            have HA4 := Lib.hid (HC1.out.alloc HC1.out.size (.cells (cel al).toArray 65))
            have HBZ := Lib.hid (show cU (wc1.alloc (.cells (cel al).toArray 65)) wc1.heap.size al from heap_alloc_new wc1 _)
            have HBA : Hid (wr.heap.size ≤ wc1.heap.size) := Lib.hid HC1.out.size
            obtain ⟨ba, hba⟩ : ∃ ba, wc1.heap.size = ba := ⟨_, rfl⟩
            rw [hba] at HBZ HBA ⊢
            clear hba
            generalize wc1.alloc (.cells (cel al).toArray 65) = wa4 at *
            refine dH 12 (by kernel_rfl) (dV 12 rfl rfl (au Tryz.call133 rfl (evc (ev rfl) (evc (ev rfl) (evc (ev rfl) evn)))) ?_)
            refine (PJ.read (x.d : Int) (cz x.next) (HJR.out _ HA4.out)).mono ?_
            rintro e wc5 ⟨rfl, hb5⟩
            rw [HRC.out, HRE.out]
            have HC5 := Lib.hid (HA4.out.trans (hb5.mono HA4.out.size))
            have HBZ : Hid (cU wc5 ba al) := Lib.hid ((hb5.block ba (aV HBZ.out)).trans HBZ.out)
            clear hb5
            refine ⟨_, rfl, HC5.out, ?_⟩
            simp only [Act.put, aa, ae, af]
            refine aD 13 rfl (by kernel_rfl) (by kernel_rfl) (by kernel_rfl) rfl (fun w' hw => ah rfl (ev rfl)) (fun _ _ _ h => h) HC5.out ?_
            simp only [Act.put, aa, ae, af]
            refine aD 14 rfl (by kernel_rfl) (by kernel_rfl) (by kernel_rfl) rfl (fun w' hw => aC rfl (ev rfl) rfl) (fun _ _ _ h => h) HC5.out ?_
            simp only [Act.put, aa, ae, af]
            refine aD 15 rfl (by kernel_rfl) (by kernel_rfl) (by kernel_rfl) rfl (fun w' hw => aC rfl (ev rfl) rfl) (fun _ _ _ h => h) HC5.out ?_
            simp only [Act.put, aa, ae, af]
            have HS2 := Lib.hid (below_setCells (b := ba) (o := 0) HC5.out HBA.out (cel c))
            refine eY 17 rfl (by kernel_rfl) rfl (aH (c := c) rfl (ev rfl) (ev rfl) (dI (o := 0) (n := 64) HBZ.out (by show 64 ≤ (cel al).toArray.size; simp [ax]))) HS2.out ?_
            simp only [Act.put]
            refine aD 18 rfl (by kernel_rfl) (by kernel_rfl) (by kernel_rfl) rfl (fun w' hw => aq rfl (ev rfl)) (fun _ _ _ h => h) HS2.out ?_
            simp only [Act.put, aa, ae, af]
            refine wpAnyH_done (by kernel_rfl) ?_ _
            have hb : cU (wc5.setCells ba 0 (cel c)) ba c := HBZ.out.set c
            have hs2 := HS2.out
            generalize wc5.setCells ba 0 (cel c) = wq at *
            exact tail_ ba wq ⟨hs2, hb, HBA.out⟩
        · refine op_val 16 rfl rfl (aK rfl) ⟨HC1.out.alloc HC1.out.size _, ?_⟩
          simp only [Act.put, aa, ae, af]
          have HA6 := Lib.hid (HC1.out.alloc HC1.out.size (.cells (cel al).toArray 65))
          have HBZ := Lib.hid (show cU (wc1.alloc (.cells (cel al).toArray 65)) wc1.heap.size al from heap_alloc_new wc1 _)
          have HBA : Hid (wr.heap.size ≤ wc1.heap.size) := Lib.hid HC1.out.size
          obtain ⟨ba, hba⟩ : ∃ ba, wc1.heap.size = ba := ⟨_, rfl⟩
          rw [hba] at HBZ HBA ⊢
          clear hba
          generalize wc1.alloc (.cells (cel al).toArray 65) = wa6 at *
          refine dH 10 (by kernel_rfl) (dV 10 rfl rfl (au Tryz.call130 rfl (evc (ev rfl) evn)) ?_)
          refine (pntslot x.next wa6 HSQ.out).mono ?_
          rintro e w' ⟨rfl, rfl⟩
          refine ⟨_, rfl, HA6.out, ?_⟩
          simp only [Act.put, aa, ae, af]
          refine aD 11 rfl (by kernel_rfl) (by kernel_rfl) (by kernel_rfl) rfl (fun w' hw => fb rfl evk (ev rfl) HAD.out) (fun _ _ _ h => h) HA6.out ?_
          simp only [Act.put, aa, ae, af]
          refine dH 12 (by kernel_rfl) (dV 12 rfl rfl (au Tryz.call133 rfl (evc (ev rfl) (evc (ev rfl) (evc (ev rfl) evn)))) ?_)
          refine (PJ.read (x.d : Int) (cz x.next) (HJR.out _ HA6.out)).mono ?_
          rintro e wc8 ⟨rfl, hb5⟩
          rw [HRC.out, HRE.out]
          have HC8 := Lib.hid (HA6.out.trans (hb5.mono HA6.out.size))
          have HBZ : Hid (cU wc8 ba al) := Lib.hid ((hb5.block ba (aV HBZ.out)).trans HBZ.out)
          clear hb5
          refine ⟨_, rfl, HC8.out, ?_⟩
          simp only [Act.put, aa, ae, af]
          refine aD 13 rfl (by kernel_rfl) (by kernel_rfl) (by kernel_rfl) rfl (fun w' hw => ah rfl (ev rfl)) (fun _ _ _ h => h) HC8.out ?_
          simp only [Act.put, aa, ae, af]
          refine aD 14 rfl (by kernel_rfl) (by kernel_rfl) (by kernel_rfl) rfl (fun w' hw => aC rfl (ev rfl) rfl) (fun _ _ _ h => h) HC8.out ?_
          simp only [Act.put, aa, ae, af]
          refine aD 15 rfl (by kernel_rfl) (by kernel_rfl) (by kernel_rfl) rfl (fun w' hw => aC rfl (ev rfl) rfl) (fun _ _ _ h => h) HC8.out ?_
          simp only [Act.put, aa, ae, af]
          have HS2 := Lib.hid (below_setCells (b := ba) (o := 0) HC8.out HBA.out (cel c))
          refine eY 17 rfl (by kernel_rfl) rfl (aH (c := c) rfl (ev rfl) (ev rfl) (dI (o := 0) (n := 64) HBZ.out (by show 64 ≤ (cel al).toArray.size; simp [ax]))) HS2.out ?_
          simp only [Act.put]
          refine aD 18 rfl (by kernel_rfl) (by kernel_rfl) (by kernel_rfl) rfl (fun w' hw => aq rfl (ev rfl)) (fun _ _ _ h => h) HS2.out ?_
          simp only [Act.put, aa, ae, af]
          refine wpAnyH_done (by kernel_rfl) ?_ _
          have hb : cU (wc8.setCells ba 0 (cel c)) ba c := HBZ.out.set c
          have hs2 := HS2.out
          generalize wc8.setCells ba 0 (cel c) = wq at *
          exact tail_ ba wq ⟨hs2, hb, HBA.out⟩
      · refine op_val 16 rfl rfl (aK rfl) ⟨HS0.out.alloc HS0.out.size _, ?_⟩
        simp only [Act.put, aa, ae, af]
        have HA9 := Lib.hid (HS0.out.alloc HS0.out.size (.cells (cel al).toArray 65))
        have HBZ := Lib.hid (show cU (wr.drew.alloc (.cells (cel al).toArray 65)) wr.drew.heap.size al from heap_alloc_new wr.drew _)
        have HBA : Hid (wr.heap.size ≤ wr.drew.heap.size) := Lib.hid HS0.out.size
        obtain ⟨ba, hba⟩ : ∃ ba, wr.drew.heap.size = ba := ⟨_, rfl⟩
        rw [hba] at HBZ HBA ⊢
        clear hba
        generalize wr.drew.alloc (.cells (cel al).toArray 65) = wa9 at *
        refine dH 9 (by kernel_rfl) (dV 9 rfl rfl (au Tryz.call57 rfl (evc (ev rfl) evn)) ?_)
        refine (plnext wa9 (HLR.out.below HA9.out) HK.out).mono ?_
        rintro e wc10 ⟨rfl, hb5⟩
        have HC10 := Lib.hid (HA9.out.trans (hb5.mono HA9.out.size))
        have HBZ : Hid (cU wc10 ba al) := Lib.hid ((hb5.block ba (aV HBZ.out)).trans HBZ.out)
        clear hb5
        refine ⟨_, rfl, HC10.out, ?_⟩
        simp only [Act.put, aa, ae, af]
        refine dH 10 (by kernel_rfl) (dV 10 rfl rfl (au Tryz.call130 rfl (evc (ev rfl) evn)) ?_)
        refine (pntslot x.next wc10 HSQ.out).mono ?_
        rintro e w' ⟨rfl, rfl⟩
        refine ⟨_, rfl, HC10.out, ?_⟩
        simp only [Act.put, aa, ae, af]
        refine aD 11 rfl (by kernel_rfl) (by kernel_rfl) (by kernel_rfl) rfl (fun w' hw => fb rfl evk (ev rfl) HAD.out) (fun _ _ _ h => h) HC10.out ?_
        simp only [Act.put, aa, ae, af]
        refine dH 12 (by kernel_rfl) (dV 12 rfl rfl (au Tryz.call133 rfl (evc (ev rfl) (evc (ev rfl) (evc (ev rfl) evn)))) ?_)
        refine (PJ.read (x.d : Int) (cz x.next) (HJR.out _ HC10.out)).mono ?_
        rintro e wc12 ⟨rfl, hb5⟩
        rw [HRC.out, HRE.out]
        have HC12 := Lib.hid (HC10.out.trans (hb5.mono HC10.out.size))
        have HBZ : Hid (cU wc12 ba al) := Lib.hid ((hb5.block ba (aV HBZ.out)).trans HBZ.out)
        clear hb5
        refine ⟨_, rfl, HC12.out, ?_⟩
        simp only [Act.put, aa, ae, af]
        refine aD 13 rfl (by kernel_rfl) (by kernel_rfl) (by kernel_rfl) rfl (fun w' hw => ah rfl (ev rfl)) (fun _ _ _ h => h) HC12.out ?_
        simp only [Act.put, aa, ae, af]
        refine aD 14 rfl (by kernel_rfl) (by kernel_rfl) (by kernel_rfl) rfl (fun w' hw => aC rfl (ev rfl) rfl) (fun _ _ _ h => h) HC12.out ?_
        simp only [Act.put, aa, ae, af]
        refine aD 15 rfl (by kernel_rfl) (by kernel_rfl) (by kernel_rfl) rfl (fun w' hw => aC rfl (ev rfl) rfl) (fun _ _ _ h => h) HC12.out ?_
        simp only [Act.put, aa, ae, af]
        have HS2 := Lib.hid (below_setCells (b := ba) (o := 0) HC12.out HBA.out (cel c))
        refine eY 17 rfl (by kernel_rfl) rfl (aH (c := c) rfl (ev rfl) (ev rfl) (dI (o := 0) (n := 64) HBZ.out (by show 64 ≤ (cel al).toArray.size; simp [ax]))) HS2.out ?_
        simp only [Act.put]
        refine aD 18 rfl (by kernel_rfl) (by kernel_rfl) (by kernel_rfl) rfl (fun w' hw => aq rfl (ev rfl)) (fun _ _ _ h => h) HS2.out ?_
        simp only [Act.put, aa, ae, af]
        refine wpAnyH_done (by kernel_rfl) ?_ _
        have hb : cU (wc12.setCells ba 0 (cel c)) ba c := HBZ.out.set c
        have hs2 := HS2.out
        generalize wc12.setCells ba 0 (cel c) = wq at *
        exact tail_ ba wq ⟨hs2, hb, HBA.out⟩
    · intro bb wz hf
      obtain ⟨hb1, hbk, hz⟩ := hf
      have HB1 := Lib.hid hb1
      have HKB := Lib.hid hbk
      clear hb1 hbk hz
      go_upto_region 6 with fail
      refine wp_region_lit ?_
      refine ag rfl (aJ (c := c) rfl (ev rfl) HKB.out.range) ?_
      simp only [Act.put, aa, ae, af]
      refine ao rfl (au Tryz.call135 rfl (evc (ev rfl) evn)) ?_
      refine (pntget c wz (HJR.out wz HB1.out).tab.n).mono ?_
      rintro e w4 ⟨rfl, hb4⟩
      have HB4 := Lib.hid (HB1.out.trans (hb4.mono HB1.out.size))
      clear hb4
      refine ⟨_, rfl, ?_⟩
      simp only [Act.put, aa, ae, af]
      refine ag rfl (ah rfl (ev rfl)) ?_
      simp only [Act.put, aa, ae, af]
      refine ag rfl (aC rfl (ev rfl) rfl) ?_
      simp only [Act.put, aa, ae, af]
      refine ag rfl (aC rfl (ev rfl) rfl) ?_
      simp only [Act.put, aa, ae, af]
      refine ag rfl (ci rfl) ?_
      simp only [Act.put, aa, ae, af]
      refine aB rfl (dK (c := aT.gX c) rfl (ev rfl) (ev rfl)) ?_
      simp only [Act.put, aa, ae, af]
      refine ag rfl (aq rfl (ev rfl)) ?_
      simp only [Act.put, aa, ae, af]
      refine wpList_nil ?_
      obtain ⟨y, hy⟩ : ∃ y, aT.gX c = y := ⟨_, rfl⟩
      obtain ⟨F, hF⟩ : ∃ F : Nat, aT.gE c = F := ⟨_, rfl⟩
      have HGX := Lib.hid hy
      have HGE := Lib.hid hF
      rw [hy, hF]
      clear hy hF
      have HY := Lib.hid (bT.new w4 y)
      have HB5 := Lib.hid (HB4.out.alloc HB4.out.size (.cells (aS y).toArray 70))
      have HLE : Hid (w4.heap.size < (w4.alloc (.cells (aS y).toArray 70)).heap.size) := Lib.hid (by rw [World.size_alloc]; omega)
      have HNB : Hid (wr.heap.size ≤ w4.heap.size) := Lib.hid HB4.out.size
      generalize w4.alloc (.cells (aS y).toArray 70) = w5 at *
      clear HB1 HB4 HKB
      generalize w4.heap.size = nb at *
      by_cases hf0 : F = 0
      rotate_left 1
      · have HC : Hid (((F : Int) != 0) = true) := Lib.hid (by simp; omega)
        have HX : Hid (x = X) := Lib.hid (by
          have := HS.out.rest
          rwa [opnN_no _ (decide_eq_false fun e => by
            have e1 := e.1
            have : aT.gE (nxtZ M x) = F := by rw [show nxtZ M x = c from HRC.out]; exact HGE.out
            omega)] at this)
        have HW5 := Lib.hid (HW.out.below HB5.out)
        rw [HX.out] at HW5
        clear hf0
        go_upto_region 7 with fail
        refine wp_region_lit ?_
        refine ag rfl (ah rfl (ev rfl)) ?_
        simp only [Act.put, aa, ae, af]
        refine ag (v := .bool true) rfl (aP true rfl (ev rfl) evk HC.out) ?_
        simp only [Act.put, aa, ae, af]
        refine aO 4 (v := .bool true) rfl (ah rfl (ev rfl)) (by kernel_rfl) ?_
        simp only [bc, List.take_succ_cons, List.take_zero, List.drop_succ_cons, List.drop_zero, Act.put, List.setIfInBounds_toArray, List.set_cons_succ, List.set_cons_zero]
        refine ag (v := .bool true) rfl (aM rfl (ev rfl) evk) ?_
        simp only [Act.put, aa, ae, af]
        refine wpList_nil ?_
        go_wp2_with fail
        go_ret
        exact ⟨rfl, HW5.out.only, _, HW5.out.log, HW5.out.own⟩
      have HC : Hid (((F : Int) != 0) = false) := Lib.hid (by rw [hf0]; rfl)
      have hzc : nxtZ M x = c := HRC.out
      have hge : aT.gE (nxtZ M x) = 0 := by rw [hzc]; exact HGE.out.trans hf0
      have hm1 := of_nteB (aT.gX_may hge)
      rw [hzc, HGX.out] at hm1
      have HCL : Hid (1 ≤ y.cells ∧ y.cells ≤ 32) := Lib.hid ⟨hm1.2.2.2.1, hm1.2.2.2.2⟩
      have HNQ : Hid (nxtQ x (nxtZ M x) = awtB x y) := Lib.hid (by rw [nxtQ_awt hge, hzc, HGX.out])
      have HGZ : Hid (aT.gX (nxtZ M x) = y) := Lib.hid (by rw [hzc]; exact HGX.out)
      clear hzc hge hm1 hf0
      cases haw : awtB x y
      · have HAW := Lib.hid haw
        have HX : Hid (x = X) := Lib.hid (by
          have := HS.out.rest
          rwa [opnN_no _ (HNQ.out.trans haw)] at this)
        clear haw
        go_upto_region 7 with fail
        refine wp_region_lit ?_
        refine ag rfl (ah rfl (ev rfl)) ?_
        simp only [Act.put, aa, ae, af]
        refine ag (v := .bool false) rfl (aP false rfl (ev rfl) evk HC.out) ?_
        simp only [Act.put, aa, ae, af]
        refine ag (v := .bool false) rfl (ah rfl (ev rfl)) ?_
        simp only [Act.put, aa, ae, af]
        refine ai (aj rfl rfl rfl rfl) (ah rfl (ev rfl)) ?_
        simp only [Act.put, aa, ae, af]
        refine ai (aj rfl rfl rfl rfl) (aZ rfl (ev rfl) HY.out.range) ?_
        simp only [Act.put, aa, ae, af]
        refine ao (aj rfl rfl rfl rfl) (au Tryz.call136 rfl (evc (ev rfl) (evc (ev rfl) evn))) ?_
        refine (plawaited w5 (HW.out.below HB5.out).log HK.out HCL.out HAW.out).mono ?_
        rintro e w6 ⟨rfl, hb6⟩
        have HB6 := Lib.hid hb6
        clear hb6
        refine ⟨_, rfl, ?_⟩
        simp only [Act.put, aa, ae, af]
        refine ai (v := .bool true) (aj rfl rfl rfl rfl) (aX false rfl (ev rfl)) ?_
        simp only [Act.put, aa, ae, af]
        refine ag (v := .bool true) rfl (aN rfl (ev rfl) (ev rfl)) ?_
        simp only [Act.put, aa, ae, af]
        refine wpList_nil ?_
        have HW6 := Lib.hid ((HW.out.below HB5.out).below HB6.out)
        rw [HX.out] at HW6
        go_wp2_with fail
        go_ret
        exact ⟨rfl, HW6.out.only, _, HW6.out.log, HW6.out.own⟩
      · have HAW := Lib.hid haw
        have HSN := Lib.hid (HS.out.next hlt (HNQ.out.trans haw))
        rw [HGZ.out] at HSN
        clear haw
        go_upto_region 7 with fail
        refine wp_region_lit ?_
        refine ag rfl (ah rfl (ev rfl)) ?_
        simp only [Act.put, aa, ae, af]
        refine ag (v := .bool false) rfl (aP false rfl (ev rfl) evk HC.out) ?_
        simp only [Act.put, aa, ae, af]
        refine ag (v := .bool false) rfl (ah rfl (ev rfl)) ?_
        simp only [Act.put, aa, ae, af]
        refine ai (aj rfl rfl rfl rfl) (ah rfl (ev rfl)) ?_
        simp only [Act.put, aa, ae, af]
        refine ai (aj rfl rfl rfl rfl) (aZ rfl (ev rfl) HY.out.range) ?_
        simp only [Act.put, aa, ae, af]
        refine ao (aj rfl rfl rfl rfl) (au Tryz.call136 rfl (evc (ev rfl) (evc (ev rfl) evn))) ?_
        refine (plawaited w5 (HW.out.below HB5.out).log HK.out HCL.out HAW.out).mono ?_
        rintro e w6 ⟨rfl, hb6⟩
        have HB6 := Lib.hid hb6
        clear hb6
        refine ⟨_, rfl, ?_⟩
        simp only [Act.put, aa, ae, af]
        refine ai (v := .bool false) (aj rfl rfl rfl rfl) (aX true rfl (ev rfl)) ?_
        simp only [Act.put, aa, ae, af]
        refine ag (v := .bool false) rfl (aN rfl (ev rfl) (ev rfl)) ?_
        simp only [Act.put, aa, ae, af]
        refine wpList_nil ?_
        have HW6 := Lib.hid ((HW.out.below HB5.out).below HB6.out)
        have HY6 := Lib.hid (HY.out.below HLE.out HB6.out)
        have HNF : Hid (¬ cM p (.slice A x.nts.length cc) nb) := Lib.hid fun e => by have := HLR.out.lt nb e; have := HNB.out; omega
        have HL6 := Lib.hid HW6.out.log
        obtain ⟨An, cn, w12, hrun, hp12, hn12, hpl, hon, hn13, hown⟩ := app_row HL6.out HY6.out HNF.out HK.out.eig
        have HRUN := Lib.hid hrun
        have HP12 := Lib.hid hp12
        have HN12 := Lib.hid hn12
        have HPL := Lib.hid hpl
        have HON := Lib.hid hon
        have HOWN := Lib.hid hown
        have HMK : Hid ((nte y).cells = (aW.cel y).toArray) := Lib.hid (by show Value.cells (.agg _) = _; simp [Value.cells]; rfl)
        have hS : w6.drew.heap[p]? = some (.cells (plgC q (.slice A x.nts.length cc) x).toArray 88 (0, 0)) ∧ bT w6.drew nb y := ⟨HL6.out.at_, HY6.out⟩
        have hS5 : (w6.drew.alloc (.cells (aW.cel y).toArray aW.t)).heap[p]? = some (.cells (plgC q (.slice A x.nts.length cc) x).toArray 88 (0, 0)) ∧ bT (w6.drew.alloc (.cells (aW.cel y).toArray aW.t)) nb y := ⟨bM hS.1 _, hS.2.past _⟩
        clear hrun hp12 hn12 hpl hon hn13 hown
        go_upto_region 9 with fail
        refine bx (fun w' => w'.heap[p]? = some (.cells (plgC q (.slice A x.nts.length cc) x).toArray 88 (0, 0)) ∧ bT w' nb y) 10 (by kernel_rfl) ?_
        change cm _ _ _ _ _ _ 11 _ _ w6.drew
        refine ap 0 rfl (by kernel_rfl) (by kernel_rfl) (by kernel_rfl) (by decide) (by kernel_rfl) rfl (fun w' hw => ah rfl (ev rfl)) (fun _ _ _ h => h) hS ?_
        simp only [Act.put, aa, ae, af]
        refine ap 1 rfl (by kernel_rfl) (by kernel_rfl) (by kernel_rfl) (by decide) (by kernel_rfl) rfl (fun w' hw => ah rfl (ev rfl)) (fun _ _ _ h => h) hS ?_
        simp only [Act.put, aa, ae, af]
        refine ap 2 rfl (by kernel_rfl) (by kernel_rfl) (by kernel_rfl) (by decide) (by kernel_rfl) rfl (fun w' hw => az rfl (ev rfl)) (fun _ _ _ h => h) hS ?_
        simp only [Act.put, aa, ae, af]
        refine ap 3 rfl (by kernel_rfl) (by kernel_rfl) (by kernel_rfl) (by decide) (by kernel_rfl) rfl (fun w' hw => ak rfl (ev rfl) faQl4) (fun _ _ _ h => h) hS ?_
        simp only [Act.put, aa, ae, af]
        refine ap 4 rfl (by kernel_rfl) (by kernel_rfl) (by kernel_rfl) (by decide) (by kernel_rfl) rfl (fun w' hw => av rfl (ev rfl) (ldNts (cell_row (j := 7) hw.1 rfl))) (fun _ _ _ h => h) hS ?_
        simp only [Act.put, aa, ae, af]
        refine ap 5 rfl (by kernel_rfl) (by kernel_rfl) (by kernel_rfl) (by decide) (by kernel_rfl) rfl (fun w' hw => aZ (c := y) rfl (ev rfl) hw.2.range) (fun _ _ _ h => h) hS ?_
        simp only [Act.put, aa, ae, af]
        refine bl 6 rfl (by kernel_rfl) rfl (dc (E := aW) (a := y) rfl (ev rfl) HMK.out (by show 4 ≤ _; omega)) (fun _ => hS5) ?_
        simp only [Act.put, aa, ae, af]
        refine bl 7 rfl (by kernel_rfl) rfl (fB (E := aW) rfl (ev rfl) (ev rfl) HRUN.out) (fun _ => ⟨HP12.out, HN12.out⟩) ?_
        simp only [Act.put, aa, ae, af]
        refine bl 8 rfl (by kernel_rfl) rfl (az rfl (ev rfl)) (fun _ => ⟨HP12.out, HN12.out⟩) ?_
        simp only [Act.put, aa, ae, af]
        refine bl 9 rfl (by kernel_rfl) rfl (ak rfl (ev rfl) faQl4) (fun _ => ⟨HP12.out, HN12.out⟩) ?_
        simp only [Act.put, aa, ae, af]
        refine ey 10 rfl (by kernel_rfl) rfl (exec_stN rfl (ev rfl) (ev rfl) (cell_row (j := 7) HP12.out rfl) (frozen_of_row w12 p 7 _ _ HP12.out)) (fun e => absurd rfl e) ?_
        simp only [Act.put]
        refine b8 (by kernel_rfl) ?_ _
        have HWN : Hid (RnW w (w12.setCell ⟨p, 7, none⟩ (.slice An (x.nts.length + 1) cn)) p q (.slice An (x.nts.length + 1) cn) (x.with_ y)) := Lib.hid ⟨HPL.out, HW6.out.only.trans HON.out fun b e => e.imp id fun e => HW6.out.own b e, fun b e => (HOWN.out b e).elim (fun e => HW6.out.own b e) fun e => Nat.le_trans HW6.out.only.size e⟩
        generalize w12.setCell ⟨p, 7, none⟩ (.slice An (x.nts.length + 1) cn) = w13 at *
        clear hS hS5
        go_wp2_with fail
        go_roundw
        case rel => exact ⟨k + 1, _, _, by omega, by go_num, HWN.out, HSN.out⟩
        case measure => simp [intOf]; omega
end Go.Proofs.YtcafafdimcecpaaGreatDoor
