import Derived.Test.YtbbcdhkinbmdnaaGreatDoorLoax
import Derived.Test.YtbbcdhkinbmdnaaGreatDoorLoat
import Derived.Test.YtbbcdhkinbmdnaaGreatDoorLoao
import Derived.Test.YtbbcdhkinbmdnaaGreatDoorLoZ
namespace Go.Proofs.YtbbcdhkinbmdnaaGreatDoor
open Go.RowKit
set_option linter.unusedVariables false
set_option linter.unusedSimpArgs false
set_option maxRecDepth 100000
section
variable {w0 w : World} {H K : Nat → Prop} {p q : Nat} {v : Value} {M : BenS} {x : LgS}
theorem pflush (hr : Room M 1) (h : PJ w0 H K w p q v M x) : Calls Tryz.prog 86 #[.pointer (some ⟨p, 0, none⟩)] w fun e w' => e = .returned (.int .i64 (flE6 M (x.d : Int))) ∧ PJ w0 H K w' p q v (flS6 M (x.d : Int)) x ∧ kept K w w' := by
 have HJ := af h.drew
 have HL := af h.drew.log
 have HR := af hr
 clear h hr
 go_enter Tryz.func86, Tryz.ntmps86
 go_upto_region 1 with fail
 refine wp_region_still_tail 8 (by kernel_rfl) (by kernel_rfl) ?_
 simp only [ae]
 refine aF rfl (aj rfl (ev rfl)) ?_;simp only [aa]
 refine aF rfl (aB rfl (ev rfl)) ?_;simp only [aa]
 refine aF rfl (am rfl (ev rfl) faQl0) ?_;simp only [aa]
 refine aF rfl (au rfl (ev rfl) (ldQp (PLg.c0 HL.out))) ?_;simp only [aa]
 refine aF rfl (aj rfl (ev rfl)) ?_;simp only [aa]
 refine aF rfl (aB rfl (ev rfl)) ?_;simp only [aa]
 refine aF rfl (am rfl (ev rfl) faQl1) ?_;simp only [aa]
 refine aF rfl (au rfl (ev rfl) (bj (PLg.c1 HL.out))) ?_;simp only [aa]
 refine wpStill_nil ?_
 change wpList _ _ _ _ _ (World.drew _)
 refine ar rfl (av Tryz.call124 rfl (evc (ev rfl) (evc (ev rfl) evn))) ?_
 refine (PJ.flush (x.d : Int) HR.out HJ.out).mono ?_
 rintro e w1 ⟨rfl, hj, hk⟩
 refine ⟨_, rfl, ?_⟩
 simp only [aa]
 refine ai rfl (aq rfl (ev rfl)) ?_;simp only [aa]
 refine ah ?_
 go_wp2_with fail
 go_ret
 exact ⟨rfl, hj, hk⟩
theorem pwriting1 {a b c : Nat} (n : Int) (y : Blk) (hr : Room M 1) (h : PJ w0 H K w p q v M x) (ha : PtrAt w a p) (hb : IntAt w b n) (hc : cz w c y) : Calls Tryz.prog 159 #[.pointer (some ⟨a, 0, none⟩), .pointer (some ⟨b, 0, none⟩), .pointer (some ⟨c, 0, none⟩)] w fun e w' => e = .returned (.int .i64 (wrE6 M (x.d : Int) n)) ∧ PJ w0 H K w' p q v (dK M (x.d : Int) n y) x ∧ kept K w w' := by
 have HJ := af h.drew
 have HL := af h.drew.log
 have HA := af (show PtrAt w.drew a p from ha)
 have HB := af (show IntAt w.drew b n from hb)
 have HC := af (show cz w.drew c y from hc)
 have HR := af hr
 clear h hr ha hb hc
 go_enter Tryz.func159, Tryz.ntmps159
 go_upto_region 1 with fail
 refine wp_region_still_tail 10 (by kernel_rfl) (by kernel_rfl) ?_
 simp only [ae]
 refine aF rfl (au rfl (ev rfl) (ldLp HA.out.cell)) ?_;simp only [aa]
 refine aF rfl (aB rfl (ev rfl)) ?_;simp only [aa]
 refine aF rfl (am rfl (ev rfl) faQl0) ?_;simp only [aa]
 refine aF rfl (au rfl (ev rfl) (ldQp (PLg.c0 HL.out))) ?_;simp only [aa]
 refine aF rfl (au rfl (ev rfl) (ldLp HA.out.cell)) ?_;simp only [aa]
 refine aF rfl (aB rfl (ev rfl)) ?_;simp only [aa]
 refine aF rfl (am rfl (ev rfl) faQl1) ?_;simp only [aa]
 refine aF rfl (au rfl (ev rfl) (bj (PLg.c1 HL.out))) ?_;simp only [aa]
 refine aF rfl (au rfl (ev rfl) (bj HB.out.cell)) ?_;simp only [aa]
 refine aF rfl (aS (c := y) rfl (ev rfl) HC.out.range) ?_;simp only [aa]
 refine wpStill_nil ?_
 change wpList _ _ _ _ _ (World.drew _)
 refine ar rfl (av Tryz.call6 rfl (evc (ev rfl) (evc (ev rfl) (evc (ev rfl) (evc (ev rfl) evn))))) ?_
 refine (PJ.write (x.d : Int) n y HR.out HJ.out).mono ?_
 rintro e w1 ⟨rfl, hj, hk⟩
 refine ⟨_, rfl, ?_⟩
 simp only [aa]
 refine ai rfl (aq rfl (ev rfl)) ?_;simp only [aa]
 refine ah ?_
 go_wp2_with fail
 go_ret
 exact ⟨rfl, hj, hk⟩
set_option maxHeartbeats 1600000 in
theorem pmarking1 {a b c : Nat} (n : Nat) (m : Mrk) (hr : Room M 1) (h : PJ w0 H K w p q v M x) (ha : U64At w a n) (hb : bP w b m) (hc : PtrAt w c p) (ka : K a) (kc : K c) (hn : n < 18446744073709551616) (hf : m.fit) (he : aN.pE ⟨n, m⟩ = 0) : Calls Tryz.prog 135 #[.pointer (some ⟨a, 0, none⟩), .pointer (some ⟨b, 0, none⟩), .pointer (some ⟨c, 0, none⟩)] w fun e w' => e = .returned (.int .i64 (wrE6 M (x.d : Int) (eJ n))) ∧ PJ w0 H K w' p q v (dK M (x.d : Int) (eJ n) (aN.pB ⟨n, m⟩)) x ∧ kept K w w' := by
 obtain ⟨mb, hmb⟩ : ∃ mb, aN.pB ⟨n, m⟩ = mb := ⟨_, rfl⟩
 have HMB := af hmb
 rw [hmb]
 have HJ := af h
 have HR := af hr
 have HS0 := af (Below.refl w.heap.size w)
 have HA := af ha
 have HB := af hb
 have HC := af hc
 have HN := af hn
 have HF := af hf
 have HE := af he
 have HKA := af ka
 have HKC := af kc
 clear ha hb hc hn hf he ka kc
 clear h hr hmb
 go_enter Tryz.func135, Tryz.ntmps135
 go_upto_region 1 with fail
 refine ag ?_
 refine ai rfl (au rfl (ev rfl) (bL HA.out.cell)) ?_;simp only [aa]
 refine ai rfl (bk (c := m) rfl (ev rfl) HB.out.range) ?_;simp only [aa]
 refine ar rfl (av Tryz.call136 rfl (evc (ev rfl) (evc (ev rfl) evn))) ?_
 refine (pmput n m w HJ.out.tab.m HN.out HF.out).mono ?_
 rintro e w1 ⟨rfl, hb1⟩
 rw [HMB.out, HE.out]
 have HB1 := af hb1
 clear hb1
 refine ⟨_, rfl, ?_⟩
 simp only [aa]
 refine ai rfl (aj rfl (ev rfl)) ?_;simp only [aa]
 refine ai rfl (aD rfl (ev rfl) rfl) ?_;simp only [aa]
 refine ai rfl (aD rfl (ev rfl) rfl) ?_;simp only [aa]
 refine ai rfl (aT rfl) ?_;simp only [aa]
 refine az rfl (dp (c := mb) rfl (ev rfl) (ev rfl)) ?_;simp only [aa]
 refine ai rfl (aq rfl (ev rfl)) ?_;simp only [aa]
 refine ah ?_
 have HBN := af (HB1.out.alloc HB1.out.size (.cells (cel mb).toArray 29))
 have HBB := af (cf w1 (cel mb) 29)
 have HBL : Hid (w.heap.size ≤ w1.heap.size ∧ w1.heap.size < (w1.alloc (.cells (cel mb).toArray 29)).heap.size) := af ⟨HB1.out.size, by rw [World.size_alloc]; omega⟩
 generalize w1.alloc (.cells (cel mb).toArray 29) = w2 at *
 generalize w1.heap.size = bb at *
 have HJ2 := af (HJ.out.guard (K' := fun b => K b ∨ b = bb) HBN.out (fun b e => e.elim .inl (fun e => .inr (by rw [e]; exact HBL.out))))
 have HK2 := af (HJ.out.kept HBN.out)
 have HA2 : Hid (U64At w2.drew a n) := af (cj HA.out (bd HBN.out))
 have HC2 : Hid (PtrAt w2.drew c p) := af (cj HC.out (bd HBN.out))
 have hS : PLg w2.drew p q v x ∧ w2.drew.rangeAt bb 0 (cel mb) ∧ U64At w2.drew a n ∧ PtrAt w2.drew c p := ⟨HJ2.out.drew.log, HBB.out, HA2.out, HC2.out⟩
 go_upto_region 4 with fail
 refine bH (fun w' => PLg w' p q v x ∧ w'.rangeAt bb 0 (cel mb) ∧ U64At w' a n ∧ PtrAt w' c p) 12 (by kernel_rfl) ?_
 change cF _ _ _ _ _ _ 13 _ _ w2.drew
 refine gu 0 rfl (fun w' hw => au rfl (ev rfl) (ldLp hw.2.2.2.cell)) hS ?_;simp only [aa]
 refine gu 1 rfl (fun w' hw => aB rfl (ev rfl)) hS ?_;simp only [aa]
 refine gu 2 rfl (fun w' hw => am rfl (ev rfl) faQl0) hS ?_;simp only [aa]
 refine gu 3 rfl (fun w' hw => au rfl (ev rfl) (ldQp (PLg.c0 hw.1))) hS ?_;simp only [aa]
 refine gu 4 rfl (fun w' hw => au rfl (ev rfl) (ldLp hw.2.2.2.cell)) hS ?_;simp only [aa]
 refine gu 5 rfl (fun w' hw => aB rfl (ev rfl)) hS ?_;simp only [aa]
 refine gu 6 rfl (fun w' hw => am rfl (ev rfl) faQl1) hS ?_;simp only [aa]
 refine gu 7 rfl (fun w' hw => au rfl (ev rfl) (bj (PLg.c1 hw.1))) hS ?_;simp only [aa]
 refine gu 8 rfl (fun w' hw => au rfl (ev rfl) (bL hw.2.2.1.cell)) hS ?_;simp only [aa]
 refine gu 10 rfl (fun w' hw => aS (c := mb) rfl (ev rfl) hw.2.1) hS ?_;simp only [aa]
 refine cQ 9 rfl (by kernel_rfl) rfl (av Tryz.call137 rfl (evc (ev rfl) evn)) ?_
 refine (pmslot n w2.drew HN.out).mono ?_
 rintro e w' ⟨rfl, rfl⟩
 refine ⟨_, rfl, fun _ => hS, ?_⟩
 simp only [aa]
 refine cQ 11 rfl (by kernel_rfl) rfl (av Tryz.call6 rfl (evc (ev rfl) (evc (ev rfl) (evc (ev rfl) (evc (ev rfl) evn))))) ?_
 refine (PJ.write (x.d : Int) (eJ n) mb HR.out HJ2.out.drew).mono ?_
 rintro e w3 ⟨rfl, hj, hk⟩
 refine ⟨_, rfl, fun _ => ?_, ?_⟩
 ·exact ⟨hj.log, rng_kept (hk bb (.inr rfl)) HBB.out, (hk a (.inl HKA.out)).trans HA2.out, (hk c (.inl HKC.out)).trans HC2.out⟩
 simp only [aa]
 refine bl 12 rfl (by kernel_rfl) rfl (aq rfl (ev rfl)) (fun e => absurd rfl e) ?_;simp only [aa]
 refine cm (by kernel_rfl) ?_ _
 go_wp2_with fail
 go_ret
 exact ⟨rfl, hj.less fun b e => .inl e, HK2.out.trans fun b e => hk b (.inl e)⟩
set_option maxHeartbeats 1600000 in
theorem pnoting1 {a b : Nat} (y : Nte) (hr : Room M 1) (h : PJ w0 H K w p q v M x) (ha : bI w a y) (hb : PtrAt w b p) (ka : K a) (kb : K b) (hf : y.fit) (he : aL.pE y = 0) : Calls Tryz.prog 125 #[.pointer (some ⟨a, 0, none⟩), .pointer (some ⟨b, 0, none⟩)] w fun e w' => e = .returned (.int .i64 (wrE6 M (x.d : Int) (cp y.seq))) ∧ PJ w0 H K w' p q v (dK M (x.d : Int) (cp y.seq) (aL.pB y)) x ∧ kept K w w' := by
 obtain ⟨mb, hmb⟩ : ∃ mb, aL.pB y = mb := ⟨_, rfl⟩
 have HMB := af hmb
 rw [hmb]
 have HJ := af h
 have HR := af hr
 have HS0 := af (Below.refl w.heap.size w)
 have HA := af ha
 have HC := af hb
 have HF := af hf
 have HE := af he
 have HKA := af ka
 have HKC := af kb
 have HSQ : Hid (y.seq < 18446744073709551616) := af hf.1
 have HAD : Hid (IntKind.i64.wrap (2 + ((y.seq % 8 : Nat) : Int)) = cp y.seq) := af (by unfold cp; rw [IntWalk.i64_in _ ⟨by omega, by omega⟩]; omega)
 clear ha hb hf he ka kb
 clear h hr hmb
 go_enter Tryz.func125, Tryz.ntmps125
 go_upto_region 1 with fail
 refine ag ?_
 refine ai rfl (bh (c := y) rfl (ev rfl) HA.out.range) ?_;simp only [aa]
 refine ar rfl (av Tryz.call126 rfl (evc (ev rfl) evn)) ?_
 refine (pntput y w HJ.out.tab.n HF.out).mono ?_
 rintro e w1 ⟨rfl, hb1⟩
 rw [HMB.out, HE.out]
 have HB1 := af hb1
 clear hb1
 refine ⟨_, rfl, ?_⟩
 simp only [aa]
 refine ai rfl (aj rfl (ev rfl)) ?_;simp only [aa]
 refine ai rfl (aD rfl (ev rfl) rfl) ?_;simp only [aa]
 refine ai rfl (aD rfl (ev rfl) rfl) ?_;simp only [aa]
 refine ai rfl (aT rfl) ?_;simp only [aa]
 refine az rfl (dp (c := mb) rfl (ev rfl) (ev rfl)) ?_;simp only [aa]
 refine ai rfl (aq rfl (ev rfl)) ?_;simp only [aa]
 refine ah ?_
 have HBN := af (HB1.out.alloc HB1.out.size (.cells (cel mb).toArray 29))
 have HBB := af (cf w1 (cel mb) 29)
 have HBL : Hid (w.heap.size ≤ w1.heap.size ∧ w1.heap.size < (w1.alloc (.cells (cel mb).toArray 29)).heap.size) := af ⟨HB1.out.size, by rw [World.size_alloc]; omega⟩
 generalize w1.alloc (.cells (cel mb).toArray 29) = w2 at *
 generalize w1.heap.size = bb at *
 have HJ2 := af (HJ.out.guard (K' := fun b => K b ∨ b = bb) HBN.out (fun b e => e.elim .inl (fun e => .inr (by rw [e]; exact HBL.out))))
 have HK2 := af (HJ.out.kept HBN.out)
 have HA2 : Hid (bI w2.drew a y) := af (cj HA.out (bd HBN.out))
 have HC2 : Hid (PtrAt w2.drew b p) := af (cj HC.out (bd HBN.out))
 have hS : PLg w2.drew p q v x ∧ w2.drew.rangeAt bb 0 (cel mb) ∧ bI w2.drew a y ∧ PtrAt w2.drew b p := ⟨HJ2.out.drew.log, HBB.out, HA2.out, HC2.out⟩
 go_upto_region 4 with fail
 refine bH (fun w' => PLg w' p q v x ∧ w'.rangeAt bb 0 (cel mb) ∧ bI w' a y ∧ PtrAt w' b p) 14 (by kernel_rfl) ?_
 change cF _ _ _ _ _ _ 15 _ _ w2.drew
 refine gu 0 rfl (fun w' hw => au rfl (ev rfl) (ldLp hw.2.2.2.cell)) hS ?_;simp only [aa]
 refine gu 1 rfl (fun w' hw => aB rfl (ev rfl)) hS ?_;simp only [aa]
 refine gu 2 rfl (fun w' hw => am rfl (ev rfl) faQl0) hS ?_;simp only [aa]
 refine gu 3 rfl (fun w' hw => au rfl (ev rfl) (ldQp (PLg.c0 hw.1))) hS ?_;simp only [aa]
 refine gu 4 rfl (fun w' hw => au rfl (ev rfl) (ldLp hw.2.2.2.cell)) hS ?_;simp only [aa]
 refine gu 5 rfl (fun w' hw => aB rfl (ev rfl)) hS ?_;simp only [aa]
 refine gu 6 rfl (fun w' hw => am rfl (ev rfl) faQl1) hS ?_;simp only [aa]
 refine gu 7 rfl (fun w' hw => au rfl (ev rfl) (bj (PLg.c1 hw.1))) hS ?_;simp only [aa]
 refine gu 8 rfl (fun w' hw => am rfl (ev rfl) faNt0) hS ?_;simp only [aa]
 refine gu 9 rfl (fun w' hw => au rfl (ev rfl) (bL hw.2.2.1.cells.1)) hS ?_;simp only [aa]
 refine gu 12 rfl (fun w' hw => aS (c := mb) rfl (ev rfl) hw.2.1) hS ?_;simp only [aa]
 refine cQ 10 rfl (by kernel_rfl) rfl (av Tryz.call70 rfl (evc (ev rfl) evn)) ?_
 refine (pntslot y.seq w2.drew HSQ.out).mono ?_
 rintro e w' ⟨rfl, rfl⟩
 refine ⟨_, rfl, fun _ => hS, ?_⟩
 simp only [aa]
 refine gu 11 rfl (fun w' hw => da rfl evk (ev rfl) HAD.out) hS ?_;simp only [aa]
 refine cQ 13 rfl (by kernel_rfl) rfl (av Tryz.call6 rfl (evc (ev rfl) (evc (ev rfl) (evc (ev rfl) (evc (ev rfl) evn))))) ?_
 refine (PJ.write (x.d : Int) (cp y.seq) mb HR.out HJ2.out.drew).mono ?_
 rintro e w3 ⟨rfl, hj, hk⟩
 refine ⟨_, rfl, fun _ => ?_, ?_⟩
 ·exact ⟨hj.log, rng_kept (hk bb (.inr rfl)) HBB.out, (hk a (.inl HKA.out)).trans HA2.out, (hk b (.inl HKC.out)).trans HC2.out⟩
 simp only [aa]
 refine bl 14 rfl (by kernel_rfl) rfl (aq rfl (ev rfl)) (fun e => absurd rfl e) ?_;simp only [aa]
 refine cm (by kernel_rfl) ?_ _
 go_wp2_with fail
 go_ret
 exact ⟨rfl, hj.less fun b e => .inl e, HK2.out.trans fun b e => hk b (.inl e)⟩
theorem StpAt.run {s : Fv} {t : Stp} (hr : Room M 1) (h : PJ w0 H K w p q v M x) (hs : StpAt K w p s t) : Calls Tryz.prog s.f (s.fst ++ s.cap).toArray w fun e w' => e = .returned (.int .i64 (stpE (x.d : Int) M t)) ∧ PJ w0 H K w' p q v (stpS (x.d : Int) M t) x ∧ kept K w w' := by
 cases hs with
 | fl => exact pflush hr h
 | wr a b c n y ha hb hc ka kb kc => exact pwriting1 n y hr h ha hb hc
 | mk a b c n m ha hb hc ka kb kc hn hf he => exact pmarking1 n m hr h ha hb hc ka kc hn hf he
 | nt a b y ha hb ka kb hf he => exact pnoting1 y hr h ha hb ka kb hf he
theorem chn_go {wK : World} {Kr : Nat → Prop} (hKr : ∀ b, Kr b → K b) : ∀ (l : List Fv) (ts : List Stp) {w : World} {M : BenS}, Stps K w p l ts → PJ w0 H K w p q v M x → kept K wK w → Room M ts.length →
  Chn Kr (fun E w' => E = goE (x.d : Int) M ts ∧ PJ w0 H K w' p q v (goB (x.d : Int) M ts) x ∧ kept K wK w') l w
 | [], [], w, M, _, h, hk0, _ => fun w' hb => ⟨rfl, h.below hb, hk0.trans (h.kept hb)⟩
 | s :: l, t :: ts, w, M, hs, h, hk0, hr => fun w1 hb => by
  have h1 := h.below hb
  have hk1 := hk0.trans (h.kept hb)
  have hs1 : Stps K w1 p (s :: l) (t :: ts) := Stps.keep_ (fun b hb' => hb.block b (h.lt hb')) (fun _ e => e) hs
  have hr1 : Room M (ts.length + 1) := hr
  refine (StpAt.run (room_more hr1 (by omega)) h1 hs1.1).mono fun e w2 ⟨he, hj, hk⟩ => ⟨fun b hb' => hk b (hKr b hb'), stpE (x.d : Int) M t, he, ?_⟩
  by_cases h0 : stpE (x.d : Int) M t = 0
  ·left
   refine ⟨h0, ?_⟩
   rw [(go_ok h0).1, (go_ok h0).2]
   exact chn_go hKr l ts (Stps.keep_ hk (fun _ e => e) hs1.2) hj (hk1.trans hk) (room_stp hr1 t)
  ·right
   refine ⟨h0, fun w3 hb3 => ?_⟩
   rw [(go_no h0).1, (go_no h0).2]
   exact ⟨rfl, hj.below hb3, (hk1.trans hk).trans (hj.kept hb3)⟩
end
theorem aH.slice_ {α : Type} {E : Elt α} {w : World} {B : Nat} {v : Value} {l : List α} (h : aH E w B v l) (hl : 0 < l.length) : ∃ g c, v = .slice (some ⟨g, 0, none⟩) l.length c ∧ B ≤ g ∧ g < w.heap.size ∧ l.length ≤ c ∧ c ≤ maxLen := by
 rcases h.2 with ⟨rfl, h0⟩ | ⟨g, cap, cur, rfl, hbg, hg, h1, h2, _⟩
 ·omega
 ·exact ⟨g, cap, rfl, hbg, aK hg, h1, h2⟩
section
variable {ρ : Operand → Value} {o : Oper} {x y : Operand} {w : World} {g j n c : Nat}
theorem exec_idxI (ho : o.op = .indexAddr 53 x y) (hx : ρ x = .slice (some ⟨g, 0, none⟩) n c) (hy : ρ y = .int .i64 (j : Int)) (hj : j < n) : (execOp ρ o).run Tryz.prog w = .ok (.value (.pointer (some ⟨g, j, none⟩))) w := by
 have := bQ (E := IntE) (w := w) ho hx hy hj
 rwa [show 0 + j * IntE.n = j from by show 0 + j * 1 = _; omega] at this
theorem exec_stI {a b : Int} (ho : o.op = .store 3 x y) (hx : ρ x = .pointer (some ⟨g, j, none⟩)) (hy : ρ y = .int .i64 a) (hc : w.cell? ⟨g, j, none⟩ = some (.int .i64 b)) (hf : w.frozen? ⟨g, j, none⟩ = false) : (execOp ρ o).run Tryz.prog w = .ok .skip (w.setCell ⟨g, j, none⟩ (.int .i64 a)) :=
 fD ho hx hy (by simp [go_sem, hc, hf])
end
theorem aH.cellI {w : World} {B g n c k : Nat} {l : List Int} (h : aH IntE w B (.slice (some ⟨g, 0, none⟩) n c) l) (hk : k < n) : w.cell? ⟨g, k, none⟩ = some (.int .i64 (l.getD k 0)) ∧ w.frozen? ⟨g, k, none⟩ = false := by
 obtain ⟨b, off, e, _, hc⟩ := h.rd.int hk
 injection e with e
 injection e with e1 e2
 subst e1 e2
 rw [Nat.zero_add] at hc
 refine ⟨hc, ?_⟩
 rcases h.2 with ⟨hv, h0⟩ | ⟨g', cap, cur, hv, hbg, hg, _⟩
 ·cases hv
 ·injection hv with e1 e2 e3
  injection e1 with e1
  injection e1 with e1
  subst e1
  exact frozen_of_row w g k _ _ hg
theorem aH.setI {w : World} {B g n c k : Nat} {l : List Int} (h : aH IntE w B (.slice (some ⟨g, 0, none⟩) n c) l) (hk : k < n) (a : Int) : aH IntE (w.setCell ⟨g, k, none⟩ (.int .i64 a)) B (.slice (some ⟨g, 0, none⟩) n c) (l.set k a) := by
 have := h.store hk a
 rwa [show k * IntE.n = k from by show k * 1 = _; omega] at this
def secM (r p t k : Nat) : List Int := (List.range t).map fun j => if j < k then bK r (p + j) else (((p + j) % r : Nat) : Int)
def secX (r p t : Nat) : List Int := (List.range t).map fun j => bK r (p + j)
theorem secM_len (r p t k : Nat) : (secM r p t k).length = t := by simp [secM]
theorem secX_len (r p t : Nat) : (secX r p t).length = t := by simp [secX]
theorem secM_0 (r p t : Nat) : secM r p t 0 = secL (r : Int) (p : Int) t := by
 apply List.ext_getElem
 ·simp [secM, secL]
 ·intro j h1 h2
  have := secL_at_ (r := r) (t := p) (n := t) (j := j) (by simpa [secM] using h1)
  rw [List.getD, List.getElem?_eq_getElem h2, Option.getD_some] at this
  rw [this]
  simp [secM]
theorem secM_all (r p t : Nat) : secM r p t t = secX r p t := by
 unfold secM secX
 exact List.map_congr_left fun j hj => if_pos (List.mem_range.1 hj)
theorem secM_at {r p t k : Nat} (hk : k < t) : (secM r p t k).getD k 0 = (((p + k) % r : Nat) : Int) := by
 unfold secM
 rw [List.getD, List.getElem?_map, List.getElem?_range hk]
 simp
theorem secM_set {r p t k : Nat} (hk : k < t) : (secM r p t k).set k (bK r (p + k)) = secM r p t (k + 1) := by
 apply List.ext_getElem
 ·simp [secM]
 ·intro j h1 h2
  rw [List.getElem_set]
  simp only [secM, List.getElem_map, List.getElem_range]
  by_cases e : k = j
  ·subst e; rw [if_pos rfl, if_pos (by omega)]
  ·rw [if_neg e]
   by_cases e2 : j < k
   ·rw [if_pos e2, if_pos (by omega)]
   ·rw [if_neg e2, if_neg (by omega)]
theorem secX_at {r p t k : Nat} (hk : k < t) : (secX r p t).getD k 0 = bK r (p + k) := by
 unfold secX
 rw [List.getD, List.getElem?_map, List.getElem?_range hk]
 rfl
section
variable {p q N : Nat} {v : Value} {x : LgS} {M : BenS}
set_option maxHeartbeats 1600000 in
theorem plsectors (w : World) (y : Nte) (h : PLg w p q v x) (hy : 1 ≤ y.cells ∧ y.cells ≤ 32) (hs : 40 ≤ x.size ∧ x.size ≤ 256) (hp : y.pos + bc y ≤ 4611686018427387904) : Calls Tryz.prog 122 #[.pointer (some ⟨p, 0, none⟩), nte y] w fun e w' => ∃ r, e = .returned (.tuple #[r, .int .i64 0]) ∧ aH IntE w' w.heap.size r (secX x.size y.pos (bc y)) ∧ Below w.heap.size w w' := by
 have htk : 2 ≤ bc y ∧ bc y ≤ 34 := by unfold bc hd; omega
 have HZ := af (sz_tak hy)
 have HLS := af (lis_in (r := (x.size : Int)) (t := (y.pos : Int)) (n := bc y) (lis_iff.2 ⟨by omega, by omega, by omega, by omega, by omega, by omega⟩))
 have HSZ := af hs
 have HTK := af htk
 have HPB : Hid (y.pos ≤ 4611686018427387904) := af (by omega)
 obtain ⟨k1, k2, k3⟩ := dm w y
 have HY := af k1
 have HBW := af k2
 have HLE := af k3
 have HL := af (h.below k2)
 clear h hy hs hp htk k1 k2 k3
 go_enter Tryz.func122, Tryz.ntmps122
 go_upto_region 1 with (first | (refine ai rfl (cO rfl rfl) ?_) | fail)
 generalize w.alloc (.cells (aQ y).toArray 35) = w1 at *
 have hS : PLg w1.drew p q v x ∧ bI w1.drew w.heap.size y := ⟨HL.out.below (bd (Below.refl _ _)), HY.out.below HLE.out (bd (Below.refl _ _))⟩
 refine bH (fun w' => PLg w' p q v x ∧ bI w' w.heap.size y) 15 (by kernel_rfl) ?_
 change cF _ _ _ _ _ _ 16 _ _ w1.drew
 refine gu 0 rfl (fun w' hw => aj rfl (ev rfl)) hS ?_;simp only [aa]
 refine gu 1 rfl (fun w' hw => aB rfl (ev rfl)) hS ?_;simp only [aa]
 refine gu 2 rfl (fun w' hw => am rfl (ev rfl) eK) hS ?_;simp only [aa]
 refine gu 3 rfl (fun w' hw => am rfl (ev rfl) faQm1) hS ?_;simp only [aa]
 refine gu 4 rfl (fun w' hw => au rfl (ev rfl) (bj (PLg.c4 hw.1))) hS ?_;simp only [aa]
 refine gu 5 rfl (fun w' hw => am rfl (ev rfl) faNt1) hS ?_;simp only [aa]
 refine gu 6 rfl (fun w' hw => au rfl (ev rfl) (bL hw.2.cells.2.1)) hS ?_;simp only [aa]
 refine gu 7 rfl (fun w' hw => am rfl (ev rfl) faNt2) hS ?_;simp only [aa]
 refine gu 8 rfl (fun w' hw => au rfl (ev rfl) (bj hw.2.cells.2.2.1)) hS ?_;simp only [aa]
 refine cQ 9 rfl (by kernel_rfl) rfl (av Tryz.call121 rfl (evc (ev rfl) evn)) ?_
 refine (psz_v (k := bc y) HZ.out w1.drew).mono ?_
 rintro e w' ⟨rfl, rfl⟩
 refine ⟨_, rfl, fun _ => hS, ?_⟩
 simp only [aa]
 refine cQ 10 rfl (by kernel_rfl) rfl (av Tryz.call158 rfl (evc (ev rfl) (evc (ev rfl) (evc (ev rfl) evn)))) ?_
 refine (plis (x.size : Int) (y.pos : Int) (bc y : Int) w1.heap.size w1.drew (af rfl) (by omega) (by have := HPB.out; omega) (by omega) (by have := HTK.out.2; omega)).mono ?_
 rintro e w2 ⟨r, rfl, hm, hb⟩
 rw [HLS.out.1] at hm
 rw [HLS.out.2]
 have HB2 := af (show Below w1.heap.size w1 w2 from (bd (Below.refl w1.heap.size w1)).trans hb)
 have hS2 : PLg w2 p q v x ∧ bI w2 w.heap.size y := ⟨HL.out.below HB2.out, HY.out.below HLE.out HB2.out⟩
 refine ⟨_, rfl, fun _ => hS2, ?_⟩
 simp only [aa]
 refine gu 11 rfl (fun w' hw => aj rfl (ev rfl)) hS2 ?_;simp only [aa]
 refine gu 12 rfl (fun w' hw => aD rfl (ev rfl) rfl) hS2 ?_;simp only [aa]
 refine gu 13 rfl (fun w' hw => aD rfl (ev rfl) rfl) hS2 ?_;simp only [aa]
 refine gu 14 rfl (fun w' hw => aq rfl (ev rfl)) hS2 ?_;simp only [aa]
 refine bl 15 rfl (by kernel_rfl) rfl (aq rfl (ev rfl)) (fun e => absurd rfl e) ?_;simp only [aa]
 refine cm (by kernel_rfl) ?_ _
 rw [← secM_0] at hm
 have hm2 := hm
 obtain ⟨g, c, rfl, hbg, hg, hc1, hc2⟩ := hm.slice_ (by rw [secM_len]; have := HTK.out.1; omega)
 rw [secM_len] at hm hc1 ⊢
 have HM := af (hm.base (B' := w.heap.size) (by have := HLE.out; omega))
 have HGB : Hid (w1.heap.size ≤ g) := af hbg
 have HBB := af (HBW.out.trans (HB2.out.mono (by have := HLE.out; omega)))
 obtain ⟨t, ht⟩ : ∃ t, bc y = t := ⟨_, rfl⟩
 rw [ht] at HM HTK ⊢
 have HT := af ht
 clear ht hm hm2 hS hS2 hb hbg hg hc1 hc2 HZ HLS HL HY
 go_wp2_with fail
 go_loopw [25] (fun i wr => ∃ k : Nat, k ≤ t ∧ i = .int .i64 k ∧ aH IntE wr w.heap.size (.slice (some ⟨g, 0, none⟩) t c) (secM x.size y.pos t k) ∧ Below w.heap.size w wr) (fun i _ => t - (intOf i).toNat)
 case atStart => exact ⟨0, Nat.zero_le _, rfl, HM.out, HBB.out⟩
 case round =>
  clear HM HBB HB2
  obtain ⟨k, hk, rfl, hm, hb⟩ := hrel
  have ht34 := HTK.out.2
  by_cases hlt : k < t
  ·obtain ⟨hc, hf⟩ := hm.cellI hlt
   rw [secM_at hlt] at hc
   have hmod : (y.pos + k) % x.size < 256 := by have := Nat.mod_lt (y.pos + k) (show 0 < x.size by have := HSZ.out.1; omega); have := HSZ.out.2; omega
   have HAD : Hid (IntKind.i64.wrap ((((y.pos + k) % x.size : Nat) : Int) + 10) = bK x.size (y.pos + k)) := af (by unfold bK; rw [IntWalk.i64_in _ ⟨by omega, by omega⟩]; omega)
   have hm2 := hm.setI hlt (bK x.size (y.pos + k))
   rw [secM_set hlt] at hm2
   have HC := af hc
   have HF := af hf
   have HM2 := af hm2
   have HB2 : Hid (Below w.heap.size w (wr.setCell ⟨g, k, none⟩ (.int .i64 (bK x.size (y.pos + k))))) := af (below_setCells (o := k) hb (by have := HGB.out; have := HLE.out; omega) [_])
   clear hc hf hm hm2 hb hmod
   go_upto_region 5 with fail
   refine ag ?_
   refine ai rfl (aj rfl (ev rfl)) ?_;simp only [aa]
   refine ai rfl (aj rfl (ev rfl)) ?_;simp only [aa]
   refine ai rfl (exec_idxI rfl (ev rfl) (ev rfl) hlt) ?_;simp only [aa]
   refine ai rfl (au rfl (ev rfl) (bj HC.out)) ?_;simp only [aa]
   refine ai rfl (da rfl (ev rfl) evk HAD.out) ?_;simp only [aa]
   refine ai rfl (exec_idxI rfl (ev rfl) (ev rfl) hlt) ?_;simp only [aa]
   refine az rfl (exec_stI rfl (ev rfl) (ev rfl) HC.out HF.out) ?_;simp only [aa]
   refine ah ?_
   generalize wr.setCell ⟨g, k, none⟩ (.int .i64 (bK x.size (y.pos + k))) = wt at *
   go_wp2_with fail
   go_roundw
   case rel => exact ⟨k + 1, by omega, by go_num, HM2.out, HB2.out⟩
   case measure => simp [intOf]; omega
  ·have hkt : k = t := by omega
   rw [hkt, secM_all] at hm
   rw [hkt]
   clear hkt hk hlt
   have HM := af hm
   have HB := af hb
   clear hm hb
   go_wp2_with fail
   go_ret2
   exact ⟨_, rfl, by rw [HT.out]; exact HM.out, HB.out⟩
end
theorem run_bldZB (w : World) : (Instr.build 29 #[]).run Tryz.prog w = .ok (blk ap) w := by kernel_rfl
section
variable {K : Nat → Prop} {w w' : World} {p B : Nat} {s : Fv} {t : Stp} {v : Value} {l l' : List Fv} {ts : List Stp}
theorem StpAt.grow (h : StpAt K w p s t) (hm : aH FnE w B v l') (hg : w.grownBy w' v.ownBlock) : StpAt K w' p s t := by
 have key : ∀ {a : Nat} {cs : Array Value} {ty : TypeId}, w.heap[a]? = some (.cells cs ty (0, 0)) → FnE.t ≠ ty → w'.heap[a]? = some (.cells cs ty (0, 0)) := fun ha hne => (hg.block _ (aK ha) (fun e => hm.dc ha hne e.symm)).trans ha
 cases h with
 | fl => exact .fl
 | wr a b c n x ha hb hc ka kb kc => exact .wr a b c n x (key ha (by decide)) (key hb (by decide)) (key hc (by decide)) ka kb kc
 | mk a b c n m ha hb hc ka kb kc hn hf he => exact .mk a b c n m (key ha (by decide)) (key hb (by decide)) (key hc (by decide)) ka kb kc hn hf he
 | nt a b y ha hb ka kb hf he => exact .nt a b y (key ha (by decide)) (key hb (by decide)) ka kb hf he
theorem Stps.grow (hm : aH FnE w B v l') (hg : w.grownBy w' v.ownBlock) : ∀ {l : List Fv} {ts : List Stp}, Stps K w p l ts → Stps K w' p l ts
 | [], [], _ => trivial
 | _ :: _, _ :: _, h => ⟨h.1.grow hm hg, Stps.grow hm hg h.2⟩
structure Lay_ (B : Nat) (w0 w : World) (p : Nat) (v : Value) (ts : List Stp) : Prop where
 row : ∃ l, aH FnE w B v l ∧ Stps (Btw B w.heap.size) w p l ts
 bel : Below B w0 w
 le : B ≤ w0.heap.size
theorem Lay_.below {w0 : World} (h : Lay_ B w0 w p v ts) (hb : Below w.heap.size w w') : Lay_ B w0 w' p v ts := by
 obtain ⟨⟨l, h1, h2⟩, h3, h4⟩ := h
 exact ⟨⟨l, h1.below hb, h2.below (Nat.le_refl _) hb (Nat.le_refl _) hb.size⟩, h3.trans (hb.mono (Nat.le_trans h4 h3.size)), h4⟩
theorem Lay_.nil (w0 w : World) (hB : B ≤ w0.heap.size) (hb : Below B w0 w) : Lay_ B w0 w p (.slice none 0 0) [] := ⟨⟨[], aH.nil _ _, trivial⟩, hb, hB⟩
theorem Lay_.len {w0 : World} (h : Lay_ B w0 w p v ts) : ∃ l, aH FnE w B v l ∧ Stps (Btw B w.heap.size) w p l ts ∧ l.length = ts.length := by
 obtain ⟨⟨l, h1, h2⟩, _⟩ := h
 exact ⟨l, h1, h2, h2.len⟩
theorem gd {w0 : World} {ops : Array Oper} {rest : List Oper} {o : Oper} {a : Act} {Q : Exit → Act → World → Prop} (hgd : o.guard = none) (x y : Operand)
  (ho : o.op = .call { callee := .builtin .append, args := #[x, y], argTypes := #[82, 82] }) (N m c : Nat) (A : Option Addr) {ls : List Fv} {ts' : List Stp} (hx : a.eval x = v) (hy : a.eval y = .slice A m c)
  (h : Lay_ B w0 w p v ts) (hs : Stps (Btw B w.heap.size) w p ls ts') (hr : RdE FnE w N A m ls) (hn : ts.length + m ≤ 1000000)
  (hk : ∀ v' w', Lay_ B w0 w' p v' (ts ++ ts') → w.grownBy w' v.ownBlock → wpList Tryz.prog ops Q rest (a.put o.dst v') w') : wpList Tryz.prog ops Q (o :: rest) a w := by
 obtain ⟨l, h1, h2, h3⟩ := h.len
 refine wpList_appE FnE hgd x y ho B N m c v l ls A hx hy h1 hr (Nat.le_trans h.le h.bel.size) (by omega) fun v' w' e1 e2 => hk v' w' ?_ e2
 obtain ⟨⟨l0, _, _⟩, h5, h6⟩ := h
 have hK : ∀ b, Btw B w.heap.size b → Btw B w'.heap.size b := fun b hb => ⟨hb.1, Nat.lt_of_lt_of_le hb.2 e2.size⟩
 exact ⟨⟨l ++ ls, e1, ((Stps.grow h1 e2 h2).append (Stps.grow h1 e2 hs)).keep_ (fun _ _ => rfl) hK⟩, h5.grown e2 (Nat.le_trans h6 h5.size) (fun k hk => h1.lt_own k hk), h6⟩
theorem rdF_new1 (w : World) (s : Fv) : RdE FnE (w.alloc (.cells (FnE.cel s).toArray 134)) (w.heap.size + 1) (some ⟨w.heap.size, 0, none⟩) 1 [s] := eF (E := FnE) (l := [s]) w #[s.val] 134 rfl
theorem one_step (h : StpAt K w p s t) : Stps K w p [s] [t] := ⟨h, trivial⟩
end
set_option maxHeartbeats 1600000 in
theorem plblanking (w : World) (p : Nat) : Calls Tryz.prog 100 #[.pointer (some ⟨p, 0, none⟩)] w fun e w' => ∃ r, e = .returned r ∧ Lay_ w.heap.size w w' p r zerT := by
 have HB0 := af (Below.refl w.heap.size w)
 go_enter Tryz.func100, Tryz.ntmps100
 go_wp2_with fail
 go_loopw [3, 5] (fun v i wr => ∃ k : Nat, k ≤ 10 ∧ i = .int .i64 k ∧ Lay_ w.heap.size w wr p v (zerT.take k)) (fun _ i _ => 10 - (intOf i).toNat)
 case atStart => exact ⟨0, Nat.zero_le _, rfl, Lay_.nil w w (Nat.le_refl _) HB0.out⟩
 case round =>
  obtain ⟨k, hk, rfl, hl⟩ := hrel
  by_cases hlt : k < 10
  ·have HL := af hl
   have HTK := af (zer_take hlt)
   clear hl
   go_upto_region 5 with fail
   refine ag ?_
   iterate 3 (refine ai rfl (aj rfl (ev rfl)) ?_;simp only [aa])
   refine ai rfl (exec_bld0 rfl (run_bldZB _)) ?_;simp only [aa]
   refine ar rfl (av Tryz.call123 rfl (evc (ev rfl) (evc (ev rfl) (evc (ev rfl) evn)))) ?_
   refine (pwriting (k : Int) ap).mono ?_
   rintro e w2 ⟨s, rfl, hs, hb⟩
   have HL2 := af (HL.out.below hb)
   have HS2 := af (hs.below (B' := w.heap.size) (C' := w2.heap.size) (Nat.le_refl _) (Below.refl _ _) HL.out.bel.size (Nat.le_refl _))
   clear hs hb
   refine ⟨_, rfl, ?_⟩
   simp only [aa]
   refine ai rfl (du (E := FnE) (a := s) rfl (ev rfl) rfl (by show 1 ≤ _; omega)) ?_;simp only [aa]
   have HL3 := af (HL2.out.below ((Below.refl w2.heap.size w2).alloc (Nat.le_refl _) (.cells (FnE.cel s).toArray 134)))
   have HS3 := af (one_step (HS2.out.below (Nat.le_refl _) ((Below.refl w2.heap.size w2).alloc (Nat.le_refl _) (.cells (FnE.cel s).toArray 134)) (Nat.le_refl _) ((Below.refl w2.heap.size w2).alloc (Nat.le_refl _) (.cells (FnE.cel s).toArray 134)).size))
   change wpList _ _ _ _ _ (w2.alloc (.cells (FnE.cel s).toArray 134))
   refine gd rfl _ _ rfl (w2.heap.size + 1) 1 1 (some ⟨w2.heap.size, 0, none⟩) rfl rfl HL3.out HS3.out (rdF_new1 w2 s) (by rw [List.length_take]; omega) ?_
   intro v' w4 hl4 hg4
   simp only [aa]
   refine ai rfl (aq rfl (ev rfl)) ?_;simp only [aa]
   refine ah ?_
   rw [← HTK.out] at hl4
   have HL4 := af hl4
   clear hl4 hg4
   go_wp2_with fail
   go_roundw
   case rel => exact ⟨k + 1, by omega, by go_num, HL4.out⟩
   case measure => simp [intOf]; omega
  ·have hkt : k = 10 := by omega
   subst hkt
   have HL := af hl
   clear hl
   go_wp2_with fail
   go_ret
   exact ⟨_, rfl, HL.out⟩
theorem recT_len (r p : Nat) (l : List Blk) : (recT r p l).length = l.length := by simp [recT]
theorem recT_take {r p k : Nat} {l : List Blk} (h : k < l.length) : (recT r p l).take (k + 1) = (recT r p l).take k ++ [.wr (bK r (p + k)) (l.getD k ap)] := by
 rw [List.take_add_one]
 congr 1
 unfold recT
 rw [List.getElem?_map, List.getElem?_range h]
 rfl
theorem recT_all {r p : Nat} {l : List Blk} : (recT r p l).take l.length = recT r p l := List.take_of_length_le (by rw [recT_len]; exact Nat.le_refl _)
set_option maxHeartbeats 1600000 in
theorem pllaying {p q : Nat} {v : Value} {x : LgS} (w : World) (y : Nte) (A : Option Addr) (n c N0 : Nat) (R : List Blk) (h : PLg w p q v x) (hy : 1 ≤ y.cells ∧ y.cells ≤ 32) (hs : 40 ≤ x.size ∧ x.size ≤ 256) (hp : y.pos + bc y ≤ 4611686018427387904) (hR : RdB w N0 A n R) (hN0 : N0 ≤ w.heap.size) (hn : bc y = n) : Calls Tryz.prog 85 #[.pointer (some ⟨p, 0, none⟩), nte y, .slice A n c] w fun e w' => ∃ r, e = .returned r ∧ Lay_ w.heap.size w w' p r (recT x.size y.pos R) := by
 have htk : 2 ≤ bc y ∧ bc y ≤ 34 := by unfold bc hd; omega
 have HN : Hid (2 ≤ n ∧ n ≤ 34) := af (by omega)
 have HRL : Hid (R.length = n) := af hR.1
 have HNT := af hn
 have HRR := af hR
 have HN0 := af hN0
 have HLE0 := af (Nat.le_refl w.heap.size)
 obtain ⟨k1, k2, k3⟩ := dm w y
 have HY := af k1
 have HBW := af k2
 have HLE := af k3
 have HC := af (plsectors (w.alloc (.cells (aQ y).toArray 35)) y (h.below k2) hy hs hp)
 clear h hy hs hp htk k1 k2 k3 hR hn hN0
 go_enter Tryz.func85, Tryz.ntmps85
 go_upto_region 1 with (first | (refine ai rfl (cO rfl rfl) ?_) | fail)
 generalize w.alloc (.cells (aQ y).toArray 35) = w1 at *
 refine ag ?_
 refine ai rfl (aj rfl (ev rfl)) ?_;simp only [aa]
 refine ai rfl (bh (c := y) rfl (ev rfl) HY.out.range) ?_;simp only [aa]
 refine ar rfl (av Tryz.call122 rfl (evc (ev rfl) (evc (ev rfl) evn))) ?_
 refine HC.out.mono ?_
 rintro e w2 ⟨r, rfl, hm, hb⟩
 rw [HNT.out] at hm
 refine ⟨_, rfl, ?_⟩
 simp only [aa]
 refine ai rfl (aj rfl (ev rfl)) ?_;simp only [aa]
 refine ai rfl (aD rfl (ev rfl) rfl) ?_;simp only [aa]
 refine ai rfl (aD rfl (ev rfl) rfl) ?_;simp only [aa]
 refine ai rfl (aq rfl (ev rfl)) ?_;simp only [aa]
 refine ai rfl (aq rfl (ev rfl)) ?_;simp only [aa]
 refine ah ?_
 obtain ⟨g, c1, rfl, hbg, hg, hc1, hc2⟩ := hm.slice_ (by rw [secX_len]; have := HN.out.1; omega)
 rw [secX_len] at hm hc1 ⊢
 have HM := af (hm.base (B' := w.heap.size) (by have := HLE.out; omega))
 have HBB := af (HBW.out.trans (hb.mono (by have := HLE.out; omega)))
 clear hm hb hbg hg hc1 hc2 HC HY HBW
 go_wp2_with fail
 go_loopw [9, 20] (fun v i wr => ∃ k : Nat, k ≤ n ∧ i = .int .i64 k ∧ Lay_ w.heap.size w wr p v ((recT x.size y.pos R).take k) ∧ aH IntE wr w.heap.size (.slice (some ⟨g, 0, none⟩) n c1) (secX x.size y.pos n)) (fun _ i _ => n - (intOf i).toNat)
 case atStart => exact ⟨0, Nat.zero_le _, rfl, Lay_.nil w _ HLE0.out HBB.out, HM.out⟩
 case round =>
  clear HM HBB
  obtain ⟨k, hk, rfl, hl, hm⟩ := hrel
  have hn34 := HN.out.2
  by_cases hlt : k < n
  ·obtain ⟨hc, _⟩ := hm.cellI hlt
   rw [secX_at hlt] at hc
   obtain ⟨gb, off, hA, hgb, hrg⟩ := ((HRR.out.more HN0.out).below hl.bel).2 k hlt
   subst hA
   have HIX := af hc
   have HRG := af hrg
   have HL := af hl
   have HM := af hm
   have HTK := af (recT_take (r := x.size) (p := y.pos) (l := R) (k := k) (by rw [HRL.out]; exact hlt))
   clear hl hm hc hgb hrg
   go_upto_region 5 with fail
   refine ag ?_
   refine ai rfl (aj rfl (ev rfl)) ?_;simp only [aa]
   refine ai rfl (exec_idxI rfl (ev rfl) (ev rfl) hlt) ?_;simp only [aa]
   refine ai rfl (au rfl (ev rfl) (bj HIX.out)) ?_;simp only [aa]
   refine ai rfl (aq rfl (ev rfl)) ?_;simp only [aa]
   refine ai rfl (aq rfl (ev rfl)) ?_;simp only [aa]
   refine ah ?_
   go_upto_region 6 with fail
   refine ag ?_
   iterate 5 (refine ai rfl (aj rfl (ev rfl)) ?_;simp only [aa])
   refine ai rfl (dD rfl (ev rfl) (ev rfl) hlt) ?_;simp only [aa]
   refine ai rfl (aS (c := R.getD k ap) rfl (ev rfl) HRG.out) ?_;simp only [aa]
   refine ar rfl (av Tryz.call123 rfl (evc (ev rfl) (evc (ev rfl) (evc (ev rfl) evn)))) ?_
   refine (pwriting (bK x.size (y.pos + k)) (R.getD k ap)).mono ?_
   rintro e w2 ⟨s, rfl, hs, hb⟩
   have HL2 := af (HL.out.below hb)
   have HM2 := af (HM.out.below hb)
   have HS2 := af (hs.below (B' := w.heap.size) (C' := w2.heap.size) (Nat.le_refl _) (Below.refl _ _) HL.out.bel.size (Nat.le_refl _))
   clear hs hb
   refine ⟨_, rfl, ?_⟩
   simp only [aa]
   refine ai rfl (du (E := FnE) (a := s) rfl (ev rfl) rfl (by show 1 ≤ _; omega)) ?_;simp only [aa]
   have HL3 := af (HL2.out.below ((Below.refl w2.heap.size w2).alloc (Nat.le_refl _) (.cells (FnE.cel s).toArray 134)))
   have HM3 := af (HM2.out.below ((Below.refl w2.heap.size w2).alloc (Nat.le_refl _) (.cells (FnE.cel s).toArray 134)))
   have HS3 := af (one_step (HS2.out.below (Nat.le_refl _) ((Below.refl w2.heap.size w2).alloc (Nat.le_refl _) (.cells (FnE.cel s).toArray 134)) (Nat.le_refl _) ((Below.refl w2.heap.size w2).alloc (Nat.le_refl _) (.cells (FnE.cel s).toArray 134)).size))
   change wpList _ _ _ _ _ (w2.alloc (.cells (FnE.cel s).toArray 134))
   refine gd rfl _ _ rfl (w2.heap.size + 1) 1 1 (some ⟨w2.heap.size, 0, none⟩) rfl rfl HL3.out HS3.out (rdF_new1 w2 s) (by rw [List.length_take]; omega) ?_
   intro v' w4 hl4 hg4
   simp only [aa]
   refine ai rfl (aq rfl (ev rfl)) ?_;simp only [aa]
   refine ah ?_
   rw [← HTK.out] at hl4
   have HL4 := af hl4
   obtain ⟨l3, hl31, _⟩ := HL3.out.len
   have HM4 := af (HM3.out.kept hg4 (HM3.out.other hl31 (by decide)))
   clear hl4 hg4 hl31
   go_wp2_with fail
   go_roundw
   case rel => exact ⟨k + 1, by omega, by go_num, HL4.out, HM4.out⟩
   case measure => simp [intOf]; omega
  ·have hkt : k = n := by omega
   rw [hkt, ← HRL.out, recT_all] at hl
   have HL := af hl
   clear hl hm
   go_wp2_with fail
   go_ret
   exact ⟨_, rfl, HL.out⟩
end Go.Proofs.YtbbcdhkinbmdnaaGreatDoor
