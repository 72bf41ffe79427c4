import Derived.Test.YtehefifamaofkaaGreatDoorGnag
namespace Go.Proofs.YtehefifamaofkaaGreatDoor
set_option maxHeartbeats 8000000
open Go.Proofs.Tryz
open Go.RowKit
set_option linter.unusedVariables false
set_option linter.unusedSimpArgs false
set_option maxRecDepth 100000
section
variable {C : la} {w0 w w' : World} {B q p : Nat} {K K' : Nat -> Prop} {h h' : HuS}
theorem HAt.gat (I : sm C.R) (a : HAt C w0 B K w q p h) {x : Fnd} {e : Int} (hx : glF h.M = x) (he : glE h.M = e) : Calls prog 20 #[.pointer (some ⟨q, 0, none⟩)] w fun r w' => r = .returned (.tuple #[fnd x, .int .i64 e]) /\ Below w.heap.size w w' := by
 subst hx he;obtain ⟨G, h1, h2, h3, h4, h5⟩ := a;obtain ⟨Gb, b1, _⟩ := C.ben h1;exact I.look b1 (h4.tab h3)
end
section
variable {P : oN} {w0 w w' : World} {B p : Nat} {M : aJ}
theorem PAt.tab (a : PAt P w0 B w p M) : Tab w := by
 obtain ⟨F, h1, h2, h3, h4⟩ := a;exact h4.tab h3
theorem PAt.gat (I : sm P) (a : PAt P w0 B w p M) {x : Fnd} {e : Int} (hx : glF M = x) (he : glE M = e) : Calls prog 20 #[.pointer (some ⟨p, 0, none⟩)] w fun r w' => r = .returned (.tuple #[fnd x, .int .i64 e]) /\ Below w.heap.size w w' := by
 subst hx he;have T := a.tab;obtain ⟨F, h1, _⟩ := a;exact I.look h1 T
theorem PAt.sup (I : sm P) (d : Int) (a : PAt P w0 B w p M) {x : Sup} {n : Nat} {e : Int} (hn : gaN M d = n) (hx : gaS M d = x) (he : gaE M d = e) : Calls prog 18 #[.pointer (some ⟨p, 0, none⟩), .int .i64 d] w fun r w' => r = .returned (.tuple #[.int .u64 (n : Int), sup x, .int .i64 e]) /\ Below w.heap.size w w' := by
 subst hn hx he;have T := a.tab;obtain ⟨F, h1, _⟩ := a;exact I.super d h1 T
end
theorem xz (N : Nat) (d : Int) : gaN (b9 (szK N 4)) d = 0 /\ gaS (b9 (szK N 4)) d = bg := lR (by rw [(ui N d).1]; decide)
theorem rr (C : la) (I : sm C.R) (w : World) (T : Tab w) : Calls prog 23 #[] w fun e w' => e = .returned (.bool true) /\ Below w.heap.size w w' := by
 obtain ⟨z0, hz0⟩ : ∃ z0 : HuS, (⟨b9 (szK 3 4), 9, 0, neR 3 4⟩ : HuS) = z0 := ⟨_, rfl⟩;obtain ⟨M', hs1, hs2, l1, l2, l3, R2, l4, l5⟩ := xL;rw [hz0] at hs1 hs2;obtain ⟨M0, hm0⟩ : ∃ M0, b9 (szK 3 4) = M0 := ⟨_, rfl⟩;have hr : HR 60 z0 := by rw [<- hz0]; exact HR.new (by omega) (by omega) (by omega) (by omega) (by omega) 9
 have hg := ui 3 3;have hgz := xz 3 3;have hzM : z0 = ⟨M0, 9, 0, neR 3 4⟩ := by rw [<- hz0, hm0]
 rw [hm0] at hg hgz;have HT := ae T;have HM0 := ae hm0;have HZM := ae hzM;have HRM : Hid (Room z0.M 600 /\ z0.ev <= 4611686018427387000) := ae (HR.hrm (k := 59) hr);have HS1 := ae hs1;have HS2 := ae hs2;have HL := ae (And.intro l1 (And.intro l2 (And.intro l3 (And.intro l4 l5))));have HG := ae hg;have HGZ := ae hgz;have HNW := ae (yy (N := 3) (s := 4) (by omega) (by omega) (by omega));have HH : Hid (jJ M0 9 0 (neR 3 4) = true) := ae (by rw [<- hm0]; exact wL (N := 3) (s := 4) (by omega) (by omega) (by omega) (ev := 0) (by omega));have HST : Hid (((stN (neR 3 4) : Nat) : Int) = 1) := ae (by decide +kernel);clear T hz0 hs1 hs2 l1 l2 l3 l4 l5 hr hg hgz hm0 hzM;go_enter func23, ntmps23;go_upto_region 0 with fail;refine cq 1 ?_;go_upto_region 1 with fail;refine af ?_;refine ay rfl (aB call7 rfl (evc evk evn)) ?_;refine (un C.R 3 w HT (by omega) (by omega)).mono ?_;rintro e w1 ⟨p, q, rfl, a1⟩;rw [HM0.out] at a1;have HA1 := ae a1;clear a1;refine br ?_;refine runs 3 ?_;refine runs 3 ?_;refine aK 1 ?_;go_upto_region 2 with fail;refine af ?_;refine aa3 (nz rfl evk evk evk) ?_;refine ay rfl (aB call26 rfl (evc abd evn)) ?_;rw [show Value.agg #[Value.int .i64 3, Value.int .i64 4, Value.int .i64 40] = geo (neR 3 4) from rfl];refine (zg (x := neR 3 4) (w := w1) HNW.out.1 HNW.out.2).mono ?_;rintro e w2 ⟨rfl, b_⟩;have HA2 := ae (HA1.out.below b_);clear b_;refine br ?_;refine runs 3 ?_;refine aa3 (cr rfl) ?_;refine az rfl (lL rfl (ev rfl) (ev rfl)) ?_;simp only [aa];have hx := (Below.refl w2.heap.size w2).alloc ai (.cells (aQ (neR 3 4)).toArray 35);have HX3 := ae (bw.new w2 (neR 3 4));have HA3 := ae (HA2.out.below hx);clear hx;obtain ⟨b4, hb4⟩ : ∃ b4, w2.heap.size = b4 := ⟨_, rfl⟩;rw [hb4] at HX3 ⊢;clear hb4;generalize w2.alloc (.cells (aQ (neR 3 4)).toArray 35) = w3 at *;refine aK 1 ?_;go_upto_region 3 with fail;refine bj 3 ?_;refine runs 1 ?_;refine aba (aT false rfl abd evk rfl) ?_;refine aK 1 ?_;go_upto_region 5 with fail;refine bj 1 ?_;refine ay rfl (aB call20 rfl (evc abd evn)) ?_;refine (HA3.out.gat I HG.out.2.2 HG.out.2.1).mono ?_;rintro e w4 ⟨rfl, b_⟩;have HA4 := ae (HA3.out.below b_);have HX4 := ae (HX3.out.below (aX HX3) b_);clear b_;refine br ?_;refine runs 3 ?_;refine aa3 (cU rfl) ?_;refine az rfl (eh (c := bP) rfl (ev rfl) (ev rfl)) ?_;simp only [aa];have hx := (Below.refl w4.heap.size w4).alloc ai (.cells (bN bP).toArray 50);have HA5 := ae (HA4.out.below hx);have HX5 := ae (HX4.out.below (aX HX4) hx);clear hx;generalize w4.alloc (.cells (bN bP).toArray 50) = w5 at *;refine aK 1 ?_;go_upto_region 6 with fail;refine bj 1 ?_;refine ay rfl (aB call18 rfl (evc abd (evc evk evn))) ?_;refine (HA5.out.sup I 3 HGZ.out.1 HGZ.out.2 HG.out.1).mono ?_;rintro e w6 ⟨rfl, b_⟩;have HA6 := ae (HA5.out.below b_);have HX6 := ae (HX5.out.below (aX HX5) b_);clear b_;refine br ?_;refine runs 3 ?_;refine runs 1 ?_;refine aa3 (bk rfl) ?_;refine runs 1 ?_;refine az rfl (cm (c := bg) rfl (ev rfl) (ev rfl)) ?_;simp only [aa];have hx := (Below.refl w6.heap.size w6).alloc ai (.cells (aS bg).toArray 37);have HA7 := ae (HA6.out.below hx);have HX7 := ae (HX6.out.below (aX HX6) hx);clear hx;generalize w6.alloc (.cells (aS bg).toArray 37) = w7 at *;refine aK 1 ?_;go_upto_region 7 with fail;refine bj 1 ?_;refine aa3 (bn rfl abd HX7.out.range) ?_;refine ay rfl (aB call27 rfl (evc abd (evc evk (evc evk (evc abd evn))))) ?_;obtain ⟨F7, f1, f4, f5, f6⟩ := HA7.out;refine (C.new_ 9 0 (neR 3 4) (by omega) (by omega) f1).mono ?_;rintro e w8 ⟨b8, h8⟩;obtain ⟨_, t, G, rfl, j8, g8⟩ | ⟨h8, _⟩ := h8;rotate_left 1
 ·exact absurd (HH.out.symm.trans h8) (by decide)
 have HU8 : Hid (HAt C w w.heap.size (fun _ => False) w8 p t z0) := ae ⟨G, by rw [HZM.out]; exact j8, fun b hb => by
  rcases g8 b hb with e | e
  ·exact f4 b e
  ·exact ap f5.size e, f5.trans (b8.mono f5.size), f6, fun b e => e.elim⟩
 clear f1 f4 f5 f6 b8 j8 g8 HA1 HA2 HA3 HA4 HA5 HA6 HA7 HX3 HX4 HX5 HX6 HX7;refine br ?_;refine runs 3 ?_;refine aK 2 ?_;go_upto_region 8 with fail;refine bj 1 ?_;refine aa3 (aT false rfl abd evk rfl) ?_;refine runs 2 ?_;refine aba (aT false rfl abd evk rfl) ?_;refine runs 3 ?_;refine aba (aT false rfl abd evk rfl) ?_;refine runs 3 ?_;refine ay aaY (aB call28 rfl (evc abd evn)) ?_;refine (HU8.out.save HRM.out.1 HRM.out.2 HS1).mono ?_;rintro e w9 ⟨rfl, a_, _⟩;rw [HS1.out];rw [HS2.out] at a_;have HU9 := ae a_;clear a_ HU8;refine br ?_;refine aba (aT false rfl abd evk rfl) ?_;refine aK 1 ?_;go_upto_region 10 with fail;refine bj 1 ?_;refine ay rfl (aB call20 rfl (evc abd evn)) ?_;refine (HU9.out.gat I HL.out.2.1 HL.out.1).mono ?_;rintro e w10 ⟨rfl, b_⟩;have HU10 := ae (HU9.out.below b_);clear b_ HU9;refine br ?_;refine runs 3 ?_;refine aa3 (cU rfl) ?_;refine az rfl (eh (c := ⟨1, 9, neR 3 4⟩) rfl (ev rfl) (ev rfl)) ?_;simp only [aa];have hx := (Below.refl w10.heap.size w10).alloc ai (.cells (bN ⟨1, 9, neR 3 4⟩).toArray 50);have HP11 : Hid (dS _ _ ⟨1, 9, neR 3 4⟩) := ae (heap_alloc_new w10 (.cells (bN ⟨1, 9, neR 3 4⟩).toArray 50));have hsz : (w10.alloc (.cells (bN ⟨1, 9, neR 3 4⟩).toArray 50)).heap.size = w10.heap.size + 1 := ak;have HU11 := ae (HU10.out.guard (K' := fun b => b = w10.heap.size) hx fun b e => .inr ⟨by omega, by omega⟩);obtain ⟨b13, hb13⟩ : ∃ b, w10.heap.size = b := ⟨_, rfl⟩;rw [hb13] at HP11 HU11 ⊢;clear hx hsz hb13 HU10;generalize w10.alloc (.cells (bN ⟨1, 9, neR 3 4⟩).toArray 50) = w11 at *;refine aK 1 ?_;go_upto_region 11 with fail;refine bj 1 ?_;refine ay rfl (aB call11 rfl (evc abd (evc evk evn))) ?_;refine (HU11.out.ben fun hb => C.R.fail 0 hb).mono ?_;rintro e w12 ⟨rfl, a_, k_⟩;have HU12 : Hid (HAt C w w.heap.size (fun b => b = b13) w12 p t ⟨fZ M' 0, 9, 1, neR 3 4⟩) := ae a_;have HP12 : Hid (dS w12 b13 ⟨1, 9, neR 3 4⟩) := ae (k_.at_ rfl HP11);clear a_ k_ HU11 HP11;refine br ?_;refine ag ?_;go_upto_region 12 with fail;refine bj 1 ?_;refine ay rfl (aB call20 rfl (evc abd evn)) ?_;refine (HU12.out.gat I HL.out.2.2.2.1 HL.out.2.2.1).mono ?_;rintro e w13 ⟨rfl, b_⟩;have HU13 := ae (HU12.out.below b_);have HP13 : Hid (dS w13 b13 ⟨1, 9, neR 3 4⟩) := ae (aC HP12 b_);clear b_ HU12 HP12;refine br ?_;refine runs 3 ?_;refine aa3 (cU rfl) ?_;refine az rfl (eh (c := ⟨1, 9, R2⟩) rfl (ev rfl) (ev rfl)) ?_;simp only [aa];have hx := (Below.refl w13.heap.size w13).alloc ai (.cells (bN ⟨1, 9, R2⟩).toArray 50);have HQ14 : Hid (dS _ _ ⟨1, 9, R2⟩) := ae (heap_alloc_new w13 (.cells (bN ⟨1, 9, R2⟩).toArray 50));have HU14 := ae (HU13.out.below hx);have HP14 : Hid (dS _ b13 ⟨1, 9, neR 3 4⟩) := ae (aC HP13 hx);clear hx HU13 HP13;generalize w13.alloc (.cells (bN ⟨1, 9, R2⟩).toArray 50) = w14 at *;refine aK 1 ?_;go_upto_region 13 with fail;refine bj 1 ?_;refine aa3 (aE true rfl abd evk rfl) ?_;refine runs 1 ?_;refine aba (ax rfl abd aag) ?_;refine aba (aF rfl abd (cX HP14.out.cells.1)) ?_;refine aba (aE true rfl abd evk rfl) ?_;refine runs 2 ?_;refine aba (ax rfl abd o7) ?_;refine aba (aF rfl abd (cX HP14.out.cells.2)) ?_;refine aba (aE true rfl abd evk rfl) ?_;refine runs 2 ?_;refine aba (ax rfl abd mg) ?_;refine aba (bn rfl abd HP14.out.mM) ?_;refine ay aaY (aB call64 rfl (evc abd evn)) ?_;refine (uh (neR 3 4) w14).mono ?_;rintro e w15 ⟨rfl, b_⟩;have HU15 := ae (HU14.out.below b_);have HQ15 : Hid (dS w15 _ ⟨1, 9, R2⟩) := ae (aC HQ14 b_);clear b_ HU14 HQ14;refine br ?_;refine aba (aE true rfl abd evk (by rw [HST.out]; rfl)) ?_;refine runs 3 ?_;refine aba (aE true rfl abd evk rfl) ?_;refine runs 2 ?_;refine aba (ax rfl abd mg) ?_;refine aba (bn rfl abd HQ15.out.mM) ?_;refine ay aaY (aB call64 rfl (evc abd evn)) ?_;refine (uh R2 w15).mono ?_;rintro e w16 ⟨rfl, b_⟩;have HU16 := ae (HU15.out.below b_);clear b_ HU15;refine br ?_;refine aba (aE true rfl abd evk (by rw [HL.out.2.2.2.2]; rfl)) ?_;refine aK 2 ?_;go_wp2_with fail;go_ret;exact ⟨rfl, HU16.out.bel⟩
def lW (C : la) (w : World) (v : Value) : Prop := v = .pointer none \/ ∃ b, v = .pointer (some ⟨b, 0, none⟩) /\ w.heap[b]? = some (.cells C.zb.toArray 75 (0, 0))
theorem lW.below {C : la} {w w' : World} {v : Value} (h : lW C w v) (k : Below w.heap.size w w') : lW C w' v := by
 rcases h with h | ⟨b, h1, h2⟩
 ·exact .inl h
 ·exact .inr ⟨b, h1, aC h2 k⟩
structure zK (C : la) : Prop where
 no_super : ∀ (w : World) (v : Value) (d : Int), lW C w v -> Calls prog 18 #[v, .int .i64 d] w fun e w' => (∃ (n : Nat) (s : Sup), e = .returned (.tuple #[.int .u64 (n : Int), sup s, .int .i64 1])) /\ Below w.heap.size w w'
 no_look : ∀ (w : World) (v : Value), lW C w v -> Calls prog 20 #[v] w fun e w' => (∃ f : Fnd, e = .returned (.tuple #[fnd f, .int .i64 1])) /\ Below w.heap.size w w'
theorem yx (C : la) (I : sm C.R) (J : zK C) (d : Int) (z : Bool) (w : World) (T : Tab w) : Calls prog 6 #[.int .i64 d, .bool z] w fun e w' => e = .returned (.bool true) /\ Below w.heap.size w w' := by
 have HT := ae T;clear T;go_enter func6, ntmps6;go_upto_region 0 with fail;refine cq 1 ?_;go_upto_region 1 with fail;refine cq 1 ?_;cases z
 ·go_upto_region 2 with fail;refine cq 1 ?_;have HB1 : Hid (Below w.heap.size w w) := ae aj;have HN1 : Hid (lW C w (.pointer none)) := ae (.inl rfl);go_upto_region 4 with fail;refine bj 2 ?_;refine ay rfl (aB call18 rfl (evc abd (evc abd evn))) ?_;refine (J.no_super _ _ d HN1).mono ?_;rintro e w2 ⟨⟨n, s, rfl⟩, b_⟩;have HB2 := ae (HB1.out.trans (b_.mono HB1.out.size));have HN2 := ae (HN1.out.below b_);clear b_;refine br ?_;refine runs 3 ?_;refine runs 1 ?_;refine aa3 (bk rfl) ?_;refine runs 1 ?_;refine az rfl (cm (c := s) rfl (ev rfl) (ev rfl)) ?_;simp only [aa];have hx := (Below.refl w2.heap.size w2).alloc ai (.cells (aS s).toArray 37);have HB3 := ae (HB2.out.trans (hx.mono HB2.out.size));have HN3 := ae (HN2.out.below hx);clear hx;generalize w2.alloc (.cells (aS s).toArray 37) = w3 at *;refine aK 1 ?_;go_upto_region 5 with fail;refine bj 1 ?_;refine ay rfl (aB call20 rfl (evc abd evn)) ?_;refine (J.no_look _ _ HN3).mono ?_;rintro e w4 ⟨⟨f, rfl⟩, b_⟩;have HB4 := ae (HB3.out.trans (b_.mono HB3.out.size));have HN4 := ae (HN3.out.below b_);clear b_;refine br ?_;refine runs 3 ?_;refine aa3 (cU rfl) ?_;refine az rfl (eh (c := f) rfl (ev rfl) (ev rfl)) ?_;simp only [aa];have hx := (Below.refl w4.heap.size w4).alloc ai (.cells (bN f).toArray 50);have HB5 := ae (HB4.out.trans (hx.mono HB4.out.size));have HN5 := ae (HN4.out.below hx);clear hx;generalize w4.alloc (.cells (bN f).toArray 50) = w5 at *;refine aK 1 ?_;go_upto_region 6 with fail;refine bj 1 ?_;refine aa3 (aE true rfl abd evk rfl) ?_;refine runs 2 ?_;refine aba (aE true rfl abd evk rfl) ?_;refine runs 2 ?_;refine ay aaY (aB call23 rfl evn) ?_;have HT5 : Hid (Tab w5) := ae ((j7.start HT).tab HB5);refine (rr C I w5 HT5).mono ?_;rintro e w6 ⟨rfl, b_⟩;have HZ := ae (HB5.out.trans (b_.mono HB5.out.size));clear b_;refine br ?_;refine aK 2 ?_;go_wp2_with fail;go_ret;exact ⟨rfl, HZ⟩
 ·go_upto_region 2 with fail;refine cq 1 ?_;go_upto_region 3 with fail;refine af ?_;refine aa3 (fN rfl (C.bldB _)) ?_;refine aa3 (et (cs := C.zb) rfl abd) ?_;have HB1 := ae ((Below.refl w.heap.size w).alloc ai (.cells C.zb.toArray 75));have HN1 : Hid (lW C (w.alloc (.cells C.zb.toArray 75)) (.pointer (some ⟨w.heap.size, 0, none⟩))) := ae (.inr ⟨_, rfl, heap_alloc_new w (.cells C.zb.toArray 75)⟩);generalize w.alloc (.cells C.zb.toArray 75) = w1 at *;refine aK 1 ?_;go_upto_region 4 with fail;refine bj 2 ?_;refine ay rfl (aB call18 rfl (evc abd (evc abd evn))) ?_;refine (J.no_super _ _ d HN1).mono ?_;rintro e w2 ⟨⟨n, s, rfl⟩, b_⟩;have HB2 := ae (HB1.out.trans (b_.mono HB1.out.size));have HN2 := ae (HN1.out.below b_);clear b_;refine br ?_;refine runs 3 ?_;refine runs 1 ?_;refine aa3 (bk rfl) ?_;refine runs 1 ?_;refine az rfl (cm (c := s) rfl (ev rfl) (ev rfl)) ?_;simp only [aa];have hx := (Below.refl w2.heap.size w2).alloc ai (.cells (aS s).toArray 37);have HB3 := ae (HB2.out.trans (hx.mono HB2.out.size));have HN3 := ae (HN2.out.below hx);clear hx;generalize w2.alloc (.cells (aS s).toArray 37) = w3 at *;refine aK 1 ?_;go_upto_region 5 with fail;refine bj 1 ?_;refine ay rfl (aB call20 rfl (evc abd evn)) ?_;refine (J.no_look _ _ HN3).mono ?_;rintro e w4 ⟨⟨f, rfl⟩, b_⟩;have HB4 := ae (HB3.out.trans (b_.mono HB3.out.size));have HN4 := ae (HN3.out.below b_);clear b_;refine br ?_;refine runs 3 ?_;refine aa3 (cU rfl) ?_;refine az rfl (eh (c := f) rfl (ev rfl) (ev rfl)) ?_;simp only [aa];have hx := (Below.refl w4.heap.size w4).alloc ai (.cells (bN f).toArray 50);have HB5 := ae (HB4.out.trans (hx.mono HB4.out.size));have HN5 := ae (HN4.out.below hx);clear hx;generalize w4.alloc (.cells (bN f).toArray 50) = w5 at *;refine aK 1 ?_;go_upto_region 6 with fail;refine bj 1 ?_;refine aa3 (aE true rfl abd evk rfl) ?_;refine runs 2 ?_;refine aba (aE true rfl abd evk rfl) ?_;refine runs 2 ?_;refine ay aaY (aB call23 rfl evn) ?_;have HT5 : Hid (Tab w5) := ae ((j7.start HT).tab HB5);refine (rr C I w5 HT5).mono ?_;rintro e w6 ⟨rfl, b_⟩;have HZ := ae (HB5.out.trans (b_.mono HB5.out.size));clear b_;refine br ?_;refine aK 2 ?_;go_wp2_with fail;go_ret;exact ⟨rfl, HZ⟩
structure Tld where
 ev : Nat
 S : Sup
def aP : Tld := ⟨0, bg⟩
def iO (M : aJ) (d : Int) : Tld := ⟨gaN M d, gaS M d⟩
def kg (M : aJ) (k : Nat) : List Tld := (List.range k).map fun (j : Nat) => iO M (j : Int)
section
variable {M : aJ} {k j : Nat} {f : Fnd}
theorem ei : (kg M k).length = k := by simp [kg]
theorem fA (h : j < k) : (kg M k).getD j aP = iO M (j : Int) := by simp [kg, List.getD, h]
theorem rW : kg M (k + 1) = kg M k ++ [iO M (k : Int)] := by simp [kg, List.range_succ]
theorem nh (h : gaE M (j : Int) = 0) : 1 <= gaN M (j : Int) := (qA h).1.1
theorem nw (h : gaE M (j : Int) ≠ 0) : gaN M (j : Int) = 0 := (lR h).1
theorem wD : gaE M (j : Int) = 0 ↔ gaN M (j : Int) ≠ 0 := ⟨fun h => by have := nh h; omega, fun h => Decidable.byContradiction fun e => h (nw e)⟩
theorem qO (M : aJ) : ∀ k : Nat, (gaK M k = none /\ ∀ i, i < k -> gaN M (i : Int) = 0) \/ (∃ j, j < k /\ gaK M k = some (gaP M (j : Int)) /\ gaE M (j : Int) = 0 /\ (∀ i, i < j -> gaN M (i : Int) < gaN M (j : Int)) /\ ∀ i, i < k -> gaN M (i : Int) <= gaN M (j : Int))
 |0 => .inl ⟨rfl, fun i hi => absurd hi (by omega)⟩
 |k + 1 => by
  by_cases he : gaE M (k : Int) = 0
  ·have hp := nh he;rcases qO M k with ⟨e1, e2⟩ | ⟨j, e1, e2, e3, e4, e5⟩
   ·refine .inr ⟨k, by omega, by rw [gaK, e1, if_pos ⟨he, rfl⟩], he, fun i hi => by rw [e2 i hi]; omega, fun i hi => ?_⟩;by_cases x : i = k
    ·subst x; omega
    ·rw [e2 i (by omega)]; omega
   ·by_cases hl : gaN M (j : Int) < gaN M (k : Int)
    ·refine .inr ⟨k, by omega, by rw [gaK, e2, if_pos ⟨he, am hl⟩], he, fun i hi => by have := e5 i hi; omega, fun i hi => ?_⟩;by_cases x : i = k
     ·subst x; omega
     ·have := e5 i (by omega); omega
    ·refine .inr ⟨j, by omega, by rw [gaK, e2, if_neg (fun x => hl (of_decide_eq_true x.2))], e3, e4, fun i hi => ?_⟩;by_cases x : i = k
     ·subst x; omega
     ·exact e5 i (by omega)
  ·have hz := nw he;have hk : gaK M (k + 1) = gaK M k := by rw [gaK, if_neg (fun x => he x.1)]
   rcases qO M k with ⟨e1, e2⟩ | ⟨j, e1, e2, e3, e4, e5⟩
   ·refine .inl ⟨hk.trans e1, fun i hi => ?_⟩;by_cases x : i = k
    ·subst x; exact hz
    ·exact e2 i (by omega)
   ·refine .inr ⟨j, by omega, hk.trans e2, e3, e4, fun i hi => ?_⟩;by_cases x : i = k
    ·subst x; omega
    ·exact e5 i (by omega)
def zQ (l : List Tld) (j : Nat) : Prop := j < l.length /\ (∀ i, i < j -> (l.getD i aP).ev < (l.getD j aP).ev) /\ ∀ i, i < l.length -> (l.getD i aP).ev <= (l.getD j aP).ev
theorem vD (M : aJ) (k : Nat) : (k = 0 /\ gaK M k = none) \/ ∃ j, zQ (kg M k) j /\ j < k /\ ((gaN M (j : Int) = 0 /\ gaK M k = none) \/ (gaN M (j : Int) ≠ 0 /\ gaE M (j : Int) = 0 /\ gaK M k = some (gaP M (j : Int)))) := by
 rcases qO M k with ⟨e1, e2⟩ | ⟨j, e1, e2, e3, e4, e5⟩
 ·by_cases h : k = 0
  ·exact .inl ⟨h, e1⟩
  ·refine .inr ⟨0, ⟨by rw [ei]; omega, fun i hi => absurd hi (by omega), fun i hi => ?_⟩, by omega, .inl ⟨e2 0 (by omega), e1⟩⟩;rw [ei] at hi;rw [fA hi, fA (by omega)]
   show gaN M _ <= gaN M _
   rw [e2 i hi];exact Nat.zero_le _
 ·refine .inr ⟨j, ⟨by rw [ei]; exact e1, fun i hi => ?_, fun i hi => ?_⟩, e1, .inr ⟨by have := nh e3; omega, e3, e2⟩⟩
  ·rw [fA (by omega), fA e1];exact e4 i hi
  ·rw [ei] at hi;rw [fA hi, fA e1];exact e5 i hi
def tlW (t : Tld) (j : Nat) (id : Nat) (R : Ros) : Bool := decide (t.ev ≠ 0) && (decide (t.S.id = id) && (decide (t.S.self = (j : Int)) && lI t.S.ros R))
theorem zw (hf : aW f.R = true) (k : Nat) : tlW (iO M (j : Int)) j f.id (gaL M f k) = gaW M f j := by
 obtain ⟨_, h2, h3, h4⟩ := nJ (M := M) hf k;have hg : lI (gaS M (j : Int)).ros (gaL M f k) = lI (gaS M (j : Int)).ros f.R := by unfold lI; rw [h2, h3, h4]
 have he : decide (gaN M (j : Int) ≠ 0) = decide (gaE M (j : Int) = 0) := by rw [decide_eq_decide]; exact wD.symm
 unfold tlW gaW iO;dsimp only;rw [hg, he];cases decide (gaE M (j : Int) = 0) <;> cases decide ((gaS M (j : Int)).self = (j : Int)) <;> cases decide ((gaS M (j : Int)).id = f.id) <;> rfl
end
def may (m s r : Int) : Bool := decide (3 <= m /\ m <= 16 /\ 1 <= s /\ s <= 64 /\ 40 <= r /\ r <= 256)
def has (s t : Int) : Bool := decide (0 <= t /\ t < s)
theorem kh {s t : Int} : has s t = true ↔ (0 <= t /\ t < s) := by unfold has; rw [decide_eq_true_iff]
def par (M T : Nat) : Nat := M - 1 - T % M
def tJ (t : Int) : Int := if has 64 t = true then 2 + t else 0
def tn (t : Int) : Int := if has 64 t = true then 0 else 12
theorem jQ (t : Int) (w : World) : Calls prog 93 #[.int .i64 t] w fun e w' => e = .returned (.tuple #[.int .i64 (tJ t), .int .i64 (tn t)]) /\ Below w.heap.size w w' := by
 go_enter func93, ntmps93;go_wp2
 all_goals
  go_ret2;refine ⟨oO ?_ ?_, aj⟩
  all_goals
   first
   |unfold tJ
   |unfold tn
   first
   |rw [if_pos (kh.2 (by omega))]
   |rw [if_neg (by rw [kh]; omega)]
theorem xp (a b : Blk) (k : Nat) (w : World) (T : Tab w) (h : kb a b = k) : Calls prog 114 #[blk a, blk b] w fun e w' => e = .returned (.int .i64 (k : Nat)) /\ Below w.heap.size w w' := by
 subst h;exact zJ a b w T
structure HpS where
 id : Nat
 ev : Nat
 us : Nat
 R : Ros
def phC (qa : Option Addr) (x : HpS) : List Value := .pointer qa :: .int .u64 (x.id : Int) :: .int .u64 (x.ev : Int) :: (aQ x.R ++ [.int .u64 (x.us : Int)])
theorem xJ (qa : Option Addr) (x : HpS) : (phC qa x).length = 25 := by simp [phC, aU]
def PHo (w : World) (p : Nat) (qa : Option Addr) (x : HpS) : Prop := w.heap[p]? = some (.cells (phC qa x).toArray 112 (0, 0))
abbrev PHu (w : World) (p q : Nat) (x : HpS) : Prop := PHo w p (some ⟨q, 0, none⟩) x
section
variable {w w' : World} {p : Nat} {qa : Option Addr} {x : HpS} {G : Nat -> Prop}
theorem PHo.only (h : PHo w p qa x) (ho : Only G w w') (hn : ¬ G p) : PHo w' p qa x := ho.keep h hn
theorem PHo.below (h : PHo w p qa x) (hb : Below w.heap.size w w') : PHo w' p qa x := aC h hb
theorem PHo.lt (h : PHo w p qa x) : p < w.heap.size := aX h
theorem PHo.c0 (h : PHo w p qa x) : w.cell? ⟨p, 0, none⟩ = some (.pointer qa) := (bK h) 0 _ rfl
theorem PHo.c1 (h : PHo w p qa x) : w.cell? ⟨p, 1, none⟩ = some (.int .u64 (x.id : Int)) := (bK h) 1 _ rfl
theorem PHo.c2 (h : PHo w p qa x) : w.cell? ⟨p, 2, none⟩ = some (.int .u64 (x.ev : Int)) := (bK h) 2 _ rfl
theorem PHo.c24 (h : PHo w p qa x) : w.cell? ⟨p, 24, none⟩ = some (.int .u64 (x.us : Int)) := (bK h) 24 _ (by
 show (aQ x.R ++ [_])[21]? = _
 rw [List.getElem?_append_right (by rw [aU]; exact ai), aU]; rfl)
theorem PHo.ros (h : PHo w p qa x) : w.rangeAt p 3 (aQ x.R) := by
 have := dJ (k := 3) (ds := [.pointer qa, .int .u64 (x.id : Int), .int .u64 (x.ev : Int)]) (es := aQ x.R) (fs := [.int .u64 (x.us : Int)]) (bK h) (by simp [phC]) rfl;rwa [Nat.zero_add] at this
theorem PHo.uD (h : PHo w p qa x) (j : Nat) : w.frozen? ⟨p, j, none⟩ = false := frozen_of_row w p j _ _ h
theorem PHo.there (h : PHo w p qa x) {o n : Nat} (hn : o + n <= 25) : w.there p o n := a8 h (by rw [xJ]; exact hn)
theorem oe : (Instr.fieldAt 112 (.pointer (some ⟨p, 0, none⟩)) 0).run prog w = .ok (.pointer (some ⟨p, 0, none⟩)) w := by kernel_rfl
theorem z3 : (Instr.fieldAt 112 (.pointer (some ⟨p, 0, none⟩)) 1).run prog w = .ok (.pointer (some ⟨p, 1, none⟩)) w := by kernel_rfl
theorem yg : (Instr.fieldAt 112 (.pointer (some ⟨p, 0, none⟩)) 2).run prog w = .ok (.pointer (some ⟨p, 2, none⟩)) w := by kernel_rfl
theorem vt : (Instr.fieldAt 112 (.pointer (some ⟨p, 0, none⟩)) 3).run prog w = .ok (.pointer (some ⟨p, 3, none⟩)) w := by kernel_rfl
theorem uU : (Instr.fieldAt 112 (.pointer (some ⟨p, 0, none⟩)) 4).run prog w = .ok (.pointer (some ⟨p, 24, none⟩)) w := by kernel_rfl
theorem tV {ad : Addr} {a : Option Addr} (h : w.cell? ad = some (.pointer a)) : (Instr.loadAt 24 (.pointer (some ad))).run prog w = .ok (.pointer a) w := by simp [go_sem, h]
theorem tA {ad : Addr} {a : Option Addr} (h : w.cell? ad = some (.pointer a)) : (Instr.loadAt 62 (.pointer (some ad))).run prog w = .ok (.pointer a) w := by simp [go_sem, h]
theorem PHo.set {y : HpS} (h : PHo w p qa x) {j : Nat} {u : Value} (hy : (phC qa x).set j u = phC qa y) : PHo (w.setCell ⟨p, j, none⟩ u) p qa y := by
 have := heap_setCell_same w p j _ 112 u h;rw [List.setIfInBounds_toArray, hy] at this;exact this
theorem PHo.put (h : PHo w p qa x) (y : Ros) : PHo (w.setCells p 3 (aQ y)) p qa { x with R := y } :=
 heap_put p 112 [.int .u64 (x.us : Int)] (aQ y) (aQ x.R) [.pointer qa, .int .u64 (x.id : Int), .int .u64 (x.ev : Int)] w (by rw [aU, aU]) h
theorem zf (qa : Option Addr) (x : HpS) (e : Nat) : (phC qa x).set 2 (.int .u64 (e : Int)) = phC qa { x with ev := e } := rfl
theorem uv (qa : Option Addr) (x : HpS) (e : Nat) : (phC qa x).set 24 (.int .u64 (e : Int)) = phC qa { x with us := e } := by
 show _ :: _ :: _ :: (aQ x.R ++ [_]).set 21 _ = _
 rw [List.set_append_right _ _ (by rw [aU]; exact ai), aU]
 rfl
end
def HJ (w0 : World) (H K : Nat -> Prop) (w : World) (p q : Nat) (M : aJ) (x : HpS) : Prop :=
 ∃ G, aL.Bn w G q M /\ PHu w p q x /\ ¬ G p /\ Only H w0 w /\ Grow w0 H (fun b => G b \/ b = p) /\ (∀ b, K b -> ¬ G b /\ b ≠ p /\ b < w.heap.size) /\ CrG w0 H
section
variable {w0 w w' : World} {H K K' : Nat -> Prop} {p q : Nat} {M : aJ} {x y : HpS}
theorem HJ.hul (h : HJ w0 H K w p q M x) : PHu w p q x := by obtain ⟨_, _, h, _⟩ := h; exact h
theorem HJ.tab (h : HJ w0 H K w p q M x) : Tab w := by
 obtain ⟨_, _, _, _, h, _, _, hT⟩ := h;intro i hi;have := hT.t i hi;exact (h.cell (p := ⟨0, i, none⟩) (jX this) hT.off).trans this
theorem HJ.lt (h : HJ w0 H K w p q M x) {b : Nat} (hb : K b) : b < w.heap.size := by obtain ⟨_, _, _, _, _, _, h, _⟩ := h; exact (h b hb).2.2
theorem HJ.ne (h : HJ w0 H K w p q M x) {b : Nat} (hb : K b) : b ≠ p := by obtain ⟨_, _, _, _, _, _, h, _⟩ := h; exact (h b hb).2.1
theorem HJ.size (h : HJ w0 H K w p q M x) : w0.heap.size <= w.heap.size := by obtain ⟨_, _, _, _, h, _⟩ := h; exact h.size
theorem HJ.guard (h : HJ w0 H K w p q M x) (hb : Below w.heap.size w w') (hK : ∀ b, K' b -> K b \/ (w.heap.size <= b /\ b < w'.heap.size)) : HJ w0 H K' w' p q M x := by
 obtain ⟨G, h1, h2, h3, h4, h5, h6, h7⟩ := h;have hlt := aL.lt h1;have hp := h2.lt;have hs := hb.size;refine ⟨G, aL.below h1 hb, h2.below hb, h3, h4.kT hb, h5, fun b e => ?_, h7⟩;rcases hK b e with e | ⟨e1, e2⟩
 ·obtain ⟨g1, g2, g3⟩ := h6 b e;exact ⟨g1, g2, by omega⟩
 ·exact ⟨fun hg => by have := hlt b hg; omega, by omega, e2⟩
theorem HJ.below (h : HJ w0 H K w p q M x) (hb : Below w.heap.size w w') : HJ w0 H K w' p q M x := h.guard hb fun b e => .inl e
theorem HJ.drew (h : HJ w0 H K w p q M x) : HJ w0 H K w.drew p q M x := h.below (bd aj)
theorem HJ.less (h : HJ w0 H K w p q M x) (hK : ∀ b, K' b -> K b) : HJ w0 H K' w p q M x := h.guard aj fun b e => .inl (hK b e)
def up (K : Nat -> Prop) (n m : Nat) : Nat -> Prop := fun b => K b \/ (n <= b /\ b < m)
theorem HJ.up (h : HJ w0 H K w p q M x) (hb : Below w.heap.size w w') : HJ w0 H (Proofs.YtehefifamaofkaaGreatDoor.up K w.heap.size w'.heap.size) w' p q M x := h.guard hb fun b e => e
theorem HJ.kept (h : HJ w0 H K w p q M x) (hb : Below w.heap.size w w') : da K w w' := fun b e => hb.block b (h.lt e)
theorem HJ.turn {G G' : Nat -> Prop} {M' : aJ} (h1 : aL.Bn w G q M) (h2 : PHu w p q x) (h3 : ¬ G p) (h4 : Only H w0 w) (h5 : Grow w0 H (fun b => G b \/ b = p)) (h6 : ∀ b, K b -> ¬ G b /\ b ≠ p /\ b < w.heap.size) (h7 : CrG w0 H)
  (k1 : aL.Bn w' G' q M') (k2 : Only G w w') (k3 : Grow w G G') : HJ w0 H K w' p q M' x /\ da K w w' := by
 have hs := k2.size;have hs0 := h4.size;have hp := h2.lt;refine ⟨⟨G', k1, h2.only k2 h3, fun e => ?_, h4.trans k2 fun b e => h5 b (.inl e), fun b e => ?_, fun b e => ?_, h7⟩, fun b e => k2.block b (h6 b e).2.2 (h6 b e).1⟩
 ·rcases k3 p e with e | e
  ·exact h3 e
  ·omega
 ·rcases e with e | e
  ·rcases k3 b e with e | e
   ·exact h5 b (.inl e)
   ·exact .inr (by omega)
  ·exact h5 b (.inr e)
 ·obtain ⟨g1, g2, g3⟩ := h6 b e;refine ⟨fun hg => ?_, g2, by omega⟩;rcases k3 b hg with e | e
  ·exact g1 e
  ·omega
theorem HJ.write (d n : Int) (b : Blk) (hr : Room M 1) (h : HJ w0 H K w p q M x) : Calls prog 9 #[.pointer (some ⟨q, 0, none⟩), .int .i64 d, .int .i64 n, blk b] w fun e w' => e = .returned (.int .i64 (iB M d n)) /\ HJ w0 H K w' p q (dz M d n b) x /\ da K w w' := by
 obtain ⟨G, h1, h2, h3, h4, h5, h6, h7⟩ := h;exact (aL.write d n b hr h1).mono fun e w' ⟨k0, G', k1, k2, k3⟩ => ⟨k0, HJ.turn h1 h2 h3 h4 h5 h6 h7 k1 k2 k3⟩
theorem HJ.flush (d : Int) (hr : Room M 1) (h : HJ w0 H K w p q M x) : Calls prog 15 #[.pointer (some ⟨q, 0, none⟩), .int .i64 d] w fun e w' => e = .returned (.int .i64 (f8 M d)) /\ HJ w0 H K w' p q (ey M d) x /\ da K w w' := by
 obtain ⟨G, h1, h2, h3, h4, h5, h6, h7⟩ := h;exact (aL.flush d hr h1).mono fun e w' ⟨k0, G', k1, k2, k3⟩ => ⟨k0, HJ.turn h1 h2 h3 h4 h5 h6 h7 k1 k2 k3⟩
theorem HJ.read (d n : Int) (h : HJ w0 H K w p q M x) : Calls prog 81 #[.pointer (some ⟨q, 0, none⟩), .int .i64 d, .int .i64 n] w fun e w' => e = .returned (.tuple #[blk (dx M d n), .int .i64 (ce M d n)]) /\ Below w.heap.size w w' := by
 obtain ⟨G, h1, _⟩ := h;exact aL.read d n h1
theorem HJ.obj (h : HJ w0 H K w p q M x) (ho : Only (fun b => b = p) w w') (hp : PHu w' p q y) : HJ w0 H K w' p q M y /\ da K w w' := by
 obtain ⟨G, h1, h2, h3, h4, h5, h6, h7⟩ := h;have hs := ho.size;refine ⟨⟨G, aL.only h1 ho fun b hb e => h3 (e ▸ hb), hp, h3, h4.trans ho fun b e => h5 b (.inr e), h5, fun b e => ?_, h7⟩, fun b e => ho.block b (h6 b e).2.2 (h6 b e).2.1⟩;obtain ⟨g1, g2, g3⟩ := h6 b e;exact ⟨g1, g2, by omega⟩
theorem HJ.mine {g : Nat} (h : HJ w0 H K w p q M x) (hg : K g) (hg0 : w0.heap.size <= g) (ho : Only (fun b => b = g) w w') : HJ w0 H K w' p q M x := by
 obtain ⟨G, h1, h2, h3, h4, h5, h6, h7⟩ := h;have hs := ho.size;obtain ⟨g1, g2, g3⟩ := h6 g hg;refine ⟨G, aL.only h1 ho fun b hb e => g1 (e ▸ hb), h2.only ho fun e => g2 e.symm, h3, h4.trans ho fun b e => .inr (by omega), h5, fun b e => ?_, h7⟩;obtain ⟨g1, g2, g3⟩ := h6 b e;exact ⟨g1, g2, by omega⟩
end
structure Fu where
 f : FuncId
 cap : List Value
 ok : ∀ (args : Array Value) (w : World), (callFunc f args).run prog w = .ok (.enter f args) w
def Fu.val (s : Fu) : Value := .func (.func s.f) #[] s.cap.toArray
section
variable {ρ : Operand -> Value} {o : Oper} {x y : Operand} {w : World} {s : Fu} {v : Value}
theorem n6 {a : Act} {ats : Array TypeId} (ho : o.op = .call { callee := .value x, args := #[y], argTypes := ats }) (hx : a.eval x = s.val) (hy : a.eval y = v) : (execOp a.eval o).run prog w = .ok (.enter s.f (v :: s.cap).toArray) w := by
 unfold Fu.val at hx;unfold execOp;simp [ho, resolve, Deferred.ofValue, invoke, hx, hy, s.ok]
end
def NoH (w : World) (v : Value) : Prop := v = .pointer none \/ ∃ p, v = .pointer (some ⟨p, 0, none⟩) /\ PHo w p none ⟨0, 0, 0, bI⟩
theorem NoH.below {w w' : World} {v : Value} (h : NoH w v) (hb : Below w.heap.size w w') : NoH w' v := by
 rcases h with h | ⟨p, h, h1⟩
 ·exact .inl h
 ·exact .inr ⟨p, h, h1.below hb⟩
section
variable {w : World} {p q : Nat} {qa : Option Addr} {x : HpS} {v : Value}
theorem t4 (h : PHo w p (some ⟨q, 0, none⟩) x) : Calls prog 68 #[.pointer (some ⟨p, 0, none⟩)] w fun e w' => e = .returned (.bool true) /\ w = w' := by
 have HL := ae h;clear h;go_enter func68, ntmps68;go_upto_region 1 with fail;refine bj 1 ?_;refine aa3 (fo true underlying62 rfl abd evk rfl) ?_;refine runs 3 ?_;refine aba (ax rfl abd oe) ?_;refine aba (aF rfl abd (tV (PHo.c0 HL))) ?_;refine aba (fo true underlying24 rfl abd evk rfl) ?_;refine aK 2 ?_;go_wp2_with fail;go_ret;exact ⟨rfl, rfl⟩
theorem uL (h : PHo w p none x) : Calls prog 68 #[.pointer (some ⟨p, 0, none⟩)] w fun e w' => e = .returned (.bool false) /\ w = w' := by
 have HL := ae h;clear h;go_enter func68, ntmps68;go_upto_region 1 with fail;refine bj 1 ?_;refine aa3 (fo true underlying62 rfl abd evk rfl) ?_;refine runs 3 ?_;refine aba (ax rfl abd oe) ?_;refine aba (aF rfl abd (tV (PHo.c0 HL))) ?_;refine aba (fo false underlying24 rfl abd evk rfl) ?_;refine aK 2 ?_;go_wp2_with fail;go_ret;exact ⟨rfl, rfl⟩
theorem tW : Calls prog 68 #[.pointer none] w fun e w' => e = .returned (.bool false) /\ w = w' := by
 go_enter func68, ntmps68;go_upto_region 1 with fail;refine bj 1 ?_;refine aa3 (fo false underlying62 rfl abd evk rfl) ?_;refine aN 5 rfl (aO rfl abd) (by kernel_rfl) ?_;simp only [bu, ac, aa];refine aK 2 ?_;go_wp2_with fail;go_ret;exact ⟨rfl, rfl⟩
theorem wC (h : NoH w v) : Calls prog 68 #[v] w fun e w' => e = .returned (.bool false) /\ w = w' := by
 rcases h with rfl | ⟨p, rfl, h⟩
 ·exact tW
 ·exact uL h
theorem r6 (h : PHo w p qa x) : Calls prog 29 #[.pointer (some ⟨p, 0, none⟩)] w fun e w' => e = .returned (ros (x.R)) /\ Below w.heap.size w w' := by
 have HL := ae (h.below ((Below.refl w.heap.size w).alloc ai (.cells (aQ bI).toArray 35)));clear h;have HA := ae (bw.new w bI);have HB := ae ((Below.refl w.heap.size w).alloc ai (.cells (aQ bI).toArray 35));go_enter func29, ntmps29;go_upto_region 0 with fail;refine af ?_;refine aa3 (cr rfl) ?_;generalize w.alloc (.cells (aQ bI).toArray 35) = w1 at *
 skip
 refine ag ?_;go_upto_region 1 with fail;refine bj 1 ?_;refine aa3 (iR false underlying62 rfl abd evk rfl) ?_;refine ag ?_;go_upto_region 3 with fail;refine bj 2 ?_;refine aa3 (ax rfl abd vt) ?_;refine aa3 (bn rfl abd (PHo.ros HL)) ?_;refine az rfl (de rfl (ev rfl) (ev rfl) HA.out) ?_;simp only [aa];refine ag ?_;go_wp2_with fail;exact bodyPost_ret (yp rfl _ _ _ rfl (ix HA)) rfl ⟨rfl, gq HB ai⟩
theorem pe (h : PHo w p qa x) : Calls prog 32 #[.pointer (some ⟨p, 0, none⟩)] w fun e w' => e = .returned (.int .u64 (x.ev : Int)) /\ w = w' := by
 have HL := ae h;clear h;go_enter func32, ntmps32;go_upto_region 1 with fail;refine bj 1 ?_;refine aa3 (iR false underlying62 rfl abd evk rfl) ?_;refine ag ?_;go_upto_region 3 with fail;refine bj 2 ?_;refine aa3 (ax rfl abd yg) ?_;refine aa3 (aF rfl abd (cX (PHo.c2 HL))) ?_;refine aK 1 ?_;go_wp2_with fail;go_ret;exact ⟨rfl, rfl⟩
theorem tu : Calls prog 32 #[.pointer none] w fun e w' => e = .returned (.int .u64 0) /\ w = w' := by
 go_enter func32, ntmps32;go_upto_region 1 with fail;refine bj 1 ?_;refine aa3 (iR true underlying62 rfl abd evk rfl) ?_;refine ag ?_;go_upto_region 2 with fail;refine cq 1 ?_;go_wp2_with fail;go_ret;exact ⟨rfl, rfl⟩
end
section
variable {P : Program} {md : Region.Mode} {l : List Oper} {Q : Exit -> Act -> World -> Prop} {S : World -> Prop} {fuel : Nat} {listed : Array Bool} {a : Act} {w w1 : World} {o o' : Oper} {v : Value}
theorem tj (i : Nat) (hi : l[i]? = some o) (hr : Region.ready md l.toArray listed = [i]) (hw : Region.wanted o (yielded l.toArray a.tmps) = true) (h : (execOp a.eval o).run P w = .ok (.value v) w1)
  (hS : S w1) (hk : wpAnyH P md l.toArray Q S fuel (listed.setIfInBounds i true) (a.put o.dst v) w1) : wpAnyH P md l.toArray Q S (fuel + 1) listed a w :=
 wpAnyH_all hr (by simp) fun j hj => by
  obtain rfl : j = i := by simpa using hj
  unfold wpOp;simp only [List.getElem?_toArray, hi, hw, if_true];refine .inl ?_;unfold Oper.wp;rw [h];exact ⟨hS, hk⟩
theorem oM (i j : Nat) {f : FuncId} {vs : Array Value} (hi : l[i]? = some o) (hj : l[j]? = some o') (hr : Region.ready md l.toArray listed = [i, j]) (hwi : Region.wanted o (yielded l.toArray a.tmps) = true) (hwj : Region.wanted o' (yielded l.toArray a.tmps) = true) (h : (execOp a.eval o).run P w = .ok (.enter f vs) w)
  (hc : Calls P f vs w fun e w' => ∃ v, e = .returned v /\ S w' /\ wpAnyH P md l.toArray Q S fuel (listed.setIfInBounds i true) (a.put o.dst v) w') (h' : (execOp a.eval o').run P w = .ok (.value v) w1) (hS : S w1)
  (hk : wpAnyH P md l.toArray Q S fuel (listed.setIfInBounds j true) (a.put o'.dst v) w1) : wpAnyH P md l.toArray Q S (fuel + 1) listed a w :=
 wpAnyH_all hr (by simp) fun z hz => by
  rcases (show z = i \/ z = j by simpa using hz) with rfl | rfl
  ·unfold wpOp;simp only [List.getElem?_toArray, hi, hwi, if_true];refine .inl ?_;unfold Oper.wp;rw [h];exact hc.mono fun e w' ⟨v, he, hk⟩ => by subst he; exact hk
  ·unfold wpOp;simp only [List.getElem?_toArray, hj, hwj, if_true];refine .inl ?_;unfold Oper.wp;rw [h'];exact ⟨hS, hk⟩
theorem yq {α β : Type} {F : α -> β -> Prop} {G : Prop} {T : α -> β -> Prop} (k : (∀ a b, F a b -> T a b) -> G) (h : ∀ a b, F a b -> T a b) : G := k h
end
theorem uz : (prog.info? 130).map (fun i => i.zero) = some (some (.agg (cel aA ++ cel aA).toArray)) := by kernel_rfl
def Ar2 (w : World) (b : Nat) (a0 a1 : Blk) : Prop := w.heap[b]? = some (.cells (cel a0 ++ cel a1).toArray 130 (0, 0))
theorem Ar2.r0 {w : World} {b : Nat} {a0 a1 : Blk} (h : Ar2 w b a0 a1) : w.rangeAt b 0 (cel a0) := dJ (cs := cel a0 ++ cel a1) (ds := []) (es := cel a0) (fs := cel a1) (k := 0) (bK h) rfl rfl
theorem Ar2.r1 {w : World} {b : Nat} {a0 a1 : Blk} (h : Ar2 w b a0 a1) : w.rangeAt b 64 (cel a1) := by
 have := dJ (cs := cel a0 ++ cel a1) (ds := cel a0) (es := cel a1) (fs := []) (k := 64) (bK h) (by rw [List.append_nil]) (aI a0);rwa [Nat.zero_add] at this
theorem Ar2.there {w : World} {b k : Nat} {a0 a1 : Blk} (h : Ar2 w b a0 a1) (hk : k < 2) : w.there b (0 + k * 64) 64 := a8 h (by rw [List.length_append, aI, aI]; omega)
theorem Ar2.set {w : World} {b k : Nat} {a0 a1 : Blk} (h : Ar2 w b a0 a1) (hk : k < 2) (y : Blk) : Ar2 (w.setCells b (0 + k * 64) (cel y)) b (if k = 0 then y else a0) (if k = 1 then y else a1) := by
 rcases (show k = 0 \/ k = 1 by omega) with rfl | rfl
 ·exact heap_put b 130 (cel a1) (cel y) (cel a0) [] w (by rw [aI, aI]) h
 ·have h' : w.heap[b]? = some (.cells (cel a0 ++ cel a1 ++ []).toArray 130 (0, 0)) := by rw [List.append_nil]; exact h
  have := heap_put b 130 [] (cel y) (cel a1) (cel a0) w (by rw [aI, aI]) h';rw [List.append_nil, aI] at this;exact this
theorem xV {w : World} {b k : Nat} (hk : k < 2) : (Instr.indexAt 130 (.pointer (some ⟨b, 0, none⟩)) (.int .i64 (k : Int))).run prog w = .ok (.pointer (some ⟨b, 0 + k * 64, none⟩)) w := by
 have e : (0 <= (k : Int) /\ (k : Int) < 2) := by omega
 simp [Instr.indexAt, Instr.sureAddr, asIntOf, run_underlying underlying130, Tryz.sizeOf29, Addr.add_mid, e, hk]
theorem x8 {w : World} {b : Nat} : (Instr.indexAt 130 (.pointer (some ⟨b, 0, none⟩)) (.int .i64 0)).run prog w = .ok (.pointer (some ⟨b, 0, none⟩)) w := xV (k := 0) (by omega)
theorem yi {w : World} {b : Nat} : (Instr.indexAt 130 (.pointer (some ⟨b, 0, none⟩)) (.int .i64 1)).run prog w = .ok (.pointer (some ⟨b, 64, none⟩)) w := xV (k := 1) (by omega)
theorem aaD {w : World} {ad : Addr} {u : Value} {n : Int} (h : w.cell? ad = some u) (hf : w.frozen? ad = false) : (Instr.storeAt 30 (.pointer (some ad)) (.int .u64 n)).run prog w = .ok () (w.setCell ad (.int .u64 n)) := by simp [go_sem, h, hf]
theorem tR {w : World} {b : Nat} : (Instr.fieldAt 37 (.pointer (some ⟨b, 0, none⟩)) 1).run prog w = .ok (.pointer (some ⟨b, 1, none⟩)) w := by kernel_rfl
theorem fJ {ρ : Operand -> Value} {o : Oper} {x y : Operand} {w : World} {b j : Nat} {u : Value} {n : Int} (ho : o.op = .store 30 x y) (hx : ρ x = .pointer (some ⟨b, j, none⟩)) (hy : ρ y = .int .u64 n) (h : w.cell? ⟨b, j, none⟩ = some u) (hf : w.frozen? ⟨b, j, none⟩ = false) : (execOp ρ o).run prog w = .ok .skip (w.setCell ⟨b, j, none⟩ (.int .u64 n)) :=
 gt ho hx hy (aaD h hf)
section
variable {id en m : Nat} {R : Ros} {M : aJ} {n : Nat} {b : Blk}
theorem wI (h : ce M m 0 ≠ 0) : dc id en R M m = ce M m 0 /\ cM id en R M m = M := ⟨if_neg h, if_neg fun e => h e.1⟩
theorem vV (h0 : ce M m 0 = 0) (h : ce M m 1 ≠ 0) : dc id en R M m = ce M m 1 /\ cM id en R M m = M := ⟨by unfold dc; rw [if_pos h0, if_neg h], if_neg fun e => h e.2⟩
theorem yP (h0 : ce M m 0 = 0) (h1 : ce M m 1 = 0) (hn : kb (dx M m 0) (dx M m 1) = n) (hb : fx en ⟨id, m, R⟩ = b) (h : iB M m n ≠ 0) : dc id en R M m = iB M m n /\ cM id en R M m = dz M m n b := by
 have := yf (d := (m : Int)) (M := M) (s := .wr (n : Int) b) (l := [.fl]) h;unfold dc cM rY;rw [if_pos h0, if_pos h1, if_pos ⟨h0, h1⟩, hn, hb];exact this
theorem yN (h0 : ce M m 0 = 0) (h1 : ce M m 1 = 0) (hn : kb (dx M m 0) (dx M m 1) = n) (hb : fx en ⟨id, m, R⟩ = b) (h : iB M m n = 0) : dc id en R M m = f8 (dz M m n b) m /\ cM id en R M m = ey (dz M m n b) m := by
 have h2 := go_ok (d := (m : Int)) (M := M) (s := .wr (n : Int) b) (l := [.fl]) h;unfold dc cM rY;rw [if_pos h0, if_pos h1, if_pos ⟨h0, h1⟩, hn, hb, h2.1, h2.2]
 show goE m (dz M m n b) [.fl] = _ /\ goB m (dz M m n b) [.fl] = _
 by_cases hf : f8 (dz M m n b) m = 0
 ·have h3 := go_ok (d := (m : Int)) (M := dz M m n b) (s := .fl) (l := []) hf;rw [h3.1, h3.2, hf];exact ⟨rfl, rfl⟩
 ·have h3 := yf (d := (m : Int)) (M := dz M m n b) (s := .fl) (l := []) hf;rw [h3.1, h3.2];exact ⟨rfl, rfl⟩
end
def rdK (M : aJ) (m k j : Nat) : Blk := if j < k then dx M m j else aA
def se (p : Nat) (qa : Option Addr) (x : HpS) (b5 b7 b11 : Nat) (sx : Sup) (a0 a1 y : Blk) (w : World) : Prop :=
 PHo w p qa x /\ w.heap[b5]? = some (.cells (aS sx).toArray 37 (0, 0)) /\ Ar2 w b7 a0 a1 /\ w.heap[b11]? = some (.cells (cel y).toArray 29 (0, 0))
theorem se.below {p : Nat} {qa : Option Addr} {x : HpS} {b5 b7 b11 : Nat} {sx : Sup} {a0 a1 y : Blk} {w w' : World} (h : se p qa x b5 b7 b11 sx a0 a1 y w) (hb : Below w.heap.size w w') : se p qa x b5 b7 b11 sx a0 a1 y w' :=
 ⟨h.1.below hb, aC h.2.1 hb, aC h.2.2.1 hb, aC h.2.2.2 hb⟩
section
variable {w0 w : World} {H K : Nat -> Prop} {p q : Nat} {M : aJ} {x : HpS}
theorem yr {en m : Nat} {R : Ros} (hr : Room M 2) (hev : 1 <= en /\ en <= 4611686018427387904) (hid : x.id ≠ 0 /\ x.id < 18446744073709551616) (hf : aW R = true) (hm : m < R.m.toNat) (h : HJ w0 H K w p q M x) : Calls prog 96 #[.pointer (some ⟨p, 0, none⟩), .int .u64 (en : Int), sup ⟨x.id, (m : Int), R⟩] w fun e w' =>
  e = .returned (.int .i64 (dc x.id en R M m)) /\ (∃ us, (us = x.us \/ us = en) /\ HJ w0 H K w' p q (cM x.id en R M m) { x with us := us }) /\ da K w w' := by
 have hev' : evB en = true := by unfold evB; rw [decide_eq_true_iff]; omega
 have hsp : ef ⟨x.id, (m : Int), R⟩ = true := by
  unfold ef;simp only [Bool.and_eq_true, decide_eq_true_eq];exact ⟨⟨hid.1, hf⟩, by omega, by omega⟩
 have HSP : Hid (jP en ⟨x.id, (m : Int), R⟩ = 0) := ae (jk hev' hsp);obtain ⟨sb, hsb⟩ : ∃ sb, fx en ⟨x.id, (m : Int), R⟩ = sb := ⟨_, rfl⟩;have HSB' := ae hsb;obtain ⟨E, hE⟩ : ∃ E, dc x.id en R M m = E := ⟨_, rfl⟩;obtain ⟨M2, hM2⟩ : ∃ M2, cM x.id en R M m = M2 := ⟨_, rfl⟩;rw [hE, hM2];have HE := ae hE;have HM2 := ae hM2;have HRM := ae hr;have HEV : Hid (en < 18446744073709551616) := ae (by omega);have HID := ae hid.2;have HJ := ae h;clear hr hev hid hf hm h hev' hsp hsb hE hM2;go_enter func96, ntmps96;go_upto_region 0 with fail;refine af ?_;refine aa3 (fX (c := ⟨x.id, (m : Int), R⟩) rfl abd) ?_;have hb0 := (Below.refl w.heap.size w).alloc ai (.cells (aS (⟨x.id, (m : Int), R⟩ : Sup)).toArray 37);have HS1 := ae (heap_alloc_new w (.cells (aS (⟨x.id, (m : Int), R⟩ : Sup)).toArray 37));have HB1 := ae hb0;obtain ⟨b5, hb5⟩ : ∃ b5, w.heap.size = b5 := ⟨_, rfl⟩;have HG5 : Hid (w.heap.size <= b5) := ae (Nat.le_of_eq hb5);rw [hb5] at HS1 ⊢;clear hb5 hb0;generalize w.alloc (.cells (aS (⟨x.id, (m : Int), R⟩ : Sup)).toArray 37) = w1 at *;refine aK 1 ?_;go_upto_region 1 with fail;refine af ?_;refine aa3 (dl uz rfl) ?_;have hb0 := (Below.refl w1.heap.size w1).alloc ai (.cells (cel aA ++ cel aA).toArray 130);have HA2 : Hid (Ar2 _ w1.heap.size aA aA) := ae (heap_alloc_new w1 (.cells (cel aA ++ cel aA).toArray 130));have HS2 := ae (aC HS1 hb0);have HB2 := ae (HB1.out.trans (hb0.mono HB1.out.size));obtain ⟨b7, hb7⟩ : ∃ b7, w1.heap.size = b7 := ⟨_, rfl⟩;have HG7 : Hid (w.heap.size <= b7) := ae (by rw [<- hb7]; exact HB1.out.size);have HSZ : Hid (b5 < b7) := ae (by rw [<- hb7]; exact aX HS1);rw [hb7] at HA2 ⊢;clear hb7 hb0;generalize w1.alloc (.cells (cel aA ++ cel aA).toArray 130) = w2 at *;clear HS1 HB1;refine ag ?_;go_upto_region 2 with fail;refine cq 1 ?_;go_wp2_with fail
 go_loopw [14] (fun z wr => ∃ i : Nat, z = .int .i64 i /\ i <= 2 /\ Below w.heap.size w wr /\ wr.heap[b5]? = some (.cells (aS (⟨x.id, (m : Int), R⟩ : Sup)).toArray 37 (0, 0)) /\ Ar2 wr b7 (rdK M m i 0) (rdK M m i 1) /\ ∀ j : Nat, j < i -> ce M m (j : Int) = 0) (fun z _ => 2 - (intOf z).toNat)
 case atStart => exact ⟨0, by go_num, by omega, HB2, HS2, HA2, fun j hj => absurd hj (by omega)⟩
 case round =>
  obtain ⟨i, rfl, hi, hb, hs, ha, hz⟩ := hrel;have HBr := ae hb;have HSr := ae hs;have HAr := ae ha;have HZr := ae hz;have HJr := ae (HJ.out.below hb);clear hb hs ha hz HB2 HS2 HA2;by_cases hlt : i < 2
  ·have HI := ae hlt;have HLT : Hid (decide ((i : Int) < 2) = true) := ae (am (by omega));have HIA : Hid (IntKind.i64.wrap ((i : Int) + 1) = ((i + 1 : Nat) : Int)) := ae (by rw [fu ⟨by omega, by omega⟩]; omega);obtain ⟨xb, hxb⟩ : ∃ xb, dx M m (i : Int) = xb := ⟨_, rfl⟩;obtain ⟨ee, hee⟩ : ∃ ee, ce M m (i : Int) = ee := ⟨_, rfl⟩;have HXB := ae hxb;have HEE := ae hee;clear hi hlt hxb hee;go_upto_region 3 with fail;refine af ?_;refine aa3 (bF true rfl abd evk HLT) ?_;refine ag ?_;go_upto_region 4 with fail;refine cq 2 ?_;have HSD : Hid (Below wr.heap.size wr (World.drew wr)) := ae ((Below.refl wr.heap.size wr).drew);have HSB : Hid (Below wr.heap.size wr ((World.drew wr).alloc (.cells (cel aA).toArray 29))) := ae (HSD.out.alloc ai _);go_upto_region 5 with fail;refine wp_region_held (S := fun w' => Below wr.heap.size wr w') (by kernel_rfl) ?_;change wpAnyH _ _ _ _ _ 14 _ _ wr.drew;apply yq (F := fun (vb : Value) (wz : World) => ∃ b, vb = .pointer (some ⟨b, 0, none⟩) /\ wz.heap[b]? = some (.cells (cel xb).toArray 29 (0, 0)) /\ Below wr.heap.size wr wz /\ wr.heap.size <= b)
   ·intro kk;refine abq 0 rfl HSD ?_;refine abt 1 rfl HSD ?_;refine aa6 2 rfl (fun _ hw => ax rfl abd oe) HSD ?_;refine aa6 3 rfl (fun _ hw => aF rfl abd (tV (PHo.c0 (HJr.out.hul.below hw)))) HSD ?_;refine aa6 4 rfl (fun _ hw => ax rfl abd tR) HSD ?_;refine aa6 5 rfl (fun _ hw => aF rfl abd (dw ((bK (aC HSr hw)) 1 _ rfl))) HSD ?_;refine abq 6 rfl HSD ?_;refine oM 7 11 rfl rfl (by kernel_rfl) rfl rfl (aB call81 rfl (evc abd (evc abd (evc abd evn)))) ?_ (bJ rfl) HSB ?_
    ·refine ((HJr.out.below HSD).read (m : Int) (i : Int)).mono ?_;rintro e wA ⟨rfl, bA⟩;rw [HXB.out, HEE.out];have HSA := ae (Below.trans HSD (bA.mono (Below.size HSD)));clear bA;refine ⟨_, rfl, HSA, ?_⟩;simp only [aa];refine abq 8 rfl HSA ?_;refine abu 9 rfl HSA ?_;refine abu 10 rfl HSA ?_;have HSA2 := ae (HSA.out.alloc HSA.out.size (.cells (cel aA).toArray 29));have HSA3 := ae (HSA.out.alloc HSA.out.size (.cells (cel xb).toArray 29));refine tj 11 rfl (by kernel_rfl) rfl (bJ rfl) HSA2.out ?_;simp only [aa];refine fT 12 rfl (by kernel_rfl) rfl (i5 (c := xb) rfl (ev rfl) (ev rfl)) HSA3.out ?_;simp only [Act.put];refine abr 13 rfl HSA3 ?_;refine wpAnyH_done (by kernel_rfl) ?_ _;have hz : (wA.alloc (.cells (cel xb).toArray 29)).heap[wA.heap.size]? = _ := heap_alloc_new wA (.cells (cel xb).toArray 29);have hy := HSA3.out;have hge := HSA.out.size;obtain ⟨bb, hbb⟩ : ∃ bb, wA.heap.size = bb := ⟨_, rfl⟩;rw [hbb] at hz hge ⊢;clear HSA2 HSA3;generalize wA.alloc (.cells (cel xb).toArray 29) = wz at *;obtain ⟨vb, hvb⟩ : ∃ vb, Value.pointer (some ⟨bb, 0, none⟩) = vb := ⟨_, rfl⟩;rw [hvb];exact kk vb wz ⟨bb, hvb.symm, hz, hy, hge⟩
    ·skip
     simp only [aa];obtain ⟨wa, hwa⟩ : ∃ wa, wr.drew.alloc (.cells (cel aA).toArray 29) = wa := ⟨_, rfl⟩;have HSa := HSB;have HQa := ae (heap_alloc_new wr.drew (.cells (cel aA).toArray 29));obtain ⟨bb, hbb⟩ : ∃ bb, wr.drew.heap.size = bb := ⟨_, rfl⟩;have HBL : Hid (wr.heap.size <= bb) := ae (Nat.le_of_eq hbb);rw [hwa] at HSa HQa;rw [hbb] at HQa;rw [hwa, hbb];clear hwa hbb;refine fO 7 rfl (by kernel_rfl) rfl (aB call81 rfl (evc abd (evc abd (evc abd evn)))) ?_;refine ((HJr.out.below HSa).read (m : Int) (i : Int)).mono ?_;rintro e wA ⟨rfl, bA⟩;rw [HXB.out, HEE.out];have HQB := ae (aC HQa bA);have HSb := ae (HSa.out.trans (bA.mono HSa.out.size));clear bA;refine ⟨_, rfl, HSb, ?_⟩;simp only [aa];refine abq 8 rfl HSb ?_;refine abu 9 rfl HSb ?_;refine abu 10 rfl HSb ?_;have HSc := ae (below_setCells HSb HBL (o := 0) (cel xb));refine fT 12 rfl (by kernel_rfl) rfl (bv (c := xb) rfl (ev rfl) (ev rfl) (fi HQB.out)) HSc.out ?_;simp only [Act.put];refine abr 13 rfl HSc ?_;refine wpAnyH_done (by kernel_rfl) ?_ _;have hz : (wA.setCells bb 0 (cel xb)).heap[bb]? = _ := oE HQB;have hy := HSc.out;clear HSc;generalize wA.setCells bb 0 (cel xb) = wz at *;obtain ⟨vb, hvb⟩ : ∃ vb, Value.pointer (some ⟨bb, 0, none⟩) = vb := ⟨_, rfl⟩;rw [hvb];exact kk vb wz ⟨bb, hvb.symm, hz, hy, HBL⟩
   rintro _ wz ⟨g9, rfl, hz9, hy, hge⟩;have HG9 := ae hz9;have HBz := ae (HBr.out.trans (hy.mono HBr.out.size));have HSz := ae (aC HSr hy);have HAz : Hid (Ar2 wz b7 (rdK M m i 0) (rdK M m i 1)) := ae (aC HAr hy);have HNE : Hid (b5 ≠ b7) := ae (by have := HSZ.out; omega);clear hz9 hy hge HSB HSD;by_cases h0 : ee = 0;rotate_left 1
   ·have H0 : Hid ((ee != 0) = true) := ae (bne_iff_ne.2 h0);have HFI : Hid (E = ee /\ M2 = M) := ae (by
     rcases (show i = 0 \/ i = 1 by have := HI.out; omega) with rfl | rfl
     ·have := wI (id := x.id) (en := en) (R := R) (M := M) (m := m) (by rw [show ((0 : Nat) : Int) = 0 from rfl] at HEE; rw [HEE.out]; exact h0);exact ⟨by rw [<- HE.out, this.1]; exact HEE, by rw [<- HM2.out, this.2]⟩
     ·have := vV (id := x.id) (en := en) (R := R) (M := M) (m := m) (HZr.out 0 (by omega)) (by rw [show ((1 : Nat) : Int) = 1 from rfl] at HEE; rw [HEE.out]; exact h0);exact ⟨by rw [<- HE.out, this.1]; exact HEE, by rw [<- HM2.out, this.2]⟩)
    clear h0;go_upto_region 6 with fail;refine bj 1 ?_;refine aa3 (aT true rfl abd evk H0) ?_;refine ag ?_;go_upto_region 7 with fail;refine cq 2 ?_;go_wp2_with fail;go_ret;exact ⟨by rw [HFI.out.1]; rfl, ⟨x.us, .inl rfl, by rw [HFI.out.2]; exact HJ.out.below HBz⟩, HJ.out.kept HBz⟩
   subst h0;go_upto_region 6 with fail;refine bj 1 ?_;refine aa3 (aT false rfl abd evk rfl) ?_;refine ag ?_;have hset := HAz.out.set HI xb;have hk0 : (if i = 0 then xb else rdK M m i 0) = rdK M m (i + 1) 0 := by
    rcases (show i = 0 \/ i = 1 by have := HI.out; omega) with rfl | rfl
    ·rw [if_pos rfl, <- HXB.out]; rfl
    ·rfl
   have hk1 : (if i = 1 then xb else rdK M m i 1) = rdK M m (i + 1) 1 := by
    rcases (show i = 0 \/ i = 1 by have := HI.out; omega) with rfl | rfl
    ·rfl
    ·rw [if_pos rfl, <- HXB.out]; rfl
   rw [hk0, hk1] at hset;have HAs := ae hset;have HSs := ae ((dq b7 (cel xb) (0 + i * 64) wz b5 HNE).trans HSz);have HBs := ae (below_setCells HBz HG7 (o := 0 + i * 64) (cel xb));have HTH := ae (HAz.out.there HI);clear hset hk0 hk1;go_upto_region 8 with fail;refine bj 1 ?_;refine aa3 (bm (c := xb) rfl abd (bK HG9)) ?_;refine aa3 (cY rfl abd abd (xV HI)) ?_;refine az rfl (bv (c := xb) rfl (ev rfl) (ev rfl) HTH.out) ?_;simp only [aa];generalize wz.setCells b7 (0 + i * 64) (cel xb) = ws at *;refine ag ?_;go_upto_region 9 with fail;refine af ?_;refine aa3 (cI rfl abd evk HIA) ?_;refine aK 1 ?_;go_wp2_with fail;go_roundw
   case rel => exact ⟨i + 1, by go_num, by have := HI.out; omega, HBs, HSs, HAs, fun j hj => by
    by_cases e : j = i
    ·subst e; exact HEE
    ·exact HZr.out j (by omega)⟩
   case measure => have := HI.out; simp [intOf]; omega
  have h2 : i = 2 := by omega
  subst h2;have HLT : Hid (decide (((2 : Nat) : Int) < 2) = false) := ae (al (by omega));obtain ⟨a0, ha0⟩ : ∃ a0, dx M m 0 = a0 := ⟨_, rfl⟩;obtain ⟨a1, ha1⟩ : ∃ a1, dx M m 1 = a1 := ⟨_, rfl⟩;have HAq : Hid (Ar2 wr b7 a0 a1) := ae (by rw [<- ha0, <- ha1]; exact HAr);have HR0 : Hid (ce M m 0 = 0) := ae (HZr.out 0 (by omega));have HR1 : Hid (ce M m 1 = 0) := ae (HZr.out 1 (by omega));obtain ⟨n, hn⟩ : ∃ n, kb a0 a1 = n := ⟨_, rfl⟩;have HN := ae hn;have HNN : Hid (kb (dx M m 0) (dx M m 1) = n) := ae (by rw [ha0, ha1]; exact hn);clear ha0 ha1 hn hi hlt HAr HZr;go_upto_region 3 with fail;refine af ?_;refine aa3 (bF false rfl abd evk HLT) ?_;refine ag ?_;go_upto_region 10 with fail;refine bj 1 ?_;refine aa3 (cn (c := ⟨x.id, (m : Int), R⟩) rfl abd (bK HSr)) ?_;refine ay rfl (aB call113 rfl (evc abd (evc abd evn))) ?_;refine (zY en ⟨x.id, (m : Int), R⟩ wr HJr.out.tab HEV HID).mono ?_;rintro e w3 ⟨rfl, b3⟩;rw [HSP.out, HSB'.out];have HB3 := ae (HBr.out.trans (b3.mono HBr.out.size));have HS3 := ae (aC HSr b3);have HA3 : Hid (Ar2 w3 b7 a0 a1) := ae (aC HAq b3);clear b3 HSr HAq;refine br ?_;refine runs 3 ?_;refine aa3 (bJ rfl) ?_;refine az rfl (i5 (c := sb) rfl (ev rfl) (ev rfl)) ?_;simp only [aa];have hb0 := HB3.out.alloc HB3.out.size (.cells (cel sb).toArray 29);have hb00 := (Below.refl w3.heap.size w3).alloc ai (.cells (cel sb).toArray 29);have HG4 := ae (heap_alloc_new w3 (.cells (cel sb).toArray 29));have HS4 := ae (aC HS3 hb00);have HA4 : Hid (Ar2 _ b7 a0 a1) := ae (aC HA3 hb00);have HB4 := ae hb0;obtain ⟨b11, hb11⟩ : ∃ b11, w3.heap.size = b11 := ⟨_, rfl⟩;have HG11 : Hid (w.heap.size <= b11) := ae (by rw [<- hb11]; exact HB3.out.size);rw [hb11] at HG4 ⊢;clear hb11 hb0 hb00 HS3 HA3 HB3;generalize w3.alloc (.cells (cel sb).toArray 29) = w4 at *;refine aK 1 ?_;go_upto_region 11 with fail;refine bj 1 ?_;refine aa3 (aT false rfl abd evk rfl) ?_;refine ag ?_;have HL4 : Hid (se p (some ⟨q, 0, none⟩) x b5 b7 b11 ⟨x.id, (m : Int), R⟩ a0 a1 sb (World.drew w4)) := ae ⟨(HJ.out.below HB4).hul, HS4, HA4, HG4⟩;have HB4d : Hid (Below w.heap.size w (World.drew w4)) := ae (bd HB4);obtain ⟨we, hwe⟩ : ∃ we, iB M m (n : Int) = we := ⟨_, rfl⟩;have HWE := ae hwe;clear HS4 HA4 HG4 hwe;go_upto_region 13 with fail;refine wp_region_held (S := se p (some ⟨q, 0, none⟩) x b5 b7 b11 ⟨x.id, (m : Int), R⟩ a0 a1 sb) (by kernel_rfl) ?_;change wpAnyH _ _ _ _ _ 14 _ _ w4.drew;refine abq 0 rfl HL4 ?_;refine abt 1 rfl HL4 ?_;refine aa6 2 rfl (fun _ hw => ax rfl abd oe) HL4 ?_;refine aa6 3 rfl (fun _ hw => aF rfl abd (tV (PHo.c0 hw.1))) HL4 ?_;refine aa6 4 rfl (fun _ hw => ax rfl abd tR) HL4 ?_;refine aa6 5 rfl (fun _ hw => aF rfl abd (dw ((bK hw.2.1) 1 _ rfl))) HL4 ?_;refine aa6 6 rfl (fun _ hw => cY rfl abd evk x8) HL4 ?_;refine aa6 7 rfl (fun _ hw => bm (c := a0) rfl abd hw.2.2.1.r0) HL4 ?_;refine aa6 8 rfl (fun _ hw => cY rfl abd evk yi) HL4 ?_;refine aa6 9 rfl (fun _ hw => bm (c := a1) rfl abd hw.2.2.1.r1) HL4 ?_;refine aa6 11 rfl (fun _ hw => bm (c := sb) rfl abd (bK hw.2.2.2)) HL4 ?_;refine fO 10 rfl (by kernel_rfl) rfl (aB call114 rfl (evc abd (evc abd evn))) ?_;refine (xp a0 a1 n (World.drew w4) (HJ.out.below HB4d).tab HN).mono ?_;rintro e w5 ⟨rfl, b5'⟩;have HL5 := ae (HL4.out.below b5');have HB5 := ae (HB4d.out.trans (b5'.mono HB4d.out.size));have HJ5 := ae (HJ.out.up HB5);clear b5';refine ⟨_, rfl, HL5, ?_⟩;simp only [aa];refine fO 12 rfl (by kernel_rfl) rfl (aB call9 rfl (evc abd (evc abd (evc abd (evc abd evn))))) ?_;refine (HJ5.out.write (m : Int) (n : Int) sb (dd HRM (by omega))).mono ?_;rintro e w6 ⟨rfl, j6, k6⟩;rw [HWE.out];have HJ6 := ae j6;have HK6 : Hid (da K w w6) := ae ((HJ.out.kept HB5).trans (k6.less fun b e => .inl e));have HS6 := ae (k6.at_ (.inr ⟨HG5, aX HL5.out.2.1⟩) HL5.out.2.1);have HL6 : Hid (se p (some ⟨q, 0, none⟩) x b5 b7 b11 ⟨x.id, (m : Int), R⟩ a0 a1 sb w6) := ae ⟨j6.hul, HS6, k6.at_ (.inr ⟨HG7, aX HL5.out.2.2.1⟩) HL5.out.2.2.1, k6.at_ (.inr ⟨HG11, aX HL5.out.2.2.2⟩) HL5.out.2.2.2⟩;clear j6 k6;refine ⟨_, rfl, HL6, ?_⟩;simp only [aa];refine abr 13 rfl HL6 ?_;refine wpAnyH_done (by kernel_rfl) ?_ _;by_cases h0 : we = 0;rotate_left 1
  ·have H0 : Hid ((we != 0) = true) := ae (bne_iff_ne.2 h0);have hput := yP (id := x.id) (en := en) (R := R) HR0 HR1 HNN HSB' (by rw [HWE.out]; exact h0);have HFI : Hid (E = we /\ M2 = dz M m n sb) := ae ⟨by rw [<- HE.out, hput.1, HWE.out], by rw [<- HM2.out, hput.2]⟩;clear h0 hput;go_upto_region 14 with fail;refine bj 1 ?_;refine aa3 (aT true rfl abd evk H0) ?_;refine ag ?_;go_upto_region 15 with fail;refine cq 2 ?_;go_wp2_with fail;go_ret;exact ⟨by rw [HFI.out.1]; rfl, ⟨x.us, .inl rfl, by rw [HFI.out.2]; exact HJ6.out.less fun b e => .inl e⟩, HK6⟩
  subst h0;have hput := yN (id := x.id) (en := en) (R := R) HR0 HR1 HNN HSB' HWE;have HFI : Hid (E = f8 (dz M m n sb) m /\ M2 = ey (dz M m n sb) m) := ae ⟨by rw [<- HE.out, hput.1], by rw [<- HM2.out, hput.2]⟩;clear hput;go_upto_region 14 with fail;refine bj 1 ?_;refine aa3 (aT false rfl abd evk rfl) ?_;refine ag ?_;obtain ⟨M3, hM3⟩ : ∃ M3, dz M m n sb = M3 := ⟨_, rfl⟩;have HRM3 : Hid (Room M3 1) := ae (by rw [<- hM3]; exact rD HRM _ _ _);rw [hM3] at HFI HJ6;clear hM3;go_upto_region 16 with fail;refine bj 3 ?_;refine aa3 (ax rfl abd uU) ?_;refine az rfl (fJ rfl (ev rfl) (ev rfl) HJ6.out.hul.c24 (HJ6.out.hul.uD 24)) ?_;simp only [aa];have ho := (Only.refl (fun b => b = p) w6).setCell (p := ⟨p, 24, none⟩) (.inl rfl) (.int .u64 (en : Int));have hset := HJ6.out.hul.set (uv _ x en);obtain ⟨hj7, hk7⟩ := HJ6.out.obj ho hset;have HJ7 := ae hj7;have HK7 : Hid (da K w _) := ae (HK6.out.trans (hk7.less fun b e => .inl e));have HS7 := ae (hk7.at_ (.inr ⟨HG5, by have := aX HL5.out.2.1; exact this⟩) HS6);clear ho hset hj7 hk7;generalize w6.setCell ⟨p, 24, none⟩ (.int .u64 (en : Int)) = w7 at *;refine ag ?_;go_upto_region 17 with fail;refine wp_region_still_tail 6 (by kernel_rfl) (by kernel_rfl) ?_;simp only [ac];refine aM rfl (aO rfl abd) ?_;simp only [aa];refine aM rfl (cf rfl abd) ?_;simp only [aa];refine aM rfl (ax rfl abd oe) ?_;simp only [aa];refine aM rfl (aF rfl abd (tV (PHo.c0 HJ7.out.hul))) ?_;simp only [aa];refine aM rfl (ax rfl abd tR) ?_;simp only [aa];refine aM rfl (aF rfl abd (dw ((bK HS7) 1 _ rfl))) ?_;simp only [aa];refine wpStill_nil ?_;change wpList _ _ _ _ _ (World.drew _);refine ay rfl (aB call15 rfl (evc abd (evc abd evn))) ?_;refine (HJ7.out.drew.flush (m : Int) HRM3).mono ?_;rintro e w8 ⟨rfl, j8, k8⟩;refine br ?_;refine aK 1 ?_;go_wp2_with fail;go_ret;exact ⟨by rw [HFI.out.1]; rfl, ⟨en, .inr rfl, by rw [HFI.out.2]; exact j8.less fun b e => .inl e⟩, HK7.out.trans (k8.less fun b e => .inl e)⟩
end
def bi (x : Tld) : List Value := .int .u64 x.ev :: aS x.S
def tlV (x : Tld) : Value := .agg (bi x).toArray
theorem aH (x : Tld) : (bi x).length = 24 := by simp [bi, aG]
theorem jI (x : Tld) : ∀ v ∈ bi x, v.oneCell' = true := by
 intro v hv;simp only [bi, List.mem_cons] at hv;rcases hv with rfl | hv
 ·rfl
 ·exact kX _ v hv
theorem eY : (prog.info? 101).map (·.size) = some 24 := by kernel_rfl
theorem jV : (prog.info? 101).map (fun i => i.zero) = some (some (tlV aP)) := by kernel_rfl
theorem yS : (prog.info? 101).map (fun i => (i.zero, i.size, i.bytes)) = some (some (tlV aP), 24, 80) := by kernel_rfl
section
variable {ρ : Operand -> Value} {o : Oper} {x y : Operand} {w : World} {b off : Nat}
theorem eg {c : Tld} (ho : o.op = .load 101 x) (hx : ρ x = .pointer (some ⟨b, off, none⟩)) (hc : w.rangeAt b off (bi c)) : (execOp ρ o).run prog w = .ok (.value (tlV c)) w :=
 ec underlying101 rfl (by rw [aH]; exact eY) ho hx hc
theorem qK {c : Tld} (ho : o.op = .box 101 x) (hx : ρ x = tlV c) : (execOp ρ o).run prog w = .ok (.value (.pointer (some ⟨w.heap.size, 0, none⟩))) (w.alloc (.cells (bi c).toArray 101)) := et ho hx
theorem cW (ho : o.op = .alloc 101) : (execOp ρ o).run prog w = .ok (.value (.pointer (some ⟨w.heap.size, 0, none⟩))) (w.alloc (.cells (bi aP).toArray 101)) := dl jV ho
theorem eO {c d : Tld} (ho : o.op = .store 101 x y) (hx : ρ x = .pointer (some ⟨w.heap.size, 0, none⟩)) (hy : ρ y = tlV c) : (execOp ρ o).run prog (w.alloc (.cells (bi d).toArray 101)) = .ok .skip (w.alloc (.cells (bi c).toArray 101)) :=
 fP (by rw [aH]; exact eY) (by rw [aH, aH]) (jI c) ho hx hy
theorem dp {c : Tld} (ho : o.op = .store 101 x y) (hx : ρ x = .pointer (some ⟨b, off, none⟩)) (hy : ρ y = tlV c) (ht : w.there b off 24) : (execOp ρ o).run prog w = .ok .skip (w.setCells b off (bi c)) :=
 el (by rw [aH]; exact eY) (jI c) ho hx hy (by rw [aH]; exact ht)
theorem su (w : World) : (Instr.build 101 #[]).run prog w = .ok (tlV aP) w := by kernel_rfl
theorem dY (ho : o.op = .build 101 #[]) : (execOp ρ o).run prog w = .ok (.value (tlV aP)) w := fN ho (su w)
theorem pL (x : Tld) (w : World) : (Instr.build 101 #[(0, .int .u64 (x.ev : Int)), (1, sup x.S)]).run prog w = .ok (tlV x) w := by
 have hz := fh jV w;have h0 := ct (place := fun i => (#[(0, 1), (1, 23)] : Array (Nat × Nat))[i]?) (i := 0) (off := 0) (size := 1) (v := .int .u64 (x.ev : Int)) (pre := []) (mid := [.int .u64 0]) (post := aS bg) (vs := [.int .u64 (x.ev : Int)]) (rest := [(1, sup x.S)]) rfl rfl rfl rfl rfl;have h1 := ct (place := fun i => (#[(0, 1), (1, 23)] : Array (Nat × Nat))[i]?) (i := 1) (off := 1) (size := 23) (v := sup x.S) (pre := [.int .u64 (x.ev : Int)]) (mid := aS bg) (post := []) (vs := aS x.S) (rest := []) rfl rfl (aG x.S) rfl (aG bg);simp only [List.nil_append, List.append_nil, List.cons_append] at h0 h1;have h4 := h0.trans h1;have hz' : (zeroValue 101).run prog w = .ok (.agg (.int .u64 0 :: aS bg).toArray) w := hz;have hc : (Value.agg (.int .u64 0 :: aS bg).toArray).cells = (.int .u64 0 :: aS bg).toArray := rfl;simp only [Instr.build, Sem.run_bind, hz', run_underlying underlying101, Result.andThen_ok, hc];refine Eq.trans (congrArg (fun r => Result.andThen r _) (?h : _ = Result.ok #[(0, 1), (1, 23)] w)) ?_
 case h => kernel_rfl
 simp only [Result.andThen_ok];have h5 : Instr.fill (fun i => (#[(0, 1), (1, 23)] : Array (Nat × Nat))[i]?) (bi x).toArray [] = some (bi x).toArray := by rw [Instr.fill]
 rw [h4.trans h5]
 rfl
theorem og {p q : Operand} {e : Nat} {S : Sup} (ho : o.op = .build 101 #[(0, p), (1, q)]) (hp : ρ p = .int .u64 (e : Int)) (hq : ρ q = sup S) : (execOp ρ o).run prog w = .ok (.value (tlV ⟨e, S⟩)) w := by
 have h := pL ⟨e, S⟩ w;dsimp only at h;unfold execOp;simp only [ho, hp, hq, List.map_toArray, List.map_cons, List.map_nil, Sem.run_bind, h, Result.andThen_ok, Sem.run_pure]
theorem hU : (Instr.fieldAt 101 (.pointer (some ⟨b, 0, none⟩)) 0).run prog w = .ok (.pointer (some ⟨b, 0, none⟩)) w := by kernel_rfl
theorem gG : (Instr.fieldAt 101 (.pointer (some ⟨b, 0, none⟩)) 1).run prog w = .ok (.pointer (some ⟨b, 1, none⟩)) w := by kernel_rfl
theorem nZ : (Instr.fieldAt 37 (.pointer (some ⟨b, off, none⟩)) 0).run prog w = .ok (.pointer (some ⟨b, off, none⟩)) w := by kernel_rfl
theorem tZ : (Instr.fieldAt 37 (.pointer (some ⟨b, off, none⟩)) 1).run prog w = .ok (.pointer (some ⟨b, off + 1, none⟩)) w := by kernel_rfl
theorem ut : (Instr.fieldAt 37 (.pointer (some ⟨b, off, none⟩)) 2).run prog w = .ok (.pointer (some ⟨b, off + 2, none⟩)) w := by kernel_rfl
theorem ly {p q : Operand} {t : TypeId} {x y : Ros} (c : Bool) (ho : o.op = .binOp .eql 32 p q t) (hx : ρ p = geo x) (hy : ρ q = geo y) (h : lI x y = c) : (execOp ρ o).run prog w = .ok (.value (.bool c)) w := by
 subst h; exact oT vY (wQ w x y 9998) ho hx hy
end
def lU : Elt Tld where
 s := 106
 t := 101
 n := 24
 by_ := 80
 cel := bi
 d := aP
 z := tlV aP
 pos := by omega
 small := by omega
 len := aH
 one := jI
 und := underlying106
 info := yS
 zc := by show (Value.cells (.agg _)).size = 24; simp [Value.cells, aH]
def cK (w : World) (b : Nat) (x : Tld) : Prop := w.heap[b]? = some (.cells (bi x).toArray 101 (0, 0))
section
variable {w : World} {b off : Nat} {x : Tld}
theorem cK.rg (h : cK w b x) : w.rangeAt b 0 (bi x) := bK h
theorem cK.ev (h : cK w b x) : w.cell? ⟨b, 0, none⟩ = some (.int .u64 (x.ev : Int)) := h.rg 0 _ rfl
theorem cK.id (h : cK w b x) : w.cell? ⟨b, 1, none⟩ = some (.int .u64 (x.S.id : Int)) := h.rg 1 _ rfl
theorem cK.self (h : cK w b x) : w.cell? ⟨b, 2, none⟩ = some (.int .i64 x.S.self) := h.rg 2 _ rfl
theorem cK.sup (h : cK w b x) : w.rangeAt b 1 (aS x.S) := by
 have := dJ (ds := [.int .u64 x.ev]) (es := aS x.S) (fs := []) (k := 1) h.rg (by simp [bi]) rfl;rwa [Nat.zero_add] at this
theorem cK.ros (h : cK w b x) : w.rangeAt b 3 (aQ x.S.ros) := by
 have := dJ (ds := [.int .u64 x.ev, .int .u64 x.S.id, .int .i64 x.S.self]) (es := aQ x.S.ros) (fs := []) (k := 3) h.rg (by simp [bi, aS]) rfl;rwa [Nat.zero_add] at this
theorem cK.nC (h : cK w b x) : w.rangeAt b 3 (dn x.S.ros) := qh h.ros
end
theorem gv {w : World} {F : Nat -> Prop} {q L : Nat} {M : aJ} (hB : aL.Bn w F q M) (hL : M.ds.length = L + 1) : Calls prog 60 #[.pointer (some ⟨q, 0, none⟩)] w fun e w' => e = .returned (.int .i64 (L : Int)) /\ Below w.heap.size w w' := by
 have hw := (aL.wf hB).cap;have HB := ae hB;have HA : Hid (IntKind.i64.wrap ((M.ds.length : Int) - 1) = (L : Int)) := ae (by rw [fu (by omega)]; omega);clear hB hL hw;go_enter func60, ntmps60;go_upto_region 0 with fail;refine cq 1 ?_;go_upto_region 1 with fail;refine bj 1 ?_;refine ay rfl (aB call25 rfl (evc abd evn)) ?_;refine (aL.devices HB).mono ?_;rintro e w1 ⟨rfl, b_⟩;have HW := ae b_;clear b_;refine br ?_;refine aa3 (lE rfl abd evk HA) ?_;refine aK 1 ?_;go_wp2_with fail;go_ret;exact ⟨rfl, HW⟩
def qI (M : aJ) : Int := if M.bH = true then 8 else 0
theorem kG {w : World} {F : Nat -> Prop} {q : Nat} {M : aJ} (hB : aL.Bn w F q M) : Calls prog 54 #[.pointer (some ⟨q, 0, none⟩)] w fun e w' => e = .returned (.int .i64 (qI M)) /\ Below w.heap.size w w' := by
 have hw := (aL.wf hB).one;have HB := ae hB;have HA : Hid (((M.ds.length : Int) == 0) = false) := ae (ar (by omega));obtain ⟨dk, hdk⟩ : ∃ dk, M.bH = dk := ⟨_, rfl⟩;have HX : Hid (qI M = if dk = true then 8 else 0) := ae (by unfold qI; rw [hdk]);have HDK := ae hdk;clear hB hw hdk;go_enter func54, ntmps54;go_upto_region 0 with fail;refine cq 1 ?_;go_upto_region 1 with fail;refine bj 1 ?_;refine ay rfl (aB call25 rfl (evc abd evn)) ?_;refine (aL.devices HB).mono ?_;rintro e w1 ⟨rfl, b_⟩;have HW := ae b_;clear b_;refine br ?_;refine aa3 (aE false rfl abd evk HA) ?_;refine aK 1 ?_;go_upto_region 3 with fail;refine bj 1 ?_;refine ay rfl (aB call78 rfl (evc abd evn)) ?_;refine (aL.bH (aL.below HB HW)).mono ?_;rintro e w2 ⟨rfl, b_⟩;rw [HDK.out];have HW2 := ae (HW.out.trans (b_.mono HW.out.size));clear b_;refine br ?_;refine aK 1 ?_;cases dk
 ·go_upto_region 5 with fail;refine cq 1 ?_;go_wp2_with fail;go_ret;exact ⟨by rw [HX.out]; rfl, HW2⟩
 ·go_upto_region 4 with fail;refine cq 1 ?_;go_wp2_with fail;go_ret;exact ⟨by rw [HX.out]; rfl, HW2⟩
theorem rG {w : World} {F : Nat -> Prop} {q : Nat} {M : aJ} {R : Ros} (hB : aL.Bn w F q M) (hg : dM R = true) : Calls prog 83 #[.pointer (some ⟨q, 0, none⟩), geo R] w fun e w' => e = .returned (.bool (gaF M 0 R)) /\ Below w.heap.size w w' := by
 have hgg := fa hg;have hwf := aL.wf hB;have hw1 := hwf.one;have hw2 := hwf.cap;obtain ⟨L, hL⟩ : ∃ L, M.ds.length = L + 1 := ⟨M.ds.length - 1, by omega⟩;obtain ⟨mn, hmn⟩ : ∃ mn : Nat, R.m = (mn : Int) := ⟨R.m.toNat, by omega⟩;have HBN := ae hB;have HL := ae hL;have HM := ae hmn;have HMN : Hid (R.m.toNat = mn) := ae (by omega);have HM16 : Hid (mn <= 16) := ae (by omega);have HA10 : Hid (IntKind.i64.wrap (10 + R.r) = 10 + R.r) := ae (fu (by omega));have HA1 : Hid (IntKind.i64.wrap (R.s - 1) = R.s - 1) := ae (fu (by omega));have HSN : Hid (tJ (R.s - 1) = R.s + 1 /\ tn (R.s - 1) = 0) := ae (by
  have h : has 64 (R.s - 1) = true := kh.2 (by omega);unfold tJ tn;rw [if_pos h, if_pos h];exact ⟨by omega, rfl⟩)
 obtain ⟨X, hX⟩ : ∃ X, gaF M 0 R = X := ⟨_, rfl⟩;have HX := ae hX;rw [hX];clear hB hg hgg hwf hw1 hw2 hL hmn hX;go_enter func83, ntmps83;go_upto_region 0 with fail;refine af ?_;refine aa3 (et (cs := dn R) rfl abd) ?_;have hbx := (Below.refl w.heap.size w).alloc ai (.cells (dn R).toArray 32);have HB1 := ae hbx;have HG1 := ae (heap_alloc_new w (.cells (dn R).toArray 32));obtain ⟨b5, h5⟩ : ∃ b5, w.heap.size = b5 := ⟨_, rfl⟩;rw [h5] at HG1 ⊢;clear hbx h5;generalize w.alloc (.cells (dn R).toArray 32) = w1 at *;refine aK 1 ?_;go_upto_region 1 with fail;refine ch (B := w1.heap.size) (by kernel_rfl) ?_;refine abb (fun _ hw => ax rfl abd uB) ?_;refine abb (fun _ hw => aF rfl abd (dw (k := R.m) ((bK (aC HG1 hw)) 0 _ rfl))) ?_;refine e9 1 ?_;refine cN rfl (fun _ => aB call60 rfl (evc abd evn)) (cz ai fun _ hw => gv (aL.below (aL.below HBN HB1) hw) HL) ?_;simp only [aa];by_cases c2 : R.m ≠ (L : Int)
 ·have H2 : Hid ((R.m != (L : Int)) = true) := ae (bne_iff_ne.2 c2);have HXF : Hid (X = false) := ae (by
   rw [<- HX.out];refine Bool.eq_false_iff.2 fun e => ?_
   have h1 := mO e;have h2 := HL.out;omega)
  clear c2;refine abb (fun _ hw => aT true rfl abd abd H2) ?_;refine wpQuiet_nil ?_;intro w3 hw;have HB3 := ae (HB1.out.trans (hw.mono HB1.out.size));have HG3 := ae (aC HG1 hw);clear hw;go_upto_region 2 with fail;refine cq 1 ?_;go_wp2_with fail;go_ret;rw [HXF.out];exact ⟨rfl, HB3⟩
 have H2 : Hid ((R.m != (L : Int)) = false) := ae (bne_eq_false_iff_eq.2 (by omega));have HLM : Hid (R.m = (L : Int)) := ae (by omega);clear c2;refine abb (fun _ hw => aT false rfl abd abd H2) ?_;refine wpQuiet_nil ?_;intro w3 hw;have HB3 := ae (HB1.out.trans (hw.mono HB1.out.size));have HG3 := ae (aC HG1 hw);clear hw;go_upto_region 3 with fail;refine af ?_;refine aa3 (ax rfl abd aam) ?_;refine aa3 (aF rfl abd (dw (k := R.s) ((bK HG3) 1 _ rfl))) ?_;refine aa3 (lE rfl abd evk HA1) ?_;refine ay rfl (aB call93 rfl (evc abd evn)) ?_;refine (jQ (R.s - 1) w3).mono ?_;rintro e w4 ⟨rfl, b_⟩;rw [HSN.out.1, HSN.out.2];have HB4 := ae (HB3.out.trans (b_.mono HB3.out.size));have HG4 := ae (aC HG3 b_);clear b_ HB1 HB3 HG1 HG3;refine br ?_;refine runs 3 ?_;refine aK 2 ?_;go_upto_region 4 with fail;refine af ?_;refine aa3 (ax rfl abd uB) ?_;refine aa3 (aF rfl abd (dw (k := R.m) ((bK HG4) 0 _ rfl))) ?_;refine aK 1 ?_;go_wp2_with fail
 go_loopw [22] (fun z wr => ∃ i : Nat, z = .int .i64 i /\ i <= mn /\ m9 M R.s i = true /\ Below w.heap.size w wr /\ wr.heap[b5]? = some (.cells (dn R).toArray 32 (0, 0))) (fun z _ => mn - (intOf z).toNat)
 case atStart => exact ⟨0, by go_num, Nat.zero_le _, rfl, HB4, HG4⟩
 case round =>
  clear HB4 HG4;obtain ⟨i, rfl, hi, hs, hb, hg⟩ := hrel;have HIL := ae hi;have HSr := ae hs;have HBr := ae hb;have HGr := ae hg;clear hi hs hb hg;by_cases hlt : i < mn
  ·have HI := ae hlt;have HLT : Hid (decide ((i : Int) < R.m) = true) := ae (am (by have := HM.out; omega));have HIA : Hid (IntKind.i64.wrap ((i : Int) + 1) = ((i + 1 : Nat) : Int)) := ae (by have := HM16.out; rw [fu ⟨by omega, by omega⟩]; omega);clear hlt;go_upto_region 5 with fail;refine af ?_;refine aa3 (bF true rfl abd abd HLT) ?_;refine ag ?_;go_upto_region 6 with fail;refine cq 2 ?_;go_upto_region 7 with fail;refine bj 2 ?_;refine ay rfl (aB call94 rfl (evc abd (evc abd evn))) ?_;refine (aL.dV ((i : Nat) : Int) (aL.below HBN HBr)).mono ?_;rintro e w5 ⟨rfl, b_⟩;have HB5 := ae (HBr.out.trans (b_.mono HBr.out.size));have HG5 := ae (aC HGr b_);clear b_;refine br ?_;refine runs 1 ?_;by_cases hq : dv M (i : Int) <= R.s + 1
   ·have HQ : Hid (decide (dv M (i : Int) <= R.s + 1) = true) := ae (am hq);have HXF : Hid (X = false) := ae (by
     rw [<- HX.out];refine Bool.eq_false_iff.2 fun e => ?_
     have h1 := (mO e).2.2.2;have h2 := i7.1 h1 i (by have := HI.out; have := HMN.out; omega);omega)
    clear hq;refine aa3 (fU true rfl abd abd HQ) ?_;refine ag ?_;go_upto_region 8 with fail;refine cq 1 ?_;go_wp2_with fail;go_ret;rw [HXF.out];exact ⟨rfl, HB5⟩
   ·have HQ : Hid (decide (dv M (i : Int) <= R.s + 1) = false) := ae (al hq);have HSN2 : Hid (m9 M R.s (i + 1) = true) := ae (by rw [m9, HSr.out, al (show ¬ dv M (i : Int) < 2 + R.s by omega)]; rfl);clear hq;refine aa3 (fU false rfl abd abd HQ) ?_;refine ag ?_;go_upto_region 9 with fail;refine af ?_;refine aa3 (cI rfl abd evk HIA) ?_;refine aK 1 ?_;go_wp2_with fail;go_roundw
    case rel => exact ⟨i + 1, by go_num, HI, HSN2, HB5, HG5⟩
    case measure => have := HI.out; simp [intOf]; omega
  have hin : i = mn := by have := HIL.out; omega
  subst hin;have HLT : Hid (decide ((i : Int) < R.m) = false) := ae (al (by have := HM.out; omega));have HXV : Hid (X = decide (10 + R.r <= dv M R.m)) := ae (by
   rw [<- HX.out];unfold gaF;rw [am (show (0 : Nat) <= 2305843009213693952 by omega), am (show (M.ds.length : Int) = R.m + 1 by have := HLM.out; have := HL.out; omega), HMN.out, HSr.out];by_cases c : dv M R.m < 10 + R.r
   ·rw [am c, al (show ¬ 10 + R.r <= dv M R.m by omega)]; rfl
   ·rw [al c, am (show 10 + R.r <= dv M R.m by omega)]; rfl)
  clear hlt;go_upto_region 5 with fail;refine af ?_;refine aa3 (bF false rfl abd abd HLT) ?_;refine ag ?_;obtain ⟨y, hy⟩ : ∃ y, decide (10 + R.r <= dv M R.m) = y := ⟨_, rfl⟩;have HY := ae hy;clear hy;go_upto_region 10 with fail;refine ch (B := wr.heap.size) (by kernel_rfl) ?_;refine e9 1 ?_;refine abb (fun _ hw => aE true rfl abd evk rfl) ?_;refine e9 2 ?_;refine abc (fun _ hw => ax rfl abd uB) ?_;refine abc (fun _ hw => aF rfl abd (dw (k := R.m) ((bK (aC HGr hw)) 0 _ rfl))) ?_;refine cN aaY (fun _ => aB call94 rfl (evc abd (evc abd evn))) (cz ai fun _ hw => aL.dV R.m (aL.below (aL.below HBN HBr) hw)) ?_;simp only [aa];refine abc (fun _ hw => ax rfl abd zI) ?_;refine abc (fun _ hw => aF rfl abd (dw (k := R.r) ((bK (aC HGr hw)) 2 _ rfl))) ?_;refine abc (fun _ hw => cI rfl evk abd HA10) ?_;refine abc (fun _ hw => cl y rfl abd abd HY) ?_;refine e9 2 ?_;refine wpQuiet_nil ?_;intro w6 hw;go_wp2_with fail;go_ret;rw [HXV.out, HY.out];exact ⟨rfl, HBr.out.trans (hw.mono HBr.out.size)⟩
theorem lB (t : Tld) (j : Nat) (f : Fnd) (w : World) : Calls prog 62 #[tlV t, .int .i64 (j : Int), fnd f] w fun e w' => e = .returned (.bool (tlW t j f.id f.R)) /\ Below w.heap.size w w' := by
 obtain ⟨X, hX⟩ : ∃ X, tlW t j f.id f.R = X := ⟨_, rfl⟩;have HX := ae hX;rw [hX];clear hX;go_enter func62, ntmps62;go_upto_region 0 with fail;refine af ?_;refine aa3 (qK (c := t) rfl abd) ?_;have hbx := (Below.refl w.heap.size w).alloc ai (.cells (bi t).toArray 101);have HB1 := ae hbx;have HT1 : Hid (cK (w.alloc (.cells (bi t).toArray 101)) w.heap.size t) := ae (heap_alloc_new w (.cells (bi t).toArray 101));obtain ⟨b3, h3⟩ : ∃ b3, w.heap.size = b3 := ⟨_, rfl⟩;rw [h3] at HT1 ⊢;clear hbx h3;generalize w.alloc (.cells (bi t).toArray 101) = w1 at *;refine aa3 (q9 (c := f) rfl abd) ?_;have hbx := (Below.refl w1.heap.size w1).alloc ai (.cells (bN f).toArray 50);have HB2 := ae (HB1.out.trans (hbx.mono HB1.out.size));have HT2 : Hid (cK (w1.alloc (.cells (bN f).toArray 50)) b3 t) := ae (aC HT1 hbx);have HF2 : Hid (dS (w1.alloc (.cells (bN f).toArray 50)) w1.heap.size f) := ae (heap_alloc_new w1 (.cells (bN f).toArray 50));obtain ⟨b5, h5⟩ : ∃ b5, w1.heap.size = b5 := ⟨_, rfl⟩;rw [h5] at HF2 ⊢;clear hbx h5 HB1 HT1;generalize w1.alloc (.cells (bN f).toArray 50) = w2 at *;refine aK 1 ?_;by_cases c0 : t.ev ≠ 0;rotate_left 1
 ·have H0 : Hid (((t.ev : Int) != 0) = false) := ae (bne_eq_false_iff_eq.2 (by omega));have HXV : Hid (X = false) := ae (by rw [<- HX.out]; unfold tlW; rw [al c0]; rfl);clear c0;go_upto_region 1 with fail;refine af ?_;refine aa3 (ax rfl abd hU) ?_;refine aa3 (aF rfl abd (cX (HT2.out.ev))) ?_;refine aa3 (aT false rfl abd evk H0) ?_;refine aN 6 rfl (aO rfl abd) (by kernel_rfl) ?_;simp only [bu, ac, aa];refine runs 1 ?_;refine aN 5 rfl (aO rfl abd) (by kernel_rfl) ?_;simp only [bu, ac, aa];refine runs 1 ?_;refine aN 8 rfl (aO rfl abd) (by kernel_rfl) ?_;simp only [bu, ac, aa];refine aK 2 ?_;go_wp2_with fail;go_ret;exact ⟨by rw [HXV.out]; rfl, HB2⟩
 have H0 : Hid (((t.ev : Int) != 0) = true) := ae (bne_iff_ne.2 (by omega));have HX1 : Hid (X = (decide (t.S.id = f.id) && (decide (t.S.self = (j : Int)) && lI t.S.ros f.R))) := ae (by rw [<- HX.out]; unfold tlW; rw [am c0]; rfl);clear c0;by_cases c1 : t.S.id = f.id;rotate_left 1
 ·have H1 : Hid (((t.S.id : Int) == (f.id : Int)) = false) := ae (ar (by omega));have HXV : Hid (X = false) := ae (by rw [HX1.out, al c1]; rfl);clear c1;go_upto_region 1 with fail;refine af ?_;refine aa3 (ax rfl abd hU) ?_;refine aa3 (aF rfl abd (cX (HT2.out.ev))) ?_;refine aa3 (aT true rfl abd evk H0) ?_;refine runs 1 ?_;refine aba (ax rfl abd gG) ?_;refine aba (ax rfl abd nZ) ?_;refine aba (aF rfl abd (cX (HT2.out.id))) ?_;refine aba (ax rfl abd o7) ?_;refine aba (aF rfl abd (cX (HF2.out.cells.2))) ?_;refine aba (aE false rfl abd abd H1) ?_;refine runs 1 ?_;refine aN 5 rfl (aO rfl abd) (by kernel_rfl) ?_;simp only [bu, ac, aa];refine runs 1 ?_;refine aN 8 rfl (aO rfl abd) (by kernel_rfl) ?_;simp only [bu, ac, aa];refine aK 2 ?_;go_wp2_with fail;go_ret;exact ⟨by rw [HXV.out]; rfl, HB2⟩
 have H1 : Hid (((t.S.id : Int) == (f.id : Int)) = true) := ae (beq_iff_eq.2 (by omega));have HX2 : Hid (X = (decide (t.S.self = (j : Int)) && lI t.S.ros f.R)) := ae (by rw [HX1.out, am c1]; rfl);clear c1;by_cases c2 : t.S.self = (j : Int);rotate_left 1
 ·have H2 : Hid ((t.S.self == (j : Int)) = false) := ae (ar c2);have HXV : Hid (X = false) := ae (by rw [HX2.out, al c2]; rfl);clear c2;go_upto_region 1 with fail;refine af ?_;refine aa3 (ax rfl abd hU) ?_;refine aa3 (aF rfl abd (cX (HT2.out.ev))) ?_;refine aa3 (aT true rfl abd evk H0) ?_;refine runs 1 ?_;refine aba (ax rfl abd gG) ?_;refine aba (ax rfl abd nZ) ?_;refine aba (aF rfl abd (cX (HT2.out.id))) ?_;refine aba (ax rfl abd o7) ?_;refine aba (aF rfl abd (cX (HF2.out.cells.2))) ?_;refine aba (aE true rfl abd abd H1) ?_;refine runs 2 ?_;refine aba (ax rfl abd gG) ?_;refine aba (ax rfl abd tZ) ?_;refine aba (aF rfl abd (dw (HT2.out.self))) ?_;refine runs 1 ?_;refine aba (aE false rfl abd abd H2) ?_;refine runs 1 ?_;refine aN 8 rfl (aO rfl abd) (by kernel_rfl) ?_;simp only [bu, ac, aa];refine aK 2 ?_;go_wp2_with fail;go_ret;exact ⟨by rw [HXV.out]; rfl, HB2⟩
 have H2 : Hid ((t.S.self == (j : Int)) = true) := ae (beq_iff_eq.2 c2);have HX3 : Hid (X = lI t.S.ros f.R) := ae (by rw [HX2.out, am c2]; rfl);clear c2;cases c3 : lI t.S.ros f.R
 ·have H3 := ae c3;have HXV : Hid (X = false) := ae (HX3.out.trans c3);clear c3;go_upto_region 1 with fail;refine af ?_;refine aa3 (ax rfl abd hU) ?_;refine aa3 (aF rfl abd (cX (HT2.out.ev))) ?_;refine aa3 (aT true rfl abd evk H0) ?_;refine runs 1 ?_;refine aba (ax rfl abd gG) ?_;refine aba (ax rfl abd nZ) ?_;refine aba (aF rfl abd (cX (HT2.out.id))) ?_;refine aba (ax rfl abd o7) ?_;refine aba (aF rfl abd (cX (HF2.out.cells.2))) ?_;refine aba (aE true rfl abd abd H1) ?_;refine runs 2 ?_;refine aba (ax rfl abd gG) ?_;refine aba (ax rfl abd tZ) ?_;refine aba (aF rfl abd (dw (HT2.out.self))) ?_;refine runs 1 ?_;refine aba (aE true rfl abd abd H2) ?_;refine runs 2 ?_;refine aba (ax rfl abd gG) ?_;refine aba (ax rfl abd ut) ?_;refine aba (ax rfl abd l8) ?_;refine aba (cv (c := t.S.ros) rfl abd HT2.out.nC) ?_;refine aba (ax rfl abd mg) ?_;refine aba (ax rfl abd l8) ?_;refine aba (cv (c := f.R) rfl abd HF2.out.nC) ?_;refine aba (ly false rfl abd abd H3) ?_;refine aK 2 ?_;go_wp2_with fail;go_ret;exact ⟨by rw [HXV.out]; rfl, HB2⟩
 ·have H3 := ae c3;have HXV : Hid (X = true) := ae (HX3.out.trans c3);clear c3;go_upto_region 1 with fail;refine af ?_;refine aa3 (ax rfl abd hU) ?_;refine aa3 (aF rfl abd (cX (HT2.out.ev))) ?_;refine aa3 (aT true rfl abd evk H0) ?_;refine runs 1 ?_;refine aba (ax rfl abd gG) ?_;refine aba (ax rfl abd nZ) ?_;refine aba (aF rfl abd (cX (HT2.out.id))) ?_;refine aba (ax rfl abd o7) ?_;refine aba (aF rfl abd (cX (HF2.out.cells.2))) ?_;refine aba (aE true rfl abd abd H1) ?_;refine runs 2 ?_;refine aba (ax rfl abd gG) ?_;refine aba (ax rfl abd tZ) ?_;refine aba (aF rfl abd (dw (HT2.out.self))) ?_;refine runs 1 ?_;refine aba (aE true rfl abd abd H2) ?_;refine runs 2 ?_;refine aba (ax rfl abd gG) ?_;refine aba (ax rfl abd ut) ?_;refine aba (ax rfl abd l8) ?_;refine aba (cv (c := t.S.ros) rfl abd HT2.out.nC) ?_;refine aba (ax rfl abd mg) ?_;refine aba (ax rfl abd l8) ?_;refine aba (cv (c := f.R) rfl abd HF2.out.nC) ?_;refine aba (ly true rfl abd abd H3) ?_;refine aK 2 ?_;go_wp2_with fail;go_ret;exact ⟨by rw [HXV.out]; rfl, HB2⟩
end Go.Proofs.YtehefifamaofkaaGreatDoor
