import Derived.Test.YtdmhelalbemlcaaGreatDoorSkal
namespace Go.Proofs.YtdmhelalbemlcaaGreatDoor
set_option maxHeartbeats 8000000
open Go.Proofs.Tryz
open Go.RowKit
set_option linter.unusedVariables false
set_option linter.unusedSimpArgs false
set_option maxRecDepth 100000
theorem tO {s sk no : Int} (hno : no ≠ 0) : ∀ (k i : Nat) (h : HuS) (x : Blk), (ftK s sk no k i h x).1 ≠ 0 -> (ftK s sk no k i h x).2.1 = aF
 |0, i, h, x => fun e => absurd rfl e
 |k + 1, i, h, x => by
  rw [ftK]
  split
  ·exact tO hno k (i + 1) h x
  ·split
   ·exact tO hno k (i + 1) _ _
   ·intro _; rfl
theorem agr {h : HuS} {s m : Int} (e : (ik h s m).1 ≠ 0) : (ik h s m).2.1 = aF := by
 unfold ik at e ⊢
 split
 ·rename_i h7
  rw [if_pos h7] at e;exact tO (by decide) _ _ _ _ e
 ·rename_i h7
  rw [if_neg h7] at e;exact if_neg e
theorem PSh.only {F S : Nat -> Prop} {w w' : World} {t K : Nat} {s : ShS} (h : PSh w S t K s) (hk : Only F w w') (hF : ∀ b, S b -> ¬ F b) : PSh w' S t K s := by
 obtain ⟨lp, mp, FL, m, r, h1, h2, rfl⟩ := h;exact ⟨lp, mp, FL, m, r, h1.only hk hF, h2, rfl⟩
structure QS (C : gZ) (w0 : World) (G0 S0 : Nat -> Prop) (q p t K : Nat) (O : Nat -> Prop) (w : World) (h : HuS) (s : ShS) (G S : Nat -> Prop) : Prop where
 j : C.J w G q p h
 a : PSh w S t K s
 d : ∀ b, G b -> ¬ S b
 on : Only (fun b => G0 b \/ S0 b) w0 w
 gj : Grow w0 G0 G
 ga : Grow w0 S0 S
 o : ∀ b, O b -> ¬ G b /\ ¬ S b /\ b < w.heap.size /\ w0.heap.size <= b
 cr : CrG w0 G0 /\ ¬ S0 0
section
variable {C : gZ} {w w' w0 : World} {G G' G0 S S' S0 : Nat -> Prop} {p q t K : Nat} {h h' : HuS} {s s' : ShS} {O O' : Nat -> Prop}
theorem QS.start (j : C.J w G q p h) (a : PSh w S t K s) (d : ∀ b, G b -> ¬ S b) (c1 : CrG w G) (c2 : ¬ S 0) : QS C w G S q p t K (fun _ => False) w h s G S := ⟨j, a, d, Only.refl _ _, Grow.same _ _, Grow.same _ _, fun _ e => e.elim, c1, c2⟩
theorem QS.guard (e : QS C w0 G0 S0 q p t K O w h s G S) (k : Below w.heap.size w w') (hO : ∀ b, O' b -> O b \/ (w.heap.size <= b /\ b < w'.heap.size)) : QS C w0 G0 S0 q p t K O' w' h s G S := by
 have hs := k.size;have hn := Only.of_below (fun _ => False) k;refine ⟨C.only e.j hn fun _ _ x => x, e.a.below k, e.d, e.on.iC k, e.gj, e.ga, fun b hb => ?_, e.cr⟩;have h0 := e.on.size;rcases hO b hb with x | ⟨x1, x2⟩
 ·exact ⟨(e.o b x).1, (e.o b x).2.1, au (e.o b x).2.2.1 hs, (e.o b x).2.2.2⟩
 ·exact ⟨fun x => by have := C.lt e.j b x; omega, fun x => by have := e.a.lt b x; omega, x2, by omega⟩
theorem QS.below (e : QS C w0 G0 S0 q p t K O w h s G S) (k : Below w.heap.size w w') : QS C w0 G0 S0 q p t K O w' h s G S := e.guard k fun b x => .inl x
theorem QS.set {g : Nat} (e : QS C w0 G0 S0 q p t K O w h s G S) (hg : O g) (o : Nat) (vs : List Value) : QS C w0 G0 S0 q p t K O (w.setCells g o vs) h s G S := by
 have hk : Only (fun b => b = g) w (w.setCells g o vs) := (Only.refl (fun b => b = g) w).setCells (.inl rfl) vs o;have hs := hk.size;exact ⟨C.only e.j hk fun b hb x => by subst x; exact (e.o b hg).1 hb, e.a.only hk fun b hb x => by subst x; exact (e.o b hg).2.1 hb, e.d, e.on.trans hk fun b hb => by subst hb; exact .inr (e.o b hg).2.2.2, e.gj, e.ga, fun b hb => ⟨(e.o b hb).1, (e.o b hb).2.1, au (e.o b hb).2.2.1 hs, (e.o b hb).2.2.2⟩, e.cr⟩
theorem QS.crg (e : QS C w0 G0 S0 q p t K O w h s G S) : CrG w G := by
 refine ⟨fun i hi => (e.on.cell (p := ⟨0, i, none⟩) (fT (e.cr.1.t i hi)) (fun x => x.elim e.cr.1.off e.cr.2)).trans (e.cr.1.t i hi), fun x => ?_⟩;rcases e.gj _ x with y | y
 ·exact e.cr.1.off y
 ·have := fT (e.cr.1.t 0 (by omega));exact absurd y (Nat.not_le_of_lt this)
theorem QS.ajx (e : QS C w0 G0 S0 q p t K O w h s G S) (c : ∃ G', C.J w' G' q p h' /\ Only G w w' /\ Grow w G G') : (∃ G', QS C w0 G0 S0 q p t K O w' h' s G' S) /\ ci O w w' := by
 obtain ⟨G', b1, b2, b3⟩ := c;refine ⟨⟨G', b1, e.a.only b2 fun b hb x => e.d b x hb, fun b hb x => ?_, e.on.trans b2 fun b hb => ?_, fun b hb => ?_, e.ga, fun b hb => ?_, e.cr⟩, fun b hb => b2.block b (e.o b hb).2.2.1 (e.o b hb).1⟩
 ·rcases b3 b hb with y | y
  ·exact e.d b y x
  ·have := e.a.lt b x; omega
 ·rcases e.gj b hb with y | y
  ·exact .inl (.inl y)
  ·exact .inr y
 ·rcases b3 b hb with y | y
  ·exact e.gj b y
  ·exact .inr (ar e.on.size y)
 ·obtain ⟨c1, c2, c3, c4⟩ := e.o b hb;refine ⟨fun x => ?_, c2, au c3 b2.size, c4⟩;rcases b3 b x with y | y
  ·exact c1 y
  ·omega
theorem QS.shelf (e : QS C w0 G0 S0 q p t K O w h s G S) (c : PSx w S w' t s') : (∃ S', QS C w0 G0 S0 q p t K O w' h s' G S') /\ ci O w w' := by
 obtain ⟨S', b1, b2, b3⟩ := c.res K;refine ⟨⟨S', C.only e.j b2 fun b hb x => e.d b hb x, b1, fun b hb x => ?_, e.on.trans b2 fun b hb => ?_, e.gj, fun b hb => ?_, fun b hb => ?_, e.cr⟩, fun b hb => b2.block b (e.o b hb).2.2.1 (e.o b hb).2.1⟩
 ·rcases b3 b x with y | y
  ·exact e.d b hb y
  ·have := C.lt e.j b hb; omega
 ·rcases e.ga b hb with y | y
  ·exact .inl (.inr y)
  ·exact .inr y
 ·rcases b3 b hb with y | y
  ·exact e.ga b y
  ·exact .inr (ar e.on.size y)
 ·obtain ⟨c1, c2, c3, c4⟩ := e.o b hb;refine ⟨c1, fun x => ?_, au c3 b2.size, c4⟩;rcases b3 b x with y | y
  ·exact c2 y
  ·omega
def QR (C : gZ) (w0 : World) (G0 S0 : Nat -> Prop) (q p t K : Nat) (h : HuS) (s : ShS) (w : World) : Prop := ∃ G S, C.J w G q p h /\ PSh w S t K s /\ (∀ b, G b -> ¬ S b) /\ Only (fun b => G0 b \/ S0 b) w0 w /\ Grow w0 G0 G /\ Grow w0 S0 S
theorem QS.res (e : QS C w0 G0 S0 q p t K O w h s G S) : QR C w0 G0 S0 q p t K h s w := ⟨G, S, e.j, e.a, e.d, e.on, e.gj, e.ga⟩
theorem eY {b : Nat} {o : Obj} (k : ci O w w') (hb : O b) (ho : w.heap[b]? = some o) : w'.heap[b]? = some o := (k b hb).trans ho
end
section
variable {s : ShS} {k i : Nat} {b : Blk}
theorem abC (h : s.knw k (i : Int) = true) : (s.ln k).isSome = true := by
 cases e : s.ln k with
 |some x => rfl
 |none =>
  unfold ShS.knw at h;rw [iv e] at h;have e2 : (lnG (dC s.N) (i : Int)).kn = false := by
   unfold lnG
   split
   ·simp only [dj, dC, List.getD, List.getElem?_replicate]
    split <;> rfl
   ·rfl
  rw [e2] at h;cases h
theorem abG (h : (s.ln k).isSome = true) : s.eH k = true := by
 unfold ShS.eH ShS.goes;cases e : s.ln k with
 |none => rw [e] at h; cases h
 |some x => rfl
theorem aee (h : co s) (hb : s.eH k = true) (hi : i < s.N) (hk : s.knw k (i : Int) = false) : ((s.tch k).dk k (some (fA (s.bZ k) (i : Int) b))).dty = (s.tch k).dty := funext fun j => by
 by_cases e : j = k
 ·subst e;have hl := h.line j;have hkn : (dj (s.bZ j) i).kn = false := by
   unfold ShS.knw at hk;rwa [yk (by rw [hl.2]; exact hi)] at hk
  rw [gq (x := fA (s.bZ j) (i : Int) b) (by rw [cw, if_pos rfl]), aab i b (by rw [hl.2]; exact hi) hkn hl.1, gq (gW hb)]
 ·exact jf (by rw [cw, if_neg e])
end
section
variable {C : gZ} {w : World} {G S : Nat -> Prop} {p q t K : Nat} {h : HuS} {s : ShS}
theorem agn (F : aiQ C) (n m : Int) (j : C.J w G q p h) (a : PSh w S t K s) (c1 : CrG w G) (c2 : ¬ S 0) (hd : ∀ b, G b -> ¬ S b) (hp : vK s h n m) : Calls prog 15 #[.pointer (some ⟨t, 0, none⟩), .pointer (some ⟨p, 0, none⟩), .agg #[.int .i64 n, .int .i64 m]] w fun e w' => e = .returned (.tuple #[blk (fC s h n m).2.1, .int .i64 (fC s h n m).1]) /\
  QR C w G S q p t K (fC s h n m).2.2.2 (fC s h n m).2.2.1 w' := by
 obtain ⟨X, hX⟩ : ∃ X, fC s h n m = X := ⟨_, rfl⟩;have hok := a.x.ok;have hokx := hok.rd h n m;rw [hX] at hokx ⊢;have HOKX := ae hokx;have HX := ae hX;have HPP := ae hp;have HOK := ae hok;have HID := ae (C.fin j).2;have HJ0 := ae (QS.start j a hd c1 c2);clear hok hX hokx hp j a hd c1 c2;go_enter func15, ntmps15;go_upto_region 0 with fail;refine af ?_;refine alM (mm rfl alW) ?_;have hbx := (Below.refl w.heap.size w).alloc aj (.cells (er n m).toArray 43);have HP1 := ae (heap_alloc_new w (.cells (er n m).toArray 43));have hsz : (w.alloc (.cells (er n m).toArray 43)).heap.size = w.heap.size + 1 := al;obtain ⟨bp, hbp⟩ : ∃ bp, w.heap.size = bp := ⟨_, rfl⟩;have HJ1 : Hid (QS C w G S q p t K (fun b => b = bp) (w.alloc (.cells (er n m).toArray 43)) h s G S) := ae (HJ0.out.guard hbx fun b e => by
  subst e; exact .inr ⟨by omega, by omega⟩)
 rw [hbp] at HP1 ⊢;clear hbp hbx hsz;generalize w.alloc (.cells (er n m).toArray 43) = w1 at *;refine alM (aX rfl) ?_;have hbx := (Below.refl w1.heap.size w1).alloc aj (.cells (cel aF).toArray 45);have HP2 := ae (aC HP1 hbx);have HQ2 := ae (heap_alloc_new w1 (.cells (cel aF).toArray 45));have hsz : (w1.alloc (.cells (cel aF).toArray 45)).heap.size = w1.heap.size + 1 := al;obtain ⟨b6, hb6⟩ : ∃ b6, w1.heap.size = b6 := ⟨_, rfl⟩;have HJ2 : Hid (QS C w G S q p t K (fun b => b = bp \/ b = b6) (w1.alloc (.cells (cel aF).toArray 45)) h s G S) := ae (HJ1.out.guard hbx fun b e => by
  rcases e with e | e
  ·exact .inl e
  ·subst e; exact .inr ⟨by omega, by omega⟩)
 rw [hb6] at HQ2 ⊢;clear hb6 hbx hsz;generalize w1.alloc (.cells (cel aF).toArray 45) = w2 at *;refine aH 1 ?_;go_upto_region 1 with fail;refine aJ 1 ?_;refine ay rfl (aB call55 rfl (evc alW evn)) ?_;obtain ⟨lp, mp, FL, mz, r, hu2, hok2, hS2⟩ := HJ2.out.a;have HU2 := ae hu2;clear hu2 hok2 hS2;refine (lJ HU2).mono ?_;rintro e w' ⟨rfl, rfl⟩;refine aR ?_;refine aH 2 ?_;go_upto_region 2 with fail;refine aJ 1 ?_;refine ay rfl (aB call56 rfl (evc alW evn)) ?_;refine (C.id_ HJ2.out.j).mono ?_;rintro e w3 ⟨rfl, b3⟩;have HJ3 := ae (HJ2.out.below b3);have HP3 := ae (aC HP2 b3);have HQ3 := ae (aC HQ2 b3);have HU3 := ae (HU2.out.below b3);clear b3;refine aR ?_;refine alM (aI false rfl alW evk (av (by have := HID.out; omega))) ?_;refine aH 1 ?_;cases hpl : s.plc n m
 ·have HPC : Hid (decide (0 <= n /\ n < (s.T : Int) /\ 0 <= m /\ m < (s.N : Int)) = false) := ae hpl;have HZ : Hid (X = (2, aF, s, h)) := ae (by rw [<- HX.out]; unfold fC; rw [hpl, if_neg (by decide)]);clear hpl;go_upto_region 4 with fail;refine aJ 1 ?_;refine alM (fP rfl alW (aP HP3)) ?_;refine ay rfl (aB call57 rfl (evc alW (evc alW evn))) ?_;refine (fR n m HU3).mono ?_;rintro e w4 ⟨rfl, b4⟩;rw [HPC.out];have HJ4 := ae (HJ3.out.below b4);have HP4 := ae (aC HP3 b4);have HQ4 := ae (aC HQ3 b4);have HU4 := ae (HU3.out.below b4);clear b4;refine aR ?_;refine aH 2 ?_;go_upto_region 5 with fail;refine af ?_;refine alM (cQ (c := aF) (parts := []) rfl rfl) ?_;refine aG rfl (aU (c := aF) rfl (ev rfl) (ev rfl) (bQ HQ4.out)) ?_;simp only [aa];refine aH 1 ?_;go_wp2_with fail;exact bodyPost_ret (cj rfl _ _ _ rfl (World.rangeAt_setCells_same _ _ _ _ (by rw [aK]; exact bQ HQ4))) rfl ⟨by rw [HZ.out]; rfl, by
   rw [HZ.out];exact (HJ4.out.set (g := b6) (.inr rfl) 0 (cel aF)).res⟩
 have HPC : Hid (decide (0 <= n /\ n < (s.T : Int) /\ 0 <= m /\ m < (s.N : Int)) = true) := ae hpl;have HPLC := ae hpl;obtain ⟨k, i, rfl, hk, rfl, hi⟩ := f7 hpl;have HKT := ae hk;have HIN := ae hi;have HWF := ae (ic (n := k) (by have := HOK.out.t64; omega));clear hpl hk hi;go_upto_region 4 with fail;refine aJ 1 ?_;refine alM (fP rfl alW (aP HP3)) ?_;refine ay rfl (aB call57 rfl (evc alW (evc alW evn))) ?_;refine (fR (k : Int) (i : Int) HU3).mono ?_;rintro e w4 ⟨rfl, b4⟩;rw [HPC.out];have HJ4 := ae (HJ3.out.below b4);have HP4 := ae (aC HP3 b4);have HQ4 := ae (aC HQ3 b4);have HU4 := ae (HU3.out.below b4);clear b4;refine aR ?_;refine aH 2 ?_;have HPK : Hid (∀ {w' : World}, Below w4.heap.size w4 w' -> w'.cell? ⟨bp, 0, none⟩ = some (.int .i64 (k : Int)) /\ w'.cell? ⟨bp, 0 + 1, none⟩ = some (.int .i64 (i : Int))) := ae fun hw => eU (aP (aC HP4 hw))
 obtain ⟨v, hlk, hv⟩ := HU4.out.get HOK HKT;have HV4 : Hid (∀ {w' : World}, Below w4.heap.size w4 w' -> (v = .pointer none /\ s.bZ k = dC s.N) \/ ∃ a, v = .pointer (some ⟨a, 0, none⟩) /\ LnA w' a (lf (s.bZ k)) /\ dQ (s.bZ k)) := ae fun hw => by
  rcases hv with h | ⟨a, h1, h2, h3⟩
  ·exact .inl h
  ·exact .inr ⟨a, h1, h2.below hw, h3⟩
 have HLK : Hid (∀ {w' : World}, Below w4.heap.size w4 w' -> (Instr.lookup 64 (.map (some mp)) (.int .i64 (k : Int)) false).run prog w' = .ok v w') := ae fun hw => by
  obtain ⟨v', h1, _⟩ := (HU4.out.below hw).get HOK HKT;have e1 := HU4.out.map.kw HWF;have e2 := (HU4.out.below hw).map.kw HWF;rw [e1] at hlk;injection hlk with hlk;rw [e2, hlk]
 clear hlk hv;obtain ⟨xb, hxb⟩ : ∃ xb, (lnG (s.bZ k) (i : Int)).b = xb := ⟨_, rfl⟩;obtain ⟨kn, hkn⟩ : ∃ kn, (lnG (s.bZ k) (i : Int)).kn = kn := ⟨_, rfl⟩;have HXB := ae hxb;have HKK := ae hkn;have HSD : Hid (Below w4.heap.size w4 (World.drew w4)) := ae ((Below.refl w4.heap.size w4).drew);have HSB : Hid (Below w4.heap.size w4 ((World.drew w4).alloc (.cells (cel aF).toArray 45))) := ae (HSD.out.alloc aj _);clear hxb hkn;go_upto_region 6 with fail;refine wp_region_held (S := fun w' => Below w4.heap.size w4 w') (by kernel_rfl) ?_;change wpAnyH _ _ _ _ _ 16 _ _ w4.drew;apply ab8 (F := fun (vb : Value) (wz : World) => ∃ b, vb = .pointer (some ⟨b, 0, none⟩) /\ wz.heap[b]? = some (.cells (cel xb).toArray 45 (0, 0)) /\ Below w4.heap.size w4 wz /\ w4.heap.size <= b)
 ·intro kk;refine al9 0 rfl HSD ?_;refine amb 1 rfl HSD ?_;refine alP 2 rfl (fun _ hw => ax rfl alW gv) HSD ?_;refine alP 3 rfl (fun _ hw => aE rfl alW (kA (PRu.c4 (HU4.out.below hw)))) HSD ?_;refine alP 4 rfl (fun _ hw => ax rfl alW ku) HSD ?_;refine alP 5 rfl (fun _ hw => aE rfl alW (bV (HPK.out hw).1)) HSD ?_;refine alP 6 rfl (fun _ hw => di rfl alW alW (HLK.out hw)) HSD ?_;refine alP 7 rfl (fun _ hw => ax rfl alW zD) HSD ?_;refine alP 8 rfl (fun _ hw => aE rfl alW (bV (HPK.out hw).2)) HSD ?_;refine i3 9 13 rfl rfl (by kernel_rfl) rfl rfl (aB call58 rfl (evc alW (evc alW evn))) ?_ (aX rfl) HSB ?_
  ·refine (sC (i : Int) (HV4.out HSD)).mono ?_;rintro e wA ⟨rfl, bA⟩;rw [HXB.out, HKK.out];have HSA := ae (Below.trans HSD (bA.mono (Below.size HSD)));clear bA;refine ⟨_, rfl, HSA, ?_⟩;simp only [aa];refine al9 10 rfl HSA ?_;refine amc 11 rfl HSA ?_;refine amc 12 rfl HSA ?_;have HSA2 := ae (HSA.out.alloc HSA.out.size (.cells (cel aF).toArray 45));have HSA3 := ae (HSA.out.alloc HSA.out.size (.cells (cel xb).toArray 45));refine lG 13 rfl (by kernel_rfl) rfl (aX rfl) HSA2.out ?_;simp only [aa];refine dG 14 rfl (by kernel_rfl) rfl (eC (c := xb) rfl (ev rfl) (ev rfl)) HSA3.out ?_;simp only [Act.put];refine ama 15 rfl HSA3 ?_;refine wpAnyH_done (by kernel_rfl) ?_ _;have hz : (wA.alloc (.cells (cel xb).toArray 45)).heap[wA.heap.size]? = _ := heap_alloc_new wA (.cells (cel xb).toArray 45);have hy := HSA3.out;have hge := HSA.out.size;obtain ⟨bb, hbb⟩ : ∃ bb, wA.heap.size = bb := ⟨_, rfl⟩;rw [hbb] at hz hge ⊢;clear HSA2 HSA3;generalize wA.alloc (.cells (cel xb).toArray 45) = wz at *;obtain ⟨vb, hvb⟩ : ∃ vb, Value.pointer (some ⟨bb, 0, none⟩) = vb := ⟨_, rfl⟩;rw [hvb];exact kk vb wz ⟨bb, hvb.symm, hz, hy, hge⟩
  ·skip
   simp only [aa];obtain ⟨wa, hwa⟩ : ∃ wa, w4.drew.alloc (.cells (cel aF).toArray 45) = wa := ⟨_, rfl⟩;have HSa := HSB;have HQa := ae (heap_alloc_new w4.drew (.cells (cel aF).toArray 45));obtain ⟨bb, hbb⟩ : ∃ bb, w4.drew.heap.size = bb := ⟨_, rfl⟩;have HBL : Hid (w4.heap.size <= bb) := ae (Nat.le_of_eq hbb);rw [hwa] at HSa HQa;rw [hbb] at HQa;rw [hwa, hbb];clear hwa hbb;refine cW 9 rfl (by kernel_rfl) rfl (aB call58 rfl (evc alW (evc alW evn))) ?_;refine (sC (i : Int) (HV4.out HSa)).mono ?_;rintro e wA ⟨rfl, bA⟩;rw [HXB.out, HKK.out];have HQB := ae (aC HQa bA);have HSb := ae (HSa.out.trans (bA.mono HSa.out.size));clear bA;refine ⟨_, rfl, HSb, ?_⟩;simp only [aa];refine al9 10 rfl HSb ?_;refine amc 11 rfl HSb ?_;refine amc 12 rfl HSb ?_;have HSc := ae (below_setCells HSb HBL (o := 0) (cel xb));refine dG 14 rfl (by kernel_rfl) rfl (aU (c := xb) rfl (ev rfl) (ev rfl) (bQ HQB.out)) HSc.out ?_;simp only [Act.put];refine ama 15 rfl HSc ?_;refine wpAnyH_done (by kernel_rfl) ?_ _;have hz : (wA.setCells bb 0 (cel xb)).heap[bb]? = _ := mQ HQB;have hy := HSc.out;clear HSc;generalize wA.setCells bb 0 (cel xb) = wz at *;obtain ⟨vb, hvb⟩ : ∃ vb, Value.pointer (some ⟨bb, 0, none⟩) = vb := ⟨_, rfl⟩;rw [hvb];exact kk vb wz ⟨bb, hvb.symm, hz, hy, HBL⟩
 rintro _ wz ⟨b8, rfl, hz, hy, hge⟩;have HWz : Hid (wz.heap[b8]? = some (.cells (cel xb).toArray 45 (0, 0))) := ae hz;have hg8 : b8 < wz.heap.size := aS hz;have HJz : Hid (QS C w G S q p t K (fun b => b = bp \/ b = b6 \/ b = b8) wz h s G S) := ae (HJ4.out.guard hy fun b e => by
  rcases e with e | e | e
  ·exact .inl (.inl e)
  ·exact .inl (.inr e)
  ·subst e; exact .inr ⟨hge, hg8⟩)
 have HPz := ae (aC HP4 hy);have HQz := ae (aC HQ4 hy);have HB86 : Hid (b8 ≠ b6) := ae fun e => by have := aS HQ4; omega
 clear hz hy hge hg8 HSB HSD HV4 HLK HPK HU4 HU3 HU2;cases kn;rotate_left 1
 ·have HKW : Hid (s.knw k (i : Int) = true) := ae HKK;have HTB := ae (abG (abC HKW));have HTE : Hid (tcE s k = 0) := ae (by unfold tcE; rw [if_pos HTB.out]);have HZ : Hid (X = (0, xb, s.tch k, h)) := ae (by
   rw [<- HX.out];unfold fC;rw [HPLC.out, if_pos rfl, Int.toNat_natCast, HKW.out, if_pos rfl, HXB.out])
  have HPK : Hid (wz.cell? ⟨bp, 0, none⟩ = some (.int .i64 (k : Int))) := ae (eU (aP HPz)).1;go_upto_region 7 with fail;refine cC 1 ?_;have HJd := ae (HJz.out.below (ak.drew));go_upto_region 8 with fail;refine wp_region_held (S := fun w' => w'.cell? ⟨bp, 0, none⟩ = some (.int .i64 (k : Int)) /\ w'.rangeAt b8 0 (cel xb)) (by kernel_rfl) ?_;change wpAnyH _ _ _ _ _ 7 _ _ wz.drew;refine alP 0 rfl (fun _ hw => aV (c := xb) rfl alW hw.2) ⟨HPK, aP HWz⟩ ?_;refine al9 1 rfl ⟨HPK, aP HWz⟩ ?_;refine alP 2 rfl (fun _ hw => ax rfl alW ku) ⟨HPK, aP HWz⟩ ?_;refine alP 3 rfl (fun _ hw => aE rfl alW (bV hw.1)) ⟨HPK, aP HWz⟩ ?_;refine cW 4 rfl (by kernel_rfl) rfl (aB call59 rfl (evc alW (evc alW evn))) ?_;refine (mS HJd.out.a.x HKT).mono ?_;rintro e w8 ⟨rfl, c8⟩;rw [HTE.out];obtain ⟨⟨S8, hj8⟩, kp⟩ := HJd.out.shelf c8;have HJ8 := ae hj8;have HP8 := ae (eY kp (.inl rfl) HPz);have HQ8 := ae (eY kp (.inr (.inl rfl)) HQz);have HW8 := ae (eY kp (.inr (.inr rfl)) HWz);have HSA : Hid (w8.cell? ⟨bp, 0, none⟩ = some (.int .i64 (k : Int)) /\ w8.rangeAt b8 0 (cel xb)) := ae ⟨(eU (aP HP8)).1, aP HW8⟩;have HST : Hid ((w8.setCells b6 0 (cel xb)).cell? ⟨bp, 0, none⟩ = some (.int .i64 (k : Int)) /\ (w8.setCells b6 0 (cel xb)).rangeAt b8 0 (cel xb)) := ae (by
   have h1 : (w8.setCells b6 0 (cel xb)).heap[bp]? = _ := Only.keep ((Only.refl (fun b => b = b6) w8).setCells (.inl rfl) (cel xb) 0) HP8 (fun e => by have e1 := HP8.out; have e2 := HQ8.out; rw [e] at e1; exact absurd (e1.symm.trans e2) (by intro hh; injection hh with hh; injection hh with _ hh; exact absurd hh (by decide)));have h2 : (w8.setCells b6 0 (cel xb)).heap[b8]? = _ := Only.keep ((Only.refl (fun b => b = b6) w8).setCells (.inl rfl) (cel xb) 0) HW8 (fun e => HB86.out e);exact ⟨(eU (aP h1)).1, aP h2⟩)
  clear c8 hj8 kp;refine ⟨_, rfl, HSA, ?_⟩;simp only [aa];refine dG 5 rfl (by kernel_rfl) rfl (aU (c := xb) rfl (ev rfl) (ev rfl) (bQ HQ8.out)) HST.out ?_;simp only [Act.put];refine ama 6 rfl HST ?_;refine wpAnyH_done (by kernel_rfl) ?_ _;go_wp2_with fail;exact bodyPost_ret (cj rfl _ _ _ rfl (World.rangeAt_setCells_same _ _ _ _ (by rw [aK]; exact bQ HQ8))) rfl ⟨by rw [HZ.out]; rfl, by
   rw [HZ.out];exact (HJ8.out.set (g := b6) (.inr (.inl rfl)) 0 (cel xb)).res⟩
 have HKN : Hid (s.knw k (i : Int) = false) := ae HKK;go_upto_region 7 with fail;refine cC 1 ?_;have HPF := HPP.out HPLC (by rw [Int.toNat_natCast]; exact HKN);have HFP : Hid (aaW h (k : Int) (i : Int)) := ae HPF;obtain ⟨e0, he0⟩ : ∃ e0, (ik h (k : Int) (i : Int)).1 = e0 := ⟨_, rfl⟩;obtain ⟨x0, hx0⟩ : ∃ x0, (ik h (k : Int) (i : Int)).2.1 = x0 := ⟨_, rfl⟩;obtain ⟨h1, hh1⟩ : ∃ h1, (ik h (k : Int) (i : Int)).2.2 = h1 := ⟨_, rfl⟩;have HE0 := ae he0;have HX0 := ae hx0;have HH1 := ae hh1;have HXX : Hid (X = (e0, x0, if e0 = 0 /\ s.eH k = true then (s.tch k).dk k (some (fA ((s.tch k).bZ k) (i : Int) x0)) else s, h1)) := ae (by
  rw [<- HX.out];unfold fC;rw [HPLC.out, if_pos rfl, Int.toNat_natCast, HKN.out, if_neg (by decide), he0, hx0, hh1])
 have HER : Hid (e0 ≠ 0 -> x0 = aF) := ae fun e => by rw [<- hx0]; exact agr (by rw [he0]; exact e)
 clear HPF he0 hx0 hh1;go_upto_region 9 with fail;refine aJ 1 ?_;refine alM (fP rfl alW (aP HPz)) ?_;refine ay rfl (aB call60 rfl (evc alW (evc alW evn))) ?_;refine (F.cell (k : Int) (i : Int) HJz.out.j HJz.out.crg HFP).mono ?_;rintro e w6 ⟨rfl, c6⟩;obtain ⟨⟨G6, hj6⟩, kp⟩ := HJz.out.ajx c6;rw [HE0.out, HX0.out];rw [HH1.out] at hj6;have HJ6 := ae hj6;have HP6 := ae (eY kp (.inl rfl) HPz);have HQ6 := ae (eY kp (.inr (.inl rfl)) HQz);have HW6 := ae (eY kp (.inr (.inr rfl)) HWz);clear c6 hj6 kp;refine aR ?_;refine runs 3 ?_;refine alM (aX rfl) ?_;refine aG rfl (eC (c := x0) rfl (ev rfl) (ev rfl)) ?_;simp only [aa];refine aH 1 ?_;have hbx := (Below.refl w6.heap.size w6).alloc aj (.cells (cel x0).toArray 45);have HP7 := ae (aC HP6 hbx);have HQ7 := ae (aC HQ6 hbx);have HW7 := ae (aC HW6 hbx);have HV7 := ae (heap_alloc_new w6 (.cells (cel x0).toArray 45));have hsz : (w6.alloc (.cells (cel x0).toArray 45)).heap.size = w6.heap.size + 1 := al;obtain ⟨b10, hb10⟩ : ∃ b10, w6.heap.size = b10 := ⟨_, rfl⟩;have HJ7 : Hid (QS C w G S q p t K (fun b => b = bp \/ b = b6 \/ b = b8 \/ b = b10) (w6.alloc (.cells (cel x0).toArray 45)) h1 s G6 S) := ae (HJ6.out.guard hbx fun b e => by
  rcases e with e | e | e | e
  ·exact .inl (.inl e)
  ·exact .inl (.inr (.inl e))
  ·exact .inl (.inr (.inr e))
  ·subst e; exact .inr ⟨by omega, by omega⟩)
 rw [hb10] at HV7 ⊢;clear hb10 hbx hsz;generalize w6.alloc (.cells (cel x0).toArray 45) = w7 at *;by_cases h0 : e0 = 0;rotate_left 1
 ·have H0 : Hid ((e0 != 0) = true) := ae (bne_iff_ne.2 h0);have HZ : Hid (X = (e0, aF, s, h1)) := ae (by rw [HXX.out, if_neg (fun e => h0 e.1), HER.out h0]);clear h0;go_upto_region 10 with fail;refine aJ 1 ?_;refine alM (aN true rfl alW evk H0) ?_;refine ah ?_;go_upto_region 11 with fail;refine af ?_;refine alM (cQ (c := aF) (parts := []) rfl rfl) ?_;refine runs 1 ?_;refine aG rfl (aU (c := aF) rfl (ev rfl) (ev rfl) (bQ HQ7.out)) ?_;simp only [aa];refine aH 1 ?_;go_wp2_with fail;exact bodyPost_ret (cj rfl _ _ _ rfl (World.rangeAt_setCells_same _ _ _ _ (by rw [aK]; exact bQ HQ7))) rfl ⟨by rw [HZ.out]; rfl, by
   rw [HZ.out];exact (HJ7.out.set (g := b6) (.inr (.inl rfl)) 0 (cel aF)).res⟩
 subst h0;go_upto_region 10 with fail;refine aJ 1 ?_;refine alM (aN false rfl alW evk rfl) ?_;refine ah ?_;have HPK : Hid (w7.cell? ⟨bp, 0, none⟩ = some (.int .i64 (k : Int))) := ae (eU (aP HP7)).1;cases htb : s.eH k
 ·have HTE : Hid (tcE s k = 10) := ae (by unfold tcE; rw [htb, if_neg (by decide)]);have HZ : Hid (X = (0, x0, s.tch k, h1)) := ae (by rw [HXX.out, if_neg (fun e => by rw [htb] at e; cases e.2), ad3 s k htb]);clear htb;go_upto_region 12 with fail;refine aJ 1 ?_;refine alM (ax rfl alW ku) ?_;refine alM (aE rfl alW (bV HPK)) ?_;refine ay rfl (aB call59 rfl (evc alW (evc alW evn))) ?_;refine (mS HJ7.out.a.x HKT).mono ?_;rintro e w8 ⟨rfl, c8⟩;rw [HTE.out];obtain ⟨⟨S8, hj8⟩, kp⟩ := HJ7.out.shelf c8;have HJ8 := ae hj8;have HP8 := ae (eY kp (.inl rfl) HP7);have HQ8 := ae (eY kp (.inr (.inl rfl)) HQ7);have HW8 := ae (eY kp (.inr (.inr (.inl rfl))) HW7);have HV8 := ae (eY kp (.inr (.inr (.inr rfl))) HV7);clear c8 hj8 kp;refine aR ?_;refine alM (aI false rfl alW evk rfl) ?_;refine ah ?_;go_upto_region 14 with fail;refine af ?_;refine alM (aV (c := x0) rfl alW (aP HV8)) ?_;refine aG rfl (aU (c := x0) rfl (ev rfl) (ev rfl) (bQ HQ8.out)) ?_;simp only [aa];refine aH 1 ?_;go_wp2_with fail;exact bodyPost_ret (cj rfl _ _ _ rfl (World.rangeAt_setCells_same _ _ _ _ (by rw [aK]; exact bQ HQ8))) rfl ⟨by rw [HZ.out]; rfl, by
   rw [HZ.out];exact (HJ8.out.set (g := b6) (.inr (.inl rfl)) 0 (cel x0)).res⟩
 have HTE : Hid (tcE s k = 0) := ae (by unfold tcE; rw [if_pos htb]);have HTL : Hid ((s.tch k).ln k = some (s.bZ k)) := ae (gW htb);have HZ : Hid (X = (0, x0, (s.tch k).dk k (some (fA (s.bZ k) (i : Int) x0)), h1)) := ae (by rw [HXX.out, if_pos ⟨rfl, htb⟩, dp HTL.out]);have HON : Hid (co ((s.tch k).dk k (some (fA (s.bZ k) (i : Int) x0)))) := ae (by have := HOKX.out; rw [HZ.out] at this; exact this);have HDT := ae (aee (b := x0) HOK htb HIN HKN);clear htb;go_upto_region 12 with fail;refine aJ 1 ?_;refine alM (ax rfl alW ku) ?_;refine alM (aE rfl alW (bV HPK)) ?_;refine ay rfl (aB call59 rfl (evc alW (evc alW evn))) ?_;refine (mS HJ7.out.a.x HKT).mono ?_;rintro e w8 ⟨rfl, c8⟩;rw [HTE.out];obtain ⟨⟨S8, hj8⟩, kp⟩ := HJ7.out.shelf c8;have HJ8 := ae hj8;have HP8 := ae (eY kp (.inl rfl) HP7);have HQ8 := ae (eY kp (.inr (.inl rfl)) HQ7);have HW8 := ae (eY kp (.inr (.inr (.inl rfl))) HW7);have HV8 := ae (eY kp (.inr (.inr (.inr rfl))) HV7);clear c8 hj8 kp;refine aR ?_;refine alM (aI true rfl alW evk rfl) ?_;refine ah ?_;obtain ⟨lp8, mp8, FL8, m8, r8, hs8, hok8⟩ := HJ8.out.a.x;have hl8 := hs8.u.ln k;rw [HTL.out] at hl8;obtain ⟨a8, ha8, hla8, hlo8⟩ := hl8.some_;have HS8 := ae (hs8.below (ak.drew));have HA8 := ae ha8;have HLA : Hid (nG w8.drew (fun j => j = a8) a8 (s.bZ k)) := ae ⟨hla8, rfl, hlo8⟩;have HLK : Hid ((Instr.lookup 64 (.map (some mp8)) (.int .i64 (k : Int)) false).run prog w8.drew = .ok (.pointer (some ⟨a8, 0, none⟩)) w8.drew) := ae (by
  have := HS8.out.u.map.kw HWF;rwa [show mLn m8 (k : Int) = some a8 from by unfold mLn; rw [if_pos (by omega), Int.toNat_natCast, ha8]] at this)
 have HPQ : Hid (w8.cell? ⟨bp, 0, none⟩ = some (.int .i64 (k : Int)) /\ w8.cell? ⟨bp, 0 + 1, none⟩ = some (.int .i64 (i : Int))) := ae (eU (aP HP8));have HJd := ae (HJ8.out.below (ak.drew));clear hs8 hok8 hl8 ha8 hla8 hlo8;go_upto_region 13 with fail;refine wp_region_still_tail 10 (by kernel_rfl) (by kernel_rfl) ?_;simp only [ac];refine aM rfl (aL rfl alW) ?_;simp only [aa];refine aM rfl (bj rfl alW) ?_;simp only [aa];refine aM rfl (ax rfl alW gv) ?_;simp only [aa];refine aM rfl (aE rfl alW (kA (PRu.c4 HS8.out.u))) ?_;simp only [aa];refine aM rfl (ax rfl alW ku) ?_;simp only [aa];refine aM rfl (aE rfl alW (bV HPQ.out.1)) ?_;simp only [aa];refine aM rfl (di rfl alW alW HLK) ?_;simp only [aa];refine aM rfl (ax rfl alW zD) ?_;simp only [aa];refine aM rfl (aE rfl alW (bV HPQ.out.2)) ?_;simp only [aa];refine aM rfl (aV (c := x0) rfl alW (aP HV8)) ?_;simp only [aa];refine wpStill_nil ?_;change wpList _ _ _ _ _ (World.drew _);refine ay rfl (aB call61 rfl (evc alW (evc alW (evc alW evn)))) ?_;refine (aai w8.drew (i : Int) x0 HLA).mono ?_;rintro e w9 ⟨rfl, l9, t9⟩;have hs9 := HS8.out.line HA8 t9 l9;have hx9 : PSx w8 S8 w9 t ((s.tch k).dk k (some (fA (s.bZ k) (i : Int) x0))) := ⟨lp8, mp8, FL8, m8, r8, by
  rw [HDT.out];exact hs9, HON⟩
 obtain ⟨⟨S9, hj9⟩, kp⟩ := HJ8.out.shelf hx9;have HJ9 := ae hj9;have HP9 := ae (eY kp (.inl rfl) HP8);have HQ9 := ae (eY kp (.inr (.inl rfl)) HQ8);have HW9 := ae (eY kp (.inr (.inr (.inl rfl))) HW8);have HV9 := ae (eY kp (.inr (.inr (.inr rfl))) HV8);clear l9 t9 hs9 hx9 hj9 kp;refine aR ?_;refine ah ?_;go_upto_region 14 with fail;refine af ?_;refine alM (aV (c := x0) rfl alW (aP HV9)) ?_;refine aG rfl (aU (c := x0) rfl (ev rfl) (ev rfl) (bQ HQ9.out)) ?_;simp only [aa];refine aH 1 ?_;go_wp2_with fail;exact bodyPost_ret (cj rfl _ _ _ rfl (World.rangeAt_setCells_same _ _ _ _ (by rw [aK]; exact bQ HQ9))) rfl ⟨by rw [HZ.out]; rfl, by
  rw [HZ.out];exact (HJ9.out.set (g := b6) (.inr (.inl rfl)) 0 (cel x0)).res⟩
end
theorem PSh.akM {F S : Nat -> Prop} {w w' : World} {t K : Nat} {s : ShS} (h : PSh w S t K s) (hk : Only F w w') (hF : ∀ b, S b -> ¬ F b) : PSh w' S t K s := by
 obtain ⟨lp, mp, FL, m, r, h1, h2, rfl⟩ := h;exact ⟨lp, mp, FL, m, r, h1.only hk hF, h2, rfl⟩
theorem aaj (s : ShS) : fM (kyL s.dty s.o) = s.strs := sY
def ak0 : ShPr where
 P := PSh
 lt := fun h => h.lt
 only := fun h k n => h.akM k n
 more := fun h _ => h
 ok := fun h => h.x.ok
 new_ok := fun w hg h1 h2 => ai7 w hg h1 h2
 new_no := fun x room w h => aaA x room w h
 put := fun h hQ hK hc hcn _ _ hA => (ajq h hQ (by omega) hc hcn hA).mono fun e w' ⟨k0, k1⟩ => ⟨k0, k1.res _⟩
 clean := fun n h => (acj n h).mono fun e w' ⟨k0, k1⟩ => ⟨k0, k1.res _⟩
 drop := fun n h => (afR n h).mono fun e w' ⟨k0, k1⟩ => ⟨k0, k1.res _⟩
 fits := fun h hl hwf _ _ hb => by
  have hok := h.x.ok;obtain ⟨lp, mp, FL, m, r, h1, _, _⟩ := h;exact sL h1 hok hl hwf hb
 known := fun n h => by
  have hok := h.x.ok;obtain ⟨lp, mp, FL, m, r, h1, _, _⟩ := h;exact aex n h1 hok
 cells := fun n h => by
  have hok := h.x.ok;obtain ⟨lp, mp, FL, m, r, h1, _, _⟩ := h;exact adw n h1 hok
 cP := fun h => by
  have hok := h.x.ok;obtain ⟨lp, mp, FL, m, r, h1, _, _⟩ := h;exact py h1 hok
 mw := fun {w S t K s} h => by
  obtain ⟨lp, mp, FL, m, r, h1, _, _⟩ := h;have := pM h1;rw [aaj] at this;exact this
 first := fun h _ => by
  have hok := h.x.ok;obtain ⟨lp, mp, FL, m, r, h1, _, _⟩ := h;exact adl h1 hok
 No := kZ
 zc := shZ
 no_nil := fun w => .inl rfl
 bld0 := fun w => yw w
 no_zero := fun w => .inr ⟨_, rfl, heap_alloc_new w _⟩
 no_below := fun h hb => h.below hb
 no_put := fun w v Q h => ah6 w v Q h
 no_clean := fun w v n h => aca w v n h
 no_drop := fun w v n h => afW w v n h
 no_fits := fun w v h => afv w v h
 no_known := fun w v n h => acB w v n h
 no_cells := fun w v n h => ad0 w v n h
 no_dirty := fun w v h => (wD w v h).mono fun e w' ⟨k0, k1⟩ => ⟨⟨_, _, k0⟩, k1⟩
 no_stripes := fun w v h => (pK w v h).mono fun e w' ⟨k0, k1⟩ => ⟨⟨_, _, k0⟩, by subst k1; exact ak⟩
 no_first := fun w v h => adC w v h
theorem xF {w : World} {S : Nat -> Prop} {t K : Nat} {s : ShS} (C : gZ) (n m : Int) (h : PSh w S t K s) : Calls prog 15 #[.pointer (some ⟨t, 0, none⟩), .pointer none, .agg #[.int .i64 n, .int .i64 m]] w fun e w' => (∃ b : Blk, e = .returned (.tuple #[blk b, .int .i64 1])) /\ Below w.heap.size w w' := by
 have hb1 := (Below.refl w.heap.size w).alloc aj (.cells (er n m).toArray 43);have HB1 := ae hb1;have hb2 := hb1.alloc hb1.size (.cells (cel aF).toArray 45);have HB2 := ae hb2;obtain ⟨lp, mp, FL, mz, r, hu, hok, hS⟩ := h;have H := ae (hu.below hb2);have HB6 := ae (heap_alloc_new (w.alloc (.cells (er n m).toArray 43)) (.cells (cel aF).toArray 45));clear hu hok hS hb1 hb2;go_enter func15, ntmps15;go_upto_region 0 with fail;refine af ?_;refine alM (mm rfl alW) ?_;refine alM (aX rfl) ?_;refine aH 1 ?_;obtain ⟨b6, hb6⟩ : ∃ b6, (w.alloc (.cells (er n m).toArray 43)).heap.size = b6 := ⟨_, rfl⟩;have HQ6 : Hid (w.heap.size <= b6) := ae (by rw [<- hb6]; exact HB1.out.size);rw [hb6] at HB6 ⊢;generalize (w.alloc (.cells (er n m).toArray 43)).alloc (.cells (cel aF).toArray 45) = w2 at *;clear hb6;go_upto_region 1 with fail;refine aJ 1 ?_;refine ay rfl (aB call55 rfl (evc alW evn)) ?_;refine (lJ H).mono ?_;rintro e w' ⟨rfl, rfl⟩;refine aR ?_;refine aH 2 ?_;go_upto_region 2 with fail;refine aJ 1 ?_;refine ay rfl (aB call56 rfl (evc alW evn)) ?_;refine (C.no_id w2 (.pointer none) (C.no_nil w2)).mono ?_;rintro e w3 ⟨rfl, b3⟩;have HB3 := ae (HB2.out.trans (b3.mono HB2.out.size));have HB7 := ae (aC HB6 b3);clear b3;refine aR ?_;refine alM (aI true rfl alW evk rfl) ?_;refine aH 1 ?_;have hb4 := below_setCells HB3 HQ6 (o := 0) (cel aF);have HB4 := ae hb4;clear hb4;go_upto_region 3 with fail;refine af ?_;refine alM (cQ (c := aF) (parts := []) rfl rfl) ?_;refine aG rfl (aU (c := aF) rfl (ev rfl) (ev rfl) (bQ HB7.out)) ?_;simp only [aa];refine aH 1 ?_;go_wp2_with fail;exact bodyPost_ret (cj rfl _ _ _ rfl (World.rangeAt_setCells_same _ _ _ _ (by rw [aK]; exact bQ HB7))) rfl ⟨⟨aF, rfl⟩, HB4⟩
def akU (C : gZ) (F : aiQ C) : ShI C where
 toShPr := ak0
 read := fun {w G S q p t K h s} n m hj ha hc h2 hd hp => (agn (K := K) F n m hj ha hc h2 hd hp).mono fun e w' ⟨k0, k1⟩ => ⟨k0, k1⟩
 read_no := fun {w S t K s} n m h => xF (K := K) C n m h
 no_read := fun w v G q p h n m hn _ => ahh w v (.pointer (some ⟨p, 0, none⟩)) n m hn
theorem agM (a b : Blk) (k : Nat) (w : World) (T : Tab w) (h : oo a b = k) : Calls prog 212 #[blk a, blk b] w fun e w' => e = .returned (.int .i64 (k : Nat)) /\ Below w.heap.size w w' := by
 subst h;exact ajY a b w T
structure HpS where
 id : Nat
 ev : Nat
 us : Nat
 R : Ros
def phC (qa : Option Addr) (x : HpS) : List Value := .pointer qa :: .int .u64 (x.id : Int) :: .int .u64 (x.ev : Int) :: (a7 x.R ++ [.int .u64 (x.us : Int)])
theorem ahf (qa : Option Addr) (x : HpS) : (phC qa x).length = 25 := by simp [phC, bK]
def PHo (w : World) (p : Nat) (qa : Option Addr) (x : HpS) : Prop := w.heap[p]? = some (.cells (phC qa x).toArray 136 (0, 0))
abbrev PHu (w : World) (p q : Nat) (x : HpS) : Prop := PHo w p (some ⟨q, 0, none⟩) x
section
variable {w w' : World} {p : Nat} {qa : Option Addr} {x : HpS} {G : Nat -> Prop}
theorem PHo.only (h : PHo w p qa x) (ho : Only G w w') (hn : ¬ G p) : PHo w' p qa x := ho.keep h hn
theorem PHo.below (h : PHo w p qa x) (hb : Below w.heap.size w w') : PHo w' p qa x := aC h hb
theorem PHo.lt (h : PHo w p qa x) : p < w.heap.size := aS h
theorem PHo.c0 (h : PHo w p qa x) : w.cell? ⟨p, 0, none⟩ = some (.pointer qa) := (aP h) 0 _ rfl
theorem PHo.c1 (h : PHo w p qa x) : w.cell? ⟨p, 1, none⟩ = some (.int .u64 (x.id : Int)) := (aP h) 1 _ rfl
theorem PHo.c2 (h : PHo w p qa x) : w.cell? ⟨p, 2, none⟩ = some (.int .u64 (x.ev : Int)) := (aP h) 2 _ rfl
theorem PHo.c24 (h : PHo w p qa x) : w.cell? ⟨p, 24, none⟩ = some (.int .u64 (x.us : Int)) := (aP h) 24 _ (by
 show (a7 x.R ++ [_])[21]? = _
 rw [List.getElem?_append_right (by rw [bK]; exact aj), bK]; rfl)
theorem PHo.ros (h : PHo w p qa x) : w.rangeAt p 3 (a7 x.R) := by
 have := fx (k := 3) (ds := [.pointer qa, .int .u64 (x.id : Int), .int .u64 (x.ev : Int)]) (es := a7 x.R) (fs := [.int .u64 (x.us : Int)]) (aP h) (by simp [phC]) rfl;rwa [Nat.zero_add] at this
theorem PHo.geo (h : PHo w p qa x) : w.rangeAt p 3 (el x.R) := fx (cs := a7 x.R) (ds := []) (k := 0) h.ros rfl rfl
theorem PHo.adz (h : PHo w p qa x) (j : Nat) : w.frozen? ⟨p, j, none⟩ = false := frozen_of_row w p j _ _ h
theorem PHo.there (h : PHo w p qa x) {o n : Nat} (hn : o + n <= 25) : w.there p o n := eR h (by rw [ahf]; exact hn)
theorem pH : (Instr.fieldAt 136 (.pointer (some ⟨p, 0, none⟩)) 0).run prog w = .ok (.pointer (some ⟨p, 0, none⟩)) w := by kernel_rfl
theorem ahC : (Instr.fieldAt 136 (.pointer (some ⟨p, 0, none⟩)) 1).run prog w = .ok (.pointer (some ⟨p, 1, none⟩)) w := by kernel_rfl
theorem ahM : (Instr.fieldAt 136 (.pointer (some ⟨p, 0, none⟩)) 2).run prog w = .ok (.pointer (some ⟨p, 2, none⟩)) w := by kernel_rfl
theorem si : (Instr.fieldAt 136 (.pointer (some ⟨p, 0, none⟩)) 3).run prog w = .ok (.pointer (some ⟨p, 3, none⟩)) w := by kernel_rfl
theorem adR : (Instr.fieldAt 136 (.pointer (some ⟨p, 0, none⟩)) 4).run prog w = .ok (.pointer (some ⟨p, 24, none⟩)) w := by kernel_rfl
theorem aki : (Instr.fieldAt 86 (.pointer (some ⟨p, 3, none⟩)) 0).run prog w = .ok (.pointer (some ⟨p, 3, none⟩)) w := by kernel_rfl
theorem wZ {ad : Addr} {a : Option Addr} (h : w.cell? ad = some (.pointer a)) : (Instr.loadAt 35 (.pointer (some ad))).run prog w = .ok (.pointer a) w := by simp [go_sem, h]
theorem ov {ad : Addr} {a : Option Addr} (h : w.cell? ad = some (.pointer a)) : (Instr.loadAt 34 (.pointer (some ad))).run prog w = .ok (.pointer a) w := by simp [go_sem, h]
theorem PHo.set {y : HpS} (h : PHo w p qa x) {j : Nat} {u : Value} (hy : (phC qa x).set j u = phC qa y) : PHo (w.setCell ⟨p, j, none⟩ u) p qa y := by
 have := heap_setCell_same w p j _ 136 u h;rw [List.setIfInBounds_toArray, hy] at this;exact this
theorem PHo.put (h : PHo w p qa x) (y : Ros) : PHo (w.setCells p 3 (a7 y)) p qa { x with R := y } :=
 heap_put p 136 [.int .u64 (x.us : Int)] (a7 y) (a7 x.R) [.pointer qa, .int .u64 (x.id : Int), .int .u64 (x.ev : Int)] w (by rw [bK, bK]) h
theorem ai5 (qa : Option Addr) (x : HpS) (e : Nat) : (phC qa x).set 2 (.int .u64 (e : Int)) = phC qa { x with ev := e } := rfl
theorem ado (qa : Option Addr) (x : HpS) (e : Nat) : (phC qa x).set 24 (.int .u64 (e : Int)) = phC qa { x with us := e } := by
 show _ :: _ :: _ :: (a7 x.R ++ [_]).set 21 _ = _
 rw [List.set_append_right _ _ (by rw [bK]; exact aj), bK]
 rfl
end
def HJ (w0 : World) (H K : Nat -> Prop) (w : World) (p q : Nat) (M : aZ) (x : HpS) : Prop :=
 ∃ G, bL.Bn w G q M /\ PHu w p q x /\ ¬ G p /\ Only H w0 w /\ Grow w0 H (fun b => G b \/ b = p) /\ (∀ b, K b -> ¬ G b /\ b ≠ p /\ b < w.heap.size) /\ CrG w0 H
section
variable {w0 w w' : World} {H K K' : Nat -> Prop} {p q : Nat} {M : aZ} {x y : HpS}
theorem HJ.hul (h : HJ w0 H K w p q M x) : PHu w p q x := by obtain ⟨_, _, h, _⟩ := h; exact h
theorem HJ.tab (h : HJ w0 H K w p q M x) : Tab w := by
 obtain ⟨_, _, _, _, h, _, _, hT⟩ := h;intro i hi;have := hT.t i hi;exact (h.cell (p := ⟨0, i, none⟩) (fT this) hT.off).trans this
theorem HJ.lt (h : HJ w0 H K w p q M x) {b : Nat} (hb : K b) : b < w.heap.size := by obtain ⟨_, _, _, _, _, _, h, _⟩ := h; exact (h b hb).2.2
theorem HJ.ne (h : HJ w0 H K w p q M x) {b : Nat} (hb : K b) : b ≠ p := by obtain ⟨_, _, _, _, _, _, h, _⟩ := h; exact (h b hb).2.1
theorem HJ.size (h : HJ w0 H K w p q M x) : w0.heap.size <= w.heap.size := by obtain ⟨_, _, _, _, h, _⟩ := h; exact h.size
theorem HJ.guard (h : HJ w0 H K w p q M x) (hb : Below w.heap.size w w') (hK : ∀ b, K' b -> K b \/ (w.heap.size <= b /\ b < w'.heap.size)) : HJ w0 H K' w' p q M x := by
 obtain ⟨G, h1, h2, h3, h4, h5, h6, h7⟩ := h;have hlt := bL.lt h1;have hp := h2.lt;have hs := hb.size;refine ⟨G, bL.below h1 hb, h2.below hb, h3, h4.iC hb, h5, fun b e => ?_, h7⟩;rcases hK b e with e | ⟨e1, e2⟩
 ·obtain ⟨g1, g2, g3⟩ := h6 b e;exact ⟨g1, g2, by omega⟩
 ·exact ⟨fun hg => by have := hlt b hg; omega, by omega, e2⟩
theorem HJ.below (h : HJ w0 H K w p q M x) (hb : Below w.heap.size w w') : HJ w0 H K w' p q M x := h.guard hb fun b e => .inl e
theorem HJ.drew (h : HJ w0 H K w p q M x) : HJ w0 H K w.drew p q M x := h.below (bd ak)
theorem HJ.less (h : HJ w0 H K w p q M x) (hK : ∀ b, K' b -> K b) : HJ w0 H K' w p q M x := h.guard ak fun b e => .inl (hK b e)
def up (K : Nat -> Prop) (n m : Nat) : Nat -> Prop := fun b => K b \/ (n <= b /\ b < m)
theorem HJ.up (h : HJ w0 H K w p q M x) (hb : Below w.heap.size w w') : HJ w0 H (Proofs.YtdmhelalbemlcaaGreatDoor.up K w.heap.size w'.heap.size) w' p q M x := h.guard hb fun b e => e
theorem HJ.kept (h : HJ w0 H K w p q M x) (hb : Below w.heap.size w w') : ci K w w' := fun b e => hb.block b (h.lt e)
theorem HJ.turn {G G' : Nat -> Prop} {M' : aZ} (h1 : bL.Bn w G q M) (h2 : PHu w p q x) (h3 : ¬ G p) (h4 : Only H w0 w) (h5 : Grow w0 H (fun b => G b \/ b = p)) (h6 : ∀ b, K b -> ¬ G b /\ b ≠ p /\ b < w.heap.size) (h7 : CrG w0 H)
  (k1 : bL.Bn w' G' q M') (k2 : Only G w w') (k3 : Grow w G G') : HJ w0 H K w' p q M' x /\ ci K w w' := by
 have hs := k2.size;have hs0 := h4.size;have hp := h2.lt;refine ⟨⟨G', k1, h2.only k2 h3, fun e => ?_, h4.trans k2 fun b e => h5 b (.inl e), fun b e => ?_, fun b e => ?_, h7⟩, fun b e => k2.block b (h6 b e).2.2 (h6 b e).1⟩
 ·rcases k3 p e with e | e
  ·exact h3 e
  ·omega
 ·rcases e with e | e
  ·rcases k3 b e with e | e
   ·exact h5 b (.inl e)
   ·exact .inr (by omega)
  ·exact h5 b (.inr e)
 ·obtain ⟨g1, g2, g3⟩ := h6 b e;refine ⟨fun hg => ?_, g2, by omega⟩;rcases k3 b hg with e | e
  ·exact g1 e
  ·omega
theorem HJ.write (d n : Int) (b : Blk) (hr : Room M 1) (h : HJ w0 H K w p q M x) : Calls prog 94 #[.pointer (some ⟨q, 0, none⟩), .int .i64 d, .int .i64 n, blk b] w fun e w' => e = .returned (.int .i64 (eZ M d n)) /\ HJ w0 H K w' p q (et M d n b) x /\ ci K w w' := by
 obtain ⟨G, h1, h2, h3, h4, h5, h6, h7⟩ := h;exact (bL.write d n b hr h1).mono fun e w' ⟨k0, G', k1, k2, k3⟩ => ⟨k0, HJ.turn h1 h2 h3 h4 h5 h6 h7 k1 k2 k3⟩
theorem HJ.flush (d : Int) (hr : Room M 1) (h : HJ w0 H K w p q M x) : Calls prog 213 #[.pointer (some ⟨q, 0, none⟩), .int .i64 d] w fun e w' => e = .returned (.int .i64 (ib M d)) /\ HJ w0 H K w' p q (gh M d) x /\ ci K w w' := by
 obtain ⟨G, h1, h2, h3, h4, h5, h6, h7⟩ := h;exact (bL.flush d hr h1).mono fun e w' ⟨k0, G', k1, k2, k3⟩ => ⟨k0, HJ.turn h1 h2 h3 h4 h5 h6 h7 k1 k2 k3⟩
theorem HJ.read (d n : Int) (h : HJ w0 H K w p q M x) : Calls prog 164 #[.pointer (some ⟨q, 0, none⟩), .int .i64 d, .int .i64 n] w fun e w' => e = .returned (.tuple #[blk (fo M d n), .int .i64 (cJ M d n)]) /\ Below w.heap.size w w' := by
 obtain ⟨G, h1, _⟩ := h;exact bL.read d n h1
theorem HJ.obj (h : HJ w0 H K w p q M x) (ho : Only (fun b => b = p) w w') (hp : PHu w' p q y) : HJ w0 H K w' p q M y /\ ci K w w' := by
 obtain ⟨G, h1, h2, h3, h4, h5, h6, h7⟩ := h;have hs := ho.size;refine ⟨⟨G, bL.only h1 ho fun b hb e => h3 (e ▸ hb), hp, h3, h4.trans ho fun b e => h5 b (.inr e), h5, fun b e => ?_, h7⟩, fun b e => ho.block b (h6 b e).2.2 (h6 b e).2.1⟩;obtain ⟨g1, g2, g3⟩ := h6 b e;exact ⟨g1, g2, by omega⟩
theorem HJ.mine {g : Nat} (h : HJ w0 H K w p q M x) (hg : K g) (hg0 : w0.heap.size <= g) (ho : Only (fun b => b = g) w w') : HJ w0 H K w' p q M x := by
 obtain ⟨G, h1, h2, h3, h4, h5, h6, h7⟩ := h;have hs := ho.size;obtain ⟨g1, g2, g3⟩ := h6 g hg;refine ⟨G, bL.only h1 ho fun b hb e => g1 (e ▸ hb), h2.only ho fun e => g2 e.symm, h3, h4.trans ho fun b e => .inr (by omega), h5, fun b e => ?_, h7⟩;obtain ⟨g1, g2, g3⟩ := h6 b e;exact ⟨g1, g2, by omega⟩
end
structure Fu where
 f : FuncId
 cap : List Value
 ok : ∀ (args : Array Value) (w : World), (callFunc f args).run prog w = .ok (.enter f args) w
def Fu.val (s : Fu) : Value := .func (.func s.f) #[] s.cap.toArray
section
variable {ρ : Operand -> Value} {o : Oper} {x y : Operand} {w : World} {s : Fu} {v : Value}
theorem akp {ad : Addr} (h : w.cell? ad = some s.val) : (Instr.loadAt 57 (.pointer (some ad))).run prog w = .ok s.val w := by unfold Fu.val at *; simp [go_sem, h]
theorem vr {a : Act} {ats : Array TypeId} (ho : o.op = .call { callee := .value x, args := #[], argTypes := ats }) (hx : a.eval x = s.val) : (execOp a.eval o).run prog w = .ok (.enter s.f s.cap.toArray) w := by
 unfold Fu.val at hx;unfold execOp;simp [ho, resolve, Deferred.ofValue, invoke, hx, s.ok]
theorem nU {a : Act} {ats : Array TypeId} (ho : o.op = .call { callee := .value x, args := #[y], argTypes := ats }) (hx : a.eval x = s.val) (hy : a.eval y = v) : (execOp a.eval o).run prog w = .ok (.enter s.f (v :: s.cap).toArray) w := by
 unfold Fu.val at hx;unfold execOp;simp [ho, resolve, Deferred.ofValue, invoke, hx, hy, s.ok]
end
def FJ (C : gZ) (w0 : World) (H K : Nat -> Prop) (w : World) (q p : Nat) (h : HuS) : Prop :=
 ∃ G, C.J w G q p h /\ Only H w0 w /\ Grow w0 H G /\ (∀ b, K b -> ¬ G b /\ b < w.heap.size) /\ CrG w0 H
section
variable {C : gZ} {w0 w w' : World} {H K K' : Nat -> Prop} {q p : Nat} {h h' : HuS}
theorem FJ.start {G : Nat -> Prop} (j : C.J w G q p h) (hc : CrG w G) : FJ C w G (fun _ => False) w q p h := ⟨G, j, Only.refl _ _, Grow.same _ _, fun _ e => e.elim, hc⟩
theorem FJ.size (j : FJ C w0 H K w q p h) : w0.heap.size <= w.heap.size := by obtain ⟨_, _, h2, _⟩ := j; exact h2.size
theorem FJ.lt (j : FJ C w0 H K w q p h) {b : Nat} (hb : K b) : b < w.heap.size := by obtain ⟨_, _, _, _, h4, _⟩ := j; exact (h4 b hb).2
theorem FJ.alb {G : Nat -> Prop} (h2 : Only H w0 w) (h3 : Grow w0 H G) (hT : CrG w0 H) : CrG w G := by
 refine ⟨fun i hi => (h2.cell (p := ⟨0, i, none⟩) (fT (hT.t i hi)) hT.off).trans (hT.t i hi), fun e => ?_⟩;rcases h3 _ e with e | e
 ·exact hT.off e
 ·have := fT (hT.t 0 (by omega));exact absurd e (Nat.not_le_of_lt this)
theorem FJ.guard (j : FJ C w0 H K w q p h) (hb : Below w.heap.size w w') (hK : ∀ b, K' b -> K b \/ (w.heap.size <= b /\ b < w'.heap.size)) : FJ C w0 H K' w' q p h := by
 obtain ⟨G, h1, h2, h3, h4, h5⟩ := j;have hlt := C.lt h1;have hs := hb.size;refine ⟨G, C.below h1 hb, h2.iC hb, h3, fun b e => ?_, h5⟩;rcases hK b e with e | ⟨e1, e2⟩
 ·obtain ⟨g1, g2⟩ := h4 b e;exact ⟨g1, by omega⟩
 ·exact ⟨fun hg => by have := hlt b hg; omega, e2⟩
theorem FJ.below (j : FJ C w0 H K w q p h) (hb : Below w.heap.size w w') : FJ C w0 H K w' q p h := j.guard hb fun b e => .inl e
theorem FJ.less (j : FJ C w0 H K w q p h) (hK : ∀ b, K' b -> K b) : FJ C w0 H K' w q p h := j.guard ak fun b e => .inl (hK b e)
theorem FJ.kept (j : FJ C w0 H K w q p h) (hb : Below w.heap.size w w') : ci K w w' := fun b e => hb.block b (j.lt e)
theorem FJ.turn {G G' : Nat -> Prop} (h1 : C.J w G q p h) (h2 : Only H w0 w) (h3 : Grow w0 H G) (h4 : ∀ b, K b -> ¬ G b /\ b < w.heap.size) (h5 : CrG w0 H) (k1 : C.J w' G' q p h') (k2 : Only G w w') (k3 : Grow w G G') : FJ C w0 H K w' q p h' /\ ci K w w' /\ w.heap.size <= w'.heap.size := by
 have hs := k2.size;have hs0 := h2.size;refine ⟨⟨G', k1, h2.trans k2 fun b e => h3 b e, fun b e => ?_, fun b e => ?_, h5⟩, fun b e => k2.block b (h4 b e).2 (h4 b e).1, hs⟩
 ·rcases k3 b e with e | e
  ·exact h3 b e
  ·exact .inr (by omega)
 ·obtain ⟨g1, g2⟩ := h4 b e;refine ⟨fun hg => ?_, by omega⟩;rcases k3 b hg with e | e
  ·exact g1 e
  ·omega
theorem FJ.read (s m : Int) (j : FJ C w0 H K w q p h) (hr : HRm h) (hk : qG h s m) : Calls prog 114 #[.pointer (some ⟨p, 0, none⟩), .agg #[.int .i64 s, .int .i64 m]] w fun e w' => e = .returned (.tuple #[blk (kb h s m), .int .i64 (gi h s m)]) /\ FJ C w0 H K w' q p (f6 h s m) /\ ci K w w' /\ w.heap.size <= w'.heap.size := by
 obtain ⟨G, h1, h2, h3, h4, h5⟩ := j;exact (C.read s m h1 (FJ.alb h2 h3 h5) hr.1 hr.2).mono fun e w' ⟨k0, G', k1, k2, k3, _⟩ => ⟨k0, FJ.turn h1 h2 h3 h4 h5 (k1 hk) k2 k3⟩
theorem FJ.id_ (j : FJ C w0 H K w q p h) : Calls prog 56 #[.pointer (some ⟨p, 0, none⟩)] w fun e w' => e = .returned (.int .u64 (h.id : Int)) /\ Below w.heap.size w w' := by obtain ⟨G, h1, _⟩ := j; exact C.id_ h1
theorem FJ.is (j : FJ C w0 H K w q p h) : bi h.R = true /\ h.id ≠ 0 := by obtain ⟨G, h1, _⟩ := j; exact C.fin h1
theorem FJ.tB (j : FJ C w0 H K w q p h) : Calls prog 49 #[.pointer (some ⟨p, 0, none⟩)] w fun e w' => e = .returned (ros h.R) /\ Below w.heap.size w w' := by obtain ⟨G, h1, _⟩ := j; exact C.tB h1
theorem FJ.fin {G : Nat -> Prop} (j : FJ C w G K w' q p h') : ∃ G', C.J w' G' q p h' /\ Only G w w' /\ Grow w G G' := by
 obtain ⟨G', h1, h2, h3, _⟩ := j;exact ⟨G', h1, h2, h3⟩
theorem FJ.mine {g : Nat} (j : FJ C w0 H K w q p h) (hg : K g) (hg0 : w0.heap.size <= g) (ho : Only (fun b => b = g) w w') : FJ C w0 H K w' q p h := by
 obtain ⟨G, h1, h2, h3, h4, h5⟩ := j;have hs := ho.size;obtain ⟨g1, g2⟩ := h4 g hg;refine ⟨G, C.only h1 ho fun b hb e => g1 (e ▸ hb), h2.trans ho fun b e => .inr (by omega), h3, fun b e => ?_, h5⟩;obtain ⟨g1, g2⟩ := h4 b e;exact ⟨g1, by omega⟩
end
def rwK (rd : HuS -> Int -> Int × Blk × HuS) (sk : Int) : Nat -> Nat -> HuS -> List Blk -> Int × List Blk × HuS
 |0, _, h, l => (0, l, h)
 |k + 1, i, h, l =>
  if (i : Int) = sk then rwK rd sk k (i + 1) h l
  else if (rd h i).1 = 0 then rwK rd sk k (i + 1) (rd h i).2.2 (l ++ [(rd h i).2.1])
  else ((rd h i).1, [], (rd h i).2.2)
def rwP (rd : HuS -> Int -> Int × Blk × HuS) (P : HuS -> Int -> Prop) (sk : Int) : Nat -> Nat -> HuS -> Prop
 |0, _, _ => True
 |k + 1, i, h => if (i : Int) = sk then rwP rd P sk k (i + 1) h else P h i /\ ((rd h i).1 = 0 -> rwP rd P sk k (i + 1) (rd h i).2.2)
def hrT (s : Int) (h : HuS) (m : Int) : Int × Blk × HuS := (gi h s m, kb h s m, f6 h s m)
def hrQ (s : Int) (h : HuS) (m : Int) : Prop := HRm h /\ qG h s m
section
variable {s sk no : Int}
theorem acJ : ∀ (k i : Nat) (h : HuS) (l : List Blk), ftK s sk no k i h (fold l) =
  (if (rwK (hrT s) sk k i h l).1 = 7 then no else (rwK (hrT s) sk k i h l).1, if (rwK (hrT s) sk k i h l).1 = 0 then fold (rwK (hrT s) sk k i h l).2.1 else aF, (rwK (hrT s) sk k i h l).2.2)
 |0, i, h, l => rfl
 |k + 1, i, h, l => by
  rw [ftK, rwK];by_cases e : (i : Int) = sk
  ·rw [if_pos e, if_pos e];exact acJ k (i + 1) h l
  rw [if_neg e, if_neg e];by_cases e0 : gi h s i = 0
  ·rw [if_pos e0, if_pos (show (hrT s h i).1 = 0 from e0)];have := acJ k (i + 1) (f6 h s i) (l ++ [kb h s i]);rw [wv, show fold [kb h s i] = kb h s i by rw [aaN, aeE, tA]] at this;exact this
  ·rw [if_neg e0, if_neg (show ¬ (hrT s h i).1 = 0 from e0)]
   show _ = (if gi h s i = 7 then no else gi h s i, if gi h s i = 0 then _ else aF, f6 h s i)
   rw [if_neg e0]
theorem yM : ∀ (k i : Nat) (h : HuS), ftP s sk k i h -> rwP (hrT s) (hrQ s) sk k i h
 |0, i, h, _ => trivial
 |k + 1, i, h, hp => by
  rw [ftP] at hp;rw [rwP];by_cases e : (i : Int) = sk
  ·rw [if_pos e] at hp ⊢;exact yM k (i + 1) h hp
  ·rw [if_neg e] at hp ⊢;exact ⟨⟨hp.1, hp.2.1⟩, fun e0 => yM k (i + 1) _ (hp.2.2 e0)⟩
theorem ajW {h : HuS} {m : Int} (hf : bi h.R = true) (hr : HRm h) : (f6 h s m).R.m = h.R.m := by
 unfold f6
 split
 ·have hk := iM.los hf ((m.toNat : Nat) : Int);exact (hk.trans (tE (k := 0) 17 (ml h m.toNat) hk.fine (dy hr.1 (by omega))).2.1).m
 ·rfl
end
def NoH (w : World) (v : Value) : Prop := v = .pointer none \/ ∃ p, v = .pointer (some ⟨p, 0, none⟩) /\ PHo w p none ⟨0, 0, 0, bY⟩
theorem NoH.below {w w' : World} {v : Value} (h : NoH w v) (hb : Below w.heap.size w w') : NoH w' v := by
 rcases h with h | ⟨p, h, h1⟩
 ·exact .inl h
 ·exact .inr ⟨p, h, h1.below hb⟩
section
variable {w : World} {p q : Nat} {qa : Option Addr} {x : HpS} {v : Value}
theorem kG (h : PHo w p (some ⟨q, 0, none⟩) x) : Calls prog 135 #[.pointer (some ⟨p, 0, none⟩)] w fun e w' => e = .returned (.bool true) /\ w = w' := by
 have HL := ae h;clear h;go_enter func135, ntmps135;go_upto_region 1 with fail;refine aJ 1 ?_;refine alM (dz true underlying34 rfl alW evk rfl) ?_;refine runs 3 ?_;refine alT (ax rfl alW pH) ?_;refine alT (aE rfl alW (wZ (PHo.c0 HL))) ?_;refine alT (dz true underlying35 rfl alW evk rfl) ?_;refine aH 2 ?_;go_wp2_with fail;go_ret;exact ⟨rfl, rfl⟩
theorem adH (h : PHo w p none x) : Calls prog 135 #[.pointer (some ⟨p, 0, none⟩)] w fun e w' => e = .returned (.bool false) /\ w = w' := by
 have HL := ae h;clear h;go_enter func135, ntmps135;go_upto_region 1 with fail;refine aJ 1 ?_;refine alM (dz true underlying34 rfl alW evk rfl) ?_;refine runs 3 ?_;refine alT (ax rfl alW pH) ?_;refine alT (aE rfl alW (wZ (PHo.c0 HL))) ?_;refine alT (dz false underlying35 rfl alW evk rfl) ?_;refine aH 2 ?_;go_wp2_with fail;go_ret;exact ⟨rfl, rfl⟩
theorem acn : Calls prog 135 #[.pointer none] w fun e w' => e = .returned (.bool false) /\ w = w' := by
 go_enter func135, ntmps135;go_upto_region 1 with fail;refine aJ 1 ?_;refine alM (dz false underlying34 rfl alW evk rfl) ?_;refine bq 5 rfl (aL rfl alW) (by kernel_rfl) ?_;simp only [bX, ac, aa];refine aH 2 ?_;go_wp2_with fail;go_ret;exact ⟨rfl, rfl⟩
theorem zh (h : NoH w v) : Calls prog 135 #[v] w fun e w' => e = .returned (.bool false) /\ w = w' := by
 rcases h with rfl | ⟨p, rfl, h⟩
 ·exact acn
 ·exact adH h
theorem rj (h : PHo w p qa x) : Calls prog 49 #[.pointer (some ⟨p, 0, none⟩)] w fun e w' => e = .returned (ros (x.R)) /\ Below w.heap.size w w' := by
 have HL := ae (h.below ((Below.refl w.heap.size w).alloc aj (.cells (a7 bY).toArray 86)));clear h;have HA := ae (bW.new w bY);have HB := ae ((Below.refl w.heap.size w).alloc aj (.cells (a7 bY).toArray 86));go_enter func49, ntmps49;go_upto_region 0 with fail;refine af ?_;refine alM (df rfl) ?_;generalize w.alloc (.cells (a7 bY).toArray 86) = w1 at *
 skip
 refine ah ?_;go_upto_region 1 with fail;refine aJ 1 ?_;refine alM (cR false underlying34 rfl alW evk rfl) ?_;refine ah ?_;go_upto_region 3 with fail;refine aJ 2 ?_;refine alM (ax rfl alW si) ?_;refine alM (bH rfl alW (PHo.ros HL)) ?_;refine aG rfl (ex rfl (ev rfl) (ev rfl) HA.out) ?_;simp only [aa];refine ah ?_;go_wp2_with fail;exact bodyPost_ret (ab7 rfl _ _ _ rfl (kj HA)) rfl ⟨rfl, iD HB aj⟩
theorem xC : Calls prog 49 #[.pointer none] w fun e w' => e = .returned (ros (bY)) /\ Below w.heap.size w w' := by
 have HA := ae (bW.new w bY);have HB := ae ((Below.refl w.heap.size w).alloc aj (.cells (a7 bY).toArray 86));go_enter func49, ntmps49;go_upto_region 0 with fail;refine af ?_;refine alM (df rfl) ?_;generalize w.alloc (.cells (a7 bY).toArray 86) = w1 at *
 skip
 refine ah ?_;go_upto_region 1 with fail;refine aJ 1 ?_;refine alM (cR true underlying34 rfl alW evk rfl) ?_;refine ah ?_;go_upto_region 2 with fail;refine af ?_;refine alM (qo rfl) ?_;refine aG rfl (ex rfl (ev rfl) (ev rfl) HA.out) ?_;simp only [aa];refine ah ?_;go_wp2_with fail;exact bodyPost_ret (ab7 rfl _ _ _ rfl (kj HA)) rfl ⟨rfl, iD HB aj⟩
theorem wN (h : PHo w p qa x) : Calls prog 47 #[.pointer (some ⟨p, 0, none⟩)] w fun e w' => e = .returned (.int .u64 (x.ev : Int)) /\ w = w' := by
 have HL := ae h;clear h;go_enter func47, ntmps47;go_upto_region 1 with fail;refine aJ 1 ?_;refine alM (cR false underlying34 rfl alW evk rfl) ?_;refine ah ?_;go_upto_region 3 with fail;refine aJ 2 ?_;refine alM (ax rfl alW ahM) ?_;refine alM (aE rfl alW (lh (PHo.c2 HL))) ?_;refine aH 1 ?_;go_wp2_with fail;go_ret;exact ⟨rfl, rfl⟩
theorem abv : Calls prog 47 #[.pointer none] w fun e w' => e = .returned (.int .u64 0) /\ w = w' := by
 go_enter func47, ntmps47;go_upto_region 1 with fail;refine aJ 1 ?_;refine alM (cR true underlying34 rfl alW evk rfl) ?_;refine ah ?_;go_upto_region 2 with fail;refine cC 1 ?_;go_wp2_with fail;go_ret;exact ⟨rfl, rfl⟩
theorem ahz (h : PHo w p qa x) : Calls prog 56 #[.pointer (some ⟨p, 0, none⟩)] w fun e w' => e = .returned (.int .u64 (x.id : Int)) /\ w = w' := by
 have HL := ae h;clear h;go_enter func56, ntmps56;go_upto_region 1 with fail;refine aJ 1 ?_;refine alM (cR false underlying34 rfl alW evk rfl) ?_;refine ah ?_;go_upto_region 3 with fail;refine aJ 2 ?_;refine alM (ax rfl alW ahC) ?_;refine alM (aE rfl alW (lh (PHo.c1 HL))) ?_;refine aH 1 ?_;go_wp2_with fail;go_ret;exact ⟨rfl, rfl⟩
theorem aiR : Calls prog 56 #[.pointer none] w fun e w' => e = .returned (.int .u64 0) /\ w = w' := by
 go_enter func56, ntmps56;go_upto_region 1 with fail;refine aJ 1 ?_;refine alM (cR true underlying34 rfl alW evk rfl) ?_;refine ah ?_;go_upto_region 2 with fail;refine cC 1 ?_;go_wp2_with fail;go_ret;exact ⟨rfl, rfl⟩
theorem mL (h : PHo w p qa x) : Calls prog 182 #[.pointer (some ⟨p, 0, none⟩)] w fun e w' => e = .returned (.int .i64 (stN (x.R) : Nat)) /\ Below w.heap.size w w' := by
 have HL := ae h;clear h;obtain ⟨n, hn⟩ : ∃ n, stN (x.R) = n := ⟨_, rfl⟩;rw [hn];have HN := ae hn;clear hn;go_enter func182, ntmps182;go_upto_region 1 with fail;refine aJ 1 ?_;refine ay rfl (aB call49 rfl (evc alW evn)) ?_;refine (rj HL).mono ?_;rintro e w1 ⟨rfl, b1⟩;have HB1 := ae b1;clear b1;refine aR ?_;refine ay rfl (aB call197 rfl (evc alW evn)) ?_;refine (un w1 HN).mono ?_;rintro e w2 ⟨rfl, b2⟩;have HB2 := ae (HB1.out.trans (b2.mono HB1.out.size));clear b2;refine aR ?_;refine aH 1 ?_;go_wp2_with fail;go_ret;exact ⟨rfl, HB2⟩
theorem aa1 : Calls prog 182 #[.pointer none] w fun e w' => e = .returned (.int .i64 (stN (bY) : Nat)) /\ Below w.heap.size w w' := by
 obtain ⟨n, hn⟩ : ∃ n, stN (bY) = n := ⟨_, rfl⟩;rw [hn];have HN := ae hn;clear hn;go_enter func182, ntmps182;go_upto_region 1 with fail;refine aJ 1 ?_;refine ay rfl (aB call49 rfl (evc alW evn)) ?_;refine (xC).mono ?_;rintro e w1 ⟨rfl, b1⟩;have HB1 := ae b1;clear b1;refine aR ?_;refine ay rfl (aB call197 rfl (evc alW evn)) ?_;refine (un w1 HN).mono ?_;rintro e w2 ⟨rfl, b2⟩;have HB2 := ae (HB1.out.trans (b2.mono HB1.out.size));clear b2;refine aR ?_;refine aH 1 ?_;go_wp2_with fail;go_ret;exact ⟨rfl, HB2⟩
theorem iK (h : PHo w p (some ⟨q, 0, none⟩) x) : Calls prog 137 #[.pointer (some ⟨p, 0, none⟩)] w fun e w' => e = .returned (.int .i64 (if gI x.R = true then 16 else 0)) /\ Below w.heap.size w w' := by
 obtain ⟨n, hn⟩ : ∃ n, stN x.R = n := ⟨_, rfl⟩;have HN := ae hn;have HL := ae h;clear h;cases hf : gI x.R
 ·have H5 : Hid (((n : Int) == 5) = false) := ae (by
   unfold gI at hf;rw [hn] at hf;have := of_decide_eq_false hf; exact av (by omega))
  clear hf hn;go_enter func137, ntmps137;go_upto_region 1 with fail;refine aJ 1 ?_;refine ay rfl (aB call135 rfl (evc alW evn)) ?_;refine (kG HL).mono ?_;rintro e w1 ⟨rfl, rfl⟩;refine aR ?_;refine aH 2 ?_;go_upto_region 3 with fail;refine aJ 1 ?_;refine ay rfl (aB call182 rfl (evc alW evn)) ?_;refine (mL HL).mono ?_;rintro e w1 ⟨rfl, b1⟩;rw [HN.out];have HB1 := ae b1;clear b1;refine aR ?_;refine alM (aI false rfl alW evk H5) ?_;refine aH 1 ?_;go_upto_region 5 with fail;refine cC 1 ?_;go_wp2_with fail;go_ret;exact ⟨rfl, HB1⟩
 ·have H5 : Hid (((n : Int) == 5) = true) := ae (by
   unfold gI at hf;rw [hn] at hf;have := of_decide_eq_true hf; subst this; rfl)
  clear hf hn;go_enter func137, ntmps137;go_upto_region 1 with fail;refine aJ 1 ?_;refine ay rfl (aB call135 rfl (evc alW evn)) ?_;refine (kG HL).mono ?_;rintro e w1 ⟨rfl, rfl⟩;refine aR ?_;refine aH 2 ?_;go_upto_region 3 with fail;refine aJ 1 ?_;refine ay rfl (aB call182 rfl (evc alW evn)) ?_;refine (mL HL).mono ?_;rintro e w1 ⟨rfl, b1⟩;rw [HN.out];have HB1 := ae b1;clear b1;refine aR ?_;refine alM (aI true rfl alW evk H5) ?_;refine aH 1 ?_;go_upto_region 4 with fail;refine cC 1 ?_;go_wp2_with fail;go_ret;exact ⟨rfl, HB1⟩
theorem vt (h : NoH w v) : Calls prog 137 #[v] w fun e w' => e = .returned (.int .i64 1) /\ w = w' := by
 have HL := ae h;clear h;go_enter func137, ntmps137;go_upto_region 1 with fail;refine aJ 1 ?_;refine ay rfl (aB call135 rfl (evc alW evn)) ?_;refine (zh HL).mono ?_;rintro e w1 ⟨rfl, rfl⟩;refine aR ?_;refine aH 2 ?_;go_upto_region 2 with fail;refine cC 1 ?_;go_wp2_with fail;go_ret;exact ⟨rfl, rfl⟩
theorem agN {R : Ros} (s m : Int) (hg : dW R = true) : (blE R.m R.s R.r s m != 12) = me R s m := by
 have hm : may R.m R.s R.r = true := by
  have := iA.1 hg;exact iW.2 (by omega)
 have e : inP R.m R.s s m = me R s m := rfl;rw [<- e];unfold blE;rw [if_pos hm];cases hp : inP R.m R.s s m
 ·rw [if_neg (by decide)]; rfl
 ·rw [if_pos rfl]
  split <;> rfl
theorem xI (s m : Int) (hg : dW x.R = true) (h : PHo w p qa x) : Calls prog 136 #[.pointer (some ⟨p, 0, none⟩), .agg #[.int .i64 s, .int .i64 m]] w fun e w' => e = .returned (.bool (me x.R s m)) /\ Below w.heap.size w w' := by
 have hb := (Below.refl w.heap.size w).alloc aj (.cells ([.int .i64 s, .int .i64 m] : List Value).toArray 43);have HL := ae (h.below hb);have HA := ae (heap_alloc_new w (.cells ([.int .i64 s, .int .i64 m] : List Value).toArray 43));have HB := ae hb;have HP := agN s m hg;obtain ⟨bv, hbv⟩ : ∃ bv, me x.R s m = bv := ⟨_, rfl⟩;rw [hbv] at HP ⊢;have HPP := ae HP;clear h hb HP hg;go_enter func136, ntmps136;go_upto_region 0 with fail;refine af ?_;refine alM (ct (cs := [.int .i64 s, .int .i64 m]) rfl alW) ?_;generalize w.alloc (.cells ([.int .i64 s, .int .i64 m] : List Value).toArray 43) = w1 at *;refine aH 1 ?_;go_upto_region 1 with fail;refine aT (B := w1.heap.size) (by kernel_rfl) ?_;refine cT 2 ?_;refine alU (fun _ hw => ax rfl alW si) ?_;refine alU (fun _ hw => ax rfl alW aki) ?_;refine alU (fun _ hw => eP rfl alW (PHo.geo (HL.out.below hw))) ?_;refine alU (fun _ hw => bN (cs := [.int .i64 s, .int .i64 m]) underlying43 rfl (by kernel_rfl) rfl alW (aP (aC HA hw))) ?_;refine ch rfl (fun _ => aB call110 rfl (evc alW (evc alW evn))) (bO aj fun w' hw => px x.R.m x.R.s x.R.r s m w') ?_;simp only [aa];refine cT 3 ?_;refine cT 2 ?_;refine wpQuiet_nil ?_;intro w2 hw;have HBB := ae (HB.out.trans (hw.mono HB.out.size));clear hw;go_upto_region 2 with fail;refine aJ 1 ?_;refine alM (aN bv rfl alW evk HPP) ?_;refine aH 1 ?_;go_wp2_with fail;go_ret;exact ⟨rfl, HBB⟩
end
theorem aiV : (prog.info? 240).map (fun i => i.zero) = some (some (.agg (cel aF ++ cel aF).toArray)) := by kernel_rfl
def Ar2 (w : World) (b : Nat) (a0 a1 : Blk) : Prop := w.heap[b]? = some (.cells (cel a0 ++ cel a1).toArray 240 (0, 0))
theorem Ar2.r0 {w : World} {b : Nat} {a0 a1 : Blk} (h : Ar2 w b a0 a1) : w.rangeAt b 0 (cel a0) := fx (cs := cel a0 ++ cel a1) (ds := []) (es := cel a0) (fs := cel a1) (k := 0) (aP h) rfl rfl
theorem Ar2.r1 {w : World} {b : Nat} {a0 a1 : Blk} (h : Ar2 w b a0 a1) : w.rangeAt b 64 (cel a1) := by
 have := fx (cs := cel a0 ++ cel a1) (ds := cel a0) (es := cel a1) (fs := []) (k := 64) (aP h) (by rw [List.append_nil]) (aK a0);rwa [Nat.zero_add] at this
theorem Ar2.there {w : World} {b k : Nat} {a0 a1 : Blk} (h : Ar2 w b a0 a1) (hk : k < 2) : w.there b (0 + k * 64) 64 := eR h (by rw [List.length_append, aK, aK]; omega)
theorem Ar2.set {w : World} {b k : Nat} {a0 a1 : Blk} (h : Ar2 w b a0 a1) (hk : k < 2) (y : Blk) : Ar2 (w.setCells b (0 + k * 64) (cel y)) b (if k = 0 then y else a0) (if k = 1 then y else a1) := by
 rcases (show k = 0 \/ k = 1 by omega) with rfl | rfl
 ·exact heap_put b 240 (cel a1) (cel y) (cel a0) [] w (by rw [aK, aK]) h
 ·have h' : w.heap[b]? = some (.cells (cel a0 ++ cel a1 ++ []).toArray 240 (0, 0)) := by rw [List.append_nil]; exact h
  have := heap_put b 240 [] (cel y) (cel a1) (cel a0) w (by rw [aK, aK]) h';rw [List.append_nil, aK] at this;exact this
theorem ajM {w : World} {b k : Nat} (hk : k < 2) : (Instr.indexAt 240 (.pointer (some ⟨b, 0, none⟩)) (.int .i64 (k : Int))).run prog w = .ok (.pointer (some ⟨b, 0 + k * 64, none⟩)) w := by
 have e : (0 <= (k : Int) /\ (k : Int) < 2) := by omega
 simp [Instr.indexAt, Instr.sureAddr, asIntOf, run_underlying underlying240, Tryz.sizeOf45, Addr.add_mid, e, hk]
theorem akb {w : World} {b : Nat} : (Instr.indexAt 240 (.pointer (some ⟨b, 0, none⟩)) (.int .i64 0)).run prog w = .ok (.pointer (some ⟨b, 0, none⟩)) w := ajM (k := 0) (by omega)
theorem akW {w : World} {b : Nat} : (Instr.indexAt 240 (.pointer (some ⟨b, 0, none⟩)) (.int .i64 1)).run prog w = .ok (.pointer (some ⟨b, 64, none⟩)) w := ajM (k := 1) (by omega)
theorem ale {w : World} {ad : Addr} {u : Value} {n : Int} (h : w.cell? ad = some u) (hf : w.frozen? ad = false) : (Instr.storeAt 46 (.pointer (some ad)) (.int .u64 n)).run prog w = .ok () (w.setCell ad (.int .u64 n)) := by simp [go_sem, h, hf]
theorem ab9 {w : World} {b : Nat} : (Instr.fieldAt 234 (.pointer (some ⟨b, 0, none⟩)) 1).run prog w = .ok (.pointer (some ⟨b, 1, none⟩)) w := by kernel_rfl
theorem jm {ρ : Operand -> Value} {o : Oper} {x y : Operand} {w : World} {b j : Nat} {u : Value} {n : Int} (ho : o.op = .store 46 x y) (hx : ρ x = .pointer (some ⟨b, j, none⟩)) (hy : ρ y = .int .u64 n) (h : w.cell? ⟨b, j, none⟩ = some u) (hf : w.frozen? ⟨b, j, none⟩ = false) : (execOp ρ o).run prog w = .ok .skip (w.setCell ⟨b, j, none⟩ (.int .u64 n)) :=
 dh ho hx hy (ale h hf)
section
variable {id en m : Nat} {R : Ros} {M : aZ} {n : Nat} {b : Blk}
theorem afY (h : cJ M m 0 ≠ 0) : eg id en R M m = cJ M m 0 /\ fg id en R M m = M := ⟨if_neg h, if_neg fun e => h e.1⟩
theorem ae7 (h0 : cJ M m 0 = 0) (h : cJ M m 1 ≠ 0) : eg id en R M m = cJ M m 1 /\ fg id en R M m = M := ⟨by unfold eg; rw [if_pos h0, if_neg h], if_neg fun e => h e.2⟩
theorem aiD (h0 : cJ M m 0 = 0) (h1 : cJ M m 1 = 0) (hn : oo (fo M m 0) (fo M m 1) = n) (hb : jF en ⟨id, m, R⟩ = b) (h : eZ M m n ≠ 0) : eg id en R M m = eZ M m n /\ fg id en R M m = et M m n b := by
 have := ahK (d := (m : Int)) (M := M) (s := .wr (n : Int) b) (l := [.fl]) h;unfold eg fg aag;rw [if_pos h0, if_pos h1, if_pos ⟨h0, h1⟩, hn, hb];exact this
theorem aiB (h0 : cJ M m 0 = 0) (h1 : cJ M m 1 = 0) (hn : oo (fo M m 0) (fo M m 1) = n) (hb : jF en ⟨id, m, R⟩ = b) (h : eZ M m n = 0) : eg id en R M m = ib (et M m n b) m /\ fg id en R M m = gh (et M m n b) m := by
 have h2 := go_ok (d := (m : Int)) (M := M) (s := .wr (n : Int) b) (l := [.fl]) h;unfold eg fg aag;rw [if_pos h0, if_pos h1, if_pos ⟨h0, h1⟩, hn, hb, h2.1, h2.2]
 show goE m (et M m n b) [.fl] = _ /\ goB m (et M m n b) [.fl] = _
 by_cases hf : ib (et M m n b) m = 0
 ·have h3 := go_ok (d := (m : Int)) (M := et M m n b) (s := .fl) (l := []) hf;rw [h3.1, h3.2, hf];exact ⟨rfl, rfl⟩
 ·have h3 := ahK (d := (m : Int)) (M := et M m n b) (s := .fl) (l := []) hf;rw [h3.1, h3.2];exact ⟨rfl, rfl⟩
end
def rdK (M : aZ) (m k j : Nat) : Blk := if j < k then fo M m j else aF
def aaq (p : Nat) (qa : Option Addr) (x : HpS) (b5 b7 b11 : Nat) (sx : Sup) (a0 a1 y : Blk) (w : World) : Prop :=
 PHo w p qa x /\ w.heap[b5]? = some (.cells (bS sx).toArray 234 (0, 0)) /\ Ar2 w b7 a0 a1 /\ w.heap[b11]? = some (.cells (cel y).toArray 45 (0, 0))
theorem aaq.below {p : Nat} {qa : Option Addr} {x : HpS} {b5 b7 b11 : Nat} {sx : Sup} {a0 a1 y : Blk} {w w' : World} (h : aaq p qa x b5 b7 b11 sx a0 a1 y w) (hb : Below w.heap.size w w') : aaq p qa x b5 b7 b11 sx a0 a1 y w' :=
 ⟨h.1.below hb, aC h.2.1 hb, aC h.2.2.1 hb, aC h.2.2.2 hb⟩
section
variable {w0 w : World} {H K : Nat -> Prop} {p q : Nat} {M : aZ} {x : HpS}
theorem ah4 {en m : Nat} {R : Ros} (hr : Room M 2) (hev : 1 <= en /\ en <= 4611686018427387904) (hid : x.id ≠ 0 /\ x.id < 18446744073709551616) (hf : bi R = true) (hm : m < R.m.toNat) (h : HJ w0 H K w p q M x) : Calls prog 205 #[.pointer (some ⟨p, 0, none⟩), .int .u64 (en : Int), sup ⟨x.id, (m : Int), R⟩] w fun e w' =>
  e = .returned (.int .i64 (eg x.id en R M m)) /\ (∃ us, (us = x.us \/ us = en) /\ HJ w0 H K w' p q (fg x.id en R M m) { x with us := us }) /\ ci K w w' := by
 have hev' : evB en = true := by unfold evB; rw [decide_eq_true_iff]; omega
 have hsp : iq ⟨x.id, (m : Int), R⟩ = true := by
  unfold iq;simp only [Bool.and_eq_true, decide_eq_true_eq];exact ⟨⟨hid.1, hf⟩, by omega, by omega⟩
 have HSP : Hid (yR en ⟨x.id, (m : Int), R⟩ = 0) := ae (wF hev' hsp);obtain ⟨sb, hsb⟩ : ∃ sb, jF en ⟨x.id, (m : Int), R⟩ = sb := ⟨_, rfl⟩;have HSB' := ae hsb;obtain ⟨E, hE⟩ : ∃ E, eg x.id en R M m = E := ⟨_, rfl⟩;obtain ⟨M2, hM2⟩ : ∃ M2, fg x.id en R M m = M2 := ⟨_, rfl⟩;rw [hE, hM2];have HE := ae hE;have HM2 := ae hM2;have HRM := ae hr;have HEV : Hid (en < 18446744073709551616) := ae (by omega);have HID := ae hid.2;have HJ := ae h;clear hr hev hid hf hm h hev' hsp hsb hE hM2;go_enter func205, ntmps205;go_upto_region 0 with fail;refine af ?_;refine alM (jD (c := ⟨x.id, (m : Int), R⟩) rfl alW) ?_;have hb0 := (Below.refl w.heap.size w).alloc aj (.cells (bS (⟨x.id, (m : Int), R⟩ : Sup)).toArray 234);have HS1 := ae (heap_alloc_new w (.cells (bS (⟨x.id, (m : Int), R⟩ : Sup)).toArray 234));have HB1 := ae hb0;obtain ⟨b5, hb5⟩ : ∃ b5, w.heap.size = b5 := ⟨_, rfl⟩;have HG5 : Hid (w.heap.size <= b5) := ae (Nat.le_of_eq hb5);rw [hb5] at HS1 ⊢;clear hb5 hb0;generalize w.alloc (.cells (bS (⟨x.id, (m : Int), R⟩ : Sup)).toArray 234) = w1 at *;refine aH 1 ?_;go_upto_region 1 with fail;refine af ?_;refine alM (dR aiV rfl) ?_;have hb0 := (Below.refl w1.heap.size w1).alloc aj (.cells (cel aF ++ cel aF).toArray 240);have HA2 : Hid (Ar2 _ w1.heap.size aF aF) := ae (heap_alloc_new w1 (.cells (cel aF ++ cel aF).toArray 240));have HS2 := ae (aC HS1 hb0);have HB2 := ae (HB1.out.trans (hb0.mono HB1.out.size));obtain ⟨b7, hb7⟩ : ∃ b7, w1.heap.size = b7 := ⟨_, rfl⟩;have HG7 : Hid (w.heap.size <= b7) := ae (by rw [<- hb7]; exact HB1.out.size);have HSZ : Hid (b5 < b7) := ae (by rw [<- hb7]; exact aS HS1);rw [hb7] at HA2 ⊢;clear hb7 hb0;generalize w1.alloc (.cells (cel aF ++ cel aF).toArray 240) = w2 at *;clear HS1 HB1;refine ah ?_;go_upto_region 2 with fail;refine cC 1 ?_;go_wp2_with fail
 go_loopw [14] (fun z wr => ∃ i : Nat, z = .int .i64 i /\ i <= 2 /\ Below w.heap.size w wr /\ wr.heap[b5]? = some (.cells (bS (⟨x.id, (m : Int), R⟩ : Sup)).toArray 234 (0, 0)) /\ Ar2 wr b7 (rdK M m i 0) (rdK M m i 1) /\ ∀ j : Nat, j < i -> cJ M m (j : Int) = 0) (fun z _ => 2 - (intOf z).toNat)
 case atStart => exact ⟨0, by go_num, by omega, HB2, HS2, HA2, fun j hj => absurd hj (by omega)⟩
 case round =>
  obtain ⟨i, rfl, hi, hb, hs, ha, hz⟩ := hrel;have HBr := ae hb;have HSr := ae hs;have HAr := ae ha;have HZr := ae hz;have HJr := ae (HJ.out.below hb);clear hb hs ha hz HB2 HS2 HA2;by_cases hlt : i < 2
  ·have HI := ae hlt;have HLT : Hid (decide ((i : Int) < 2) = true) := ae (ao (by omega));have HIA : Hid (IntKind.i64.wrap ((i : Int) + 1) = ((i + 1 : Nat) : Int)) := ae (by rw [eF ⟨by omega, by omega⟩]; omega);obtain ⟨xb, hxb⟩ : ∃ xb, fo M m (i : Int) = xb := ⟨_, rfl⟩;obtain ⟨ee, hee⟩ : ∃ ee, cJ M m (i : Int) = ee := ⟨_, rfl⟩;have HXB := ae hxb;have HEE := ae hee;clear hi hlt hxb hee;go_upto_region 3 with fail;refine af ?_;refine alM (aY true rfl alW evk HLT) ?_;refine ah ?_;go_upto_region 4 with fail;refine cC 2 ?_;have HSD : Hid (Below wr.heap.size wr (World.drew wr)) := ae ((Below.refl wr.heap.size wr).drew);have HSB : Hid (Below wr.heap.size wr ((World.drew wr).alloc (.cells (cel aF).toArray 45))) := ae (HSD.out.alloc aj _);go_upto_region 5 with fail;refine wp_region_held (S := fun w' => Below wr.heap.size wr w') (by kernel_rfl) ?_;change wpAnyH _ _ _ _ _ 14 _ _ wr.drew;apply ab8 (F := fun (vb : Value) (wz : World) => ∃ b, vb = .pointer (some ⟨b, 0, none⟩) /\ wz.heap[b]? = some (.cells (cel xb).toArray 45 (0, 0)) /\ Below wr.heap.size wr wz /\ wr.heap.size <= b)
   ·intro kk;refine al9 0 rfl HSD ?_;refine amb 1 rfl HSD ?_;refine alP 2 rfl (fun _ hw => ax rfl alW pH) HSD ?_;refine alP 3 rfl (fun _ hw => aE rfl alW (wZ (PHo.c0 (HJr.out.hul.below hw)))) HSD ?_;refine alP 4 rfl (fun _ hw => ax rfl alW ab9) HSD ?_;refine alP 5 rfl (fun _ hw => aE rfl alW (bV ((aP (aC HSr hw)) 1 _ rfl))) HSD ?_;refine al9 6 rfl HSD ?_;refine i3 7 11 rfl rfl (by kernel_rfl) rfl rfl (aB call164 rfl (evc alW (evc alW (evc alW evn)))) ?_ (aX rfl) HSB ?_
    ·refine ((HJr.out.below HSD).read (m : Int) (i : Int)).mono ?_;rintro e wA ⟨rfl, bA⟩;rw [HXB.out, HEE.out];have HSA := ae (Below.trans HSD (bA.mono (Below.size HSD)));clear bA;refine ⟨_, rfl, HSA, ?_⟩;simp only [aa];refine al9 8 rfl HSA ?_;refine amc 9 rfl HSA ?_;refine amc 10 rfl HSA ?_;have HSA2 := ae (HSA.out.alloc HSA.out.size (.cells (cel aF).toArray 45));have HSA3 := ae (HSA.out.alloc HSA.out.size (.cells (cel xb).toArray 45));refine lG 11 rfl (by kernel_rfl) rfl (aX rfl) HSA2.out ?_;simp only [aa];refine dG 12 rfl (by kernel_rfl) rfl (eC (c := xb) rfl (ev rfl) (ev rfl)) HSA3.out ?_;simp only [Act.put];refine ama 13 rfl HSA3 ?_;refine wpAnyH_done (by kernel_rfl) ?_ _;have hz : (wA.alloc (.cells (cel xb).toArray 45)).heap[wA.heap.size]? = _ := heap_alloc_new wA (.cells (cel xb).toArray 45);have hy := HSA3.out;have hge := HSA.out.size;obtain ⟨bb, hbb⟩ : ∃ bb, wA.heap.size = bb := ⟨_, rfl⟩;rw [hbb] at hz hge ⊢;clear HSA2 HSA3;generalize wA.alloc (.cells (cel xb).toArray 45) = wz at *;obtain ⟨vb, hvb⟩ : ∃ vb, Value.pointer (some ⟨bb, 0, none⟩) = vb := ⟨_, rfl⟩;rw [hvb];exact kk vb wz ⟨bb, hvb.symm, hz, hy, hge⟩
    ·skip
     simp only [aa];obtain ⟨wa, hwa⟩ : ∃ wa, wr.drew.alloc (.cells (cel aF).toArray 45) = wa := ⟨_, rfl⟩;have HSa := HSB;have HQa := ae (heap_alloc_new wr.drew (.cells (cel aF).toArray 45));obtain ⟨bb, hbb⟩ : ∃ bb, wr.drew.heap.size = bb := ⟨_, rfl⟩;have HBL : Hid (wr.heap.size <= bb) := ae (Nat.le_of_eq hbb);rw [hwa] at HSa HQa;rw [hbb] at HQa;rw [hwa, hbb];clear hwa hbb;refine cW 7 rfl (by kernel_rfl) rfl (aB call164 rfl (evc alW (evc alW (evc alW evn)))) ?_;refine ((HJr.out.below HSa).read (m : Int) (i : Int)).mono ?_;rintro e wA ⟨rfl, bA⟩;rw [HXB.out, HEE.out];have HQB := ae (aC HQa bA);have HSb := ae (HSa.out.trans (bA.mono HSa.out.size));clear bA;refine ⟨_, rfl, HSb, ?_⟩;simp only [aa];refine al9 8 rfl HSb ?_;refine amc 9 rfl HSb ?_;refine amc 10 rfl HSb ?_;have HSc := ae (below_setCells HSb HBL (o := 0) (cel xb));refine dG 12 rfl (by kernel_rfl) rfl (aU (c := xb) rfl (ev rfl) (ev rfl) (bQ HQB.out)) HSc.out ?_;simp only [Act.put];refine ama 13 rfl HSc ?_;refine wpAnyH_done (by kernel_rfl) ?_ _;have hz : (wA.setCells bb 0 (cel xb)).heap[bb]? = _ := mQ HQB;have hy := HSc.out;clear HSc;generalize wA.setCells bb 0 (cel xb) = wz at *;obtain ⟨vb, hvb⟩ : ∃ vb, Value.pointer (some ⟨bb, 0, none⟩) = vb := ⟨_, rfl⟩;rw [hvb];exact kk vb wz ⟨bb, hvb.symm, hz, hy, HBL⟩
   rintro _ wz ⟨g9, rfl, hz9, hy, hge⟩;have HG9 := ae hz9;have HBz := ae (HBr.out.trans (hy.mono HBr.out.size));have HSz := ae (aC HSr hy);have HAz : Hid (Ar2 wz b7 (rdK M m i 0) (rdK M m i 1)) := ae (aC HAr hy);have HNE : Hid (b5 ≠ b7) := ae (by have := HSZ.out; omega);clear hz9 hy hge HSB HSD;by_cases h0 : ee = 0;rotate_left 1
   ·have H0 : Hid ((ee != 0) = true) := ae (bne_iff_ne.2 h0);have HFI : Hid (E = ee /\ M2 = M) := ae (by
     rcases (show i = 0 \/ i = 1 by have := HI.out; omega) with rfl | rfl
     ·have := afY (id := x.id) (en := en) (R := R) (M := M) (m := m) (by rw [show ((0 : Nat) : Int) = 0 from rfl] at HEE; rw [HEE.out]; exact h0);exact ⟨by rw [<- HE.out, this.1]; exact HEE, by rw [<- HM2.out, this.2]⟩
     ·have := ae7 (id := x.id) (en := en) (R := R) (M := M) (m := m) (HZr.out 0 (by omega)) (by rw [show ((1 : Nat) : Int) = 1 from rfl] at HEE; rw [HEE.out]; exact h0);exact ⟨by rw [<- HE.out, this.1]; exact HEE, by rw [<- HM2.out, this.2]⟩)
    clear h0;go_upto_region 6 with fail;refine aJ 1 ?_;refine alM (aN true rfl alW evk H0) ?_;refine ah ?_;go_upto_region 7 with fail;refine cC 2 ?_;go_wp2_with fail;go_ret;exact ⟨by rw [HFI.out.1]; rfl, ⟨x.us, .inl rfl, by rw [HFI.out.2]; exact HJ.out.below HBz⟩, HJ.out.kept HBz⟩
   subst h0;go_upto_region 6 with fail;refine aJ 1 ?_;refine alM (aN false rfl alW evk rfl) ?_;refine ah ?_;have hset := HAz.out.set HI xb;have hk0 : (if i = 0 then xb else rdK M m i 0) = rdK M m (i + 1) 0 := by
    rcases (show i = 0 \/ i = 1 by have := HI.out; omega) with rfl | rfl
    ·rw [if_pos rfl, <- HXB.out]; rfl
    ·rfl
   have hk1 : (if i = 1 then xb else rdK M m i 1) = rdK M m (i + 1) 1 := by
    rcases (show i = 0 \/ i = 1 by have := HI.out; omega) with rfl | rfl
    ·rfl
    ·rw [if_pos rfl, <- HXB.out]; rfl
   rw [hk0, hk1] at hset;have HAs := ae hset;have HSs := ae ((fu b7 (cel xb) (0 + i * 64) wz b5 HNE).trans HSz);have HBs := ae (below_setCells HBz HG7 (o := 0 + i * 64) (cel xb));have HTH := ae (HAz.out.there HI);clear hset hk0 hk1;go_upto_region 8 with fail;refine aJ 1 ?_;refine alM (aV (c := xb) rfl alW (aP HG9)) ?_;refine alM (cX rfl alW alW (ajM HI)) ?_;refine aG rfl (aU (c := xb) rfl (ev rfl) (ev rfl) HTH.out) ?_;simp only [aa];generalize wz.setCells b7 (0 + i * 64) (cel xb) = ws at *;refine ah ?_;go_upto_region 9 with fail;refine af ?_;refine alM (bP rfl alW evk HIA) ?_;refine aH 1 ?_;go_wp2_with fail;go_roundw
   case rel => exact ⟨i + 1, by go_num, by have := HI.out; omega, HBs, HSs, HAs, fun j hj => by
    by_cases e : j = i
    ·subst e; exact HEE
    ·exact HZr.out j (by omega)⟩
   case measure => have := HI.out; simp [intOf]; omega
  have h2 : i = 2 := by omega
  subst h2;have HLT : Hid (decide (((2 : Nat) : Int) < 2) = false) := ae (am (by omega));obtain ⟨a0, ha0⟩ : ∃ a0, fo M m 0 = a0 := ⟨_, rfl⟩;obtain ⟨a1, ha1⟩ : ∃ a1, fo M m 1 = a1 := ⟨_, rfl⟩;have HAq : Hid (Ar2 wr b7 a0 a1) := ae (by rw [<- ha0, <- ha1]; exact HAr);have HR0 : Hid (cJ M m 0 = 0) := ae (HZr.out 0 (by omega));have HR1 : Hid (cJ M m 1 = 0) := ae (HZr.out 1 (by omega));obtain ⟨n, hn⟩ : ∃ n, oo a0 a1 = n := ⟨_, rfl⟩;have HN := ae hn;have HNN : Hid (oo (fo M m 0) (fo M m 1) = n) := ae (by rw [ha0, ha1]; exact hn);clear ha0 ha1 hn hi hlt HAr HZr;go_upto_region 3 with fail;refine af ?_;refine alM (aY false rfl alW evk HLT) ?_;refine ah ?_;go_upto_region 10 with fail;refine aJ 1 ?_;refine alM (dI (c := ⟨x.id, (m : Int), R⟩) rfl alW (aP HSr)) ?_;refine ay rfl (aB call211 rfl (evc alW (evc alW evn))) ?_;refine (akg en ⟨x.id, (m : Int), R⟩ wr HJr.out.tab HEV HID).mono ?_;rintro e w3 ⟨rfl, b3⟩;rw [HSP.out, HSB'.out];have HB3 := ae (HBr.out.trans (b3.mono HBr.out.size));have HS3 := ae (aC HSr b3);have HA3 : Hid (Ar2 w3 b7 a0 a1) := ae (aC HAq b3);clear b3 HSr HAq;refine aR ?_;refine runs 3 ?_;refine alM (aX rfl) ?_;refine aG rfl (eC (c := sb) rfl (ev rfl) (ev rfl)) ?_;simp only [aa];have hb0 := HB3.out.alloc HB3.out.size (.cells (cel sb).toArray 45);have hb00 := (Below.refl w3.heap.size w3).alloc aj (.cells (cel sb).toArray 45);have HG4 := ae (heap_alloc_new w3 (.cells (cel sb).toArray 45));have HS4 := ae (aC HS3 hb00);have HA4 : Hid (Ar2 _ b7 a0 a1) := ae (aC HA3 hb00);have HB4 := ae hb0;obtain ⟨b11, hb11⟩ : ∃ b11, w3.heap.size = b11 := ⟨_, rfl⟩;have HG11 : Hid (w.heap.size <= b11) := ae (by rw [<- hb11]; exact HB3.out.size);rw [hb11] at HG4 ⊢;clear hb11 hb0 hb00 HS3 HA3 HB3;generalize w3.alloc (.cells (cel sb).toArray 45) = w4 at *;refine aH 1 ?_;go_upto_region 11 with fail;refine aJ 1 ?_;refine alM (aN false rfl alW evk rfl) ?_;refine ah ?_;have HL4 : Hid (aaq p (some ⟨q, 0, none⟩) x b5 b7 b11 ⟨x.id, (m : Int), R⟩ a0 a1 sb (World.drew w4)) := ae ⟨(HJ.out.below HB4).hul, HS4, HA4, HG4⟩;have HB4d : Hid (Below w.heap.size w (World.drew w4)) := ae (bd HB4);obtain ⟨we, hwe⟩ : ∃ we, eZ M m (n : Int) = we := ⟨_, rfl⟩;have HWE := ae hwe;clear HS4 HA4 HG4 hwe;go_upto_region 13 with fail;refine wp_region_held (S := aaq p (some ⟨q, 0, none⟩) x b5 b7 b11 ⟨x.id, (m : Int), R⟩ a0 a1 sb) (by kernel_rfl) ?_;change wpAnyH _ _ _ _ _ 14 _ _ w4.drew;refine al9 0 rfl HL4 ?_;refine amb 1 rfl HL4 ?_;refine alP 2 rfl (fun _ hw => ax rfl alW pH) HL4 ?_;refine alP 3 rfl (fun _ hw => aE rfl alW (wZ (PHo.c0 hw.1))) HL4 ?_;refine alP 4 rfl (fun _ hw => ax rfl alW ab9) HL4 ?_;refine alP 5 rfl (fun _ hw => aE rfl alW (bV ((aP hw.2.1) 1 _ rfl))) HL4 ?_;refine alP 6 rfl (fun _ hw => cX rfl alW evk akb) HL4 ?_;refine alP 7 rfl (fun _ hw => aV (c := a0) rfl alW hw.2.2.1.r0) HL4 ?_;refine alP 8 rfl (fun _ hw => cX rfl alW evk akW) HL4 ?_;refine alP 9 rfl (fun _ hw => aV (c := a1) rfl alW hw.2.2.1.r1) HL4 ?_;refine alP 11 rfl (fun _ hw => aV (c := sb) rfl alW (aP hw.2.2.2)) HL4 ?_;refine cW 10 rfl (by kernel_rfl) rfl (aB call212 rfl (evc alW (evc alW evn))) ?_;refine (agM a0 a1 n (World.drew w4) (HJ.out.below HB4d).tab HN).mono ?_;rintro e w5 ⟨rfl, b5'⟩;have HL5 := ae (HL4.out.below b5');have HB5 := ae (HB4d.out.trans (b5'.mono HB4d.out.size));have HJ5 := ae (HJ.out.up HB5);clear b5';refine ⟨_, rfl, HL5, ?_⟩;simp only [aa];refine cW 12 rfl (by kernel_rfl) rfl (aB call94 rfl (evc alW (evc alW (evc alW (evc alW evn))))) ?_;refine (HJ5.out.write (m : Int) (n : Int) sb (dy HRM (by omega))).mono ?_;rintro e w6 ⟨rfl, j6, k6⟩;rw [HWE.out];have HJ6 := ae j6;have HK6 : Hid (ci K w w6) := ae ((HJ.out.kept HB5).trans (k6.less fun b e => .inl e));have HS6 := ae (k6.at_ (.inr ⟨HG5, aS HL5.out.2.1⟩) HL5.out.2.1);have HL6 : Hid (aaq p (some ⟨q, 0, none⟩) x b5 b7 b11 ⟨x.id, (m : Int), R⟩ a0 a1 sb w6) := ae ⟨j6.hul, HS6, k6.at_ (.inr ⟨HG7, aS HL5.out.2.2.1⟩) HL5.out.2.2.1, k6.at_ (.inr ⟨HG11, aS HL5.out.2.2.2⟩) HL5.out.2.2.2⟩;clear j6 k6;refine ⟨_, rfl, HL6, ?_⟩;simp only [aa];refine ama 13 rfl HL6 ?_;refine wpAnyH_done (by kernel_rfl) ?_ _;by_cases h0 : we = 0;rotate_left 1
  ·have H0 : Hid ((we != 0) = true) := ae (bne_iff_ne.2 h0);have hput := aiD (id := x.id) (en := en) (R := R) HR0 HR1 HNN HSB' (by rw [HWE.out]; exact h0);have HFI : Hid (E = we /\ M2 = et M m n sb) := ae ⟨by rw [<- HE.out, hput.1, HWE.out], by rw [<- HM2.out, hput.2]⟩;clear h0 hput;go_upto_region 14 with fail;refine aJ 1 ?_;refine alM (aN true rfl alW evk H0) ?_;refine ah ?_;go_upto_region 15 with fail;refine cC 2 ?_;go_wp2_with fail;go_ret;exact ⟨by rw [HFI.out.1]; rfl, ⟨x.us, .inl rfl, by rw [HFI.out.2]; exact HJ6.out.less fun b e => .inl e⟩, HK6⟩
  subst h0;have hput := aiB (id := x.id) (en := en) (R := R) HR0 HR1 HNN HSB' HWE;have HFI : Hid (E = ib (et M m n sb) m /\ M2 = gh (et M m n sb) m) := ae ⟨by rw [<- HE.out, hput.1], by rw [<- HM2.out, hput.2]⟩;clear hput;go_upto_region 14 with fail;refine aJ 1 ?_;refine alM (aN false rfl alW evk rfl) ?_;refine ah ?_;obtain ⟨M3, hM3⟩ : ∃ M3, et M m n sb = M3 := ⟨_, rfl⟩;have HRM3 : Hid (Room M3 1) := ae (by rw [<- hM3]; exact zK HRM _ _ _);rw [hM3] at HFI HJ6;clear hM3;go_upto_region 16 with fail;refine aJ 3 ?_;refine alM (ax rfl alW adR) ?_;refine aG rfl (jm rfl (ev rfl) (ev rfl) HJ6.out.hul.c24 (HJ6.out.hul.adz 24)) ?_;simp only [aa];have ho := (Only.refl (fun b => b = p) w6).setCell (p := ⟨p, 24, none⟩) (.inl rfl) (.int .u64 (en : Int));have hset := HJ6.out.hul.set (ado _ x en);obtain ⟨hj7, hk7⟩ := HJ6.out.obj ho hset;have HJ7 := ae hj7;have HK7 : Hid (ci K w _) := ae (HK6.out.trans (hk7.less fun b e => .inl e));have HS7 := ae (hk7.at_ (.inr ⟨HG5, by have := aS HL5.out.2.1; exact this⟩) HS6);clear ho hset hj7 hk7;generalize w6.setCell ⟨p, 24, none⟩ (.int .u64 (en : Int)) = w7 at *;refine ah ?_;go_upto_region 17 with fail;refine wp_region_still_tail 6 (by kernel_rfl) (by kernel_rfl) ?_;simp only [ac];refine aM rfl (aL rfl alW) ?_;simp only [aa];refine aM rfl (bj rfl alW) ?_;simp only [aa];refine aM rfl (ax rfl alW pH) ?_;simp only [aa];refine aM rfl (aE rfl alW (wZ (PHo.c0 HJ7.out.hul))) ?_;simp only [aa];refine aM rfl (ax rfl alW ab9) ?_;simp only [aa];refine aM rfl (aE rfl alW (bV ((aP HS7) 1 _ rfl))) ?_;simp only [aa];refine wpStill_nil ?_;change wpList _ _ _ _ _ (World.drew _);refine ay rfl (aB call213 rfl (evc alW (evc alW evn))) ?_;refine (HJ7.out.drew.flush (m : Int) HRM3).mono ?_;rintro e w8 ⟨rfl, j8, k8⟩;refine aR ?_;refine aH 1 ?_;go_wp2_with fail;go_ret;exact ⟨by rw [HFI.out.1]; rfl, ⟨en, .inr rfl, by rw [HFI.out.2]; exact j8.less fun b e => .inl e⟩, HK7.out.trans (k8.less fun b e => .inl e)⟩
end
section
variable {ρ : Operand -> Value} {o : Oper} {x y x1 x2 x3 : Operand} {w : World} {t : TypeId} {v v1 v2 v3 : Value} {f : FuncId}
theorem fS (hv : v.cells = #[v]) (ho : o.op = .box t x) (hx : ρ x = v) : (execOp ρ o).run prog w = .ok (.value (.pointer (some ⟨w.heap.size, 0, none⟩))) (w.alloc (.cells #[v] t)) := by
 unfold execOp;simp [ho, hx, Instr.box, newVar, newRow, hv]
theorem nP (hv : v.cells = #[v]) (h : (prog.info? t).map (fun i => i.zero) = some (some v)) (ho : o.op = .alloc t) : (execOp ρ o).run prog w = .ok (.value (.pointer (some ⟨w.heap.size, 0, none⟩))) (w.alloc (.cells #[v] t)) := by
 have hz := gB h w;unfold execOp;simp [ho, Instr.alloc, hz, newVar, newRow, hv]
theorem ajA : (prog.info? 46).map (fun i => i.zero) = some (some (.int .u64 0)) := by kernel_rfl
theorem ajg : (prog.info? 3).map (fun i => i.zero) = some (some (.int .i64 0)) := by kernel_rfl
theorem zg (fn : Fn) (fs cs : Array Value) (w : World) : (Instr.makeFunc fn fs cs).run prog w = .ok (.func fn fs cs) w := rfl
theorem aa4 (ho : o.op = .makeFunc (.func f) #[] #[x1, x2]) (h1 : ρ x1 = v1) (h2 : ρ x2 = v2) : (execOp ρ o).run prog w = .ok (.value (.func (.func f) #[] #[v1, v2])) w := by
 unfold execOp;simp [ho, h1, h2, zg]
theorem jr (ho : o.op = .makeFunc (.func f) #[] #[x1, x2, x3]) (h1 : ρ x1 = v1) (h2 : ρ x2 = v2) (h3 : ρ x3 = v3) : (execOp ρ o).run prog w = .ok (.value (.func (.func f) #[] #[v1, v2, v3])) w := by
 unfold execOp;simp [ho, h1, h2, h3, zg]
theorem ajU : (prog.info? 234).map (fun i => i.zero) = some (some (.agg (.int .u64 0 :: .int .i64 0 :: a7 bY).toArray)) := by kernel_rfl
theorem aaH (id : Nat) (m : Int) (R : Ros) : (Instr.build 234 #[(0, .int .u64 (id : Int)), (1, .int .i64 m), (2, ros R)]).run prog w = .ok (sup ⟨id, m, R⟩) w := by
 have hz := gB ajU w;have h0 := dm (place := fun i => (#[(0, 1), (1, 1), (2, 21)] : Array (Nat × Nat))[i]?) (i := 0) (off := 0) (size := 1) (v := .int .u64 (id : Int)) (pre := []) (mid := [.int .u64 0]) (post := .int .i64 0 :: a7 bY) (vs := [.int .u64 (id : Int)]) (rest := [(1, .int .i64 m), (2, ros R)]) rfl rfl rfl rfl rfl;have h1 := dm (place := fun i => (#[(0, 1), (1, 1), (2, 21)] : Array (Nat × Nat))[i]?) (i := 1) (off := 1) (size := 1) (v := .int .i64 m) (pre := [.int .u64 (id : Int)]) (mid := [.int .i64 0]) (post := a7 bY) (vs := [.int .i64 m]) (rest := [(2, ros R)]) rfl rfl rfl rfl rfl;have h2 := dm (place := fun i => (#[(0, 1), (1, 1), (2, 21)] : Array (Nat × Nat))[i]?) (i := 2) (off := 2) (size := 21) (v := ros R) (pre := [.int .u64 (id : Int), .int .i64 m]) (mid := a7 bY) (post := []) (vs := a7 R) (rest := []) rfl rfl (bK R) rfl (bK bY);simp only [List.nil_append, List.append_nil, List.cons_append] at h0 h1 h2;have h4 := h0.trans (h1.trans h2);have hz' : (zeroValue 234).run prog w = .ok (.agg (.int .u64 0 :: .int .i64 0 :: a7 bY).toArray) w := hz;have hc : (Value.agg (.int .u64 0 :: .int .i64 0 :: a7 bY).toArray).cells = (.int .u64 0 :: .int .i64 0 :: a7 bY).toArray := rfl;simp only [Instr.build, Sem.run_bind, hz', run_underlying underlying234, Result.andThen_ok, hc];refine Eq.trans (congrArg (fun r => Result.andThen r _) (?h : _ = Result.ok #[(0, 1), (1, 1), (2, 21)] w)) ?_
 case h => kernel_rfl
 simp only [Result.andThen_ok];have h5 : Instr.fill (fun i => (#[(0, 1), (1, 1), (2, 21)] : Array (Nat × Nat))[i]?) (.int .u64 (id : Int) :: .int .i64 m :: a7 R).toArray [] = some (.int .u64 (id : Int) :: .int .i64 m :: a7 R).toArray := by rw [Instr.fill]
 rw [h4.trans h5]
 rfl
theorem yL {id : Nat} {m : Int} {R : Ros} (ho : o.op = .build 234 #[(0, x1), (1, x2), (2, x3)]) (h1 : ρ x1 = .int .u64 (id : Int)) (h2 : ρ x2 = .int .i64 m) (h3 : ρ x3 = ros R) : (execOp ρ o).run prog w = .ok (.value (sup ⟨id, m, R⟩)) w := by
 unfold execOp;simp only [ho, h1, h2, h3, List.map_toArray, List.map_cons, List.map_nil, Sem.run_bind, aaH, Result.andThen_ok, Sem.run_pure]
theorem akR {b off : Nat} : (Instr.fieldAt 86 (.pointer (some ⟨b, off, none⟩)) 0).run prog w = .ok (.pointer (some ⟨b, off, none⟩)) w := by kernel_rfl
theorem akI {b off : Nat} : (Instr.fieldAt 86 (.pointer (some ⟨b, off, none⟩)) 1).run prog w = .ok (.pointer (some ⟨b, off + 3, none⟩)) w := by kernel_rfl
theorem akv {b off : Nat} : (Instr.fieldAt 24 (.pointer (some ⟨b, off, none⟩)) 0).run prog w = .ok (.pointer (some ⟨b, off, none⟩)) w := by kernel_rfl
theorem alu {b off j : Nat} {w : World} (hj : j < 16) : (Instr.indexAt 84 (.pointer (some ⟨b, off, none⟩)) (.int .i64 (j : Int))).run prog w = .ok (.pointer (some ⟨b, off + j, none⟩)) w := by
 have e : (0 <= (j : Int) /\ (j : Int) < 16) := by omega
 simp [Instr.indexAt, Instr.sureAddr, asIntOf, run_underlying underlying84, Tryz.sizeOf5, Addr.add_mid, e, hj]
end
theorem ak1 {w : World} {b off : Nat} {R : Ros} (h : w.rangeAt b off (a7 R)) : w.cell? ⟨b, off, none⟩ = some (.int .i64 R.m) := h 0 _ rfl
theorem ahs {w : World} {b off j : Nat} {R : Ros} (h : w.rangeAt b off (a7 R)) (hj : j < 16) : w.cell? ⟨b, off + 3 + j, none⟩ = some (.int .u8 (sta R j)) := by
 have h1 := fx (k := 3) (ds := [.int .i64 R.m, .int .i64 R.s, .int .i64 R.r]) (es := vals R.st.toList) (fs := [.int .i64 R.cur, .bool R.gone]) h rfl rfl;exact h1 j _ (ja (by simpa using hj))
theorem agv {b off N : Nat} (s : Fu) (P : Nat -> Ros -> World -> Prop) (Q : Int -> World -> Prop) (hN : N <= 16)
  (hR : ∀ {m R w}, P m R w -> w.rangeAt b off (a7 R) /\ R.m = (N : Int))
  (hskip : ∀ {m R w}, m < N -> sta R m = 1 -> P m R w -> P (m + 1) R w)
  (hdo : ∀ {m R w}, m < N -> sta R m ≠ 1 -> P m R w -> Calls prog s.f (.int .i64 (m : Int) :: s.cap).toArray w fun e w' => ∃ E : Int, e = .returned (.int .i64 E) /\ ((E = 0 /\ ∃ R', P (m + 1) R' w') \/ (E ≠ 0 /\ Q E w')))
  (hend : ∀ {R w}, P N R w -> Q 0 w) {R : Ros} {w : World} (h : P 0 R w) :
  Calls prog 206 #[.pointer (some ⟨b, off, none⟩), s.val] w fun e w' => ∃ E : Int, e = .returned (.int .i64 E) /\ Q E w' := by
 have HP := ae h;have HR := ae (hR h);have HN := ae hN;obtain ⟨PP, hPP⟩ : ∃ PP, PP = P := ⟨_, rfl⟩;clear h hN;go_enter func206, ntmps206;go_upto_region 1 with fail;refine aJ 2 ?_;refine alM (ax rfl alW akR) ?_;refine alM (ax rfl alW akv) ?_;refine alM (aE rfl alW (bV (k := (N : Int)) (by rw [<- HR.out.2]; exact ak1 HR.out.1))) ?_;refine aH 1 ?_;go_wp2_with fail
 go_loopw [12] (fun z wr => ∃ (i : Nat) (Ri : Ros), z = .int .i64 i /\ i <= N /\ P i Ri wr) (fun z _ => N - (intOf z).toNat)
 case atStart => exact ⟨0, R, by go_num, Nat.zero_le _, HP⟩
 case round =>
  clear HP HR;obtain ⟨i, Ri, rfl, hi, hp⟩ := hrel;have HPr := ae hp;have HRr := ae (hR hp);clear hp;by_cases hlt : i < N
  ·have HI := ae hlt;have HI16 : Hid (i < 16) := ae (by have := HN.out; omega);have HLT : Hid (decide ((i : Int) < (N : Int)) = true) := ae (ao (by omega));have HIA : Hid (IntKind.i64.wrap ((i : Int) + 1) = ((i + 1 : Nat) : Int)) := ae (by have := HI16.out; rw [eF ⟨by omega, by omega⟩]; omega);clear hi hlt;go_upto_region 2 with fail;refine af ?_;refine alM (aY true rfl alW alW HLT) ?_;refine ah ?_;go_upto_region 3 with fail;refine cC 2 ?_;go_upto_region 4 with fail;refine aJ 3 ?_;refine alM (ax rfl alW akI) ?_;refine alM (cX rfl alW alW (alu HI16)) ?_;refine alM (aE rfl alW (q6 (ahs HRr.out.1 HI16))) ?_;by_cases hs : sta Ri i = 1
   ·have HS : Hid ((sta Ri i == 1) = true) := ae (beq_iff_eq.2 hs);have HP1 := ae (hskip HI hs HPr);clear hs;refine alM (aI true rfl alW evk HS) ?_;refine ah ?_;go_upto_region 8 with fail;refine af ?_;refine alM (bP rfl alW evk HIA) ?_;refine aH 1 ?_;go_wp2_with fail;go_roundw
    case rel => exact ⟨i + 1, Ri, by go_num, HI, HP1⟩
    case measure => have := HI.out; simp [intOf]; omega
   have HS : Hid ((sta Ri i == 1) = false) := ae (av hs);have HD := ae (hdo HI hs HPr);clear hs;refine alM (aI false rfl alW evk HS) ?_;refine ah ?_;go_upto_region 5 with fail;refine aJ 2 ?_;refine ay rfl (nU (s := s) (v := .int .i64 (i : Int)) rfl alW alW) ?_;refine (HD.out).mono ?_;rintro e w2 ⟨E, rfl, hE⟩;refine aR ?_;refine aH 1 ?_;by_cases h0 : E = 0
   ·subst h0;have hE1 : ∃ R', P (i + 1) R' w2 := by
     rcases hE with ⟨_, h⟩ | ⟨h, _⟩
     ·exact h
     ·exact absurd rfl h
    obtain ⟨R2, hE2⟩ := hE1;have HE2 := ae hE2;clear hE hE2;go_upto_region 6 with fail;refine aJ 1 ?_;refine alM (aN false rfl alW evk rfl) ?_;refine ah ?_;go_upto_region 8 with fail;refine af ?_;refine alM (bP rfl alW evk HIA) ?_;refine aH 1 ?_;go_wp2_with fail;go_roundw
    case rel => exact ⟨i + 1, R2, by go_num, HI, HE2⟩
    case measure => have := HI.out; simp [intOf]; omega
   have H0 : Hid ((E != 0) = true) := ae (bne_iff_ne.2 h0);have HE2 : Hid (Q E w2) := ae (by
    rcases hE with ⟨h, _⟩ | ⟨_, h⟩
    ·exact absurd h h0
    ·exact h)
   clear hE h0;go_upto_region 6 with fail;refine aJ 1 ?_;refine alM (aN true rfl alW evk H0) ?_;refine ah ?_;go_upto_region 7 with fail;refine cC 2 ?_;go_wp2_with fail;go_ret;exact ⟨E, rfl, HE2⟩
  have hin : i = N := by omega
  subst hin;have HLT : Hid (decide ((i : Int) < (i : Int)) = false) := ae (am (by omega));have HQ := ae (hend HPr);clear hi hlt;go_upto_region 2 with fail;refine af ?_;refine alM (aY false rfl alW alW HLT) ?_;refine ah ?_;go_upto_region 9 with fail;refine cC 1 ?_;go_wp2_with fail;go_ret;exact ⟨0, rfl, HQ⟩
structure SvL (w0 : World) (H K : Nat -> Prop) (ws : World) (p q b2 b3 b5 : Nat) (x : HpS) (R : Ros) (en : Nat) (M : aZ) (w : World) : Prop where
 j : ∃ us, us <= en /\ HJ w0 H (fun b => K b \/ b = b2 \/ b = b3 \/ b = b5) w p q M { x with us := us }
 h2 : w.heap[b2]? = some (.cells #[.pointer (some ⟨p, 0, none⟩)] 34 (0, 0))
 h3 : bW w b3 R
 h5 : w.heap[b5]? = some (.cells #[.int .u64 (en : Int)] 46 (0, 0))
 k : ci K ws w
 g : w0.heap.size <= b2 /\ w0.heap.size <= b3 /\ w0.heap.size <= b5
 d : b2 ≠ b3 /\ b2 ≠ b5 /\ b3 ≠ b5
 n : ∀ b, K b -> b ≠ b2 /\ b ≠ b3 /\ b ≠ b5
section
variable {w0 ws w w' : World} {H K : Nat -> Prop} {p q b2 b3 b5 en : Nat} {x : HpS} {R : Ros} {M : aZ}
theorem SvL.below (h : SvL w0 H K ws p q b2 b3 b5 x R en M w) (hb : Below w.heap.size w w') : SvL w0 H K ws p q b2 b3 b5 x R en M w' := by
 obtain ⟨us, h0, h1⟩ := h.j;exact ⟨⟨us, h0, h1.below hb⟩, aC h.h2 hb, aC h.h3 hb, aC h.h5 hb, h.k.trans ((h1.kept hb).less fun b e => .inl e), h.g, h.d, h.n⟩
theorem SvL.drew (h : SvL w0 H K ws p q b2 b3 b5 x R en M w) : SvL w0 H K ws p q b2 b3 b5 x R en M w.drew := h.below (bd ak)
theorem SvL.turn {M' : aZ} {us : Nat} (h : SvL w0 H K ws p q b2 b3 b5 x R en M w) (hu : us <= en) (j : HJ w0 H (fun b => K b \/ b = b2 \/ b = b3 \/ b = b5) w' p q M' { x with us := us }) (kk : ci (fun b => K b \/ b = b2 \/ b = b3 \/ b = b5) w w') : SvL w0 H K ws p q b2 b3 b5 x R en M' w' :=
 ⟨⟨us, hu, j⟩, kk.at_ (.inr (.inl rfl)) h.h2, kk.at_ (.inr (.inr (.inl rfl))) h.h3, kk.at_ (.inr (.inr (.inr rfl))) h.h5, h.k.trans (kk.less fun b e => .inl e), h.g, h.d, h.n⟩
theorem SvL.ak4 (h : SvL w0 H K ws p q b2 b3 b5 x R en M w) (y : Ros) : SvL w0 H K ws p q b2 b3 b5 x y en M (jk w b3 y) := by
 obtain ⟨us, h0, h1⟩ := h.j;have ho : Only (fun b => b = b3) w (jk w b3 y) := (Only.refl (fun b => b = b3) w).setCells (.inl rfl) _ _;exact ⟨⟨us, h0, h1.mine (.inr (.inr (.inl rfl))) h.g.2.1 ho⟩, ho.keep h.h2 h.d.1, kj h.h3, ho.keep h.h5 (fun e => h.d.2.2 e.symm), h.k.trans (ci.jK ho fun b e => ⟨(h.n b e).2.1, h1.lt (.inl e)⟩), h.g, h.d, h.n⟩
theorem SvL.iR {em : Nat} (h : SvL w0 H K ws p q b2 b3 b5 x R en M w) (he : en <= em) : SvL w0 H K ws p q b2 b3 b5 x R em M (w.setCell ⟨b5, 0, none⟩ (.int .u64 (em : Int))) := by
 obtain ⟨us, h0, h1⟩ := h.j;have ho : Only (fun b => b = b5) w (w.setCell ⟨b5, 0, none⟩ (.int .u64 (em : Int))) := (Only.refl (fun b => b = b5) w).setCell (p := ⟨b5, 0, none⟩) (.inl rfl) _;exact ⟨⟨us, by omega, h1.mine (.inr (.inr (.inr rfl))) h.g.2.2 ho⟩, ho.keep h.h2 h.d.2.1, ho.keep h.h3 h.d.2.2, heap_setCell_same w b5 0 _ _ _ h.h5, h.k.trans (ci.jK ho fun b e => ⟨(h.n b e).2.2, h1.lt (.inl e)⟩), h.g, h.d, h.n⟩
theorem adF {m : Nat} (hr : Room M 2) (hev : 1 <= en /\ en <= 4611686018427387904) (hid : x.id ≠ 0 /\ x.id < 18446744073709551616) (hf : bi R = true) (hm : m < R.m.toNat) (h : SvL w0 H K ws p q b2 b3 b5 x R en M w) : Calls prog 204 #[.int .i64 (m : Int), .pointer (some ⟨b2, 0, none⟩), .pointer (some ⟨b5, 0, none⟩), .pointer (some ⟨b3, 0, none⟩)] w fun e w' =>
  e = .returned (.int .i64 (eg x.id en R M m)) /\ SvL w0 H K ws p q b2 b3 b5 x (if eg x.id en R M m = 9 then fa R (m : Int) else R) en (fg x.id en R M m) w' := by
 obtain ⟨E, hE⟩ : ∃ E, eg x.id en R M m = E := ⟨_, rfl⟩;obtain ⟨M2, hM2⟩ : ∃ M2, fg x.id en R M m = M2 := ⟨_, rfl⟩;rw [hE, hM2];obtain ⟨us, hus, hj⟩ := h.drew.j;have hlay := ah4 hr hev (x := { x with us := us }) hid hf hm hj;have hlay : Calls prog 205 #[.pointer (some ⟨p, 0, none⟩), .int .u64 (en : Int), sup ⟨x.id, (m : Int), R⟩] w.drew fun e w' => e = .returned (.int .i64 E) /\ SvL w0 H K ws p q b2 b3 b5 x R en M2 w' :=
  hlay.mono fun e w' ⟨e1, ⟨us', e2, e3⟩, e4⟩ => ⟨by rw [e1]; show Ending.returned (.int .i64 (eg x.id en R M m)) = _; rw [hE], h.drew.turn (us := us') (by rcases e2 with e2 | e2 <;> (rw [e2]; first | exact hus | exact aj)) (by rw [<- hM2]; exact e3) e4⟩
 have HLAY := ae hlay;have HJ := ae hj;have HL := ae h.drew;obtain ⟨y, hy⟩ : ∃ y, fa R (m : Int) = y := ⟨_, rfl⟩;rw [hy];obtain ⟨z, hz⟩ : ∃ z, (if E = 9 then y else R) = z := ⟨_, rfl⟩;rw [hz];have HZ := ae hz;have HY := ae hy;clear hz;clear hr hev hid hf hm h hE hM2 hus hj hlay hy;go_enter func204, ntmps204;go_upto_region 1 with fail;refine wp_region_still_tail 9 (by kernel_rfl) (by kernel_rfl) ?_;simp only [ac];refine aM rfl (aE rfl alW (ov ((aP HL.out.h2) 0 _ rfl))) ?_;simp only [aa];refine aM rfl (aE rfl alW (lh ((aP HL.out.h5) 0 _ rfl))) ?_;simp only [aa];refine aM rfl (aE rfl alW (ov ((aP HL.out.h2) 0 _ rfl))) ?_;simp only [aa];refine aM rfl (bj rfl alW) ?_;simp only [aa];refine aM rfl (ax rfl alW ahC) ?_;simp only [aa];refine aM rfl (aE rfl alW (lh (PHo.c1 HJ.out.hul))) ?_;simp only [aa];refine aM rfl (aL rfl alW) ?_;simp only [aa];refine aM rfl (bH rfl alW (aP HL.out.h3)) ?_;simp only [aa];refine aM rfl (yL rfl alW alW alW) ?_;simp only [aa];refine wpStill_nil ?_;change wpList _ _ _ _ _ (World.drew _);refine ay rfl (aB call205 rfl (evc alW (evc alW (evc alW evn)))) ?_;refine (HLAY.out).mono ?_;rintro e w2 ⟨rfl, l2⟩;have HL2 := ae l2;clear l2;refine aR ?_;refine aH 1 ?_;by_cases h9 : E = 9;rotate_left 1
 ·have H9 : Hid ((E == 9) = false) := ae (av h9);have HZZ : Hid (z = R) := ae (by rw [<- HZ.out, if_neg h9]);clear h9;go_upto_region 2 with fail;refine aJ 1 ?_;refine alM (aI false rfl alW evk H9) ?_;refine ah ?_;go_upto_region 4 with fail;refine cC 2 ?_;go_wp2_with fail;go_ret;exact ⟨rfl, by rw [HZZ.out]; exact HL2⟩
 subst h9;have HZZ : Hid (z = y) := ae (by rw [<- HZ.out, if_pos rfl]);go_upto_region 2 with fail;refine aJ 1 ?_;refine alM (aI true rfl alW evk rfl) ?_;refine ah ?_;obtain ⟨lb, hlb⟩ : ∃ lb, mM R (m : Int) = lb := ⟨_, rfl⟩;have HLB := ae hlb;clear hlb;go_upto_region 3 with fail;refine af ?_;refine alM (bH rfl alW HL2.out.h3.range) ?_;refine runs 1 ?_;refine ay rfl (aB call198 rfl (evc alW (evc alW evn))) ?_;refine (y7 w2 HY HLB).mono ?_;rintro e w3 ⟨rfl, b3'⟩;have HL3 := ae (HL2.out.below b3');clear b3';refine aR ?_;refine runs 3 ?_;refine aG rfl (ex rfl (ev rfl) (ev rfl) HL3.out.h3) ?_;simp only [aa];have HL4 := ae (HL3.out.ak4 y);generalize jk w3 b3 y = w4 at *;refine ah ?_;go_upto_region 4 with fail;refine cC 2 ?_;go_wp2_with fail;go_ret;exact ⟨rfl, by rw [HZZ.out]; exact HL4⟩
end
end Go.Proofs.YtdmhelalbemlcaaGreatDoor
