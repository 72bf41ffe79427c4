import Derived.Test.YtcpbekopbeaflaaGreatDoorLrar
namespace Go.Proofs.YtcpbekopbeaflaaGreatDoor
set_option maxHeartbeats 8000000
open Go.Proofs.Tryz
open Go.RowKit
set_option linter.unusedVariables false
set_option linter.unusedSimpArgs false
set_option maxRecDepth 100000
theorem abT {b : Blk} (h0 : cZ b.toList = 0) (h : ¬ bf.good b = true) : bf.gN b = 0 /\ (bf.gX b).m = bV /\ bf.gE b = 5 := by
 have hE := bf.j9 h0 h;refine ⟨bf.jP (by omega), ?_, hE⟩;rw [bf.i2 (by omega)]
 rfl
theorem oG {b : Blk} : bf.good b = true ↔ (evB (dA b.toList) = true /\ d9 (cN (da b.toList)) = true) /\ dB (cN (da b.toList)) = da b.toList := by
 rw [bf.fA];have : bf.may (bf.raw b) = (evB (dA b.toList) && d9 (cN (da b.toList))) := rfl;rw [this, Bool.and_eq_true]
 rfl
theorem aio {b : Blk} (h0 : cZ b.toList = 0) (hev : evB (dA b.toList) = true) (hm : d9 (cN (da b.toList)) = true) (hz : ∀ j, 26 <= j -> j < 44 -> bt (da b.toList) j = 0) :
  bf.gN b = dA b.toList /\ (bf.gX b).m = cN (da b.toList) /\ bf.gE b = 0 := by
 have hE := bf.yE h0 (oG.2 ⟨⟨hev, hm⟩, (py (ed h0)).2 hz⟩);refine ⟨bf.agw hE, ?_, hE⟩;rw [bf.pw hE]
 rfl
theorem agy (b : Blk) (w : World) : Calls prog 110 #[blk b] w fun e w' => e = .returned (.tuple #[.int .u64 (bf.gN b : Nat), mrk (bf.gX b).m, .int .i64 (bf.gE b : Nat)]) /\ Below w.heap.size w w' := by
 have hN1 := fun h0 : cZ b.toList = 0 => fun h : ¬ evB (dA b.toList) = true => af (abT h0 (fun hg => h (oG.1 hg).1.1))
 have hN2 := fun h0 : cZ b.toList = 0 => fun h : ¬ d9 (cN (da b.toList)) = true => af (abT h0 (fun hg => h (oG.1 hg).1.2))
 have hN3 := fun h0 : cZ b.toList = 0 => fun j h1 h2 (h : bt (da b.toList) j ≠ 0) => af (abT h0 (fun hg => h ((py (ed h0)).1 (oG.1 hg).2 j h1 h2)))
 have hY := fun h0 : cZ b.toList = 0 => fun h1 h2 h3 => af (aio h0 h1 h2 h3)
 have hS := fun h0 : cZ b.toList ≠ 0 => bf.oR h0
 have hlen := fun h0 : cZ b.toList = 0 => ed h0
 have hpos := fun h0 : cZ b.toList = 0 => (fun e => aaH.1 e h0 : dA b.toList ≠ 0)
 obtain ⟨gn, hgn⟩ : ∃ g, bf.gN b = g := ⟨_, rfl⟩;obtain ⟨gx, hgx⟩ : ∃ g, (bf.gX b).m = g := ⟨_, rfl⟩;obtain ⟨ge, hge⟩ : ∃ g, bf.gE b = g := ⟨_, rfl⟩;have hS2 : cZ b.toList ≠ 0 -> gn = 0 /\ gx = bV /\ ge = cZ b.toList := fun h => by
  have h1 := hS h;rw [<- hgn, <- hgx, <- hge];refine ⟨bf.jP (by omega), ?_, h1⟩;rw [bf.i2 (by omega)]
  rfl
 rw [hgn, hgx, hge] at hN1 hN2 hN3 hY ⊢;clear hS hgn hgx hge;obtain ⟨n, hn⟩ : ∃ n, dA b.toList = n := ⟨_, rfl⟩;obtain ⟨l, hl⟩ : ∃ l, da b.toList = l := ⟨_, rfl⟩;obtain ⟨E, hE⟩ : ∃ E, cZ b.toList = E := ⟨_, rfl⟩;have HN := af hn;have HL := af hl;have HE := af hE;rw [hn] at hN1 hY hpos;rw [hl] at hN2 hN3 hY hlen;rw [hE] at hN1 hN2 hN3 hY hS2 hlen hpos;clear hn hl hE;have h1 := (Below.refl w.heap.size w).alloc aj (.cells (cel b).toArray 64);have h2 := h1.alloc h1.size (.cells (bJ bV).toArray 95);have HA : Hid (((w.alloc (.cells (cel b).toArray 64)).alloc (.cells (bJ bV).toArray 95)).rangeAt w.heap.size 0 (cel b)) := af (World.rangeAt_alloc (b8 w (cel b) 64) _);have hsn := cq.new (w.alloc (.cells (cel b).toArray 64)) bV;rw [World.size_alloc] at hsn;have HR := af hsn.there;have HZ := af (aR hsn);have HB := af h2;clear h1 h2 hsn;have HN1 := fun h0 h => af (hN1 h0 h).out
 have HN2 := fun h0 h => af (hN2 h0 h).out
 have HN3 := fun h0 j h1 h2 h => af (hN3 h0 j h1 h2 h).out
 have HY := fun h0 h1 h2 h3 => af (hY h0 h1 h2 h3).out
 have HS := fun h => af (hS2 h)
 have HLEN := fun h => af (hlen h)
 have HPOS := fun h => af (hpos h)
 clear hN1 hN2 hN3 hY hS2 hlen hpos;go_enter func110, ntmps110;go_wp2_with (first | (refine au rfl (bW rfl rfl) ?_) | (refine au rfl (cf rfl) ?_) | (refine au rfl (aU (c := b) rfl rfl ?_) ?_; (with_reducible exact HA.out)) | fail)
 try simp only [World.size_alloc]
 generalize (w.alloc (.cells (cel b).toArray 64)).alloc (.cells (bJ bV).toArray 95) = w0 at *;refine (ug b _ w0 (af rfl)).mono ?_;rintro e w1 ⟨v, rfl, hv, hb⟩;rw [HN.out, HE.out];rw [HL.out] at hv;have HR1 := af (aS HR HZ hb);have HB1 := af (HB.out.trans (hb.mono HB.out.size));have HZ1 : Hid (w.heap.size + 1 < w1.heap.size) := af (aq HZ hb.size);clear hb HA HR HB HZ;by_cases h0 : E = 0
 ·have HM1 := af hv;have HLL := HLEN h0;have HP := HPOS h0;have K1 := fun h => HN1 h0 h
  have K2 := fun h => HN2 h0 h
  have K3 := fun j h1 h2 h => HN3 h0 j h1 h2 h
  have KY := fun h1 h2 h3 => HY h0 h1 h2 h3
  subst h0;clear hv HN1 HN2 HN3 HY HS HLEN HPOS;obtain ⟨A, c, rfl, hrd, _, _⟩ := HM1.out.open_ HLL;have HRD := af hrd;clear hrd HM1;obtain ⟨v0, h0⟩ : ∃ v, val 8 (piece l 0 8) = v := ⟨_, rfl⟩;obtain ⟨v1, h1⟩ : ∃ v, val 8 (piece l 8 2) = v := ⟨_, rfl⟩;obtain ⟨v2, h2⟩ : ∃ v, val 8 (piece l 10 8) = v := ⟨_, rfl⟩;obtain ⟨v3, h3⟩ : ∃ v, val 8 (piece l 18 8) = v := ⟨_, rfl⟩;have b1 : v1 < 65536 := by rw [<- h1]; exact cJ (b := l) (p := 8) (k := 2) (by rw [HLL.out]; omega)
  have HV0 := af h0;have HV1 := af h1;have HV2 := af h2;have HV3 := af h3;have hT : cN l = ⟨v0, (v1 : Nat), v2, v3⟩ := by unfold cN; rw [h0, h1, h2, h3]
  rw [hT] at K2 KY;clear h0 h1 h2 h3 hT;go_wp2_with fail;refine (ei A 44 c _ l 0 8 w1 HRD (by unfold maxLen; omega) (by omega) (by omega) (by omega)).mono ?_;rintro e w' ⟨rfl, rfl⟩;rw [HV0.out];go_wp2_with fail;refine (ei A 44 c _ l 8 2 w1 HRD (by unfold maxLen; omega) (by omega) (by omega) (by omega)).mono ?_;rintro e w' ⟨rfl, rfl⟩;rw [HV1.out];go_wp2_with fail;refine (ei A 44 c _ l 10 8 w1 HRD (by unfold maxLen; omega) (by omega) (by omega) (by omega)).mono ?_;rintro e w' ⟨rfl, rfl⟩;rw [HV2.out];go_wp2_with fail;refine (ei A 44 c _ l 18 8 w1 HRD (by unfold maxLen; omega) (by omega) (by omega) (by omega)).mono ?_;rintro e w' ⟨rfl, rfl⟩;rw [HV3.out];obtain ⟨y, hy⟩ : ∃ y : Mrk, y = ⟨v0, (v1 : Nat), v2, v3⟩ := ⟨_, rfl⟩;rw [<- hy] at K2 KY;have HYD := af hy;clear hy;have hb2 := (Below.refl w1.heap.size w1).alloc aj (.cells (bJ y).toArray 95);have HS2 := af (cq.new w1 y);have HR2 := af (aS HR1 HZ1 hb2);have HB2 := af (HB1.out.trans (hb2.mono HB1.out.size));have HRD2 := af (HRD.out.below hb2);have HZ2 : Hid (w.heap.size + 1 < (w1.alloc (.cells (bJ y).toArray 95)).heap.size) := af (aq HZ1 hb2.size);clear hb2 HR1 HB1 HRD HV0 HV1 HV2 HV3;go_upto_region 9 with (first | (refine au rfl (lW v0 v1 v2 v3 rfl rfl rfl rfl rfl) ?_) | (refine au rfl (cf rfl) ?_) | (refine aH rfl (dE (c := ⟨v0, (v1 : Nat), v2, v3⟩) rfl rfl rfl) ?_) | fail);rw [<- HYD.out];generalize w1.alloc (.cells (bJ y).toArray 95) = w2 at *;generalize w1.heap.size = s at *;clear HYD;have HAL : Hid (∀ k, 26 <= k -> k < 26 -> bt l k = 0) := af fun k h1 h2 => by omega
  go_wp2_with fail
  go_loop [17] (fun i => ∃ j : Nat, 26 <= j /\ j <= 44 /\ i = .int .i64 j /\ Hid (∀ k, 26 <= k -> k < j -> bt l k = 0)) (fun i => 44 - (intOf i).toNat)
  case atStart => exact ⟨26, by omega, by omega, rfl, HAL⟩
  case round =>
   clear HAL;obtain ⟨j, hj1, hj2, rfl, HAL⟩ := hrel;by_cases hlt : j < 44
   ·obtain ⟨bA, oA, rfl, hA, cA⟩ := HRD2.out.2 j hlt;by_cases hz : bt l j = 0
    ·have HAN : Hid (∀ k, 26 <= k -> k < j + 1 -> bt l k = 0) := af fun k h1 h2 => by
      by_cases e : k = j
      ·rw [e]; exact hz
      ·exact HAL.out k h1 (by omega)
     rw [hz] at cA;clear hz;go_wp2
     go_round
     case rel => exact ⟨j + 1, by omega, by omega, by go_num, HAN⟩
     case measure => simp [intOf]; omega
    ·have HF := K3 j hj1 hlt hz;have HRX := HR2;have HBX := HB2;have hbz : (bt l j != 0) = true := by simpa using hz
     clear K1 K2 K3 KY;go_wp2_with (first | (refine au rfl (eR rfl) ?_) | (refine aH rfl (cF (c := bV) rfl rfl rfl ?_) ?_; (with_reducible exact HRX.out)) | fail);refine bodyPost_ret (dP (t := 95) (cs := bJ bV) rfl _ _ _ rfl ?h1 underlying95 rfl ?h2) rfl ⟨by rw [HF.out.1, HF.out.2.1, HF.out.2.2]; rfl, ?h3⟩
     case h1 => exact World.rangeAt_setCells_same _ _ _ _ HRX
     case h2 => exact eV
     case h3 => exact below_setCells HBX (Nat.le_succ _) _
   ·have hj : j = 44 := by omega
    subst hj;clear hj1 hj2 hlt;go_upto_region 14 with fail;by_cases k1 : 4611686018427387904 < n
    ·have H1 : Hid (decide ((4611686018427387904 : Int) < (n : Int)) = true) := af (ao (by omega));have HF := K1 (fun h => by have := xi h; omega);have HRX := HR2;have HBX := HB2;clear k1 K1 K2 K3 KY;refine aY 1 ?_;refine ak1 (bM true rfl alb evk H1) ?_;refine aI 3 rfl (aB rfl alb) (by kernel_rfl) ?_;simp only [aP, ae, aa];refine aQ 1 ?_;go_wp2_with (first | (refine au rfl (eR rfl) ?_) | (refine aH rfl (cF (c := bV) rfl rfl rfl ?_) ?_; (with_reducible exact HRX.out)) | fail);refine bodyPost_ret (dP (t := 95) (cs := bJ bV) rfl _ _ _ rfl ?h1 underlying95 rfl ?h2) rfl ⟨by rw [HF.out.1, HF.out.2.1, HF.out.2.2]; rfl, ?h3⟩
     case h1 => exact World.rangeAt_setCells_same _ _ _ _ HRX
     case h2 => exact eV
     case h3 => exact below_setCells HBX (Nat.le_succ _) _
    ·have H1 : Hid (decide ((4611686018427387904 : Int) < (n : Int)) = false) := af (am (by omega));have hev : evB n = true := by unfold evB; exact ao ⟨Nat.pos_of_ne_zero HP, by omega⟩
     clear k1;refine aY 1 ?_;refine ak1 (bM false rfl alb evk H1) ?_;refine runs 1 ?_;refine ak8 (bN (c := y) rfl alb HS2.out.range) ?_;refine aD akW (aC call161 rfl (evc alb evn)) ?_;by_cases hm : d9 y = true
     ·have HM := af hm;have HF := KY hev hm (fun k h1 h2 => HAL.out k h1 h2);clear hev hm K1 K2 K3 KY;refine (o5 y _ HM).mono ?_;rintro e w3 ⟨rfl, hb⟩;refine bp ?_;refine aQ 2 ?_;have HR3 := af (aS HR2 HZ2 hb);have HB3 := af (HB2.out.trans (hb.mono HB2.out.size));have HLD := af (HS2.out.below (aR HS2) hb).range;clear hb HR2 HB2 HS2;go_wp2_with fail;refine wp_region_still_tail 3 (by kernel_rfl) (by kernel_rfl) ?_;simp only [ae];refine aJ rfl (aB rfl alb) ?_;simp only [aa];refine aJ rfl (bN (c := y) rfl alb HLD) ?_;simp only [aa];refine aJ rfl (bu rfl alb) ?_;simp only [aa];refine wpStill_nil ?_;change wpList _ _ _ _ _ (World.drew _);refine aW rfl (cF (c := y) rfl (ev rfl) (ev rfl) HR3.out) ?_;simp only [aa];refine aQ 1 ?_;go_wp2_with fail;refine bodyPost_ret (dP (t := 95) (cs := bJ y) rfl _ _ _ rfl ?h1 underlying95 rfl ?h2) rfl ⟨by rw [HF.out.1, HF.out.2.1, HF.out.2.2]; rfl, ?h3⟩
      case h1 => exact World.rangeAt_setCells_same _ _ _ _ HR3
      case h2 => exact eV
      case h3 => exact below_setCells (bd HB3) (Nat.le_succ _) _
     ·have hm' : d9 y = false := by simpa using hm
      have HM := af hm';have HF := K2 hm;clear hev hm hm' K1 K2 K3 KY;refine (o5 y _ HM).mono ?_;rintro e w3 ⟨rfl, hb⟩;refine bp ?_;refine aQ 2 ?_;have HRX := af (aS HR2 HZ2 hb);have HBX := af (HB2.out.trans (hb.mono HB2.out.size));clear hb HR2 HB2 HS2;go_wp2_with (first | (refine au rfl (eR rfl) ?_) | (refine aH rfl (cF (c := bV) rfl rfl rfl ?_) ?_; (with_reducible exact HRX.out)) | fail);refine bodyPost_ret (dP (t := 95) (cs := bJ bV) rfl _ _ _ rfl ?h1 underlying95 rfl ?h2) rfl ⟨by rw [HF.out.1, HF.out.2.1, HF.out.2.2]; rfl, ?h3⟩
      case h1 => exact World.rangeAt_setCells_same _ _ _ _ HRX
      case h2 => exact eV
      case h3 => exact below_setCells HBX (Nat.le_succ _) _
 ·have HF := HS h0;have hne : ((E : Int) != 0) = true := by simp; omega
  have HRX := HR1;have HBX := HB1;clear h0 HN1 HN2 HN3 HY HS HLEN HPOS hv;go_wp2_with (first | (refine au rfl (eR rfl) ?_) | (refine aH rfl (cF (c := bV) rfl rfl rfl ?_) ?_; (with_reducible exact HRX.out)) | fail);refine bodyPost_ret (dP (t := 95) (cs := bJ bV) rfl _ _ _ rfl ?h1 underlying95 rfl ?h2) rfl ⟨by rw [HF.out.1, HF.out.2.1, HF.out.2.2]; rfl, ?h3⟩
  case h1 => exact World.rangeAt_setCells_same _ _ _ _ HRX
  case h2 => exact eV
  case h3 => exact below_setCells HBX (Nat.le_succ _) _
theorem ajp (a b : Blk) (w : World) : Calls prog 58 #[blk a, blk b] w fun e w' => e = .returned (.tuple #[.int .u64 ((bf.nX a b).n : Nat), mrk (bf.nX a b).m, .int .i64 (bf.nE a b : Nat)]) /\ Below w.heap.size w w' := by
 obtain ⟨h1, h2, h3, h4, h5⟩ := qw w a b;obtain ⟨x, hx⟩ : ∃ x, bf.gN a = x := ⟨_, rfl⟩;obtain ⟨y, hy⟩ : ∃ y, bf.gN b = y := ⟨_, rfl⟩;obtain ⟨p, hp⟩ : ∃ p, (bf.gX a).m = p := ⟨_, rfl⟩;obtain ⟨q, hq⟩ : ∃ q, (bf.gX b).m = q := ⟨_, rfl⟩;obtain ⟨ea, hea⟩ : ∃ e, bf.gE a = e := ⟨_, rfl⟩;obtain ⟨eb, heb⟩ : ∃ e, bf.gE b = e := ⟨_, rfl⟩;have HX := af hx;have HY := af hy;have HP := af hp;have HQ := af hq;have HEA := af hea;have HEB := af heb;have hxa := bf.lf (b := a);have hxb := bf.lf (b := b);rw [hx, hea] at hxa;rw [hy, heb] at hxb;have HXA := af hxa;have HXB := af hxb;clear hx hy hp hq hea heb hxa hxb;have HNN : Hid ((bf.nX a b).n = if x < y then y else x) := af (by
  unfold Cod.nX;rw [HX.out, HY.out]
  split
  ·exact HY
  ·exact HX)
 have HNS : Hid ((bf.nX a b).m = if x < y then q else p) := af (by
  unfold Cod.nX;rw [HX.out, HY.out]
  split
  ·exact HQ
  ·exact HP)
 have HNE : Hid (bf.nE a b = if x = 0 /\ y = 0 then 7 else 0) := af (by unfold Cod.nE; rw [HX.out, HY.out]);have HPZ : Hid (x = 0 -> p = bV) := af fun h => by rw [<- HP.out, bf.i2 (bf.lf.1 (HX.out.trans h))]; rfl
 have HA := af h1;have HBK := af h2;have HR := af h3;have HB := af h4;have HZ := af h5;clear h1 h2 h3 h4 h5;go_enter func58, ntmps58;go_wp2_with (first | (refine au rfl (bW rfl rfl) ?_) | (refine au rfl (cf rfl) ?_) | (refine au rfl (aU (c := a) rfl rfl ?_) ?_; (with_reducible exact HA.out)) | fail)
 try simp only [World.size_alloc]
 generalize ((w.alloc (.cells (cel a).toArray 64)).alloc (.cells (cel b).toArray 64)).alloc (.cells (bJ bV).toArray 95) = w0 at *;refine (agy a w0).mono ?_;rintro e w1 ⟨rfl, hb⟩;rw [HX.out, HP.out, HEA.out];have hb1 := hb.alloc hb.size (.cells (bJ p).toArray 95);have HBK1 := af (cY HBK (by have := HZ.out; omega) hb1);have HR1 := af (aS HR HZ hb1);have HB1 := af (HB.out.trans (hb1.mono HB.out.size));have HPA := af (cq.new w1 p);have HZ1 : Hid (w.heap.size + 1 + 1 < (w1.alloc (.cells (bJ p).toArray 95)).heap.size) := af (aq HZ hb1.size);clear hb hb1 HA HBK HB HZ HR;go_upto_region 2 with (first | (refine au rfl (cf rfl) ?_) | (refine aH rfl (dE rfl rfl rfl) ?_) | fail);generalize w1.alloc (.cells (bJ p).toArray 95) = w2 at *;go_wp2_with (first | (refine au rfl (aU (c := b) rfl rfl ?_) ?_; (with_reducible exact HBK1.out)) | fail);refine (agy b w2).mono ?_;rintro e w3 ⟨rfl, hb⟩;rw [HY.out, HQ.out, HEB.out];have hb3 := hb.alloc hb.size (.cells (bJ q).toArray 95);have HB4 := af (HB1.out.trans (hb3.mono HB1.out.size));have HR4 := af (aS HR1 HZ1 hb3);have HPR := af (HPA.out.below (aR HPA) hb3).range;have HQR := af (cq.new w3 q).range;clear hb hb3 HBK1 HB1 HR1 HPA HZ1;go_upto_region 3 with (first | (refine au rfl (cf rfl) ?_) | (refine aH rfl (dE rfl rfl rfl) ?_) | fail);generalize w3.alloc (.cells (bJ q).toArray 95) = w4 at *;by_cases h0 : ea = 0
 ·have HEAN : Hid (((ea : Int) != 0) = false) := af (by rw [h0]; rfl);have hx0 : x ≠ 0 := fun e => (HXA.out.1 e) h0
  rw [if_neg (by omega)] at HNE;refine aY 1 ?_;refine ak1 (bG false rfl alb evk HEAN) ?_;refine aI 2 rfl (aB rfl alb) (by kernel_rfl) ?_;simp only [aP, ae, aa];refine aQ 1 ?_;go_upto_region 5 with fail;refine aY 1 ?_;refine ak1 (bG false rfl alb evk HEAN) ?_;refine runs 2 ?_;by_cases h1 : eb = 0
  ·have HEBQ : Hid (((eb : Int) == 0) = true) := af (by rw [h1]; rfl);refine ak8 (aN true rfl alb evk HEBQ) ?_;refine runs 3 ?_;by_cases hlt : x < y
   ·have HGT : Hid (decide ((x : Int) < (y : Int)) = true) := af (ao (by omega));rw [if_pos hlt] at HNN HNS;clear h0 h1 hx0 hlt;refine ak8 (bM true rfl alb alb HGT) ?_;refine aQ 2 ?_;go_wp2_with fail;refine wp_region_still_tail 3 (by kernel_rfl) (by kernel_rfl) ?_;simp only [ae];refine aJ rfl (aB rfl alb) ?_;simp only [aa];refine aJ rfl (bN (c := q) rfl alb HQR) ?_;simp only [aa];refine aJ rfl (bu rfl alb) ?_;simp only [aa];refine wpStill_nil ?_;change wpList _ _ _ _ _ (World.drew _);refine aW rfl (cF (c := q) rfl (ev rfl) (ev rfl) HR4.out) ?_;simp only [aa];refine aQ 1 ?_;go_wp2_with fail;refine bodyPost_ret (dP (t := 95) (cs := bJ q) rfl _ _ _ rfl ?h1 underlying95 rfl ?h2) rfl ⟨by rw [HNE.out, HNN.out, HNS.out]; rfl, ?h3⟩
    case h1 => exact World.rangeAt_setCells_same _ _ _ _ HR4
    case h2 => exact eV
    case h3 => exact below_setCells (bd HB4) (by omega) _
   ·have HGT : Hid (decide ((x : Int) < (y : Int)) = false) := af (am (by omega));rw [if_neg hlt] at HNN HNS;clear h0 h1 hx0 hlt;refine ak8 (bM false rfl alb alb HGT) ?_;refine aQ 2 ?_;go_wp2_with fail;refine wp_region_still_tail 3 (by kernel_rfl) (by kernel_rfl) ?_;simp only [ae];refine aJ rfl (aB rfl alb) ?_;simp only [aa];refine aJ rfl (bN (c := p) rfl alb HPR) ?_;simp only [aa];refine aJ rfl (bu rfl alb) ?_;simp only [aa];refine wpStill_nil ?_;change wpList _ _ _ _ _ (World.drew _);refine aW rfl (cF (c := p) rfl (ev rfl) (ev rfl) HR4.out) ?_;simp only [aa];refine aQ 1 ?_;go_wp2_with fail;refine bodyPost_ret (dP (t := 95) (cs := bJ p) rfl _ _ _ rfl ?h1 underlying95 rfl ?h2) rfl ⟨by rw [HNE.out, HNN.out, HNS.out]; rfl, ?h3⟩
    case h1 => exact World.rangeAt_setCells_same _ _ _ _ HR4
    case h2 => exact eV
    case h3 => exact below_setCells (bd HB4) (by omega) _
  ·have HEBQ : Hid (((eb : Int) == 0) = false) := af (by simp; omega);have hy0 : y = 0 := HXB.out.2 h1;rw [if_neg (by omega)] at HNN HNS;clear h0 h1 hx0 hy0;refine ak8 (aN false rfl alb evk HEBQ) ?_;refine aI 3 akW (aB rfl alb) (by kernel_rfl) ?_;simp only [aP, ae, aa];refine aQ 2 ?_;go_wp2_with fail;refine wp_region_still_tail 3 (by kernel_rfl) (by kernel_rfl) ?_;simp only [ae];refine aJ rfl (aB rfl alb) ?_;simp only [aa];refine aJ rfl (bN (c := p) rfl alb HPR) ?_;simp only [aa];refine aJ rfl (bu rfl alb) ?_;simp only [aa];refine wpStill_nil ?_;change wpList _ _ _ _ _ (World.drew _);refine aW rfl (cF (c := p) rfl (ev rfl) (ev rfl) HR4.out) ?_;simp only [aa];refine aQ 1 ?_;go_wp2_with fail;refine bodyPost_ret (dP (t := 95) (cs := bJ p) rfl _ _ _ rfl ?h1 underlying95 rfl ?h2) rfl ⟨by rw [HNE.out, HNN.out, HNS.out]; rfl, ?h3⟩
   case h1 => exact World.rangeAt_setCells_same _ _ _ _ HR4
   case h2 => exact eV
   case h3 => exact below_setCells (bd HB4) (by omega) _
 ·have HEAN : Hid (((ea : Int) != 0) = true) := af (by simp; omega);have hx0 : x = 0 := HXA.out.2 h0;have HPZ2 := af (HPZ.out hx0);refine aY 1 ?_;refine ak1 (bG true rfl alb evk HEAN) ?_;refine runs 2 ?_;by_cases h1 : eb = 0
  ·have HEBN : Hid (((eb : Int) != 0) = false) := af (by rw [h1]; rfl);have HEBQ : Hid (((eb : Int) == 0) = true) := af (by rw [h1]; rfl);have hy0 : y ≠ 0 := fun e => (HXB.out.1 e) h1
   rw [if_pos (by omega)] at HNN HNS;rw [if_neg (by omega)] at HNE;clear h0 h1 hx0 hy0;refine ak8 (bG false rfl alb evk HEBN) ?_;refine aQ 1 ?_;go_upto_region 5 with fail;refine aY 1 ?_;refine ak1 (bG true rfl alb evk HEAN) ?_;refine aI 7 rfl (aB rfl alb) (by kernel_rfl) ?_;simp only [aP, ae, aa];refine aQ 1 ?_;go_wp2_with fail;refine wp_region_still_tail 3 (by kernel_rfl) (by kernel_rfl) ?_;simp only [ae];refine aJ rfl (aB rfl alb) ?_;simp only [aa];refine aJ rfl (bN (c := q) rfl alb HQR) ?_;simp only [aa];refine aJ rfl (bu rfl alb) ?_;simp only [aa];refine wpStill_nil ?_;change wpList _ _ _ _ _ (World.drew _);refine aW rfl (cF (c := q) rfl (ev rfl) (ev rfl) HR4.out) ?_;simp only [aa];refine aQ 1 ?_;go_wp2_with fail;refine bodyPost_ret (dP (t := 95) (cs := bJ q) rfl _ _ _ rfl ?h1 underlying95 rfl ?h2) rfl ⟨by rw [HNE.out, HNN.out, HNS.out]; rfl, ?h3⟩
   case h1 => exact World.rangeAt_setCells_same _ _ _ _ HR4
   case h2 => exact eV
   case h3 => exact below_setCells (bd HB4) (by omega) _
  ·have HEBN : Hid (((eb : Int) != 0) = true) := af (by simp; omega);have hy0 : y = 0 := HXB.out.2 h1;rw [if_neg (by omega)] at HNN HNS;rw [if_pos (by omega)] at HNE;rw [hx0] at HNN;rw [HPZ2.out] at HNS;clear h0 h1 hx0 hy0;refine ak8 (bG true rfl alb evk HEBN) ?_;refine aQ 1 ?_;go_wp2_with (first | (refine au rfl (eR rfl) ?_) | (refine aH rfl (cF (c := bV) rfl rfl rfl ?_) ?_; (with_reducible exact HR4.out)) | fail);refine bodyPost_ret (dP (t := 95) (cs := bJ bV) rfl _ _ _ rfl ?h1 underlying95 rfl ?h2) rfl ⟨by rw [HNE.out, HNN.out, HNS.out]; rfl, ?h3⟩
   case h1 => exact World.rangeAt_setCells_same _ _ _ _ HR4
   case h2 => exact eV
   case h3 => exact below_setCells HB4 (by omega) _
theorem ab8 {b : Blk} (h0 : cZ b.toList = 0) (h : ¬ a9.good b = true) : a9.gX b = bc /\ a9.gE b = 5 := by
 have hE := a9.j9 h0 h;exact ⟨a9.i2 (by omega), hE⟩
theorem pV {b : Blk} : a9.good b = true ↔ fU (cD (dA b.toList) (da b.toList)) = true /\ cW (cD (dA b.toList) (da b.toList)) = da b.toList := a9.fA
theorem ae5 {b : Blk} (h0 : cZ b.toList = 0) (hm : fU (cD (dA b.toList) (da b.toList)) = true) (hz : ∀ j, 14 <= j -> j < 44 -> bt (da b.toList) j = 0) :
  a9.gX b = cD (dA b.toList) (da b.toList) /\ a9.gE b = 0 := by
 have hE := a9.yE h0 (pV.2 ⟨hm, (n6 (ed h0)).2 hz⟩);exact ⟨a9.pw hE, hE⟩
theorem ahm (b : Blk) (w : World) : Calls prog 60 #[blk b] w fun e w' => e = .returned (.tuple #[nte (a9.gX b), .int .i64 (a9.gE b : Nat)]) /\ Below w.heap.size w w' := by
 have hN2 := fun h0 : cZ b.toList = 0 => fun h : ¬ fU (cD (dA b.toList) (da b.toList)) = true => af (ab8 h0 (fun hg => h (pV.1 hg).1))
 have hN3 := fun h0 : cZ b.toList = 0 => fun j h1 h2 (h : bt (da b.toList) j ≠ 0) => af (ab8 h0 (fun hg => h ((n6 (ed h0)).1 (pV.1 hg).2 j h1 h2)))
 have hY := fun h0 : cZ b.toList = 0 => fun h2 h3 => af (ae5 h0 h2 h3)
 have hS := fun h0 : cZ b.toList ≠ 0 => a9.oR h0
 have hlen := fun h0 : cZ b.toList = 0 => ed h0
 have hn64 := iF b;obtain ⟨gx, hgx⟩ : ∃ g, a9.gX b = g := ⟨_, rfl⟩;obtain ⟨ge, hge⟩ : ∃ g, a9.gE b = g := ⟨_, rfl⟩;have hS2 : cZ b.toList ≠ 0 -> gx = bc /\ ge = cZ b.toList := fun h => by
  have h1 := hS h;rw [<- hgx, <- hge];exact ⟨a9.i2 (by omega), h1⟩
 rw [hgx, hge] at hN2 hN3 hY ⊢;clear hS hgx hge;obtain ⟨n, hn⟩ : ∃ n, dA b.toList = n := ⟨_, rfl⟩;obtain ⟨l, hl⟩ : ∃ l, da b.toList = l := ⟨_, rfl⟩;obtain ⟨E, hE⟩ : ∃ E, cZ b.toList = E := ⟨_, rfl⟩;have HN := af hn;have HL := af hl;have HE := af hE;rw [hn] at hN2 hY hn64;rw [hl] at hN2 hN3 hY hlen;rw [hE] at hN2 hN3 hY hS2 hlen;clear hn hl hE;have h1 := (Below.refl w.heap.size w).alloc aj (.cells (cel b).toArray 64);have h2 := h1.alloc h1.size (.cells (bj bc).toArray 107);have HA : Hid (((w.alloc (.cells (cel b).toArray 64)).alloc (.cells (bj bc).toArray 107)).rangeAt w.heap.size 0 (cel b)) := af (World.rangeAt_alloc (b8 w (cel b) 64) _);have hsn := bO.new (w.alloc (.cells (cel b).toArray 64)) bc;rw [World.size_alloc] at hsn;have HR := af hsn.there;have HZ := af (aR hsn);have HB := af h2;have HN64 := af hn64;clear h1 h2 hsn hn64;have HN2 := fun h0 h => af (hN2 h0 h).out
 have HN3 := fun h0 j h1 h2 h => af (hN3 h0 j h1 h2 h).out
 have HY := fun h0 h2 h3 => af (hY h0 h2 h3).out
 have HS := fun h => af (hS2 h)
 have HLEN := fun h => af (hlen h)
 clear hN2 hN3 hY hS2 hlen;go_enter func60, ntmps60;go_wp2_with (first | (refine au rfl (bW rfl rfl) ?_) | (refine au rfl (cv rfl) ?_) | (refine au rfl (aU (c := b) rfl rfl ?_) ?_; (with_reducible exact HA.out)) | fail)
 try simp only [World.size_alloc]
 generalize (w.alloc (.cells (cel b).toArray 64)).alloc (.cells (bj bc).toArray 107) = w0 at *;refine (ug b _ w0 (af rfl)).mono ?_;rintro e w1 ⟨v, rfl, hv, hb⟩;rw [HN.out, HE.out];rw [HL.out] at hv;have HR1 := af (aS HR HZ hb);have HB1 := af (HB.out.trans (hb.mono HB.out.size));have HZ1 : Hid (w.heap.size + 1 < w1.heap.size) := af (aq HZ hb.size);clear hb HA HR HB HZ;by_cases h0 : E = 0
 ·have HM1 := af hv;have HLL := HLEN h0;have K2 := fun h => HN2 h0 h
  have K3 := fun j h1 h2 h => HN3 h0 j h1 h2 h
  have KY := fun h2 h3 => HY h0 h2 h3
  subst h0;clear hv HN2 HN3 HY HS HLEN;obtain ⟨A, c, rfl, hrd, _, _⟩ := HM1.out.open_ HLL;have HRD := af hrd;clear hrd HM1;obtain ⟨v0, h0⟩ : ∃ v, val 8 (piece l 0 8) = v := ⟨_, rfl⟩;obtain ⟨v1, h1⟩ : ∃ v, val 8 (piece l 8 2) = v := ⟨_, rfl⟩;obtain ⟨v2, h2⟩ : ∃ v, val 8 (piece l 10 4) = v := ⟨_, rfl⟩;have b1 : v1 < 65536 := by rw [<- h1]; exact cJ (b := l) (p := 8) (k := 2) (by rw [HLL.out]; omega)
  have b2 : v2 < 4294967296 := by rw [<- h2]; exact cJ (b := l) (p := 10) (k := 4) (by rw [HLL.out]; omega)
  have HB2v := af b2;have HV0 := af h0;have HV1 := af h1;have HV2 := af h2;have hT : cD n l = ⟨n, v0, (v1 : Nat), v2⟩ := by unfold cD; rw [h0, h1, h2]
  rw [hT] at K2 KY;clear h0 h1 h2 hT b2;go_wp2_with fail;refine (ei A 44 c _ l 0 8 w1 HRD (by unfold maxLen; omega) (by omega) (by omega) (by omega)).mono ?_;rintro e w' ⟨rfl, rfl⟩;rw [HV0.out];go_wp2_with fail;refine (ei A 44 c _ l 8 2 w1 HRD (by unfold maxLen; omega) (by omega) (by omega) (by omega)).mono ?_;rintro e w' ⟨rfl, rfl⟩;rw [HV1.out];go_wp2_with fail;refine (ei A 44 c _ l 10 4 w1 HRD (by unfold maxLen; omega) (by omega) (by omega) (by omega)).mono ?_;rintro e w' ⟨rfl, rfl⟩;rw [HV2.out];obtain ⟨y, hy⟩ : ∃ y : Nte, y = ⟨n, v0, (v1 : Nat), v2⟩ := ⟨_, rfl⟩;rw [<- hy] at K2 KY;have HYD := af hy;clear hy;have hb2 := (Below.refl w1.heap.size w1).alloc aj (.cells (bj y).toArray 107);have HS2 := af (bO.new w1 y);have HR2 := af (aS HR1 HZ1 hb2);have HB2 := af (HB1.out.trans (hb2.mono HB1.out.size));have HRD2 := af (HRD.out.below hb2);have HZ2 : Hid (w.heap.size + 1 < (w1.alloc (.cells (bj y).toArray 107)).heap.size) := af (aq HZ1 hb2.size);clear hb2 HR1 HB1 HRD HV0 HV1 HV2;go_upto_region 8 with (first | (refine au rfl (pt rfl rfl HB2v.out) ?_) | (refine au rfl (jm n v0 v1 v2 rfl rfl rfl rfl rfl) ?_) | (refine au rfl (cv rfl) ?_) | (refine aH rfl (dL (c := ⟨n, v0, (v1 : Nat), v2⟩) rfl rfl rfl) ?_) | fail);rw [<- HYD.out];generalize w1.alloc (.cells (bj y).toArray 107) = w2 at *;generalize w1.heap.size = s at *;clear HYD;have HAL : Hid (∀ k, 14 <= k -> k < 14 -> bt l k = 0) := af fun k h1 h2 => by omega
  go_wp2_with fail
  go_loop [14] (fun i => ∃ j : Nat, 14 <= j /\ j <= 44 /\ i = .int .i64 j /\ Hid (∀ k, 14 <= k -> k < j -> bt l k = 0)) (fun i => 44 - (intOf i).toNat)
  case atStart => exact ⟨14, by omega, by omega, rfl, HAL⟩
  case round =>
   clear HAL;obtain ⟨j, hj1, hj2, rfl, HAL⟩ := hrel;by_cases hlt : j < 44
   ·obtain ⟨bA, oA, rfl, hA, cA⟩ := HRD2.out.2 j hlt;by_cases hz : bt l j = 0
    ·have HAN : Hid (∀ k, 14 <= k -> k < j + 1 -> bt l k = 0) := af fun k h1 h2 => by
      by_cases e : k = j
      ·rw [e]; exact hz
      ·exact HAL.out k h1 (by omega)
     rw [hz] at cA;clear hz;go_wp2
     go_round
     case rel => exact ⟨j + 1, by omega, by omega, by go_num, HAN⟩
     case measure => simp [intOf]; omega
    ·have HF := K3 j hj1 hlt hz;have HRX := HR2;have HBX := HB2;have hbz : (bt l j != 0) = true := by simpa using hz
     clear K2 K3 KY;go_wp2_with (first | (refine au rfl (gH rfl) ?_) | (refine aH rfl (eK (c := bc) rfl rfl rfl ?_) ?_; (with_reducible exact HRX.out)) | fail);refine bodyPost_ret (jg (t := 107) (cs := bj bc) rfl _ _ _ rfl ?h1 underlying107 rfl ?h2) rfl ⟨by rw [HF.out.1, HF.out.2]; rfl, ?h3⟩
     case h1 => exact World.rangeAt_setCells_same _ _ _ _ HRX
     case h2 => exact ii
     case h3 => exact below_setCells HBX (Nat.le_succ _) _
   ·have hj : j = 44 := by omega
    subst hj;clear hj1 hj2 hlt;go_wp2_with (first | (refine au rfl (bI (c := y) rfl rfl ?_) ?_; (with_reducible exact HS2.out.range)) | fail);refine (adb y w2).mono ?_;rintro e w3 ⟨rfl, hb⟩;have HR3 := af (aS HR2 HZ2 hb);have HB3 := af (HB2.out.trans (hb.mono HB2.out.size));have HLD := af (HS2.out.below (aR HS2) hb).range;clear hb HR2 HB2 HS2;by_cases hm : fU y = true
    ·have HF := KY hm (fun k h1 h2 => HAL.out k h1 h2);rw [hm];clear hm K2 K3 KY;go_wp2_with (first | (refine au rfl (bI (c := y) rfl rfl ?_) ?_; (with_reducible exact HLD.out)) | (refine aH rfl (eK (c := y) rfl rfl rfl ?_) ?_; (with_reducible exact HR3.out)) | fail);refine bodyPost_ret (jg (t := 107) (cs := bj y) rfl _ _ _ rfl ?h1 underlying107 rfl ?h2) rfl ⟨by rw [HF.out.1, HF.out.2]; rfl, ?h3⟩
     case h1 => exact World.rangeAt_setCells_same _ _ _ _ HR3
     case h2 => exact ii
     case h3 => exact below_setCells HB3 (Nat.le_succ _) _
    ·have hm' : fU y = false := by simpa using hm
     have HF := K2 hm;have HRX := HR3;have HBX := HB3;rw [hm'];clear hm hm' K2 K3 KY;go_wp2_with (first | (refine au rfl (gH rfl) ?_) | (refine aH rfl (eK (c := bc) rfl rfl rfl ?_) ?_; (with_reducible exact HRX.out)) | fail);refine bodyPost_ret (jg (t := 107) (cs := bj bc) rfl _ _ _ rfl ?h1 underlying107 rfl ?h2) rfl ⟨by rw [HF.out.1, HF.out.2]; rfl, ?h3⟩
     case h1 => exact World.rangeAt_setCells_same _ _ _ _ HRX
     case h2 => exact ii
     case h3 => exact below_setCells HBX (Nat.le_succ _) _
 ·have HF := HS h0;have hne : ((E : Int) != 0) = true := by simp; omega
  have HRX := HR1;have HBX := HB1;clear h0 HN2 HN3 HY HS HLEN hv;go_wp2_with (first | (refine au rfl (gH rfl) ?_) | (refine aH rfl (eK (c := bc) rfl rfl rfl ?_) ?_; (with_reducible exact HRX.out)) | fail);refine bodyPost_ret (jg (t := 107) (cs := bj bc) rfl _ _ _ rfl ?h1 underlying107 rfl ?h2) rfl ⟨by rw [HF.out.1, HF.out.2]; rfl, ?h3⟩
  case h1 => exact World.rangeAt_setCells_same _ _ _ _ HRX
  case h2 => exact ii
  case h3 => exact below_setCells HBX (Nat.le_succ _) _
end Go.Proofs.YtcpbekopbeaflaaGreatDoor
