import Derived.Test.YtbbcdhkinbmdnaaGreatDoorLoar
import Derived.Test.YtbbcdhkinbmdnaaGreatDoorLobg
import Derived.Test.YtbbcdhkinbmdnaaGreatDoorLoal
import Derived.Test.YtbbcdhkinbmdnaaGreatDoorLoba
import Derived.Test.YtbbcdhkinbmdnaaGreatDoorLoam
import Derived.Deep.DeepCutAuto
import Derived.Test.YtbbcdhkinbmdnaaGreatDoorLobb
import Derived.Test.YtbbcdhkinbmdnaaGreatDoorLoag
import Derived.IntWalk
import Derived.Test.YtbbcdhkinbmdnaaGreatDoorLoao
import Derived.Test.YtbbcdhkinbmdnaaGreatDoorLobc
import Derived.Test.YtbbcdhkinbmdnaaGreatDoorLoai
import Derived.Test.YtbbcdhkinbmdnaaGreatDoorLoah
import Derived.Test.YtbbcdhkinbmdnaaGreatDoorLobe
import Derived.Test.YtbbcdhkinbmdnaaGreatDoorLoax
import Derived.Test.YtbbcdhkinbmdnaaGreatDoorLoZ
namespace Go.Proofs.YtbbcdhkinbmdnaaGreatDoor
open Go.RowKit
set_option linter.unusedVariables false
set_option linter.unusedSimpArgs false
set_option maxRecDepth 100000
def Tbl (P : BenP) (w : World) (k : Int) (e : Ending) (w' : World) : Prop :=
 ∃ p q F F', e = .returned (.tuple #[.pointer (some ⟨p, 0, none⟩), .pointer (some ⟨q, 0, none⟩), .bool true]) ∧ P.Bn w' F p (newS6 [k, 12]) ∧ bF.Bn w' F' q (newS6 [k, 12]) ∧ (∀ b, F b → w.heap.size ≤ b) ∧ (∀ b, F' b → w.heap.size ≤ b) ∧ (∀ b, F b → ¬ F' b) ∧ Below w.heap.size w w'
set_option maxHeartbeats 1000000 in
theorem ltable (P : BenP) (k : Int) (w : World) (hk : 1 ≤ k ∧ k ≤ 512) : Calls Tryz.prog 4 #[.int .i64 k] w (Tbl P w k) := by
 have hok : newOk [k, 12] := ⟨by simp, by simp, fun n hn => by
  rcases List.mem_cons.1 hn with rfl | hn
  ·exact hk
  ·rcases List.mem_cons.1 hn with rfl | hn
   ·omega
   ·cases hn⟩
 have HOK := af hok
 have HRD : ∀ v : World, Hid (RdE IntE (v.alloc (.cells #[.int .i64 k, .int .i64 12] 3)) (v.alloc (.cells #[.int .i64 k, .int .i64 12] 3)).heap.size (some ⟨v.heap.size, 0, none⟩) 2 [k, 12]) := fun v => af (by
  rw [World.size_alloc]
  exact eF (E := IntE) (l := [k, 12]) v #[.int .i64 k, .int .i64 12] 3 rfl)
 have HBA : ∀ v : World, Hid (Below v.heap.size v (v.alloc (.cells #[.int .i64 k, .int .i64 12] 3)) ∧ v.heap.size ≤ (v.alloc (.cells #[.int .i64 k, .int .i64 12] 3)).heap.size) := fun v => af ⟨(Below.refl _ _).alloc (Nat.le_refl _) _, by rw [World.size_alloc]; omega⟩
 have HR0 := HRD w
 have HA0 := HBA w
 clear hok hk
 go_enter Tryz.func4, Tryz.ntmps4
 go_wp2_with fail
 refine (P.new (A := some ⟨w.heap.size, 0, none⟩) (c := 2) HR0.out (by omega) (by unfold maxLen; omega)).mono ?_
 rintro e w1 ⟨hb1, ⟨_, p, F, rfl, hB, hF⟩ | ⟨hno, rfl⟩⟩
 rotate_left 1
 ·exact absurd HOK.out hno
 have HB1 := af (HA0.out.1.trans (hb1.mono HA0.out.2))
 have HP1 := af hB
 have HF1 : Hid (∀ b, F b → w.heap.size ≤ b) := af fun b e => Nat.le_trans HA0.out.2 (hF b e)
 clear hb1 hB hF HR0 HA0
 have HR1 := HRD w1
 have HA1 := HBA w1
 clear HRD HBA
 go_wp2_with fail
 refine (bF.new (A := some ⟨w1.heap.size, 0, none⟩) (c := 2) HR1.out (by omega) (by unfold maxLen; omega)).mono ?_
 rintro e w2 ⟨hb2, ⟨_, q, F', rfl, hB2, hF2⟩ | ⟨hno, rfl⟩⟩
 rotate_left 1
 ·exact absurd HOK.out hno
 have HB12 := af (HA1.out.1.trans (hb2.mono HA1.out.2))
 have HB2 := af (HB1.out.trans (HB12.out.mono HB1.out.size))
 have HP2 := af (P.toBen.below HP1.out HB12.out)
 have HQ2 := af hB2
 have HF2 : Hid (∀ b, F' b → w1.heap.size ≤ b) := af fun b e => Nat.le_trans HA1.out.2 (hF2 b e)
 have HDJ : Hid (∀ b, F b → ¬ F' b) := af fun b e e' => by
  have h1 := P.lt HP1.out b e
  have h2 := HF2.out b e'
  omega
 clear hb2 hB2 hF2 HR1 HA1 HB12
 go_wp2_with fail
 (try simp only [Exit.inBlock, Exit.then])
 refine bodyPost_ret (results_tmp3 rfl _ _ _) rfl ⟨p, q, F, F', rfl, HP2.out, HQ2.out, HF1.out, fun b e => Nat.le_trans HB1.out.size (HF2.out b e), HDJ.out, HB2.out⟩
theorem RJ.grow {w0 w w3 : World} {H K : Nat → Prop} {p q : Nat} {v v' : Value} {M : BenS} {x x' : LgS} (h : RJ w0 H K w p q v M x) (ho : Only (ch p v) w w3) (hl : RLg w3 p q v' x') (hv : ∀ b, v'.ownBlock = some b → v.ownBlock = some b ∨ w.heap.size ≤ b) : RJ w0 H (fun _ => False) w3 p q v' M x' := by
 obtain ⟨G, h1, h2, h3, h4, h5, h6⟩ := h
 have hlt := bF.lt h1
 have hs := h4.size
 refine ⟨G, bF.only h1 ho fun b hg e => h3 b e hg, hl, fun b hb' hg => ?_, h4.trans ho fun b e => h5 b (.inr e), fun b hb' => ?_, fun _ e => e.elim⟩
 ·rcases hb' with rfl | e
  ·exact h3 _ (.inl rfl) hg
  ·rcases hv b e with e | e
   ·exact h3 b (.inr e) hg
   ·have := hlt b hg; omega
 ·rcases hb' with hg | rfl | e
  ·exact h5 b (.inl hg)
  ·exact h5 b (.inr (.inl rfl))
  ·rcases hv b e with e | e
   ·exact h5 b (.inr (.inr e))
   ·exact .inr (by omega)
theorem rm_no {b : Blk} (h0 : cu b.toList = 0) (h : ¬ aN.good b = true) : aN.gN b = 0 ∧ (aN.gX b).m = br ∧ aN.gE b = 5 := by
 have hE := aN.gE_form h0 h
 refine ⟨aN.gN_no (by omega), ?_, hE⟩
 rw [aN.gX_no (by omega)]
 rfl
theorem rm_good {b : Blk} : aN.good b = true ↔ (evB (cP b.toList) = true ∧ dq (ci (cv b.toList)) = true) ∧ cW (ci (cv b.toList)) = cv b.toList := by
 rw [aN.ef]
 have : aN.may (aN.raw b) = (evB (cP b.toList) && dq (ci (cv b.toList))) := rfl
 rw [this, Bool.and_eq_true]
 rfl
theorem rm_yes {b : Blk} (h0 : cu b.toList = 0) (hev : evB (cP b.toList) = true) (hm : dq (ci (cv b.toList)) = true) (hz : ∀ j, 26 ≤ j → j < 44 → bt (cv b.toList) j = 0) :
  aN.gN b = cP b.toList ∧ (aN.gX b).m = ci (cv b.toList) ∧ aN.gE b = 0 := by
 have hE := aN.gE_ok h0 (rm_good.2 ⟨⟨hev, hm⟩, (full_toldM (dA h0)).2 hz⟩)
 refine ⟨aN.gN_of hE, ?_, hE⟩
 rw [aN.gX_of hE]
 rfl
set_option maxHeartbeats 4000000 in
theorem rmget (b : Blk) (w : World) : Calls Tryz.prog 75 #[blk b] w fun e w' => e = .returned (.tuple #[.int .u64 (aN.gN b : Nat), mrk (aN.gX b).m, .int .i64 (aN.gE b : Nat)]) ∧ Below w.heap.size w w' := by
 have hN1 := fun h0 : cu b.toList = 0 => fun h : ¬ evB (cP b.toList) = true => af (rm_no h0 (fun hg => h (rm_good.1 hg).1.1))
 have hN2 := fun h0 : cu b.toList = 0 => fun h : ¬ dq (ci (cv b.toList)) = true => af (rm_no h0 (fun hg => h (rm_good.1 hg).1.2))
 have hN3 := fun h0 : cu b.toList = 0 => fun j h1 h2 (h : bt (cv b.toList) j ≠ 0) => af (rm_no h0 (fun hg => h ((full_toldM (dA h0)).1 (rm_good.1 hg).2 j h1 h2)))
 have hY := fun h0 : cu b.toList = 0 => fun h1 h2 h3 => af (rm_yes h0 h1 h2 h3)
 have hS := fun h0 : cu b.toList ≠ 0 => aN.gE_seal h0
 have hlen := fun h0 : cu b.toList = 0 => dA h0
 have hpos := fun h0 : cu b.toList = 0 => (fun e => getN_zero.1 e h0 : cP b.toList ≠ 0)
 obtain ⟨gn, hgn⟩ : ∃ g, aN.gN b = g := ⟨_, rfl⟩
 obtain ⟨gx, hgx⟩ : ∃ g, (aN.gX b).m = g := ⟨_, rfl⟩
 obtain ⟨ge, hge⟩ : ∃ g, aN.gE b = g := ⟨_, rfl⟩
 have hS2 : cu b.toList ≠ 0 → gn = 0 ∧ gx = br ∧ ge = cu b.toList := fun h => by
  have h1 := hS h
  rw [← hgn, ← hgx, ← hge]
  refine ⟨aN.gN_no (by omega), ?_, h1⟩
  rw [aN.gX_no (by omega)]
  rfl
 rw [hgn, hgx, hge] at hN1 hN2 hN3 hY ⊢
 clear hS hgn hgx hge
 obtain ⟨n, hn⟩ : ∃ n, cP b.toList = n := ⟨_, rfl⟩
 obtain ⟨l, hl⟩ : ∃ l, cv b.toList = l := ⟨_, rfl⟩
 obtain ⟨E, hE⟩ : ∃ E, cu b.toList = E := ⟨_, rfl⟩
 have HN := af hn
 have HL := af hl
 have HE := af hE
 rw [hn] at hN1 hY hpos
 rw [hl] at hN2 hN3 hY hlen
 rw [hE] at hN1 hN2 hN3 hY hS2 hlen hpos
 clear hn hl hE
 have h1 := (Below.refl w.heap.size w).alloc (Nat.le_refl _) (.cells (cel b).toArray 29)
 have h2 := h1.alloc h1.size (.cells (a8 br).toArray 32)
 have HA : Hid (((w.alloc (.cells (cel b).toArray 29)).alloc (.cells (a8 br).toArray 32)).rangeAt w.heap.size 0 (cel b)) := af (World.rangeAt_alloc (cf w (cel b) 29) _)
 have hsn := bP.new (w.alloc (.cells (cel b).toArray 29)) br
 rw [World.size_alloc] at hsn
 have HR := af hsn.there
 have HZ := af (aK hsn)
 have HB := af h2
 clear h1 h2 hsn
 have HN1 := fun h0 h => af (hN1 h0 h).out
 have HN2 := fun h0 h => af (hN2 h0 h).out
 have HN3 := fun h0 j h1 h2 h => af (hN3 h0 j h1 h2 h).out
 have HY := fun h0 h1 h2 h3 => af (hY h0 h1 h2 h3).out
 have HS := fun h => af (hS2 h)
 have HLEN := fun h => af (hlen h)
 have HPOS := fun h => af (hpos h)
 clear hN1 hN2 hN3 hY hS2 hlen hpos
 go_enter Tryz.func75, Tryz.ntmps75
 go_wp2_with (first | (refine ai rfl (bE rfl rfl) ?_) | (refine ai rfl (bG rfl) ?_) | (refine ai rfl (aS (c := b) rfl rfl ?_) ?_; (with_reducible exact HA.out)) | fail)
 try simp only [World.size_alloc]
 generalize (w.alloc (.cells (cel b).toArray 29)).alloc (.cells (a8 br).toArray 32) = w0 at *
 refine (rget_any b _ w0 (af rfl)).mono ?_
 rintro e w1 ⟨v, rfl, hv, hb⟩
 rw [HN.out, HE.out]
 rw [HL.out] at hv
 have HR1 := af (aO HR.out HZ.out hb)
 have HB1 := af (HB.out.trans (hb.mono HB.out.size))
 have HZ1 : Hid (w.heap.size + 1 < w1.heap.size) := af (Nat.lt_of_lt_of_le HZ.out hb.size)
 clear hb HA HR HB HZ
 by_cases h0 : E = 0
 ·have HM1 := af hv
  have HLL := HLEN h0
  have HP := HPOS h0
  have K1 := fun h => HN1 h0 h
  have K2 := fun h => HN2 h0 h
  have K3 := fun j h1 h2 h => HN3 h0 j h1 h2 h
  have KY := fun h1 h2 h3 => HY h0 h1 h2 h3
  subst h0
  clear hv HN1 HN2 HN3 HY HS HLEN HPOS
  obtain ⟨A, c, rfl, hrd, _, _⟩ := HM1.out.open_ HLL.out
  have HRD := af hrd
  clear hrd HM1
  obtain ⟨v0, h0⟩ : ∃ v, val 8 (piece l 0 8) = v := ⟨_, rfl⟩
  obtain ⟨v1, h1⟩ : ∃ v, val 8 (piece l 8 2) = v := ⟨_, rfl⟩
  obtain ⟨v2, h2⟩ : ∃ v, val 8 (piece l 10 8) = v := ⟨_, rfl⟩
  obtain ⟨v3, h3⟩ : ∃ v, val 8 (piece l 18 8) = v := ⟨_, rfl⟩
  have b1 : v1 < 65536 := by rw [← h1]; exact cg (b := l) (p := 8) (k := 2) (by rw [HLL.out]; omega)
  have HV0 := af h0
  have HV1 := af h1
  have HV2 := af h2
  have HV3 := af h3
  have hT : ci l = ⟨v0, (v1 : Nat), v2, v3⟩ := by unfold ci; rw [h0, h1, h2, h3]
  rw [hT] at K2 KY
  clear h0 h1 h2 h3 hT
  go_wp2_with fail
  refine (dz A 44 c _ l 0 8 w1 HRD.out (by unfold maxLen; omega) (by omega) (by omega) (by omega)).mono ?_
  rintro e w' ⟨rfl, rfl⟩
  rw [HV0.out]
  go_wp2_with fail
  refine (dz A 44 c _ l 8 2 w1 HRD.out (by unfold maxLen; omega) (by omega) (by omega) (by omega)).mono ?_
  rintro e w' ⟨rfl, rfl⟩
  rw [HV1.out]
  go_wp2_with fail
  refine (dz A 44 c _ l 10 8 w1 HRD.out (by unfold maxLen; omega) (by omega) (by omega) (by omega)).mono ?_
  rintro e w' ⟨rfl, rfl⟩
  rw [HV2.out]
  go_wp2_with fail
  refine (dz A 44 c _ l 18 8 w1 HRD.out (by unfold maxLen; omega) (by omega) (by omega) (by omega)).mono ?_
  rintro e w' ⟨rfl, rfl⟩
  rw [HV3.out]
  obtain ⟨y, hy⟩ : ∃ y : Mrk, y = ⟨v0, (v1 : Nat), v2, v3⟩ := ⟨_, rfl⟩
  rw [← hy] at K2 KY
  have HYD := af hy
  clear hy
  have hb2 := (Below.refl w1.heap.size w1).alloc (Nat.le_refl _) (.cells (a8 y).toArray 32)
  have HS2 := af (bP.new w1 y)
  have HR2 := af (aO HR1.out HZ1.out hb2)
  have HB2 := af (HB1.out.trans (hb2.mono HB1.out.size))
  have HRD2 := af (HRD.out.below hb2)
  have HZ2 : Hid (w.heap.size + 1 < (w1.alloc (.cells (a8 y).toArray 32)).heap.size) := af (Nat.lt_of_lt_of_le HZ1.out hb2.size)
  clear hb2 HR1 HB1 HRD HV0 HV1 HV2 HV3
  go_upto_region 9 with (first | (refine ai rfl (exec_bldM4 v0 v1 v2 v3 rfl rfl rfl rfl rfl) ?_) | (refine ai rfl (bG rfl) ?_) | (refine az rfl (cX (c := ⟨v0, (v1 : Nat), v2, v3⟩) rfl rfl rfl) ?_) | fail)
  rw [← HYD.out]
  generalize w1.alloc (.cells (a8 y).toArray 32) = w2 at *
  generalize w1.heap.size = s at *
  clear HYD
  have HAL : Hid (∀ k, 26 ≤ k → k < 26 → bt l k = 0) := af fun k h1 h2 => by omega
  go_wp2_with fail
  go_loop [17] (fun i => ∃ j : Nat, 26 ≤ j ∧ j ≤ 44 ∧ i = .int .i64 j ∧ Hid (∀ k, 26 ≤ k → k < j → bt l k = 0)) (fun i => 44 - (intOf i).toNat)
  case atStart => exact ⟨26, by omega, by omega, rfl, HAL⟩
  case round =>
   clear HAL
   obtain ⟨j, hj1, hj2, rfl, HAL⟩ := hrel
   by_cases hlt : j < 44
   ·obtain ⟨bA, oA, rfl, hA, cA⟩ := HRD2.out.2 j hlt
    by_cases hz : bt l j = 0
    ·have HAN : Hid (∀ k, 26 ≤ k → k < j + 1 → bt l k = 0) := af fun k h1 h2 => by
      by_cases e : k = j
      ·rw [e]; exact hz
      ·exact HAL.out k h1 (by omega)
     rw [hz] at cA
     clear hz
     go_wp2
     go_round
     case rel => exact ⟨j + 1, by omega, by omega, by go_num, HAN⟩
     case measure => simp [intOf]; omega
    ·have HF := K3 j hj1 hlt hz
     have HRX := HR2
     have HBX := HB2
     have hbz : (bt l j != 0) = true := by simpa using hz
     clear K1 K2 K3 KY
     go_wp2_with (first | (refine ai rfl (d8 rfl) ?_) | (refine az rfl (b7 (c := br) rfl rfl rfl ?_) ?_; (with_reducible exact HRX.out)) | fail)
     refine bodyPost_ret (de (t := 32) (cs := a8 br) rfl _ _ _ rfl ?h1 Tryz.underlying32 rfl ?h2) rfl ⟨by rw [HF.out.1, HF.out.2.1, HF.out.2.2]; rfl, ?h3⟩
     case h1 => exact World.rangeAt_setCells_same _ _ _ _ HRX.out
     case h2 => exact ec
     case h3 => exact below_setCells HBX.out (Nat.le_succ _) _
   ·have hj : j = 44 := by omega
    subst hj
    clear hj1 hj2 hlt
    go_upto_region 14 with fail
    refine ag ?_
    refine ai rfl (aj rfl (ev rfl)) ?_;simp only [aa]
    by_cases k1 : 4611686018427387904 < n
    ·have H1 : Hid (decide ((4611686018427387904 : Int) < (n : Int)) = true) := af (decide_eq_true (by omega))
     have HF := K1 (fun h => by have := of_evB h; omega)
     have HRX := HR2
     have HBX := HB2
     clear k1 K1 K2 K3 KY
     refine ai (v := .bool true) rfl (bp true rfl (ev rfl) evk H1.out) ?_;simp only [aa]
     refine aC 3 (v := .bool true) rfl (aj rfl (ev rfl)) (by kernel_rfl) ?_
     simp only [aJ, ae, aa]
     refine ai (v := .bool true) rfl (aG rfl (ev rfl) evk) ?_;simp only [aa]
     refine ah ?_
     go_wp2_with (first | (refine ai rfl (d8 rfl) ?_) | (refine az rfl (b7 (c := br) rfl rfl rfl ?_) ?_; (with_reducible exact HRX.out)) | fail)
     refine bodyPost_ret (de (t := 32) (cs := a8 br) rfl _ _ _ rfl ?h1 Tryz.underlying32 rfl ?h2) rfl ⟨by rw [HF.out.1, HF.out.2.1, HF.out.2.2]; rfl, ?h3⟩
     case h1 => exact World.rangeAt_setCells_same _ _ _ _ HRX.out
     case h2 => exact ec
     case h3 => exact below_setCells HBX.out (Nat.le_succ _) _
    ·have H1 : Hid (decide ((4611686018427387904 : Int) < (n : Int)) = false) := af (decide_eq_false (by omega))
     have hev : evB n = true := by unfold evB; exact decide_eq_true ⟨Nat.pos_of_ne_zero HP.out, by omega⟩
     clear k1
     refine ai (v := .bool false) rfl (bp false rfl (ev rfl) evk H1.out) ?_;simp only [aa]
     refine ai (v := .bool false) rfl (aj rfl (ev rfl)) ?_;simp only [aa]
     refine al gr (bk (c := y) rfl (ev rfl) HS2.out.range) ?_;simp only [aa]
     refine ar gr (av Tryz.call58 rfl (evc (ev rfl) evn)) ?_
     by_cases hm : dq y = true
     ·have HM := af hm
      have HF := KY hev hm (fun k h1 h2 => HAL.out k h1 h2)
      clear hev hm K1 K2 K3 KY
      refine (rmmay_b y _ HM.out).mono ?_
      rintro e w3 ⟨rfl, hb⟩
      refine ⟨_, rfl, ?_⟩
      simp only [aa]
      refine al (v := .bool false) gr (bf true rfl (ev rfl)) ?_;simp only [aa]
      refine ai (v := .bool false) rfl (aE rfl (ev rfl) (ev rfl)) ?_;simp only [aa]
      refine ah ?_
      have HR3 := af (aO HR2.out HZ2.out hb)
      have HB3 := af (HB2.out.trans (hb.mono HB2.out.size))
      have HLD := af (HS2.out.below (aK HS2.out) hb).range
      clear hb HR2 HB2 HS2
      go_wp2_with fail
      refine wp_region_still_tail 3 (by kernel_rfl) (by kernel_rfl) ?_
      simp only [ae]
      refine aF rfl (aj rfl (ev rfl)) ?_;simp only [aa]
      refine aF rfl (bk (c := y) rfl (ev rfl) HLD.out) ?_;simp only [aa]
      refine aF rfl (aq rfl (ev rfl)) ?_;simp only [aa]
      refine wpStill_nil ?_
      change wpList _ _ _ _ _ (World.drew _)
      refine aV rfl (b7 (c := y) rfl (ev rfl) (ev rfl) HR3.out) ?_;simp only [aa]
      refine al rfl (aq rfl evk) ?_;simp only [aa]
      refine ah ?_
      go_wp2_with fail
      refine bodyPost_ret (de (t := 32) (cs := a8 y) rfl _ _ _ rfl ?h1 Tryz.underlying32 rfl ?h2) rfl ⟨by rw [HF.out.1, HF.out.2.1, HF.out.2.2]; rfl, ?h3⟩
      case h1 => exact World.rangeAt_setCells_same _ _ _ _ HR3.out
      case h2 => exact ec
      case h3 => exact below_setCells (bd HB3.out) (Nat.le_succ _) _
     ·have hm' : dq y = false := by simpa using hm
      have HM := af hm'
      have HF := K2 hm
      clear hev hm hm' K1 K2 K3 KY
      refine (rmmay_b y _ HM.out).mono ?_
      rintro e w3 ⟨rfl, hb⟩
      refine ⟨_, rfl, ?_⟩
      simp only [aa]
      refine al (v := .bool true) gr (bf false rfl (ev rfl)) ?_;simp only [aa]
      refine ai (v := .bool true) rfl (aE rfl (ev rfl) (ev rfl)) ?_;simp only [aa]
      refine ah ?_
      have HRX := af (aO HR2.out HZ2.out hb)
      have HBX := af (HB2.out.trans (hb.mono HB2.out.size))
      clear hb HR2 HB2 HS2
      go_wp2_with (first | (refine ai rfl (d8 rfl) ?_) | (refine az rfl (b7 (c := br) rfl rfl rfl ?_) ?_; (with_reducible exact HRX.out)) | fail)
      refine bodyPost_ret (de (t := 32) (cs := a8 br) rfl _ _ _ rfl ?h1 Tryz.underlying32 rfl ?h2) rfl ⟨by rw [HF.out.1, HF.out.2.1, HF.out.2.2]; rfl, ?h3⟩
      case h1 => exact World.rangeAt_setCells_same _ _ _ _ HRX.out
      case h2 => exact ec
      case h3 => exact below_setCells HBX.out (Nat.le_succ _) _
 ·have HF := HS h0
  have hne : ((E : Int) != 0) = true := by simp; omega
  have HRX := HR1
  have HBX := HB1
  clear h0 HN1 HN2 HN3 HY HS HLEN HPOS hv
  go_wp2_with (first | (refine ai rfl (d8 rfl) ?_) | (refine az rfl (b7 (c := br) rfl rfl rfl ?_) ?_; (with_reducible exact HRX.out)) | fail)
  refine bodyPost_ret (de (t := 32) (cs := a8 br) rfl _ _ _ rfl ?h1 Tryz.underlying32 rfl ?h2) rfl ⟨by rw [HF.out.1, HF.out.2.1, HF.out.2.2]; rfl, ?h3⟩
  case h1 => exact World.rangeAt_setCells_same _ _ _ _ HRX.out
  case h2 => exact ec
  case h3 => exact below_setCells HBX.out (Nat.le_succ _) _
set_option maxHeartbeats 4000000 in
theorem rmnew (a b : Blk) (w : World) : Calls Tryz.prog 34 #[blk a, blk b] w fun e w' => e = .returned (.tuple #[.int .u64 ((aN.nX a b).n : Nat), mrk (aN.nX a b).m, .int .i64 (aN.nE a b : Nat)]) ∧ Below w.heap.size w w' := by
 obtain ⟨h1, h2, h3, h4, h5⟩ := three_newM w a b
 obtain ⟨x, hx⟩ : ∃ x, aN.gN a = x := ⟨_, rfl⟩
 obtain ⟨y, hy⟩ : ∃ y, aN.gN b = y := ⟨_, rfl⟩
 obtain ⟨p, hp⟩ : ∃ p, (aN.gX a).m = p := ⟨_, rfl⟩
 obtain ⟨q, hq⟩ : ∃ q, (aN.gX b).m = q := ⟨_, rfl⟩
 obtain ⟨ea, hea⟩ : ∃ e, aN.gE a = e := ⟨_, rfl⟩
 obtain ⟨eb, heb⟩ : ∃ e, aN.gE b = e := ⟨_, rfl⟩
 have HX := af hx
 have HY := af hy
 have HP := af hp
 have HQ := af hq
 have HEA := af hea
 have HEB := af heb
 have hxa := aN.gN_zero (b := a)
 have hxb := aN.gN_zero (b := b)
 rw [hx, hea] at hxa
 rw [hy, heb] at hxb
 have HXA := af hxa
 have HXB := af hxb
 clear hx hy hp hq hea heb hxa hxb
 have HNN : Hid ((aN.nX a b).n = if x < y then y else x) := af (by
  unfold Cod.nX
  rw [HX.out, HY.out]
  split
  ·exact HY.out
  ·exact HX.out)
 have HNS : Hid ((aN.nX a b).m = if x < y then q else p) := af (by
  unfold Cod.nX
  rw [HX.out, HY.out]
  split
  ·exact HQ.out
  ·exact HP.out)
 have HNE : Hid (aN.nE a b = if x = 0 ∧ y = 0 then 7 else 0) := af (by unfold Cod.nE; rw [HX.out, HY.out])
 have HPZ : Hid (x = 0 → p = br) := af fun h => by rw [← HP.out, aN.gX_no (aN.gN_zero.1 (HX.out.trans h))]; rfl
 have HA := af h1
 have HBK := af h2
 have HR := af h3
 have HB := af h4
 have HZ := af h5
 clear h1 h2 h3 h4 h5
 go_enter Tryz.func34, Tryz.ntmps34
 go_wp2_with (first | (refine ai rfl (bE rfl rfl) ?_) | (refine ai rfl (bG rfl) ?_) | (refine ai rfl (aS (c := a) rfl rfl ?_) ?_; (with_reducible exact HA.out)) | fail)
 try simp only [World.size_alloc]
 generalize ((w.alloc (.cells (cel a).toArray 29)).alloc (.cells (cel b).toArray 29)).alloc (.cells (a8 br).toArray 32) = w0 at *
 refine (rmget a w0).mono ?_
 rintro e w1 ⟨rfl, hb⟩
 rw [HX.out, HP.out, HEA.out]
 have hb1 := hb.alloc hb.size (.cells (a8 p).toArray 32)
 have HBK1 := af (dR HBK.out (by have := HZ.out; omega) hb1)
 have HR1 := af (aO HR.out HZ.out hb1)
 have HB1 := af (HB.out.trans (hb1.mono HB.out.size))
 have HPA := af (bP.new w1 p)
 have HZ1 : Hid (w.heap.size + 1 + 1 < (w1.alloc (.cells (a8 p).toArray 32)).heap.size) := af (Nat.lt_of_lt_of_le HZ.out hb1.size)
 clear hb hb1 HA HBK HB HZ HR
 go_upto_region 2 with (first | (refine ai rfl (bG rfl) ?_) | (refine az rfl (cX rfl rfl rfl) ?_) | fail)
 generalize w1.alloc (.cells (a8 p).toArray 32) = w2 at *
 go_wp2_with (first | (refine ai rfl (aS (c := b) rfl rfl ?_) ?_; (with_reducible exact HBK1.out)) | fail)
 refine (rmget b w2).mono ?_
 rintro e w3 ⟨rfl, hb⟩
 rw [HY.out, HQ.out, HEB.out]
 have hb3 := hb.alloc hb.size (.cells (a8 q).toArray 32)
 have HB4 := af (HB1.out.trans (hb3.mono HB1.out.size))
 have HR4 := af (aO HR1.out HZ1.out hb3)
 have HPR := af (HPA.out.below (aK HPA.out) hb3).range
 have HQR := af (bP.new w3 q).range
 clear hb hb3 HBK1 HB1 HR1 HPA HZ1
 go_upto_region 3 with (first | (refine ai rfl (bG rfl) ?_) | (refine az rfl (cX rfl rfl rfl) ?_) | fail)
 generalize w3.alloc (.cells (a8 q).toArray 32) = w4 at *
 by_cases h0 : ea = 0
 ·have HEAN : Hid (((ea : Int) != 0) = false) := af (by rw [h0]; rfl)
  have hx0 : x ≠ 0 := fun e => (HXA.out.1 e) h0
  rw [if_neg (by omega)] at HNE
  refine ag ?_
  refine ai rfl (aj rfl (ev rfl)) ?_;simp only [aa]
  refine ai (v := .bool false) rfl (aU false rfl (ev rfl) evk HEAN.out) ?_;simp only [aa]
  refine aC 2 (v := .bool false) rfl (aj rfl (ev rfl)) (by kernel_rfl) ?_
  simp only [aJ, ae, aa]
  refine ai (v := .bool false) rfl (aE rfl (ev rfl) evk) ?_;simp only [aa]
  refine ah ?_
  go_upto_region 5 with fail
  by_cases h1 : eb = 0
  ·have HEBQ : Hid (((eb : Int) == 0) = true) := af (by rw [h1]; rfl)
   by_cases hlt : x < y
   ·have HGT : Hid (decide ((x : Int) < (y : Int)) = true) := af (decide_eq_true (by omega))
    rw [if_pos hlt] at HNN HNS
    clear h0 h1 hx0 hlt
    refine ag ?_
    refine ai rfl (aj rfl (ev rfl)) ?_;simp only [aa]
    refine ai (v := .bool false) rfl (aU false rfl (ev rfl) evk HEAN.out) ?_;simp only [aa]
    refine ai (v := .bool false) rfl (aj rfl (ev rfl)) ?_;simp only [aa]
    refine al gr (aj rfl (ev rfl)) ?_;simp only [aa]
    refine al (v := .bool true) gr (aP true rfl (ev rfl) evk HEBQ.out) ?_;simp only [aa]
    refine al (v := .bool true) gr (aj rfl (ev rfl)) ?_;simp only [aa]
    refine al gr (aj rfl (ev rfl)) ?_;simp only [aa]
    refine al gr (aj rfl (ev rfl)) ?_;simp only [aa]
    refine al (v := .bool true) gr (bp true rfl (ev rfl) (ev rfl) HGT.out) ?_;simp only [aa]
    refine al (v := .bool true) gr (aG rfl (ev rfl) (ev rfl)) ?_;simp only [aa]
    refine ai (v := .bool true) rfl (aE rfl (ev rfl) (ev rfl)) ?_;simp only [aa]
    refine ah ?_
    go_wp2_with fail
    refine wp_region_still_tail 3 (by kernel_rfl) (by kernel_rfl) ?_
    simp only [ae]
    refine aF rfl (aj rfl (ev rfl)) ?_;simp only [aa]
    refine aF rfl (bk (c := q) rfl (ev rfl) HQR.out) ?_;simp only [aa]
    refine aF rfl (aq rfl (ev rfl)) ?_;simp only [aa]
    refine wpStill_nil ?_
    change wpList _ _ _ _ _ (World.drew _)
    refine aV rfl (b7 (c := q) rfl (ev rfl) (ev rfl) HR4.out) ?_;simp only [aa]
    refine al rfl (aq rfl evk) ?_;simp only [aa]
    refine ah ?_
    go_wp2_with fail
    refine bodyPost_ret (de (t := 32) (cs := a8 q) rfl _ _ _ rfl ?h1 Tryz.underlying32 rfl ?h2) rfl ⟨by rw [HNE.out, HNN.out, HNS.out]; rfl, ?h3⟩
    case h1 => exact World.rangeAt_setCells_same _ _ _ _ HR4.out
    case h2 => exact ec
    case h3 => exact below_setCells (bd HB4.out) (by omega) _
   ·have HGT : Hid (decide ((x : Int) < (y : Int)) = false) := af (decide_eq_false (by omega))
    rw [if_neg hlt] at HNN HNS
    clear h0 h1 hx0 hlt
    refine ag ?_
    refine ai rfl (aj rfl (ev rfl)) ?_;simp only [aa]
    refine ai (v := .bool false) rfl (aU false rfl (ev rfl) evk HEAN.out) ?_;simp only [aa]
    refine ai (v := .bool false) rfl (aj rfl (ev rfl)) ?_;simp only [aa]
    refine al gr (aj rfl (ev rfl)) ?_;simp only [aa]
    refine al (v := .bool true) gr (aP true rfl (ev rfl) evk HEBQ.out) ?_;simp only [aa]
    refine al (v := .bool true) gr (aj rfl (ev rfl)) ?_;simp only [aa]
    refine al gr (aj rfl (ev rfl)) ?_;simp only [aa]
    refine al gr (aj rfl (ev rfl)) ?_;simp only [aa]
    refine al (v := .bool false) gr (bp false rfl (ev rfl) (ev rfl) HGT.out) ?_;simp only [aa]
    refine al (v := .bool false) gr (aG rfl (ev rfl) (ev rfl)) ?_;simp only [aa]
    refine ai (v := .bool false) rfl (aE rfl (ev rfl) (ev rfl)) ?_;simp only [aa]
    refine ah ?_
    go_wp2_with fail
    refine wp_region_still_tail 3 (by kernel_rfl) (by kernel_rfl) ?_
    simp only [ae]
    refine aF rfl (aj rfl (ev rfl)) ?_;simp only [aa]
    refine aF rfl (bk (c := p) rfl (ev rfl) HPR.out) ?_;simp only [aa]
    refine aF rfl (aq rfl (ev rfl)) ?_;simp only [aa]
    refine wpStill_nil ?_
    change wpList _ _ _ _ _ (World.drew _)
    refine aV rfl (b7 (c := p) rfl (ev rfl) (ev rfl) HR4.out) ?_;simp only [aa]
    refine al rfl (aq rfl evk) ?_;simp only [aa]
    refine ah ?_
    go_wp2_with fail
    refine bodyPost_ret (de (t := 32) (cs := a8 p) rfl _ _ _ rfl ?h1 Tryz.underlying32 rfl ?h2) rfl ⟨by rw [HNE.out, HNN.out, HNS.out]; rfl, ?h3⟩
    case h1 => exact World.rangeAt_setCells_same _ _ _ _ HR4.out
    case h2 => exact ec
    case h3 => exact below_setCells (bd HB4.out) (by omega) _
  ·have HEBQ : Hid (((eb : Int) == 0) = false) := af (by simp; omega)
   have hy0 : y = 0 := HXB.out.2 h1
   rw [if_neg (by omega)] at HNN HNS
   clear h0 h1 hx0 hy0
   refine ag ?_
   refine ai rfl (aj rfl (ev rfl)) ?_;simp only [aa]
   refine ai (v := .bool false) rfl (aU false rfl (ev rfl) evk HEAN.out) ?_;simp only [aa]
   refine ai (v := .bool false) rfl (aj rfl (ev rfl)) ?_;simp only [aa]
   refine al gr (aj rfl (ev rfl)) ?_;simp only [aa]
   refine al (v := .bool false) gr (aP false rfl (ev rfl) evk HEBQ.out) ?_;simp only [aa]
   refine aC 3 (v := .bool false) gr (aj rfl (ev rfl)) (by kernel_rfl) ?_
   simp only [aJ, ae, aa]
   refine al (v := .bool false) gr (aE rfl (ev rfl) evk) ?_;simp only [aa]
   refine ai (v := .bool false) rfl (aE rfl (ev rfl) (ev rfl)) ?_;simp only [aa]
   refine ah ?_
   go_wp2_with fail
   refine wp_region_still_tail 3 (by kernel_rfl) (by kernel_rfl) ?_
   simp only [ae]
   refine aF rfl (aj rfl (ev rfl)) ?_;simp only [aa]
   refine aF rfl (bk (c := p) rfl (ev rfl) HPR.out) ?_;simp only [aa]
   refine aF rfl (aq rfl (ev rfl)) ?_;simp only [aa]
   refine wpStill_nil ?_
   change wpList _ _ _ _ _ (World.drew _)
   refine aV rfl (b7 (c := p) rfl (ev rfl) (ev rfl) HR4.out) ?_;simp only [aa]
   refine al rfl (aq rfl evk) ?_;simp only [aa]
   refine ah ?_
   go_wp2_with fail
   refine bodyPost_ret (de (t := 32) (cs := a8 p) rfl _ _ _ rfl ?h1 Tryz.underlying32 rfl ?h2) rfl ⟨by rw [HNE.out, HNN.out, HNS.out]; rfl, ?h3⟩
   case h1 => exact World.rangeAt_setCells_same _ _ _ _ HR4.out
   case h2 => exact ec
   case h3 => exact below_setCells (bd HB4.out) (by omega) _
 ·have HEAN : Hid (((ea : Int) != 0) = true) := af (by simp; omega)
  have hx0 : x = 0 := HXA.out.2 h0
  have HPZ2 := af (HPZ.out hx0)
  by_cases h1 : eb = 0
  ·have HEBN : Hid (((eb : Int) != 0) = false) := af (by rw [h1]; rfl)
   have HEBQ : Hid (((eb : Int) == 0) = true) := af (by rw [h1]; rfl)
   have hy0 : y ≠ 0 := fun e => (HXB.out.1 e) h1
   rw [if_pos (by omega)] at HNN HNS
   rw [if_neg (by omega)] at HNE
   clear h0 h1 hx0 hy0
   refine ag ?_
   refine ai rfl (aj rfl (ev rfl)) ?_;simp only [aa]
   refine ai (v := .bool true) rfl (aU true rfl (ev rfl) evk HEAN.out) ?_;simp only [aa]
   refine ai (v := .bool true) rfl (aj rfl (ev rfl)) ?_;simp only [aa]
   refine al gr (aj rfl (ev rfl)) ?_;simp only [aa]
   refine al (v := .bool false) gr (aU false rfl (ev rfl) evk HEBN.out) ?_;simp only [aa]
   refine ai (v := .bool false) rfl (aG rfl (ev rfl) (ev rfl)) ?_;simp only [aa]
   refine ah ?_
   go_upto_region 5 with fail
   refine ag ?_
   refine ai rfl (aj rfl (ev rfl)) ?_;simp only [aa]
   refine ai (v := .bool true) rfl (aU true rfl (ev rfl) evk HEAN.out) ?_;simp only [aa]
   refine aC 7 (v := .bool true) rfl (aj rfl (ev rfl)) (by kernel_rfl) ?_
   simp only [aJ, ae, aa]
   refine ai (v := .bool true) rfl (aG rfl (ev rfl) evk) ?_;simp only [aa]
   refine ah ?_
   go_wp2_with fail
   refine wp_region_still_tail 3 (by kernel_rfl) (by kernel_rfl) ?_
   simp only [ae]
   refine aF rfl (aj rfl (ev rfl)) ?_;simp only [aa]
   refine aF rfl (bk (c := q) rfl (ev rfl) HQR.out) ?_;simp only [aa]
   refine aF rfl (aq rfl (ev rfl)) ?_;simp only [aa]
   refine wpStill_nil ?_
   change wpList _ _ _ _ _ (World.drew _)
   refine aV rfl (b7 (c := q) rfl (ev rfl) (ev rfl) HR4.out) ?_;simp only [aa]
   refine al rfl (aq rfl evk) ?_;simp only [aa]
   refine ah ?_
   go_wp2_with fail
   refine bodyPost_ret (de (t := 32) (cs := a8 q) rfl _ _ _ rfl ?h1 Tryz.underlying32 rfl ?h2) rfl ⟨by rw [HNE.out, HNN.out, HNS.out]; rfl, ?h3⟩
   case h1 => exact World.rangeAt_setCells_same _ _ _ _ HR4.out
   case h2 => exact ec
   case h3 => exact below_setCells (bd HB4.out) (by omega) _
  ·have HEBN : Hid (((eb : Int) != 0) = true) := af (by simp; omega)
   have hy0 : y = 0 := HXB.out.2 h1
   rw [if_neg (by omega)] at HNN HNS
   rw [if_pos (by omega)] at HNE
   rw [hx0] at HNN
   rw [HPZ2.out] at HNS
   clear h0 h1 hx0 hy0
   refine ag ?_
   refine ai rfl (aj rfl (ev rfl)) ?_;simp only [aa]
   refine ai (v := .bool true) rfl (aU true rfl (ev rfl) evk HEAN.out) ?_;simp only [aa]
   refine ai (v := .bool true) rfl (aj rfl (ev rfl)) ?_;simp only [aa]
   refine al gr (aj rfl (ev rfl)) ?_;simp only [aa]
   refine al (v := .bool true) gr (aU true rfl (ev rfl) evk HEBN.out) ?_;simp only [aa]
   refine ai (v := .bool true) rfl (aG rfl (ev rfl) (ev rfl)) ?_;simp only [aa]
   refine ah ?_
   go_wp2_with (first | (refine ai rfl (d8 rfl) ?_) | (refine az rfl (b7 (c := br) rfl rfl rfl ?_) ?_; (with_reducible exact HR4.out)) | fail)
   refine bodyPost_ret (de (t := 32) (cs := a8 br) rfl _ _ _ rfl ?h1 Tryz.underlying32 rfl ?h2) rfl ⟨by rw [HNE.out, HNN.out, HNS.out]; rfl, ?h3⟩
   case h1 => exact World.rangeAt_setCells_same _ _ _ _ HR4.out
   case h2 => exact ec
   case h3 => exact below_setCells HB4.out (by omega) _
theorem rnt_no {b : Blk} (h0 : cu b.toList = 0) (h : ¬ aL.good b = true) : aL.gX b = aM ∧ aL.gE b = 5 := by
 have hE := aL.gE_form h0 h
 exact ⟨aL.gX_no (by omega), hE⟩
theorem rnt_good {b : Blk} : aL.good b = true ↔ nteB (bV (cP b.toList) (cv b.toList)) = true ∧ cw (bV (cP b.toList) (cv b.toList)) = cv b.toList := aL.ef
theorem rnt_yes {b : Blk} (h0 : cu b.toList = 0) (hm : nteB (bV (cP b.toList) (cv b.toList)) = true) (hz : ∀ j, 14 ≤ j → j < 44 → bt (cv b.toList) j = 0) :
  aL.gX b = bV (cP b.toList) (cv b.toList) ∧ aL.gE b = 0 := by
 have hE := aL.gE_ok h0 (rnt_good.2 ⟨hm, (full_toldNt (dA h0)).2 hz⟩)
 exact ⟨aL.gX_of hE, hE⟩
set_option maxHeartbeats 4000000 in
theorem rntget (b : Blk) (w : World) : Calls Tryz.prog 37 #[blk b] w fun e w' => e = .returned (.tuple #[nte (aL.gX b), .int .i64 (aL.gE b : Nat)]) ∧ Below w.heap.size w w' := by
 have hN2 := fun h0 : cu b.toList = 0 => fun h : ¬ nteB (bV (cP b.toList) (cv b.toList)) = true => af (rnt_no h0 (fun hg => h (rnt_good.1 hg).1))
 have hN3 := fun h0 : cu b.toList = 0 => fun j h1 h2 (h : bt (cv b.toList) j ≠ 0) => af (rnt_no h0 (fun hg => h ((full_toldNt (dA h0)).1 (rnt_good.1 hg).2 j h1 h2)))
 have hY := fun h0 : cu b.toList = 0 => fun h2 h3 => af (rnt_yes h0 h2 h3)
 have hS := fun h0 : cu b.toList ≠ 0 => aL.gE_seal h0
 have hlen := fun h0 : cu b.toList = 0 => dA h0
 have hn64 := fM b
 obtain ⟨gx, hgx⟩ : ∃ g, aL.gX b = g := ⟨_, rfl⟩
 obtain ⟨ge, hge⟩ : ∃ g, aL.gE b = g := ⟨_, rfl⟩
 have hS2 : cu b.toList ≠ 0 → gx = aM ∧ ge = cu b.toList := fun h => by
  have h1 := hS h
  rw [← hgx, ← hge]
  exact ⟨aL.gX_no (by omega), h1⟩
 rw [hgx, hge] at hN2 hN3 hY ⊢
 clear hS hgx hge
 obtain ⟨n, hn⟩ : ∃ n, cP b.toList = n := ⟨_, rfl⟩
 obtain ⟨l, hl⟩ : ∃ l, cv b.toList = l := ⟨_, rfl⟩
 obtain ⟨E, hE⟩ : ∃ E, cu b.toList = E := ⟨_, rfl⟩
 have HN := af hn
 have HL := af hl
 have HE := af hE
 rw [hn] at hN2 hY hn64
 rw [hl] at hN2 hN3 hY hlen
 rw [hE] at hN2 hN3 hY hS2 hlen
 clear hn hl hE
 have h1 := (Below.refl w.heap.size w).alloc (Nat.le_refl _) (.cells (cel b).toArray 29)
 have h2 := h1.alloc h1.size (.cells (aQ aM).toArray 35)
 have HA : Hid (((w.alloc (.cells (cel b).toArray 29)).alloc (.cells (aQ aM).toArray 35)).rangeAt w.heap.size 0 (cel b)) := af (World.rangeAt_alloc (cf w (cel b) 29) _)
 have hsn := bI.new (w.alloc (.cells (cel b).toArray 29)) aM
 rw [World.size_alloc] at hsn
 have HR := af hsn.there
 have HZ := af (aK hsn)
 have HB := af h2
 have HN64 := af hn64
 clear h1 h2 hsn hn64
 have HN2 := fun h0 h => af (hN2 h0 h).out
 have HN3 := fun h0 j h1 h2 h => af (hN3 h0 j h1 h2 h).out
 have HY := fun h0 h2 h3 => af (hY h0 h2 h3).out
 have HS := fun h => af (hS2 h)
 have HLEN := fun h => af (hlen h)
 clear hN2 hN3 hY hS2 hlen
 go_enter Tryz.func37, Tryz.ntmps37
 go_wp2_with (first | (refine ai rfl (bE rfl rfl) ?_) | (refine ai rfl (bW rfl) ?_) | (refine ai rfl (aS (c := b) rfl rfl ?_) ?_; (with_reducible exact HA.out)) | fail)
 try simp only [World.size_alloc]
 generalize (w.alloc (.cells (cel b).toArray 29)).alloc (.cells (aQ aM).toArray 35) = w0 at *
 refine (rget_any b _ w0 (af rfl)).mono ?_
 rintro e w1 ⟨v, rfl, hv, hb⟩
 rw [HN.out, HE.out]
 rw [HL.out] at hv
 have HR1 := af (aO HR.out HZ.out hb)
 have HB1 := af (HB.out.trans (hb.mono HB.out.size))
 have HZ1 : Hid (w.heap.size + 1 < w1.heap.size) := af (Nat.lt_of_lt_of_le HZ.out hb.size)
 clear hb HA HR HB HZ
 by_cases h0 : E = 0
 ·have HM1 := af hv
  have HLL := HLEN h0
  have K2 := fun h => HN2 h0 h
  have K3 := fun j h1 h2 h => HN3 h0 j h1 h2 h
  have KY := fun h2 h3 => HY h0 h2 h3
  subst h0
  clear hv HN2 HN3 HY HS HLEN
  obtain ⟨A, c, rfl, hrd, _, _⟩ := HM1.out.open_ HLL.out
  have HRD := af hrd
  clear hrd HM1
  obtain ⟨v0, h0⟩ : ∃ v, val 8 (piece l 0 8) = v := ⟨_, rfl⟩
  obtain ⟨v1, h1⟩ : ∃ v, val 8 (piece l 8 2) = v := ⟨_, rfl⟩
  obtain ⟨v2, h2⟩ : ∃ v, val 8 (piece l 10 4) = v := ⟨_, rfl⟩
  have b1 : v1 < 65536 := by rw [← h1]; exact cg (b := l) (p := 8) (k := 2) (by rw [HLL.out]; omega)
  have b2 : v2 < 4294967296 := by rw [← h2]; exact cg (b := l) (p := 10) (k := 4) (by rw [HLL.out]; omega)
  have HB2v := af b2
  have HV0 := af h0
  have HV1 := af h1
  have HV2 := af h2
  have hT : bV n l = ⟨n, v0, (v1 : Nat), v2⟩ := by unfold bV; rw [h0, h1, h2]
  rw [hT] at K2 KY
  clear h0 h1 h2 hT b2
  go_wp2_with fail
  refine (dz A 44 c _ l 0 8 w1 HRD.out (by unfold maxLen; omega) (by omega) (by omega) (by omega)).mono ?_
  rintro e w' ⟨rfl, rfl⟩
  rw [HV0.out]
  go_wp2_with fail
  refine (dz A 44 c _ l 8 2 w1 HRD.out (by unfold maxLen; omega) (by omega) (by omega) (by omega)).mono ?_
  rintro e w' ⟨rfl, rfl⟩
  rw [HV1.out]
  go_wp2_with fail
  refine (dz A 44 c _ l 10 4 w1 HRD.out (by unfold maxLen; omega) (by omega) (by omega) (by omega)).mono ?_
  rintro e w' ⟨rfl, rfl⟩
  rw [HV2.out]
  obtain ⟨y, hy⟩ : ∃ y : Nte, y = ⟨n, v0, (v1 : Nat), v2⟩ := ⟨_, rfl⟩
  rw [← hy] at K2 KY
  have HYD := af hy
  clear hy
  have hb2 := (Below.refl w1.heap.size w1).alloc (Nat.le_refl _) (.cells (aQ y).toArray 35)
  have HS2 := af (bI.new w1 y)
  have HR2 := af (aO HR1.out HZ1.out hb2)
  have HB2 := af (HB1.out.trans (hb2.mono HB1.out.size))
  have HRD2 := af (HRD.out.below hb2)
  have HZ2 : Hid (w.heap.size + 1 < (w1.alloc (.cells (aQ y).toArray 35)).heap.size) := af (Nat.lt_of_lt_of_le HZ1.out hb2.size)
  clear hb2 HR1 HB1 HRD HV0 HV1 HV2
  go_upto_region 8 with (first | (refine ai rfl (exec_cvU32 rfl rfl HB2v.out) ?_) | (refine ai rfl (exec_bldNt4 n v0 v1 v2 rfl rfl rfl rfl rfl) ?_) | (refine ai rfl (bW rfl) ?_) | (refine az rfl (dk (c := ⟨n, v0, (v1 : Nat), v2⟩) rfl rfl rfl) ?_) | fail)
  rw [← HYD.out]
  generalize w1.alloc (.cells (aQ y).toArray 35) = w2 at *
  generalize w1.heap.size = s at *
  clear HYD
  have HAL : Hid (∀ k, 14 ≤ k → k < 14 → bt l k = 0) := af fun k h1 h2 => by omega
  go_wp2_with fail
  go_loop [14] (fun i => ∃ j : Nat, 14 ≤ j ∧ j ≤ 44 ∧ i = .int .i64 j ∧ Hid (∀ k, 14 ≤ k → k < j → bt l k = 0)) (fun i => 44 - (intOf i).toNat)
  case atStart => exact ⟨14, by omega, by omega, rfl, HAL⟩
  case round =>
   clear HAL
   obtain ⟨j, hj1, hj2, rfl, HAL⟩ := hrel
   by_cases hlt : j < 44
   ·obtain ⟨bA, oA, rfl, hA, cA⟩ := HRD2.out.2 j hlt
    by_cases hz : bt l j = 0
    ·have HAN : Hid (∀ k, 14 ≤ k → k < j + 1 → bt l k = 0) := af fun k h1 h2 => by
      by_cases e : k = j
      ·rw [e]; exact hz
      ·exact HAL.out k h1 (by omega)
     rw [hz] at cA
     clear hz
     go_wp2
     go_round
     case rel => exact ⟨j + 1, by omega, by omega, by go_num, HAN⟩
     case measure => simp [intOf]; omega
    ·have HF := K3 j hj1 hlt hz
     have HRX := HR2
     have HBX := HB2
     have hbz : (bt l j != 0) = true := by simpa using hz
     clear K2 K3 KY
     go_wp2_with (first | (refine ai rfl (fh rfl) ?_) | (refine az rfl (dX (c := aM) rfl rfl rfl ?_) ?_; (with_reducible exact HRX.out)) | fail)
     refine bodyPost_ret (res_two (t := 35) (cs := aQ aM) rfl _ _ _ rfl ?h1 Tryz.underlying35 rfl ?h2) rfl ⟨by rw [HF.out.1, HF.out.2]; rfl, ?h3⟩
     case h1 => exact World.rangeAt_setCells_same _ _ _ _ HRX.out
     case h2 => exact sizeNt
     case h3 => exact below_setCells HBX.out (Nat.le_succ _) _
   ·have hj : j = 44 := by omega
    subst hj
    clear hj1 hj2 hlt
    go_wp2_with (first | (refine ai rfl (bh (c := y) rfl rfl ?_) ?_; (with_reducible exact HS2.out.range)) | fail)
    refine (rntmay y w2).mono ?_
    rintro e w3 ⟨rfl, hb⟩
    have HR3 := af (aO HR2.out HZ2.out hb)
    have HB3 := af (HB2.out.trans (hb.mono HB2.out.size))
    have HLD := af (HS2.out.below (aK HS2.out) hb).range
    clear hb HR2 HB2 HS2
    by_cases hm : nteB y = true
    ·have HF := KY hm (fun k h1 h2 => HAL.out k h1 h2)
     rw [hm]
     clear hm K2 K3 KY
     go_wp2_with (first | (refine ai rfl (bh (c := y) rfl rfl ?_) ?_; (with_reducible exact HLD.out)) | (refine az rfl (dX (c := y) rfl rfl rfl ?_) ?_; (with_reducible exact HR3.out)) | fail)
     refine bodyPost_ret (res_two (t := 35) (cs := aQ y) rfl _ _ _ rfl ?h1 Tryz.underlying35 rfl ?h2) rfl ⟨by rw [HF.out.1, HF.out.2]; rfl, ?h3⟩
     case h1 => exact World.rangeAt_setCells_same _ _ _ _ HR3.out
     case h2 => exact sizeNt
     case h3 => exact below_setCells HB3.out (Nat.le_succ _) _
    ·have hm' : nteB y = false := by simpa using hm
     have HF := K2 hm
     have HRX := HR3
     have HBX := HB3
     rw [hm']
     clear hm hm' K2 K3 KY
     go_wp2_with (first | (refine ai rfl (fh rfl) ?_) | (refine az rfl (dX (c := aM) rfl rfl rfl ?_) ?_; (with_reducible exact HRX.out)) | fail)
     refine bodyPost_ret (res_two (t := 35) (cs := aQ aM) rfl _ _ _ rfl ?h1 Tryz.underlying35 rfl ?h2) rfl ⟨by rw [HF.out.1, HF.out.2]; rfl, ?h3⟩
     case h1 => exact World.rangeAt_setCells_same _ _ _ _ HRX.out
     case h2 => exact sizeNt
     case h3 => exact below_setCells HBX.out (Nat.le_succ _) _
 ·have HF := HS h0
  have hne : ((E : Int) != 0) = true := by simp; omega
  have HRX := HR1
  have HBX := HB1
  clear h0 HN2 HN3 HY HS HLEN hv
  go_wp2_with (first | (refine ai rfl (fh rfl) ?_) | (refine az rfl (dX (c := aM) rfl rfl rfl ?_) ?_; (with_reducible exact HRX.out)) | fail)
  refine bodyPost_ret (res_two (t := 35) (cs := aQ aM) rfl _ _ _ rfl ?h1 Tryz.underlying35 rfl ?h2) rfl ⟨by rw [HF.out.1, HF.out.2]; rfl, ?h3⟩
  case h1 => exact World.rangeAt_setCells_same _ _ _ _ HRX.out
  case h2 => exact sizeNt
  case h3 => exact below_setCells HBX.out (Nat.le_succ _) _
end Go.Proofs.YtbbcdhkinbmdnaaGreatDoor
