import Derived.Test.YtdmhelalbemlcaaGreatDoorSkan
namespace Go.Proofs.YtdmhelalbemlcaaGreatDoor
set_option maxHeartbeats 8000000
open Go.Proofs.Tryz
open Go.RowKit
set_option linter.unusedVariables false
set_option linter.unusedSimpArgs false
set_option maxRecDepth 100000
def HuQ (w0 : World) (H K : Nat -> Prop) (w : World) (p q : Nat) (x : HpS) (h' : HuS) (ok : Prop) (w' : World) : Prop :=
 ci K w w' /\ (ok -> HJ w0 H K w' p q h'.M ⟨x.id, h'.ev, h'.ev, h'.R⟩ /\ bi h'.R = true /\ h'.id = x.id /\ h'.ev <= x.us + 17) /\ (¬ ok -> ∃ us, us <= x.us + 17 /\ HJ w0 H K w' p q h'.M { x with us := us })
def qz (h : HuS) (s m : Int) : Int := match iQ h.R s m with | some E => E | none => if eZ h.M m (2 + s) = 9 then oh h m.toNat 7 else eZ h.M m (2 + s)
section
variable {h : HuS} {s m E : Int} {b : Blk}
theorem ajC (m : Nat) : oh h m 7 ≠ 0 := by
 unfold oh
 split
 ·split <;> decide
 ·assumption
theorem ahw (hE : iQ h.R s m = some E) : E ≠ 0 := by
 unfold iQ at hE
 split at hE
 ·split at hE
  ·cases hE; decide
  ·split at hE
   ·cases hE
   ·cases hE; decide
 ·cases hE; decide
theorem agh (hE : iQ h.R s m = some E) : gi h s m = E /\ kb h s m = aF /\ f6 h s m = h /\ qG h s m := by
 have hne := ahw hE;have h1 : gi h s m = E := by
  unfold iQ at hE;unfold gi
  split at hE
  ·rename_i c1
   rw [if_pos c1]
   split at hE
   ·rename_i c2
    rw [if_pos c2];exact Option.some.inj hE
   ·rename_i c2
    rw [if_neg c2]
    split at hE
    ·cases hE
    ·rename_i c3
     rw [if_neg c3];exact Option.some.inj hE
  ·rename_i c1
   rw [if_neg c1];exact Option.some.inj hE
 have h2 : ∀ {z : Prop}, ¬(me h.R s m = true /\ gI h.R = false /\ hasB h.R m s = true /\ z) := fun ⟨c1, c2, c3, _⟩ => by
  unfold iQ at hE;rw [if_pos c1, c2, if_neg (by decide), if_pos c3] at hE;cases hE
 refine ⟨h1, ?_, ?_, fun e => absurd e h2⟩
 ·unfold kb; rw [if_neg (by rw [h1]; exact hne)]
 ·unfold f6; rw [if_neg h2]
theorem aea (hE : iQ h.R s m = none) (h9 : cJ h.M m (2 + s) = 9) : gi h s m = oh h m.toNat 7 /\ kb h s m = aF /\ f6 h s m = uD h m.toNat /\ (qG h s m ↔ gQ (ml h m.toNat) = 0) := by
 obtain ⟨c1, c2, c3⟩ := iw hE;have h1 : gi h s m = oh h m.toNat 7 := by
  unfold gi;rw [if_pos c1, c2, if_neg (by decide), if_pos c3, if_pos h9]
 refine ⟨h1, ?_, ?_, ?_⟩
 ·unfold kb; rw [if_neg (by rw [h1]; exact ajC _)]
 ·unfold f6; rw [if_pos ⟨c1, c2, c3, h9⟩]
 ·exact ⟨fun k => k ⟨c1, c2, c3, h9⟩, fun e _ => e⟩
theorem acy (hE : iQ h.R s m = none) (h9 : cJ h.M m (2 + s) ≠ 9) : gi h s m = cJ h.M m (2 + s) /\ kb h s m = fo h.M m (2 + s) /\ f6 h s m = h /\ qG h s m := by
 obtain ⟨c1, c2, c3⟩ := iw hE;have h1 : gi h s m = cJ h.M m (2 + s) := by
  unfold gi;rw [if_pos c1, c2, if_neg (by decide), if_pos c3, if_neg h9]
 refine ⟨h1, ?_, ?_, fun e => absurd e.2.2.2 h9⟩
 ·unfold kb;by_cases e0 : cJ h.M m (2 + s) = 0
  ·rw [if_pos (by rw [h1]; exact e0)]
  ·rw [if_neg (by rw [h1]; exact e0), tU e0]
 ·unfold f6; rw [if_neg fun e => h9 e.2.2.2]
theorem ahb : (if qz h s m = 7 then 0 else qz h s m) = abX h s m b := by
 unfold qz abX iQ
 split
 ·rename_i E hE
  split at hE
  ·rename_i c1
   rw [if_pos c1]
   split at hE
   ·rename_i c2
    rw [if_pos c2];cases hE
    rfl
   ·rename_i c2
    rw [if_neg c2]
    split at hE
    ·cases hE
    ·rename_i c3
     rw [if_neg c3];cases hE
     rfl
  ·rename_i c1
   rw [if_neg c1];cases hE
   rfl
 ·rename_i hE
  obtain ⟨c1, c2, c3⟩ := iw (R := h.R) (s := s) (m := m) hE;rw [if_pos c1, c2, if_neg (show ¬ (false = true) by decide), if_pos c3];by_cases h9 : eZ h.M m (2 + s) = 9
  ·rw [if_pos h9, if_pos h9];unfold oh;have hs : gQ (ml h m.toNat) ≠ 7 := by have := agQ (ml h m.toNat); omega
   by_cases e0 : gQ (ml h m.toNat) = 0
   ·rw [if_pos e0, if_pos e0]
    split
    ·rfl
    ·rfl
   ·rw [if_neg e0, if_neg e0, if_neg hs]
  ·rw [if_neg h9, if_neg h9];have := ahV h.M m (2 + s);rw [if_neg (by omega)]
theorem aho (hE : iQ h.R s m = some E) : qz h s m = E /\ re h s m b = h /\ aa7 h s m := by
 have h2 : ∀ {z : Prop}, ¬(me h.R s m = true /\ gI h.R = false /\ hasB h.R m s = true /\ z) := fun ⟨c1, c2, c3, _⟩ => by
  unfold iQ at hE;rw [if_pos c1, c2, if_neg (by decide), if_pos c3] at hE;cases hE
 refine ⟨by unfold qz; rw [hE], ?_, fun e => absurd e h2⟩;unfold re;rw [if_neg fun e => h2 (z := True) ⟨e.1, e.2.1, e.2.2, trivial⟩]
theorem adE (hE : iQ h.R s m = none) (h9 : eZ h.M m (2 + s) = 9) : qz h s m = oh h m.toNat 7 /\ re h s m b = uD h m.toNat /\ (aa7 h s m ↔ gQ (ml h m.toNat) = 0) := by
 obtain ⟨c1, c2, c3⟩ := iw hE;refine ⟨by unfold qz; rw [hE]; exact if_pos h9, ?_, ⟨fun k => k ⟨c1, c2, c3, h9⟩, fun e _ => e⟩⟩;unfold re;rw [if_pos ⟨c1, c2, c3⟩, if_pos h9]
theorem acH (hE : iQ h.R s m = none) (h9 : eZ h.M m (2 + s) ≠ 9) : qz h s m = eZ h.M m (2 + s) /\ re h s m b = { h with M := et h.M m (2 + s) b } /\ aa7 h s m := by
 obtain ⟨c1, c2, c3⟩ := iw hE;refine ⟨by unfold qz; rw [hE]; exact if_neg h9, ?_, fun e => absurd e.2.2.2 h9⟩;unfold re;rw [if_pos ⟨c1, c2, c3⟩, if_neg h9]
end
section
variable {w0 ws w w' : World} {H K K' : Nat -> Prop} {p q b2 b3 b4 b5 b6 : Nat} {x : HpS} {R : Ros} {M : aZ} {h0 h' : HuS} {v : Value} {ok : Prop}
theorem HuQ.from (h : HuQ w0 H K w p q x h' ok w') (hk : ci K ws w) : HuQ w0 H K ws p q x h' ok w' := ⟨hk.trans h.1, h.2.1, h.2.2⟩
theorem HuQ.mine {g : Nat} {w2 : World} (h : HuQ w0 H K w p q x h' ok w') (hg : K g) (hg0 : w0.heap.size <= g) (ho : Only (fun b => b = g) w' w2) (hK : ∀ b, K' b -> K b /\ b ≠ g) (hl : ∀ b, K' b -> b < w'.heap.size) : HuQ w0 H K' w p q x h' ok w2 := by
 refine ⟨(h.1.less fun b e => (hK b e).1).trans (ci.jK ho fun b e => ⟨(hK b e).2, hl b e⟩), fun e => ?_, fun e => ?_⟩
 ·exact ⟨((h.2.1 e).1.mine hg hg0 ho).less fun b e => (hK b e).1, (h.2.1 e).2⟩
 ·obtain ⟨us, h1, h2⟩ := h.2.2 e;exact ⟨us, h1, (h2.mine hg hg0 ho).less fun b e => (hK b e).1⟩
theorem HuQ.hj (h : HuQ w0 H K w p q x h' ok w') : ∃ M' y, HJ w0 H K w' p q M' y := by
 by_cases e : ok
 ·exact ⟨_, _, (h.2.1 e).1⟩
 ·obtain ⟨us, _, hj⟩ := h.2.2 e;exact ⟨_, _, hj⟩
theorem HuQ.lt (h : HuQ w0 H K w p q x h' ok w') {b : Nat} (hb : K b) : b < w'.heap.size := by
 obtain ⟨M', y, hj⟩ := h.hj;exact hj.lt hb
theorem HuQ.of (hj : HJ w0 H K w' p q M x) (hk : ci K w w') (hs : x.ev = x.us) (hf : bi x.R = true) (hok : ok) : HuQ w0 H K w p q x ⟨M, x.id, x.us, x.R⟩ ok w' := by
 refine ⟨hk, fun _ => ⟨?_, hf, rfl, by show x.us <= _; omega⟩, fun e => absurd hok e⟩
 show HJ w0 H K w' p q M ⟨x.id, x.us, x.us, x.R⟩
 have e : x = ⟨x.id, x.us, x.us, x.R⟩ := by
  obtain ⟨a, b, c, d⟩ := x;simp only at hs;rw [hs]
 rw [<- e];exact hj
theorem HuQ.sv {m : Nat} (hq : SvQ w0 H K w p q x ⟨M, x.id, x.us, fa x.R (m : Int)⟩ w') (hok : ok ↔ gQ (ml ⟨M, x.id, x.us, x.R⟩ m) = 0) : HuQ w0 H K w p q x (uD ⟨M, x.id, x.us, x.R⟩ m) ok w' :=
 ⟨hq.1, fun e => hq.2.1 (hok.1 e), fun e => hq.2.2 fun z => e (hok.2 z)⟩
def RdS (b2 b3 p : Nat) (qa : Option Addr) (x : HpS) (s m : Int) (w : World) : Prop := PHo w p qa x /\ w.heap[b2]? = some (.cells #[.pointer (some ⟨p, 0, none⟩)] 34 (0, 0)) /\ w.heap[b3]? = some (.cells ([.int .i64 s, .int .i64 m] : List Value).toArray 43 (0, 0))
theorem RdS.below {qa : Option Addr} {s m : Int} (h : RdS b2 b3 p qa x s m w) (hb : Below w.heap.size w w') : RdS b2 b3 p qa x s m w' := ⟨h.1.below hb, aC h.2.1 hb, aC h.2.2 hb⟩
theorem RdS.only {qa : Option Addr} {s m : Int} (h : RdS b2 b3 p qa x s m w) (ho : Only (fun b => b = b6) w w') (n1 : p ≠ b6) (n2 : b2 ≠ b6) (n3 : b3 ≠ b6) : RdS b2 b3 p qa x s m w' := ⟨h.1.only ho n1, ho.keep h.2.1 n2, ho.keep h.2.2 n3⟩
theorem aaw {s m n : Int} {y : Blk} (n2 : b2 ≠ b6) (n3 : b3 ≠ b6) (h : HJ w0 H K w p q M x) (k6 : K b6) (g6 : w0.heap.size <= b6) (h2 : w.heap[b2]? = some (.cells #[.pointer (some ⟨p, 0, none⟩)] 34 (0, 0))) (h3 : w.heap[b3]? = some (.cells ([.int .i64 s, .int .i64 m] : List Value).toArray 43 (0, 0))) (h6 : w.heap[b6]? = some (.cells (cel y).toArray 45 (0, 0))) : Calls prog 163 #[.int .i64 n, .pointer (some ⟨b2, 0, none⟩), .pointer (some ⟨b3, 0, none⟩), .pointer (some ⟨b6, 0, none⟩)] w fun e w' =>
  e = .returned (.int .i64 (cJ M m n)) /\ HJ w0 H K w' p q M x /\ w'.heap[b6]? = some (.cells (cel (fo M m n)).toArray 45 (0, 0)) /\ Only (fun b => b = b6) w w' := by
 obtain ⟨xb, hxb⟩ : ∃ xb, fo M m n = xb := ⟨_, rfl⟩;obtain ⟨ee, hee⟩ : ∃ ee, cJ M m n = ee := ⟨_, rfl⟩;rw [hxb, hee];have HXB := ae hxb;have HEE := ae hee;have HJ := ae h.drew;have HK6 := ae k6;have HG6 := ae g6;have HD : Hid (Below w.heap.size w (World.drew w)) := ae (bd ak);have HS : Hid (RdS b2 b3 p (some ⟨q, 0, none⟩) x s m (World.drew w)) := ae ⟨h.drew.hul, aC h2 HD, aC h3 HD⟩;have HNN : Hid (p ≠ b6 /\ b2 ≠ b6 /\ b3 ≠ b6) := ae ⟨fun e => h.ne k6 e.symm, n2, n3⟩;have H6 := ae (aC h6 HD);clear hxb hee h k6 g6 h2 h3 h6 n2 n3;go_enter func163, ntmps163;go_upto_region 1 with fail;refine wp_region_held (S := RdS b2 b3 p (some ⟨q, 0, none⟩) x s m) (by kernel_rfl) ?_;change wpAnyH _ _ _ _ _ 13 _ _ w.drew;refine alP 0 rfl (fun _ hw => aE rfl alW (ov ((aP hw.2.1) 0 _ rfl))) HS ?_;refine amb 1 rfl HS ?_;refine alP 2 rfl (fun _ hw => ax rfl alW pH) HS ?_;refine alP 3 rfl (fun _ hw => aE rfl alW (wZ (PHo.c0 hw.1))) HS ?_;refine alP 4 rfl (fun _ hw => ax rfl alW vF) HS ?_;refine alP 5 rfl (fun _ hw => aE rfl alW (bV ((aP hw.2.2) 1 _ rfl))) HS ?_;refine al9 6 rfl HS ?_;refine cW 7 rfl (by kernel_rfl) rfl (aB call164 rfl (evc alW (evc alW (evc alW evn)))) ?_;refine (HJ.out.read m n).mono ?_;rintro e w2 ⟨rfl, b2'⟩;rw [HXB.out, HEE.out];have HJ2 := ae (HJ.out.below b2');have H62 := ae (aC H6 b2');have HO := ae (HD.out.trans (b2'.mono HD.out.size));have HS2 := ae (HS.out.below b2');clear b2';have ho1 : Only (fun b => b = b6) w2 (w2.setCells b6 0 (cel xb)) := (Only.refl (fun b => b = b6) w2).setCells (b := b6) (.inl rfl) (cel xb) 0;have HS3 := ae (HS2.out.only ho1 HNN.out.1 HNN.out.2.1 HNN.out.2.2);refine ⟨_, rfl, HS2, ?_⟩;simp only [aa];refine al9 8 rfl HS2 ?_;refine amc 9 rfl HS2 ?_;refine amc 10 rfl HS2 ?_;refine dG 11 rfl (by kernel_rfl) rfl (aU (c := xb) rfl (ev rfl) (ev rfl) (bQ H62.out)) HS3.out ?_;simp only [Act.put];refine ama 12 rfl HS3 ?_;refine wpAnyH_done (by kernel_rfl) ?_ _;have ho := (Only.of_below (fun b => b = b6) HO).setCells (b := b6) (.inl rfl) (cel xb) 0;have hj := (HJ2.out.mine HK6 HG6 ((Only.refl (fun b => b = b6) w2).setCells (b := b6) (.inl rfl) (cel xb) 0));have H7 := ae (mQ (d := xb) H62);have HO3 := ae ho;have HJ3 := ae hj;clear ho hj;generalize w2.setCells b6 0 (cel xb) = w3 at *;go_upto_region 2 with fail;refine cC 2 ?_;go_wp2_with fail;go_ret;exact ⟨rfl, HJ3, H7, HO3⟩
def rdF (b2 b3 b6 : Nat) : Fu := ⟨163, [.pointer (some ⟨b2, 0, none⟩), .pointer (some ⟨b3, 0, none⟩), .pointer (some ⟨b6, 0, none⟩)], call163⟩
theorem sS {s m : Int} (hf : bi x.R = true) (hid : x.id ≠ 0 /\ x.id < 18446744073709551616) (hr : Room M 600) (he : x.us <= 4611686018427387000) (hs : x.ev = x.us) (h : HJ w0 H (fun b => K b \/ b = b6) w p q M x) (g6 : w0.heap.size <= b6) (m2 : b2 ≠ b6) (m3 : b3 ≠ b6) (n6 : ∀ b, K b -> b ≠ b6) (h2 : w.heap[b2]? = some (.cells #[.pointer (some ⟨p, 0, none⟩)] 34 (0, 0))) (h3 : w.heap[b3]? = some (.cells ([.int .i64 s, .int .i64 m] : List Value).toArray 43 (0, 0))) (h6 : w.heap[b6]? = some (.cells (cel aF).toArray 45 (0, 0))) : Calls prog 92 #[.pointer (some ⟨p, 0, none⟩), .agg #[.int .i64 s, .int .i64 m], (rdF b2 b3 b6).val] w fun e w' =>
  e = .returned (.int .i64 (gi ⟨M, x.id, x.us, x.R⟩ s m)) /\ w'.heap[b6]? = some (.cells (cel (kb ⟨M, x.id, x.us, x.R⟩ s m)).toArray 45 (0, 0)) /\ HuQ w0 H (fun b => K b \/ b = b6) w' p q x (f6 ⟨M, x.id, x.us, x.R⟩ s m) (qG ⟨M, x.id, x.us, x.R⟩ s m) w' /\ ci K w w' := by
 have hgb : dW x.R = true := by have hf' := hf; unfold bi at hf'; simp only [Bool.and_eq_true] at hf'; exact hf'.1.1.1
 cases hE : iQ x.R s m with
 |some E =>
  obtain ⟨c1, c2, c3, c4⟩ := agh (h := ⟨M, x.id, x.us, x.R⟩) hE;refine (uo (sv := rdF b2 b3 b6) hgb hE h.hul).mono ?_;rintro e w2 ⟨rfl, b⟩;rw [c1, c2, c3];exact ⟨rfl, aC h6 b, HuQ.of (h.below b) (ci.refl _ _) hs hf c4, (h.kept b).less fun b e => .inl e⟩
 |none =>
  refine (qO (w0 := w0) (H := H) (K := fun b => K b \/ b = b6) (M := M) (sv := rdF b2 b3 b6) (fun E w' => E = cJ M m (2 + s) /\ HJ w0 H (fun b => K b \/ b = b6) w' p q M x /\ w'.heap[b6]? = some (.cells (cel (fo M m (2 + s))).toArray 45 (0, 0)) /\ ci K w w') hf hid hr he hE h.hul (fun w1 hb => ?_) (fun w' hw => hw.2.1)).mono ?_
  ·refine (aaw m2 m3 (h.below hb) (.inr rfl) g6 (aC h2 hb) (aC h3 hb) (aC h6 hb)).mono ?_;rintro e w2 ⟨rfl, j2, k2, o2⟩;refine ⟨_, rfl, rfl, j2, k2, ((h.kept hb).less fun b e => .inl e).trans (ci.jK o2 fun b e => ⟨n6 b e, (h.below hb).lt (.inl e)⟩)⟩
  ·rintro e w2 (⟨E, e9, rfl, rfl, j2, k2, kk⟩ | ⟨w3, ⟨e9, j3, k3, kk⟩, rfl, q3⟩)
   ·obtain ⟨c1, c2, c3, c4⟩ := acy (h := ⟨M, x.id, x.us, x.R⟩) hE e9;rw [c1, c2, c3];exact ⟨rfl, k2, HuQ.of j2 (ci.refl _ _) hs hf c4, kk⟩
   ·obtain ⟨c1, c2, c3, c4⟩ := aea (h := ⟨M, x.id, x.us, x.R⟩) hE e9.symm;rw [c1, c2, c3];have hz : fo M m (2 + s) = aF := tU (by rw [<- e9]; decide);rw [hz] at k3;refine ⟨rfl, q3.1.at_ (.inr rfl) k3, (HuQ.sv (q3.from (ws := w3) (ci.refl _ _)) c4).2 |> fun z => ⟨ci.refl _ _, z.1, z.2⟩, kk.trans (q3.1.less fun b e => .inl e)⟩
theorem ag5 (s m : Int) (hf : bi x.R = true) (hid : x.id ≠ 0 /\ x.id < 18446744073709551616) (hr : Room M 600) (he : x.us <= 4611686018427387000) (hs : x.ev = x.us) (h : HJ w0 H K w p q M x) : Calls prog 114 #[.pointer (some ⟨p, 0, none⟩), .agg #[.int .i64 s, .int .i64 m]] w fun e w' =>
  e = .returned (.tuple #[blk (kb ⟨M, x.id, x.us, x.R⟩ s m), .int .i64 (gi ⟨M, x.id, x.us, x.R⟩ s m)]) /\ HuQ w0 H K w p q x (f6 ⟨M, x.id, x.us, x.R⟩ s m) (qG ⟨M, x.id, x.us, x.R⟩ s m) w' := by
 have HRC := ae (fun (K' : Nat -> Prop) (w4 : World) (b2 b3 b6 : Nat) => sS (p := p) (q := q) (w0 := w0) (H := H) (K := K') (w := w4) (b2 := b2) (b3 := b3) (b6 := b6) (s := s) (m := m) hf hid hr he hs);have HJ := ae h;obtain ⟨z0, hz0⟩ : ∃ z0 : HuS, (⟨M, x.id, x.us, x.R⟩ : HuS) = z0 := ⟨_, rfl⟩;rw [hz0] at HRC ⊢;obtain ⟨yb, hyb⟩ : ∃ yb, kb z0 s m = yb := ⟨_, rfl⟩;rw [hyb] at HRC ⊢;clear hf hid hr he hs h hz0 hyb;go_enter func114, ntmps114;go_upto_region 0 with fail;refine af ?_;refine alM (fS (v := .pointer (some ⟨p, 0, none⟩)) rfl rfl alW) ?_;have hb0 := (Below.refl w.heap.size w).alloc aj (.cells #[.pointer (some ⟨p, 0, none⟩)] 34);have HP1 := ae (heap_alloc_new w (.cells #[.pointer (some ⟨p, 0, none⟩)] 34));have HB1 := ae hb0;obtain ⟨b2, hb2⟩ : ∃ b2, w.heap.size = b2 := ⟨_, rfl⟩;have HGb2 : Hid (w.heap.size <= b2) := ae (by rw [<- hb2]; exact aj);have HLb2 : Hid (b2 < (w.alloc (.cells #[.pointer (some ⟨p, 0, none⟩)] 34)).heap.size) := ae (by rw [World.size_alloc]; omega);rw [hb2] at HP1 ⊢;clear hb2 hb0;generalize w.alloc (.cells #[.pointer (some ⟨p, 0, none⟩)] 34) = w1 at *;refine alM (ct (cs := ([.int .i64 s, .int .i64 m] : List Value)) rfl alW) ?_;have hb0 := (Below.refl w1.heap.size w1).alloc aj (.cells ([.int .i64 s, .int .i64 m] : List Value).toArray 43);have HL2 := ae (heap_alloc_new w1 (.cells ([.int .i64 s, .int .i64 m] : List Value).toArray 43));have HP2 := ae (aC HP1 hb0);have HB2 := ae (HB1.out.trans (hb0.mono HB1.out.size));obtain ⟨b3, hb3⟩ : ∃ b3, w1.heap.size = b3 := ⟨_, rfl⟩;have HGb3 : Hid (w.heap.size <= b3) := ae (by rw [<- hb3]; exact HB1.out.size);have HLb3 : Hid (b3 < (w1.alloc (.cells ([.int .i64 s, .int .i64 m] : List Value).toArray 43)).heap.size) := ae (by rw [World.size_alloc]; omega);rw [hb3] at HL2 ⊢;clear hb3 hb0;generalize w1.alloc (.cells ([.int .i64 s, .int .i64 m] : List Value).toArray 43) = w2 at *;refine alM (aX rfl) ?_;have hb0 := (Below.refl w2.heap.size w2).alloc aj (.cells (cel aF).toArray 45);have HQ3 := ae (heap_alloc_new w2 (.cells (cel aF).toArray 45));have HP3 := ae (aC HP2 hb0);have HL3 := ae (aC HL2 hb0);have HB3 := ae (HB2.out.trans (hb0.mono HB2.out.size));obtain ⟨b4, hb4⟩ : ∃ b4, w2.heap.size = b4 := ⟨_, rfl⟩;have HGb4 : Hid (w.heap.size <= b4) := ae (by rw [<- hb4]; exact HB2.out.size);have HLb4 : Hid (b4 < (w2.alloc (.cells (cel aF).toArray 45)).heap.size) := ae (by rw [World.size_alloc]; omega);rw [hb4] at HQ3 ⊢;clear hb4 hb0;generalize w2.alloc (.cells (cel aF).toArray 45) = w3 at *;refine aH 1 ?_;go_upto_region 1 with fail;refine af ?_;refine alM (aX rfl) ?_;have hb0 := (Below.refl w3.heap.size w3).alloc aj (.cells (cel aF).toArray 45);have HX4 := ae (heap_alloc_new w3 (.cells (cel aF).toArray 45));have HP4 := ae (aC HP3 hb0);have HL4 := ae (aC HL3 hb0);have HQ4 := ae (aC HQ3 hb0);have HB4 := ae (HB3.out.trans (hb0.mono HB3.out.size));obtain ⟨b6, hb6⟩ : ∃ b6, w3.heap.size = b6 := ⟨_, rfl⟩;have HLb46 : Hid (b4 < b6) := ae (by rw [<- hb6]; exact aS HQ3);have HLb26 : Hid (b2 < b6) := ae (by rw [<- hb6]; exact aS HP3);have HLb36 : Hid (b3 < b6) := ae (by rw [<- hb6]; exact aS HL3);have HGb6 : Hid (w.heap.size <= b6) := ae (by rw [<- hb6]; exact HB3.out.size);have HLb6 : Hid (b6 < (w3.alloc (.cells (cel aF).toArray 45)).heap.size) := ae (by rw [World.size_alloc]; omega);rw [hb6] at HX4 ⊢;clear hb6 hb0;generalize w3.alloc (.cells (cel aF).toArray 45) = w4 at *;refine ah ?_;have HJ4 : Hid (Proofs.YtdmhelalbemlcaaGreatDoor.HJ w0 H (fun b => (K b \/ b = b4) \/ b = b6) w4 p q M x) := ae (HJ.out.guard HB4 fun b e => by
  have h4 := aS HQ4;have h6 := aS HX4;have g4 := HGb4.out;have g6 := HGb6.out;rcases e with (e | e) | e
  ·exact .inl e
  ·exact .inr ⟨by omega, by omega⟩
  ·exact .inr ⟨by omega, by omega⟩)
 go_upto_region 2 with fail;refine af ?_;refine alM (aE rfl alW (ov (cell_of_row _ b2 0 _ _ _ HP4))) ?_;refine alM (bN (cs := ([.int .i64 s, .int .i64 m] : List Value)) underlying43 rfl (by kernel_rfl) rfl alW (aP HL4)) ?_;refine alM (jr rfl alW alW alW) ?_;refine ay rfl (aB call92 rfl (evc alW (evc alW (evc alW evn)))) ?_;refine (HRC.out (fun b => K b \/ b = b4) w4 b2 b3 b6 HJ4 (ar HJ.out.size HGb6) (by have := HLb26.out; omega) (by have := HLb36.out; omega) (fun b e => by
  have h4 := HLb46.out;have h6 := HGb6.out;rcases e with e | e
  ·have := HJ.out.lt e; omega
  ·omega) HP4 HL4 HX4).mono ?_
 rintro e w5 ⟨rfl, x5, q5, k5⟩;have HX5 := ae x5;have HQ5 := ae q5;have HK5 := ae k5;have HR5 := ae (k5.at_ (.inr rfl) HQ4);clear x5 q5 k5;refine aR ?_;refine aH 1 ?_;go_upto_region 3 with fail;refine af ?_;refine alM (aV (c := yb) rfl alW (aP HX5)) ?_;refine runs 1 ?_;refine aG rfl (aU (c := yb) rfl (ev rfl) (ev rfl) (bQ HR5.out)) ?_;simp only [aa];refine aH 1 ?_;go_wp2_with fail;refine bodyPost_ret (cj rfl _ _ _ rfl (World.rangeAt_setCells_same _ _ _ _ (by rw [aK]; exact bQ HR5))) rfl ⟨rfl, ?_⟩;have hk : ci K w w4 := HJ.out.kept HB4;have hq := (HQ5.out.mine (g := b4) (K' := K) (.inl (.inr rfl)) (ar HJ.out.size HGb4) ((Only.refl (fun b => b = b4) w5).setCells (b := b4) (.inl rfl) (cel yb) 0) (fun b e => ⟨.inl (.inl e), by have := HJ.out.lt e; have := HGb4.out; omega⟩) fun b e => HQ5.out.lt (.inl (.inl e)));exact ⟨hk.trans ((HK5.out.less fun b e => .inl e).trans hq.1), hq.2.1, hq.2.2⟩
theorem NoH.cells (h : NoH w v) : v.cells = #[v] := by
 rcases h with rfl | ⟨p, rfl, _⟩ <;> rfl
theorem akn {w2 : World} {ad : Addr} (h : NoH w v) (hc : w2.cell? ad = some v) : (Instr.loadAt 34 (.pointer (some ad))).run prog w2 = .ok v w2 := by
 rcases h with rfl | ⟨p, rfl, _⟩
 ·exact ov hc
 ·exact ov hc
theorem ae3 (s m : Int) (h : NoH w v) : Calls prog 114 #[v, .agg #[.int .i64 s, .int .i64 m]] w fun e w' => e = .returned (.tuple #[blk aF, .int .i64 1]) /\ Below w.heap.size w w' := by
 obtain ⟨z0, hz0⟩ : ∃ z0, z0 = w.heap.size := ⟨_, rfl⟩;rw [<- hz0];have HZ0 := ae hz0;have HN := ae h;clear hz0 h;go_enter func114, ntmps114;go_upto_region 0 with fail;refine af ?_;refine alM (fS (v := v) HN.out.cells rfl alW) ?_;have hb0 := (Below.refl w.heap.size w).alloc aj (.cells #[v] 34);have HP1 := ae (heap_alloc_new w (.cells #[v] 34));have HB1 := ae hb0;obtain ⟨b2, hb2⟩ : ∃ b2, w.heap.size = b2 := ⟨_, rfl⟩;have HGb2 : Hid (w.heap.size <= b2) := ae (by rw [<- hb2]; exact aj);have HLb2 : Hid (b2 < (w.alloc (.cells #[v] 34)).heap.size) := ae (by rw [World.size_alloc]; omega);rw [hb2] at HP1 ⊢;clear hb2 hb0;generalize w.alloc (.cells #[v] 34) = w1 at *;refine alM (ct (cs := ([.int .i64 s, .int .i64 m] : List Value)) rfl alW) ?_;have hb0 := (Below.refl w1.heap.size w1).alloc aj (.cells ([.int .i64 s, .int .i64 m] : List Value).toArray 43);have HL2 := ae (heap_alloc_new w1 (.cells ([.int .i64 s, .int .i64 m] : List Value).toArray 43));have HP2 := ae (aC HP1 hb0);have HB2 := ae (HB1.out.trans (hb0.mono HB1.out.size));obtain ⟨b3, hb3⟩ : ∃ b3, w1.heap.size = b3 := ⟨_, rfl⟩;have HGb3 : Hid (w.heap.size <= b3) := ae (by rw [<- hb3]; exact HB1.out.size);have HLb3 : Hid (b3 < (w1.alloc (.cells ([.int .i64 s, .int .i64 m] : List Value).toArray 43)).heap.size) := ae (by rw [World.size_alloc]; omega);rw [hb3] at HL2 ⊢;clear hb3 hb0;generalize w1.alloc (.cells ([.int .i64 s, .int .i64 m] : List Value).toArray 43) = w2 at *;refine alM (aX rfl) ?_;have hb0 := (Below.refl w2.heap.size w2).alloc aj (.cells (cel aF).toArray 45);have HQ3 := ae (heap_alloc_new w2 (.cells (cel aF).toArray 45));have HP3 := ae (aC HP2 hb0);have HL3 := ae (aC HL2 hb0);have HB3 := ae (HB2.out.trans (hb0.mono HB2.out.size));obtain ⟨b4, hb4⟩ : ∃ b4, w2.heap.size = b4 := ⟨_, rfl⟩;have HGb4 : Hid (w.heap.size <= b4) := ae (by rw [<- hb4]; exact HB2.out.size);have HLb4 : Hid (b4 < (w2.alloc (.cells (cel aF).toArray 45)).heap.size) := ae (by rw [World.size_alloc]; omega);rw [hb4] at HQ3 ⊢;clear hb4 hb0;generalize w2.alloc (.cells (cel aF).toArray 45) = w3 at *;refine aH 1 ?_;go_upto_region 1 with fail;refine af ?_;refine alM (aX rfl) ?_;have hb0 := (Below.refl w3.heap.size w3).alloc aj (.cells (cel aF).toArray 45);have HX4 := ae (heap_alloc_new w3 (.cells (cel aF).toArray 45));have HP4 := ae (aC HP3 hb0);have HL4 := ae (aC HL3 hb0);have HQ4 := ae (aC HQ3 hb0);have HB4 := ae (HB3.out.trans (hb0.mono HB3.out.size));obtain ⟨b6, hb6⟩ : ∃ b6, w3.heap.size = b6 := ⟨_, rfl⟩;have HGb6 : Hid (w.heap.size <= b6) := ae (by rw [<- hb6]; exact HB3.out.size);have HLb6 : Hid (b6 < (w3.alloc (.cells (cel aF).toArray 45)).heap.size) := ae (by rw [World.size_alloc]; omega);rw [hb6] at HX4 ⊢;clear hb6 hb0;generalize w3.alloc (.cells (cel aF).toArray 45) = w4 at *;refine ah ?_;go_upto_region 2 with fail;refine af ?_;refine alM (aE rfl alW (akn HN (cell_of_row _ b2 0 _ _ _ HP4))) ?_;refine alM (bN (cs := ([.int .i64 s, .int .i64 m] : List Value)) underlying43 rfl (by kernel_rfl) rfl alW (aP HL4)) ?_;refine alM (jr rfl alW alW alW) ?_;refine ay rfl (aB call92 rfl (evc alW (evc alW (evc alW evn)))) ?_;refine (uv (sv := rdF b2 b3 b6) (HN.out.below HB4)).mono ?_;rintro e w5 ⟨rfl, b5'⟩;have HX5 := ae (aC HX4 b5');have HR5 := ae (aC HQ4 b5');have HB5 := ae (HB4.out.trans (b5'.mono HB4.out.size));clear b5';refine aR ?_;refine aH 1 ?_;go_upto_region 3 with fail;refine af ?_;refine alM (aV (c := aF) rfl alW (aP HX5)) ?_;refine runs 1 ?_;refine aG rfl (aU (c := aF) rfl (ev rfl) (ev rfl) (bQ HR5.out)) ?_;simp only [aa];refine aH 1 ?_;go_wp2_with fail;exact bodyPost_ret (cj rfl _ _ _ rfl (World.rangeAt_setCells_same _ _ _ _ (by rw [aK]; exact bQ HR5))) rfl ⟨rfl, by rw [HZ0.out]; exact below_setCells HB5 HGb4 _⟩
theorem qH {s m n : Int} {y : Blk} (hr : Room M 1) (h : HJ w0 H K w p q M x) (h3 : w.heap[b3]? = some (.cells #[.pointer (some ⟨p, 0, none⟩)] 34 (0, 0))) (h4 : w.heap[b4]? = some (.cells ([.int .i64 s, .int .i64 m] : List Value).toArray 43 (0, 0))) (h5 : w.heap[b5]? = some (.cells (cel y).toArray 45 (0, 0))) : Calls prog 93 #[.int .i64 n, .pointer (some ⟨b3, 0, none⟩), .pointer (some ⟨b4, 0, none⟩), .pointer (some ⟨b5, 0, none⟩)] w fun e w' =>
  e = .returned (.int .i64 (eZ M m n)) /\ HJ w0 H K w' p q (et M m n y) x /\ ci K w w' := by
 have HJ := ae h.drew;have HRM := ae hr;have HD : Hid (Below w.heap.size w (World.drew w)) := ae (bd ak);have HKD := ae (h.kept HD);have H3 := ae (aC h3 HD);have H4 := ae (aC h4 HD);have H5 := ae (aC h5 HD);clear hr h h3 h4 h5;go_enter func93, ntmps93;go_upto_region 1 with fail;refine wp_region_still_tail 8 (by kernel_rfl) (by kernel_rfl) ?_;simp only [ac];refine aM rfl (aE rfl alW (ov ((aP H3) 0 _ rfl))) ?_;simp only [aa];refine aM rfl (bj rfl alW) ?_;simp only [aa];refine aM rfl (ax rfl alW pH) ?_;simp only [aa];refine aM rfl (aE rfl alW (wZ (PHo.c0 HJ.out.hul))) ?_;simp only [aa];refine aM rfl (ax rfl alW vF) ?_;simp only [aa];refine aM rfl (aE rfl alW (bV ((aP H4) 1 _ rfl))) ?_;simp only [aa];refine aM rfl (aL rfl alW) ?_;simp only [aa];refine aM rfl (aV rfl alW (aP H5)) ?_;simp only [aa];refine wpStill_nil ?_;change wpList _ _ _ _ _ (World.drew _);refine ay rfl (aB call94 rfl (evc alW (evc alW (evc alW (evc alW evn))))) ?_;refine (HJ.out.write m n y HRM).mono ?_;rintro e w2 ⟨rfl, j2, k2⟩;refine aR ?_;refine aH 1 ?_;go_wp2_with fail;go_ret;exact ⟨rfl, j2, HKD.out.trans k2⟩
def wrF (b3 b4 b5 : Nat) : Fu := ⟨93, [.pointer (some ⟨b3, 0, none⟩), .pointer (some ⟨b4, 0, none⟩), .pointer (some ⟨b5, 0, none⟩)], call93⟩
theorem q9 {s m : Int} {y : Blk} (hf : bi x.R = true) (hid : x.id ≠ 0 /\ x.id < 18446744073709551616) (hr : Room M 600) (he : x.us <= 4611686018427387000) (hs : x.ev = x.us) (h : HJ w0 H K w p q M x) (h3 : w.heap[b3]? = some (.cells #[.pointer (some ⟨p, 0, none⟩)] 34 (0, 0))) (h4 : w.heap[b4]? = some (.cells ([.int .i64 s, .int .i64 m] : List Value).toArray 43 (0, 0))) (h5 : w.heap[b5]? = some (.cells (cel y).toArray 45 (0, 0))) : Calls prog 92 #[.pointer (some ⟨p, 0, none⟩), .agg #[.int .i64 s, .int .i64 m], (wrF b3 b4 b5).val] w fun e w' =>
  e = .returned (.int .i64 (qz ⟨M, x.id, x.us, x.R⟩ s m)) /\ HuQ w0 H K w p q x (re ⟨M, x.id, x.us, x.R⟩ s m y) (aa7 ⟨M, x.id, x.us, x.R⟩ s m) w' := by
 have hgb : dW x.R = true := by have hf' := hf; unfold bi at hf'; simp only [Bool.and_eq_true] at hf'; exact hf'.1.1.1
 cases hE : iQ x.R s m with
 |some E =>
  obtain ⟨c1, c3, c4⟩ := aho (h := ⟨M, x.id, x.us, x.R⟩) (b := y) hE;refine (uo (sv := wrF b3 b4 b5) hgb hE h.hul).mono ?_;rintro e w2 ⟨rfl, b⟩;rw [c1, c3];exact ⟨rfl, HuQ.of (h.below b) (h.kept b) hs hf c4⟩
 |none =>
  by_cases h9 : eZ M m (2 + s) = 9
  ·obtain ⟨c1, c3, c4⟩ := adE (h := ⟨M, x.id, x.us, x.R⟩) (b := y) hE h9;rw [c1, c3];refine (qO (w0 := w0) (H := H) (K := K) (M := M) (sv := wrF b3 b4 b5) (fun E w' => E = 9 /\ HJ w0 H K w' p q M x /\ ci K w w') hf hid hr he hE h.hul (fun w1 hb => ?_) (fun w' hw => hw.2.1)).mono ?_
   ·refine (qH (s := s) (m := m) (n := 2 + s) (dy hr (by omega)) (h.below hb) (aC h3 hb) (aC h4 hb) (aC h5 hb)).mono ?_;rintro e w2 ⟨rfl, j2, k2⟩;rw [agZ h9] at j2;exact ⟨_, rfl, h9, j2, (h.kept hb).trans k2⟩
   ·rintro e w2 (⟨E, e9, _, e9', _⟩ | ⟨w3, ⟨_, j3, kk⟩, rfl, q3⟩)
    ·exact absurd e9' e9
    ·exact ⟨rfl, HuQ.sv (q3.from kk) c4⟩
  ·obtain ⟨c1, c3, c4⟩ := acH (h := ⟨M, x.id, x.us, x.R⟩) (b := y) hE h9;rw [c1, c3];refine (qO (w0 := w0) (H := H) (K := K) (M := M) (sv := wrF b3 b4 b5) (fun E w' => E = eZ M m (2 + s) /\ HJ w0 H K w' p q (et M m (2 + s) y) x /\ ci K w w') hf hid hr he hE h.hul (fun w1 hb => ?_) (fun w' hw => absurd hw.1.symm h9)).mono ?_
   ·refine (qH (s := s) (m := m) (n := 2 + s) (dy hr (by omega)) (h.below hb) (aC h3 hb) (aC h4 hb) (aC h5 hb)).mono ?_;rintro e w2 ⟨rfl, j2, k2⟩;exact ⟨_, rfl, rfl, j2, (h.kept hb).trans k2⟩
   ·rintro e w2 (⟨E, e9, rfl, rfl, j2, kk⟩ | ⟨w3, ⟨e9, _⟩, _⟩)
    ·exact ⟨rfl, HuQ.of j2 kk hs hf c4⟩
    ·exact absurd e9.symm h9
theorem adM (s m : Int) (y : Blk) (hf : bi x.R = true) (hid : x.id ≠ 0 /\ x.id < 18446744073709551616) (hr : Room M 600) (he : x.us <= 4611686018427387000) (hs : x.ev = x.us) (h : HJ w0 H K w p q M x) : Calls prog 38 #[.pointer (some ⟨p, 0, none⟩), .agg #[.int .i64 s, .int .i64 m], blk y] w fun e w' =>
  e = .returned (.int .i64 (abX ⟨M, x.id, x.us, x.R⟩ s m y)) /\ HuQ w0 H K w p q x (re ⟨M, x.id, x.us, x.R⟩ s m y) (aa7 ⟨M, x.id, x.us, x.R⟩ s m) w' := by
 have HRC := ae (fun (w3 : World) (b3 b4 b5 : Nat) => q9 (p := p) (q := q) (w0 := w0) (H := H) (K := K) (w := w3) (b3 := b3) (b4 := b4) (b5 := b5) (s := s) (m := m) (y := y) hf hid hr he hs);have HMP := ae (ahb (h := ⟨M, x.id, x.us, x.R⟩) (s := s) (m := m) (b := y));have HJ := ae h;obtain ⟨z0, hz0⟩ : ∃ z0 : HuS, (⟨M, x.id, x.us, x.R⟩ : HuS) = z0 := ⟨_, rfl⟩;rw [hz0] at HRC HMP ⊢;obtain ⟨ce, hce⟩ : ∃ ce, qz z0 s m = ce := ⟨_, rfl⟩;rw [hce] at HMP;have HCE := ae hce;clear hf hid hr he hs h hz0 hce;go_enter func38, ntmps38;go_upto_region 0 with fail;refine af ?_;refine alM (fS (v := .pointer (some ⟨p, 0, none⟩)) rfl rfl alW) ?_;have hb0 := (Below.refl w.heap.size w).alloc aj (.cells #[.pointer (some ⟨p, 0, none⟩)] 34);have HP1 := ae (heap_alloc_new w (.cells #[.pointer (some ⟨p, 0, none⟩)] 34));have HB1 := ae hb0;obtain ⟨b3, hb3⟩ : ∃ b3, w.heap.size = b3 := ⟨_, rfl⟩;have HGb3 : Hid (w.heap.size <= b3) := ae (by rw [<- hb3]; exact aj);have HLb3 : Hid (b3 < (w.alloc (.cells #[.pointer (some ⟨p, 0, none⟩)] 34)).heap.size) := ae (by rw [World.size_alloc]; omega);rw [hb3] at HP1 ⊢;clear hb3 hb0;generalize w.alloc (.cells #[.pointer (some ⟨p, 0, none⟩)] 34) = w1 at *;refine alM (ct (cs := ([.int .i64 s, .int .i64 m] : List Value)) rfl alW) ?_;have hb0 := (Below.refl w1.heap.size w1).alloc aj (.cells ([.int .i64 s, .int .i64 m] : List Value).toArray 43);have HL2 := ae (heap_alloc_new w1 (.cells ([.int .i64 s, .int .i64 m] : List Value).toArray 43));have HP2 := ae (aC HP1 hb0);have HB2 := ae (HB1.out.trans (hb0.mono HB1.out.size));obtain ⟨b4, hb4⟩ : ∃ b4, w1.heap.size = b4 := ⟨_, rfl⟩;have HGb4 : Hid (w.heap.size <= b4) := ae (by rw [<- hb4]; exact HB1.out.size);have HLb4 : Hid (b4 < (w1.alloc (.cells ([.int .i64 s, .int .i64 m] : List Value).toArray 43)).heap.size) := ae (by rw [World.size_alloc]; omega);rw [hb4] at HL2 ⊢;clear hb4 hb0;generalize w1.alloc (.cells ([.int .i64 s, .int .i64 m] : List Value).toArray 43) = w2 at *;refine alM (cm (c := y) rfl alW) ?_;have hb0 := (Below.refl w2.heap.size w2).alloc aj (.cells (cel y).toArray 45);have HX3 := ae (heap_alloc_new w2 (.cells (cel y).toArray 45));have HP3 := ae (aC HP2 hb0);have HL3 := ae (aC HL2 hb0);have HB3 := ae (HB2.out.trans (hb0.mono HB2.out.size));obtain ⟨b5, hb5⟩ : ∃ b5, w2.heap.size = b5 := ⟨_, rfl⟩;have HGb5 : Hid (w.heap.size <= b5) := ae (by rw [<- hb5]; exact HB2.out.size);have HLb5 : Hid (b5 < (w2.alloc (.cells (cel y).toArray 45)).heap.size) := ae (by rw [World.size_alloc]; omega);rw [hb5] at HX3 ⊢;clear hb5 hb0;generalize w2.alloc (.cells (cel y).toArray 45) = w3 at *;refine aH 1 ?_;go_upto_region 1 with fail;refine af ?_;refine alM (aE rfl alW (ov (cell_of_row _ b3 0 _ _ _ HP3))) ?_;refine alM (bN (cs := ([.int .i64 s, .int .i64 m] : List Value)) underlying43 rfl (by kernel_rfl) rfl alW (aP HL3)) ?_;refine alM (jr rfl alW alW alW) ?_;refine ay rfl (aB call92 rfl (evc alW (evc alW (evc alW evn)))) ?_;refine (HRC.out w3 b3 b4 b5 (HJ.out.below HB3) HP3 HL3 HX3).mono ?_;rintro e w4 ⟨rfl, q4⟩;rw [HCE.out];have HQ4 := ae (q4.from (HJ.out.kept HB3));clear q4;refine aR ?_;refine aH 1 ?_;by_cases h7 : ce = 7
 ·subst h7;have HWE : Hid (abX z0 s m y = 0) := ae (by rw [<- HMP.out, if_pos rfl]);go_upto_region 2 with fail;refine aJ 1 ?_;refine alM (aI true rfl alW evk rfl) ?_;refine ah ?_;go_upto_region 3 with fail;refine cC 1 ?_;go_wp2_with fail;go_ret;exact ⟨by rw [HWE.out]; rfl, HQ4⟩
 have H7 : Hid ((ce == 7) = false) := ae (av h7);have HWE : Hid (abX z0 s m y = ce) := ae (by rw [<- HMP.out, if_neg h7]);clear h7;go_upto_region 2 with fail;refine aJ 1 ?_;refine alM (aI false rfl alW evk H7) ?_;refine ah ?_;go_upto_region 4 with fail;refine cC 2 ?_;go_wp2_with fail;go_ret;exact ⟨by rw [HWE.out]; rfl, HQ4⟩
theorem aa3 (s m : Int) (y : Blk) (h : NoH w v) : Calls prog 38 #[v, .agg #[.int .i64 s, .int .i64 m], blk y] w fun e w' => e = .returned (.int .i64 1) /\ Below w.heap.size w w' := by
 obtain ⟨z0, hz0⟩ : ∃ z0, z0 = w.heap.size := ⟨_, rfl⟩;rw [<- hz0];have HZ0 := ae hz0;have HN := ae h;clear hz0 h;go_enter func38, ntmps38;go_upto_region 0 with fail;refine af ?_;refine alM (fS (v := v) HN.out.cells rfl alW) ?_;have hb0 := (Below.refl w.heap.size w).alloc aj (.cells #[v] 34);have HP1 := ae (heap_alloc_new w (.cells #[v] 34));have HB1 := ae hb0;obtain ⟨b3, hb3⟩ : ∃ b3, w.heap.size = b3 := ⟨_, rfl⟩;have HGb3 : Hid (w.heap.size <= b3) := ae (by rw [<- hb3]; exact aj);have HLb3 : Hid (b3 < (w.alloc (.cells #[v] 34)).heap.size) := ae (by rw [World.size_alloc]; omega);rw [hb3] at HP1 ⊢;clear hb3 hb0;generalize w.alloc (.cells #[v] 34) = w1 at *;refine alM (ct (cs := ([.int .i64 s, .int .i64 m] : List Value)) rfl alW) ?_;have hb0 := (Below.refl w1.heap.size w1).alloc aj (.cells ([.int .i64 s, .int .i64 m] : List Value).toArray 43);have HL2 := ae (heap_alloc_new w1 (.cells ([.int .i64 s, .int .i64 m] : List Value).toArray 43));have HP2 := ae (aC HP1 hb0);have HB2 := ae (HB1.out.trans (hb0.mono HB1.out.size));obtain ⟨b4, hb4⟩ : ∃ b4, w1.heap.size = b4 := ⟨_, rfl⟩;have HGb4 : Hid (w.heap.size <= b4) := ae (by rw [<- hb4]; exact HB1.out.size);have HLb4 : Hid (b4 < (w1.alloc (.cells ([.int .i64 s, .int .i64 m] : List Value).toArray 43)).heap.size) := ae (by rw [World.size_alloc]; omega);rw [hb4] at HL2 ⊢;clear hb4 hb0;generalize w1.alloc (.cells ([.int .i64 s, .int .i64 m] : List Value).toArray 43) = w2 at *;refine alM (cm (c := y) rfl alW) ?_;have hb0 := (Below.refl w2.heap.size w2).alloc aj (.cells (cel y).toArray 45);have HX3 := ae (heap_alloc_new w2 (.cells (cel y).toArray 45));have HP3 := ae (aC HP2 hb0);have HL3 := ae (aC HL2 hb0);have HB3 := ae (HB2.out.trans (hb0.mono HB2.out.size));obtain ⟨b5, hb5⟩ : ∃ b5, w2.heap.size = b5 := ⟨_, rfl⟩;have HGb5 : Hid (w.heap.size <= b5) := ae (by rw [<- hb5]; exact HB2.out.size);have HLb5 : Hid (b5 < (w2.alloc (.cells (cel y).toArray 45)).heap.size) := ae (by rw [World.size_alloc]; omega);rw [hb5] at HX3 ⊢;clear hb5 hb0;generalize w2.alloc (.cells (cel y).toArray 45) = w3 at *;refine aH 1 ?_;go_upto_region 1 with fail;refine af ?_;refine alM (aE rfl alW (akn HN (cell_of_row _ b3 0 _ _ _ HP3))) ?_;refine alM (bN (cs := ([.int .i64 s, .int .i64 m] : List Value)) underlying43 rfl (by kernel_rfl) rfl alW (aP HL3)) ?_;refine alM (jr rfl alW alW alW) ?_;refine ay rfl (aB call92 rfl (evc alW (evc alW (evc alW evn)))) ?_;refine (uv (sv := wrF b3 b4 b5) (HN.out.below HB3)).mono ?_;rintro e w4 ⟨rfl, b4'⟩;have HB4 := ae (HB3.out.trans (b4'.mono HB3.out.size));clear b4';refine aR ?_;refine aH 1 ?_;go_upto_region 2 with fail;refine aJ 1 ?_;refine alM (aI false rfl alW evk rfl) ?_;refine ah ?_;go_upto_region 4 with fail;refine cC 2 ?_;go_wp2_with fail;go_ret;exact ⟨rfl, by rw [HZ0.out]; exact HB4⟩
end
theorem ahW : (prog.info? 136).map (fun i => i.zero) = some (some (.agg (phC none ⟨0, 0, 0, bY⟩).toArray)) := by kernel_rfl
section
variable {ρ : Operand -> Value} {o : Oper} {x1 x2 x3 x4 x5 : Operand} {w : World} {q : Nat} {y : HpS}
theorem abg (q : Nat) (y : HpS) : (Instr.build 136 #[(0, .pointer (some ⟨q, 0, none⟩)), (1, .int .u64 (y.id : Int)), (2, .int .u64 (y.ev : Int)), (3, ros y.R), (4, .int .u64 (y.us : Int))]).run prog w = .ok (.agg (phC (some ⟨q, 0, none⟩) y).toArray) w := by
 have hz := gB ahW w;have h0 := dm (place := fun i => (#[(0, 1), (1, 1), (2, 1), (3, 21), (24, 1)] : Array (Nat × Nat))[i]?) (i := 0) (off := 0) (size := 1) (v := .pointer (some ⟨q, 0, none⟩)) (pre := []) (mid := [.pointer none]) (post := .int .u64 0 :: .int .u64 0 :: (a7 bY ++ [.int .u64 0])) (vs := [.pointer (some ⟨q, 0, none⟩)]) (rest := [(1, .int .u64 (y.id : Int)), (2, .int .u64 (y.ev : Int)), (3, ros y.R), (4, .int .u64 (y.us : Int))]) rfl rfl rfl rfl rfl;have h1 := dm (place := fun i => (#[(0, 1), (1, 1), (2, 1), (3, 21), (24, 1)] : Array (Nat × Nat))[i]?) (i := 1) (off := 1) (size := 1) (v := .int .u64 (y.id : Int)) (pre := [.pointer (some ⟨q, 0, none⟩)]) (mid := [.int .u64 0]) (post := .int .u64 0 :: (a7 bY ++ [.int .u64 0])) (vs := [.int .u64 (y.id : Int)]) (rest := [(2, .int .u64 (y.ev : Int)), (3, ros y.R), (4, .int .u64 (y.us : Int))]) rfl rfl rfl rfl rfl;have h2 := dm (place := fun i => (#[(0, 1), (1, 1), (2, 1), (3, 21), (24, 1)] : Array (Nat × Nat))[i]?) (i := 2) (off := 2) (size := 1) (v := .int .u64 (y.ev : Int)) (pre := [.pointer (some ⟨q, 0, none⟩), .int .u64 (y.id : Int)]) (mid := [.int .u64 0]) (post := a7 bY ++ [.int .u64 0]) (vs := [.int .u64 (y.ev : Int)]) (rest := [(3, ros y.R), (4, .int .u64 (y.us : Int))]) rfl rfl rfl rfl rfl;have h3 := dm (place := fun i => (#[(0, 1), (1, 1), (2, 1), (3, 21), (24, 1)] : Array (Nat × Nat))[i]?) (i := 3) (off := 3) (size := 21) (v := ros y.R) (pre := [.pointer (some ⟨q, 0, none⟩), .int .u64 (y.id : Int), .int .u64 (y.ev : Int)]) (mid := a7 bY) (post := [.int .u64 0]) (vs := a7 y.R) (rest := [(4, .int .u64 (y.us : Int))]) rfl rfl (bK y.R) rfl (bK bY);have h4 := dm (place := fun i => (#[(0, 1), (1, 1), (2, 1), (3, 21), (24, 1)] : Array (Nat × Nat))[i]?) (i := 4) (off := 24) (size := 1) (v := .int .u64 (y.us : Int)) (pre := .pointer (some ⟨q, 0, none⟩) :: .int .u64 (y.id : Int) :: .int .u64 (y.ev : Int) :: a7 y.R) (mid := [.int .u64 0]) (post := []) (vs := [.int .u64 (y.us : Int)]) (rest := []) rfl rfl rfl (show (Value.pointer (some ⟨q, 0, none⟩) :: Value.int .u64 (y.id : Int) :: Value.int .u64 (y.ev : Int) :: a7 y.R).length = 24 by rw [List.length_cons, List.length_cons, List.length_cons, bK]) rfl;simp only [List.nil_append, List.append_nil, List.cons_append] at h0 h1 h2 h3 h4;have h6 := h0.trans (h1.trans (h2.trans (h3.trans h4)));have hz' : (zeroValue 136).run prog w = .ok (.agg (.pointer none :: .int .u64 0 :: .int .u64 0 :: (a7 bY ++ [.int .u64 0])).toArray) w := hz;have hc : (Value.agg (.pointer none :: .int .u64 0 :: .int .u64 0 :: (a7 bY ++ [.int .u64 0])).toArray).cells = (.pointer none :: .int .u64 0 :: .int .u64 0 :: (a7 bY ++ [.int .u64 0])).toArray := rfl;simp only [Instr.build, Sem.run_bind, hz', run_underlying underlying136, Result.andThen_ok, hc];refine Eq.trans (congrArg (fun r => Result.andThen r _) (?h : _ = Result.ok #[(0, 1), (1, 1), (2, 1), (3, 21), (24, 1)] w)) ?_
 case h => kernel_rfl
 simp only [Result.andThen_ok];have h5 : Instr.fill (fun i => (#[(0, 1), (1, 1), (2, 1), (3, 21), (24, 1)] : Array (Nat × Nat))[i]?) (phC (some ⟨q, 0, none⟩) y).toArray [] = some (phC (some ⟨q, 0, none⟩) y).toArray := by rw [Instr.fill]
 rw [h6.trans h5]
 rfl
theorem wV (ho : o.op = .build 136 #[(0, x1), (1, x2), (2, x3), (3, x4), (4, x5)]) (h1 : ρ x1 = .pointer (some ⟨q, 0, none⟩)) (h2 : ρ x2 = .int .u64 (y.id : Int)) (h3 : ρ x3 = .int .u64 (y.ev : Int)) (h4 : ρ x4 = ros y.R) (h5 : ρ x5 = .int .u64 (y.us : Int)) : (execOp ρ o).run prog w = .ok (.value (.agg (phC (some ⟨q, 0, none⟩) y).toArray)) w := by
 unfold execOp;simp only [ho, h1, h2, h3, h4, h5, List.map_toArray, List.map_cons, List.map_nil, Sem.run_bind, abg, Result.andThen_ok, Sem.run_pure]
end
section
variable {w : World} {F : Nat -> Prop} {q : Nat} {M : aZ}
def pu (M : aZ) (x : Ros) : Bool := decide ((M.ds.length : Int) = x.m + 1) && mG M x x.m.toNat
theorem zr (x : Ros) (hg : dW x = true) (hb : bL.Bn w F q M) : Calls prog 77 #[.pointer (some ⟨q, 0, none⟩), geo x] w fun e w' => e = .returned (.bool (pu M x)) /\ Below w.heap.size w w' := by
 obtain ⟨z0, hz0⟩ : ∃ z0, z0 = w.heap.size := ⟨_, rfl⟩;rw [<- hz0];have HZ0 := ae hz0;obtain ⟨g1, g2, g3, g4, _⟩ := iA.1 hg;obtain ⟨N, hN⟩ : ∃ N : Nat, x.m = (N : Int) := ⟨x.m.toNat, by omega⟩;have hN' : x.m.toNat = N := by rw [hN]; rfl
 obtain ⟨fb, hfb⟩ : ∃ fb, pu M x = fb := ⟨_, rfl⟩;rw [hfb];have HFB : Hid ((decide ((M.ds.length : Int) = x.m + 1) && mG M x N) = fb) := ae (by rw [<- hfb]; unfold pu; rw [hN']);have HN := ae hN;have HN16 : Hid (N <= 16) := ae (by omega);have HWA : Hid (IntKind.i64.wrap (x.m + 1) = x.m + 1) := ae (eF ⟨by omega, by omega⟩);have HWS : Hid (IntKind.i64.wrap (x.s - 1) = x.s - 1) := ae (eF ⟨by omega, by omega⟩);have hh : has 64 (x.s - 1) = true := gK.2 (by omega);have HSN : Hid (abT (x.s - 1) = x.s + 1) := ae (by unfold abT; rw [if_pos hh]; omega);have HSE : Hid (abo (x.s - 1) = 0) := ae (by unfold abo; rw [if_pos hh]);have hb0 := (Below.refl w.heap.size w).alloc aj (.cells (el x).toArray 24);have HG := ae (heap_alloc_new w (.cells (el x).toArray 24));have HB := ae hb0;have HBN := ae (bL.below hb hb0);clear hz0 g1 g2 g3 g4 hN hN' hfb hh hg hb hb0;go_enter func77, ntmps77;go_upto_region 0 with fail;refine af ?_;refine alM (nk (y := x) rfl alW) ?_;generalize w.alloc (.cells (el x).toArray 24) = w1 at *;refine aH 1 ?_;cases hd : decide ((M.ds.length : Int) = x.m + 1)
 ·have HNE : Hid (((M.ds.length : Int) != x.m + 1) = true) := ae (bne_iff_ne.2 (of_decide_eq_false hd));have HFF : Hid (fb = false) := ae (by rw [<- HFB.out, hd]; rfl);clear hd;go_upto_region 1 with fail;refine aT (B := w1.heap.size) (by kernel_rfl) ?_;refine cT 1 ?_;refine ch rfl (fun _ => aB call75 rfl (evc alW evn)) (bO aj fun _ hw => bL.devices (bL.below HBN hw)) ?_;simp only [aa];refine alU (fun _ hw => ax rfl alW pl) ?_;refine alU (fun _ hw => aE rfl alW (bV ((aP (aC HG hw)) 0 _ rfl))) ?_;refine alU (fun _ hw => bP rfl alW evk HWA) ?_;refine alU (fun _ hw => aN true rfl alW alW HNE) ?_;refine wpQuiet_nil ?_;intro w2 hw;have HB2 := ae (HB.out.trans (hw.mono HB.out.size));have HG2 := ae (aC HG hw);have HBN2 := ae (bL.below HBN hw);clear hw;go_upto_region 2 with fail;refine cC 1 ?_;go_wp2_with fail;go_ret;exact ⟨by rw [HFF.out]; rfl, by rw [HZ0.out]; exact HB2⟩
 have HNE : Hid (((M.ds.length : Int) != x.m + 1) = false) := ae (by rw [of_decide_eq_true hd]; simp);have HFF : Hid (mG M x N = fb) := ae (by rw [<- HFB.out, hd]; rfl);clear hd;go_upto_region 1 with fail;refine aT (B := w1.heap.size) (by kernel_rfl) ?_;refine cT 1 ?_;refine ch rfl (fun _ => aB call75 rfl (evc alW evn)) (bO aj fun _ hw => bL.devices (bL.below HBN hw)) ?_;simp only [aa];refine alU (fun _ hw => ax rfl alW pl) ?_;refine alU (fun _ hw => aE rfl alW (bV ((aP (aC HG hw)) 0 _ rfl))) ?_;refine alU (fun _ hw => bP rfl alW evk HWA) ?_;refine alU (fun _ hw => aN false rfl alW alW HNE) ?_;refine wpQuiet_nil ?_;intro w2 hw;have HB2 := ae (HB.out.trans (hw.mono HB.out.size));have HG2 := ae (aC HG hw);have HBN2 := ae (bL.below HBN hw);clear hw;go_upto_region 3 with fail;refine af ?_;refine alM (ax rfl alW adf) ?_;refine alM (aE rfl alW (bV ((aP HG2) 1 _ rfl))) ?_;refine alM (ad9 rfl alW evk HWS) ?_;refine ay rfl (aB call128 rfl (evc alW evn)) ?_;refine (nQ (x.s - 1) w2).mono ?_;rintro e w3 ⟨rfl, b3⟩;rw [HSN.out, HSE.out];have HB3 := ae (HB2.out.trans (b3.mono HB2.out.size));have HG3 := ae (aC HG2 b3);have HBN3 := ae (bL.below HBN2 b3);clear b3;refine aR ?_;refine runs 3 ?_;refine aH 2 ?_;go_upto_region 4 with fail;refine af ?_;refine alM (ax rfl alW pl) ?_;refine alM (aE rfl alW (bV (k := (N : Int)) (by rw [<- HN.out]; exact (aP HG3) 0 _ rfl))) ?_;refine aH 1 ?_;go_wp2_with fail
 go_loopw [23] (fun z wr => ∃ i : Nat, z = .int .i64 i /\ i <= N /\ Below w.heap.size w wr /\ bL.Bn wr F q M /\ mG M x i = true) (fun z _ => N - (intOf z).toNat)
 case atStart => exact ⟨0, by go_num, Nat.zero_le _, HB3, HBN3, rfl⟩
 case round =>
  obtain ⟨i, rfl, hi, hb, hn, hs⟩ := hrel;have HBr := ae hb;have HNr := ae hn;have HSr := ae hs;clear hb hn hs HB3 HG3 HBN3;by_cases hlt : i < N
  ·have HI := ae hlt;have HLT : Hid (decide ((i : Int) < (N : Int)) = true) := ae (ao (by omega));have HIA : Hid (IntKind.i64.wrap ((i : Int) + 1) = ((i + 1 : Nat) : Int)) := ae (by have := HN16.out; rw [eF ⟨by omega, by omega⟩]; omega);clear hi hlt;go_upto_region 5 with fail;refine af ?_;refine alM (aY true rfl alW alW HLT) ?_;refine ah ?_;go_upto_region 6 with fail;refine cC 2 ?_;go_upto_region 7 with fail;refine aJ 2 ?_;refine ay rfl (aB call129 rfl (evc alW (evc alW evn))) ?_;refine (bL.gd (i : Int) HNr).mono ?_;rintro e w5 ⟨rfl, b5⟩;have HB5 := ae (HBr.out.trans (b5.mono HBr.out.size));have HN5 := ae (bL.below HNr b5);clear b5;refine aR ?_;refine runs 1 ?_;by_cases hse : iV M (i : Int) < 2 + x.s
   ·have HLE : Hid (decide (iV M (i : Int) <= x.s + 1) = true) := ae (ao (by omega));have HF2 : Hid (fb = false) := ae (by rw [<- HFF.out]; exact tI hse HI);clear hse;refine alM (jy true rfl alW alW HLE) ?_;refine ah ?_;go_upto_region 8 with fail;refine cC 1 ?_;go_wp2_with fail;go_ret;exact ⟨by rw [HF2.out]; rfl, by rw [HZ0.out]; exact HB5⟩
   have HLE : Hid (decide (iV M (i : Int) <= x.s + 1) = false) := ae (am (by omega));have HS1 := ae (nq HSr hse);clear hse;refine alM (jy false rfl alW alW HLE) ?_;refine ah ?_;go_upto_region 9 with fail;refine af ?_;refine alM (bP rfl alW evk HIA) ?_;refine aH 1 ?_;go_wp2_with fail;go_roundw
   case rel => exact ⟨i + 1, by go_num, HI, HB5, HN5, HS1⟩
   case measure => have := HI.out; simp [intOf]; omega
  have hin : i = N := by omega
  subst hin;have HLT : Hid (decide ((i : Int) < (i : Int)) = false) := ae (am (by omega));have HF2 : Hid (fb = true) := ae (by rw [<- HFF.out]; exact HSr);clear hi hlt;go_upto_region 5 with fail;refine af ?_;refine alM (aY false rfl alW alW HLT) ?_;refine ah ?_;go_upto_region 10 with fail;refine aJ 1 ?_;refine alM (aI true rfl alW evk rfl) ?_;refine aH 1 ?_;go_wp2_with fail;go_ret;exact ⟨by rw [HF2.out]; rfl, by rw [HZ0.out]; exact HBr⟩
theorem lz (M : aZ) (id en : Nat) (x : Ros) : gU M id en x = (!decide (id = 0) && (!decide (2305843009213693952 < en) && (bi x && pu M x))) := rfl
def rU (w : World) (q : Nat) (M : aZ) (id en : Nat) (x : Ros) (e : Ending) (w' : World) : Prop :=
 Below w.heap.size w w' /\ ((gU M id en x = true /\ ∃ p, e = .returned (.tuple #[.pointer (some ⟨p, 0, none⟩), .int .i64 0]) /\ PHu w' p q ⟨id, en, en, x⟩ /\ w.heap.size <= p) \/ (gU M id en x = false /\ e = .returned (.tuple #[.pointer none, .int .i64 2])))
theorem afA (id en : Nat) (x : Ros) (hb : bL.Bn w F q M) (h0 : id = 0) : Calls prog 31 #[.pointer (some ⟨q, 0, none⟩), .int .u64 (id : Int), .int .u64 (en : Int), ros x] w (rU w q M id en x) := by
 have hb0 := (Below.refl w.heap.size w).alloc aj (.cells (a7 x).toArray 86);have HR1 := ae (bW.new w x);have HB1 := ae hb0;have HBN := ae (bL.below hb hb0);have HD : Hid (((M.ds.length : Int) == 0) = false) := ae (by have := (bL.wf hb).one; exact av (by omega));have HI0 : Hid (((id : Int) == 0) = true) := ae (by rw [h0]; rfl);have HNO : Hid (gU M id en x = false) := ae (by rw [lz, ao h0]; rfl);clear h0;clear hb hb0;go_enter func31, ntmps31;go_upto_region 0 with fail;refine af ?_;refine alM (br rfl alW) ?_;generalize w.alloc (.cells (a7 x).toArray 86) = w1 at *;refine aH 2 ?_;go_upto_region 1 with fail;refine aJ 1 ?_;refine ay rfl (aB call75 rfl (evc alW evn)) ?_;refine (bL.devices HBN).mono ?_;rintro e w2 ⟨rfl, b2⟩;have HB2 := ae (HB1.out.trans (b2.mono HB1.out.size));have HR2 : Hid (bW w2 w.heap.size x) := ae (aC HR1 b2);have HBN2 := ae (bL.below HBN b2);clear b2;refine aR ?_;refine alM (aI false rfl alW evk HD) ?_;refine ah ?_;go_upto_region 3 with fail;refine aJ 1 ?_;refine alM (aI true rfl alW evk HI0) ?_;refine bq 2 rfl (aL rfl alW) (by kernel_rfl) ?_;simp only [bX, ac, aa];refine runs 1 ?_;refine bq 3 rfl (aL rfl alW) (by kernel_rfl) ?_;simp only [bX, ac, aa];refine runs 1 ?_;refine bq 5 rfl (aL rfl alW) (by kernel_rfl) ?_;simp only [bX, ac, aa];refine aH 1 ?_;go_upto_region 4 with fail;refine cC 2 ?_;go_wp2_with fail;go_ret2;exact ⟨HB2, .inr ⟨HNO, rfl⟩⟩
theorem ags (id en : Nat) (x : Ros) (hb : bL.Bn w F q M) (h0 : id ≠ 0) (h1 : 2305843009213693952 < en) : Calls prog 31 #[.pointer (some ⟨q, 0, none⟩), .int .u64 (id : Int), .int .u64 (en : Int), ros x] w (rU w q M id en x) := by
 have hb0 := (Below.refl w.heap.size w).alloc aj (.cells (a7 x).toArray 86);have HR1 := ae (bW.new w x);have HB1 := ae hb0;have HBN := ae (bL.below hb hb0);have HD : Hid (((M.ds.length : Int) == 0) = false) := ae (by have := (bL.wf hb).one; exact av (by omega));have HI0 : Hid (((id : Int) == 0) = false) := ae (av (by omega));have HE0 : Hid (decide ((2305843009213693952 : Int) < (en : Int)) = true) := ae (ao (by omega));have HNO : Hid (gU M id en x = false) := ae (by rw [lz, ao h1]; simp);clear h0 h1;clear hb hb0;go_enter func31, ntmps31;go_upto_region 0 with fail;refine af ?_;refine alM (br rfl alW) ?_;generalize w.alloc (.cells (a7 x).toArray 86) = w1 at *;refine aH 2 ?_;go_upto_region 1 with fail;refine aJ 1 ?_;refine ay rfl (aB call75 rfl (evc alW evn)) ?_;refine (bL.devices HBN).mono ?_;rintro e w2 ⟨rfl, b2⟩;have HB2 := ae (HB1.out.trans (b2.mono HB1.out.size));have HR2 : Hid (bW w2 w.heap.size x) := ae (aC HR1 b2);have HBN2 := ae (bL.below HBN b2);clear b2;refine aR ?_;refine alM (aI false rfl alW evk HD) ?_;refine ah ?_;go_upto_region 3 with fail;refine aJ 1 ?_;refine alM (aI false rfl alW evk HI0) ?_;refine runs 2 ?_;refine alT (ey true rfl alW evk HE0) ?_;refine runs 1 ?_;refine bq 3 rfl (aL rfl alW) (by kernel_rfl) ?_;simp only [bX, ac, aa];refine runs 1 ?_;refine bq 5 rfl (aL rfl alW) (by kernel_rfl) ?_;simp only [bX, ac, aa];refine aH 1 ?_;go_upto_region 4 with fail;refine cC 2 ?_;go_wp2_with fail;go_ret2;exact ⟨HB2, .inr ⟨HNO, rfl⟩⟩
theorem afu (id en : Nat) (x : Ros) (hb : bL.Bn w F q M) (h0 : id ≠ 0) (h1 : ¬ 2305843009213693952 < en) (h2 : bi x = false) : Calls prog 31 #[.pointer (some ⟨q, 0, none⟩), .int .u64 (id : Int), .int .u64 (en : Int), ros x] w (rU w q M id en x) := by
 have hb0 := (Below.refl w.heap.size w).alloc aj (.cells (a7 x).toArray 86);have HR1 := ae (bW.new w x);have HB1 := ae hb0;have HBN := ae (bL.below hb hb0);have HD : Hid (((M.ds.length : Int) == 0) = false) := ae (by have := (bL.wf hb).one; exact av (by omega));have HI0 : Hid (((id : Int) == 0) = false) := ae (av (by omega));have HE0 : Hid (decide ((2305843009213693952 : Int) < (en : Int)) = false) := ae (am (by omega));have HM := ae h2;have HNO : Hid (gU M id en x = false) := ae (by rw [lz, h2]; simp);clear h0 h1 h2;clear hb hb0;go_enter func31, ntmps31;go_upto_region 0 with fail;refine af ?_;refine alM (br rfl alW) ?_;generalize w.alloc (.cells (a7 x).toArray 86) = w1 at *;refine aH 2 ?_;go_upto_region 1 with fail;refine aJ 1 ?_;refine ay rfl (aB call75 rfl (evc alW evn)) ?_;refine (bL.devices HBN).mono ?_;rintro e w2 ⟨rfl, b2⟩;have HB2 := ae (HB1.out.trans (b2.mono HB1.out.size));have HR2 : Hid (bW w2 w.heap.size x) := ae (aC HR1 b2);have HBN2 := ae (bL.below HBN b2);clear b2;refine aR ?_;refine alM (aI false rfl alW evk HD) ?_;refine ah ?_;go_upto_region 3 with fail;refine aJ 1 ?_;refine alM (aI false rfl alW evk HI0) ?_;refine runs 2 ?_;refine alT (ey false rfl alW evk HE0) ?_;refine runs 2 ?_;refine alT (bH rfl alW HR2.out.range) ?_;refine ay alH (aB call76 rfl (evc alW evn)) ?_;refine (eh w2 HM).mono ?_;rintro e w3 ⟨rfl, b3⟩;have HB3 := ae (HB2.out.trans (b3.mono HB2.out.size));have HR3 : Hid (bW w3 w.heap.size x) := ae (aC HR2 b3);have HBN3 := ae (bL.below HBN2 b3);clear b3;refine aR ?_;refine runs 2 ?_;refine bq 5 rfl (aL rfl alW) (by kernel_rfl) ?_;simp only [bX, ac, aa];refine aH 1 ?_;go_upto_region 4 with fail;refine cC 2 ?_;go_wp2_with fail;go_ret2;exact ⟨HB3, .inr ⟨HNO, rfl⟩⟩
theorem ahe (id en : Nat) (x : Ros) (hb : bL.Bn w F q M) (h0 : id ≠ 0) (h1 : ¬ 2305843009213693952 < en) (h2 : bi x = true) (h3 : pu M x = false) : Calls prog 31 #[.pointer (some ⟨q, 0, none⟩), .int .u64 (id : Int), .int .u64 (en : Int), ros x] w (rU w q M id en x) := by
 have hb0 := (Below.refl w.heap.size w).alloc aj (.cells (a7 x).toArray 86);have HR1 := ae (bW.new w x);have HB1 := ae hb0;have HBN := ae (bL.below hb hb0);have HD : Hid (((M.ds.length : Int) == 0) = false) := ae (by have := (bL.wf hb).one; exact av (by omega));have HI0 : Hid (((id : Int) == 0) = false) := ae (av (by omega));have HE0 : Hid (decide ((2305843009213693952 : Int) < (en : Int)) = false) := ae (am (by omega));have HM := ae h2;have HGE : Hid (dW x = true) := ae (by have h2' := h2; unfold bi at h2'; simp only [Bool.and_eq_true] at h2'; exact h2'.1.1.1);have HFT := ae h3;have HNO : Hid (gU M id en x = false) := ae (by rw [lz, h3]; simp);clear h0 h1 h2 h3;clear hb hb0;go_enter func31, ntmps31;go_upto_region 0 with fail;refine af ?_;refine alM (br rfl alW) ?_;generalize w.alloc (.cells (a7 x).toArray 86) = w1 at *;refine aH 2 ?_;go_upto_region 1 with fail;refine aJ 1 ?_;refine ay rfl (aB call75 rfl (evc alW evn)) ?_;refine (bL.devices HBN).mono ?_;rintro e w2 ⟨rfl, b2⟩;have HB2 := ae (HB1.out.trans (b2.mono HB1.out.size));have HR2 : Hid (bW w2 w.heap.size x) := ae (aC HR1 b2);have HBN2 := ae (bL.below HBN b2);clear b2;refine aR ?_;refine alM (aI false rfl alW evk HD) ?_;refine ah ?_;go_upto_region 3 with fail;refine aJ 1 ?_;refine alM (aI false rfl alW evk HI0) ?_;refine runs 2 ?_;refine alT (ey false rfl alW evk HE0) ?_;refine runs 2 ?_;refine alT (bH rfl alW HR2.out.range) ?_;refine ay alH (aB call76 rfl (evc alW evn)) ?_;refine (eh w2 HM).mono ?_;rintro e w3 ⟨rfl, b3⟩;have HB3 := ae (HB2.out.trans (b3.mono HB2.out.size));have HR3 : Hid (bW w3 w.heap.size x) := ae (aC HR2 b3);have HBN3 := ae (bL.below HBN2 b3);clear b3;refine aR ?_;refine runs 3 ?_;refine runs 1 ?_;refine alT (ax rfl alW qf) ?_;refine alT (eP rfl alW HR3.out.geo) ?_;refine ay alH (aB call77 rfl (evc alW (evc alW evn))) ?_;refine (zr x HGE HBN3).mono ?_;rintro e w4 ⟨rfl, b4⟩;rw [HFT.out];have HB4 := ae (HB3.out.trans (b4.mono HB3.out.size));have HR4 : Hid (bW w4 w.heap.size x) := ae (aC HR3 b4);have HBN4 := ae (bL.below HBN3 b4);clear b4;refine aR ?_;refine aH 2 ?_;go_upto_region 4 with fail;refine cC 2 ?_;go_wp2_with fail;go_ret2;exact ⟨HB4, .inr ⟨HNO, rfl⟩⟩
theorem afo (id en : Nat) (x : Ros) (hb : bL.Bn w F q M) (h0 : id ≠ 0) (h1 : ¬ 2305843009213693952 < en) (h2 : bi x = true) (h3 : pu M x = true) : Calls prog 31 #[.pointer (some ⟨q, 0, none⟩), .int .u64 (id : Int), .int .u64 (en : Int), ros x] w (rU w q M id en x) := by
 have hb0 := (Below.refl w.heap.size w).alloc aj (.cells (a7 x).toArray 86);have HR1 := ae (bW.new w x);have HB1 := ae hb0;have HBN := ae (bL.below hb hb0);have HD : Hid (((M.ds.length : Int) == 0) = false) := ae (by have := (bL.wf hb).one; exact av (by omega));have HI0 : Hid (((id : Int) == 0) = false) := ae (av (by omega));have HE0 : Hid (decide ((2305843009213693952 : Int) < (en : Int)) = false) := ae (am (by omega));have HM := ae h2;have HGE : Hid (dW x = true) := ae (by have h2' := h2; unfold bi at h2'; simp only [Bool.and_eq_true] at h2'; exact h2'.1.1.1);have HFT := ae h3;have HYE : Hid (gU M id en x = true) := ae (by rw [lz, h2, h3, am h0, am h1]; rfl);clear h0 h1 h2 h3;clear hb hb0;go_enter func31, ntmps31;go_upto_region 0 with fail;refine af ?_;refine alM (br rfl alW) ?_;generalize w.alloc (.cells (a7 x).toArray 86) = w1 at *;refine aH 2 ?_;go_upto_region 1 with fail;refine aJ 1 ?_;refine ay rfl (aB call75 rfl (evc alW evn)) ?_;refine (bL.devices HBN).mono ?_;rintro e w2 ⟨rfl, b2⟩;have HB2 := ae (HB1.out.trans (b2.mono HB1.out.size));have HR2 : Hid (bW w2 w.heap.size x) := ae (aC HR1 b2);have HBN2 := ae (bL.below HBN b2);clear b2;refine aR ?_;refine alM (aI false rfl alW evk HD) ?_;refine ah ?_;go_upto_region 3 with fail;refine aJ 1 ?_;refine alM (aI false rfl alW evk HI0) ?_;refine runs 2 ?_;refine alT (ey false rfl alW evk HE0) ?_;refine runs 2 ?_;refine alT (bH rfl alW HR2.out.range) ?_;refine ay alH (aB call76 rfl (evc alW evn)) ?_;refine (eh w2 HM).mono ?_;rintro e w3 ⟨rfl, b3⟩;have HB3 := ae (HB2.out.trans (b3.mono HB2.out.size));have HR3 : Hid (bW w3 w.heap.size x) := ae (aC HR2 b3);have HBN3 := ae (bL.below HBN2 b3);clear b3;refine aR ?_;refine runs 3 ?_;refine runs 1 ?_;refine alT (ax rfl alW qf) ?_;refine alT (eP rfl alW HR3.out.geo) ?_;refine ay alH (aB call77 rfl (evc alW (evc alW evn))) ?_;refine (zr x HGE HBN3).mono ?_;rintro e w4 ⟨rfl, b4⟩;rw [HFT.out];have HB4 := ae (HB3.out.trans (b4.mono HB3.out.size));have HR4 : Hid (bW w4 w.heap.size x) := ae (aC HR3 b4);have HBN4 := ae (bL.below HBN3 b4);clear b4;refine aR ?_;refine aH 2 ?_;go_upto_region 5 with fail;refine aJ 3 ?_;refine alM (bH rfl alW HR4.out.range) ?_;refine runs 1 ?_;refine alM (wV (y := ⟨id, en, en, x⟩) rfl alW alW alW alW alW) ?_;refine alM (ct (cs := (phC (some ⟨q, 0, none⟩) ⟨id, en, en, x⟩)) rfl alW) ?_;refine aH 2 ?_;go_wp2_with fail;go_ret2;exact ⟨HB4.out.alloc HB4.out.size _, .inl ⟨HYE, w4.heap.size, rfl, heap_alloc_new w4 _, HB4.out.size⟩⟩
theorem ajH (id en : Nat) (x : Ros) (hb : bL.Bn w F q M) : Calls prog 31 #[.pointer (some ⟨q, 0, none⟩), .int .u64 (id : Int), .int .u64 (en : Int), ros x] w (rU w q M id en x) := by
 by_cases h0 : id = 0
 ·exact afA id en x hb h0
 by_cases h1 : 2305843009213693952 < en
 ·exact ags id en x hb h0 h1
 cases h2 : bi x
 ·exact afu id en x hb h0 h1 h2
 cases h3 : pu M x
 ·exact ahe id en x hb h0 h1 h2 h3
 ·exact afo id en x hb h0 h1 h2 h3
end
theorem sj (w : World) (v : Value) (id en : Nat) (x : Ros) (hd : ∀ w1, Below w.heap.size w w1 -> Calls prog 75 #[v] w1 fun e w' => e = .returned (.int .i64 0) /\ w1 = w') : Calls prog 31 #[v, .int .u64 (id : Int), .int .u64 (en : Int), ros x] w fun e w' => e = .returned (.tuple #[.pointer none, .int .i64 1]) /\ Below w.heap.size w w' := by
 have hb0 := (Below.refl w.heap.size w).alloc aj (.cells (a7 x).toArray 86);have HB1 := ae hb0;have HDV := ae (hd _ hb0);clear hd hb0;go_enter func31, ntmps31;go_upto_region 0 with fail;refine af ?_;refine alM (br rfl alW) ?_;generalize w.alloc (.cells (a7 x).toArray 86) = w1 at *;refine aH 2 ?_;go_upto_region 1 with fail;refine aJ 1 ?_;refine ay rfl (aB call75 rfl (evc alW evn)) ?_;refine (HDV.out).mono ?_;rintro e w2 ⟨rfl, rfl⟩;refine aR ?_;refine alM (aI true rfl alW evk rfl) ?_;refine ah ?_;go_upto_region 2 with fail;refine cC 2 ?_;go_wp2_with fail;go_ret2;exact ⟨rfl, HB1⟩
section
variable {w : World} {v : Value}
theorem wI (h : NoH w v) : Calls prog 47 #[v] w fun e w' => e = .returned (.int .u64 0) /\ Below w.heap.size w w' := by
 rcases h with rfl | ⟨p, rfl, h⟩
 ·exact abv.mono fun e w' ⟨h1, h2⟩ => ⟨h1, by subst h2; exact ak⟩
 ·exact (wN h).mono fun e w' ⟨h1, h2⟩ => ⟨h1, by subst h2; exact ak⟩
theorem acK (h : NoH w v) : Calls prog 56 #[v] w fun e w' => e = .returned (.int .u64 0) /\ Below w.heap.size w w' := by
 rcases h with rfl | ⟨p, rfl, h⟩
 ·exact aiR.mono fun e w' ⟨h1, h2⟩ => ⟨h1, by subst h2; exact ak⟩
 ·exact (ahz h).mono fun e w' ⟨h1, h2⟩ => ⟨h1, by subst h2; exact ak⟩
theorem ux : stN bY = 0 := by decide
theorem vu (h : NoH w v) : Calls prog 182 #[v] w fun e w' => e = .returned (.int .i64 0) /\ Below w.heap.size w w' := by
 rcases h with rfl | ⟨p, rfl, h⟩
 ·exact aa1.mono fun e w' ⟨h1, h2⟩ => ⟨by rw [h1, ux]; rfl, h2⟩
 ·exact (mL h).mono fun e w' ⟨h1, h2⟩ => ⟨by rw [h1]; show Ending.returned (.int .i64 (stN bY : Nat)) = _; rw [ux]; rfl, h2⟩
theorem aiq (w : World) : Calls prog 75 #[.pointer none] w fun e w' => e = .returned (.int .i64 0) /\ w = w' := by
 go_enter func75, ntmps75;go_wp2_with fail;go_ret;exact ⟨rfl, rfl⟩
def zbH : List Value := [.slice none 0 0, .int .i64 0, .int .i64 0, .bool false]
theorem ahq {b : Nat} (w : World) (h : w.heap[b]? = some (.cells zbH.toArray 126 (0, 0))) : Calls prog 75 #[.pointer (some ⟨b, 0, none⟩)] w fun e w' => e = .returned (.int .i64 0) /\ w = w' := by
 have c0 : w.cell? ⟨b, 0, none⟩ = some (.slice none 0 0) := (aP h) 0 _ rfl;clear h;go_enter func75, ntmps75;go_wp2_with fail;go_ret;exact ⟨rfl, rfl⟩
end
def HuJ (w : World) (G : Nat -> Prop) (q p : Nat) (h : HuS) : Prop :=
 ∃ Gb, bL.Bn w Gb q h.M /\ PHu w p q ⟨h.id, h.ev, h.ev, h.R⟩ /\ ¬ Gb p /\ (∀ b, G b ↔ (Gb b \/ b = p)) /\ bi h.R = true /\ (h.id ≠ 0 /\ h.id < 18446744073709551616)
section
variable {w w' : World} {G K : Nat -> Prop} {q p : Nat} {h : HuS}
theorem HuJ.hul (j : HuJ w G q p h) : PHu w p q ⟨h.id, h.ev, h.ev, h.R⟩ := by obtain ⟨_, _, h2, _⟩ := j; exact h2
theorem HuJ.start (j : HuJ w G q p h) (hc : CrG w G) : HJ w G (fun _ => False) w p q h.M ⟨h.id, h.ev, h.ev, h.R⟩ := by
 obtain ⟨Gb, h1, h2, h3, h4, h5, h6⟩ := j;exact ⟨Gb, h1, h2, h3, Only.refl _ _, fun b hb => .inl ((h4 b).2 hb), fun b e => e.elim, hc⟩
theorem HJ.fin {M' : aZ} {id ev : Nat} {R : Ros} (j : HJ w G K w' p q M' ⟨id, ev, ev, R⟩) (hf : bi R = true) (hid : id ≠ 0 /\ id < 18446744073709551616) : ∃ G', HuJ w' G' q p ⟨M', id, ev, R⟩ /\ Only G w w' /\ Grow w G G' /\ ∃ Gb, bL.Bn w' Gb q M' /\ ∀ b, Gb b -> G' b := by
 obtain ⟨Gb, h1, h2, h3, h4, h5, h6, h7⟩ := j;exact ⟨fun b => Gb b \/ b = p, ⟨Gb, h1, h2, h3, fun b => Iff.rfl, hf, hid⟩, h4, h5, Gb, h1, fun b e => .inl e⟩
theorem HJ.ak8 {M' : aZ} {y : HpS} (j : HJ w G K w' p q M' y) : ∃ G', Only G w w' /\ Grow w G G' /\ ∃ Gb, bL.Bn w' Gb q M' /\ ∀ b, Gb b -> G' b := by
 obtain ⟨Gb, h1, h2, h3, h4, h5, h6, h7⟩ := j;exact ⟨fun b => Gb b \/ b = p, h4, h5, Gb, h1, fun b e => .inl e⟩
theorem HuQ.fin {x : HpS} {h' : HuS} {ok : Prop} (hq : HuQ w G K w p q x h' ok w') (hid : x.id ≠ 0 /\ x.id < 18446744073709551616) : ∃ G', (ok -> HuJ w' G' q p h') /\ Only G w w' /\ Grow w G G' /\ ∃ Gb, bL.Bn w' Gb q h'.M /\ ∀ b, Gb b -> G' b := by
 by_cases e : ok
 ·obtain ⟨j, f, i, _⟩ := hq.2.1 e;obtain ⟨G', k1, k2⟩ := j.fin f hid;refine ⟨G', fun _ => ?_, k2⟩;have e2 : h' = ⟨h'.M, x.id, h'.ev, h'.R⟩ := by rw [<- i]
  rw [e2];exact k1
 ·obtain ⟨us, _, j⟩ := hq.2.2 e;obtain ⟨G', k2⟩ := j.ak8;exact ⟨G', fun z => absurd z e, k2⟩
end
def ak3 : gZ where
 R := bL
 J := HuJ
 lt := fun ⟨Gb, h1, h2, _, h4, _⟩ b hb => by
  rcases (h4 b).1 hb with e | e
  ·exact bL.lt h1 b e
  ·subst e; exact h2.lt
 fin := fun ⟨_, _, _, _, _, h5, h6, _⟩ => ⟨h5, h6⟩
 only := fun ⟨Gb, h1, h2, h3, h4, h5⟩ ho hn => ⟨Gb, bL.only h1 ho fun b hb => hn b ((h4 b).2 (.inl hb)), h2.only ho (hn _ ((h4 _).2 (.inr rfl))), h3, h4, h5⟩
 ben := fun {w G q p h} ⟨Gb, h1, h2, h3, h4, h5⟩ => ⟨Gb, h1, fun b hb => (h4 b).2 (.inl hb), fun w' Gb' M' k1 k2 k3 => by
  have hp := h2.lt;refine ⟨fun b => Gb' b \/ b = p, ⟨Gb', k1, h2.only k2 h3, fun e => ?_, fun b => Iff.rfl, h5⟩, k2.widen fun b hb => (h4 b).2 (.inl hb), fun b hb => ?_⟩
  ·rcases k3 p e with e | e
   ·exact h3 e
   ·omega
  ·rcases hb with e | e
   ·rcases k3 b e with e | e
    ·exact .inl ((h4 b).2 (.inl e))
    ·exact .inr e
   ·exact .inl ((h4 b).2 (.inr e))⟩
 new_ := fun {w G q M} id ev x hid hev hb => (ajH id ev x hb).mono fun e w' ⟨h1, h2⟩ => ⟨h1, by
  rcases h2 with ⟨h3, p, h4, h5, h6⟩ | ⟨h3, h4⟩
  ·have hl := bL.lt hb;have h7 : bi x = true /\ id ≠ 0 := by
    rw [lz] at h3;simp only [Bool.and_eq_true, Bool.not_eq_true', decide_eq_false_iff_not] at h3;exact ⟨h3.2.2.1, h3.1⟩
   exact .inl ⟨h3, p, fun b => G b \/ b = p, h4, ⟨G, bL.below hb h1, h5, fun e => by have := hl p e; omega, fun b => Iff.rfl, h7.1, h7.2, hid⟩, fun b hb => by
    rcases hb with e | e
    ·exact .inl e
    ·exact .inr (by omega)⟩
  ·exact .inr ⟨h3, h4⟩⟩
 new_nil := fun w id ev x _ _ => sj w _ id ev x fun w1 _ => aiq w1
 read := fun {w G q p h} s m j hc hr he => by
  obtain ⟨Gb, _, _, _, _, h5, h6⟩ := id j;exact (ag5 s m h5 h6 hr he rfl (j.start hc)).mono fun e w' ⟨k0, k1⟩ => ⟨k0, k1.fin h6⟩
 write := fun {w G q p h} s m b j hc hr he => by
  obtain ⟨Gb, _, _, _, _, h5, h6⟩ := id j;exact (adM s m b h5 h6 hr he rfl (j.start hc)).mono fun e w' ⟨k0, k1⟩ => ⟨k0, k1.fin h6⟩
 aj6 := fun {w G q p h} j => (wN j.hul).mono fun e w' ⟨h1, h2⟩ => ⟨h1, by subst h2; exact ak⟩
 id_ := fun {w G q p h} j => (ahz j.hul).mono fun e w' ⟨h1, h2⟩ => ⟨h1, by subst h2; exact ak⟩
 state := fun {w G q p h} j => mL j.hul
 tB := fun {w G q p h} j => rj j.hul
 No := NoH
 zc := phC none ⟨0, 0, 0, bY⟩
 zb := zbH
 no_nil := fun w => .inl rfl
 bld0 := fun w => by kernel_rfl
 bldB := fun w => by kernel_rfl
 no_zero := fun w => .inr ⟨_, rfl, heap_alloc_new w _⟩
 no_below := fun h hb => h.below hb
 new_zero := fun w b id ev x hb _ _ => sj w _ id ev x fun w1 h1 => ahq w1 (aC hb h1)
 no_read := fun w v s m h => ae3 s m h
 no_write := fun w v s m b h => aa3 s m b h
 no_event := fun w v h => wI h
 no_id := fun w v h => acK h
 no_state := fun w v h => vu h
end Go.Proofs.YtdmhelalbemlcaaGreatDoor
