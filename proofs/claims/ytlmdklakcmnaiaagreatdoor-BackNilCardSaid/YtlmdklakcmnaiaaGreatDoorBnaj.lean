import Derived.Test.YtlmdklakcmnaiaaGreatDoorBnai
namespace Go.Proofs.YtlmdklakcmnaiaaGreatDoor
set_option maxHeartbeats 8000000
open Go.Proofs.Tryz
open Go.RowKit
set_option linter.unusedVariables false
set_option linter.unusedSimpArgs false
set_option maxRecDepth 100000
def HuQ (w0 : World) (H K : Nat -> Prop) (w : World) (p q : Nat) (x : HpS) (h' : HuS) (ok : Prop) (w' : World) : Prop :=
 cq K w w' /\ (ok -> HJ w0 H K w' p q h'.M ⟨x.id, h'.ev, h'.ev, h'.R⟩ /\ aU h'.R = true /\ h'.id = x.id /\ h'.ev <= x.us + 17) /\ (¬ ok -> ∃ us, us <= x.us + 17 /\ HJ w0 H K w' p q h'.M { x with us := us })
def pw (h : HuS) (s m : Int) : Int := match ld h.R s m with | some E => E | none => if ex h.M m (2 + s) = 9 then nh h m.toNat 7 else ex h.M m (2 + s)
section
variable {h : HuS} {s m E : Int} {b : Blk}
theorem afd : (if pw h s m = 7 then 0 else pw h s m) = jL h s m b := by
 unfold pw jL ld
 split
 ·rename_i E hE
  split at hE
  ·rename_i c1
   rw [if_pos c1]
   split at hE
   ·rename_i c2
    rw [if_pos c2];cases hE
    rfl
   ·rename_i c2
    rw [if_neg c2]
    split at hE
    ·cases hE
    ·rename_i c3
     rw [if_neg c3];cases hE
     rfl
  ·rename_i c1
   rw [if_neg c1];cases hE
   rfl
 ·rename_i hE
  obtain ⟨c1, c2, c3⟩ := kz (R := h.R) (s := s) (m := m) hE;rw [if_pos c1, c2, if_neg (show ¬ (false = true) by decide), if_pos c3];by_cases h9 : ex h.M m (2 + s) = 9
  ·rw [if_pos h9, if_pos h9];unfold nh;have hs : fJ (ko h m.toNat) ≠ 7 := by have := aeV (ko h m.toNat); omega
   by_cases e0 : fJ (ko h m.toNat) = 0
   ·rw [if_pos e0, if_pos e0]
    split
    ·rfl
    ·rfl
   ·rw [if_neg e0, if_neg e0, if_neg hs]
  ·rw [if_neg h9, if_neg h9];have := afW h.M m (2 + s);rw [if_neg (by omega)]
theorem afl (hE : ld h.R s m = some E) : pw h s m = E /\ fK h s m b = h /\ wd h s m := by
 have h2 : ∀ {z : Prop}, ¬(nk h.R s m = true /\ ey h.R = false /\ hasB h.R m s = true /\ z) := fun ⟨c1, c2, c3, _⟩ => by
  unfold ld at hE;rw [if_pos c1, c2, if_neg (by decide), if_pos c3] at hE;cases hE
 refine ⟨by unfold pw; rw [hE], ?_, fun e => absurd e h2⟩;unfold fK;rw [if_neg fun e => h2 (z := True) ⟨e.1, e.2.1, e.2.2, trivial⟩]
theorem ab6 (hE : ld h.R s m = none) (h9 : ex h.M m (2 + s) = 9) : pw h s m = nh h m.toNat 7 /\ fK h s m b = mm h m.toNat /\ (wd h s m ↔ fJ (ko h m.toNat) = 0) := by
 obtain ⟨c1, c2, c3⟩ := kz hE;refine ⟨by unfold pw; rw [hE]; exact if_pos h9, ?_, ⟨fun k => k ⟨c1, c2, c3, h9⟩, fun e _ => e⟩⟩;unfold fK;rw [if_pos ⟨c1, c2, c3⟩, if_pos h9]
theorem abd (hE : ld h.R s m = none) (h9 : ex h.M m (2 + s) ≠ 9) : pw h s m = ex h.M m (2 + s) /\ fK h s m b = { h with M := dP h.M m (2 + s) b } /\ wd h s m := by
 obtain ⟨c1, c2, c3⟩ := kz hE;refine ⟨by unfold pw; rw [hE]; exact if_neg h9, ?_, fun e => absurd e.2.2.2 h9⟩;unfold fK;rw [if_pos ⟨c1, c2, c3⟩, if_neg h9]
end
section
variable {w0 ws w w' : World} {H K K' : Nat -> Prop} {p q b2 b3 b4 b5 b6 : Nat} {x : HpS} {R : Ros} {M : aV} {h0 h' : HuS} {v : Value} {ok : Prop}
theorem HuQ.from (h : HuQ w0 H K w p q x h' ok w') (hk : cq K ws w) : HuQ w0 H K ws p q x h' ok w' := ⟨hk.trans h.1, h.2.1, h.2.2⟩
theorem HuQ.of (hj : HJ w0 H K w' p q M x) (hk : cq K w w') (hs : x.ev = x.us) (hf : aU x.R = true) (hok : ok) : HuQ w0 H K w p q x ⟨M, x.id, x.us, x.R⟩ ok w' := by
 refine ⟨hk, fun _ => ⟨?_, hf, rfl, by show x.us <= _; omega⟩, fun e => absurd hok e⟩
 show HJ w0 H K w' p q M ⟨x.id, x.us, x.us, x.R⟩
 have e : x = ⟨x.id, x.us, x.us, x.R⟩ := by
  obtain ⟨a, b, c, d⟩ := x;simp only at hs;rw [hs]
 rw [<- e];exact hj
theorem HuQ.sv {m : Nat} (hq : SvQ w0 H K w p q x ⟨M, x.id, x.us, dG x.R (m : Int)⟩ w') (hok : ok ↔ fJ (ko ⟨M, x.id, x.us, x.R⟩ m) = 0) : HuQ w0 H K w p q x (mm ⟨M, x.id, x.us, x.R⟩ m) ok w' :=
 ⟨hq.1, fun e => hq.2.1 (hok.1 e), fun e => hq.2.2 fun z => e (hok.2 z)⟩
theorem NoH.cells (h : NoH w v) : v.cells = #[v] := by
 rcases h with rfl | ⟨p, rfl, _⟩ <;> rfl
theorem aij {w2 : World} {ad : Addr} (h : NoH w v) (hc : w2.cell? ad = some v) : (Instr.loadAt 24 (.pointer (some ad))).run prog w2 = .ok v w2 := by
 rcases h with rfl | ⟨p, rfl, _⟩
 ·exact la hc
 ·exact la hc
theorem pJ {s m n : Int} {y : Blk} (hr : Room M 1) (h : HJ w0 H K w p q M x) (h3 : w.heap[b3]? = some (.cells #[.pointer (some ⟨p, 0, none⟩)] 24 (0, 0))) (h4 : w.heap[b4]? = some (.cells ([.int .i64 s, .int .i64 m] : List Value).toArray 42 (0, 0))) (h5 : w.heap[b5]? = some (.cells (cel y).toArray 44 (0, 0))) : Calls prog 75 #[.int .i64 n, .pointer (some ⟨b3, 0, none⟩), .pointer (some ⟨b4, 0, none⟩), .pointer (some ⟨b5, 0, none⟩)] w fun e w' =>
  e = .returned (.int .i64 (ex M m n)) /\ HJ w0 H K w' p q (dP M m n y) x /\ cq K w w' := by
 have HJ := ae h.drew;have HRM := ae hr;have HD : Hid (Below w.heap.size w (World.drew w)) := ae (bd ak);have HKD := ae (h.kept HD);have H3 := ae (aB h3 HD);have H4 := ae (aB h4 HD);have H5 := ae (aB h5 HD);clear hr h h3 h4 h5;go_enter func75, ntmps75;go_upto_region 1 with fail;refine wp_region_still_tail 8 (by kernel_rfl) (by kernel_rfl) ?_;simp only [ac];refine aN rfl (aC rfl ajL (la ((aP H3) 0 _ rfl))) ?_;simp only [aa];refine aN rfl (bj rfl ajL) ?_;simp only [aa];refine aN rfl (ax rfl ajL oJ) ?_;simp only [aa];refine aN rfl (aC rfl ajL (vj (PHo.c0 HJ.out.hul))) ?_;simp only [aa];refine aN rfl (ax rfl ajL x8) ?_;simp only [aa];refine aN rfl (aC rfl ajL (bY ((aP H4) 1 _ rfl))) ?_;simp only [aa];refine aN rfl (aL rfl ajL) ?_;simp only [aa];refine aN rfl (bJ rfl ajL (aP H5)) ?_;simp only [aa];refine wpStill_nil ?_;change wpList _ _ _ _ _ (World.drew _);refine aw rfl (aA call76 rfl (evc ajL (evc ajL (evc ajL (evc ajL evn))))) ?_;refine (HJ.out.write m n y HRM).mono ?_;rintro e w2 ⟨rfl, j2, k2⟩;refine aQ ?_;refine aF 1 ?_;go_wp2_with fail;go_ret;exact ⟨rfl, j2, HKD.out.trans k2⟩
def wrF (b3 b4 b5 : Nat) : Fu := ⟨75, [.pointer (some ⟨b3, 0, none⟩), .pointer (some ⟨b4, 0, none⟩), .pointer (some ⟨b5, 0, none⟩)], call75⟩
theorem ql {s m : Int} {y : Blk} (hf : aU x.R = true) (hid : x.id ≠ 0 /\ x.id < 18446744073709551616) (hr : Room M 600) (he : x.us <= 4611686018427387000) (hs : x.ev = x.us) (h : HJ w0 H K w p q M x) (h3 : w.heap[b3]? = some (.cells #[.pointer (some ⟨p, 0, none⟩)] 24 (0, 0))) (h4 : w.heap[b4]? = some (.cells ([.int .i64 s, .int .i64 m] : List Value).toArray 42 (0, 0))) (h5 : w.heap[b5]? = some (.cells (cel y).toArray 44 (0, 0))) : Calls prog 74 #[.pointer (some ⟨p, 0, none⟩), .agg #[.int .i64 s, .int .i64 m], (wrF b3 b4 b5).val] w fun e w' =>
  e = .returned (.int .i64 (pw ⟨M, x.id, x.us, x.R⟩ s m)) /\ HuQ w0 H K w p q x (fK ⟨M, x.id, x.us, x.R⟩ s m y) (wd ⟨M, x.id, x.us, x.R⟩ s m) w' := by
 have hgb : dA x.R = true := by have hf' := hf; unfold aU at hf'; simp only [Bool.and_eq_true] at hf'; exact hf'.1.1.1
 cases hE : ld x.R s m with
 |some E =>
  obtain ⟨c1, c3, c4⟩ := afl (h := ⟨M, x.id, x.us, x.R⟩) (b := y) hE;refine (aa0 (sv := wrF b3 b4 b5) hgb hE h.hul).mono ?_;rintro e w2 ⟨rfl, b⟩;rw [c1, c3];exact ⟨rfl, HuQ.of (h.below b) (h.kept b) hs hf c4⟩
 |none =>
  by_cases h9 : ex M m (2 + s) = 9
  ·obtain ⟨c1, c3, c4⟩ := ab6 (h := ⟨M, x.id, x.us, x.R⟩) (b := y) hE h9;rw [c1, c3];refine (uV (w0 := w0) (H := H) (K := K) (M := M) (sv := wrF b3 b4 b5) (fun E w' => E = 9 /\ HJ w0 H K w' p q M x /\ cq K w w') hf hid hr he hE h.hul (fun w1 hb => ?_) (fun w' hw => hw.2.1)).mono ?_
   ·refine (pJ (s := s) (m := m) (n := 2 + s) (cG hr (by omega)) (h.below hb) (aB h3 hb) (aB h4 hb) (aB h5 hb)).mono ?_;rintro e w2 ⟨rfl, j2, k2⟩;rw [ae2 h9] at j2;exact ⟨_, rfl, h9, j2, (h.kept hb).trans k2⟩
   ·rintro e w2 (⟨E, e9, _, e9', _⟩ | ⟨w3, ⟨_, j3, kk⟩, rfl, q3⟩)
    ·exact absurd e9' e9
    ·exact ⟨rfl, HuQ.sv (q3.from kk) c4⟩
  ·obtain ⟨c1, c3, c4⟩ := abd (h := ⟨M, x.id, x.us, x.R⟩) (b := y) hE h9;rw [c1, c3];refine (uV (w0 := w0) (H := H) (K := K) (M := M) (sv := wrF b3 b4 b5) (fun E w' => E = ex M m (2 + s) /\ HJ w0 H K w' p q (dP M m (2 + s) y) x /\ cq K w w') hf hid hr he hE h.hul (fun w1 hb => ?_) (fun w' hw => absurd hw.1.symm h9)).mono ?_
   ·refine (pJ (s := s) (m := m) (n := 2 + s) (cG hr (by omega)) (h.below hb) (aB h3 hb) (aB h4 hb) (aB h5 hb)).mono ?_;rintro e w2 ⟨rfl, j2, k2⟩;exact ⟨_, rfl, rfl, j2, (h.kept hb).trans k2⟩
   ·rintro e w2 (⟨E, e9, rfl, rfl, j2, kk⟩ | ⟨w3, ⟨e9, _⟩, _⟩)
    ·exact ⟨rfl, HuQ.of j2 kk hs hf c4⟩
    ·exact absurd e9.symm h9
theorem ach (s m : Int) (y : Blk) (hf : aU x.R = true) (hid : x.id ≠ 0 /\ x.id < 18446744073709551616) (hr : Room M 600) (he : x.us <= 4611686018427387000) (hs : x.ev = x.us) (h : HJ w0 H K w p q M x) : Calls prog 36 #[.pointer (some ⟨p, 0, none⟩), .agg #[.int .i64 s, .int .i64 m], blk y] w fun e w' =>
  e = .returned (.int .i64 (jL ⟨M, x.id, x.us, x.R⟩ s m y)) /\ HuQ w0 H K w p q x (fK ⟨M, x.id, x.us, x.R⟩ s m y) (wd ⟨M, x.id, x.us, x.R⟩ s m) w' := by
 have HRC := ae (fun (w3 : World) (b3 b4 b5 : Nat) => ql (p := p) (q := q) (w0 := w0) (H := H) (K := K) (w := w3) (b3 := b3) (b4 := b4) (b5 := b5) (s := s) (m := m) (y := y) hf hid hr he hs);have HMP := ae (afd (h := ⟨M, x.id, x.us, x.R⟩) (s := s) (m := m) (b := y));have HJ := ae h;obtain ⟨z0, hz0⟩ : ∃ z0 : HuS, (⟨M, x.id, x.us, x.R⟩ : HuS) = z0 := ⟨_, rfl⟩;rw [hz0] at HRC HMP ⊢;obtain ⟨ce, hce⟩ : ∃ ce, pw z0 s m = ce := ⟨_, rfl⟩;rw [hce] at HMP;have HCE := ae hce;clear hf hid hr he hs h hz0 hce;go_enter func36, ntmps36;go_upto_region 0 with fail;refine af ?_;refine ajB (eM (v := .pointer (some ⟨p, 0, none⟩)) rfl rfl ajL) ?_;have hb0 := (Below.refl w.heap.size w).alloc aj (.cells #[.pointer (some ⟨p, 0, none⟩)] 24);have HP1 := ae (heap_alloc_new w (.cells #[.pointer (some ⟨p, 0, none⟩)] 24));have HB1 := ae hb0;obtain ⟨b3, hb3⟩ : ∃ b3, w.heap.size = b3 := ⟨_, rfl⟩;have HGb3 : Hid (w.heap.size <= b3) := ae (by rw [<- hb3]; exact aj);have HLb3 : Hid (b3 < (w.alloc (.cells #[.pointer (some ⟨p, 0, none⟩)] 24)).heap.size) := ae (by rw [World.size_alloc]; omega);rw [hb3] at HP1 ⊢;clear hb3 hb0;generalize w.alloc (.cells #[.pointer (some ⟨p, 0, none⟩)] 24) = w1 at *;refine ajB (cw (cs := ([.int .i64 s, .int .i64 m] : List Value)) rfl ajL) ?_;have hb0 := (Below.refl w1.heap.size w1).alloc aj (.cells ([.int .i64 s, .int .i64 m] : List Value).toArray 42);have HL2 := ae (heap_alloc_new w1 (.cells ([.int .i64 s, .int .i64 m] : List Value).toArray 42));have HP2 := ae (aB HP1 hb0);have HB2 := ae (HB1.out.trans (hb0.mono HB1.out.size));obtain ⟨b4, hb4⟩ : ∃ b4, w1.heap.size = b4 := ⟨_, rfl⟩;have HGb4 : Hid (w.heap.size <= b4) := ae (by rw [<- hb4]; exact HB1.out.size);have HLb4 : Hid (b4 < (w1.alloc (.cells ([.int .i64 s, .int .i64 m] : List Value).toArray 42)).heap.size) := ae (by rw [World.size_alloc]; omega);rw [hb4] at HL2 ⊢;clear hb4 hb0;generalize w1.alloc (.cells ([.int .i64 s, .int .i64 m] : List Value).toArray 42) = w2 at *;refine ajB (cP (c := y) rfl ajL) ?_;have hb0 := (Below.refl w2.heap.size w2).alloc aj (.cells (cel y).toArray 44);have HX3 := ae (heap_alloc_new w2 (.cells (cel y).toArray 44));have HP3 := ae (aB HP2 hb0);have HL3 := ae (aB HL2 hb0);have HB3 := ae (HB2.out.trans (hb0.mono HB2.out.size));obtain ⟨b5, hb5⟩ : ∃ b5, w2.heap.size = b5 := ⟨_, rfl⟩;have HGb5 : Hid (w.heap.size <= b5) := ae (by rw [<- hb5]; exact HB2.out.size);have HLb5 : Hid (b5 < (w2.alloc (.cells (cel y).toArray 44)).heap.size) := ae (by rw [World.size_alloc]; omega);rw [hb5] at HX3 ⊢;clear hb5 hb0;generalize w2.alloc (.cells (cel y).toArray 44) = w3 at *;refine aF 1 ?_;go_upto_region 1 with fail;refine af ?_;refine ajB (aC rfl ajL (la (cell_of_row _ b3 0 _ _ _ HP3))) ?_;refine ajB (cj (cs := ([.int .i64 s, .int .i64 m] : List Value)) underlying42 rfl (by kernel_rfl) rfl ajL (aP HL3)) ?_;refine ajB (mt rfl ajL ajL ajL) ?_;refine aw rfl (aA call74 rfl (evc ajL (evc ajL (evc ajL evn)))) ?_;refine (HRC.out w3 b3 b4 b5 (HJ.out.below HB3) HP3 HL3 HX3).mono ?_;rintro e w4 ⟨rfl, q4⟩;rw [HCE.out];have HQ4 := ae (q4.from (HJ.out.kept HB3));clear q4;refine aQ ?_;refine aF 1 ?_;by_cases h7 : ce = 7
 ·subst h7;have HWE : Hid (jL z0 s m y = 0) := ae (by rw [<- HMP.out, if_pos rfl]);go_upto_region 2 with fail;refine aH 1 ?_;refine ajB (aE true rfl ajL evk rfl) ?_;refine ah ?_;go_upto_region 3 with fail;refine bU 1 ?_;go_wp2_with fail;go_ret;exact ⟨by rw [HWE.out]; rfl, HQ4⟩
 have H7 : Hid ((ce == 7) = false) := ae (au h7);have HWE : Hid (jL z0 s m y = ce) := ae (by rw [<- HMP.out, if_neg h7]);clear h7;go_upto_region 2 with fail;refine aH 1 ?_;refine ajB (aE false rfl ajL evk H7) ?_;refine ah ?_;go_upto_region 4 with fail;refine bU 2 ?_;go_wp2_with fail;go_ret;exact ⟨by rw [HWE.out]; rfl, HQ4⟩
theorem zx (s m : Int) (y : Blk) (h : NoH w v) : Calls prog 36 #[v, .agg #[.int .i64 s, .int .i64 m], blk y] w fun e w' => e = .returned (.int .i64 1) /\ Below w.heap.size w w' := by
 obtain ⟨z0, hz0⟩ : ∃ z0, z0 = w.heap.size := ⟨_, rfl⟩;rw [<- hz0];have HZ0 := ae hz0;have HN := ae h;clear hz0 h;go_enter func36, ntmps36;go_upto_region 0 with fail;refine af ?_;refine ajB (eM (v := v) HN.out.cells rfl ajL) ?_;have hb0 := (Below.refl w.heap.size w).alloc aj (.cells #[v] 24);have HP1 := ae (heap_alloc_new w (.cells #[v] 24));have HB1 := ae hb0;obtain ⟨b3, hb3⟩ : ∃ b3, w.heap.size = b3 := ⟨_, rfl⟩;have HGb3 : Hid (w.heap.size <= b3) := ae (by rw [<- hb3]; exact aj);have HLb3 : Hid (b3 < (w.alloc (.cells #[v] 24)).heap.size) := ae (by rw [World.size_alloc]; omega);rw [hb3] at HP1 ⊢;clear hb3 hb0;generalize w.alloc (.cells #[v] 24) = w1 at *;refine ajB (cw (cs := ([.int .i64 s, .int .i64 m] : List Value)) rfl ajL) ?_;have hb0 := (Below.refl w1.heap.size w1).alloc aj (.cells ([.int .i64 s, .int .i64 m] : List Value).toArray 42);have HL2 := ae (heap_alloc_new w1 (.cells ([.int .i64 s, .int .i64 m] : List Value).toArray 42));have HP2 := ae (aB HP1 hb0);have HB2 := ae (HB1.out.trans (hb0.mono HB1.out.size));obtain ⟨b4, hb4⟩ : ∃ b4, w1.heap.size = b4 := ⟨_, rfl⟩;have HGb4 : Hid (w.heap.size <= b4) := ae (by rw [<- hb4]; exact HB1.out.size);have HLb4 : Hid (b4 < (w1.alloc (.cells ([.int .i64 s, .int .i64 m] : List Value).toArray 42)).heap.size) := ae (by rw [World.size_alloc]; omega);rw [hb4] at HL2 ⊢;clear hb4 hb0;generalize w1.alloc (.cells ([.int .i64 s, .int .i64 m] : List Value).toArray 42) = w2 at *;refine ajB (cP (c := y) rfl ajL) ?_;have hb0 := (Below.refl w2.heap.size w2).alloc aj (.cells (cel y).toArray 44);have HX3 := ae (heap_alloc_new w2 (.cells (cel y).toArray 44));have HP3 := ae (aB HP2 hb0);have HL3 := ae (aB HL2 hb0);have HB3 := ae (HB2.out.trans (hb0.mono HB2.out.size));obtain ⟨b5, hb5⟩ : ∃ b5, w2.heap.size = b5 := ⟨_, rfl⟩;have HGb5 : Hid (w.heap.size <= b5) := ae (by rw [<- hb5]; exact HB2.out.size);have HLb5 : Hid (b5 < (w2.alloc (.cells (cel y).toArray 44)).heap.size) := ae (by rw [World.size_alloc]; omega);rw [hb5] at HX3 ⊢;clear hb5 hb0;generalize w2.alloc (.cells (cel y).toArray 44) = w3 at *;refine aF 1 ?_;go_upto_region 1 with fail;refine af ?_;refine ajB (aC rfl ajL (aij HN (cell_of_row _ b3 0 _ _ _ HP3))) ?_;refine ajB (cj (cs := ([.int .i64 s, .int .i64 m] : List Value)) underlying42 rfl (by kernel_rfl) rfl ajL (aP HL3)) ?_;refine ajB (mt rfl ajL ajL ajL) ?_;refine aw rfl (aA call74 rfl (evc ajL (evc ajL (evc ajL evn)))) ?_;refine (aa6 (sv := wrF b3 b4 b5) (HN.out.below HB3)).mono ?_;rintro e w4 ⟨rfl, b4'⟩;have HB4 := ae (HB3.out.trans (b4'.mono HB3.out.size));clear b4';refine aQ ?_;refine aF 1 ?_;go_upto_region 2 with fail;refine aH 1 ?_;refine ajB (aE false rfl ajL evk rfl) ?_;refine ah ?_;go_upto_region 4 with fail;refine bU 2 ?_;go_wp2_with fail;go_ret;exact ⟨rfl, by rw [HZ0.out]; exact HB4⟩
end
section
variable {w0 ws w w' : World} {H K K' : Nat -> Prop} {p q b1 b2 : Nat} {x : HpS} {R : Ros} {M : aV} {v : Value}
theorem pN {m : Int} (hr : Room M 1) (h : HJ w0 H K w p q M x) (h1 : w.heap[b1]? = some (.cells #[.pointer (some ⟨p, 0, none⟩)] 24 (0, 0))) (h2 : w.heap[b2]? = some (.cells #[.int .i64 m] 3 (0, 0))) : Calls prog 71 #[.pointer (some ⟨b1, 0, none⟩), .pointer (some ⟨b2, 0, none⟩)] w fun e w' =>
  e = .returned (.int .i64 (ez M m)) /\ HJ w0 H K w' p q (fC M m) x /\ cq K w w' := by
 have HJ := ae h.drew;have HRM := ae hr;have HD : Hid (Below w.heap.size w (World.drew w)) := ae (bd ak);have HKD := ae (h.kept HD);have H1 := ae (aB h1 HD);have H2 := ae (aB h2 HD);clear hr h h1 h2;go_enter func71, ntmps71;go_upto_region 1 with fail;refine wp_region_still_tail 5 (by kernel_rfl) (by kernel_rfl) ?_;simp only [ac];refine aN rfl (aC rfl ajL (la ((aP H1) 0 _ rfl))) ?_;simp only [aa];refine aN rfl (bj rfl ajL) ?_;simp only [aa];refine aN rfl (ax rfl ajL oJ) ?_;simp only [aa];refine aN rfl (aC rfl ajL (vj (PHo.c0 HJ.out.hul))) ?_;simp only [aa];refine aN rfl (aC rfl ajL (bY ((aP H2) 0 _ rfl))) ?_;simp only [aa];refine wpStill_nil ?_;change wpList _ _ _ _ _ (World.drew _);refine aw rfl (aA call72 rfl (evc ajL (evc ajL evn))) ?_;refine (HJ.out.flush m HRM).mono ?_;rintro e w2 ⟨rfl, j2, k2⟩;refine aQ ?_;refine aF 1 ?_;go_wp2_with fail;go_ret;exact ⟨rfl, j2, HKD.out.trans k2⟩
def ahl (b1 b2 : Nat) : Fu := ⟨71, [.pointer (some ⟨b1, 0, none⟩), .pointer (some ⟨b2, 0, none⟩)], call71⟩
def ahU (b1 : Nat) : Fu := ⟨69, [.pointer (some ⟨b1, 0, none⟩)], call69⟩
theorem adY {d : Int} (h9 : ez M d = 9) : fC M d = M := by
 unfold fC;unfold ez at h9;by_cases e : iH M d = 0
 ·rw [if_pos e] at h9;unfold aV.fc at h9
  split at h9 <;> omega
 ·rw [if_neg e]
theorem p9 {m : Nat} (hf : aU x.R = true) (hid : x.id ≠ 0 /\ x.id < 18446744073709551616) (hr : Room M 600) (he : x.us <= 4611686018427387000) (hs : x.ev = x.us) (hk : aeL ⟨M, x.id, x.us, x.R⟩ m) (h : HJ w0 H K w p q M x) (h1 : w.heap[b1]? = some (.cells #[.pointer (some ⟨p, 0, none⟩)] 24 (0, 0))) (h2 : w.heap[b2]? = some (.cells #[.int .i64 (m : Int)] 3 (0, 0))) : Calls prog 70 #[.pointer (some ⟨p, 0, none⟩), .int .i64 (m : Int), (ahl b1 b2).val] w fun e w' =>
  e = .returned (.int .i64 (if ez M m = 9 then nh ⟨M, x.id, x.us, x.R⟩ m 7 else ez M m)) /\ HuQ w0 H K w p q x (ii ⟨M, x.id, x.us, x.R⟩ m) True w' := by
 by_cases h9 : ez M m = 9
 ·refine (rv (w0 := w0) (H := H) (K := K) (M := M) (q := q) m (ahl b1 b2) (fun E w' => E = 9 /\ HJ w0 H K w' p q M x /\ cq K w w') hf hid hr he ?_ (fun w' hw => hw.2.1)).mono ?_
  ·refine (pN (m := (m : Int)) (cG hr (by omega)) h h1 h2).mono ?_;rintro e w2 ⟨rfl, j2, k2⟩;rw [adY h9] at j2;exact ⟨_, rfl, h9, j2, k2⟩
  ·rintro e w2 (⟨E, e9, _, e9', _⟩ | ⟨w3, ⟨_, j3, kk⟩, rfl, q3⟩)
   ·exact absurd e9' e9
   ·rw [if_pos h9];unfold ii;rw [if_pos h9];exact ⟨rfl, HuQ.sv (q3.from kk) ⟨fun _ => hk h9, fun _ => trivial⟩⟩
 ·refine (rv (w0 := w0) (H := H) (K := K) (M := M) (q := q) m (ahl b1 b2) (fun E w' => E = ez M m /\ HJ w0 H K w' p q (fC M m) x /\ cq K w w') hf hid hr he ?_ (fun w' hw => absurd hw.1.symm h9)).mono ?_
  ·refine (pN (m := (m : Int)) (cG hr (by omega)) h h1 h2).mono ?_;rintro e w2 ⟨rfl, j2, k2⟩;exact ⟨_, rfl, rfl, j2, k2⟩
  ·rintro e w2 (⟨E, e9, rfl, rfl, j2, kk⟩ | ⟨w3, ⟨e9, _⟩, _⟩)
   ·rw [if_neg h9];unfold ii;rw [if_neg h9];exact ⟨rfl, HuQ.of j2 kk hs hf trivial⟩
   ·exact absurd e9.symm h9
theorem wh {m : Nat} (hf : aU x.R = true) (hid : x.id ≠ 0 /\ x.id < 18446744073709551616) (hr : Room M 600) (he : x.us <= 4611686018427387000) (hs : x.ev = x.us) (hk : aeL ⟨M, x.id, x.us, x.R⟩ m) (h : HJ w0 H K w p q M x) (h1 : w.heap[b1]? = some (.cells #[.pointer (some ⟨p, 0, none⟩)] 24 (0, 0))) : Calls prog 69 #[.int .i64 (m : Int), .pointer (some ⟨b1, 0, none⟩)] w fun e w' =>
  e = .returned (.int .i64 (mM ⟨M, x.id, x.us, x.R⟩ m)) /\ HuQ w0 H K w p q x (ii ⟨M, x.id, x.us, x.R⟩ m) True w' := by
 have HRC := ae (fun (w3 : World) (b2 : Nat) => p9 (p := p) (q := q) (w0 := w0) (H := H) (K := K) (w := w3) (b1 := b1) (b2 := b2) (m := m) hf hid hr he hs hk);have HJ := ae h;have H1 := ae h1;obtain ⟨z0, hz0⟩ : ∃ z0 : HuS, (⟨M, x.id, x.us, x.R⟩ : HuS) = z0 := ⟨_, rfl⟩;have hM : M = z0.M := by rw [<- hz0]
 rw [hz0] at HRC ⊢;obtain ⟨ce, hce⟩ : ∃ ce, (if ez M m = 9 then nh z0 m 7 else ez M m) = ce := ⟨_, rfl⟩;have hE : mM z0 m = if ce = 8 then 8 else 0 := by
  rw [<- hce];unfold mM;rw [<- hM];by_cases e : ez M m = 9
  ·rw [if_pos e, if_pos e]
  ·rw [if_neg e, if_neg e]
 rw [hce] at HRC;have HFE := ae hE;clear hf hid hr he hs hk h h1 hz0 hM hce hE;go_enter func69, ntmps69;go_upto_region 0 with fail;refine af ?_;refine ajB (eM (v := .int .i64 (m : Int)) rfl rfl ajL) ?_;have hb0 := (Below.refl w.heap.size w).alloc aj (.cells #[.int .i64 (m : Int)] 3);have HI2 := ae (heap_alloc_new w (.cells #[.int .i64 (m : Int)] 3));have HP2 := ae (aB H1 hb0);have HB2 := ae hb0;obtain ⟨b2, hb2⟩ : ∃ b2, w.heap.size = b2 := ⟨_, rfl⟩;rw [hb2] at HI2 ⊢;clear hb2 hb0;generalize w.alloc (.cells #[.int .i64 (m : Int)] 3) = w1 at *;refine aF 1 ?_;go_upto_region 1 with fail;refine af ?_;refine ajB (aC rfl ajL (la ((aP HP2) 0 _ rfl))) ?_;refine ajB (aC rfl ajL (bY ((aP HI2) 0 _ rfl))) ?_;refine ajB (qJ rfl ajL ajL) ?_;refine aw rfl (aA call70 rfl (evc ajL (evc ajL (evc ajL evn)))) ?_;refine (HRC.out w1 b2 (HJ.out.below HB2) HP2 HI2).mono ?_;rintro e w4 ⟨rfl, q4⟩;have HQ4 := ae (q4.from (HJ.out.kept HB2));clear q4;refine aQ ?_;refine aF 1 ?_;by_cases h8 : ce = 8
 ·subst h8;have HFT : Hid (mM z0 m = 8) := ae (by rw [HFE.out, if_pos rfl]);clear HFE;go_upto_region 2 with fail;refine aH 1 ?_;refine ajB (aE true rfl ajL evk rfl) ?_;refine ah ?_;go_upto_region 3 with fail;refine bU 2 ?_;go_wp2_with fail;go_ret;exact ⟨by rw [HFT.out]; rfl, HQ4⟩
 have H8 : Hid ((ce == 8) = false) := ae (au h8);have HFN : Hid (mM z0 m = 0) := ae (by rw [HFE.out, if_neg h8]);clear h8;go_upto_region 2 with fail;refine aH 1 ?_;refine ajB (aE false rfl ajL evk H8) ?_;refine ah ?_;go_upto_region 4 with fail;refine bU 1 ?_;go_wp2_with fail;go_ret;exact ⟨by rw [HFN.out]; rfl, HQ4⟩
def FlQ (w0 : World) (H K : Nat -> Prop) (w : World) (p q id : Nat) (h' : HuS) (w' : World) : Prop :=
 cq K w w' /\ HJ w0 H K w' p q h'.M ⟨id, h'.ev, h'.ev, h'.R⟩ /\ aU h'.R = true /\ h'.id = id
theorem adN {h : HuS} {m : Nat} (hf : aU h.R = true) (hr : HRm h) : fg h.R (ii h m).R := by
 unfold ii
 split
 ·have hk := fg.los hf (m : Int);exact hk.trans (sm (k := 56) 17 (ko h m) hk.fine (cG hr.1 (by omega))).2.1
 ·exact fg.refl hf
theorem qk {h0 : HuS} (hid : h0.id ≠ 0 /\ h0.id < 18446744073709551616) (hf : aU h0.R = true) (hp : pR h0.R.m.toNat 0 h0) (h : HJ w0 H K w p q h0.M ⟨h0.id, h0.ev, h0.ev, h0.R⟩) (k1 : K b1) (h1 : w.heap[b1]? = some (.cells #[.pointer (some ⟨p, 0, none⟩)] 24 (0, 0))) :
  Calls prog 68 #[.pointer (some ⟨p, 3, none⟩), (ahU b1).val] w fun e w' => ∃ E : Int, e = .returned (.int .i64 E) /\ (E = (kI h0).1 /\ FlQ w0 H K w p q h0.id (kI h0).2 w') := by
 have hm := lg hf;have hm0 : 0 <= h0.R.m := by have hf' := hf; unfold aU at hf'; simp only [Bool.and_eq_true] at hf'; have := ed hf'.1.1.1; omega
 obtain ⟨N, hN⟩ : ∃ N : Nat, h0.R.m = (N : Int) := ⟨h0.R.m.toNat, by omega⟩;have hN' : h0.R.m.toNat = N := by rw [hN]; rfl
 obtain ⟨O, hO⟩ : ∃ O, kI h0 = O := ⟨_, rfl⟩;rw [hO];unfold kI at hO;rw [hN'] at hO hm hp;refine x6 (N := N) (ahU b1) (fun m R' w' => ∃ h' : HuS, R' = h'.R /\ m <= N /\ FlQ w0 H K w p q h0.id h' w' /\ mb (N - m) m h' = O /\ pR (N - m) m h' /\ h'.R.m = (N : Int)) (fun E w' => E = O.1 /\ FlQ w0 H K w p q h0.id O.2 w') hm ?_ ?_ ?_ ?_ (R := h0.R) ⟨h0, rfl, Nat.zero_le _, ⟨cq.refl _ _, h, hf, rfl⟩, hO, hp, hN⟩
 ·rintro m R' w' ⟨h', rfl, _, l, _, _, e⟩;exact ⟨PHo.ros l.2.1.hul, e⟩
 ·rintro m R' w' hlt hs ⟨h', rfl, _, l, ho, hpp, e⟩;obtain ⟨k0, hk0⟩ : ∃ k0, N - m = k0 + 1 := ⟨N - m - 1, by omega⟩;rw [hk0, mb, if_pos hs] at ho;rw [hk0, pR] at hpp;refine ⟨h', rfl, hlt, l, ?_, ?_, e⟩
  ·rw [show N - (m + 1) = k0 by omega]; exact ho
  ·rw [show N - (m + 1) = k0 by omega]; exact hpp.1 hs
 ·rintro m R' w' hlt hs ⟨h', rfl, _, ⟨l1, l2, l3, l4⟩, ho, hpp, e⟩;obtain ⟨k0, hk0⟩ : ∃ k0, N - m = k0 + 1 := ⟨N - m - 1, by omega⟩;rw [hk0, mb, if_neg hs] at ho;rw [hk0, pR] at hpp;obtain ⟨g1, g2, g3⟩ := hpp.2 hs;have hK := (adN (m := m) l3 g1).m;obtain ⟨M', id', ev', R'⟩ := h';simp only at l2 l3 l4 e hs;subst l4;refine (wh (x := ⟨h0.id, ev', ev', R'⟩) (M := M') (m := m) l3 hid g1.1 g1.2 rfl g2 l2 ((l1 b1 k1).trans h1)).mono ?_;rintro e2 w2 ⟨rfl, q1, q2, _⟩;obtain ⟨j1, j2, j3, _⟩ := q2 trivial;refine ⟨_, rfl, ?_⟩;by_cases h0' : mM ⟨M', h0.id, ev', R'⟩ m = 0
  ·rw [if_pos h0'] at ho;refine .inl ⟨h0', (ii ⟨M', h0.id, ev', R'⟩ m).R, ii ⟨M', h0.id, ev', R'⟩ m, rfl, hlt, ⟨l1.trans q1, j1, j2, j3⟩, ?_, ?_, hK.trans e⟩
   ·rw [show N - (m + 1) = k0 by omega]; exact ho
   ·rw [show N - (m + 1) = k0 by omega]; exact g3 h0'
  ·rw [if_neg h0'] at ho;refine .inr ⟨h0', ?_⟩;rw [<- ho];exact ⟨rfl, l1.trans q1, j1, j2, j3⟩
 ·rintro R' w' ⟨h', rfl, _, l, ho, _, _⟩;rw [Nat.sub_self, mb] at ho;rw [<- ho];exact ⟨rfl, l⟩
theorem FlQ.less {id : Nat} {h' : HuS} (h : FlQ w0 H K w p q id h' w') (hk : ∀ b, K' b -> K b) : FlQ w0 H K' w p q id h' w' := ⟨h.1.less hk, h.2.1.less hk, h.2.2⟩
theorem FlQ.below {id : Nat} {h' : HuS} {w2 : World} (h : FlQ w0 H K w p q id h' w') (hb : Below w'.heap.size w' w2) : FlQ w0 H K w p q id h' w2 := ⟨h.1.trans (h.2.1.kept hb), h.2.1.below hb, h.2.2⟩
theorem FlQ.from {id : Nat} {h' : HuS} (h : FlQ w0 H K w p q id h' w') (hk : cq K ws w) : FlQ w0 H K ws p q id h' w' := ⟨hk.trans h.1, h.2⟩
theorem aa9 {h0 : HuS} (hid : h0.id ≠ 0 /\ h0.id < 18446744073709551616) (hf : aU h0.R = true) (hp : ey h0.R = false -> pR h0.R.m.toNat 0 h0) (h : HJ w0 H K w p q h0.M ⟨h0.id, h0.ev, h0.ev, h0.R⟩) : Calls prog 34 #[.pointer (some ⟨p, 0, none⟩)] w fun e w' =>
  e = .returned (.int .i64 (oI h0)) /\ FlQ w0 H K w p q h0.id (iK h0) w' := by
 have HEA := ae (fun (w3 : World) (b1 : Nat) (g : ey h0.R = false) => qk (p := p) (q := q) (w0 := w0) (H := H) (K := fun b => K b \/ b = b1) (w := w3) (b1 := b1) hid hf (hp g));have HJ := ae h;have HF := ae hf;clear hid hp h hf;go_enter func34, ntmps34;go_upto_region 0 with fail;refine af ?_;refine ajB (eM (v := .pointer (some ⟨p, 0, none⟩)) rfl rfl ajL) ?_;have hb0 := (Below.refl w.heap.size w).alloc aj (.cells #[.pointer (some ⟨p, 0, none⟩)] 24);have HP1 := ae (heap_alloc_new w (.cells #[.pointer (some ⟨p, 0, none⟩)] 24));have HB1 := ae hb0;obtain ⟨b1, hb1⟩ : ∃ b1, w.heap.size = b1 := ⟨_, rfl⟩;have HGb1 : Hid (w.heap.size <= b1) := ae (by rw [<- hb1]; exact aj);have HLb1 : Hid (b1 < (w.alloc (.cells #[.pointer (some ⟨p, 0, none⟩)] 24)).heap.size) := ae (by rw [World.size_alloc]; omega);rw [hb1] at HP1 ⊢;clear hb1 hb0;generalize w.alloc (.cells #[.pointer (some ⟨p, 0, none⟩)] 24) = w1 at *;refine aF 1 ?_;have HJ1 := ae (HJ.out.guard (K' := fun b => K b \/ b = b1) HB1 fun b e => by rcases e with e | e; exact .inl e; subst e; exact .inr ⟨HGb1, HLb1⟩);have HK1 := ae (HJ.out.kept HB1);clear HGb1 HLb1;go_upto_region 1 with fail;refine af ?_;refine ajB (aC rfl ajL (la ((aP HP1) 0 _ rfl))) ?_;refine aw rfl (aA call67 rfl (evc ajL evn)) ?_;refine (fp HJ1.out.hul).mono ?_;rintro e w2 ⟨rfl, b2⟩;have HJ2 := ae (HJ1.out.below b2);have HK2 := ae (HK1.out.trans ((HJ1.out.kept b2).less fun b e => .inl e));have HP2 := ae (aB HP1 b2);clear b2;refine aQ ?_;refine aF 1 ?_;by_cases hfa : ey h0.R = true
 ·simp only [if_pos hfa];have HE : Hid (oI h0 = 16 /\ iK h0 = h0) := ae ⟨if_pos hfa, if_pos hfa⟩;clear hfa;go_upto_region 2 with fail;refine aH 1 ?_;refine ajB (aJ true rfl ajL evk rfl) ?_;refine ah ?_;go_upto_region 3 with fail;refine bU 2 ?_;go_wp2_with fail;go_ret;refine ⟨by rw [HE.out.1]; rfl, ?_⟩;rw [HE.out.2];exact ⟨HK2, HJ2.out.less fun b e => .inl e, HF, rfl⟩
 simp only [if_neg hfa];have HG : Hid (ey h0.R = false) := ae (by simpa using hfa);have HE : Hid (oI h0 = (if (kI h0).1 = 0 then (if ey (kI h0).2.R = true then 16 else 0) else (kI h0).1) /\ iK h0 = (kI h0).2) := ae ⟨if_neg hfa, if_neg hfa⟩;clear hfa;go_upto_region 2 with fail;refine aH 1 ?_;refine ajB (aJ false rfl ajL evk rfl) ?_;refine ah ?_;go_upto_region 4 with fail;refine af ?_;refine ajB (aC rfl ajL (la ((aP HP2) 0 _ rfl))) ?_;refine runs 1 ?_;refine ajB (ax rfl ajL pF) ?_;refine ajB (aac rfl ajL) ?_;refine aw rfl (aA call68 rfl (evc ajL (evc ajL evn))) ?_;refine (HEA.out w2 b1 HG HJ2 (.inr rfl) HP2).mono ?_;rintro e w3 ⟨E, rfl, hE, q3⟩;have HQ3 := ae q3;rw [<- hE] at HE;clear hE q3;refine aQ ?_;refine aF 1 ?_;have HP3 := ae ((HQ3.out.1 b1 (.inr rfl)).trans HP2);by_cases h0' : E = 0
 ·obtain ⟨r, hr⟩ : ∃ r : Int, (if ey (kI h0).2.R = true then (16 : Int) else 0) = r := ⟨_, rfl⟩;have HE0 : Hid (oI h0 = r /\ iK h0 = (kI h0).2) := ae ⟨by rw [HE.out.1, if_pos h0', hr], HE.out.2⟩;have HRR := ae hr;subst h0';clear HE hr HEA;go_upto_region 5 with fail;refine aH 1 ?_;refine ajB (aJ false rfl ajL evk rfl) ?_;refine ah ?_;go_upto_region 7 with fail;refine af ?_;refine ajB (aC rfl ajL (la ((aP HP3) 0 _ rfl))) ?_;refine aw rfl (aA call67 rfl (evc ajL evn)) ?_;refine (fp HQ3.out.2.1.hul).mono ?_;rintro e w4 ⟨rfl, b4⟩;rw [HRR.out];have HQ4 := ae ((HQ3.out.below b4).less fun b e => .inl e);clear b4;refine aQ ?_;refine aF 1 ?_;go_wp2_with fail;go_ret;refine ⟨by rw [HE0.out.1]; rfl, ?_⟩;rw [HE0.out.2];exact HQ4.out.from HK2
 have HNE : Hid ((E != 0) = true) := ae (bne_iff_ne.2 h0');have HN0 := ae h0';clear h0';go_upto_region 5 with fail;refine aH 1 ?_;refine ajB (aJ true rfl ajL evk HNE) ?_;refine ah ?_;go_upto_region 6 with fail;refine bU 2 ?_;go_wp2_with fail;go_ret;refine ⟨by rw [HE.out.1, if_neg HN0.out]; rfl, ?_⟩;rw [HE.out.2];exact (HQ3.out.less fun b e => .inl e).from HK2.out
end
theorem afX : (prog.info? 60).map (fun i => i.zero) = some (some (.agg (phC none ⟨0, 0, 0, bF⟩).toArray)) := by kernel_rfl
section
variable {ρ : Operand -> Value} {o : Oper} {x1 x2 x3 x4 x5 : Operand} {w : World} {q : Nat} {y : HpS}
theorem zI (q : Nat) (y : HpS) : (Instr.build 60 #[(0, .pointer (some ⟨q, 0, none⟩)), (1, .int .u64 (y.id : Int)), (2, .int .u64 (y.ev : Int)), (3, ros y.R), (4, .int .u64 (y.us : Int))]).run prog w = .ok (.agg (phC (some ⟨q, 0, none⟩) y).toArray) w := by
 have hz := fQ afX w;have h0 := db (place := fun i => (#[(0, 1), (1, 1), (2, 1), (3, 21), (24, 1)] : Array (Nat × Nat))[i]?) (i := 0) (off := 0) (size := 1) (v := .pointer (some ⟨q, 0, none⟩)) (pre := []) (mid := [.pointer none]) (post := .int .u64 0 :: .int .u64 0 :: (aX bF ++ [.int .u64 0])) (vs := [.pointer (some ⟨q, 0, none⟩)]) (rest := [(1, .int .u64 (y.id : Int)), (2, .int .u64 (y.ev : Int)), (3, ros y.R), (4, .int .u64 (y.us : Int))]) rfl rfl rfl rfl rfl;have h1 := db (place := fun i => (#[(0, 1), (1, 1), (2, 1), (3, 21), (24, 1)] : Array (Nat × Nat))[i]?) (i := 1) (off := 1) (size := 1) (v := .int .u64 (y.id : Int)) (pre := [.pointer (some ⟨q, 0, none⟩)]) (mid := [.int .u64 0]) (post := .int .u64 0 :: (aX bF ++ [.int .u64 0])) (vs := [.int .u64 (y.id : Int)]) (rest := [(2, .int .u64 (y.ev : Int)), (3, ros y.R), (4, .int .u64 (y.us : Int))]) rfl rfl rfl rfl rfl;have h2 := db (place := fun i => (#[(0, 1), (1, 1), (2, 1), (3, 21), (24, 1)] : Array (Nat × Nat))[i]?) (i := 2) (off := 2) (size := 1) (v := .int .u64 (y.ev : Int)) (pre := [.pointer (some ⟨q, 0, none⟩), .int .u64 (y.id : Int)]) (mid := [.int .u64 0]) (post := aX bF ++ [.int .u64 0]) (vs := [.int .u64 (y.ev : Int)]) (rest := [(3, ros y.R), (4, .int .u64 (y.us : Int))]) rfl rfl rfl rfl rfl;have h3 := db (place := fun i => (#[(0, 1), (1, 1), (2, 1), (3, 21), (24, 1)] : Array (Nat × Nat))[i]?) (i := 3) (off := 3) (size := 21) (v := ros y.R) (pre := [.pointer (some ⟨q, 0, none⟩), .int .u64 (y.id : Int), .int .u64 (y.ev : Int)]) (mid := aX bF) (post := [.int .u64 0]) (vs := aX y.R) (rest := [(4, .int .u64 (y.us : Int))]) rfl rfl (bq y.R) rfl (bq bF);have h4 := db (place := fun i => (#[(0, 1), (1, 1), (2, 1), (3, 21), (24, 1)] : Array (Nat × Nat))[i]?) (i := 4) (off := 24) (size := 1) (v := .int .u64 (y.us : Int)) (pre := .pointer (some ⟨q, 0, none⟩) :: .int .u64 (y.id : Int) :: .int .u64 (y.ev : Int) :: aX y.R) (mid := [.int .u64 0]) (post := []) (vs := [.int .u64 (y.us : Int)]) (rest := []) rfl rfl rfl (show (Value.pointer (some ⟨q, 0, none⟩) :: Value.int .u64 (y.id : Int) :: Value.int .u64 (y.ev : Int) :: aX y.R).length = 24 by rw [List.length_cons, List.length_cons, List.length_cons, bq]) rfl;simp only [List.nil_append, List.append_nil, List.cons_append] at h0 h1 h2 h3 h4;have h6 := h0.trans (h1.trans (h2.trans (h3.trans h4)));have hz' : (zeroValue 60).run prog w = .ok (.agg (.pointer none :: .int .u64 0 :: .int .u64 0 :: (aX bF ++ [.int .u64 0])).toArray) w := hz;have hc : (Value.agg (.pointer none :: .int .u64 0 :: .int .u64 0 :: (aX bF ++ [.int .u64 0])).toArray).cells = (.pointer none :: .int .u64 0 :: .int .u64 0 :: (aX bF ++ [.int .u64 0])).toArray := rfl;simp only [Instr.build, Sem.run_bind, hz', run_underlying underlying60, Result.andThen_ok, hc];refine Eq.trans (congrArg (fun r => Result.andThen r _) (?h : _ = Result.ok #[(0, 1), (1, 1), (2, 1), (3, 21), (24, 1)] w)) ?_
 case h => kernel_rfl
 simp only [Result.andThen_ok];have h5 : Instr.fill (fun i => (#[(0, 1), (1, 1), (2, 1), (3, 21), (24, 1)] : Array (Nat × Nat))[i]?) (phC (some ⟨q, 0, none⟩) y).toArray [] = some (phC (some ⟨q, 0, none⟩) y).toArray := by rw [Instr.fill]
 rw [h6.trans h5]
 rfl
theorem vg (ho : o.op = .build 60 #[(0, x1), (1, x2), (2, x3), (3, x4), (4, x5)]) (h1 : ρ x1 = .pointer (some ⟨q, 0, none⟩)) (h2 : ρ x2 = .int .u64 (y.id : Int)) (h3 : ρ x3 = .int .u64 (y.ev : Int)) (h4 : ρ x4 = ros y.R) (h5 : ρ x5 = .int .u64 (y.us : Int)) : (execOp ρ o).run prog w = .ok (.value (.agg (phC (some ⟨q, 0, none⟩) y).toArray)) w := by
 unfold execOp;simp only [ho, h1, h2, h3, h4, h5, List.map_toArray, List.map_cons, List.map_nil, Sem.run_bind, zI, Result.andThen_ok, Sem.run_pure]
end
section
variable {w : World} {F : Nat -> Prop} {q : Nat} {M : aV}
def oz (M : aV) (x : Ros) : Bool := decide ((M.ds.length : Int) = x.m + 1) && lE M x x.m.toNat
theorem xQ (x : Ros) (hg : dA x = true) (hb : bu.Bn w F q M) : Calls prog 43 #[.pointer (some ⟨q, 0, none⟩), geo x] w fun e w' => e = .returned (.bool (oz M x)) /\ Below w.heap.size w w' := by
 obtain ⟨z0, hz0⟩ : ∃ z0, z0 = w.heap.size := ⟨_, rfl⟩;rw [<- hz0];have HZ0 := ae hz0;obtain ⟨g1, g2, g3, g4, _⟩ := gL.1 hg;obtain ⟨N, hN⟩ : ∃ N : Nat, x.m = (N : Int) := ⟨x.m.toNat, by omega⟩;have hN' : x.m.toNat = N := by rw [hN]; rfl
 obtain ⟨fb, hfb⟩ : ∃ fb, oz M x = fb := ⟨_, rfl⟩;rw [hfb];have HFB : Hid ((decide ((M.ds.length : Int) = x.m + 1) && lE M x N) = fb) := ae (by rw [<- hfb]; unfold oz; rw [hN']);have HN := ae hN;have HN16 : Hid (N <= 16) := ae (by omega);have HWA : Hid (IntKind.i64.wrap (x.m + 1) = x.m + 1) := ae (eW ⟨by omega, by omega⟩);have HWS : Hid (IntKind.i64.wrap (x.s - 1) = x.s - 1) := ae (eW ⟨by omega, by omega⟩);have hh : has 64 (x.s - 1) = true := fW.2 (by omega);have HSN : Hid (aaq (x.s - 1) = x.s + 1) := ae (by unfold aaq; rw [if_pos hh]; omega);have HSE : Hid (zQ (x.s - 1) = 0) := ae (by unfold zQ; rw [if_pos hh]);have hb0 := (Below.refl w.heap.size w).alloc aj (.cells (dR x).toArray 51);have HG := ae (heap_alloc_new w (.cells (dR x).toArray 51));have HB := ae hb0;have HBN := ae (bu.below hb hb0);clear hz0 g1 g2 g3 g4 hN hN' hfb hh hg hb hb0;go_enter func43, ntmps43;go_upto_region 0 with fail;refine af ?_;refine ajB (me (y := x) rfl ajL) ?_;generalize w.alloc (.cells (dR x).toArray 51) = w1 at *;refine aF 1 ?_;cases hd : decide ((M.ds.length : Int) = x.m + 1)
 ·have HNE : Hid (((M.ds.length : Int) != x.m + 1) = true) := ae (bne_iff_ne.2 (of_decide_eq_false hd));have HFF : Hid (fb = false) := ae (by rw [<- HFB.out, hd]; rfl);clear hd;go_upto_region 1 with fail;refine aR (B := w1.heap.size) (by kernel_rfl) ?_;refine cy 1 ?_;refine bO rfl (fun _ => aA call41 rfl (evc ajL evn)) (bw aj fun _ hw => bu.devices (bu.below HBN hw)) ?_;simp only [aa];refine ajJ (fun _ hw => ax rfl ajL ov) ?_;refine ajJ (fun _ hw => aC rfl ajL (bY ((aP (aB HG hw)) 0 _ rfl))) ?_;refine ajJ (fun _ hw => bL rfl ajL evk HWA) ?_;refine ajJ (fun _ hw => aJ true rfl ajL ajL HNE) ?_;refine wpQuiet_nil ?_;intro w2 hw;have HB2 := ae (HB.out.trans (hw.mono HB.out.size));have HG2 := ae (aB HG hw);have HBN2 := ae (bu.below HBN hw);clear hw;go_upto_region 2 with fail;refine bU 1 ?_;go_wp2_with fail;go_ret;exact ⟨by rw [HFF.out]; rfl, by rw [HZ0.out]; exact HB2⟩
 have HNE : Hid (((M.ds.length : Int) != x.m + 1) = false) := ae (by rw [of_decide_eq_true hd]; simp);have HFF : Hid (lE M x N = fb) := ae (by rw [<- HFB.out, hd]; rfl);clear hd;go_upto_region 1 with fail;refine aR (B := w1.heap.size) (by kernel_rfl) ?_;refine cy 1 ?_;refine bO rfl (fun _ => aA call41 rfl (evc ajL evn)) (bw aj fun _ hw => bu.devices (bu.below HBN hw)) ?_;simp only [aa];refine ajJ (fun _ hw => ax rfl ajL ov) ?_;refine ajJ (fun _ hw => aC rfl ajL (bY ((aP (aB HG hw)) 0 _ rfl))) ?_;refine ajJ (fun _ hw => bL rfl ajL evk HWA) ?_;refine ajJ (fun _ hw => aJ false rfl ajL ajL HNE) ?_;refine wpQuiet_nil ?_;intro w2 hw;have HB2 := ae (HB.out.trans (hw.mono HB.out.size));have HG2 := ae (aB HG hw);have HBN2 := ae (bu.below HBN hw);clear hw;go_upto_region 3 with fail;refine af ?_;refine ajB (ax rfl ajL abH) ?_;refine ajB (aC rfl ajL (bY ((aP HG2) 1 _ rfl))) ?_;refine ajB (acz rfl ajL evk HWS) ?_;refine aw rfl (aA call80 rfl (evc ajL evn)) ?_;refine (mS (x.s - 1) w2).mono ?_;rintro e w3 ⟨rfl, b3⟩;rw [HSN.out, HSE.out];have HB3 := ae (HB2.out.trans (b3.mono HB2.out.size));have HG3 := ae (aB HG2 b3);have HBN3 := ae (bu.below HBN2 b3);clear b3;refine aQ ?_;refine runs 3 ?_;refine aF 2 ?_;go_upto_region 4 with fail;refine af ?_;refine ajB (ax rfl ajL ov) ?_;refine ajB (aC rfl ajL (bY (k := (N : Int)) (by rw [<- HN.out]; exact (aP HG3) 0 _ rfl))) ?_;refine aF 1 ?_;go_wp2_with fail
 go_loopw [23] (fun z wr => ∃ i : Nat, z = .int .i64 i /\ i <= N /\ Below w.heap.size w wr /\ bu.Bn wr F q M /\ lE M x i = true) (fun z _ => N - (intOf z).toNat)
 case atStart => exact ⟨0, by go_num, Nat.zero_le _, HB3, HBN3, rfl⟩
 case round =>
  obtain ⟨i, rfl, hi, hb, hn, hs⟩ := hrel;have HBr := ae hb;have HNr := ae hn;have HSr := ae hs;clear hb hn hs HB3 HG3 HBN3;by_cases hlt : i < N
  ·have HI := ae hlt;have HLT : Hid (decide ((i : Int) < (N : Int)) = true) := ae (ao (by omega));have HIA : Hid (IntKind.i64.wrap ((i : Int) + 1) = ((i + 1 : Nat) : Int)) := ae (by have := HN16.out; rw [eW ⟨by omega, by omega⟩]; omega);clear hi hlt;go_upto_region 5 with fail;refine af ?_;refine ajB (aZ true rfl ajL ajL HLT) ?_;refine ah ?_;go_upto_region 6 with fail;refine bU 2 ?_;go_upto_region 7 with fail;refine aH 2 ?_;refine aw rfl (aA call81 rfl (evc ajL (evc ajL evn))) ?_;refine (bu.fG (i : Int) HNr).mono ?_;rintro e w5 ⟨rfl, b5⟩;have HB5 := ae (HBr.out.trans (b5.mono HBr.out.size));have HN5 := ae (bu.below HNr b5);clear b5;refine aQ ?_;refine runs 1 ?_;by_cases hse : ia M (i : Int) < 2 + x.s
   ·have HLE : Hid (decide (ia M (i : Int) <= x.s + 1) = true) := ae (ao (by omega));have HF2 : Hid (fb = false) := ae (by rw [<- HFF.out]; exact sp hse HI);clear hse;refine ajB (lP true rfl ajL ajL HLE) ?_;refine ah ?_;go_upto_region 8 with fail;refine bU 1 ?_;go_wp2_with fail;go_ret;exact ⟨by rw [HF2.out]; rfl, by rw [HZ0.out]; exact HB5⟩
   have HLE : Hid (decide (ia M (i : Int) <= x.s + 1) = false) := ae (am (by omega));have HS1 := ae (mf HSr hse);clear hse;refine ajB (lP false rfl ajL ajL HLE) ?_;refine ah ?_;go_upto_region 9 with fail;refine af ?_;refine ajB (bL rfl ajL evk HIA) ?_;refine aF 1 ?_;go_wp2_with fail;go_roundw
   case rel => exact ⟨i + 1, by go_num, HI, HB5, HN5, HS1⟩
   case measure => have := HI.out; simp [intOf]; omega
  have hin : i = N := by omega
  subst hin;have HLT : Hid (decide ((i : Int) < (i : Int)) = false) := ae (am (by omega));have HF2 : Hid (fb = true) := ae (by rw [<- HFF.out]; exact HSr);clear hi hlt;go_upto_region 5 with fail;refine af ?_;refine ajB (aZ false rfl ajL ajL HLT) ?_;refine ah ?_;go_upto_region 10 with fail;refine aH 1 ?_;refine ajB (aE true rfl ajL evk rfl) ?_;refine aF 1 ?_;go_wp2_with fail;go_ret;exact ⟨by rw [HF2.out]; rfl, by rw [HZ0.out]; exact HBr⟩
theorem kt (M : aV) (id en : Nat) (x : Ros) : f9 M id en x = (!decide (id = 0) && (!decide (2305843009213693952 < en) && (aU x && oz M x))) := rfl
def qU (w : World) (q : Nat) (M : aV) (id en : Nat) (x : Ros) (e : Ending) (w' : World) : Prop :=
 Below w.heap.size w w' /\ ((f9 M id en x = true /\ ∃ p, e = .returned (.tuple #[.pointer (some ⟨p, 0, none⟩), .int .i64 0]) /\ PHu w' p q ⟨id, en, en, x⟩ /\ w.heap.size <= p) \/ (f9 M id en x = false /\ e = .returned (.tuple #[.pointer none, .int .i64 2])))
theorem adU (id en : Nat) (x : Ros) (hb : bu.Bn w F q M) (h0 : id = 0) : Calls prog 17 #[.pointer (some ⟨q, 0, none⟩), .int .u64 (id : Int), .int .u64 (en : Int), ros x] w (qU w q M id en x) := by
 have hb0 := (Below.refl w.heap.size w).alloc aj (.cells (aX x).toArray 58);have HR1 := ae (bD.new w x);have HB1 := ae hb0;have HBN := ae (bu.below hb hb0);have HD : Hid (((M.ds.length : Int) == 0) = false) := ae (by have := (bu.wf hb).one; exact au (by omega));have HI0 : Hid (((id : Int) == 0) = true) := ae (by rw [h0]; rfl);have HNO : Hid (f9 M id en x = false) := ae (by rw [kt, ao h0]; rfl);clear h0;clear hb hb0;go_enter func17, ntmps17;go_upto_region 0 with fail;refine af ?_;refine ajB (aY rfl ajL) ?_;generalize w.alloc (.cells (aX x).toArray 58) = w1 at *;refine aF 2 ?_;go_upto_region 1 with fail;refine aH 1 ?_;refine aw rfl (aA call41 rfl (evc ajL evn)) ?_;refine (bu.devices HBN).mono ?_;rintro e w2 ⟨rfl, b2⟩;have HB2 := ae (HB1.out.trans (b2.mono HB1.out.size));have HR2 : Hid (bD w2 w.heap.size x) := ae (aB HR1 b2);have HBN2 := ae (bu.below HBN b2);clear b2;refine aQ ?_;refine ajB (aE false rfl ajL evk HD) ?_;refine ah ?_;go_upto_region 3 with fail;refine aH 1 ?_;refine ajB (aE true rfl ajL evk HI0) ?_;refine a6 2 rfl (aL rfl ajL) (by kernel_rfl) ?_;simp only [bH, ac, aa];refine runs 1 ?_;refine a6 3 rfl (aL rfl ajL) (by kernel_rfl) ?_;simp only [bH, ac, aa];refine runs 1 ?_;refine a6 5 rfl (aL rfl ajL) (by kernel_rfl) ?_;simp only [bH, ac, aa];refine aF 1 ?_;go_upto_region 4 with fail;refine bU 2 ?_;go_wp2_with fail;go_ret2;exact ⟨HB2, .inr ⟨HNO, rfl⟩⟩
theorem aeC (id en : Nat) (x : Ros) (hb : bu.Bn w F q M) (h0 : id ≠ 0) (h1 : 2305843009213693952 < en) : Calls prog 17 #[.pointer (some ⟨q, 0, none⟩), .int .u64 (id : Int), .int .u64 (en : Int), ros x] w (qU w q M id en x) := by
 have hb0 := (Below.refl w.heap.size w).alloc aj (.cells (aX x).toArray 58);have HR1 := ae (bD.new w x);have HB1 := ae hb0;have HBN := ae (bu.below hb hb0);have HD : Hid (((M.ds.length : Int) == 0) = false) := ae (by have := (bu.wf hb).one; exact au (by omega));have HI0 : Hid (((id : Int) == 0) = false) := ae (au (by omega));have HE0 : Hid (decide ((2305843009213693952 : Int) < (en : Int)) = true) := ae (ao (by omega));have HNO : Hid (f9 M id en x = false) := ae (by rw [kt, ao h1]; simp);clear h0 h1;clear hb hb0;go_enter func17, ntmps17;go_upto_region 0 with fail;refine af ?_;refine ajB (aY rfl ajL) ?_;generalize w.alloc (.cells (aX x).toArray 58) = w1 at *;refine aF 2 ?_;go_upto_region 1 with fail;refine aH 1 ?_;refine aw rfl (aA call41 rfl (evc ajL evn)) ?_;refine (bu.devices HBN).mono ?_;rintro e w2 ⟨rfl, b2⟩;have HB2 := ae (HB1.out.trans (b2.mono HB1.out.size));have HR2 : Hid (bD w2 w.heap.size x) := ae (aB HR1 b2);have HBN2 := ae (bu.below HBN b2);clear b2;refine aQ ?_;refine ajB (aE false rfl ajL evk HD) ?_;refine ah ?_;go_upto_region 3 with fail;refine aH 1 ?_;refine ajB (aE false rfl ajL evk HI0) ?_;refine runs 2 ?_;refine ajI (dC true rfl ajL evk HE0) ?_;refine runs 1 ?_;refine a6 3 rfl (aL rfl ajL) (by kernel_rfl) ?_;simp only [bH, ac, aa];refine runs 1 ?_;refine a6 5 rfl (aL rfl ajL) (by kernel_rfl) ?_;simp only [bH, ac, aa];refine aF 1 ?_;go_upto_region 4 with fail;refine bU 2 ?_;go_wp2_with fail;go_ret2;exact ⟨HB2, .inr ⟨HNO, rfl⟩⟩
theorem adM (id en : Nat) (x : Ros) (hb : bu.Bn w F q M) (h0 : id ≠ 0) (h1 : ¬ 2305843009213693952 < en) (h2 : aU x = false) : Calls prog 17 #[.pointer (some ⟨q, 0, none⟩), .int .u64 (id : Int), .int .u64 (en : Int), ros x] w (qU w q M id en x) := by
 have hb0 := (Below.refl w.heap.size w).alloc aj (.cells (aX x).toArray 58);have HR1 := ae (bD.new w x);have HB1 := ae hb0;have HBN := ae (bu.below hb hb0);have HD : Hid (((M.ds.length : Int) == 0) = false) := ae (by have := (bu.wf hb).one; exact au (by omega));have HI0 : Hid (((id : Int) == 0) = false) := ae (au (by omega));have HE0 : Hid (decide ((2305843009213693952 : Int) < (en : Int)) = false) := ae (am (by omega));have HM := ae h2;have HNO : Hid (f9 M id en x = false) := ae (by rw [kt, h2]; simp);clear h0 h1 h2;clear hb hb0;go_enter func17, ntmps17;go_upto_region 0 with fail;refine af ?_;refine ajB (aY rfl ajL) ?_;generalize w.alloc (.cells (aX x).toArray 58) = w1 at *;refine aF 2 ?_;go_upto_region 1 with fail;refine aH 1 ?_;refine aw rfl (aA call41 rfl (evc ajL evn)) ?_;refine (bu.devices HBN).mono ?_;rintro e w2 ⟨rfl, b2⟩;have HB2 := ae (HB1.out.trans (b2.mono HB1.out.size));have HR2 : Hid (bD w2 w.heap.size x) := ae (aB HR1 b2);have HBN2 := ae (bu.below HBN b2);clear b2;refine aQ ?_;refine ajB (aE false rfl ajL evk HD) ?_;refine ah ?_;go_upto_region 3 with fail;refine aH 1 ?_;refine ajB (aE false rfl ajL evk HI0) ?_;refine runs 2 ?_;refine ajI (dC false rfl ajL evk HE0) ?_;refine runs 2 ?_;refine ajI (bf rfl ajL HR2.out.range) ?_;refine aw ajw (aA call42 rfl (evc ajL evn)) ?_;refine (dI w2 HM).mono ?_;rintro e w3 ⟨rfl, b3⟩;have HB3 := ae (HB2.out.trans (b3.mono HB2.out.size));have HR3 : Hid (bD w3 w.heap.size x) := ae (aB HR2 b3);have HBN3 := ae (bu.below HBN2 b3);clear b3;refine aQ ?_;refine runs 2 ?_;refine a6 5 rfl (aL rfl ajL) (by kernel_rfl) ?_;simp only [bH, ac, aa];refine aF 1 ?_;go_upto_region 4 with fail;refine bU 2 ?_;go_wp2_with fail;go_ret2;exact ⟨HB3, .inr ⟨HNO, rfl⟩⟩
theorem aff (id en : Nat) (x : Ros) (hb : bu.Bn w F q M) (h0 : id ≠ 0) (h1 : ¬ 2305843009213693952 < en) (h2 : aU x = true) (h3 : oz M x = false) : Calls prog 17 #[.pointer (some ⟨q, 0, none⟩), .int .u64 (id : Int), .int .u64 (en : Int), ros x] w (qU w q M id en x) := by
 have hb0 := (Below.refl w.heap.size w).alloc aj (.cells (aX x).toArray 58);have HR1 := ae (bD.new w x);have HB1 := ae hb0;have HBN := ae (bu.below hb hb0);have HD : Hid (((M.ds.length : Int) == 0) = false) := ae (by have := (bu.wf hb).one; exact au (by omega));have HI0 : Hid (((id : Int) == 0) = false) := ae (au (by omega));have HE0 : Hid (decide ((2305843009213693952 : Int) < (en : Int)) = false) := ae (am (by omega));have HM := ae h2;have HGE : Hid (dA x = true) := ae (by have h2' := h2; unfold aU at h2'; simp only [Bool.and_eq_true] at h2'; exact h2'.1.1.1);have HFT := ae h3;have HNO : Hid (f9 M id en x = false) := ae (by rw [kt, h3]; simp);clear h0 h1 h2 h3;clear hb hb0;go_enter func17, ntmps17;go_upto_region 0 with fail;refine af ?_;refine ajB (aY rfl ajL) ?_;generalize w.alloc (.cells (aX x).toArray 58) = w1 at *;refine aF 2 ?_;go_upto_region 1 with fail;refine aH 1 ?_;refine aw rfl (aA call41 rfl (evc ajL evn)) ?_;refine (bu.devices HBN).mono ?_;rintro e w2 ⟨rfl, b2⟩;have HB2 := ae (HB1.out.trans (b2.mono HB1.out.size));have HR2 : Hid (bD w2 w.heap.size x) := ae (aB HR1 b2);have HBN2 := ae (bu.below HBN b2);clear b2;refine aQ ?_;refine ajB (aE false rfl ajL evk HD) ?_;refine ah ?_;go_upto_region 3 with fail;refine aH 1 ?_;refine ajB (aE false rfl ajL evk HI0) ?_;refine runs 2 ?_;refine ajI (dC false rfl ajL evk HE0) ?_;refine runs 2 ?_;refine ajI (bf rfl ajL HR2.out.range) ?_;refine aw ajw (aA call42 rfl (evc ajL evn)) ?_;refine (dI w2 HM).mono ?_;rintro e w3 ⟨rfl, b3⟩;have HB3 := ae (HB2.out.trans (b3.mono HB2.out.size));have HR3 : Hid (bD w3 w.heap.size x) := ae (aB HR2 b3);have HBN3 := ae (bu.below HBN2 b3);clear b3;refine aQ ?_;refine runs 3 ?_;refine runs 1 ?_;refine ajI (ax rfl ajL o6) ?_;refine ajI (dd rfl ajL HR3.out.geo) ?_;refine aw ajw (aA call43 rfl (evc ajL (evc ajL evn))) ?_;refine (xQ x HGE HBN3).mono ?_;rintro e w4 ⟨rfl, b4⟩;rw [HFT.out];have HB4 := ae (HB3.out.trans (b4.mono HB3.out.size));have HR4 : Hid (bD w4 w.heap.size x) := ae (aB HR3 b4);have HBN4 := ae (bu.below HBN3 b4);clear b4;refine aQ ?_;refine aF 2 ?_;go_upto_region 4 with fail;refine bU 2 ?_;go_wp2_with fail;go_ret2;exact ⟨HB4, .inr ⟨HNO, rfl⟩⟩
theorem adH (id en : Nat) (x : Ros) (hb : bu.Bn w F q M) (h0 : id ≠ 0) (h1 : ¬ 2305843009213693952 < en) (h2 : aU x = true) (h3 : oz M x = true) : Calls prog 17 #[.pointer (some ⟨q, 0, none⟩), .int .u64 (id : Int), .int .u64 (en : Int), ros x] w (qU w q M id en x) := by
 have hb0 := (Below.refl w.heap.size w).alloc aj (.cells (aX x).toArray 58);have HR1 := ae (bD.new w x);have HB1 := ae hb0;have HBN := ae (bu.below hb hb0);have HD : Hid (((M.ds.length : Int) == 0) = false) := ae (by have := (bu.wf hb).one; exact au (by omega));have HI0 : Hid (((id : Int) == 0) = false) := ae (au (by omega));have HE0 : Hid (decide ((2305843009213693952 : Int) < (en : Int)) = false) := ae (am (by omega));have HM := ae h2;have HGE : Hid (dA x = true) := ae (by have h2' := h2; unfold aU at h2'; simp only [Bool.and_eq_true] at h2'; exact h2'.1.1.1);have HFT := ae h3;have HYE : Hid (f9 M id en x = true) := ae (by rw [kt, h2, h3, am h0, am h1]; rfl);clear h0 h1 h2 h3;clear hb hb0;go_enter func17, ntmps17;go_upto_region 0 with fail;refine af ?_;refine ajB (aY rfl ajL) ?_;generalize w.alloc (.cells (aX x).toArray 58) = w1 at *;refine aF 2 ?_;go_upto_region 1 with fail;refine aH 1 ?_;refine aw rfl (aA call41 rfl (evc ajL evn)) ?_;refine (bu.devices HBN).mono ?_;rintro e w2 ⟨rfl, b2⟩;have HB2 := ae (HB1.out.trans (b2.mono HB1.out.size));have HR2 : Hid (bD w2 w.heap.size x) := ae (aB HR1 b2);have HBN2 := ae (bu.below HBN b2);clear b2;refine aQ ?_;refine ajB (aE false rfl ajL evk HD) ?_;refine ah ?_;go_upto_region 3 with fail;refine aH 1 ?_;refine ajB (aE false rfl ajL evk HI0) ?_;refine runs 2 ?_;refine ajI (dC false rfl ajL evk HE0) ?_;refine runs 2 ?_;refine ajI (bf rfl ajL HR2.out.range) ?_;refine aw ajw (aA call42 rfl (evc ajL evn)) ?_;refine (dI w2 HM).mono ?_;rintro e w3 ⟨rfl, b3⟩;have HB3 := ae (HB2.out.trans (b3.mono HB2.out.size));have HR3 : Hid (bD w3 w.heap.size x) := ae (aB HR2 b3);have HBN3 := ae (bu.below HBN2 b3);clear b3;refine aQ ?_;refine runs 3 ?_;refine runs 1 ?_;refine ajI (ax rfl ajL o6) ?_;refine ajI (dd rfl ajL HR3.out.geo) ?_;refine aw ajw (aA call43 rfl (evc ajL (evc ajL evn))) ?_;refine (xQ x HGE HBN3).mono ?_;rintro e w4 ⟨rfl, b4⟩;rw [HFT.out];have HB4 := ae (HB3.out.trans (b4.mono HB3.out.size));have HR4 : Hid (bD w4 w.heap.size x) := ae (aB HR3 b4);have HBN4 := ae (bu.below HBN3 b4);clear b4;refine aQ ?_;refine aF 2 ?_;go_upto_region 5 with fail;refine aH 3 ?_;refine ajB (bf rfl ajL HR4.out.range) ?_;refine runs 1 ?_;refine ajB (vg (y := ⟨id, en, en, x⟩) rfl ajL ajL ajL ajL ajL) ?_;refine ajB (cw (cs := (phC (some ⟨q, 0, none⟩) ⟨id, en, en, x⟩)) rfl ajL) ?_;refine aF 2 ?_;go_wp2_with fail;go_ret2;exact ⟨HB4.out.alloc HB4.out.size _, .inl ⟨HYE, w4.heap.size, rfl, heap_alloc_new w4 _, HB4.out.size⟩⟩
theorem ahI (id en : Nat) (x : Ros) (hb : bu.Bn w F q M) : Calls prog 17 #[.pointer (some ⟨q, 0, none⟩), .int .u64 (id : Int), .int .u64 (en : Int), ros x] w (qU w q M id en x) := by
 by_cases h0 : id = 0
 ·exact adU id en x hb h0
 by_cases h1 : 2305843009213693952 < en
 ·exact aeC id en x hb h0 h1
 cases h2 : aU x
 ·exact adM id en x hb h0 h1 h2
 cases h3 : oz M x
 ·exact aff id en x hb h0 h1 h2 h3
 ·exact adH id en x hb h0 h1 h2 h3
end
theorem rf (w : World) (v : Value) (id en : Nat) (x : Ros) (hd : ∀ w1, Below w.heap.size w w1 -> Calls prog 41 #[v] w1 fun e w' => e = .returned (.int .i64 0) /\ w1 = w') : Calls prog 17 #[v, .int .u64 (id : Int), .int .u64 (en : Int), ros x] w fun e w' => e = .returned (.tuple #[.pointer none, .int .i64 1]) /\ Below w.heap.size w w' := by
 have hb0 := (Below.refl w.heap.size w).alloc aj (.cells (aX x).toArray 58);have HB1 := ae hb0;have HDV := ae (hd _ hb0);clear hd hb0;go_enter func17, ntmps17;go_upto_region 0 with fail;refine af ?_;refine ajB (aY rfl ajL) ?_;generalize w.alloc (.cells (aX x).toArray 58) = w1 at *;refine aF 2 ?_;go_upto_region 1 with fail;refine aH 1 ?_;refine aw rfl (aA call41 rfl (evc ajL evn)) ?_;refine (HDV.out).mono ?_;rintro e w2 ⟨rfl, rfl⟩;refine aQ ?_;refine ajB (aE true rfl ajL evk rfl) ?_;refine ah ?_;go_upto_region 2 with fail;refine bU 2 ?_;go_wp2_with fail;go_ret2;exact ⟨rfl, HB1⟩
section
variable {w : World} {v : Value}
theorem zT (h : NoH w v) : Calls prog 34 #[v] w fun e w' => e = .returned (.int .i64 1) /\ Below w.heap.size w w' := by
 obtain ⟨z0, hz0⟩ : ∃ z0, z0 = w.heap.size := ⟨_, rfl⟩;rw [<- hz0];have HZ0 := ae hz0;have HN := ae h;clear hz0 h;go_enter func34, ntmps34;go_upto_region 0 with fail;refine af ?_;refine ajB (eM (v := v) HN.out.cells rfl ajL) ?_;have hb0 := (Below.refl w.heap.size w).alloc aj (.cells #[v] 24);have HP1 := ae (heap_alloc_new w (.cells #[v] 24));have HB1 := ae hb0;clear hb0;generalize w.alloc (.cells #[v] 24) = w1 at *;refine aF 1 ?_;have HN2 := ae (HN.out.below HB1);go_upto_region 1 with fail;refine af ?_;refine ajB (aC rfl ajL (aij HN (cell_of_row _ w.heap.size 0 _ _ _ HP1))) ?_;refine aw rfl (aA call67 rfl (evc ajL evn)) ?_;refine (mZ HN2).mono ?_;rintro e w3 ⟨rfl, rfl⟩;refine aQ ?_;refine aF 1 ?_;go_upto_region 2 with fail;refine aH 1 ?_;refine ajB (aJ true rfl ajL evk rfl) ?_;refine ah ?_;go_upto_region 3 with fail;refine bU 2 ?_;go_wp2_with fail;go_ret;exact ⟨rfl, by rw [HZ0.out]; exact HB1⟩
theorem abe (h : NoH w v) : Calls prog 66 #[v] w fun e w' => e = .returned (.int .u64 0) /\ Below w.heap.size w w' := by
 rcases h with rfl | ⟨p, rfl, h⟩
 ·exact agS.mono fun e w' ⟨h1, h2⟩ => ⟨h1, by subst h2; exact ak⟩
 ·exact (afz h).mono fun e w' ⟨h1, h2⟩ => ⟨h1, by subst h2; exact ak⟩
theorem tl : stN bF = 0 := by decide
theorem ug (h : NoH w v) : Calls prog 103 #[v] w fun e w' => e = .returned (.int .i64 0) /\ Below w.heap.size w w' := by
 rcases h with rfl | ⟨p, rfl, h⟩
 ·exact zv.mono fun e w' ⟨h1, h2⟩ => ⟨by rw [h1, tl]; rfl, h2⟩
 ·exact (lJ h).mono fun e w' ⟨h1, h2⟩ => ⟨by rw [h1]; show Ending.returned (.int .i64 (stN bF : Nat)) = _; rw [tl]; rfl, h2⟩
theorem ags (w : World) : Calls prog 41 #[.pointer none] w fun e w' => e = .returned (.int .i64 0) /\ w = w' := by
 go_enter func41, ntmps41;go_wp2_with fail;go_ret;exact ⟨rfl, rfl⟩
def zbH : List Value := [.slice none 0 0, .int .i64 0, .int .i64 0, .bool false]
theorem afn {b : Nat} (w : World) (h : w.heap[b]? = some (.cells zbH.toArray 95 (0, 0))) : Calls prog 41 #[.pointer (some ⟨b, 0, none⟩)] w fun e w' => e = .returned (.int .i64 0) /\ w = w' := by
 have c0 : w.cell? ⟨b, 0, none⟩ = some (.slice none 0 0) := (aP h) 0 _ rfl;clear h;go_enter func41, ntmps41;go_wp2_with fail;go_ret;exact ⟨rfl, rfl⟩
end
def HuJ (w : World) (G : Nat -> Prop) (q p : Nat) (h : HuS) : Prop :=
 ∃ Gb, bu.Bn w Gb q h.M /\ PHu w p q ⟨h.id, h.ev, h.ev, h.R⟩ /\ ¬ Gb p /\ (∀ b, G b ↔ (Gb b \/ b = p)) /\ aU h.R = true /\ (h.id ≠ 0 /\ h.id < 18446744073709551616)
section
variable {w w' : World} {G K : Nat -> Prop} {q p : Nat} {h : HuS}
theorem HuJ.hul (j : HuJ w G q p h) : PHu w p q ⟨h.id, h.ev, h.ev, h.R⟩ := by obtain ⟨_, _, h2, _⟩ := j; exact h2
theorem HuJ.start (j : HuJ w G q p h) (hc : CrG w G) : HJ w G (fun _ => False) w p q h.M ⟨h.id, h.ev, h.ev, h.R⟩ := by
 obtain ⟨Gb, h1, h2, h3, h4, h5, h6⟩ := j;exact ⟨Gb, h1, h2, h3, Only.refl _ _, fun b hb => .inl ((h4 b).2 hb), fun b e => e.elim, hc⟩
theorem HJ.fin {M' : aV} {id ev : Nat} {R : Ros} (j : HJ w G K w' p q M' ⟨id, ev, ev, R⟩) (hf : aU R = true) (hid : id ≠ 0 /\ id < 18446744073709551616) : ∃ G', HuJ w' G' q p ⟨M', id, ev, R⟩ /\ Only G w w' /\ Grow w G G' /\ ∃ Gb, bu.Bn w' Gb q M' /\ ∀ b, Gb b -> G' b := by
 obtain ⟨Gb, h1, h2, h3, h4, h5, h6, h7⟩ := j;exact ⟨fun b => Gb b \/ b = p, ⟨Gb, h1, h2, h3, fun b => Iff.rfl, hf, hid⟩, h4, h5, Gb, h1, fun b e => .inl e⟩
theorem HJ.ai6 {M' : aV} {y : HpS} (j : HJ w G K w' p q M' y) : ∃ G', Only G w w' /\ Grow w G G' /\ ∃ Gb, bu.Bn w' Gb q M' /\ ∀ b, Gb b -> G' b := by
 obtain ⟨Gb, h1, h2, h3, h4, h5, h6, h7⟩ := j;exact ⟨fun b => Gb b \/ b = p, h4, h5, Gb, h1, fun b e => .inl e⟩
theorem HuQ.fin {x : HpS} {h' : HuS} {ok : Prop} (hq : HuQ w G K w p q x h' ok w') (hid : x.id ≠ 0 /\ x.id < 18446744073709551616) : ∃ G', (ok -> HuJ w' G' q p h') /\ Only G w w' /\ Grow w G G' /\ ∃ Gb, bu.Bn w' Gb q h'.M /\ ∀ b, Gb b -> G' b := by
 by_cases e : ok
 ·obtain ⟨j, f, i, _⟩ := hq.2.1 e;obtain ⟨G', k1, k2⟩ := j.fin f hid;refine ⟨G', fun _ => ?_, k2⟩;have e2 : h' = ⟨h'.M, x.id, h'.ev, h'.R⟩ := by rw [<- i]
  rw [e2];exact k1
 ·obtain ⟨us, _, j⟩ := hq.2.2 e;obtain ⟨G', k2⟩ := j.ai6;exact ⟨G', fun z => absurd z e, k2⟩
end
def ad2 : eF where
 R := bu
 J := HuJ
 lt := fun ⟨Gb, h1, h2, _, h4, _⟩ b hb => by
  rcases (h4 b).1 hb with e | e
  ·exact bu.lt h1 b e
  ·subst e; exact h2.lt
 fin := fun ⟨_, _, _, _, _, h5, h6, _⟩ => ⟨h5, h6⟩
 only := fun ⟨Gb, h1, h2, h3, h4, h5⟩ ho hn => ⟨Gb, bu.only h1 ho fun b hb => hn b ((h4 b).2 (.inl hb)), h2.only ho (hn _ ((h4 _).2 (.inr rfl))), h3, h4, h5⟩
 ben := fun {w G q p h} ⟨Gb, h1, h2, h3, h4, h5⟩ => ⟨Gb, h1, fun b hb => (h4 b).2 (.inl hb), fun w' Gb' M' k1 k2 k3 => by
  have hp := h2.lt;refine ⟨fun b => Gb' b \/ b = p, ⟨Gb', k1, h2.only k2 h3, fun e => ?_, fun b => Iff.rfl, h5⟩, k2.widen fun b hb => (h4 b).2 (.inl hb), fun b hb => ?_⟩
  ·rcases k3 p e with e | e
   ·exact h3 e
   ·omega
  ·rcases hb with e | e
   ·rcases k3 b e with e | e
    ·exact .inl ((h4 b).2 (.inl e))
    ·exact .inr e
   ·exact .inl ((h4 b).2 (.inr e))⟩
 new_ := fun {w G q M} id ev x hid hev hb => (ahI id ev x hb).mono fun e w' ⟨h1, h2⟩ => ⟨h1, by
  rcases h2 with ⟨h3, p, h4, h5, h6⟩ | ⟨h3, h4⟩
  ·have hl := bu.lt hb;have h7 : aU x = true /\ id ≠ 0 := by
    rw [kt] at h3;simp only [Bool.and_eq_true, Bool.not_eq_true', decide_eq_false_iff_not] at h3;exact ⟨h3.2.2.1, h3.1⟩
   exact .inl ⟨h3, p, fun b => G b \/ b = p, h4, ⟨G, bu.below hb h1, h5, fun e => by have := hl p e; omega, fun b => Iff.rfl, h7.1, h7.2, hid⟩, fun b hb => by
    rcases hb with e | e
    ·exact .inl e
    ·exact .inr (by omega)⟩
  ·exact .inr ⟨h3, h4⟩⟩
 new_nil := fun w id ev x _ _ => rf w _ id ev x fun w1 _ => ags w1
 write := fun {w G q p h} s m b j hc hr he => by
  obtain ⟨Gb, _, _, _, _, h5, h6⟩ := id j;exact (ach s m b h5 h6 hr he rfl (j.start hc)).mono fun e w' ⟨k0, k1⟩ => ⟨k0, k1.fin h6⟩
 id_ := fun {w G q p h} j => (afz j.hul).mono fun e w' ⟨h1, h2⟩ => ⟨h1, by subst h2; exact ak⟩
 state := fun {w G q p h} j => lJ j.hul
 ahr := fun {w G q p h} j => qp j.hul
 No := NoH
 zc := phC none ⟨0, 0, 0, bF⟩
 zb := zbH
 no_nil := fun w => .inl rfl
 bld0 := fun w => by kernel_rfl
 bldB := fun w => by kernel_rfl
 no_zero := fun w => .inr ⟨_, rfl, heap_alloc_new w _⟩
 no_below := fun h hb => h.below hb
 new_zero := fun w b id ev x hb _ _ => rf w _ id ev x fun w1 h1 => afn w1 (aB hb h1)
 no_write := fun w v s m b h => zx s m b h
 no_flush := fun w v h => zT h
 no_id := fun w v h => abe h
 no_state := fun w v h => ug h
structure afq (C : eF) : Prop where
 flush : ∀ {w G q p h}, C.J w G q p h -> CrG w G -> (ey h.R = false -> pR h.R.m.toNat 0 h) -> Calls prog 34 #[.pointer (some ⟨p, 0, none⟩)] w fun e w' => e = .returned (.int .i64 (oI h)) /\ ∃ G', C.J w' G' q p (iK h) /\ Only G w w' /\ Grow w G G'
theorem ai0 : afq ad2 where
 flush := fun {w G q p h} j hc hp => by
  have hj := HuJ.start j hc;obtain ⟨Gb, _, _, _, _, h5, h6⟩ := j;refine (aa9 h6 h5 hp hj).mono ?_;rintro e w' ⟨rfl, k1, k2, k3, k4⟩;obtain ⟨G', g1, g2, g3, _⟩ := k2.fin k3 h6;refine ⟨rfl, G', ?_, g2, g3⟩;have e2 : iK h = ⟨(iK h).M, h.id, (iK h).ev, (iK h).R⟩ := by rw [<- k4]
  rw [e2];exact g1
def QD (C : eF) (D : ShI C) (w0 : World) (G0 S0 : Nat -> Prop) (q p t K : Nat) (O : Nat -> Prop) (w : World) (h : HuS) (s : ShS) : Prop :=
 ∃ G S, C.J w G q p h /\ D.P w S t K s /\ (∀ b, G b -> ¬ S b) /\ Only (fun b => G0 b \/ S0 b) w0 w /\ Grow w0 G0 G /\ Grow w0 S0 S /\ (∀ b, O b -> ¬ G b /\ ¬ S b /\ b < w.heap.size /\ w0.heap.size <= b) /\ CrG w0 G0 /\ ¬ S0 0
def QDR (C : eF) (D : ShI C) (w0 : World) (G0 S0 : Nat -> Prop) (q p t K : Nat) (h : HuS) (s : ShS) (w : World) : Prop := ∃ G S, C.J w G q p h /\ D.P w S t K s /\ (∀ b, G b -> ¬ S b) /\ Only (fun b => G0 b \/ S0 b) w0 w /\ Grow w0 G0 G /\ Grow w0 S0 S
section
variable {C : eF} {D : ShI C} {w w' w0 w1 : World} {G G' G0 S S' S0 : Nat -> Prop} {p q t K : Nat} {h h' : HuS} {s s' : ShS} {O O' : Nat -> Prop}
theorem QD.start (j : C.J w G q p h) (a : D.P w S t K s) (c1 : CrG w G) (c2 : ¬ S 0) (d : ∀ b, G b -> ¬ S b) : QD C D w G S q p t K (fun _ => False) w h s := ⟨G, S, j, a, d, Only.refl _ _, Grow.same _ _, Grow.same _ _, fun _ e => e.elim, c1, c2⟩
theorem QD.res (e : QD C D w0 G0 S0 q p t K O w h s) : QDR C D w0 G0 S0 q p t K h s w := by
 obtain ⟨G, S, j, a, d, on, gj, ga, o, cr⟩ := e;exact ⟨G, S, j, a, d, on, gj, ga⟩
theorem QD.lt (e : QD C D w0 G0 S0 q p t K O w h s) {b : Nat} (hb : O b) : b < w.heap.size := by
 obtain ⟨G, S, j, a, d, on, gj, ga, o, cr⟩ := e;exact (o b hb).2.2.1
theorem QD.guard (e : QD C D w0 G0 S0 q p t K O w h s) (k : Below w.heap.size w w') (hO : ∀ b, O' b -> O b \/ (w.heap.size <= b /\ b < w'.heap.size)) : QD C D w0 G0 S0 q p t K O' w' h s := by
 obtain ⟨G, S, j, a, d, on, gj, ga, o, cr⟩ := e;have hs := k.size;refine ⟨G, S, C.below j k, D.below a k, d, on.jn k, gj, ga, fun b hb => ?_, cr⟩;have h0 := on.size;rcases hO b hb with x | ⟨x1, x2⟩
 ·exact ⟨(o b x).1, (o b x).2.1, ar (o b x).2.2.1 hs, (o b x).2.2.2⟩
 ·exact ⟨fun x => by have := C.lt j b x; omega, fun x => by have := D.lt a b x; omega, x2, by omega⟩
theorem QD.below (e : QD C D w0 G0 S0 q p t K O w h s) (k : Below w.heap.size w w') : QD C D w0 G0 S0 q p t K O w' h s := e.guard k fun b x => .inl x
theorem QD.turn (gj : Grow w0 G0 G) (ga : Grow w0 S0 S) (on : Only (fun b => G0 b \/ S0 b) w0 w) (o : ∀ b, O b -> ¬ G b /\ ¬ S b /\ b < w.heap.size /\ w0.heap.size <= b) (cr : CrG w0 G0 /\ ¬ S0 0) (k1 : C.J w' G' q p h') (k2 : D.P w' S' t K s') (kd : ∀ b, G' b -> ¬ S' b) (k3 : Only (fun b => G b \/ S b) w w') (k4 : Grow w G G') (k5 : Grow w S S') : QD C D w0 G0 S0 q p t K O w' h' s' /\ cq O w w' := by
 have h0 := on.size;refine ⟨⟨G', S', k1, k2, kd, on.trans k3 fun b hb => ?_, fun b hb => ?_, fun b hb => ?_, fun b hb => ?_, cr⟩, fun b hb => k3.block b (o b hb).2.2.1 fun e => e.elim (o b hb).1 (o b hb).2.1⟩
 ·rcases hb with hb | hb
  ·rcases gj b hb with y | y
   ·exact .inl (.inl y)
   ·exact .inr y
  ·rcases ga b hb with y | y
   ·exact .inl (.inr y)
   ·exact .inr y
 ·rcases k4 b hb with y | y
  ·exact gj b y
  ·exact .inr (aq h0 y)
 ·rcases k5 b hb with y | y
  ·exact ga b y
  ·exact .inr (aq h0 y)
 ·obtain ⟨c1, c2, c3, c4⟩ := o b hb;refine ⟨fun x => ?_, fun x => ?_, ar c3 k3.size, c4⟩
  ·rcases k4 b x with y | y
   ·exact c1 y
   ·omega
  ·rcases k5 b x with y | y
   ·exact c2 y
   ·omega
theorem QD.crg (on : Only (fun b => G0 b \/ S0 b) w0 w) (gj : Grow w0 G0 G) (cr : CrG w0 G0 /\ ¬ S0 0) : CrG w G := by
 refine ⟨fun i hi => (on.cell (p := ⟨0, i, none⟩) (f7 (cr.1.t i hi)) (fun x => x.elim cr.1.off cr.2)).trans (cr.1.t i hi), fun x => ?_⟩;rcases gj _ x with y | y
 ·exact cr.1.off y
 ·have := f7 (cr.1.t 0 (by omega));exact absurd y (Nat.not_le_of_lt this)
theorem QD.crs (on : Only (fun b => G0 b \/ S0 b) w0 w) (ga : Grow w0 S0 S) (cr : CrG w0 G0 /\ ¬ S0 0) : ¬ S 0 := fun x => by
 rcases ga _ x with y | y
 ·exact cr.2 y
 ·have := f7 (cr.1.t 0 (by omega));exact absurd y (Nat.not_le_of_lt this)
theorem QD.aiM {I : FuncId} {vs : Array Value} {v : Value} (e : QD C D w0 G0 S0 q p t K O w h s) (hc : ∀ G, C.J w G q p h -> CrG w G -> Calls prog I vs w fun e w' => e = .returned v /\ ∃ G', C.J w' G' q p h' /\ Only G w w' /\ Grow w G G') : Calls prog I vs w fun e w' => e = .returned v /\ QD C D w0 G0 S0 q p t K O w' h' s /\ cq O w w' := by
 obtain ⟨G, S, j, a, d, on, gj, ga, o, cr⟩ := e;refine (hc G j (QD.crg on gj cr)).mono fun e w' ⟨k0, G', k1, k3, k4⟩ => ⟨k0, QD.turn gj ga on o cr k1 (D.only a k3 fun b hb hg => d b hg hb) (fun b hg hs => ?_) (k3.widen fun b hb => .inl hb) k4 (Grow.same _ _)⟩
 rcases k4 b hg with y | y
 ·exact d b y hs
 ·have := D.lt a b hs; omega
theorem QD.shelf {I : FuncId} {vs : Array Value} {v : Value} (e : QD C D w0 G0 S0 q p t K O w h s) (hc : ∀ S, D.P w S t K s -> Calls prog I vs w fun e w' => e = .returned v /\ ∃ S', D.P w' S' t K s' /\ Only S w w' /\ Grow w S S') : Calls prog I vs w fun e w' => e = .returned v /\ QD C D w0 G0 S0 q p t K O w' h s' /\ cq O w w' := by
 obtain ⟨G, S, j, a, d, on, gj, ga, o, cr⟩ := e;refine (hc S a).mono fun e w' ⟨k0, S', k2, k3, k5⟩ => ⟨k0, QD.turn gj ga on o cr (C.only j k3 d) k2 (fun b hg hs => ?_) (k3.widen fun b hb => .inr hb) (Grow.same _ _) k5⟩
 rcases k5 b hs with y | y
 ·exact d b hg y
 ·have := C.lt j b hg; omega
theorem QD.both {I : FuncId} {vs : Array Value} {v : Value} (e : QD C D w0 G0 S0 q p t K O w h s) (hc : ∀ G S, C.J w G q p h -> D.P w S t K s -> CrG w G -> ¬ S 0 -> (∀ b, G b -> ¬ S b) -> Calls prog I vs w fun e w' => e = .returned v /\ QDR C D w G S q p t K h' s' w') : Calls prog I vs w fun e w' => e = .returned v /\ QD C D w0 G0 S0 q p t K O w' h' s' /\ cq O w w' := by
 obtain ⟨G, S, j, a, d, on, gj, ga, o, cr⟩ := e;exact (hc G S j a (QD.crg on gj cr) (QD.crs on ga cr) d).mono fun e w' ⟨k0, G', S', k1, k2, kd, k3, k4, k5⟩ => ⟨k0, QD.turn gj ga on o cr k1 k2 kd k3 k4 k5⟩
theorem QD.look {I : FuncId} {vs : Array Value} {Q : Ending -> World -> Prop} (e : QD C D w0 G0 S0 q p t K O w h s) (hc : ∀ S, D.P w S t K s -> Calls prog I vs w Q) : Calls prog I vs w Q := by
 obtain ⟨G, S, j, a, _⟩ := e;exact hc S a
theorem aa2 {α : Type} {B : Nat} {E : Elt α} {v : Value} {l : List α} (h : aO E w B v l) (hk : ∀ b, v.ownBlock = some b -> w'.heap[b]? = w.heap[b]?) : aO E w' B v l := by
 refine ⟨h.1, ?_⟩;rcases h.2 with hn | ⟨g, cap, cur, rfl, hbg, hg, rest⟩
 ·exact .inl hn
 ·exact .inr ⟨g, cap, cur, rfl, hbg, (hk g rfl).trans hg, rest⟩
end
def kyL (d : Nat -> Bool) (o : List Nat) : List Ky := o.map fun (n : Nat) => (⟨(n : Int), d n⟩ : Ky)
section
variable {d e : Nat -> Bool} {o : List Nat} {n i room : Nat} {s : ShS}
theorem cI : (kyL d o).length = o.length := List.length_map _
theorem rN : fk (kyL d o) = o.map fun (n : Nat) => (n : Int) := by unfold fk kyL; rw [List.map_map]; rfl
theorem mj (hi : i < o.length) : (kyL d o).getD i ky0 = ⟨((o.getD i 0 : Nat) : Int), d (o.getD i 0)⟩ := getD_map (fun (n : Nat) => (⟨(n : Int), d n⟩ : Ky)) o 0 ky0 hi
theorem zk (h : ∀ n ∈ o, d n = e n) : kyL d o = kyL e o := List.map_congr_left fun n hn => by rw [h n hn]
theorem dj : plc (n : Int) (kyL d o) < (kyL d o).length ↔ n ∈ o := by
 rw [lm, rN, List.mem_map]
 constructor
 ·rintro ⟨j, h1, h2⟩;have : j = n := by omega
  subst this; exact h1
 ·intro h; exact ⟨n, h, rfl⟩
theorem nr (h : n ∈ o) : o.getD (plc (n : Int) (kyL d o)) 0 = n := by
 have h1 := dj (d := d).2 h;have h2 := oO h1;rw [mj (by rw [cI] at h1; exact h1)] at h2;exact Int.ofNat.inj h2
theorem rx : ∀ {o : List Nat} {i : Nat}, o.Nodup -> i < o.length -> wo o i = eG o (o.getD i 0)
 |[], i, _, hi => by simp at hi
 |x :: r, 0, hd, _ => by
  obtain ⟨h1, h2⟩ := List.nodup_cons.1 hd;have e : eG (x :: r) x = eG r x := by unfold eG; simp
  show wo (x :: r) 0 = eG (x :: r) x
  rw [e, lO h1]
  rfl
 |x :: r, i + 1, hd, hi => by
  obtain ⟨h1, h2⟩ := List.nodup_cons.1 hd;have hi' : i < r.length := by simpa using hi
  have ih := rx h2 hi';have hm : r.getD i 0 ∈ r := cz hi';have hne : x ≠ r.getD i 0 := fun e => h1 (by rw [e]; exact hm)
  show wo (x :: r) (i + 1) = eG (x :: r) (r.getD i 0)
  have e : eG (x :: r) (r.getD i 0) = x :: eG r (r.getD i 0) := by
   unfold eG;rw [List.filter_cons, if_pos (by rw [am hne]; rfl)]
  rw [e, <- ih];unfold wo;simp
theorem abQ (hd : o.Nodup) (hi : i < o.length) : wo (kyL d o) i = kyL d (eG o (o.getD i 0)) := by
 rw [<- rx hd hi];exact (pa _ o i).symm
theorem sa : lu (kyL d o) = luD d o := aaI _ _ (by unfold kyL; rw [List.map_map]; rfl) fun k hk n hn => by
 obtain ⟨j, _, rfl⟩ := List.mem_map.1 hk;have : j = n := Int.ofNat.inj hn;subst this; rfl
theorem yx (hd : o.Nodup) (n : Nat) (is : Bool) : mK (n : Int) is (kyL d o) = kyL (c8 d n is) o := by
 unfold mK;by_cases h : n ∈ o
 ·have hl := dj (d := d).2 h;have hl' : plc (n : Int) (kyL d o) < o.length := by rw [cI] at hl; exact hl
  have hp := nr (d := d) h;rw [if_pos hl];refine List.ext_getElem (by rw [List.length_set, cI, cI]) fun j h1 h2 => ?_
  have hj : j < o.length := by rw [cI] at h2; exact h2
  rw [List.getElem_set];have g : (kyL (c8 d n is) o)[j] = ⟨((o.getD j 0 : Nat) : Int), c8 d n is (o.getD j 0)⟩ := by
   rw [<- mj hj, List.getD, List.getElem?_eq_getElem h2]; rfl
  rw [g]
  split
  ·rename_i e; rw [<- e, hp, cU]
  ·rename_i e
   have g2 : (kyL d o)[j]'(by rw [cI]; exact hj) = ⟨((o.getD j 0 : Nat) : Int), d (o.getD j 0)⟩ := by
    rw [<- mj hj, List.getD, List.getElem?_eq_getElem (by rw [cI]; exact hj)]; rfl
   rw [g2, bZ];intro e2;have p1 := kv hd hj;rw [e2, <- hp, kv hd hl'] at p1;exact e p1
 ·rw [if_neg (fun e => h (dj.1 e))];exact zk fun j hj => (bZ d is fun e => h (by rw [<- e]; exact hj)).symm
theorem ad5 (h : bX s) (n : Nat) : qc (n : Int) (kyL s.dty s.o) = s.dty n := by
 unfold qc;by_cases hn : n ∈ s.o
 ·have hl := dj (d := s.dty).2 hn;rw [ao hl, mj (by rw [cI] at hl; exact hl), nr hn]
  rfl
 ·rw [am fun e => hn (dj.1 e)];cases e : s.dty n
  ·rfl
  ·exact absurd ((h.mem n).2 (eL e)) hn
theorem bX.lx (h : bX s) (n : Nat) : (s.ln n).isNone = true ↔ n ∉ s.o := by
 rw [h.mem n]; cases s.ln n <;> simp
theorem iT (h : bX s) (n : Nat) :
  (n ∈ s.o /\ s.goes n = false /\ s.eY n = true /\ s.cut n = s) \/
  (n ∉ s.o /\ s.o.length < s.room /\ s.goes n = false /\ s.eY n = true /\ s.cut n = s) \/
  (n ∉ s.o /\ ¬ s.o.length < s.room /\ luD s.dty s.o = 0 /\ s.goes n = true /\ s.eY n = false) \/
  (n ∉ s.o /\ ¬ s.o.length < s.room /\ 0 < luD s.dty s.o /\ s.goes n = true /\ s.eY n = true /\ s.cut n = { s.dZ s.gone none with o := eG s.o s.gone }) := by
 have hb : ∀ g, s.goes n = g -> s.eY n = !(g && decide (luD s.dty s.o = 0)) := fun g e => by unfold ShS.eY; rw [e]
 have hc : s.goes n = false -> s.cut n = s := fun e => by unfold ShS.cut; rw [e]; rfl
 by_cases hn : n ∈ s.o
 ·have g : s.goes n = false := by
   unfold ShS.goes;cases e : (s.ln n).isNone
   ·rfl
   ·exact absurd hn ((h.lx n).1 e)
  exact .inl ⟨hn, g, by rw [hb _ g]; rfl, hc g⟩
 ·have hi := (h.lx n).2 hn;by_cases hl : s.o.length < s.room
  ·have g : s.goes n = false := by unfold ShS.goes; rw [hi, am (by omega)]; rfl
   exact .inr (.inl ⟨hn, hl, g, by rw [hb _ g]; rfl, hc g⟩)
  ·have g : s.goes n = true := by unfold ShS.goes; rw [hi, ao (by omega)]; rfl
   rcases Nat.eq_zero_or_pos (luD s.dty s.o) with h0 | h0
   ·exact .inr (.inr (.inl ⟨hn, hl, h0, g, by rw [hb _ g, ao h0]; rfl⟩))
   ·exact .inr (.inr (.inr ⟨hn, hl, h0, g, by rw [hb _ g, am (by omega)]; rfl, by unfold ShS.cut; rw [if_pos g]⟩))
theorem adn (h : bX s) (n : Nat) : vm s.room n (kyL s.dty s.o) = if s.eY n = true then 0 else 10 := by
 unfold vm;rw [sa, cI];rcases iT h n with ⟨h1, _, h3, _⟩ | ⟨h1, h2, _, h3, _⟩ | ⟨h1, h2, h4, _, h3⟩ | ⟨h1, h2, h4, _, h3, _⟩
 ·rw [if_pos (by have := dj (d := s.dty).2 h1; rwa [cI] at this), if_pos h3]
 ·rw [if_neg (fun e => h1 (dj (d := s.dty).1 (by rw [cI]; exact e))), if_pos h2, if_pos h3]
 ·rw [if_neg (fun e => h1 (dj (d := s.dty).1 (by rw [cI]; exact e))), if_neg h2, if_pos h4, h3]; rfl
 ·rw [if_neg (fun e => h1 (dj (d := s.dty).1 (by rw [cI]; exact e))), if_neg h2, if_neg (by omega), if_pos h3]
theorem acQ (h : bX s) (n : Nat) : wk s.room n (kyL s.dty s.o) = (s.goes n && s.eY n) := by
 unfold wk;rw [sa, cI];rcases iT h n with ⟨h1, g, h3, _⟩ | ⟨h1, h2, g, h3, _⟩ | ⟨h1, h2, h4, g, h3⟩ | ⟨h1, h2, h4, g, h3, _⟩
 ·rw [if_pos (by have := dj (d := s.dty).2 h1; rwa [cI] at this), g]; rfl
 ·rw [if_neg (fun e => h1 (dj (d := s.dty).1 (by rw [cI]; exact e))), if_pos h2, g]; rfl
 ·rw [if_neg (fun e => h1 (dj (d := s.dty).1 (by rw [cI]; exact e))), if_neg h2, if_pos h4, g, h3]; rfl
 ·rw [if_neg (fun e => h1 (dj (d := s.dty).1 (by rw [cI]; exact e))), if_neg h2, if_neg (by omega), g, h3]; rfl
theorem acK (h : bX s) (n : Nat) (hg : s.goes n = true) (hb : s.eY n = true) : tK s.room n (kyL s.dty s.o) = (s.gone : Int) := by
 unfold tK;rw [sa, cI];rcases iT h n with ⟨h1, g, h3, _⟩ | ⟨h1, h2, g, h3, _⟩ | ⟨h1, h2, h4, g, h3⟩ | ⟨h1, h2, h4, g, h3, _⟩
 ·rw [hg] at g; cases g
 ·rw [hg] at g; cases g
 ·rw [hb] at h3; cases h3
 ·have := wP (d := s.dty) s.o;rw [if_neg (fun e => h1 (dj (d := s.dty).1 (by rw [cI]; exact e))), if_neg h2, if_neg (by omega), mj (by omega)]
  rfl
theorem uq (s : ShS) (n : Nat) : (s.tch n).o = if s.eY n = true then n :: eG (s.cut n).o n else s.o := by unfold ShS.tch; split <;> rfl
theorem abN (h : bX s) (n : Nat) : uR s.room n (kyL s.dty s.o) = kyL s.dty (s.tch n).o := by
 unfold uR;rw [sa, cI, uq];have d0 : n ∉ s.o -> s.dty n = false := fun hn => by
  cases e : s.dty n
  ·rfl
  ·exact absurd ((h.mem n).2 (eL e)) hn
 rcases iT h n with ⟨h1, g, h3, hc⟩ | ⟨h1, h2, g, h3, hc⟩ | ⟨h1, h2, h4, g, h3⟩ | ⟨h1, h2, h4, g, h3, hc⟩
 ·have hl : plc (n : Int) (kyL s.dty s.o) < s.o.length := by have := dj (d := s.dty).2 h1; rwa [cI] at this
  rw [if_pos hl, if_pos h3, hc, abQ h.nd hl, mj hl, nr h1]
  rfl
 ·rw [if_neg (fun e => h1 (dj (d := s.dty).1 (by rw [cI]; exact e))), if_pos h2, if_pos h3, hc, lO h1]
  show _ = (⟨(n : Int), s.dty n⟩ : Ky) :: kyL s.dty s.o
  rw [d0 h1]
 ·rw [if_neg (fun e => h1 (dj (d := s.dty).1 (by rw [cI]; exact e))), if_neg h2, if_pos h4, h3]; rfl
 ·have hle := wP (d := s.dty) s.o;rw [if_neg (fun e => h1 (dj (d := s.dty).1 (by rw [cI]; exact e))), if_neg h2, if_neg (by omega), if_pos h3, hc, abQ h.nd (by omega)]
  show _ = (⟨(n : Int), s.dty n⟩ : Ky) :: kyL s.dty (eG (eG s.o s.gone) n)
  rw [d0 h1, lO (n := n) (o := eG s.o s.gone) fun e => h1 (ie.1 e).1]
  rfl
end
def jK (d : Nat -> Bool) (l : List Nat) : List Int := (l.filter d).map fun (n : Nat) => (n : Int)
theorem re {d : Nat -> Bool} {l : List Nat} {i : Nat} {b : Bool} (hi : i < l.length) (h : d (l.getD i 0) = b) : jK d (l.take (i + 1)) = jK d (l.take i) ++ (if b = true then [((l.getD i 0 : Nat) : Int)] else []) := by
 subst h;unfold jK;rw [List.take_add_one, List.getElem?_eq_getElem hi, List.filter_append, List.map_append, List.getD, List.getElem?_eq_getElem hi]
 congr 1
 simp only [Option.toList_some, List.filter_cons, List.filter_nil, Option.getD_some]
 split <;> rfl
theorem pG (d : Nat -> Bool) (l : List Nat) : (jK d l).length <= l.length := by unfold jK; rw [List.length_map]; exact List.length_filter_le _ _
theorem ke (d : Nat -> Bool) : ∀ k, (pD d k).Pairwise (fun a b => a < b)
 |0 => List.Pairwise.nil
 |k + 1 => by
  rw [pD, List.pairwise_append];refine ⟨ke d k, ?_, fun a ha b hb => ?_⟩
  ·split
   ·exact List.pairwise_singleton _ _
   ·exact List.Pairwise.nil
  ·obtain ⟨j, rfl, hj, _⟩ := fY.1 ha
   split at hb
   ·have := List.mem_singleton.1 hb; omega
   ·cases hb
theorem oT {s : ShS} (h : bX s) : (jK s.dty s.o).mergeSort (fun x y => decide (x <= y)) = s.da := by
 have tr : ∀ a b c : Int, decide (a <= b) = true -> decide (b <= c) = true -> decide (a <= c) = true := fun a b c h1 h2 => by simp only [decide_eq_true_eq] at *; omega
 have tot : ∀ a b : Int, (decide (a <= b) || decide (b <= a)) = true := fun a b => by simp only [Bool.or_eq_true, decide_eq_true_eq]; omega
 have hs := ke s.dty s.T;refine List.Perm.eq_of_pairwise (le := fun a b => decide (a <= b) = true) (fun a b _ _ h1 h2 => by simp only [decide_eq_true_eq] at h1 h2; omega) (List.pairwise_mergeSort tr tot _) (hs.imp fun {a b} hab => by simp only [decide_eq_true_eq]; omega) ((List.mergeSort_perm _ _).trans ?_);refine (List.perm_ext_iff_of_nodup ?_ (hs.imp fun {a b} hab e => by omega)).2 fun a => ?_
 ·unfold jK;refine List.pairwise_map.2 ((h.nd.filter _).imp fun {a b} hab e => hab (by omega))
 ·unfold jK;rw [List.mem_map]
  constructor
  ·rintro ⟨n, hn, rfl⟩;have := List.mem_filter.1 hn;exact ShS.kA.2 ⟨h.lt n this.1, this.2⟩
  ·intro ha;obtain ⟨j, rfl, hj, hd⟩ := fY.1 ha;exact ⟨j, List.mem_filter.2 ⟨(h.mem j).2 (eL hd), hd⟩, rfl⟩
theorem jT : ∀ (a b l : List Int), eQ l (a ++ b) = eQ (eQ l a) b
 |[], b, l => rfl
 |x :: a, b, l => by rw [List.cons_append, eQ, eQ, jT a b]
theorem qE : ∀ (r l : List Int), l.length <= (eQ l r).length
 |[], l => aj
 |x :: r, l => by
  rw [eQ];refine aq ?_ (qE r _)
  split <;> simp
theorem pH (l r : List Int) (x : Int) : eQ l (r ++ [x]) = if (eQ l r).contains x = true then eQ l r else eQ l r ++ [x] := by rw [jT]; rfl
theorem vc {l : List Int} {i : Nat} (hi : i < l.length) : l.take (i + 1) = l.take i ++ [l.getD i 0] := by
 rw [List.take_add_one, List.getElem?_eq_getElem hi, List.getD, List.getElem?_eq_getElem hi]; rfl
theorem zR (l r : List Int) (i : Nat) : (eQ l (r.take i)).length <= (eQ l r).length := by
 conv => rhs; rw [<- List.take_append_drop i r, jT]
 exact qE _ _
theorem qA {s : ShS} : ∀ (l r : List Int), (l ++ r).Nodup -> eQ l r = l ++ r
 |l, [], _ => by simp [eQ]
 |l, x :: r, h => by
  have hx : ¬ l.contains x = true := fun e => by
   have hm : x ∈ l := by simpa using e
   rw [List.nodup_append] at h;exact h.2.2 x hm x (List.mem_cons_self ..) rfl
  rw [eQ, if_neg hx, qA (s := s) (l ++ [x]) r (by rw [List.append_assoc]; exact h), List.append_assoc]
  rfl
theorem uM (s : ShS) : s.da.Nodup := (ke s.dty s.T).imp fun {a b} hab e => by omega
theorem abO (s : ShS) (i : Nat) : eQ [] (s.da.take i) = s.da.take i := by
 have := qA (s := s) [] (s.da.take i) (by rw [List.nil_append]; exact (uM s).sublist (List.take_sublist _ _));rw [this, List.nil_append]
theorem bX.uU {s : ShS} (h : bX s) : s.da.length <= s.room := by
 rw [<- oT h, List.length_mergeSort];exact aq (pG _ _) h.len
section
variable {C : eF} {D : ShI C} {w w' w0 w1 : World} {G G' G0 S S' S0 : Nat -> Prop} {p q t K k : Nat} {h h' : HuS} {s s' : ShS} {O O' : Nat -> Prop}
theorem tv (hok : bX s) : s.fits [] = true := by
 have := hok.uU;unfold ShS.fits;rw [eQ, decide_eq_true_iff];exact this
theorem xW (w : World) (B : Nat) : RdE bN w B none ([] : List Int).length [] := ⟨rfl, fun k hk => absurd hk (by simp)⟩
theorem wM {n : Int} (e : (fB (dq s n) h).1 = 0) : ic h s n = (shE s n, (fB (dq s n) h).2, dF s n) := by
 unfold ic shE;by_cases x : s.str n = true
 ·rw [if_pos x, if_pos e, if_pos x]
 ·rw [if_neg x, if_neg x];have e1 : dq s n = [] := by unfold dq; rw [if_neg x]
  have e2 : dF s n = s := by unfold dF; rw [if_neg fun y => x y.1]
  rw [e1, e2]
  rfl
theorem ac0 {n : Int} (x : (fB (dq s n) h).1 ≠ 0) : ic h s n = ((fB (dq s n) h).1, (fB (dq s n) h).2, s) := by
 unfold ic;by_cases y : s.str n = true
 ·rw [if_pos y, if_neg x]
 ·have e1 : dq s n = [] := by unfold dq; rw [if_neg y]
  rw [e1] at x;exact absurd rfl x
theorem QD.write (n m : Int) (b : Blk) (e : QD C D w0 G0 S0 q p t K O w h s) (hr : HR (k + 1) h) : Calls prog 36 #[.pointer (some ⟨p, 0, none⟩), .agg #[.int .i64 n, .int .i64 m], blk b] w fun e w' => e = .returned (.int .i64 (jL h n m b)) /\ QD C D w0 G0 S0 q p t K O w' (fK h n m b) s /\ cq O w w' :=
 e.aiM fun G j hc => (C.write n m b j hc hr.hrm.1 hr.hrm.2).mono fun e w' ⟨k0, G', k1, k2, k3, _⟩ => ⟨k0, G', k1 (hr.ai7 n m), k2, k3⟩
theorem QD.cells (n : Int) (e : QD C D w0 G0 S0 q p t K O w h s) : Calls prog 10 #[.pointer (some ⟨t, 0, none⟩), .int .i64 n] w fun e w' => ∃ v, e = .returned v /\ aO dw w' w.heap.size v ((dq s n).map bV) /\ Below w.heap.size w w' := e.look fun S hS => D.cells n hS
theorem QD.da (e : QD C D w0 G0 S0 q p t K O w h s) : Calls prog 7 #[.pointer (some ⟨t, 0, none⟩)] w fun e w' => ∃ v, e = .returned v /\ aO bN w' w.heap.size v s.da /\ Below w.heap.size w w' := e.look fun S hS => D.da hS
theorem QD.clean (n : Int) (e : QD C D w0 G0 S0 q p t K O w h s) : Calls prog 37 #[.pointer (some ⟨t, 0, none⟩), .int .i64 n] w fun e w' => e = .returned (.int .i64 (shE s n)) /\ QD C D w0 G0 S0 q p t K O w' h (dF s n) /\ cq O w w' := e.shelf fun S hS => D.clean n hS
theorem QD.flush (F : afq C) (e : QD C D w0 G0 S0 q p t K O w h s) (hr : HR (k + 16) h) : Calls prog 34 #[.pointer (some ⟨p, 0, none⟩)] w fun e w' => e = .returned (.int .i64 (oI h)) /\ QD C D w0 G0 S0 q p t K O w' (iK h) s /\ cq O w w' := e.aiM fun G j hc => F.flush j hc fun _ => hr.hfl.1
theorem QD.own {v : Value} {α : Type} {E : Elt α} {l : List α} (e : QD C D w0 G0 S0 q p t K (fun _ => False) w h s) (k : Below w.heap.size w w') (m : aO E w' w.heap.size v l) : QD C D w0 G0 S0 q p t K (fun b => v.ownBlock = some b) w' h s := e.guard k fun b hb => .inr ⟨m.gW b hb, m.jM b hb⟩
end
theorem yu {C : eF} {D : ShI C} {w : World} {G S : Nat -> Prop} {q p t K : Nat} {h : HuS} {s : ShS} (hJ : C.J w G q p h) (hS : D.P w S t K s) : Calls prog 33 #[.pointer (some ⟨t, 0, none⟩), .pointer (some ⟨p, 0, none⟩)] w fun e w' => e = .returned (.bool true) /\ Below w.heap.size w w' := by
 have HJ := ae hJ;have HS := ae hS;have HID : Hid (((h.id : Int) != 0) = true) := ae (by have := (C.fin hJ).2; simp; omega);clear hJ hS;go_enter func33, ntmps33;go_upto_region 0 with fail;refine bU 1 ?_;go_upto_region 1 with fail;refine aH 1 ?_;refine aw rfl (aA call52 rfl (evc ajL (evc evk evn))) ?_;refine (D.fits (l := []) HS (xW _ _) (fun x hx => by cases hx) aj (by unfold maxLen; decide) (by decide)).mono ?_;rintro e w1 ⟨rfl, b1⟩;rw [tv (D.ok HS.out)];have HB1 := ae b1;clear b1;refine aQ ?_;refine runs 2 ?_;refine aw ajw (aA call66 rfl (evc ajL evn)) ?_;refine (C.id_ (C.below HJ HB1)).mono ?_;rintro e w2 ⟨rfl, b2⟩;have HB := ae (HB1.out.trans (b2.mono HB1.out.size));clear b2;refine aQ ?_;refine ajI (aJ true rfl ajL evk HID) ?_;refine aF 2 ?_;go_wp2_with fail;go_ret;exact ⟨rfl, HB⟩
theorem pj {C : eF} {D : ShI C} {w : World} (v u : Value) (hN : D.No w v) : Calls prog 33 #[v, u] w fun e w' => e = .returned (.bool false) /\ Below w.heap.size w w' := by
 have HN := ae hN;clear hN;go_enter func33, ntmps33;go_upto_region 0 with fail;refine bU 1 ?_;go_upto_region 1 with fail;refine aH 1 ?_;refine aw rfl (aA call52 rfl (evc ajL (evc evk evn))) ?_;refine (D.no_fits _ v HN).mono ?_;rintro e w1 ⟨rfl, b1⟩;have HB := ae b1;clear b1;refine aQ ?_;refine a6 3 rfl (aL rfl ajL) (by kernel_rfl) ?_;simp only [bH, ac, aa];refine aF 2 ?_;go_wp2_with fail;go_ret;exact ⟨rfl, HB⟩
theorem n7 {C : eF} {D : ShI C} {w : World} {S : Nat -> Prop} {t K : Nat} {s : ShS} (u : Value) (hS : D.P w S t K s) (hN : C.No w u) : Calls prog 33 #[.pointer (some ⟨t, 0, none⟩), u] w fun e w' => e = .returned (.bool false) /\ Below w.heap.size w w' := by
 have HS := ae hS;have HN := ae hN;clear hS hN;go_enter func33, ntmps33;go_upto_region 0 with fail;refine bU 1 ?_;go_upto_region 1 with fail;refine aH 1 ?_;refine aw rfl (aA call52 rfl (evc ajL (evc evk evn))) ?_;refine (D.fits (l := []) HS (xW _ _) (fun x hx => by cases hx) aj (by unfold maxLen; decide) (by decide)).mono ?_;rintro e w1 ⟨rfl, b1⟩;rw [tv (D.ok HS.out)];have HB1 := ae b1;clear b1;refine aQ ?_;refine runs 2 ?_;refine aw ajw (aA call66 rfl (evc ajL evn)) ?_;refine (C.no_id _ u (C.no_below HN HB1)).mono ?_;rintro e w2 ⟨rfl, b2⟩;have HB := ae (HB1.out.trans (b2.mono HB1.out.size));clear b2;refine aQ ?_;refine ajI (aJ false rfl ajL evk rfl) ?_;refine aF 2 ?_;go_wp2_with fail;go_ret;exact ⟨rfl, HB⟩
theorem r7 {C : eF} {D : ShI C} {w : World} (v u : Value) (n : Int) (hN : D.No w v) : Calls prog 13 #[v, u, .int .i64 n] w fun e w' => e = .returned (.int .i64 1) /\ Below w.heap.size w w' := by
 have HN := ae hN;clear hN;go_enter func13, ntmps13;go_upto_region 0 with fail;refine bU 1 ?_;go_upto_region 1 with fail;refine aH 2 ?_;refine aw rfl (aA call33 rfl (evc ajL (evc ajL evn))) ?_;refine (pj v u HN).mono ?_;rintro e w1 ⟨rfl, b1⟩;have HB := ae b1;clear b1;refine aQ ?_;refine aF 1 ?_;go_upto_region 2 with fail;refine bU 1 ?_;go_wp2_with fail;go_ret;exact ⟨rfl, HB⟩
theorem sA {C : eF} {D : ShI C} {w : World} {S : Nat -> Prop} {t K : Nat} {s : ShS} (u : Value) (n : Int) (hS : D.P w S t K s) (hN : C.No w u) : Calls prog 13 #[.pointer (some ⟨t, 0, none⟩), u, .int .i64 n] w fun e w' => e = .returned (.int .i64 1) /\ Below w.heap.size w w' := by
 have HS := ae hS;have HN := ae hN;clear hS hN;go_enter func13, ntmps13;go_upto_region 0 with fail;refine bU 1 ?_;go_upto_region 1 with fail;refine aH 2 ?_;refine aw rfl (aA call33 rfl (evc ajL (evc ajL evn))) ?_;refine (n7 u HS HN).mono ?_;rintro e w1 ⟨rfl, b1⟩;have HB := ae b1;clear b1;refine aQ ?_;refine aF 1 ?_;go_upto_region 2 with fail;refine bU 1 ?_;go_wp2_with fail;go_ret;exact ⟨rfl, HB⟩
theorem va {C : eF} {D : ShI C} {w : World} (v u : Value) (hN : D.No w v) : Calls prog 11 #[v, u] w fun e w' => e = .returned (.int .i64 1) /\ Below w.heap.size w w' := by
 have HN := ae hN;clear hN;go_enter func11, ntmps11;go_upto_region 0 with fail;refine bU 1 ?_;go_upto_region 1 with fail;refine aH 2 ?_;refine aw rfl (aA call33 rfl (evc ajL (evc ajL evn))) ?_;refine (pj v u HN).mono ?_;rintro e w1 ⟨rfl, b1⟩;have HB := ae b1;clear b1;refine aQ ?_;refine aF 1 ?_;go_upto_region 2 with fail;refine bU 1 ?_;go_wp2_with fail;go_ret;exact ⟨rfl, HB⟩
theorem wR {C : eF} {D : ShI C} {w : World} {S : Nat -> Prop} {t K : Nat} {s : ShS} (u : Value) (hS : D.P w S t K s) (hN : C.No w u) : Calls prog 11 #[.pointer (some ⟨t, 0, none⟩), u] w fun e w' => e = .returned (.int .i64 1) /\ Below w.heap.size w w' := by
 have HS := ae hS;have HN := ae hN;clear hS hN;go_enter func11, ntmps11;go_upto_region 0 with fail;refine bU 1 ?_;go_upto_region 1 with fail;refine aH 2 ?_;refine aw rfl (aA call33 rfl (evc ajL (evc ajL evn))) ?_;refine (n7 u HS HN).mono ?_;rintro e w1 ⟨rfl, b1⟩;have HB := ae b1;clear b1;refine aQ ?_;refine aF 1 ?_;go_upto_region 2 with fail;refine bU 1 ?_;go_wp2_with fail;go_ret;exact ⟨rfl, HB⟩
theorem qv {C : eF} {D : ShI C} {w : World} {G S : Nat -> Prop} {q p t K : Nat} {h : HuS} {s : ShS} (n : Int) (hJ : C.J w G q p h) (hS : D.P w S t K s) (hc : CrG w G) (hq : ¬ S 0) (hd : ∀ b, G b -> ¬ S b) (hr : HR 17 h) {X : Int × HuS × ShS} (hX : ic h s n = X) : Calls prog 13 #[.pointer (some ⟨t, 0, none⟩), .pointer (some ⟨p, 0, none⟩), .int .i64 n] w fun e w' => e = .returned (.int .i64 X.1) /\ QDR C D w G S q p t K X.2.1 X.2.2 w' := by
 have HJ := ae hJ;have HS := ae hS;have HQ := ae (QD.start hJ hS hc hq hd);have HR0 := ae hr;have HX := ae hX;obtain ⟨L, hL⟩ : ∃ L, dq s n = L := ⟨_, rfl⟩;have hL16 : L.length <= 16 := by
  rw [<- hL];unfold dq
  split
  ·have := ss n (s.cf n.toNat) s.N;have := (D.ok hS).n16;omega
  ·exact Nat.zero_le _
 have HL := ae hL;have HL16 := ae hL16;clear hJ hS hc hq hd hr hX hL hL16;go_enter func13, ntmps13;go_upto_region 0 with fail;refine bU 1 ?_;go_upto_region 1 with fail;refine aH 2 ?_;refine aw rfl (aA call33 rfl (evc ajL (evc ajL evn))) ?_;refine (yu HJ HS).mono ?_;rintro e w1 ⟨rfl, b1⟩;have HQ1 := ae (HQ.out.below b1);clear b1 HJ HS HQ;refine aQ ?_;refine aF 1 ?_;go_upto_region 3 with fail;refine aH 2 ?_;refine aw rfl (aA call10 rfl (evc ajL (evc ajL evn))) ?_;refine (HQ1.out.cells n).mono ?_;rintro e w2 ⟨v, rfl, m2, b2⟩;rw [HL.out] at m2;obtain ⟨A, c, hv, g1, g2⟩ := m2.form;replace hv : v = .slice A L.length c := by rw [hv, List.length_map]
 subst hv;have HM2 := ae m2;have HQ2 := ae (HQ1.out.own b2 m2);have HSZ : Hid (w1.heap.size <= w2.heap.size) := ae b2.size;clear m2 b2 g1 g2 HQ1;refine aQ ?_;refine ajB (mv underlying22 rfl ajL) ?_;refine aF 1 ?_;go_wp2_with fail
 go_loopw [18] (fun z wr => ∃ (i : Nat) (hu : HuS), z = .int .i64 i /\ i <= L.length /\ QD C D w G S q p t K (fun b => (Value.slice A L.length c).ownBlock = some b) wr hu s /\ aO dw wr w1.heap.size (.slice A L.length c) (L.map bV) /\ HR (17 - i) hu /\ fB (L.drop i) hu = fB L h) (fun z _ => L.length - (intOf z).toNat)
 case atStart => exact ⟨0, h, by go_num, Nat.zero_le _, HQ2, HM2, HR0, rfl⟩
 case round =>
  clear HQ2 HM2 HR0;obtain ⟨i, hu, rfl, hi1, qr, mr, hr, hk⟩ := hrel;have HI1 := ae hi1;have HQr := ae qr;have HMr := ae mr;have HRr := ae hr;have HKr := ae hk;clear hi1 qr mr hr hk;by_cases hlt : i < L.length
  ·have HI := ae hlt;have HLT : Hid (decide ((i : Int) < (L.length : Int)) = true) := ae (ao (by omega));have HIA : Hid (IntKind.i64.wrap ((i : Int) + 1) = ((i + 1 : Nat) : Int)) := ae (by have := HL16.out; rw [eW ⟨by omega, by omega⟩]; omega);have HN17 : Hid (17 - i = (17 - (i + 1)) + 1) := ae (by have := HL16.out; omega);obtain ⟨bA, oA, hA, hbA, hcA⟩ := HMr.out.rd.cl (k := i) hlt;obtain ⟨⟨cn, cm, cb⟩, hpp⟩ : ∃ z, L.getD i cT = z := ⟨_, rfl⟩;have hgd : (L.map bV).getD i iV = bV (L.getD i cT) := by
    simp only [List.getD, List.getElem?_map, List.getElem?_eq_getElem hlt]
    rfl
   rw [hgd, hpp] at hcA;have hdr : L.drop i = ⟨cn, cm, cb⟩ :: L.drop (i + 1) := by
    rw [List.drop_eq_getElem_cons hlt, <- hpp];simp [List.getD, List.getElem?_eq_getElem hlt]
   have hkk := HKr.out;rw [hdr, fB] at hkk;have hr1 : HR ((17 - (i + 1)) + 1) hu := HN17.out ▸ HRr.out;have hr2 := hr1.hwr cn cm cb;have HR1 := ae hr1;have HR2 := ae hr2.1;have HCA := ae hcA;have HKK := ae hkk;have HA := ae hA;clear hlt hA hbA hcA hpp hgd hdr hkk hr1 hr2 HKr HRr HN17;go_upto_region 4 with fail;refine af ?_;refine ajB (aZ true rfl ajL ajL HLT) ?_;refine ah ?_;go_upto_region 5 with fail;refine af ?_;refine ajB (cM (E := dw) (b := bA) (off := oA) rfl ((ev (Eq.refl _)).trans (by rw [HA.out])) ajL HI) ?_;refine ajB (fT (c := bV ⟨cn, cm, cb⟩) rfl ajL HCA) ?_;refine ajB (gd rfl) ?_;refine aG rfl (gY rfl (ev rfl) (ev rfl)) ?_;simp only [aa];have hbx := (Below.refl wr.heap.size wr).alloc aj (.cells (cQ (bV ⟨cn, cm, cb⟩)).toArray 46);have HX3 := ae (heap_alloc_new wr (.cells (cQ (bV ⟨cn, cm, cb⟩)).toArray 46));have HQ3 := ae (HQr.out.below hbx);have HM3 := ae (aa2 HMr (w' := wr.alloc (.cells (cQ (bV ⟨cn, cm, cb⟩)).toArray 46)) fun b e => hbx.block b (HQr.out.lt e));obtain ⟨b8, hb8⟩ : ∃ b8, wr.heap.size = b8 := ⟨_, rfl⟩;rw [hb8] at HX3 ⊢;clear hb8 hbx HQr HMr HCA;generalize wr.alloc (.cells (cQ (bV ⟨cn, cm, cb⟩)).toArray 46) = w3 at *;refine ah ?_;go_upto_region 6 with fail;refine aH 1 ?_;refine ajB (ax rfl ajL rt) ?_;refine ajB (io (s := cn) (m := cm) rfl ajL (iX (aP HX3))) ?_;refine ajB (ax rfl ajL air) ?_;refine ajB (bJ (c := cb) rfl ajL (abI (aP HX3))) ?_;refine aw rfl (aA call36 rfl (evc ajL (evc ajL (evc ajL evn)))) ?_;refine (HQ3.out.write cn cm cb HR1).mono ?_;rintro e w4 ⟨rfl, q4, kk⟩;have HQ4 := ae q4;have HM4 := ae (aa2 HM3 fun b e => kk b e);obtain ⟨x, hx⟩ : ∃ x, jL hu cn cm cb = x := ⟨_, rfl⟩;have HE := ae hx;rw [hx];have hkk := HKK.out;rw [hx] at hkk;have HKK2 := ae hkk;clear q4 kk hx hkk HQ3 HM3 HKK;refine aQ ?_;refine aF 1 ?_;have hcase : x = 0 \/ x ≠ 0 := by omega
   rcases hcase with hx0 | hx0
   ·have HKN : Hid (fB (L.drop (i + 1)) (fK hu cn cm cb) = fB L h) := ae (by have := HKK2.out; rw [if_pos hx0] at this; exact this);subst hx0;go_upto_region 7 with fail;refine aH 1 ?_;refine ajB (aJ false rfl ajL evk rfl) ?_;refine ah ?_;go_upto_region 9 with fail;refine af ?_;refine ajB (bL rfl ajL evk HIA) ?_;refine aF 1 ?_;go_wp2_with fail;go_roundw
    case rel => exact ⟨i + 1, _, by go_num, HI, HQ4, HM4, HR2, HKN⟩
    case measure => have := HI.out; simp [intOf]; omega
   ·have HXE : Hid (X = (x, fK hu cn cm cb, s)) := ae (by
     have e1 := HKK2.out;rw [if_neg hx0] at e1;rw [<- HX.out, ac0 (by rw [HL.out, <- e1]; exact hx0), HL.out, <- e1])
    have HX0 : Hid ((x != 0) = true) := ae (by simp [hx0]);clear hx0;go_upto_region 7 with fail;refine aH 1 ?_;refine ajB (aJ true rfl ajL evk HX0) ?_;refine ah ?_;go_upto_region 8 with fail;refine bU 2 ?_;go_wp2_with fail;go_ret;rw [HXE.out];exact ⟨rfl, HQ4.out.res⟩
  have hin : i = L.length := by have := HI1.out; omega
  subst hin;have hz : fB L h = (0, hu) := by rw [<- HKr.out, List.drop_length, fB]
  have HXE : Hid (X = (shE s n, hu, dF s n)) := ae (by rw [<- HX.out, wM (by rw [HL.out, hz]), HL.out, hz]);have HLT : Hid (decide ((L.length : Int) < (L.length : Int)) = false) := ae (am (by omega));clear hz hlt HKr;go_upto_region 4 with fail;refine af ?_;refine ajB (aZ false rfl ajL ajL HLT) ?_;refine ah ?_;go_upto_region 10 with fail;refine aH 2 ?_;refine aw rfl (aA call37 rfl (evc ajL (evc ajL evn))) ?_;refine (HQr.out.clean n).mono ?_;rintro e w3 ⟨rfl, q3, kk⟩;have HQ3 := ae q3;clear q3 kk;refine aQ ?_;refine aF 1 ?_;go_wp2_with fail;go_ret;rw [HXE.out];exact ⟨rfl, HQ3.out.res⟩
theorem vd {C : eF} {D : ShI C} {w : World} {G S : Nat -> Prop} {q p t K : Nat} {h : HuS} {s : ShS} (n : Int) (hJ : C.J w G q p h) (hS : D.P w S t K s) (hc : CrG w G) (hq : ¬ S 0) (hd : ∀ b, G b -> ¬ S b) (hr : HR 17 h) {x1 : Int} {x2 : HuS} {x3 : ShS} (hX : ic h s n = (x1, x2, x3)) : Calls prog 13 #[.pointer (some ⟨t, 0, none⟩), .pointer (some ⟨p, 0, none⟩), .int .i64 n] w fun e w' => e = .returned (.int .i64 x1) /\ QDR C D w G S q p t K x2 x3 w' :=
 qv n hJ hS hc hq hd hr hX
theorem ag2 {C : eF} {D : ShI C} (F : afq C) {w : World} {G S : Nat -> Prop} {q p t K : Nat} {h : HuS} {s : ShS} (hJ : C.J w G q p h) (hS : D.P w S t K s) (hc : CrG w G) (hq : ¬ S 0) (hd : ∀ b, G b -> ¬ S b) (hr : HR (16 * s.T + 17) h) {X : Int × HuS × ShS} (hX : yD h s = X) : Calls prog 11 #[.pointer (some ⟨t, 0, none⟩), .pointer (some ⟨p, 0, none⟩)] w fun e w' => e = .returned (.int .i64 X.1) /\ QDR C D w G S q p t K X.2.1 X.2.2 w' := by
 have HJ := ae hJ;have HS := ae hS;have HQ := ae (QD.start hJ hS hc hq hd);have hok := D.ok hS;obtain ⟨L, hL⟩ : ∃ L, s.da = L := ⟨_, rfl⟩;have hLT : L.length <= s.T := by rw [<- hL]; exact uW _ _
 have HOK := ae hok;have HR0 : Hid (HR (16 * L.length + 17) h) := ae (hr.less (by omega));have HX : Hid (oh L h s = X) := ae (by rw [<- hL]; exact hX);have HL := ae hL;have HL64 : Hid (L.length <= 64) := ae (aq hLT hok.t64);clear hJ hS hc hq hd hr hX hL hok hLT;go_enter func11, ntmps11;go_upto_region 0 with fail;refine bU 1 ?_;go_upto_region 1 with fail;refine aH 2 ?_;refine aw rfl (aA call33 rfl (evc ajL (evc ajL evn))) ?_;refine (yu HJ HS).mono ?_;rintro e w1 ⟨rfl, b1⟩;have HQ1 := ae (HQ.out.below b1);clear b1 HJ HS HQ;refine aQ ?_;refine aF 1 ?_;go_upto_region 3 with fail;refine aH 1 ?_;refine aw rfl (aA call7 rfl (evc ajL evn)) ?_;refine HQ1.out.da.mono ?_;rintro e w2 ⟨v, rfl, m2, b2⟩;rw [HL.out] at m2;obtain ⟨A, c, hv, g1, g2⟩ := m2.form;replace hv : v = .slice A L.length c := hv;subst hv;have HM2 := ae m2;have HQ2 := ae (HQ1.out.own b2 m2);clear m2 b2 g1 g2 HQ1;refine aQ ?_;refine aF 1 ?_;go_upto_region 4 with fail;refine aH 1 ?_;refine ajB (mv underlying35 rfl ajL) ?_;refine aF 1 ?_;go_wp2_with fail
 go_loopw [17] (fun z wr => ∃ (i : Nat) (hu : HuS) (su : ShS), z = .int .i64 i /\ i <= L.length /\ QD C D w G S q p t K (fun b => (Value.slice A L.length c).ownBlock = some b) wr hu su /\ aO bN wr w1.heap.size (.slice A L.length c) L /\ HR (16 * (L.length - i) + 17) hu /\ bX su /\ oh (L.drop i) hu su = X) (fun z _ => L.length - (intOf z).toNat)
 case atStart => exact ⟨0, h, s, by go_num, Nat.zero_le _, HQ2, HM2, HR0, HOK, HX⟩
 case round =>
  clear HQ2 HM2 HR0 HOK HX;obtain ⟨i, hu, su, rfl, hi1, qr, mr, hr, hok, hk⟩ := hrel;have HI1 := ae hi1;have HQr := ae qr;have HMr := ae mr;have HRr := ae hr;have HOr := ae hok;have HKr := ae hk;clear hi1 qr mr hr hk hok;by_cases hlt : i < L.length
  ·have HI := ae hlt;have HLT : Hid (decide ((i : Int) < (L.length : Int)) = true) := ae (ao (by omega));have HIA : Hid (IntKind.i64.wrap ((i : Int) + 1) = ((i + 1 : Nat) : Int)) := ae (by have := HL64.out; rw [eW ⟨by omega, by omega⟩]; omega);obtain ⟨bA, oA, hA, hbA, hcA⟩ := HMr.out.rd.int (k := i) hlt;obtain ⟨y, hpp⟩ : ∃ y, L.getD i 0 = y := ⟨_, rfl⟩;rw [hpp] at hcA;have hcB : wr.cell? ⟨bA, oA + i * bN.n, none⟩ = some (.int .i64 y) := by rw [show oA + i * bN.n = oA + i from by show oA + i * 1 = _; omega]; exact hcA
   have hdr : L.drop i = y :: L.drop (i + 1) := by
    rw [List.drop_eq_getElem_cons hlt, <- hpp];simp [List.getD, List.getElem?_eq_getElem hlt]
   obtain ⟨z1, z2, z3, hZ⟩ : ∃ z1 z2 z3, ic hu su y = (z1, z2, z3) := ⟨_, _, _, rfl⟩;have hkk : (if z1 = 0 then oh (L.drop (i + 1)) z2 z3 else (z1, z2, z3)) = X := by
    have := HKr.out;rw [hdr, oh, hZ] at this;exact this
   have hr1 : HR ((16 * (L.length - (i + 1)) + 17) + 16) hu := HRr.out.less (by omega);have hr2 := hr1.bks HOr y;rw [hZ] at hr2;have HR1 : Hid (HR 17 hu) := ae (HRr.out.less (by omega));have HR2 : Hid (HR (16 * (L.length - (i + 1)) + 17) z2) := ae hr2;have HO2 : Hid (bX z3) := ae (by
    have e3 : (ic hu su y).2.2 = z3 := by rw [hZ]
    rw [<- e3];unfold ic
    split
    ·split
     ·exact HOr.out.cln y
     ·exact HOr
    ·exact HOr)
   have HCA := ae hcB;have HKK := ae hkk;have HA := ae hA;have HZ := ae hZ;clear hlt hA hbA hcA hcB hpp hdr hkk hr1 hr2 hZ HKr HRr HOr;go_upto_region 5 with fail;refine af ?_;refine ajB (aZ true rfl ajL ajL HLT) ?_;refine ah ?_;go_upto_region 6 with fail;refine af ?_;refine ajB (cM (E := bN) (b := bA) (off := oA) rfl ((ev (Eq.refl _)).trans (by rw [HA.out])) ajL HI) ?_;refine ajB (aC rfl ajL (bY HCA)) ?_;refine aF 1 ?_;go_upto_region 7 with fail;refine aH 3 ?_;refine aw rfl (aA call13 rfl (evc ajL (evc ajL (evc ajL evn)))) ?_;refine (HQr.out.both fun G S hj hs hc hq hd => vd y hj hs hc hq hd HR1 HZ).mono ?_;rintro e w4 ⟨rfl, q4, kk⟩;have HQ4 := ae q4;have HM4 := ae (aa2 HMr fun b e => kk b e);clear q4 kk HQr HMr HCA;refine aQ ?_;refine aF 1 ?_;have hcase : z1 = 0 \/ z1 ≠ 0 := by omega
   rcases hcase with hx0 | hx0
   ·have HKN : Hid (oh (L.drop (i + 1)) z2 z3 = X) := ae (by have := HKK.out; rw [if_pos hx0] at this; exact this);clear HKK HZ;subst hx0;go_upto_region 8 with fail;refine aH 1 ?_;refine ajB (aJ false rfl ajL evk rfl) ?_;refine ah ?_;go_upto_region 10 with fail;refine af ?_;refine ajB (bL rfl ajL evk HIA) ?_;refine aF 1 ?_;go_wp2_with fail;go_roundw
    case rel => exact ⟨i + 1, _, _, by go_num, HI, HQ4, HM4, HR2, HO2, HKN⟩
    case measure => have := HI.out; simp [intOf]; omega
   ·have HXE : Hid (X = (z1, z2, z3)) := ae (by
     have e1 := HKK.out;rw [if_neg hx0] at e1;exact e1.symm)
    have HX0 : Hid ((z1 != 0) = true) := ae (by simp [hx0]);clear hx0;go_upto_region 8 with fail;refine aH 1 ?_;refine ajB (aJ true rfl ajL evk HX0) ?_;refine ah ?_;go_upto_region 9 with fail;refine bU 2 ?_;go_wp2_with fail;go_ret;rw [HXE.out];exact ⟨rfl, HQ4.out.res⟩
  have hin : i = L.length := by have := HI1.out; omega
  subst hin;have HXE : Hid (X = (oI hu, iK hu, su)) := ae (by rw [<- HKr.out, List.drop_length, oh]);have HLT : Hid (decide ((L.length : Int) < (L.length : Int)) = false) := ae (am (by omega));have HRf : Hid (HR (1 + 16) hu) := ae (HRr.out.less (by omega));clear hlt HKr;go_upto_region 5 with fail;refine af ?_;refine ajB (aZ false rfl ajL ajL HLT) ?_;refine ah ?_;go_upto_region 11 with fail;refine aH 1 ?_;refine aw rfl (aA call34 rfl (evc ajL evn)) ?_;refine (HQr.out.flush F HRf).mono ?_;rintro e w3 ⟨rfl, q3, kk⟩;have HQ3 := ae q3;clear q3 kk;refine aQ ?_;refine aF 1 ?_;go_wp2_with fail;go_ret;rw [HXE.out];exact ⟨rfl, HQ3.out.res⟩
theorem ajf (C : eF) (D : ShI C) (F : afq C) : aaK C D where
 oa := fun {w G S q p t K h s} n hj hs hc hq hd hr => qv n hj hs hc hq hd hr rfl
 all_ := fun {w G S q p t K h s} hj hs hc hq hd hr => ag2 F hj hs hc hq hd hr rfl
 no_stripe := fun {w G q p h} v n hN hj => r7 (D := D) v _ n hN
 no_all := fun {w G q p h} v hN hj => va (D := D) v _ hN
 nh_stripe := fun {w S t K s} v n hs hN => sA v n hs hN
 nh_all := fun {w S t K s} v hs hN => wR v hs hN
end Go.Proofs.YtlmdklakcmnaiaaGreatDoor
