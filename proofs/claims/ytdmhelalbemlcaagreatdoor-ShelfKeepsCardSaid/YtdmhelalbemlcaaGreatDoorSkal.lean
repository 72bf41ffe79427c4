import Derived.Test.YtdmhelalbemlcaaGreatDoorSkak
namespace Go.Proofs.YtdmhelalbemlcaaGreatDoor
set_option maxHeartbeats 8000000
open Go.Proofs.Tryz
open Go.RowKit
set_option linter.unusedVariables false
set_option linter.unusedSimpArgs false
set_option maxRecDepth 100000
section
variable {s : ShS} {n Q j k : Nat} {x : dP}
theorem zv (h : s.eH k = true) : k ∈ (s.tch k).o := by rw [vN, if_pos h]; exact List.mem_cons_self ..
theorem ajP (h : co s) (hk : k < s.T) (hb : s.eH k = true) (hQ : Q < 18446744073709551616) : co ((s.tch k).dk k (some (eG (s.bZ k) x.m x.b Q))) :=
 (h.tch hk).dk (zv hb) ((h.line k).1.set _ _ hQ) (by rw [tF, (h.line k).2]; exact (ShS.mO s k).1.symm)
theorem adX (h : co s) (hk : k < s.T) (hj : x.m = (j : Int)) (hjN : j < s.N) (hQ : Q ≠ 0) : ((s.tch k).dk k (some (eG (s.bZ k) x.m x.b Q))).dty = dr (s.tch k).dty k true := funext fun i => by
 by_cases e : i = k
 ·subst e;rw [dq];have : ((s.tch i).dk i (some (eG (s.bZ i) x.m x.b Q))).ln i = some (eG (s.bZ i) x.m x.b Q) := by rw [cw, if_pos rfl]
  rw [gq this];exact z7 (by rw [hj]; exact gL (by rw [(h.line i).2]; exact hjN)) hQ
 ·rw [cq _ _ e];exact jf (by rw [cw, if_neg e])
end
section
variable {w w1 w2 w' : World} {S S1 : Nat -> Prop} {t K : Nat} {s : ShS}
theorem PSh.lt (h : PSh w S t K s) : ∀ b, S b -> b < w.heap.size := by
 obtain ⟨lp, mp, FL, m, r, h1, h2, rfl⟩ := h;exact h1.size
theorem PSh.below (h : PSh w S t K s) (hb : Below w.heap.size w w1) : PSh w1 S t K s := by
 obtain ⟨lp, mp, FL, m, r, h1, h2, e⟩ := h;exact ⟨lp, mp, FL, m, r, h1.below hb, h2, e⟩
theorem PSx.since (hb : Below w.heap.size w w2) (h : PSx w2 S w' t s) : PSx w S w' t s := by
 obtain ⟨lp, mp, FL, m, r, h1, h2⟩ := h;refine ⟨lp, mp, FL, m, r, ⟨h1.u, (Only.of_below S hb).trans h1.on fun b hb => .inl hb, fun b hb' => ?_⟩, h2⟩;rcases h1.gr b hb' with e | e
 ·exact .inl e
 ·exact .inr (ar hb.size e)
theorem PSx.after (o : Only S w w1) (g : Grow w S S1) (h : PSx w1 S1 w' t s) : PSx w S w' t s := by
 obtain ⟨lp, mp, FL, m, r, h1, h2⟩ := h;refine ⟨lp, mp, FL, m, r, ⟨h1.u, o.trans h1.on g, fun b hb' => ?_⟩, h2⟩;rcases h1.gr b hb' with e | e
 ·exact g b e
 ·exact .inr (ar o.size e)
theorem PSx.keep {b : Nat} {o : Obj} (h : PSx w S w' t s) (hb : w.heap[b]? = some o) (hn : ¬ S b) : w'.heap[b]? = some o := Only.keep h.only hb hn
end
theorem ajE {w : World} {S : Nat -> Prop} {t K Q k j : Nat} {s : ShS} {x : dP} (h : PSh w S t K s) (hk : x.n = (k : Int)) (hj : x.m = (j : Int)) (hkT : k < s.T) (hjN : j < s.N) (hQ0 : Q ≠ 0) (hQ : Q < 18446744073709551616) (htb : s.eH k = true) : Calls prog 51 #[.pointer (some ⟨t, 0, none⟩), clV (cG x), .int .u64 (Q : Int)] w fun e w' => e = .returned (.int .i64 0) /\ PSx w S w' t ((s.tch k).dk k (some (eG (s.bZ k) x.m x.b Q))) := by
 have hok := h.x.ok;have hlt := h.lt;have HOK2 : Hid (co ((s.tch k).dk k (some (eG (s.bZ k) x.m x.b Q)))) := ae (ajP hok hkT htb hQ);have HDT := ae (adX (Q := Q) hok hkT hj hjN hQ0);have HTE : Hid (tcE s k = 0) := ae (by unfold tcE; rw [if_pos htb]);have HKT := ae hkT;have HQ := ae hQ;have HW := ae (ic (n := k) (by have := hok.t64; omega));have HLN := ae (gW htb);have HSE : Hid (q7 (s.bZ k) x.m Q = 0) := ae (by rw [hj]; exact zy (by rw [(hok.line k).2]; exact hjN) hQ0);have HND : Hid ((s.tch k).o.Nodup) := ae (hok.tch hkT).nd;have HX := ae (And.intro hk hj);have HMM := ae (zv htb);have hb1 := (Below.refl w.heap.size w).alloc aj (.cells (eI (cG x)).toArray 56);have HB1 := ae hb1;have HC1 := ae (heap_alloc_new w (.cells (eI (cG x)).toArray 56));have HS := ae h;have HNS : Hid (∀ b, w.heap.size <= b -> ¬ S b) := ae fun b hb hs => by have := hlt b hs; omega
 clear h hok hkT hjN hQ0 hQ htb hk hj hb1 hlt;go_enter func51, ntmps51;go_upto_region 0 with fail;refine af ?_;refine alM (aaV rfl alW) ?_;refine aH 1 ?_;have HBC : Hid (¬ S w.heap.size) := ae (HNS.out _ aj);obtain ⟨bc, hbc⟩ : ∃ bc, w.heap.size = bc := ⟨_, rfl⟩;have HBCQ : Hid (w.heap.size <= bc) := ae (Nat.le_of_eq hbc);rw [hbc] at HC1 HBC ⊢;generalize w.alloc (.cells (eI (cG x)).toArray 56) = w1 at *;clear hbc;have HP1 : Hid (w1.rangeAt bc 0 (er x.n x.m)) := ae (kO (c := cG x) (aP HC1));have hb2 := (Below.refl w1.heap.size w1).alloc aj (.cells (er x.n x.m).toArray 43);have HB2 := ae (HB1.out.trans (hb2.mono HB1.out.size));have HC2 := ae (aC HC1 hb2);have HP2 := ae (heap_alloc_new w1 (.cells (er x.n x.m).toArray 43));have HBP : Hid (¬ S w1.heap.size) := ae (HNS.out _ HB1.out.size);clear hb2;go_upto_region 1 with fail;refine af ?_;refine alM (ax rfl alW uc) ?_;refine alM (fP rfl alW HP1) ?_;refine alM (sQ rfl) ?_;refine aG rfl (wh rfl (ev rfl) (ev rfl)) ?_;simp only [aa];refine ah ?_;obtain ⟨bp, hbp⟩ : ∃ bp, w1.heap.size = bp := ⟨_, rfl⟩;rw [hbp] at HP2 HBP ⊢;generalize w1.alloc (.cells (er x.n x.m).toArray 43) = w2 at *;have HN2 : Hid (w2.cell? ⟨bp, 0, none⟩ = some (.int .i64 (k : Int))) := ae (by have := (eU (aP HP2)).1; rwa [HX.out.1] at this);have HS2 := ae (HS.out.below HB2).x;clear hbp HP1 HC1;go_upto_region 2 with fail;refine aJ 1 ?_;refine alM (ax rfl alW ku) ?_;refine alM (aE rfl alW (bV HN2)) ?_;refine ay rfl (aB call59 rfl (evc alW (evc alW evn))) ?_;refine (mS HS2 HKT).mono ?_;rintro e w3 ⟨rfl, h3⟩;rw [HTE.out];have HC3 := ae (h3.keep HC2 HBC);have HP3 := ae (h3.keep HP2 HBP);obtain ⟨lp, mp, FL, m, r, hs3, hok3⟩ := h3;have hl3 := hs3.u.ln k;rw [HLN.out] at hl3;obtain ⟨a, ha, hla, hlo⟩ := hl3.some_;have HS3 := ae (hs3.below (ak.drew));have HA := ae ha;have HLA : Hid (nG w3.drew (fun j => j = a) a (s.bZ k)) := ae ⟨hla, rfl, hlo⟩;have HLK : Hid ((Instr.lookup 64 (.map (some mp)) (.int .i64 (k : Int)) false).run prog w3.drew = .ok (.pointer (some ⟨a, 0, none⟩)) w3.drew) := ae (by
  have := HS3.out.u.map.kw HW;rwa [show mLn m (k : Int) = some a from by unfold mLn; rw [if_pos (by omega), Int.toNat_natCast, ha]] at this)
 have HN3 : Hid (w3.cell? ⟨bp, 0, none⟩ = some (.int .i64 (k : Int)) /\ w3.cell? ⟨bp, 0 + 1, none⟩ = some (.int .i64 x.m)) := ae (by have := eU (aP HP3); rw [HX.out.1] at this; exact this);have HBL : Hid (w3.rangeAt bc (0 + 2) (cel x.b)) := ae (aiP (c := cG x) (aP HC3));clear hs3 hok3 hl3 ha hla hlo;refine aR ?_;refine aH 1 ?_;go_upto_region 3 with fail;refine aJ 1 ?_;refine alM (aN false rfl alW evk rfl) ?_;refine ah ?_;go_upto_region 5 with fail;refine wp_region_still_tail 12 (by kernel_rfl) (by kernel_rfl) ?_;simp only [ac];refine aM rfl (aL rfl alW) ?_;simp only [aa];refine aM rfl (bj rfl alW) ?_;simp only [aa];refine aM rfl (ax rfl alW gv) ?_;simp only [aa];refine aM rfl (aE rfl alW (kA (PRu.c4 HS3.out.u))) ?_;simp only [aa];refine aM rfl (ax rfl alW ku) ?_;simp only [aa];refine aM rfl (aE rfl alW (bV HN3.out.1)) ?_;simp only [aa];refine aM rfl (di rfl alW alW HLK) ?_;simp only [aa];refine aM rfl (ax rfl alW zD) ?_;simp only [aa];refine aM rfl (aE rfl alW (bV HN3.out.2)) ?_;simp only [aa];refine aM rfl (ax rfl alW alk) ?_;simp only [aa];refine aM rfl (aV rfl alW HBL) ?_;simp only [aa];refine aM rfl (aL rfl alW) ?_;simp only [aa];refine wpStill_nil ?_;change wpList _ _ _ _ _ (World.drew _);refine ay rfl (aB call105 rfl (evc alW (evc alW (evc alW (evc alW evn))))) ?_;refine (agA w3.drew x.m x.b Q HLA HQ).mono ?_;rintro e w4 ⟨rfl, l4, t4⟩;rw [HSE.out];have HS4 := ae (HS3.out.line HA t4 l4);have HP4 := ae (Only.keep HS4.out.on HP2 HBP);have HN4 : Hid (w4.cell? ⟨bp, 0, none⟩ = some (.int .i64 (k : Int))) := ae (by have := (eU (aP HP4)).1; rwa [HX.out.1] at this);clear l4 t4;refine aR ?_;refine aH 1 ?_;go_upto_region 6 with fail;refine aJ 1 ?_;refine alM (aN false rfl alW evk rfl) ?_;refine ah ?_;have HS4d := ae (HS4.out.below (ak.drew));have HL4 : Hid (PLF w4.drew (fun b => FL b \/ w4.drew.heap.size <= b) lp (s.tch k).room (kyL (s.tch k).dty (s.tch k).o)) := ae (HS4d.out.u.li.mono fun b h1 _ => .inl h1);go_upto_region 8 with fail;refine wp_region_still_tail 6 (by kernel_rfl) (by kernel_rfl) ?_;simp only [ac];refine aM rfl (aL rfl alW) ?_;simp only [aa];refine aM rfl (bj rfl alW) ?_;simp only [aa];refine aM rfl (ax rfl alW kr) ?_;simp only [aa];refine aM rfl (aE rfl alW (oc (PRu.c3 HS4d.out.u))) ?_;simp only [aa];refine aM rfl (ax rfl alW ku) ?_;simp only [aa];refine aM rfl (aE rfl alW (bV HN4)) ?_;simp only [aa];refine wpStill_nil ?_;change wpList _ _ _ _ _ (World.drew _);refine ay rfl (aB call67 rfl (evc alW (evc alW (evc evk evn)))) ?_;refine (y9 w4.drew HL4 HW true).mono ?_;rintro e w5 ⟨rfl, l5, t5⟩;rw [z6 HND.out] at l5;obtain ⟨FL5, hs5⟩ := HS4d.out.list rfl l5 t5;rw [<- HDT.out] at hs5;have HF : Hid (ou (k : Int) (kyL (s.tch k).dty (s.tch k).o) = 0) := ae (if_pos (dl.2 HMM));rw [HF.out];have HS5 : Hid (PSx w2 S w5 t ((s.tch k).dk k (some (eG (s.bZ k) x.m x.b Q)))) := ae ⟨lp, mp, FL5, m, r, hs5, HOK2⟩;clear l5 t5 hs5;refine aR ?_;refine aH 1 ?_;go_wp2_with fail;go_ret;exact ⟨rfl, HS5.out.since HB2⟩
section
variable {s : ShS} {q j k i : Nat} {x p : dP} {c : List dP} {y : LnS} {m : Int} {b : Blk}
def vf (s : ShS) (x : dP) : Bool := (dj (s.bZ x.n.toNat) x.m.toNat).dt
theorem uU (s : ShS) (k : Nat) (y : LnS) (j : Nat) : (s.dk k (some y)).bZ j = if j = k then y else s.bZ j := by
 by_cases e : j = k
 ·subst e; rw [if_pos rfl]; exact dp (by rw [cw, if_pos rfl])
 ·rw [if_neg e]; unfold ShS.bZ; rw [cw, if_neg e]; rfl
theorem zu (h : co s) (hd : s.dty j = true) (n : Nat) : (s.tch n).bZ j = s.bZ j := by
 unfold ShS.bZ;rw [h.ns hd, (s.mO n).1]
theorem kL (h : co s) (hp : s.plc x.n x.m = true) (hd : vf s x = true) : s.dty x.n.toNat = true := by
 obtain ⟨k, i, e1, hk, e2, hi⟩ := f7 hp;rw [<- qK];refine pX (k := x.m.toNat) hd ?_;rw [(h.line _).2];omega
theorem ack (hr : lnR y m = true) (hq : q ≠ 0) (h : j = m.toNat \/ (dj y j).dt = true) : (dj (eG y m b q) j).dt = true := by
 obtain ⟨k, e, hk⟩ := jR hr;rw [e, na hk hq];unfold dj;rw [fv _ _ _ _ _ hk]
 split
 ·rfl
 ·rename_i hne
  rcases h with h | h
  ·exact absurd (by rw [h, e]; simp) hne
  ·exact h
theorem aeF (h : co s) (hq : gC s q c = 0) (hqb : q < 18446744073709551616) : ∀ i, i <= c.length -> ∀ x ∈ c.take i, vf ((c.take i).foldl (dH q) s) x = true
 |0, _ => fun x hx => by rw [List.take_zero] at hx; cases hx
 |i + 1, hi => fun x hx => by
  obtain ⟨h1, h2, h3⟩ := oM hq;have hi' : i < c.length := by omega
  have ih := aeF h hq hqb i (by omega);have pf := iy h hq hqb i (by omega);have hpm : c.getD i dA ∈ c := by rw [List.getD, List.getElem?_eq_getElem hi']; exact List.getElem_mem hi'
  obtain ⟨ht, hto, hr, _⟩ := pf.step (p := c.getD i dA) h3 (h1 _ hpm) ((kF _ _).2 (.inr (List.mem_map.2 ⟨_, hpm, rfl⟩))) h2 hqb;rw [fh _ _ (d := dA) hi'];rw [show c.take (i + 1) = c.take i ++ [c.getD i dA] from by rw [List.take_add_one, List.getD, List.getElem?_eq_getElem hi']; rfl] at hx;generalize c.getD i dA = p at *;generalize (c.take i).foldl (dH q) s = s1 at *;unfold vf dH;rw [uU];rcases List.mem_append.1 hx with hx | hx
  ·have hxm : x ∈ c := List.mem_of_mem_take hx;have hd := ih x hx;have hdy := kL pf.ok (by rw [pf.plc]; exact h1 x hxm) hd
   split
   ·rename_i e
    refine ack hr h2 (.inr ?_);rw [<- e, zu pf.ok hdy];exact hd
   ·rw [zu pf.ok hdy];exact hd
  ·have : x = p := by simpa using hx
   subst this;rw [if_pos rfl];exact ack hr h2 (.inl rfl)
theorem ajD {N : Nat} (h : (dj y j).dt = true) (hj : (j : Int) ≠ m) (hy : dQ y) : (dj (gw y m) j).dt = true := by
 unfold gw
 split
 ·rename_i hr
  obtain ⟨k, e, hk⟩ := jR hr;unfold dj;rw [e, Int.toNat_natCast, fv _ _ _ _ _ hk, if_neg (fun e2 => hj (by rw [e, e2]))];exact h
 ·exact h
theorem acd {N : Nat} (hx : x ∈ c) (h : qV N c x.n = false) : x.m ≠ ((N - 1 - x.n.toNat % N : Nat) : Int) := fun e => by
 have : qV N c x.n = true := List.any_eq_true.2 ⟨x, hx, by rw [ao rfl, ao e]; rfl⟩;rw [h] at this;cases this
theorem acA {s2 : ShS} (h : co s2) (hp : ∀ x ∈ c, s2.plc x.n x.m = true) (hd : ∀ x ∈ c, vf s2 x = true) : ∀ i, i <= c.length ->
  (∀ x ∈ c, qV s2.N c x.n = false -> vf ((c.take i).foldl (cU c) s2) x = true) /\ ∀ j, ((c.take i).foldl (cU c) s2).dty j = s2.dty j
 |0, _ => ⟨fun x hx _ => by rw [List.take_zero]; exact hd x hx, fun j => by rw [List.take_zero]; rfl⟩
 |i + 1, hi => by
  have hi' : i < c.length := by omega
  obtain ⟨ih1, ih2⟩ := acA h hp hd i (by omega);have hs : ∀ x ∈ c, (s2.ln x.n.toNat).isSome = true := fun x hx => eQ (kL h (hp x hx) (hd x hx))
  have fi := js h c hs i (by omega);have fi1 := js h c hs (i + 1) hi;have hpm : c.getD i dA ∈ c := by rw [List.getD, List.getElem?_eq_getElem hi']; exact List.getElem_mem hi'
  rw [fh _ _ (d := dA) hi'] at fi1 ⊢;generalize c.getD i dA = p at *;generalize (c.take i).foldl (cU c) s2 = s1 at *;have hplc : ∀ x ∈ c, s1.plc x.n x.m = true := fun x hx => by unfold ShS.plc; rw [fi.N, fi.T]; exact hp x hx
  by_cases hq : qV s1.N c p.n = true
  ·have e : cU c s1 p = s1 := by unfold cU; rw [if_pos hq]
   rw [e];exact ⟨ih1, ih2⟩
  ·have hqf : qV s2.N c p.n = false := by rw [fi.N] at hq; simpa using hq
   have e : cU c s1 p = s1.dk p.n.toNat (some (gw (s1.bZ p.n.toNat) ((s1.N - 1 - p.n.toNat % s1.N : Nat) : Int))) := by unfold cU; rw [if_neg hq]
   rw [e] at fi1 ⊢;have hdt : ∀ x ∈ c, qV s2.N c x.n = false -> vf (s1.dk p.n.toNat (some (gw (s1.bZ p.n.toNat) ((s1.N - 1 - p.n.toNat % s1.N : Nat) : Int)))) x = true := fun x hx hxq => by
    have hx1 := ih1 x hx hxq;unfold vf at hx1 ⊢;rw [uU]
    split
    ·rename_i en
     rw [en] at hx1;refine ajD (N := s1.N) hx1 ?_ (fi.ok.line _).1;have := acd hx hxq;obtain ⟨_, mi, _, _, em, _⟩ := f7 (hp x hx);rw [<- en, fi.N];omega
    ·exact hx1
   refine ⟨hdt, fun j => ?_⟩;rw [<- ih2];by_cases ej : j = p.n.toNat
   ·subst ej;rw [kL fi1.ok (by have := hplc p hpm; unfold ShS.plc at this ⊢; exact this) (hdt p hpm hqf), kL fi.ok (hplc p hpm) (ih1 p hpm hqf)]
   ·exact jf (by rw [cw, if_neg ej])
end
def hbC (f : Nat -> Bool) : List Value := (List.range 64).map fun j => .bool (f j)
theorem tN (f : Nat -> Bool) : (hbC f).length = 64 := by simp [hbC]
theorem xR (f : Nat -> Bool) {j : Nat} (h : j < 64) : (hbC f)[j]? = some (.bool (f j)) := by
 simp only [hbC, List.getElem?_map, List.getElem?_range h, Option.map_some]
theorem agJ (f : Nat -> Bool) (k : Nat) (b : Bool) : (hbC f).set k (.bool b) = hbC (dr f k b) := by
 apply List.ext_getElem?;intro j;by_cases hj : j < 64
 ·rw [xR _ hj];by_cases e : k = j
  ·subst e; rw [List.getElem?_set_self (by rw [tN]; exact hj), dq]
  ·rw [List.getElem?_set_ne e, xR _ hj, cq _ _ fun e2 => e e2.symm]
 ·rw [List.getElem?_eq_none (by rw [List.length_set, tN]; omega), List.getElem?_eq_none (by rw [tN]; omega)]
def iz (w : World) (b : Nat) (f : Nat -> Bool) : Prop := w.heap[b]? = some (.cells (hbC f).toArray 155 (0, 0))
section
variable {w w' : World} {b k : Nat} {f : Nat -> Bool}
theorem iz.at_ (h : iz w b f) (hk : k < 64) : w.cell? ⟨b, k, none⟩ = some (.bool (f k)) := by
 have := (aP h) k _ (xR f hk);rwa [Nat.zero_add] at this
theorem iz.fz (h : iz w b f) (j : Nat) : w.frozen? ⟨b, j, none⟩ = false := frozen_of_row w b j _ _ h
theorem iz.set (h : iz w b f) (k : Nat) : iz (w.setCell ⟨b, k, none⟩ (.bool true)) b (dr f k true) := by
 have := heap_setCell_same w b k _ _ (.bool true) h;unfold iz;rw [this, <- agJ];simp
theorem ac4 : (prog.info? 155).map (fun i => i.zero) = some (some (.agg (hbC fun _ => false).toArray)) := by kernel_rfl
theorem iz.below (h : iz w b f) (hb : Below w.heap.size w w') : iz w' b f := aC h hb
theorem akF {off : Nat} (hk : k < 64) : (Instr.indexAt 155 (.pointer (some ⟨b, 0, none⟩)) (.int .i64 (k : Int))).run prog w = .ok (.pointer (some ⟨b, k, none⟩)) w := by
 have e : (0 <= (k : Int) /\ (k : Int) < 64) := by omega
 simp [Instr.indexAt, Instr.sureAddr, asIntOf, run_underlying underlying155, Tryz.sizeOf4, Addr.add_mid, e, hk]
end
theorem l7 {ρ : Operand -> Value} {o : Oper} {x y : Operand} {w : World} {b k : Nat} (hk : k < 64) (ho : o.op = .indexAddr 155 x y) (hx : ρ x = .pointer (some ⟨b, 0, none⟩)) (hy : ρ y = .int .i64 (k : Int)) : (execOp ρ o).run prog w = .ok (.value (.pointer (some ⟨b, k, none⟩))) w := by
 unfold execOp;simp only [ho, hx, hy, Sem.run_bind, akF (off := 0) hk, Result.andThen_ok, Sem.run_pure]
def hbF (N : Nat) (l : List Cl) (j : Nat) : Bool := l.any (lw N j)
theorem ac2 {N : Nat} {l : List Cl} {i k : Nat} {x : Cl} (hi : i < l.length) (hx : l.getD i kt = x) (hk : x.s = (k : Int)) : hbF N (l.take (i + 1)) = if x.m = ((N - 1 - k % N : Nat) : Int) then dr (hbF N (l.take i)) k true else hbF N (l.take i) := by
 subst hx;have e : ∀ j, hbF N (l.take (i + 1)) j = (hbF N (l.take i) j || lw N j (l.getD i kt)) := fun j => by
  unfold hbF;rw [List.take_add_one, List.getElem?_eq_getElem hi, List.getD, List.getElem?_eq_getElem hi, List.any_append];simp
 funext j
 rw [e];by_cases ej : j = k
 ·subst ej
  split
  ·rename_i hm
   rw [dq];have : lw N j (l.getD i kt) = true := by unfold lw pPl; rw [ao hk, ao hm]; rfl
   rw [this, Bool.or_true]
  ·rename_i hm
   have : lw N j (l.getD i kt) = false := by unfold lw pPl; rw [am hm, Bool.and_false]
   rw [this, Bool.or_false]
 ·have : lw N j (l.getD i kt) = false := by unfold lw; rw [am (by omega), Bool.false_and]
  rw [this, Bool.or_false]
  split
  ·rw [cq _ _ ej]
  ·rfl
theorem abx {w : World} {S : Nat -> Prop} {t K nc cc : Nat} {A : Option Addr} {c : List dP} {s : ShS} (h : PSh w S t K s) (hn0 : nc <= 1000000) (hc : RdE cd w w.heap.size A nc (c.map cG)) (hcn : c.length = nc) (hA : ∀ x, A = some x -> 0 < nc -> ¬ S x.block) (hp : ∀ x ∈ c, s.plc x.n x.m = true) (hd : ∀ x ∈ c, vf s x = true) : Calls prog 52 #[.pointer (some ⟨t, 0, none⟩), .slice A nc cc] w fun e w' => e = .returned (.tuple #[]) /\ PSx w S w' t (c.foldl (cU c) s) := by
 have hok := h.x.ok;have hlt0 := h.lt;have HT64 : Hid (s.T <= 64) := ae hok.t64;have HPC := ae hp;have HN0 := ae hn0;have HC := ae hc;have HCN := ae hcn;have HA := ae hA;have HOK := ae hok;have HSM : Hid (∀ x ∈ c, (s.ln x.n.toNat).isSome = true) := ae fun x hx => eQ (kL hok (hp x hx) (hd x hx))
 have HFD := ae (acA hok hp hd);have HLC : Hid ((c.map cG).length = c.length) := ae (List.length_map _);have hb1 := (Below.refl w.heap.size w).alloc aj (.cells (hbC fun _ => false).toArray 155);have HB1 := ae hb1;have HH1 : Hid (iz (w.alloc (.cells (hbC fun _ => false).toArray 155)) w.heap.size (fun _ => false)) := ae (heap_alloc_new w _);have HS := ae h;have HNS : Hid (∀ b, w.heap.size <= b -> ¬ S b) := ae fun b hb hs => by have := hlt0 b hs; omega
 clear h hok hn0 hc hcn hA hp hd hb1 hlt0;go_enter func52, ntmps52;go_upto_region 0 with fail;refine af ?_;refine alM (dR ac4 rfl) ?_;refine ah ?_;have HBH : Hid (¬ S w.heap.size) := ae (HNS.out _ aj);obtain ⟨bh, hbh⟩ : ∃ bh, w.heap.size = bh := ⟨_, rfl⟩;have HBHQ := ae hbh;rw [hbh] at HH1 HBH ⊢;generalize w.alloc (.cells (hbC fun _ => false).toArray 155) = w1 at *;clear hbh;go_upto_region 1 with fail;refine aJ 1 ?_;refine alM (dV cd rfl alW) ?_;refine aH 1 ?_;go_wp2_with fail
 go_loopw [6, 12] (fun _ y wr => ∃ i : Nat, y = .int .i64 i /\ i <= nc /\ iz wr bh (hbF s.N ((c.map cG).take i)) /\ Below bh w wr) (fun _ y _ => nc - (intOf y).toNat)
 case atStart => exact ⟨0, by go_num, Nat.zero_le _, by rw [List.take_zero]; exact HH1, by have := HB1.out; rwa [HBHQ.out] at this⟩
 case round =>
  obtain ⟨i, rfl, hi, hh, hb⟩ := hrel;have HHr := ae hh;have HW := ae hb;have hb' : Below w.heap.size w wr := by rw [HBHQ.out]; exact hb
  have HCr := ae (HC.out.step hb');have HSr := ae (HS.out.below hb');have HBS : Hid (bh <= wr.heap.size) := ae (by have := hb'.size; rw [HBHQ.out] at this; exact this);clear hh hb hb';by_cases hlt : i < nc
  ·have HI := ae hlt;have HIC : Hid (i < c.length) := ae (by rw [HCN.out]; exact hlt);have HT : Hid (decide ((i : Int) < (nc : Int)) = true) := ae (ao (by omega));have HADD : Hid (IntKind.i64.wrap ((i : Int) + 1) = ((i + 1 : Nat) : Int)) := ae (by have := HN0.out; rw [eF ⟨by omega, by omega⟩]; omega);obtain ⟨b, off, rfl, hbb, hcell⟩ := HCr.out.cl hlt;obtain ⟨x, hx⟩ : ∃ x, c.getD i dA = x := ⟨_, rfl⟩;rw [mD HIC.out, hx] at hcell;have HCL : Hid (wr.rangeAt b (off + i * cd.n) (eI (cG x))) := ae hcell;have HXX := ae hx;obtain ⟨k, j, e1, hkT, e2, hjN⟩ := f7 (HPC.out x (by rw [<- hx, List.getD, List.getElem?_eq_getElem HIC.out]; exact List.getElem_mem HIC));have HE1 := ae e1;have HKT := ae hkT;have HK64 : Hid (k < 64) := ae (by have := HT64.out; omega);have HB3 : Hid (Below wr.heap.size wr (wr.alloc (.cells (eI (cG x)).toArray 56))) := ae (ak.alloc aj _);have HBX := ae (heap_alloc_new wr (.cells (eI (cG x)).toArray 56));have HSNO : Hid (hbF s.N ((c.map cG).take (i + 1)) = if x.m = ((s.N - 1 - k % s.N : Nat) : Int) then dr (hbF s.N ((c.map cG).take i)) k true else hbF s.N ((c.map cG).take i)) := ae (ac2 (x := cG x) (by rw [HLC.out]; exact HIC) (by rw [mD HIC.out, hx]) e1);clear hi hlt hcell hx hbb e1 hkT e2 hjN;go_upto_region 2 with fail;refine af ?_;refine alM (aY true rfl alW alW HT) ?_;refine ah ?_;go_upto_region 3 with fail;refine af ?_;refine alM (cu (E := cd) rfl alW alW HI) ?_;refine alM (iN rfl alW HCL) ?_;refine alM (i4 rfl) ?_;refine aG rfl (ka rfl (ev rfl) (ev rfl)) ?_;simp only [aa];refine ah ?_;obtain ⟨bx, hbx⟩ : ∃ bx, wr.heap.size = bx := ⟨_, rfl⟩;rw [hbx] at HBX ⊢;generalize wr.alloc (.cells (eI (cG x)).toArray 56) = w3 at *;have HS3 := ae (HSr.out.below HB3);have HH3 := ae (HHr.out.below HB3);have HW3 := ae (HW.out.trans (HB3.out.mono HBS));have HS3B : Hid (bh <= w3.heap.size) := ae (ar HBS HB3.out.size);clear hbx;have HPS : Hid (∀ {w' : World}, Below w3.heap.size w3 w' -> w'.cell? ⟨bx, 0, none⟩ = some (.int .i64 (k : Int)) /\ w'.cell? ⟨bx, 0 + 1, none⟩ = some (.int .i64 x.m)) := ae fun hw => by
    have := eU (kO (c := cG x) (aP (aC HBX hw)));rw [<- HE1.out];exact this
   obtain ⟨lp, mp, FL, m, r, hs3, hok3, _⟩ := HS3.out;have HU3 := ae hs3;clear hs3 hok3;go_upto_region 4 with fail;refine aT (B := w3.heap.size) (by kernel_rfl) ?_;refine alU (fun _ hw => ax rfl alW uc) ?_;refine alU (fun _ hw => ax rfl alW zD) ?_;refine alU (fun _ hw => aE rfl alW (bV (HPS.out hw).2)) ?_;refine cT 1 ?_;refine alU (fun _ hw => ax rfl alW uc) ?_;refine alU (fun _ hw => ax rfl alW ku) ?_;refine alU (fun _ hw => aE rfl alW (bV (HPS.out hw).1)) ?_;refine ch rfl (fun _ => aB call106 rfl (evc alW (evc alW evn))) (bO aj fun _ hw => rv HKT (HU3.out.below hw)) ?_;simp only [aa];by_cases hm : x.m = ((s.N - 1 - k % s.N : Nat) : Int)
   ·have HM : Hid ((x.m == ((s.N - 1 - k % s.N : Nat) : Int)) = true) := ae (by rw [hm]; exact beq_self_eq_true _);have HST : Hid (hbF s.N ((c.map cG).take (i + 1)) = dr (hbF s.N ((c.map cG).take i)) k true) := ae (by rw [HSNO.out, if_pos hm]);clear hm;refine alU (fun _ hw => aI true rfl alW alW HM) ?_;refine wpQuiet_nil ?_;intro w4 hw;have HH4 := ae (HH3.out.below hw);have HW4 := ae (HW3.out.trans (hw.mono HS3B));have HPS4 : Hid (w4.cell? ⟨bx, 0, none⟩ = some (.int .i64 (k : Int))) := ae (HPS.out hw).1;clear hw;have HH5 := ae (HH4.out.set k);have HW5 : Hid (Below bh w (w4.setCell ⟨bh, k, none⟩ (.bool true))) := ae (below_setCells HW4 aj (o := k) [.bool true]);go_upto_region 5 with fail;refine af ?_;refine alM (ax rfl alW uc) ?_;refine alM (ax rfl alW ku) ?_;refine alM (aE rfl alW (bV HPS4)) ?_;refine alM (l7 HK64 rfl alW alW) ?_;refine aG rfl (dh rfl (ev rfl) evk (akx (HH4.out.at_ HK64.out) (HH4.out.fz k))) ?_;simp only [aa];generalize w4.setCell ⟨bh, k, none⟩ (.bool true) = w5 at *;refine ah ?_;go_upto_region 6 with fail;refine af ?_;refine alM (bP rfl alW evk HADD) ?_;refine aH 1 ?_;go_wp2_with fail;go_roundw
    case rel => exact ⟨i + 1, by go_num, HI, by rw [HST.out]; exact HH5, HW5⟩
    case measure => have := HI.out; simp [intOf]; omega
   have HM : Hid ((x.m == ((s.N - 1 - k % s.N : Nat) : Int)) = false) := ae (av hm);have HST : Hid (hbF s.N ((c.map cG).take (i + 1)) = hbF s.N ((c.map cG).take i)) := ae (by rw [HSNO.out, if_neg hm]);clear hm;refine alU (fun _ hw => aI false rfl alW alW HM) ?_;refine wpQuiet_nil ?_;intro w4 hw;have HH4 := ae (HH3.out.below hw);have HW4 := ae (HW3.out.trans (hw.mono HS3B));clear hw;go_upto_region 6 with fail;refine af ?_;refine alM (bP rfl alW evk HADD) ?_;refine aH 1 ?_;go_wp2_with fail;go_roundw
   case rel => exact ⟨i + 1, by go_num, HI, by rw [HST.out]; exact HH4, HW4⟩
   case measure => have := HI.out; simp [intOf]; omega
  have hin : i = nc := by omega
  have HT : Hid (decide ((i : Int) < (nc : Int)) = false) := ae (am (by omega));have HHB : Hid (iz wr bh (hbF s.N (c.map cG))) := ae (by have := HHr.out; rwa [hin, List.take_of_length_le (by rw [HLC.out, HCN.out]; omega)] at this);clear hlt hi hin;go_upto_region 2 with fail;refine af ?_;refine alM (aY false rfl alW alW HT) ?_;refine ah ?_;go_upto_region 7 with fail;refine aJ 1 ?_;refine alM (dV cd rfl alW) ?_;refine aH 1 ?_;have HWB : Hid (Below w.heap.size w wr) := ae (by rw [HBHQ.out]; exact HW);have HCB := HCr;have HSB := HSr;clear HCr HSr HW HBS
  rename World => wB
  go_wp2_with fail
  go_loopw [8, 9, 32] (fun _ _ y wr => ∃ i : Nat, y = .int .i64 i /\ i <= nc /\ PSx wB S wr t ((c.take i).foldl (cU c) s)) (fun _ _ y _ => nc - (intOf y).toNat)
  case atStart => exact ⟨0, by go_num, Nat.zero_le _, HSB.out.x⟩
  case round =>
   obtain ⟨i, rfl, hi, hs⟩ := hrel;have HSr := ae hs;have HCr := ae (HCB.out.only hs.only aj HA);have HHr : Hid (iz wr bh (hbF s.N (c.map cG))) := ae (hs.keep HHB HBH);clear hs;by_cases hlt : i < nc
   ·have HI := ae hlt;have HIC : Hid (i < c.length) := ae (by rw [HCN.out]; exact hlt);have HT : Hid (decide ((i : Int) < (nc : Int)) = true) := ae (ao (by omega));have HADD : Hid (IntKind.i64.wrap ((i : Int) + 1) = ((i + 1 : Nat) : Int)) := ae (by have := HN0.out; rw [eF ⟨by omega, by omega⟩]; omega);obtain ⟨b, off, rfl, hbb, hcell⟩ := HCr.out.cl hlt;obtain ⟨x, hx⟩ : ∃ x, c.getD i dA = x := ⟨_, rfl⟩;rw [mD HIC.out, hx] at hcell;have HCL : Hid (wr.rangeAt b (off + i * cd.n) (eI (cG x))) := ae hcell;have HXX := ae hx;obtain ⟨k, j, e1, hkT, e2, hjN⟩ := f7 (HPC.out x (by rw [<- hx, List.getD, List.getElem?_eq_getElem HIC.out]; exact List.getElem_mem HIC));have HE1 := ae e1;have HKT := ae hkT;have HK64 : Hid (k < 64) := ae (by have := HT64.out; omega);have HB3 : Hid (Below wr.heap.size wr (wr.alloc (.cells (eI (cG x)).toArray 56))) := ae (ak.alloc aj _);have HBX := ae (heap_alloc_new wr (.cells (eI (cG x)).toArray 56));have HFA := ae (acp HOK HSM HIC (by rw [hx]; exact e1));have HFD1 : Hid (∀ j, ((c.take (i + 1)).foldl (cU c) s).dty j = ((c.take i).foldl (cU c) s).dty j) := ae fun j => by rw [(HFD.out (i + 1) HIC.out).2, (HFD.out i (Nat.le_of_lt HIC.out)).2]
    have HWF := ae (ic HK64);clear hi hlt hcell hx hbb e1 hkT e2 hjN;go_upto_region 8 with fail;refine af ?_;refine alM (aY true rfl alW alW HT) ?_;refine ah ?_;go_upto_region 9 with fail;refine af ?_;refine alM (cu (E := cd) rfl alW alW HI) ?_;refine alM (iN rfl alW HCL) ?_;refine alM (i4 rfl) ?_;refine aG rfl (ka rfl (ev rfl) (ev rfl)) ?_;simp only [aa];refine ah ?_;obtain ⟨bx, hbx⟩ : ∃ bx, wr.heap.size = bx := ⟨_, rfl⟩;rw [hbx] at HBX ⊢;generalize wr.alloc (.cells (eI (cG x)).toArray 56) = w3 at *;have HS3 := ae (HSr.out.below HB3);have HH3 := ae (HHr.out.below HB3);clear hbx;have HPS : Hid (w3.cell? ⟨bx, 0, none⟩ = some (.int .i64 (k : Int))) := ae (by
     have := (eU (kO (c := cG x) (aP HBX))).1;rw [<- HE1.out];exact this)
    go_upto_region 10 with fail;refine af ?_;refine alM (ax rfl alW uc) ?_;refine alM (ax rfl alW ku) ?_;refine alM (aE rfl alW (bV HPS)) ?_;refine aH 1 ?_;have HFN := ae HFA.out.N;cases hfl : hbF s.N (c.map cG) k;rotate_left
    ·have HFL := ae hfl;have HNX : Hid ((c.take (i + 1)).foldl (cU c) s = (c.take i).foldl (cU c) s) := ae (HFA.out.yes (by rw [HFN.out]; exact hfl));clear hfl;go_upto_region 11 with fail;refine aJ 1 ?_;refine alM (l7 HK64 rfl alW alW) ?_;refine alM (aE rfl alW (t6 (by rw [HH3.out.at_ HK64.out, HFL.out]))) ?_;refine aH 1 ?_;go_upto_region 13 with fail;refine af ?_;refine alM (bP rfl alW evk HADD) ?_;refine aH 1 ?_;go_wp2_with fail;go_roundw
     case rel => exact ⟨i + 1, by go_num, HI, by rw [HNX.out]; exact HS3⟩
     case measure => have := HI.out; simp [intOf]; omega
    have HFL := ae hfl;have HNX : Hid ((c.take (i + 1)).foldl (cU c) s = ((c.take i).foldl (cU c) s).dk k (some (gw (((c.take i).foldl (cU c) s).bZ k) ((s.N - 1 - k % s.N : Nat) : Int)))) := ae (by rw [HFA.out.no (by rw [HFN.out]; exact hfl), HFN.out]; rfl);have HNOK := ae HFA.out.nok;have HLN := ae HFA.out.ln;have HKT1 : Hid (k < ((c.take i).foldl (cU c) s).T) := ae (by rw [HFA.out.T]; exact HKT);clear hfl;generalize (c.take i).foldl (cU c) s = s1 at *;generalize hs2q : (c.take (i + 1)).foldl (cU c) s = s2 at *;have HS2Q := ae hs2q;clear hs2q;obtain ⟨lp, mp, FL, m, r, hs3, hok3⟩ := HS3.out;have hl3 := hs3.u.ln k;rw [HLN.out] at hl3;obtain ⟨a, ha, hla, hlo⟩ := hl3.some_;have HA3 := ae ha;have HU3 := ae hs3;have HLA : Hid (LnA w3 a (lf (s1.bZ k)) /\ dQ (s1.bZ k)) := ae ⟨hla, hlo⟩;have HLK : ∀ {w' : World}, dU w' mp s1.o.length (mLn m) -> (Instr.lookup 64 (.map (some mp)) (.int .i64 (k : Int)) false).run prog w' = .ok (.pointer (some ⟨a, 0, none⟩)) w' := fun hm => by
     have := hm.kw HWF;rwa [show mLn m (k : Int) = some a from by unfold mLn; rw [if_pos (by omega), Int.toNat_natCast, HA3.out]] at this
    have HSD : Hid (w3.drew.cell? ⟨t, 4, none⟩ = some (.map (some mp)) /\ (Instr.lookup 64 (.map (some mp)) (.int .i64 (k : Int)) false).run prog w3.drew = .ok (.pointer (some ⟨a, 0, none⟩)) w3.drew) := ae ⟨hs3.u.c4, HLK (hs3.below (ak.drew)).u.map⟩;clear hok3 hl3 ha hla hlo;go_upto_region 11 with fail;refine aJ 1 ?_;refine alM (l7 HK64 rfl alW alW) ?_;refine alM (aE rfl alW (t6 (by rw [HH3.out.at_ HK64.out, HFL.out]))) ?_;refine aH 1 ?_;go_upto_region 12 with fail;refine wp_region_held (S := fun w' => w'.cell? ⟨t, 4, none⟩ = some (.map (some mp)) /\ (Instr.lookup 64 (.map (some mp)) (.int .i64 (k : Int)) false).run prog w' = .ok (.pointer (some ⟨a, 0, none⟩)) w') (by kernel_rfl) ?_;change wpAnyH _ _ _ _ _ 10 _ _ w3.drew;refine al9 0 rfl HSD ?_;refine amb 1 rfl HSD ?_;refine alP 2 rfl (fun _ hw => ax rfl alW gv) HSD ?_;refine alP 3 rfl (fun _ hw => aE rfl alW (kA hw.1)) HSD ?_;refine al9 4 rfl HSD ?_;refine alP 5 rfl (fun _ hw => di rfl alW alW hw.2) HSD ?_;refine al9 6 rfl HSD ?_;refine al9 7 rfl HSD ?_;refine cW 8 rfl (by kernel_rfl) rfl (aB call106 rfl (evc alW (evc alW evn))) ?_;refine (rv HKT1 (hs3.below (ak.drew)).u).mono ?_;rintro e wA ⟨rfl, bA⟩;have bA' := ((Below.refl w3.heap.size w3).drew).trans bA;have hsA := hs3.below bA';have HSA : Hid (wA.cell? ⟨t, 4, none⟩ = some (.map (some mp)) /\ (Instr.lookup 64 (.map (some mp)) (.int .i64 (k : Int)) false).run prog wA = .ok (.pointer (some ⟨a, 0, none⟩)) wA) := ae ⟨hsA.u.c4, HLK hsA.u.map⟩;have HUA := ae hsA;have HPA : Hid (nG wA (fun j => j = a) a (s1.bZ k)) := ae ⟨HLA.out.1.below bA', rfl, HLA.out.2⟩;clear bA bA' hsA;refine ⟨_, rfl, HSA, ?_⟩;simp only [aa];refine cW 9 rfl (by kernel_rfl) rfl (aB call107 rfl (evc alW (evc alW evn))) ?_;rw [show s1.N = s.N from HFN.out];refine (yy wA ((s.N - 1 - k % s.N : Nat) : Int) HPA).mono ?_;rintro e wC ⟨rfl, lC, tC⟩;have HUC := ae (HUA.out.line HA3 tC lC);have HSC : Hid (wC.cell? ⟨t, 4, none⟩ = some (.map (some mp)) /\ (Instr.lookup 64 (.map (some mp)) (.int .i64 (k : Int)) false).run prog wC = .ok (.pointer (some ⟨a, 0, none⟩)) wC) := ae ⟨HUC.out.u.c4, HLK HUC.out.u.map⟩;clear lC tC;refine ⟨_, rfl, HSC, ?_⟩;simp only [aa];refine wpAnyH_done (by kernel_rfl) ?_ _;have HSF : Hid (PSx wB S wC t s2) := ae (by
     have hde : s2.dty = s1.dty := funext HFD1;refine ⟨lp, mp, FL, m, r, ?_, HNOK⟩;have hu := HUC.out;rw [hde];rw [HNX.out];exact hu)
    go_upto_region 13 with fail;refine af ?_;refine alM (bP rfl alW evk HADD) ?_;refine aH 1 ?_;go_wp2_with fail;go_roundw
    case rel => exact ⟨i + 1, by go_num, HI, by rw [HS2Q.out]; exact HSF⟩
    case measure => have := HI.out; simp [intOf]; omega
   have hin : i = nc := by omega
   have HT : Hid (decide ((i : Int) < (nc : Int)) = false) := ae (am (by omega));have HSF : Hid (PSx wB S wr t (c.foldl (cU c) s)) := ae (by have := HSr.out; rwa [List.take_of_length_le (by rw [HCN.out]; omega)] at this);clear hlt hi hin;go_upto_region 8 with fail;refine af ?_;refine alM (aY false rfl alW alW HT) ?_;refine ah ?_;go_wp2_with fail
   go_end0
   exact ⟨rfl, HSF.out.since HWB⟩
theorem ajq {w : World} {S : Nat -> Prop} {t K Q nc cc : Nat} {A : Option Addr} {c : List dP} {s : ShS} (h : PSh w S t K s) (hQ : Q < 18446744073709551616) (hn0 : nc <= 1000000) (hc : RdE cd w w.heap.size A nc (c.map cG)) (hcn : c.length = nc) (hA : ∀ x, A = some x -> 0 < nc -> ¬ S x.block) : Calls prog 13 #[.pointer (some ⟨t, 0, none⟩), .int .u64 (Q : Int), .slice A nc cc] w fun e w' => e = .returned (.int .i64 (gC s Q c)) /\ PSx w S w' t (ji s Q c) := by
 have hok := h.x.ok;have HQB := ae hQ;have HN0 := ae hn0;have HC := ae hc;have HCN := ae hcn;have HA := ae hA;have HOK := ae hok;have HS := ae h;obtain ⟨lp, mp, FL, m, r, hs, _, _⟩ := h;have HU := ae hs;obtain ⟨pq, hpq⟩ : ∃ pq, gC s Q c = pq := ⟨_, rfl⟩;have HPQ := ae hpq;rw [hpq];clear hs hok hn0 hc hcn hA hQ hpq;go_enter func13, ntmps13;go_upto_region 1 with fail;refine aJ 3 ?_;refine ay rfl (aB call50 rfl (evc alW (evc alW (evc alW evn)))) ?_;refine (abO HU HOK HN0 HC HCN).mono ?_;rintro e wB ⟨rfl, b1⟩;rw [HPQ.out];have HB := ae b1;clear b1;refine aR ?_;refine aH 1 ?_;by_cases hz : pq = 0;rotate_left
 ·have HNE : Hid ((pq != 0) = true) := ae (bne_iff_ne.2 hz);have HZ2 : Hid (ji s Q c = s) := ae (by unfold ji; rw [HPQ.out, if_neg hz]);clear hz;go_upto_region 2 with fail;refine aJ 1 ?_;refine alM (aN true rfl alW evk HNE) ?_;refine ah ?_;go_upto_region 3 with fail;refine cC 2 ?_;go_wp2_with fail;go_ret;exact ⟨rfl, by rw [HZ2.out]; exact HS.out.x.below HB⟩
 subst hz;have HPS : Hid (ji s Q c = c.foldl (cU c) (c.foldl (dH Q) s)) := ae (by unfold ji; rw [if_pos HPQ.out]);go_upto_region 2 with fail;refine aJ 1 ?_;refine alM (aN false rfl alW evk rfl) ?_;refine ah ?_;go_upto_region 4 with fail;refine aJ 1 ?_;refine alM (dV cd rfl alW) ?_;refine aH 1 ?_;have HSB := ae (HS.out.below HB);have HCB := ae (HC.out.step HB);clear HU;go_wp2_with fail
 go_loopw [9, 10, 20] (fun _ _ y wr => ∃ i : Nat, y = .int .i64 i /\ i <= nc /\ PSx wB S wr t ((c.take i).foldl (dH Q) s)) (fun _ _ y _ => nc - (intOf y).toNat)
 case atStart => exact ⟨0, by go_num, Nat.zero_le _, HSB.out.x⟩
 case round =>
  obtain ⟨i, rfl, hi, hs⟩ := hrel;have HSr := ae hs;have HCr := ae (HCB.out.only hs.only aj HA);clear hs;by_cases hlt : i < nc
  ·have HI := ae hlt;have HIC : Hid (i < c.length) := ae (by rw [HCN.out]; exact hlt);have HT : Hid (decide ((i : Int) < (nc : Int)) = true) := ae (ao (by omega));have HADD : Hid (IntKind.i64.wrap ((i : Int) + 1) = ((i + 1 : Nat) : Int)) := ae (by have := HN0.out; rw [eF ⟨by omega, by omega⟩]; omega);obtain ⟨k, j, hpa⟩ := adG HOK HPQ HQB HIC;obtain ⟨b, off, rfl, hbb, hcell⟩ := (HCB.out.only HSr.out.only aj HA).cl hlt;obtain ⟨x, hx⟩ : ∃ x, c.getD i dA = x := ⟨_, rfl⟩;rw [mD HIC.out, hx] at hcell;have HCL : Hid (wr.rangeAt b (off + i * cd.n) (eI (cG x))) := ae hcell;have hpn := hpa.n;have hpm := hpa.m;rw [hx] at hpn hpm;have HXN := ae hpn;have HXM := ae hpm;have HKT : Hid (k < ((c.take i).foldl (dH Q) s).T) := ae (by rw [hpa.T]; exact hpa.kT);have hNf := (iy HOK HPQ HQB i (Nat.le_of_lt HIC)).N;have HJN : Hid (j < ((c.take i).foldl (dH Q) s).N) := ae (by rw [hNf]; exact hpa.mN);have HTB := ae hpa.tb;have HQ0 := ae hpa.n0;have hnx := hpa.nxt;rw [hx] at hnx;have HNX := ae hnx;have HB3 : Hid (Below wr.heap.size wr (wr.alloc (.cells (eI (cG x)).toArray 56))) := ae (ak.alloc aj _);have HBX := ae (heap_alloc_new wr (.cells (eI (cG x)).toArray 56));clear hi hlt hcell hx hbb hpn hpm hpa hNf hnx;go_upto_region 5 with fail;refine af ?_;refine alM (aY true rfl alW alW HT) ?_;refine ah ?_;go_upto_region 6 with fail;refine af ?_;refine alM (cu (E := cd) rfl alW alW HI) ?_;refine alM (iN rfl alW HCL) ?_;refine alM (i4 rfl) ?_;refine aG rfl (ka rfl (ev rfl) (ev rfl)) ?_;simp only [aa];refine ah ?_;obtain ⟨bx, hbx⟩ : ∃ bx, wr.heap.size = bx := ⟨_, rfl⟩;rw [hbx] at HBX ⊢;generalize wr.alloc (.cells (eI (cG x)).toArray 56) = w3 at *;have HS3 := ae (HSr.out.below HB3);clear hbx;obtain ⟨S3, hs3, o3, g3⟩ := HS3.out.res K;have HSH := ae hs3;have HO3 := ae o3;have HG3 := ae g3;clear hs3 o3 g3;go_upto_region 7 with fail;refine aJ 1 ?_;refine alM (iN rfl alW (aP HBX)) ?_;refine runs 1 ?_;refine ay rfl (aB call51 rfl (evc alW (evc alW (evc alW evn)))) ?_;refine (ajE HSH HXN HXM HKT HJN HQ0 HQB HTB).mono ?_;rintro e w4 ⟨rfl, h4⟩;rw [<- HNX.out] at h4;have HS4 := ae (h4.after HO3 HG3);clear h4;refine aR ?_;refine aH 1 ?_;go_upto_region 8 with fail;refine aJ 1 ?_;refine alM (aN false rfl alW evk rfl) ?_;refine ah ?_;go_upto_region 10 with fail;refine af ?_;refine alM (bP rfl alW evk HADD) ?_;refine aH 1 ?_;go_wp2_with fail;go_roundw
   case rel => exact ⟨i + 1, by go_num, HI, HS4⟩
   case measure => have := HI.out; simp [intOf]; omega
  have hin : i = nc := by omega
  have HT : Hid (decide ((i : Int) < (nc : Int)) = false) := ae (am (by omega));have htk : c.take i = c := List.take_of_length_le (by rw [HCN.out]; omega);rw [htk] at HSr;have hpf := iy HOK HPQ HQB c.length aj;have hpd := aeF HOK HPQ HQB c.length aj;rw [List.take_length] at hpf hpd;obtain ⟨hq1, _, _⟩ := oM HPQ;have HP2 : Hid (∀ x ∈ c, (c.foldl (dH Q) s).plc x.n x.m = true) := ae fun x hx => by rw [hpf.plc]; exact hq1 x hx
  have HD2 := ae hpd;obtain ⟨S2, hs2, o2, g2⟩ := HSr.out.res K;have HSH := ae hs2;have HO2 := ae o2;have HG2 := ae g2;have HA2 : Hid (∀ x, A = some x -> 0 < nc -> ¬ S2 x.block) := ae fun x e hn hs => by
   rcases g2 _ hs with e2 | e2
   ·exact HA.out x e hn e2
   ·obtain ⟨b, off, e3, hb, _⟩ := HC.out.2 0 hn;rw [e] at e3;injection e3 with e3;subst e3;have := HB.out.size;have hb' : b < w.heap.size := hb;have e4 : wB.heap.size <= b := e2;omega
  clear hlt hi hin htk hpf hpd hq1 hs2 o2 g2;go_upto_region 5 with fail;refine af ?_;refine alM (aY false rfl alW alW HT) ?_;refine ah ?_;go_upto_region 11 with fail;refine aJ 2 ?_;refine ay rfl (aB call52 rfl (evc alW (evc alW evn))) ?_;refine (abx HSH HN0 (HCr.out.more HSr.out.only.size) HCN HA2 HP2 HD2).mono ?_;rintro e w5 ⟨rfl, h5⟩;have HS5 := ae ((h5.after HO2 HG2).since HB);clear h5;refine aR ?_;refine ah ?_;go_wp2_with fail;go_ret;exact ⟨rfl, by rw [HPS.out]; exact HS5⟩
theorem oE {s : ShS} {n : Int} (h : s.str n = true) : ∃ k : Nat, n = (k : Int) /\ k < s.T := by
 have := of_decide_eq_true h;exact ⟨n.toNat, by omega, by omega⟩
theorem mK {s : ShS} (n : Int) : vq s.T n = shE s n := rfl
section
variable {s : ShS} {k : Nat} {x : LnS}
theorem acU (h : co s) : (s.dk k (some (gM x))).dty = dr s.dty k false := funext fun i => by
 by_cases e : i = k
 ·subst e;rw [dq, gq (x := gM x) (by rw [cw, if_pos rfl])];unfold kv;rw [afJ]
  rfl
 ·rw [cq _ _ e];exact jf (by rw [cw, if_neg e])
theorem acO (h : co s) : kyL ({ s.dk k none with o := dL s.o k } : ShS).dty (dL s.o k) = kyL s.dty (dL s.o k) :=
 rD fun j hj => jf (s := s) (by
  show (s.dk k none).ln j = _
  rw [cw, if_neg (gY.1 hj).2])
end
theorem acj {w : World} {S : Nat -> Prop} {t K : Nat} {s : ShS} (n : Int) (h : PSh w S t K s) : Calls prog 19 #[.pointer (some ⟨t, 0, none⟩), .int .i64 n] w fun e w' => e = .returned (.int .i64 (shE s n)) /\ PSx w S w' t (i8 s n) := by
 have hok := h.x.ok;have HOK := ae hok;have HS := ae h;obtain ⟨lp, mp, FL, m, r, hs, _, hSe⟩ := h;have HU := ae hs;obtain ⟨en, hen⟩ : ∃ en, shE s n = en := ⟨_, rfl⟩;have HEN := ae hen;have HMY : Hid (vq s.T n = en) := ae ((mK n).trans hen);rw [hen];clear hs hen;go_enter func19, ntmps19;go_upto_region 1 with fail;refine aJ 2 ?_;refine ay rfl (aB call65 rfl (evc alW (evc alW evn))) ?_;refine (nO n HU).mono ?_;rintro e w1 ⟨rfl, b1⟩;rw [HMY.out];have HB := ae b1;clear b1;refine aR ?_;refine aH 1 ?_;cases hc : s.str n
 ·have HNE : Hid ((en != 0) = true) := ae (by rw [<- HEN.out]; unfold shE; rw [hc]; rfl);have HZ : Hid (i8 s n = s) := ae (by unfold i8; rw [hc]; simp);clear hc hok hSe;go_upto_region 2 with fail;refine aJ 1 ?_;refine alM (aN true rfl alW evk HNE) ?_;refine ah ?_;go_upto_region 3 with fail;refine cC 2 ?_;go_wp2_with fail;go_ret;exact ⟨rfl, by rw [HZ.out]; exact HS.out.x.below HB⟩
 have hen0 : en = 0 := by rw [<- HEN.out]; unfold shE; rw [hc]; rfl
 subst hen0;obtain ⟨k, rfl, hk⟩ := oE hc;have HW := ae (ic (n := k) (by have := hok.t64; omega));have HU1 := ae (HU.out.below HB);have HS1 : Hid (PSt w S w1 t lp mp FL (kyL s.dty s.o) s.o.length m s.ln s.N s.T s.room r) := ae (by subst hSe; exact (PSt.start HU).below HB);go_upto_region 2 with fail;refine aJ 1 ?_;refine alM (aN false rfl alW evk rfl) ?_;refine ah ?_;have hl := HU1.out.ln k;cases hx : s.ln k with
 |none =>
  rw [hx] at hl;have hlk := HU1.out.map.kw HW;rw [show mLn m (k : Int) = none from by unfold mLn; rw [if_pos (by omega), Int.toNat_natCast, hl.none_]] at hlk;have HK := ae hlk;have HZ : Hid (i8 s (k : Int) = s) := ae (by unfold i8; rw [Int.toNat_natCast, hx, if_neg (fun e => by cases e.2)]);clear hc hk hl hx hlk hok hSe;go_upto_region 4 with fail;refine aJ 2 ?_;refine alM (ax rfl alW gv) ?_;refine alM (aE rfl alW (kA (PRu.c4 HU1))) ?_;refine runs 1 ?_;refine alM (di rfl alW alW HK) ?_;refine aH 1 ?_;go_upto_region 5 with fail;refine aJ 1 ?_;refine alM (dz false underlying109 rfl alW evk rfl) ?_;refine ah ?_;go_wp2_with fail;go_ret;exact ⟨rfl, by rw [HZ.out]; exact HS.out.x.below HB⟩
 |some x =>
  rw [hx] at hl;obtain ⟨a, ha, hla, hlo⟩ := hl.some_;have hlk := HU1.out.map.kw HW;rw [show mLn m (k : Int) = some a from by unfold mLn; rw [if_pos (by omega), Int.toNat_natCast, ha]] at hlk;have HK := ae hlk;have HA := ae ha;have HLA : Hid (nG w1 (fun j => j = a) a x) := ae ⟨hla, rfl, hlo⟩;have HZ : Hid (i8 s (k : Int) = s.dk k (some (gM x))) := ae (by unfold i8; rw [Int.toNat_natCast, if_pos ⟨hc, by rw [hx]; rfl⟩, dp hx]);have HOK2 : Hid (co (i8 s (k : Int))) := ae (HOK.out.cln _);have HDT := ae (acU (k := k) (x := x) hok);have HND := ae hok.nd;clear hc hk hl hx hlk ha hla hlo hok hSe;go_upto_region 4 with fail;refine aJ 2 ?_;refine alM (ax rfl alW gv) ?_;refine alM (aE rfl alW (kA (PRu.c4 HU1))) ?_;refine runs 1 ?_;refine alM (di rfl alW alW HK) ?_;refine aH 1 ?_;go_upto_region 5 with fail;refine aJ 1 ?_;refine alM (dz true underlying109 rfl alW evk rfl) ?_;refine ah ?_;go_upto_region 6 with fail;refine aJ 1 ?_;refine ay rfl (aB call66 rfl (evc alW evn)) ?_;refine (aau w1 HLA).mono ?_;rintro e w2 ⟨rfl, l2, t2⟩;have HS2 := ae (HS1.out.line HA t2 l2);have HL2 : Hid (PLF w2 (fun b => FL b \/ w2.heap.size <= b) lp s.room (kyL s.dty s.o)) := ae (HS2.out.u.li.mono fun b h1 _ => .inl h1);clear l2 t2;refine aR ?_;refine ah ?_;go_upto_region 7 with fail;refine aJ 2 ?_;refine alM (ax rfl alW kr) ?_;refine alM (aE rfl alW (oc (PRu.c3 HS2.out.u))) ?_;refine runs 1 ?_;refine ay rfl (aB call67 rfl (evc alW (evc alW (evc evk evn)))) ?_;refine (y9 w2 HL2 HW false).mono ?_;rintro e w3 ⟨rfl, l3, t3⟩;rw [z6 HND.out, <- HDT.out] at l3;obtain ⟨FL3, hs3⟩ := HS2.out.list rfl l3 t3;have HS3 : Hid (PSx w S w3 t (i8 s (k : Int))) := ae ⟨lp, mp, FL3, m, r, by rw [HZ.out]; exact hs3, HOK2⟩;clear l3 t3 hs3;refine aR ?_;refine ah ?_;go_wp2_with fail;go_ret;exact ⟨rfl, HS3⟩
theorem afR {w : World} {S : Nat -> Prop} {t K : Nat} {s : ShS} (n : Int) (h : PSh w S t K s) : Calls prog 20 #[.pointer (some ⟨t, 0, none⟩), .int .i64 n] w fun e w' => e = .returned (.int .i64 (shE s n)) /\ PSx w S w' t (lv s n) := by
 have hok := h.x.ok;have HOK := ae hok;have HS := ae h;obtain ⟨lp, mp, FL, m, r, hs, _, hSe⟩ := h;have HU := ae hs;obtain ⟨en, hen⟩ : ∃ en, shE s n = en := ⟨_, rfl⟩;have HEN := ae hen;have HMY : Hid (vq s.T n = en) := ae ((mK n).trans hen);rw [hen];clear hs hen;go_enter func20, ntmps20;go_upto_region 1 with fail;refine aJ 2 ?_;refine ay rfl (aB call65 rfl (evc alW (evc alW evn))) ?_;refine (nO n HU).mono ?_;rintro e w1 ⟨rfl, b1⟩;rw [HMY.out];have HB := ae b1;clear b1;refine aR ?_;refine aH 1 ?_;cases hc : s.str n
 ·have HNE : Hid ((en != 0) = true) := ae (by rw [<- HEN.out]; unfold shE; rw [hc]; rfl);have HZ : Hid (lv s n = s) := ae (by unfold lv; rw [hc]; simp);clear hc hok hSe;go_upto_region 2 with fail;refine aJ 1 ?_;refine alM (aN true rfl alW evk HNE) ?_;refine ah ?_;go_upto_region 3 with fail;refine cC 2 ?_;go_wp2_with fail;go_ret;exact ⟨rfl, by rw [HZ.out]; exact HS.out.x.below HB⟩
 have hen0 : en = 0 := by rw [<- HEN.out]; unfold shE; rw [hc]; rfl
 subst hen0;obtain ⟨k, rfl, hk⟩ := oE hc;have HW := ae (ic (n := k) (by have := hok.t64; omega));have HU1 := ae (HU.out.below HB);have HS1 : Hid (PSt w S w1 t lp mp FL (kyL s.dty s.o) s.o.length m s.ln s.N s.T s.room r) := ae (by subst hSe; exact (PSt.start HU).below HB);go_upto_region 2 with fail;refine aJ 1 ?_;refine alM (aN false rfl alW evk rfl) ?_;refine ah ?_;have HZ : Hid (lv s (k : Int) = { s.dk k none with o := dL s.o k }) := ae (by unfold lv; rw [hc, if_pos rfl, Int.toNat_natCast]);have HOK2 : Hid (co (lv s (k : Int))) := ae (HOK.out.drp _);have HND := ae hok.nd;have HDD := ae (acO (k := k) hok);have HL1 : Hid (PLF w1 (fun b => FL b \/ w1.heap.size <= b) lp s.room (kyL s.dty s.o)) := ae (HU1.out.li.mono fun b h1 _ => .inl h1);by_cases hm : k ∈ s.o
 ·have HFN : Hid (ou (k : Int) (kyL s.dty s.o) = 0) := ae (if_pos (dl.2 hm));obtain ⟨cn, hcn⟩ : ∃ cn, s.o.length = cn + 1 := ⟨s.o.length - 1, by have := List.length_pos_of_mem hm; omega⟩;have HCN : Hid ((dL s.o k).length = cn) := ae (by have := nz hok.nd hm; omega);have HCQ := ae hcn;obtain ⟨x, hx⟩ := Option.isSome_iff_exists.1 ((hok.mem k).1 hm);have hl := HU1.out.ln k;rw [hx] at hl;obtain ⟨a, ha, _, _⟩ := hl.some_;have HMG : Hid ((mLn m (k : Int)).isSome = true) := ae (by unfold mLn; rw [if_pos (by omega), Int.toNat_natCast, ha]; rfl);clear hm hcn hx hl ha hc hk hok hSe;go_upto_region 4 with fail;refine aJ 2 ?_;refine alM (ax rfl alW kr) ?_;refine alM (aE rfl alW (oc (PRu.c3 HU1))) ?_;refine runs 1 ?_;refine ay rfl (aB call68 rfl (evc alW (evc alW evn))) ?_;refine (tR w1 HL1 HW).mono ?_;rintro e w2 ⟨rfl, l2, t2⟩;rw [zC HND.out] at l2;obtain ⟨FL2, hs2⟩ := HS1.out.list rfl l2 t2;have HS2 := ae hs2;rw [HFN.out];clear l2 t2 hs2;refine aR ?_;refine alM (aI true rfl alW evk rfl) ?_;refine ah ?_;have HS2' : Hid (PSt w S w2 t lp mp FL2 (kyL s.dty (dL s.o k)) (cn + 1) m s.ln s.N s.T s.room r) := ae (by have := HS2.out; rwa [HCQ.out] at this);go_upto_region 5 with fail;refine aJ 2 ?_;refine alM (ax rfl alW gv) ?_;refine alM (aE rfl alW (kA (PRu.c4 HS2'.out.u))) ?_;refine runs 1 ?_;refine n9 rfl rfl alW alW HS2'.out.u.map HW HMG ?_;intro w3 hm3 ht3;simp only [aa];refine ah ?_;have hs3 := HS2'.out.del ht3 hm3;have HS3 : Hid (PSx w S w3 t (lv s (k : Int))) := ae (by
   refine ⟨lp, mp, FL2, fun j => if j = k then none else m j, r, ?_, HOK2⟩;rw [HZ.out]
   show PSt w S w3 t lp mp FL2 (kyL ({ s.dk k none with o := dL s.o k } : ShS).dty (dL s.o k)) (dL s.o k).length _ (fun j => if j = k then none else s.ln j) s.N s.T s.room r
   rw [HDD.out, HCN.out];exact hs3)
  clear hm3 ht3 hs3;go_wp2_with fail;go_ret;exact ⟨rfl, HS3⟩
 ·have HFN : Hid (ou (k : Int) (kyL s.dty s.o) = 7) := ae (if_neg fun e => hm (dl.1 e));have HON : Hid (dL s.o k = s.o) := ae (jZ hm);have hx : s.ln k = none := by
   have := (hok.kJ k).2 hm;cases e : s.ln k with
   |none => rfl
   |some y => rw [e] at this; cases this
  have HLN : Hid ((fun j => if j = k then none else s.ln j) = s.ln) := ae (funext fun j => by
   by_cases e : j = k
   ·subst e; rw [if_pos rfl, hx]
   ·rw [if_neg e])
  clear hm hx hc hk hok hSe;go_upto_region 4 with fail;refine aJ 2 ?_;refine alM (ax rfl alW kr) ?_;refine alM (aE rfl alW (oc (PRu.c3 HU1))) ?_;refine runs 1 ?_;refine ay rfl (aB call68 rfl (evc alW (evc alW evn))) ?_;refine (tR w1 HL1 HW).mono ?_;rintro e w2 ⟨rfl, l2, t2⟩;rw [zC HND.out] at l2;obtain ⟨FL2, hs2⟩ := HS1.out.list rfl l2 t2;have HS2 := ae hs2;rw [HFN.out];clear l2 t2 hs2;refine aR ?_;refine alM (aI false rfl alW evk rfl) ?_;refine ah ?_;have HS3 : Hid (PSx w S w2 t (lv s (k : Int))) := ae (by
   refine ⟨lp, mp, FL2, m, r, ?_, HOK2⟩;rw [HZ.out]
   show PSt w S w2 t lp mp FL2 (kyL ({ s.dk k none with o := dL s.o k } : ShS).dty (dL s.o k)) (dL s.o k).length _ (fun j => if j = k then none else s.ln j) s.N s.T s.room r
   rw [HDD.out, HLN.out, HON.out];have := HS2.out;rwa [HON.out] at this)
  go_wp2_with fail;go_ret;exact ⟨rfl, HS3⟩
theorem abW (N T : Nat) (r : Int) (lp mp : Nat) (w : World) : (Instr.build 66 #[(0, .agg #[.int .i64 (N : Int), .int .i64 (T : Int), .int .i64 r]), (1, .pointer (some ⟨lp, 0, none⟩)), (2, .map (some mp))]).run prog w = .ok (.agg (shC N T r lp mp).toArray) w := by kernel_rfl
theorem xr {ρ : Operand -> Value} {o : Oper} {x y z : Operand} {N T lp mp : Nat} {r : Int} {w : World} (ho : o.op = .build 66 #[(0, x), (1, y), (2, z)]) (hx : ρ x = .agg #[.int .i64 (N : Int), .int .i64 (T : Int), .int .i64 r]) (hy : ρ y = .pointer (some ⟨lp, 0, none⟩)) (hz : ρ z = .map (some mp)) : (execOp ρ o).run prog w = .ok (.value (.agg (shC N T r lp mp).toArray)) w := by
 unfold execOp;simp [ho, hx, hy, hz, abW, Result.andThen]
theorem dU.congr {w : World} {b N : Nat} {M M' : Int -> Option Nat} (h : dU w b N M) (e : ∀ j, M' j = M j) : dU w b N M' := by
 have : M' = M := funext e;rw [this];exact h
theorem ai7 {N T room : Nat} {r : Int} (w : World) (hg : dW (gx N T r) = true) (h1 : 1 <= room) (h2 : room <= 64) : Calls prog 7 #[geo (gx N T r), .int .i64 (room : Int)] w fun e w' => ∃ p S, e = .returned (.tuple #[.pointer (some ⟨p, 0, none⟩), .int .i64 0]) /\ PSh w' S p 0 (fe N T room) /\ Below w.heap.size w w' /\ ∀ b, S b -> w.heap.size <= b := by
 have HG := ae hg;have HR1 := ae h1;have HR2 := ae h2;clear hg h1 h2;go_enter func7, ntmps7;go_upto_region 0 with fail;refine af ?_;refine alM (ct (cs := ([.int .i64 (N : Int), .int .i64 (T : Int), .int .i64 r] : List Value)) rfl alW) ?_;have hbx := (Below.refl w.heap.size w).alloc aj (.cells ([.int .i64 (N : Int), .int .i64 (T : Int), .int .i64 r] : List Value).toArray 24);have P1 := ae (heap_alloc_new w (.cells ([.int .i64 (N : Int), .int .i64 (T : Int), .int .i64 r] : List Value).toArray 24));have HB1 := ae hbx;clear hbx;generalize w.alloc (.cells ([.int .i64 (N : Int), .int .i64 (T : Int), .int .i64 r] : List Value).toArray 24) = w1 at *;refine aH 2 ?_;go_upto_region 1 with fail;refine af ?_;refine alM (bN (cs := ([.int .i64 (N : Int), .int .i64 (T : Int), .int .i64 r] : List Value)) underlying24 rfl (by kernel_rfl) rfl alW (aP P1)) ?_;refine ay rfl (aB call25 rfl (evc alW evn)) ?_;refine (wm (gx N T r) w1).mono ?_;rintro e w2 ⟨rfl, b2⟩;rw [HG.out];have HB2 := ae (HB1.out.trans (b2.mono HB1.out.size));have P2 := ae (aC P1 b2);clear b2;refine aR ?_;refine aH 1 ?_;go_upto_region 3 with fail;refine aJ 1 ?_;refine ay rfl (aB call26 rfl (evc alW evn)) ?_;refine (afN room w2 HR1 HR2).mono ?_;rintro e w3 ⟨lp, rfl, l3, b3⟩;have HB3 := ae (HB2.out.trans (b3.mono HB2.out.size));have P3 := ae (aC P2 b3);have HL3 := ae l3;have HS23 : Hid (w.heap.size <= w2.heap.size) := ae HB2.out.size;clear l3 b3;refine aR ?_;refine runs 3 ?_;refine aH 2 ?_;go_upto_region 4 with fail;refine aJ 1 ?_;refine alM (aN false rfl alW evk rfl) ?_;refine ah ?_;have hb4 := (Below.refl w3.heap.size w3).alloc aj (.map #[] 0);have HB4 := ae (HB3.out.trans (hb4.mono HB3.out.size));have HM4 := ae (dU.made w3);have HL4 := ae (HL3.out.below hb4);have HLN : Hid (∀ b, w2.heap.size <= b /\ b < w3.heap.size -> b < (w3.alloc (.map #[] 0)).heap.size) := ae fun b hb => au hb.2 hb4.size
 have HLM : Hid (PLF w3 (fun b => w2.heap.size <= b /\ b < w3.heap.size) lp room []) := ae (HL3.out.mono fun b h1 h2 => ⟨h1, h2⟩);have HL5 : Hid (PLF (w3.alloc (.map #[] 0)) (fun b => w2.heap.size <= b /\ b < w3.heap.size) lp room []) := ae (HLM.out.below hb4);clear hb4;go_upto_region 6 with fail;refine af ?_;refine alM (bN (cs := ([.int .i64 (N : Int), .int .i64 (T : Int), .int .i64 r] : List Value)) underlying24 rfl (by kernel_rfl) rfl alW (aP P3)) ?_;refine runs 1 ?_;refine alM (ph rfl) ?_;refine alM (xr rfl alW alW alW) ?_;refine alM (ct (cs := shC N T r lp w3.heap.size) rfl alW) ?_;refine aH 2 ?_;go_wp2_with fail;go_ret2;generalize w3.alloc (.map #[] 0) = w4 at *;have hb5 := (Below.refl w4.heap.size w4).alloc aj (.cells (shC N T r lp w3.heap.size).toArray 66);have h5 := heap_alloc_new w4 (.cells (shC N T r lp w3.heap.size).toArray 66);obtain ⟨k1, k2, k3, k4, _⟩ := ahP HG;have hs34 : w3.heap.size < w4.heap.size := HM4.out.lt;refine ⟨w4.heap.size, qS w4.heap.size w3.heap.size (fun b => w2.heap.size <= b /\ b < w3.heap.size) (fun _ => none), rfl, ⟨lp, w3.heap.size, fun b => w2.heap.size <= b /\ b < w3.heap.size, fun _ => none, r, ⟨h5, HL5.out.below hb5, (HM4.out.kept fun es c hb => aC hb hb5).congr fun j => ?_, fun n => trivial, fun i j b h => (by cases h), ⟨fun h => (by have := h.2; omega), fun h => (by have := h.2; omega), fun n b h => (by cases h)⟩, fun b hb => au (Nat.lt_trans hb.2 hs34) hb5.size, HG⟩, co.new k1 k2 k3 k4 HR1 HR2, rfl⟩, HB4.out.trans (hb5.mono HB4.out.size), fun b hb => ?_⟩
 ·unfold mLn
  split <;> rfl
 ·have e1 := HS23.out;have e2 := HB4.out.size;have e3 := HB3.out.size;rcases hb with e | e | e | ⟨n, e⟩
  ·omega
  ·omega
  ·have := e.1; omega
  ·cases e
theorem aaA (x : Ros) (room : Int) (w : World) (h : ¬ (dW x = true /\ 1 <= room /\ room <= 64)) : Calls prog 7 #[geo x, .int .i64 room] w fun e w' => e = .returned (.tuple #[.pointer none, .int .i64 2]) /\ Below w.heap.size w w' := by
 have HN := ae h;obtain ⟨gn, gt, gr⟩ : ∃ a b c, geo x = .agg ([.int .i64 a, .int .i64 b, .int .i64 c] : List Value).toArray := ⟨_, _, _, rfl⟩;obtain ⟨gr, hge⟩ := gr;have HGE := ae hge;rw [hge];clear h hge;go_enter func7, ntmps7;go_upto_region 0 with fail;refine af ?_;refine alM (ct (cs := ([.int .i64 gn, .int .i64 gt, .int .i64 gr] : List Value)) rfl alW) ?_;have hbx := (Below.refl w.heap.size w).alloc aj (.cells ([.int .i64 gn, .int .i64 gt, .int .i64 gr] : List Value).toArray 24);have P1 := ae (heap_alloc_new w (.cells ([.int .i64 gn, .int .i64 gt, .int .i64 gr] : List Value).toArray 24));have HB1 := ae hbx;clear hbx;generalize w.alloc (.cells ([.int .i64 gn, .int .i64 gt, .int .i64 gr] : List Value).toArray 24) = w1 at *;refine aH 2 ?_;cases hg : dW x
 ·have HG := ae hg;clear hg;go_upto_region 1 with fail;refine af ?_;refine alM (bN (cs := ([.int .i64 gn, .int .i64 gt, .int .i64 gr] : List Value)) underlying24 rfl (by kernel_rfl) rfl alW (aP P1)) ?_;refine ay rfl (aB call25 rfl (evc alW evn)) ?_;rw [show Value.agg ([.int .i64 gn, .int .i64 gt, .int .i64 gr] : List Value).toArray = geo x from HGE.out.symm];refine (wm x w1).mono ?_;rintro e w2 ⟨rfl, b2⟩;rw [HG.out];have HB2 := ae (HB1.out.trans (b2.mono HB1.out.size));clear b2;refine aR ?_;refine aH 1 ?_;go_wp2_with fail;go_ret2;exact ⟨rfl, HB2⟩
 have HG := ae hg;have HR : Hid (¬ (1 <= room /\ room <= 64)) := ae fun e => HN.out ⟨hg, e⟩
 clear hg;go_upto_region 1 with fail;refine af ?_;refine alM (bN (cs := ([.int .i64 gn, .int .i64 gt, .int .i64 gr] : List Value)) underlying24 rfl (by kernel_rfl) rfl alW (aP P1)) ?_;refine ay rfl (aB call25 rfl (evc alW evn)) ?_;rw [show Value.agg ([.int .i64 gn, .int .i64 gt, .int .i64 gr] : List Value).toArray = geo x from HGE.out.symm];refine (wm x w1).mono ?_;rintro e w2 ⟨rfl, b2⟩;rw [HG.out];have HB2 := ae (HB1.out.trans (b2.mono HB1.out.size));clear b2;refine aR ?_;refine aH 1 ?_;go_upto_region 3 with fail;refine aJ 1 ?_;refine ay rfl (aB call26 rfl (evc alW evn)) ?_;refine (aaU room w2 HR).mono ?_;rintro e w3 ⟨rfl, rfl⟩;refine aR ?_;refine runs 3 ?_;refine aH 2 ?_;go_upto_region 4 with fail;refine aJ 1 ?_;refine alM (aN true rfl alW evk rfl) ?_;refine ah ?_;go_upto_region 5 with fail;refine cC 3 ?_;go_wp2_with fail;go_ret2;exact ⟨rfl, HB2⟩
def shZ : List Value := [.int .i64 0, .int .i64 0, .int .i64 0, .pointer none, .map none]
def kZ (w : World) (v : Value) : Prop := v = .pointer none \/ ∃ p, v = .pointer (some ⟨p, 0, none⟩) /\ w.heap[p]? = some (.cells shZ.toArray 66 (0, 0))
theorem kZ.below {w w' : World} {v : Value} (h : kZ w v) (hb : Below w.heap.size w w') : kZ w' v := by
 rcases h with h | ⟨p, h, h1⟩
 ·exact .inl h
 ·exact .inr ⟨p, h, aC h1 hb⟩
theorem yw (w : World) : (Instr.build 66 #[]).run prog w = .ok (.agg shZ.toArray) w := by kernel_rfl
theorem m6 (w : World) {v : Value} (h : kZ w v) : Calls prog 55 #[v] w fun e w' => e = .returned (.bool false) /\ w = w' := by
 rcases h with rfl | ⟨p, rfl, h⟩
 ·go_enter func55, ntmps55;go_upto_region 1 with fail;refine aJ 1 ?_;refine alM (dz false underlying26 rfl alW evk rfl) ?_;refine bq 5 rfl (aL rfl alW) (by kernel_rfl) ?_;simp only [bX, ac, aa];refine aH 2 ?_;go_wp2_with fail;go_ret;exact ⟨rfl, rfl⟩
 ·have HP := ae h;clear h;go_enter func55, ntmps55;go_upto_region 1 with fail;refine aJ 1 ?_;refine alM (dz true underlying26 rfl alW evk rfl) ?_;refine runs 3 ?_;refine alT (ax rfl alW gv) ?_;refine alT (aE rfl alW (kA (aP HP 4 _ rfl))) ?_;refine alT (qB false underlying64 rfl alW evk rfl) ?_;refine aH 2 ?_;go_wp2_with fail;go_ret;exact ⟨rfl, rfl⟩
theorem pK (w : World) (v : Value) (h : kZ w v) : Calls prog 18 #[v] w fun e w' => e = .returned (.slice none 0 0) /\ w = w' := by
 have H := ae h;clear h;go_enter func18, ntmps18;go_upto_region 1 with fail;refine aJ 1 ?_;refine ay rfl (aB call55 rfl (evc alW evn)) ?_;refine (m6 w H).mono ?_;rintro e w' ⟨rfl, rfl⟩;refine aR ?_;refine aH 1 ?_;go_wp2_with fail;go_ret;exact ⟨rfl, rfl⟩
theorem wD (w : World) (v : Value) (h : kZ w v) : Calls prog 17 #[v] w fun e w' => e = .returned (.slice none 0 0) /\ Below w.heap.size w w' := by
 have H := ae h;clear h;go_enter func17, ntmps17;go_upto_region 2 with fail;refine aJ 1 ?_;refine ay rfl (aB call18 rfl (evc alW evn)) ?_;refine (pK w v H).mono ?_;rintro e w' ⟨rfl, rfl⟩;refine aR ?_;refine alM (dV bg rfl alW) ?_;refine aH 1 ?_;go_wp2_with fail
 go_loopw [3, 5, 9] (fun z u c wr => c = .int .i64 0 /\ z = .slice none 0 0 /\ wr = w) (fun _ _ _ _ => 0)
 case atStart => exact ⟨rfl, rfl, rfl⟩
 case round =>
  obtain ⟨rfl, rfl, rfl⟩ := hrel;go_upto_region 3 with fail;refine af ?_;refine alM (aY false rfl alW alW (by decide)) ?_;refine ah ?_;go_upto_region 8 with fail;refine aJ 1 ?_;refine ay rfl (aB call63 rfl (evc alW evn)) ?_;refine (vg (l := []) (aQ.nil wr wr.heap.size) aj (by decide)).mono ?_;rintro e w2 ⟨rfl, _, b2⟩;have HB := ae b2;clear b2;refine aR ?_;refine ah ?_;go_upto_region 9 with fail;refine cC 2 ?_;go_wp2_with fail;go_ret;exact ⟨rfl, HB⟩
theorem adC (w : World) (v : Value) (h : kZ w v) : Calls prog 23 #[v] w fun e w' => e = .returned (.int .u64 0) /\ Below w.heap.size w w' := by
 have H := ae h;clear h;go_enter func23, ntmps23;go_upto_region 2 with fail;refine aJ 1 ?_;refine ay rfl (aB call17 rfl (evc alW evn)) ?_;refine (wD w v H).mono ?_;rintro e w1 ⟨rfl, b1⟩;have HB := ae b1;clear b1;refine aR ?_;refine alM (dV bg rfl alW) ?_;refine aH 1 ?_;go_wp2_with fail
 go_loopw [3, 5, 6, 10] (fun z u v c wr => c = .int .i64 0 /\ z = .int .u64 0 /\ wr = w1) (fun _ _ _ _ _ => 0)
 case atStart => exact ⟨rfl, rfl, rfl⟩
 case round =>
  obtain ⟨rfl, rfl, rfl⟩ := hrel;go_upto_region 3 with fail;refine af ?_;refine alM (aY false rfl alW alW (by decide)) ?_;refine ah ?_;go_wp2_with fail;go_ret;exact ⟨rfl, HB⟩
theorem tH (w : World) (v : Value) (n : Int) (h : kZ w v) : Calls prog 65 #[v, .int .i64 n] w fun e w' => e = .returned (.int .i64 1) /\ w = w' := by
 have H := ae h;clear h;go_enter func65, ntmps65;go_upto_region 1 with fail;refine aJ 1 ?_;refine ay rfl (aB call55 rfl (evc alW evn)) ?_;refine (m6 w H).mono ?_;rintro e w' ⟨rfl, rfl⟩;refine aR ?_;refine aH 2 ?_;go_wp2_with fail;go_ret;exact ⟨rfl, rfl⟩
theorem aca (w : World) (v : Value) (n : Int) (h : kZ w v) : Calls prog 19 #[v, .int .i64 n] w fun e w' => e = .returned (.int .i64 1) /\ Below w.heap.size w w' := by
 have H := ae h;clear h;go_enter func19, ntmps19;go_upto_region 1 with fail;refine aJ 2 ?_;refine ay rfl (aB call65 rfl (evc alW (evc alW evn))) ?_;refine (tH w v n H).mono ?_;rintro e w' ⟨rfl, rfl⟩;refine aR ?_;refine aH 1 ?_;go_upto_region 2 with fail;refine aJ 1 ?_;refine alM (aN true rfl alW evk rfl) ?_;refine ah ?_;go_upto_region 3 with fail;refine cC 2 ?_;go_wp2_with fail;go_ret;exact ⟨rfl, ak⟩
theorem afW (w : World) (v : Value) (n : Int) (h : kZ w v) : Calls prog 20 #[v, .int .i64 n] w fun e w' => e = .returned (.int .i64 1) /\ Below w.heap.size w w' := by
 have H := ae h;clear h;go_enter func20, ntmps20;go_upto_region 1 with fail;refine aJ 2 ?_;refine ay rfl (aB call65 rfl (evc alW (evc alW evn))) ?_;refine (tH w v n H).mono ?_;rintro e w' ⟨rfl, rfl⟩;refine aR ?_;refine aH 1 ?_;go_upto_region 2 with fail;refine aJ 1 ?_;refine alM (aN true rfl alW evk rfl) ?_;refine ah ?_;go_upto_region 3 with fail;refine cC 2 ?_;go_wp2_with fail;go_ret;exact ⟨rfl, ak⟩
theorem acB (w : World) (v : Value) (n : Int) (h : kZ w v) : Calls prog 21 #[v, .int .i64 n] w fun e w' => (∃ A c, e = .returned (.slice A 0 c)) /\ Below w.heap.size w w' := by
 have H := ae h;clear h;go_enter func21, ntmps21;go_upto_region 1 with fail;refine aJ 2 ?_;refine ay rfl (aB call65 rfl (evc alW (evc alW evn))) ?_;refine (tH w v n H).mono ?_;rintro e w' ⟨rfl, rfl⟩;refine aR ?_;refine alM (aN true rfl alW evk rfl) ?_;refine ah ?_;go_wp2_with fail;go_ret;exact ⟨⟨_, _, rfl⟩, ak⟩
theorem ad0 (w : World) (v : Value) (n : Int) (h : kZ w v) : Calls prog 22 #[v, .int .i64 n] w fun e w' => (∃ A c, e = .returned (.slice A 0 c)) /\ Below w.heap.size w w' := by
 have H := ae h;clear h;go_enter func22, ntmps22;go_upto_region 1 with fail;refine aJ 2 ?_;refine ay rfl (aB call65 rfl (evc alW (evc alW evn))) ?_;refine (tH w v n H).mono ?_;rintro e w' ⟨rfl, rfl⟩;refine aR ?_;refine alM (aN true rfl alW evk rfl) ?_;refine ah ?_;go_wp2_with fail;go_ret;exact ⟨⟨_, _, rfl⟩, ak⟩
theorem aaC (w : World) (v : Value) (Q : Nat) (h : kZ w v) : Calls prog 50 #[v, .int .u64 (Q : Int), .slice none 0 0] w fun e w' => e = .returned (.int .i64 1) /\ w = w' := by
 have H := ae h;clear h;go_enter func50, ntmps50;go_upto_region 1 with fail;refine aJ 1 ?_;refine ay rfl (aB call55 rfl (evc alW evn)) ?_;refine (m6 w H).mono ?_;rintro e w' ⟨rfl, rfl⟩;refine aR ?_;refine aH 2 ?_;go_wp2_with fail;go_ret;exact ⟨rfl, rfl⟩
theorem ah6 (w : World) (v : Value) (Q : Nat) (h : kZ w v) : Calls prog 13 #[v, .int .u64 (Q : Int), .slice none 0 0] w fun e w' => e = .returned (.int .i64 1) /\ Below w.heap.size w w' := by
 have H := ae h;clear h;go_enter func13, ntmps13;go_upto_region 1 with fail;refine aJ 3 ?_;refine ay rfl (aB call50 rfl (evc alW (evc alW (evc alW evn)))) ?_;refine (aaC w v Q H).mono ?_;rintro e w' ⟨rfl, rfl⟩;refine aR ?_;refine aH 1 ?_;go_upto_region 2 with fail;refine aJ 1 ?_;refine alM (aN true rfl alW evk rfl) ?_;refine ah ?_;go_upto_region 3 with fail;refine cC 2 ?_;go_wp2_with fail;go_ret;exact ⟨rfl, ak⟩
theorem afv (w : World) (v : Value) (h : kZ w v) : Calls prog 24 #[v, .slice none 0 0] w fun e w' => e = .returned (.bool false) /\ Below w.heap.size w w' := by
 have H := ae h;clear h;go_enter func24, ntmps24;go_upto_region 1 with fail;refine aJ 1 ?_;refine ay rfl (aB call55 rfl (evc alW evn)) ?_;refine (m6 w H).mono ?_;rintro e w' ⟨rfl, rfl⟩;refine aR ?_;refine aH 1 ?_;go_wp2_with fail;go_ret;exact ⟨rfl, ak⟩
theorem ahh (w : World) (v u : Value) (n m : Int) (h : kZ w v) : Calls prog 15 #[v, u, .agg #[.int .i64 n, .int .i64 m]] w fun e w' => (∃ b : Blk, e = .returned (.tuple #[blk b, .int .i64 1])) /\ Below w.heap.size w w' := by
 have hb1 := (Below.refl w.heap.size w).alloc aj (.cells (er n m).toArray 43);have HB1 := ae hb1;have hb2 := hb1.alloc hb1.size (.cells (cel aF).toArray 45);have HB2 := ae hb2;have H := ae (h.below hb2);have HB6 := ae (heap_alloc_new (w.alloc (.cells (er n m).toArray 43)) (.cells (cel aF).toArray 45));clear h hb1 hb2;go_enter func15, ntmps15;go_upto_region 0 with fail;refine af ?_;refine alM (mm rfl alW) ?_;refine alM (aX rfl) ?_;refine aH 1 ?_;obtain ⟨b6, hb6⟩ : ∃ b6, (w.alloc (.cells (er n m).toArray 43)).heap.size = b6 := ⟨_, rfl⟩;have HQ6 : Hid (w.heap.size <= b6) := ae (by rw [<- hb6]; exact HB1.out.size);rw [hb6] at HB6 ⊢;generalize (w.alloc (.cells (er n m).toArray 43)).alloc (.cells (cel aF).toArray 45) = w2 at *;clear hb6;go_upto_region 1 with fail;refine aJ 1 ?_;refine ay rfl (aB call55 rfl (evc alW evn)) ?_;refine (m6 w2 H).mono ?_;rintro e w' ⟨rfl, rfl⟩;refine aR ?_;refine aH 2 ?_;have hb3 := below_setCells HB2 HQ6 (o := 0) (cel aF);have HB3 := ae hb3;clear hb3;go_upto_region 3 with fail;refine af ?_;refine alM (cQ (c := aF) (parts := []) rfl rfl) ?_;refine aG rfl (aU (c := aF) rfl (ev rfl) (ev rfl) (bQ HB6.out)) ?_;simp only [aa];refine aH 1 ?_;go_wp2_with fail;exact bodyPost_ret (cj rfl _ _ _ rfl (World.rangeAt_setCells_same _ _ _ _ (by rw [aK]; exact bQ HB6))) rfl ⟨⟨aF, rfl⟩, HB3⟩
section
variable {x : LnS} {N i n : Nat}
theorem aek (x : LnS) (i : Nat) : (ra x i).length = i := by
 induction i with
 |zero => rfl
 |succ i ih => rw [ra, List.length_append, ih]; rfl
theorem ab5 (hi : i < N) : (ra x i ++ List.replicate (N - i) false).set i (dj x i).kn = ra x (i + 1) ++ List.replicate (N - (i + 1)) false := by
 obtain ⟨d, hd⟩ : ∃ d, N - i = d + 1 := ⟨N - i - 1, by omega⟩;have hl := aek x i;rw [List.set_append_right _ _ (by omega), hl, Nat.sub_self, hd, List.replicate_succ, List.set_cons_zero, show N - (i + 1) = d by omega, ra, List.append_assoc]
 rfl
theorem akN {w : World} {b k : Nat} {a : Bool} (h : w.there b k 1) : (Instr.storeAt 4 (.pointer (some ⟨b, k, none⟩)) (.bool a)).run prog w = .ok () (w.setCells b k (BoE.cel a)) := by
 obtain ⟨h1, h2⟩ := h 0 (by omega);rw [Nat.add_zero] at h1 h2;obtain ⟨u, hu⟩ := Option.isSome_iff_exists.1 h1;simp [go_sem, hu, h2, BoE, World.setCells]
theorem yk (hi : i < x.l.length) : lnG x (i : Int) = dj x i := by unfold lnG; rw [gL hi, Int.toNat_natCast]; rfl
def ny (n : Int) (x : LnS) (l : List Int) : List Cl := l.map fun m => ⟨n, m, (dj x m.toNat).b⟩
theorem adv (n : Int) (x : LnS) (i : Nat) : (afc n x i).map cG = ny n x (gu x.l i) := by
 induction i with
 |zero => rfl
 |succ i ih =>
  rw [afc, gu, List.map_append, ih];unfold ny;rw [List.map_append]
  congr 1
  show _ = List.map _ (if (dj x i).dt = true then [(i : Int)] else [])
  split
  ·rw [List.map_cons, List.map_nil, List.map_cons, List.map_nil, Int.toNat_natCast]; rfl
  ·rfl
theorem abK {n : Int} {l : List Int} {i j : Nat} (hi : i < l.length) (hj : l.getD i 0 = (j : Int)) : ny n x (l.take (i + 1)) = ny n x (l.take i) ++ [⟨n, (j : Int), (dj x j).b⟩] := by
 unfold ny;rw [wR hi, List.map_append, hj]
 rfl
end
theorem sC {w : World} {v : Value} {x : LnS} {N : Nat} (m : Int) (h : (v = .pointer none /\ x = dC N) \/ ∃ a, v = .pointer (some ⟨a, 0, none⟩) /\ LnA w a (lf x) /\ dQ x) : Calls prog 58 #[v, .int .i64 m] w fun e w' => e = .returned (.tuple #[blk (lnG x m).b, .bool (lnG x m).kn]) /\ Below w.heap.size w w' := by
 rcases h with ⟨rfl, rfl⟩ | ⟨a, rfl, h1, h2⟩
 ·have e : lnG (dC N) m = lc0 := by
   unfold lnG
   split
   ·simp only [dj, dC, List.getD, List.getElem?_replicate]
    split <;> rfl
   ·rfl
  rw [e];exact ajh w (.pointer none) m (.inl rfl)
 ·exact aid w m (B := 0) ⟨h1, Nat.zero_le _, h2⟩
theorem aeQ {w : World} {v : Value} {x : LnS} {N : Nat} (h : (v = .pointer none /\ x = dC N) \/ ∃ a, v = .pointer (some ⟨a, 0, none⟩) /\ LnA w a (lf x) /\ dQ x) : Calls prog 69 #[v] w fun e w' => ∃ v, e = .returned v /\ aQ bg w' w.heap.size v (lnD x) /\ Below w.heap.size w w' := by
 rcases h with ⟨rfl, rfl⟩ | ⟨a, rfl, h1, h2⟩
 ·rw [zW];exact (ab0 w (.pointer none) (.inl rfl)).mono fun e w' ⟨k0, k1⟩ => ⟨_, k0, aQ.nil _ _, k1⟩
 ·exact adn w (B := 0) ⟨h1, Nat.zero_le _, h2⟩
section
variable {w : World} {t lp mp K : Nat} {FL : Nat -> Prop} {m : Nat -> Option Nat} {r : Int} {s : ShS}
theorem PRu.get {k : Nat} (h : PRu w t lp mp FL (kyL s.dty s.o) s.o.length m s.ln s.N s.T s.room r) (hok : co s) (hk : k < s.T) : ∃ v, (Instr.lookup 64 (.map (some mp)) (.int .i64 (k : Int)) false).run prog w = .ok v w /\ ((v = .pointer none /\ s.bZ k = dC s.N) \/ ∃ a, v = .pointer (some ⟨a, 0, none⟩) /\ LnA w a (lf (s.bZ k)) /\ dQ (s.bZ k)) := by
 have hlk := h.map.kw (ic (n := k) (by have := hok.t64; omega));rw [show mLn m (k : Int) = m k from by unfold mLn; rw [if_pos (by omega), Int.toNat_natCast]] at hlk;have hl := h.ln k;cases hx : s.ln k with
 |none =>
  rw [hx] at hl;rw [hl.none_] at hlk;exact ⟨_, hlk, .inl ⟨rfl, iv hx⟩⟩
 |some x =>
  rw [hx] at hl;obtain ⟨a, ha, h1, h2⟩ := hl.some_;rw [ha] at hlk;exact ⟨_, hlk, .inr ⟨a, rfl, by rw [dp hx]; exact h1, by rw [dp hx]; exact h2⟩⟩
theorem aex (n : Int) (h : PRu w t lp mp FL (kyL s.dty s.o) s.o.length m s.ln s.N s.T s.room r) (hok : co s) : Calls prog 21 #[.pointer (some ⟨t, 0, none⟩), .int .i64 n] w fun e w' => ∃ v, e = .returned v /\ aQ BoE w' w.heap.size v (pF s n) /\ Below w.heap.size w w' := by
 have HH := ae h;have HOK := ae hok;have HN16 : Hid (s.N <= 16) := ae hok.n16;have HN6 : Hid (s.N <= 1000000) := ae (by have := hok.n16; omega);obtain ⟨en, hen⟩ : ∃ en, shE s n = en := ⟨_, rfl⟩;have HEN := ae hen;have HMY : Hid (vq s.T n = en) := ae ((mK n).trans hen);clear h hok hen;go_enter func21, ntmps21;cases hc : s.str n
 ·have HNE : Hid ((en != 0) = true) := ae (by rw [<- HEN.out]; unfold shE; rw [hc]; rfl);have HZ : Hid (pF s n = []) := ae (by unfold pF; rw [hc]; rfl);clear hc;go_upto_region 1 with fail;refine aJ 2 ?_;refine ay rfl (aB call65 rfl (evc alW (evc alW evn))) ?_;refine (nO n HH).mono ?_;rintro e w1 ⟨rfl, b1⟩;rw [HMY.out];have HB := ae b1;have HH1 := ae (HH.out.below b1);clear b1;refine aR ?_;refine alM (aN true rfl alW evk HNE) ?_;refine ah ?_;go_wp2_with fail;go_ret;exact ⟨_, rfl, by rw [HZ.out]; exact aQ.nil _ _, HB⟩
 have hen0 : en = 0 := by rw [<- HEN.out]; unfold shE; rw [hc]; rfl
 subst hen0;obtain ⟨k, rfl, hk⟩ := oE hc;have HKT := ae hk;have HZ : Hid (pF s (k : Int) = ra (s.bZ k) s.N) := ae (by unfold pF; rw [hc, if_pos rfl, Int.toNat_natCast]);clear hc hk;go_upto_region 1 with fail;refine aJ 2 ?_;refine ay rfl (aB call65 rfl (evc alW (evc alW evn))) ?_;refine (nO (k : Int) HH).mono ?_;rintro e w1 ⟨rfl, b1⟩;rw [HMY.out];have HB := ae b1;have HH1 := ae (HH.out.below b1);clear b1;refine aR ?_;refine alM (aN false rfl alW evk rfl) ?_;refine ah ?_;have hmz := qP BoE rfl w1 s.N w1.heap.size aj HN6;have hb1 := (Below.refl w1.heap.size w1).alloc aj (.cells (madeCells BoE.z.cells (s.N * BoE.n)) BoE.t);have HBZ := ae hb1;have HM0 : Hid (aQ BoE (w1.alloc (.cells (madeCells BoE.z.cells (s.N * BoE.n)) BoE.t)) w1.heap.size (.slice (some ⟨w1.heap.size, 0, none⟩) s.N s.N) (List.replicate s.N false)) := ae hmz;clear hmz hb1;go_upto_region 3 with fail;refine aJ 2 ?_;refine alM (ax rfl alW vI) ?_;refine alM (ax rfl alW adg) ?_;refine alM (aE rfl alW (bV (PRu.c0 HH1))) ?_;refine alM (qt (E := BoE) rfl alW alW HN6) ?_;generalize w1.alloc (.cells (madeCells BoE.z.cells (s.N * BoE.n)) BoE.t) = w2 at *;refine aH 1 ?_;obtain ⟨g, hg⟩ : ∃ g, w1.heap.size = g := ⟨_, rfl⟩;have HWG : Hid (w.heap.size <= g) := ae (by rw [<- hg]; exact HB.out.size);rw [hg] at HM0 HBZ ⊢;have HG := ae hg;clear hg;go_upto_region 4 with fail;refine aJ 1 ?_;refine alM (dV BoE rfl alW) ?_;refine aH 1 ?_;go_wp2_with fail
 go_loopw [6, 19] (fun _ y wr => ∃ i : Nat, y = .int .i64 i /\ i <= s.N /\ aQ BoE wr g (.slice (some ⟨g, 0, none⟩) s.N s.N) (ra (s.bZ k) i ++ List.replicate (s.N - i) false) /\ Below g w1 wr) (fun _ y _ => s.N - (intOf y).toNat)
 case atStart => exact ⟨0, by go_num, Nat.zero_le _, HM0, HBZ⟩
 case round =>
  obtain ⟨i, rfl, hi, hm, hb⟩ := hrel;have HM := ae hm;have HW := ae hb;have HHr := ae (HH1.out.below (by rw [HG.out]; exact hb));have HBS : Hid (g <= wr.heap.size) := ae (by have := hb.size; rw [HG.out] at this; exact this);clear hm hb;go_upto_region 5 with fail;refine af ?_;by_cases hlt : i < s.N
  ·have HI := ae hlt;have HT : Hid (decide ((i : Int) < (s.N : Int)) = true) := ae (ao (by omega));have HADD : Hid (IntKind.i64.wrap ((i : Int) + 1) = ((i + 1 : Nat) : Int)) := ae (by have := HN16.out; rw [eF ⟨by omega, by omega⟩]; omega);obtain ⟨v, hlk, hv⟩ := HHr.out.get HOK HKT;have HLK := ae hlk;have HV := ae hv;have HKN : Hid ((lnG (s.bZ k) (i : Int)).kn = (dj (s.bZ k) i).kn) := ae (by rw [yk (by rw [(HOK.out.line k).2]; exact hlt)]);clear hi hlt hlk hv;refine alM (aY true rfl alW alW HT) ?_;refine ah ?_;go_upto_region 6 with fail;refine cC 2 ?_;go_upto_region 7 with fail;refine aJ 3 ?_;refine runs 1 ?_;refine alM (ax rfl alW gv) ?_;refine alM (aE rfl alW (kA (PRu.c4 HHr))) ?_;refine runs 1 ?_;refine alM (di rfl alW alW HLK) ?_;refine runs 1 ?_;refine ay rfl (aB call58 rfl (evc alW (evc alW evn))) ?_;refine (sC (i : Int) HV).mono ?_;rintro e w5 ⟨rfl, b5⟩;rw [HKN.out];have HM5 := ae (HM.out.below b5);have HW5 := ae (HW.out.trans (b5.mono HBS));have HTH : Hid (w5.there g (0 + i * BoE.n) 1) := ae (by have := HM5.out.there HI (j := 0) (m := 1) aj; rw [Nat.add_zero] at this; rwa [Nat.zero_add]);have HM6 : Hid (aQ BoE (w5.setCells g (0 + i * BoE.n) (BoE.cel (dj (s.bZ k) i).kn)) g (.slice (some ⟨g, 0, none⟩) s.N s.N) (ra (s.bZ k) (i + 1) ++ List.replicate (s.N - (i + 1)) false)) := ae (by have := HM5.out.store HI (dj (s.bZ k) i).kn; rw [ab5 HI.out] at this; rwa [Nat.zero_add]);have HW6 : Hid (Below g w1 (w5.setCells g (0 + i * BoE.n) (BoE.cel (dj (s.bZ k) i).kn))) := ae (below_setCells HW5 aj _);clear b5;refine aR ?_;refine runs 3 ?_;refine alM (cu (E := BoE) rfl alW alW HI) ?_;refine aG rfl (dh rfl (ev rfl) (ev rfl) (akN HTH.out)) ?_;simp only [aa];generalize w5.setCells g (0 + i * BoE.n) (BoE.cel (dj (s.bZ k) i).kn) = w6 at *;refine ah ?_;go_upto_region 8 with fail;refine af ?_;refine alM (bP rfl alW evk HADD) ?_;refine aH 1 ?_;go_wp2_with fail;go_roundw
   case rel => exact ⟨i + 1, by go_num, HI, HM6, HW6⟩
   case measure => have := HI.out; simp [intOf]; omega
  have hin : i = s.N := by omega
  have HT : Hid (decide ((i : Int) < (s.N : Int)) = false) := ae (am (by omega));have HMF : Hid (aQ BoE wr w.heap.size (.slice (some ⟨g, 0, none⟩) s.N s.N) (pF s (k : Int))) := ae (by
   have := HM.out;rw [hin, Nat.sub_self, List.replicate_zero, List.append_nil] at this;rw [HZ.out];exact this.base HWG)
  clear hlt hi hin;refine alM (aY false rfl alW alW HT) ?_;refine ah ?_;go_upto_region 9 with fail;refine cC 2 ?_;go_wp2_with fail;go_ret;exact ⟨_, rfl, HMF, HB.out.trans (HW.out.mono HWG)⟩
theorem adw (n : Int) (h : PRu w t lp mp FL (kyL s.dty s.o) s.o.length m s.ln s.N s.T s.room r) (hok : co s) : Calls prog 22 #[.pointer (some ⟨t, 0, none⟩), .int .i64 n] w fun e w' => ∃ v, e = .returned v /\ aQ cd w' w.heap.size v ((oY s n).map cG) /\ Below w.heap.size w w' := by
 have HH := ae h;have HOK := ae hok;have HN16 : Hid (s.N <= 16) := ae hok.n16;have HN6 : Hid (s.N <= 1000000) := ae (by have := hok.n16; omega);obtain ⟨en, hen⟩ : ∃ en, shE s n = en := ⟨_, rfl⟩;have HEN := ae hen;have HMY : Hid (vq s.T n = en) := ae ((mK n).trans hen);clear h hok hen;go_enter func22, ntmps22;cases hc : s.str n
 ·have HNE : Hid ((en != 0) = true) := ae (by rw [<- HEN.out]; unfold shE; rw [hc]; rfl);have HZ : Hid (oY s n = []) := ae (by unfold oY; rw [hc]; rfl);clear hc;go_upto_region 1 with fail;refine aJ 2 ?_;refine ay rfl (aB call65 rfl (evc alW (evc alW evn))) ?_;refine (nO n HH).mono ?_;rintro e w1 ⟨rfl, b1⟩;rw [HMY.out];have HB := ae b1;have HH1 := ae (HH.out.below b1);clear b1;refine aR ?_;refine alM (aN true rfl alW evk HNE) ?_;refine ah ?_;go_wp2_with fail;go_ret;exact ⟨_, rfl, by rw [HZ.out, List.map_nil]; exact aQ.nil _ _, HB⟩
 have hen0 : en = 0 := by rw [<- HEN.out]; unfold shE; rw [hc]; rfl
 subst hen0;obtain ⟨k, rfl, hk⟩ := oE hc;have HKT := ae hk;have HZ : Hid ((oY s (k : Int)).map cG = ny (k : Int) (s.bZ k) (lnD (s.bZ k))) := ae (by unfold oY; rw [hc, if_pos rfl, Int.toNat_natCast, adv, <- (HOK.out.line k).2]; rfl);have HDL : Hid ((lnD (s.bZ k)).length <= 16) := ae (ar (zM _ _) (by rw [(HOK.out.line k).2]; exact HN16));have HDM : Hid (∀ i, i < (lnD (s.bZ k)).length -> ∃ j : Nat, (lnD (s.bZ k)).getD i 0 = (j : Int) /\ j < (s.bZ k).l.length) := ae fun i hi => by
  obtain ⟨j, e, hj, _⟩ := yS (cO (d := 0) hi);exact ⟨j, e, hj⟩
 clear hc hk;go_upto_region 1 with fail;refine aJ 2 ?_;refine ay rfl (aB call65 rfl (evc alW (evc alW evn))) ?_;refine (nO (k : Int) HH).mono ?_;rintro e w1 ⟨rfl, b1⟩;rw [HMY.out];have HB := ae b1;have HH1 := ae (HH.out.below b1);clear b1;refine aR ?_;refine alM (aN false rfl alW evk rfl) ?_;refine ah ?_;obtain ⟨v, hlk, hv⟩ := HH1.out.get HOK HKT;have HLK := ae hlk;have HV := ae hv;clear hlk hv;go_upto_region 4 with fail;refine aJ 2 ?_;refine alM (ax rfl alW gv) ?_;refine alM (aE rfl alW (kA (PRu.c4 HH1))) ?_;refine runs 1 ?_;refine alM (di rfl alW alW HLK) ?_;refine aH 1 ?_;go_upto_region 5 with fail;refine aJ 1 ?_;refine ay rfl (aB call69 rfl (evc alW evn)) ?_;refine (aeQ HV).mono ?_;rintro e w2 ⟨v2, rfl, m2, b2⟩;obtain ⟨A2, c2, rfl, _, _⟩ := m2.form;have HM2 := ae m2;have HB2 := ae (HB.out.trans (b2.mono HB.out.size));have HVW : Hid (∀ {w' : World}, Below w2.heap.size w2 w' -> (v = .pointer none /\ s.bZ k = dC s.N) \/ ∃ a, v = .pointer (some ⟨a, 0, none⟩) /\ LnA w' a (lf (s.bZ k)) /\ dQ (s.bZ k)) := ae fun hw => by
  rcases HV.out with h | ⟨a, h1, h2, h3⟩
  ·exact .inl h
  ·exact .inr ⟨a, h1, (h2.below b2).below hw, h3⟩
 clear m2;refine aR ?_;refine alM (dV bg rfl alW) ?_;refine aH 1 ?_;obtain ⟨D, hD⟩ : ∃ D, lnD (s.bZ k) = D := ⟨_, rfl⟩;rw [hD] at HDL HDM HM2 HZ ⊢;clear hD b2;go_wp2_with fail
 go_loopw [5, 8, 9, 10, 24] (fun z _ _ _ y wr => ∃ i : Nat, y = .int .i64 i /\ i <= D.length /\ aQ cd wr w2.heap.size z (ny (k : Int) (s.bZ k) (D.take i)) /\ Below w2.heap.size w2 wr) (fun _ _ _ _ y _ => D.length - (intOf y).toNat)
 case atStart => exact ⟨0, by go_num, Nat.zero_le _, aQ.nil _ _, ak⟩
 case round =>
  obtain ⟨i, rfl, hi, hm, hb⟩ := hrel;have HM := ae hm;have HW := ae hb;have HMr := ae (aQ.below HM2 hb);have HVr := ae (HVW.out hb);have HBS : Hid (w2.heap.size <= wr.heap.size) := ae hb.size;clear hm hb;by_cases hlt : i < D.length
  ·have HI := ae hlt;have HT : Hid (decide ((i : Int) < (D.length : Int)) = true) := ae (ao (by omega));have HADD : Hid (IntKind.i64.wrap ((i : Int) + 1) = ((i + 1 : Nat) : Int)) := ae (by have := HDL.out; rw [eF ⟨by omega, by omega⟩]; omega);obtain ⟨j, hj, hjL⟩ := HDM.out i hlt;obtain ⟨b, off, hA, _, hc⟩ := HMr.out.rd.int (k := i) hlt;rw [hj] at hc;subst hA;have HC := ae hc;have HGB : Hid (lnG (s.bZ k) (j : Int) = dj (s.bZ k) j) := ae (yk hjL);have HSN : Hid (ny (k : Int) (s.bZ k) (D.take (i + 1)) = ny (k : Int) (s.bZ k) (D.take i) ++ [⟨(k : Int), (j : Int), (dj (s.bZ k) j).b⟩]) := ae (abK hlt hj);have HLL : Hid ((ny (k : Int) (s.bZ k) (D.take i)).length <= 16) := ae (by unfold ny; rw [List.length_map, List.length_take]; have := HDL.out; omega);clear hi hlt hj hjL hc;go_upto_region 6 with fail;refine af ?_;refine alM (aY true rfl alW alW HT) ?_;refine ah ?_;go_upto_region 7 with fail;refine af ?_;refine alM (cu (E := bg) rfl alW alW HI) ?_;refine alM (aE rfl alW (bV (by rw [show i * bg.n = i from Nat.mul_one i]; exact HC.out))) ?_;refine aH 1 ?_;obtain ⟨bl, hbl⟩ : ∃ bl, (dj (s.bZ k) j).b = bl := ⟨_, rfl⟩;rw [hbl] at HSN;have HBL := ae hbl;clear hbl;go_upto_region 8 with fail;refine aJ 2 ?_;refine ay rfl (aB call58 rfl (evc alW (evc alW evn))) ?_;refine (sC (j : Int) HVr).mono ?_;rintro e w5 ⟨rfl, b5⟩;rw [HGB.out, HBL.out];have HM5 := ae (HM.out.below b5);have HW5 := ae (HW.out.trans (b5.mono HBS));have hb6 := HW5.out.alloc HW5.out.size (.cells (cel bl).toArray 45);have HW6 := ae hb6;have HX6 := ae (heap_alloc_new w5 (.cells (cel bl).toArray 45));have HM6 := ae (HM5.out.below ((Below.refl w5.heap.size w5).alloc aj (.cells (cel bl).toArray 45)));clear b5 hb6;refine aR ?_;refine runs 3 ?_;refine alM (aX rfl) ?_;refine aG rfl (eC (c := bl) rfl (ev rfl) (ev rfl)) ?_;simp only [aa];refine aH 1 ?_;obtain ⟨b6, hb6⟩ : ∃ b6, w5.heap.size = b6 := ⟨_, rfl⟩;rw [hb6] at HX6 ⊢;clear hb6;generalize w5.alloc (.cells (cel bl).toArray 45) = w6 at *;obtain ⟨cx, hcx⟩ : ∃ cx : Cl, (⟨(k : Int), (j : Int), bl⟩ : Cl) = cx := ⟨_, rfl⟩;have HBS6 : Hid (w2.heap.size <= w6.heap.size) := ae HW6.out.size;have hsz : (w6.alloc (.cells (eI cx).toArray 56)).heap.size = w6.heap.size + 1 := al;obtain ⟨v2, wA, hrun, hm2, hg2⟩ := gV cd (w6.alloc (.cells (eI cx).toArray 56)) 47 w2.heap.size (w6.heap.size + 1) 1 1 u5 (ny (k : Int) (s.bZ k) (D.take i)) [cx] (some ⟨w6.heap.size, 0, none⟩) (aQ.below HM6 (ak.alloc aj _)) (eB (E := cd) (l := [cx]) w6 (eI cx).toArray 56 (by simp [cH, cd])) (by have := HBS6.out; omega) (by have := HLL.out; simp; omega);have HRUN := ae hrun;have HMA : Hid (aQ cd wA w2.heap.size v2 (ny (k : Int) (s.bZ k) (D.take (i + 1)))) := ae (by rw [HSN.out, hcx]; exact hm2);have HWA : Hid (Below w2.heap.size w2 wA) := ae ((HW6.out.trans (ak.alloc HBS6 _)).grown hg2 (by have := HBS6.out; omega) (fun j' hj' => HM6.out.ia j' hj'));have HCX := ae hcx;clear hsz hrun hm2 hg2 hcx;go_upto_region 9 with fail;refine aJ 3 ?_;refine alM (yq rfl alW alW) ?_;refine alM (aV (c := bl) rfl alW (aP HX6)) ?_;refine alM (rY (s := (k : Int)) (m := (j : Int)) (b := bl) rfl alW alW) ?_;refine alM (da (E := cd) (a := cx) rfl alW (by rw [<- HCX.out]; rfl) (by show 66 <= _; omega)) ?_;refine alM (fX (E := cd) rfl alW alW HRUN) ?_;refine aH 1 ?_;go_upto_region 10 with fail;refine af ?_;refine alM (bP rfl alW evk HADD) ?_;refine aH 1 ?_;go_wp2_with fail;go_roundw
   case rel => exact ⟨i + 1, by go_num, HI, HMA, HWA⟩
   case measure => have := HI.out; simp [intOf]; omega
  have hin : i = D.length := by omega
  have HT : Hid (decide ((i : Int) < (D.length : Int)) = false) := ae (am (by omega));have HMF : Hid (aQ cd wr w.heap.size u5 ((oY s (k : Int)).map cG)) := ae (by
   have := HM.out;rw [hin, List.take_length] at this;rw [HZ.out];exact this.base HB2.out.size)
  clear hlt hi hin;go_upto_region 6 with fail;refine af ?_;refine alM (aY false rfl alW alW HT) ?_;refine ah ?_;go_upto_region 11 with fail;refine cC 2 ?_;go_wp2_with fail;go_ret;exact ⟨_, rfl, HMF, HB2.out.trans (HW.out.mono HB2.out.size)⟩
end
end Go.Proofs.YtdmhelalbemlcaaGreatDoor
