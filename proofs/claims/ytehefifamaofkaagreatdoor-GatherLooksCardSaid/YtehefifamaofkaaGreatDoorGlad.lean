import Derived.Test.YtehefifamaofkaaGreatDoorGlac
namespace Go.Proofs.YtehefifamaofkaaGreatDoor
set_option maxHeartbeats 8000000
open Go.Proofs.Tryz
open Go.RowKit
set_option linter.unusedVariables false
set_option maxRecDepth 100000
def uS (id ev : Nat) (R : Ros) (M : aR) (m : Nat) : List Stp := [.wr (ma (dY M m 0) (dY M m 1) : Nat) (eE ev ⟨id, m, R⟩), .fl]
def dJ (id ev : Nat) (R : Ros) (M : aR) (m : Nat) : Int := if ct M m 0 = 0 then (if ct M m 1 = 0 then goE m M (uS id ev R M m) else ct M m 1) else ct M m 0
def dw (id ev : Nat) (R : Ros) (M : aR) (m : Nat) : aR := if ct M m 0 = 0 /\ ct M m 1 = 0 then goB m M (uS id ev R M m) else M
def dh (id ev : Nat) (R : Ros) : Nat -> Nat -> aR -> Option Nat × Int × aR
 |0, _, M => (none, 0, M)
 |k + 1, m, M =>
  if sta R m = 1 then dh id ev R k (m + 1) M
  else if dJ id ev R M m = 9 then (some m, 0, dw id ev R M m)
  else if dJ id ev R M m = 0 then dh id ev R k (m + 1) (dw id ev R M m)
  else (none, dJ id ev R M m, dw id ev R M m)
structure HuS where
 M : aR
 id : Nat
 ev : Nat
 R : Ros
def fm : Nat -> HuS -> Int × HuS
 |0, h => (0, h)
 |f + 1, h =>
  match dh h.id (h.ev + 1) h.R h.R.m.toNat 0 h.M with
  |(none, e, M') => (e, ⟨M', h.id, h.ev + 1, h.R⟩)
  |(some m, _, M') => fm f ⟨M', h.id, h.ev + 1, cx h.R m⟩
def ke (h : HuS) : Int := (fm 17 h).1
def iT (h : HuS) : HuS := (fm 17 h).2
section
variable {M : aR} {m : Nat} {S : List Blk}
theorem tO {α : Type} (l : List α) (k j : Nat) (a d : α) (hk : k < l.length) : (l.set k a).getD j d = if j = k then a else l.getD j d := by
 by_cases e : j = k
 ·subst e; rw [if_pos rfl]; simp [List.getD, hk]
 ·rw [if_neg e]; simp only [List.getD]; rw [List.getElem?_set_ne (by omega)]
structure Wel (M : aR) (m : Nat) (S : List Blk) : Prop where
 cf : M.cf = false
 left : M.left = 0
 lt : m < M.ds.length
 dev : M.ds.getD m cd = ⟨S, [], false⟩
theorem Wel.lit (h : Wel M m S) : dN M m = 0 := jz h.cf h.lt
theorem Wel.abS (h : Wel M m S) : M.dev m = ⟨S, [], false⟩ := h.dev
theorem Wel.rdE (h : Wel M m S) {n : Nat} (hn : n < S.length) : ct M m n = 0 := by
 unfold ct;rw [if_pos h.lit, h.abS]
 show cT S false (n : Int) = 0
 exact fR ⟨by omega, by omega⟩
theorem Wel.rdB (h : Wel M m S) {n : Nat} (hn : n < S.length) : dY M m n = S.getD n aF := by
 unfold dY;rw [if_pos h.lit, h.abS]
 show eU S [] false (n : Int) = _
 rw [kQ (fR ⟨by omega, by omega⟩)]
 rfl
theorem Wel.laid (h : Wel M m S) {n : Nat} (hn : n < S.length) (b : Blk) :
  goE m M [.wr (n : Int) b, .fl] = 0 /\ Wel (goB m M [.wr (n : Int) b, .fl]) m (S.set n b) /\ (goB m M [.wr (n : Int) b, .fl]).ds.length = M.ds.length /\ (goB m M [.wr (n : Int) b, .fl]).steps = M.steps + 2 /\ ∀ j, j ≠ m -> (goB m M [.wr (n : Int) b, .fl]).ds.getD j cd = M.ds.getD j cd := by
 have hs : M.dI = 0 := by unfold aR.dI; rw [h.left]; rfl
 have e1 : qi m M (.wr (n : Int) b) = 0 := by
  show jL _ _ _ = 0
  unfold jL;rw [if_pos (h.rdE hn), hs]
 obtain ⟨M1, hM1⟩ : ∃ M1, pJ m M (.wr (n : Int) b) = M1 := ⟨_, rfl⟩;have f1 : M1 = (M.done.put m ⟨S, [((n : Int), b)], false⟩) := by
  rw [<- hM1]
  show eg _ _ _ _ = _
  unfold eg;rw [if_pos (h.rdE hn), if_neg (by rw [h.left]; omega), h.abS];have e : wrL S [] false (n : Int) b = [((n : Int), b)] := by unfold wrL; rw [if_pos (fR ⟨by omega, by omega⟩)]; rfl
  show aR.put _ _ ⟨S, wrL S [] false (n : Int) b, false⟩ = _
  rw [e]
  rfl
 have g1 : M1.dev m = ⟨S, [((n : Int), b)], false⟩ := by
  rw [f1]
  show ((M.ds.set m _).getD m cd) = _
  rw [tO _ _ _ _ _ h.lt, if_pos rfl]
 have hl1 : M1.ds.length = M.ds.length := by rw [f1]; exact List.length_set
 have hk1 : M1.cf = false := by rw [f1]; exact h.cf
 have hz1 : M1.left = 0 := by rw [f1]; show M.left - 1 = 0; rw [h.left]
 have hA : fK M1 m = 0 := by
  unfold fK;rw [if_pos (jz hk1 (by rw [hl1]; exact h.lt)), g1]
  rfl
 have e2 : qi m M1 .fl = 0 := by
  show hZ _ _ = 0
  unfold hZ;rw [if_pos hA];unfold aR.dI;rw [hz1]
  rfl
 have f2 : pJ m M1 .fl = M1.done.put m ⟨S.set n b, [], false⟩ := by
  show fk _ _ = _
  unfold fk;rw [if_pos hA, if_neg (by rw [hz1]; omega), g1]
  rfl
 have hE : goE m M [.wr (n : Int) b, .fl] = 0 := by
  rw [(go_ok e1).1, hM1, (go_ok e2).1]; rfl
 have hB : goB m M [.wr (n : Int) b, .fl] = M1.done.put m ⟨S.set n b, [], false⟩ := by
  rw [(go_ok e1).2, hM1, (go_ok e2).2, f2]; rfl
 have hlm : m < M1.ds.length := by rw [hl1]; exact h.lt
 refine ⟨hE, ?_, ?_, ?_, fun j hj => ?_⟩
 ·rw [hB];refine ⟨hk1, ?_, ?_, ?_⟩
  ·show M1.left - 1 = 0; rw [hz1]
  ·show m < (M1.ds.set m _).length; rw [List.length_set]; exact hlm
  ·show (M1.ds.set m _).getD m cd = _; rw [tO _ _ _ _ _ hlm, if_pos rfl]
 ·rw [hB]; show (M1.ds.set m _).length = _; rw [List.length_set, hl1]
 ·rw [hB]; show M1.steps + 1 = _; rw [f1]; rfl
 ·rw [hB]
  show (M1.ds.set m _).getD j cd = _
  rw [tO _ _ _ _ _ hlm, if_neg hj, f1]
  show (M.ds.set m _).getD j cd = _
  rw [tO _ _ _ _ _ h.lt, if_neg hj]
theorem uz (hd : M.cf = false) (hl : m < M.ds.length) (hg : (M.ds.getD m cd).g = true) (hS : 0 < (M.ds.getD m cd).S.length) : ct M m 0 = 9 := by
 unfold ct;rw [if_pos (jz hd hl)]
 show cT (M.ds.getD m cd).S (M.ds.getD m cd).g 0 = 9
 rw [hg];exact lq ⟨by omega, by omega⟩
end
structure Old (ev : Nat) (S : List Blk) : Prop where
 two : 2 <= S.length
 a : gsN (S.getD 0 aF) <= ev
 b : gsN (S.getD 1 aF) <= ev
theorem acs (a b : Blk) : ma a b < 2 := by unfold ma; split <;> omega
theorem Old.more {ev ev' : Nat} {S : List Blk} (h : Old ev S) (he : ev <= ev') : Old ev' S := ⟨h.two, ap h.a he, ap h.b he⟩
def Now (ev : Nat) (x : Sup) (S : List Blk) : Prop := nwE (S.getD 0 aF) (S.getD 1 aF) = 0 /\ nwN (S.getD 0 aF) (S.getD 1 aF) = ev /\ nwS (S.getD 0 aF) (S.getD 1 aF) = x
theorem acp {ev : Nat} {x : Sup} {S : List Blk} {n : Nat} {b : Blk} (hn : n < 2) (hS : Old ev S) (h1 : gsN b = ev + 1) (h2 : gsS b = x) : Now (ev + 1) x (S.set n b) /\ Old (ev + 1) (S.set n b) := by
 have ha := hS.a;have hb := hS.b;have h2' := hS.two;have e0 : (S.set n b).getD 0 aF = if 0 = n then b else S.getD 0 aF := tO _ _ _ _ _ (by omega)
 have e1 : (S.set n b).getD 1 aF = if 1 = n then b else S.getD 1 aF := tO _ _ _ _ _ (by omega)
 unfold Now;rcases (show n = 0 \/ n = 1 by omega) with rfl | rfl
 ·rw [if_pos rfl] at e0;rw [if_neg (by omega)] at e1;rw [e0, e1];refine ⟨⟨?_, ?_, ?_⟩, ⟨by rw [List.length_set]; exact h2', by rw [e0]; omega, by rw [e1]; omega⟩⟩
  ·unfold nwE; rw [if_neg (by omega)]
  ·unfold nwN; rw [if_neg (by omega)]; exact h1
  ·unfold nwS; rw [if_neg (by omega)]; exact h2
 ·rw [if_neg (by omega)] at e0;rw [if_pos rfl] at e1;rw [e0, e1];refine ⟨⟨?_, ?_, ?_⟩, ⟨by rw [List.length_set]; exact h2', by rw [e0]; omega, by rw [e1]; omega⟩⟩
  ·unfold nwE; rw [if_neg (by omega)]
  ·unfold nwN; rw [if_pos (by omega)]; exact h1
  ·unfold nwS; rw [if_pos (by omega)]; exact h2
structure HOk (id ev : Nat) (R : Ros) (M : aR) : Prop where
 cf : M.cf = false
 left : M.left = 0
 len : R.m.toNat < M.ds.length
 fine : bn R = true
 ids : id ≠ 0 /\ id < 18446744073709551616
 two : ∀ m, m < R.m.toNat -> 2 <= (M.ds.getD m cd).S.length
 wel : ∀ m, m < R.m.toNat -> (M.ds.getD m cd).g = false -> ∃ S, M.ds.getD m cd = ⟨S, [], false⟩ /\ Old ev S
section
variable {id ev : Nat} {R : Ros} {M : aR} {m : Nat}
theorem HOk.more {ev' : Nat} (h : HOk id ev R M) (he : ev <= ev') : HOk id ev' R M :=
 ⟨h.cf, h.left, h.len, h.fine, h.ids, h.two, fun m hm hg => by obtain ⟨S, e, hS⟩ := h.wel m hm hg; exact ⟨S, e, hS.more he⟩⟩
theorem HOk.put {ev1 : Nat} {S : List Blk} (h : HOk id ev1 R M) (hev : ev + 1 <= 4611686018427387904) (hm : m < R.m.toNat) (hd : M.ds.getD m cd = ⟨S, [], false⟩) (hS : Old ev S) :
  dJ id (ev + 1) R M m = 0 /\ ∃ S', Wel (dw id (ev + 1) R M m) m S' /\ Now (ev + 1) ⟨id, m, R⟩ S' /\ (Old (ev + 1) S' /\ S'.length = S.length) /\ (dw id (ev + 1) R M m).ds.length = M.ds.length /\ (dw id (ev + 1) R M m).steps = M.steps + 2 /\ ∀ j, j ≠ m -> (dw id (ev + 1) R M m).ds.getD j cd = M.ds.getD j cd := by
 have hw : Wel M m S := ⟨h.cf, h.left, by have := h.len; omega, hd⟩;have h2 := hS.two;have r0 : ct M m 0 = 0 := hw.rdE (n := 0) (by omega);have r1 : ct M m 1 = 0 := hw.rdE (n := 1) (by omega);have hl := acs (dY M m 0) (dY M m 1);obtain ⟨n, hn⟩ : ∃ n, ma (dY M m 0) (dY M m 1) = n := ⟨_, rfl⟩;rw [hn] at hl;have hT : uS id (ev + 1) R M m = [.wr (n : Int) (eE (ev + 1) ⟨id, m, R⟩), .fl] := by unfold uS; rw [hn]
 have hE : dJ id (ev + 1) R M m = goE m M [.wr (n : Int) (eE (ev + 1) ⟨id, m, R⟩), .fl] := by
  unfold dJ; rw [if_pos r0, if_pos r1, hT]
 have hM : dw id (ev + 1) R M m = goB m M [.wr (n : Int) (eE (ev + 1) ⟨id, m, R⟩), .fl] := by
  unfold dw; rw [if_pos ⟨r0, r1⟩, hT]
 have hev' : evB (ev + 1) = true := by unfold evB; rw [decide_eq_true_iff]; omega
 have hsp : dX ⟨id, m, R⟩ = true := by
  unfold dX;simp only [Bool.and_eq_true, decide_eq_true_eq];exact ⟨⟨h.ids.1, h.fine⟩, by omega, by omega⟩
 have hg := yl (x := ⟨id, m, R⟩) h.ids.2 (jm hev' hsp);obtain ⟨k1, k2, k3, k4, k5⟩ := hw.laid (n := n) (by omega) (eE (ev + 1) ⟨id, m, R⟩);rw [hE, hM];obtain ⟨n1, n2⟩ := acp hl hS hg.2.1 hg.2.2;exact ⟨k1, _, k2, n1, ⟨n2, List.length_set⟩, k3, k4, k5⟩
theorem HOk.dead (h : HOk id ev R M) (e : Nat) (hm : m < R.m.toNat) (hg : (M.ds.getD m cd).g = true) : dJ id e R M m = 9 /\ dw id e R M m = M := by
 have r0 : ct M m 0 = 9 := uz h.cf (by have := h.len; omega) hg (by have := h.two m hm; omega);have hn : ¬ ct M m 0 = 0 := fun e => by rw [r0] at e; exact absurd e (by decide)
 constructor
 ·unfold dJ; rw [if_neg hn, r0]
 ·unfold dw; rw [if_neg fun e => hn e.1]
structure mS (N : Nat) (M M' : aR) : Prop where
 len : M'.ds.length = M.ds.length
 gs : ∀ j, (M'.ds.getD j cd).g = (M.ds.getD j cd).g
 hi : ∀ j, N <= j -> M'.ds.getD j cd = M.ds.getD j cd
 sl : ∀ j, (M'.ds.getD j cd).S.length = (M.ds.getD j cd).S.length
theorem mS.refl (N : Nat) (M : aR) : mS N M M := ⟨rfl, fun _ => rfl, fun _ _ => rfl, fun _ => rfl⟩
theorem mS.trans {N : Nat} {M1 M2 M3 : aR} (h : mS N M1 M2) (k : mS N M2 M3) : mS N M1 M3 := ⟨k.len.trans h.len, fun j => (k.gs j).trans (h.gs j), fun j hj => (k.hi j hj).trans (h.hi j hj), fun j => (k.sl j).trans (h.sl j)⟩
theorem lm (hev : ev + 1 <= 4611686018427387904) : ∀ (k m : Nat) (M : aR), m + k = R.m.toNat -> HOk id (ev + 1) R M ->
  (∀ j, m <= j -> j < R.m.toNat -> (M.ds.getD j cd).g = false -> ∃ S, M.ds.getD j cd = ⟨S, [], false⟩ /\ Old ev S) ->
  (∀ j, j < m -> sta R j = 1 \/ ∃ S, M.ds.getD j cd = ⟨S, [], false⟩ /\ Now (ev + 1) ⟨id, j, R⟩ S) ->
  ∃ M', HOk id (ev + 1) R M' /\ mS R.m.toNat M M' /\ M'.steps <= M.steps + 2 * k /\
   ((dh id (ev + 1) R k m M = (none, 0, M') /\ ∀ j, j < R.m.toNat -> sta R j = 1 \/ ∃ S, M'.ds.getD j cd = ⟨S, [], false⟩ /\ Now (ev + 1) ⟨id, j, R⟩ S) \/
    ∃ d, dh id (ev + 1) R k m M = (some d, 0, M') /\ d < R.m.toNat /\ sta R d ≠ 1 /\ (M.ds.getD d cd).g = true)
 |0, m, M, hk, h, _, hlo => ⟨M, h, mS.refl _ _, ai, .inl ⟨rfl, fun j hj => hlo j (by omega)⟩⟩
 |k + 1, m, M, hk, h, hhi, hlo => by
  have hm : m < R.m.toNat := by omega
  by_cases hl : sta R m = 1
  ·obtain ⟨M', h1, h2, h3, h4⟩ := lm hev k (m + 1) M (by omega) h (fun j hj => hhi j (by omega)) (fun j hj => by
    by_cases e : j = m
    ·subst e; exact .inl hl
    ·exact hlo j (by omega))
   refine ⟨M', h1, h2, by omega, ?_⟩;have e : dh id (ev + 1) R (k + 1) m M = dh id (ev + 1) R k (m + 1) M := by rw [dh, if_pos hl]
   rw [e];exact h4
  ·cases hg : (M.ds.getD m cd).g
   ·obtain ⟨S, hd, hS⟩ := hhi m ai hm hg;obtain ⟨p1, S', p2, p3, ⟨p4, p8⟩, p5, p6, p7⟩ := h.put hev hm hd hS;have e : dh id (ev + 1) R (k + 1) m M = dh id (ev + 1) R k (m + 1) (dw id (ev + 1) R M m) := by
     rw [dh, if_neg hl, if_neg (by rw [p1]; decide), if_pos p1]
    rw [e];generalize dw id (ev + 1) R M m = M1 at *;have hdv : M1.ds.getD m cd = ⟨S', [], false⟩ := p2.dev;have hlk : mS R.m.toNat M M1 := ⟨p5, fun j => by
     by_cases ej : j = m
     ·subst ej; rw [hdv, hg]
     ·rw [p7 j ej], fun j hj => p7 j (by omega), fun j => by
     by_cases ej : j = m
     ·subst ej; rw [hdv, hd]; exact p8
     ·rw [p7 j ej]⟩
    obtain ⟨M', h1, h2, h3, h4⟩ := lm hev k (m + 1) M1 (by omega) ⟨p2.cf, p2.left, by rw [p5]; exact h.len, h.fine, h.ids, fun j hj => by
      rw [hlk.sl j]; exact h.two j hj, fun j hj hgj => by
      by_cases ej : j = m
      ·subst ej; exact ⟨S', hdv, p4⟩
      ·rw [p7 j ej] at hgj ⊢; exact h.wel j hj hgj⟩
     (fun j hj hjn hgj => by
      rw [p7 j (by omega)] at hgj ⊢; exact hhi j (by omega) hjn hgj)
     (fun j hj => by
      by_cases ej : j = m
      ·subst ej; exact .inr ⟨S', hdv, p3⟩
      ·rw [p7 j ej]; exact hlo j (by omega))
    refine ⟨M', h1, hlk.trans h2, by omega, ?_⟩;rcases h4 with h4 | ⟨d, d1, d2, d3, d4⟩
    ·exact .inl h4
    ·exact .inr ⟨d, d1, d2, d3, by rw [<- hlk.gs d]; exact d4⟩
   ·obtain ⟨p1, p2⟩ := h.dead (ev + 1) hm hg;have e : dh id (ev + 1) R (k + 1) m M = (some m, 0, M) := by rw [dh, if_neg hl, if_pos p1, p2]
    rw [e];exact ⟨M, h, mS.refl _ _, by omega, .inr ⟨m, rfl, hm, hl, hg⟩⟩
end
def iC (q : Nat -> Bool) : Nat -> Nat
 |0 => 0
 |n + 1 => iC q n + (if q n = true then 1 else 0)
theorem ua (q : Nat -> Bool) (n : Nat) : iC q n <= n := by
 induction n with
 |zero => exact ai
 |succ n ih => rw [iC]; split <;> omega
theorem uT {q q' : Nat -> Bool} (h : ∀ j, q' j = true -> q j = true) (n : Nat) : iC q' n <= iC q n := by
 induction n with
 |zero => exact ai
 |succ n ih =>
  rw [iC, iC];by_cases e : q' n = true
  ·rw [if_pos e, if_pos (h n e)]; omega
  ·rw [if_neg e]; split <;> omega
theorem pL {q q' : Nat -> Bool} (h : ∀ j, q' j = true -> q j = true) {d : Nat} (h1 : q d = true) (h2 : q' d = false) : ∀ {n : Nat}, d < n -> iC q' n + 1 <= iC q n
 |0, hd => absurd hd (by omega)
 |n + 1, hd => by
  rw [iC, iC];by_cases e : d = n
  ·subst e;rw [h2, if_neg (by decide), if_pos h1];have := uT h d;omega
  ·have := pL h h1 h2 (n := n) (by omega);by_cases e' : q' n = true
   ·rw [if_pos e', if_pos (h n e')]; omega
   ·rw [if_neg e']; split <;> omega
def ded (R : Ros) (M : aR) (j : Nat) : Bool := !decide (sta R j = 1) && (M.ds.getD j cd).g
section
variable {id ev : Nat} {R : Ros} {M : aR} {m : Nat}
theorem pO (hf : bn R = true) {d : Nat} (hd : d < R.m.toNat) (hs : sta R d ≠ 1) : (cx R d).m = R.m /\ ∀ j, sta (cx R d) j = if j = d then 1 else sta R j := by
 have hq : er R (d : Int) = true := am ⟨by omega, by omega⟩;have h16 : d < 16 := by have := (x6 hf hq).1; simpa using this
 have hb : gi R (d : Int) = true := by
  unfold gi;rw [hf, hq, Int.toNat_natCast, am hs]
  rfl
 unfold cx;rw [if_pos hb, Int.toNat_natCast]
 split
 ·exact ⟨rfl, fun j => by rw [kM _ h16, t4]; rfl⟩
 ·exact ⟨rfl, fun j => by rw [kM _ h16]; rfl⟩
theorem od : ∀ (f : Nat) (ev : Nat) (R : Ros) (M : aR), HOk id ev R M -> iC (ded R M) R.m.toNat < f -> ev + f + 1 <= 4611686018427387904 ->
  ∃ ev' R' M', fm f ⟨M, id, ev, R⟩ = (0, ⟨M', id, ev', R'⟩) /\ HOk id ev' R' M' /\ ev < ev' /\ ev' <= ev + iC (ded R M) R.m.toNat + 1 /\ R'.m = R.m /\ mS R.m.toNat M M' /\ M'.steps <= M.steps + 2 * R.m.toNat * f /\
   (∀ j, j < R.m.toNat -> (sta R' j = 1 ↔ (sta R j = 1 \/ (M.ds.getD j cd).g = true))) /\ (∀ j, j < R.m.toNat -> sta R' j = 1 \/ ∃ S, M'.ds.getD j cd = ⟨S, [], false⟩ /\ Now ev' ⟨id, j, R'⟩ S) /\ (iC (ded R M) R.m.toNat = 0 -> R' = R)
 |0, ev, R, M, h, hp, _ => absurd hp (by omega)
 |f + 1, ev, R, M, h, hp, hev => by
  obtain ⟨M1, h1, h2, h3, h4⟩ := lm (id := id) (R := R) (ev := ev) (by omega) R.m.toNat 0 M (by omega) (h.more (by omega)) (fun j _ hj hg => h.wel j hj hg) (fun j hj => absurd hj (by omega));have hmul : 2 * R.m.toNat <= 2 * R.m.toNat * (f + 1) := Nat.le_mul_of_pos_right _ (by omega);rcases h4 with ⟨e, hall⟩ | ⟨d, e, hd, hs, hg⟩
  ·refine ⟨ev + 1, R, M1, ?_, h1, by omega, by omega, rfl, h2, by omega, fun j hj => ?_, hall, fun _ => rfl⟩
   ·rw [fm];simp only [e]
   ·constructor
    ·exact fun x => .inl x
    ·rintro (x | x)
     ·exact x
     ·rcases hall j hj with y | ⟨S, hS, _⟩
      ·exact y
      ·have := h2.gs j;rw [hS, x] at this;cases this
  ·obtain ⟨l1, l2⟩ := pO h.fine hd hs;have hf2 := kT (d : Int) h.fine;have hk2 : HOk id (ev + 1) (cx R d) M1 := ⟨h1.cf, h1.left, by rw [l1]; exact h1.len, hf2, h1.ids, by rw [l1]; exact h1.two, by rw [l1]; exact h1.wel⟩;have hq : ded R M d = true := by unfold ded; rw [hg, al hs]; rfl
   have hq' : ded (cx R d) M1 d = false := by unfold ded; rw [l2 d, if_pos rfl]; rfl
   have hsub : ∀ j, ded (cx R d) M1 j = true -> ded R M j = true := fun j hj => by
    unfold ded at hj ⊢;rw [l2 j, h2.gs j] at hj;by_cases e : j = d
    ·rw [if_pos e] at hj; simp at hj
    ·rw [if_neg e] at hj; exact hj
   have hlt := pL hsub hq hq' hd;obtain ⟨ev', R', M', s1, s2, s3, s4, s5, s6, s7, s8, s9, _⟩ := od f (ev + 1) (cx R d) M1 hk2 (by rw [l1]; omega) (by omega);rw [l1] at s4 s6 s7 s8 s9;refine ⟨ev', R', M', ?_, s2, by omega, by omega, s5.trans l1, h2.trans s6, ?_, fun j hj => ?_, s9, fun e0 => absurd e0 (by omega)⟩
   ·rw [fm];simp only [e];exact s1
   ·have : 2 * R.m.toNat * (f + 1) = 2 * R.m.toNat * f + 2 * R.m.toNat := Nat.mul_succ _ _;omega
   ·rw [s8 j hj, l2 j, h2.gs j];by_cases ej : j = d
    ·subst ej; rw [if_pos rfl]; exact ⟨fun _ => .inr hg, fun _ => .inl rfl⟩
    ·rw [if_neg ej]
end
set_option linter.unusedSectionVars false
structure ad5 (g : Ros) (p : Nat) : Prop where
 gz_ : gz g = g
 geo : ez g = true
 lt : (p : Int) < g.m
section
variable {g : Ros} {p q k : Nat} (h : ad5 g p)
include h
section
variable (hq : (q : Int) < g.m) (hne : q ≠ p)
include hq hne
end
def hX (g : Ros) (p : Nat) (s : Nat) : Ros := i8 (eN g p 2) (s : Int)
section
variable {s : Nat} (hs : (s : Int) < g.s)
include hs
end
def hY (g : Ros) (p s : Nat) : Ros := if (s : Int) < g.s then hX g p s else g
end
def szK (N : Nat) (s : Int) : List Int := List.replicate N (2 + s) ++ [50]
def gL (q : Nat -> Bool) (M : aR) : Nat -> aR
 |0 => M
 |k + 1 => if q k = true then gv (gL q M k) (k : Int) else gL q M k
section
variable {N : Nat} {s : Int}
theorem acl {j : Nat} (hj : j < N) : (szK N s).getD j 0 = 2 + s := by
 unfold szK;simp only [List.getD];rw [List.getElem?_append_left (by simpa using hj), List.getElem?_replicate, if_pos hj]
 rfl
theorem jo : (szK N s).length = N + 1 := by simp [szK]
theorem jt {j : Nat} (hj : j < N) : (cp (szK N s)).ds.getD j cd = ⟨List.replicate (2 + s).toNat aF, [], false⟩ := by
 rw [gl];simp only [List.getD, List.getElem?_map];have h := acl (s := s) hj;rw [List.getD] at h;rw [List.getElem?_eq_getElem (by rw [jo]; omega)] at h ⊢;simp only [Option.getD_some] at h;simp only [Option.map_some, Option.getD_some, h]
 rfl
theorem fD : (cp (szK N s)).ds.length = N + 1 := by rw [gl, List.length_map, jo]
theorem xa (ev : Nat) {n : Nat} (hn : 2 <= n) : Old ev (List.replicate n aF) := by
 have e : ∀ j, (List.replicate n aF).getD j aF = aF := fun j => by
  simp only [List.getD, List.getElem?_replicate]
  split <;> rfl
 have g : gsN aF = 0 := iY.2 (by rw [uK]; decide);exact ⟨by simpa using hn, by rw [e, g]; omega, by rw [e, g]; omega⟩
structure ad4 (q : Nat -> Bool) (k : Nat) (M M' : aR) : Prop where
 len : M'.ds.length = M.ds.length
 cf : M'.cf = M.cf
 left : M'.left = M.left
 steps : M'.steps = M.steps
 at_ : ∀ j, M'.ds.getD j cd = if j < k /\ q j = true then ⟨(M.ds.getD j cd).S, [], true⟩ else M.ds.getD j cd
theorem x9 {q : Nat -> Bool} {M : aR} : ∀ {k : Nat}, k <= M.ds.length -> ad4 q k M (gL q M k)
 |0, _ => ⟨rfl, rfl, rfl, rfl, fun j => by rw [if_neg (fun e => by have := e.1; omega)]; rfl⟩
 |k + 1, hk => by
  have ih := x9 (q := q) (M := M) (k := k) (by omega);rw [gL];by_cases hq : q k = true
  ·rw [if_pos hq];have hl : k < (gL q M k).ds.length := by rw [ih.len]; omega
   have e : gv (gL q M k) (k : Int) = (gL q M k).put k ⟨((gL q M k).ds.getD k cd).S, [], true⟩ := by
    unfold gv;rw [if_pos (mi hl)]
    rfl
   rw [e];refine ⟨?_, ih.cf, ih.left, ih.steps, fun j => ?_⟩
   ·show ((gL q M k).ds.set k _).length = _; rw [List.length_set, ih.len]
   ·show ((gL q M k).ds.set k _).getD j cd = _
    rw [tO _ _ _ _ _ hl];by_cases ej : j = k
    ·subst ej;rw [if_pos rfl, if_pos ⟨by omega, hq⟩, ih.at_ j, if_neg (fun e => by have := e.1; omega)]
    ·rw [if_neg ej, ih.at_ j];by_cases h2 : j < k /\ q j = true
     ·rw [if_pos h2, if_pos ⟨by omega, h2.2⟩]
     ·rw [if_neg h2, if_neg (fun e => h2 ⟨by have := e.1; omega, e.2⟩)]
  ·rw [if_neg hq];refine ⟨ih.len, ih.cf, ih.left, ih.steps, fun j => ?_⟩;rw [ih.at_ j];by_cases h2 : j < k /\ q j = true
   ·rw [if_pos h2, if_pos ⟨by omega, h2.2⟩]
   ·rw [if_neg h2, if_neg (fun e => h2 ⟨by
     have h3 := e.1;rcases Nat.lt_or_ge j k with h4 | h4
     ·exact h4
     ·have : j = k := by omega
      rw [this] at e;exact absurd e.2 hq, e.2⟩)]
end
def neR (N : Nat) (s : Int) : Ros := gz ⟨(N : Int), s, 40, Vector.replicate 16 0, 0, false⟩
theorem mT {N : Nat} {s : Int} (h1 : 3 <= N) (h2 : N <= 16) (h3 : 1 <= s) (h4 : s <= 64) : bn (neR N s) = true := by
 unfold neR;rw [tX];exact am ⟨by show 3 <= (N : Int); omega, by show (N : Int) <= 16; omega, h3, h4, by show (40 : Int) <= 40; omega, by show (40 : Int) <= 256; omega⟩
theorem l7 (N : Nat) (s : Int) : (neR N s).m.toNat = N := by show ((N : Int)).toNat = N; omega
theorem zP {N : Nat} {s : Int} (h1 : 3 <= N) (h2 : N <= 16) (h3 : 1 <= s) (h4 : s <= 64) (q : Nat -> Bool) (ev : Nat) : HOk 9 ev (neR N s) (gL q (cp (szK N s)) N) := by
 have hf := x9 (q := q) (M := cp (szK N s)) (k := N) (by rw [fD]; omega);refine ⟨hf.cf, hf.left, by rw [l7, hf.len, fD]; omega, mT h1 h2 h3 h4, ⟨by decide, by decide⟩, fun m hm => ?_, fun m hm hg => ?_⟩
 ·rw [l7] at hm;rw [hf.at_ m, jt hm]
  split
  ·show 2 <= (List.replicate _ aF).length; rw [List.length_replicate]; omega
  ·show 2 <= (List.replicate _ aF).length; rw [List.length_replicate]; omega
 ·rw [l7] at hm;rw [hf.at_ m, jt hm] at hg ⊢;by_cases hq : m < N /\ q m = true
  ·rw [if_pos hq] at hg; cases hg
  ·rw [if_neg hq];exact ⟨_, rfl, xa ev (by omega)⟩
theorem qz {N : Nat} {s : Int} {q : Nat -> Bool} {j : Nat} (hj : j < N) : ((gL q (cp (szK N s)) N).ds.getD j cd).g = q j := by
 have hf := x9 (q := q) (M := cp (szK N s)) (k := N) (by rw [fD]; omega);rw [hf.at_ j, jt hj];cases hq : q j
 ·rw [if_neg (fun e => by cases e.2)]
 ·rw [if_pos ⟨hj, rfl⟩]
theorem uD {N : Nat} {s : Int} {j : Nat} (hj : j < 16) : sta (neR N s) j = 0 := sC _ hj
section
variable {ρ : Operand -> Value} {o : Oper} {x y : Operand} {w : World} {a : Int}
theorem zU : (convert 3 43 (.int .i64 a)).run prog w = .ok (.int .u64 (IntKind.u64.wrap a)) w := by
 simp [convert, go_sem]
theorem xT (ho : o.op = .convert 3 43 x) (hx : ρ x = .int .i64 a) : (execOp ρ o).run prog w = .ok (.value (.int .u64 (IntKind.u64.wrap a))) w := by
 unfold execOp;simp only [ho, hx, Sem.run_bind, zU, Result.andThen_ok, Sem.run_pure]
theorem kx (ho : o.op = .convert 3 43 x) (hx : ρ x = .int .i64 a) (h : IntKind.u64.wrap a = a) : (execOp ρ o).run prog w = .ok (.value (.int .u64 a)) w := by
 have := xT (ρ := ρ) (w := w) ho hx;rwa [h] at this
end
section
variable {ρ : Operand -> Value} {o : Oper} {x y : Operand} {w : World} {a : Int}
theorem fw {t r : TypeId} {b c : Int} (ho : o.op = .binOp .rem t x y r) (hx : ρ x = .int .u8 a) (hy : ρ y = .int .u8 b) (h0 : b ≠ 0) (h : a.tmod b = c) : (execOp ρ o).run prog w = .ok (.value (.int .u8 c)) w := by
 unfold execOp;simp [ho, hx, hy, eqGuard, binOp, Op.intDiv, h, h0]
theorem aar (h : IntKind.i64.wrap a = a) : (convert 5 3 (.int .u8 a)).run prog w = .ok (.int .i64 a) w := by
 simp [convert, go_sem, h]
theorem i9 (ho : o.op = .convert 5 3 x) (hx : ρ x = .int .u8 a) (h : IntKind.i64.wrap a = a) : (execOp ρ o).run prog w = .ok (.value (.int .i64 a)) w := by
 unfold execOp;simp only [ho, hx, Sem.run_bind, aar h, Result.andThen_ok, Sem.run_pure]
end
theorem dx {a : Int} (h : -9223372036854775808 <= a /\ a <= 9223372036854775807) : IntKind.i64.wrap a = a := IntWalk.i64_in _ ⟨by omega, by omega⟩
def ie : Elt (Int × Blk) := qZ 96 129 underlying96 (by kernel_rfl)
structure dZ (w : World) (p : Nat) (vS vL : Value) (S : List Blk) (L : List (Int × Blk)) (g : Bool) : Prop where
 at_ : w.heap[p]? = some (.cells #[vS, vL, .bool g] 98)
 S_ : bF lw w 0 vS S
 L_ : bF ie w 0 vL L
section
variable {w w' : World} {p : Nat} {vS vL : Value} {S : List Blk} {L : List (Int × Blk)} {g : Bool} {F : Nat -> Prop}
theorem dZ.lt (h : dZ w p vS vL S L g) : ∀ k, foot p vS vL k -> k < w.heap.size := by
 intro k hk;rcases hk with rfl | hk | hk
 ·exact (Array.getElem?_eq_some_iff.1 h.at_).1
 ·exact h.S_.jY k hk
 ·exact h.L_.jY k hk
theorem dZ.only (h : dZ w p vS vL S L g) (k : Only F w w') (hn : ∀ b, foot p vS vL b -> ¬ F b) : dZ w' p vS vL S L g :=
 ⟨k.keep h.at_ (hn p (.inl rfl)), h.S_.only k fun b hb => hn b (.inr (.inl hb)), h.L_.only k fun b hb => hn b (.inr (.inr hb))⟩
theorem dZ.below (h : dZ w p vS vL S L g) (k : Below w.heap.size w w') : dZ w' p vS vL S L g := h.only (Only.of_below (fun _ => False) k) fun _ _ e => e
end
theorem ki (p : Nat) (vS vL : Value) (S : List Blk) (L : List (Int × Blk)) (g : Bool) (n : Int) (w : World) (h : dZ w p vS vL S L g) :
  Calls prog 43 #[.pointer (some ⟨p, 0, none⟩), .int .i64 n] w fun e w' => e = .returned (.int .i64 (cT S g n)) /\ w = w' := by
 obtain ⟨c0, c1, c2⟩ := cells3 h.at_;obtain ⟨A, c, rfl, hc1, hc2⟩ := h.S_.form;by_cases h0 : n < 0
 ·have HE := ae (nj (S := S) (n := n) g (by omega));go_enter func43, ntmps43;go_wp2;go_ret;exact ⟨bP HE.out.symm, rfl⟩
 ·by_cases h1 : n < S.length
  ·cases g
   ·have HE := ae (fR (S := S) (n := n) (by omega));go_enter func43, ntmps43;go_wp2;go_ret;exact ⟨bP HE.out.symm, rfl⟩
   ·have HE := ae (lq (S := S) (n := n) (by omega));go_enter func43, ntmps43;go_wp2;go_ret;exact ⟨bP HE.out.symm, rfl⟩
  ·have HE := ae (nj (S := S) (n := n) g (by omega));go_enter func43, ntmps43;go_wp2;go_ret;exact ⟨bP HE.out.symm, rfl⟩
theorem vv (p : Nat) (vS vL : Value) (S : List Blk) (L : List (Int × Blk)) (g : Bool) (n : Int) (w : World) (h : dZ w p vS vL S L g) (he0 : cT S g n ≠ 0) :
  Calls prog 84 #[.pointer (some ⟨p, 0, none⟩), .int .i64 n] w fun e w' => e = .returned (.tuple #[blk (eU S L g n), .int .i64 (cT S g n)]) /\ Below w.heap.size w w' := by
 have hA := (Below.refl w.heap.size w).alloc ai (.cells (cel aF).toArray 29);have h1 := h.below hA;have HT := ae (ec w aF 29);have HA := ae hA;have HS := ae (qJ (L := L) he0);clear hA;rcases eW (S := S) (g := g) (n := n) with he | he | ⟨he, _⟩
 ·have HE := ae he;clear he he0;go_enter func84, ntmps84;go_wp2_with (first | (refine av rfl (bw rfl) ?_) | fail);refine (ki p vS vL S L g n _ h1).mono ?_;rintro e w1 ⟨rfl, rfl⟩;rw [HE.out];go_wp2_with (first | (refine av rfl (cQ (c := aF) (parts := []) rfl rfl) ?_) | (refine bj rfl (bD rfl rfl rfl HT.out) ?_));refine bodyPost_ret (cI rfl _ _ _ rfl (World.rangeAt_setCells_same _ _ _ _ (by rw [aL]; exact HT))) rfl ⟨by rw [HS.out, HE.out]; rfl, below_setCells HA ai _⟩
 ·have HE := ae he;clear he he0;go_enter func84, ntmps84;go_wp2_with (first | (refine av rfl (bw rfl) ?_) | fail);refine (ki p vS vL S L g n _ h1).mono ?_;rintro e w1 ⟨rfl, rfl⟩;rw [HE.out];go_wp2_with (first | (refine av rfl (cQ (c := aF) (parts := []) rfl rfl) ?_) | (refine bj rfl (bD rfl rfl rfl HT.out) ?_));refine bodyPost_ret (cI rfl _ _ _ rfl (World.rangeAt_setCells_same _ _ _ _ (by rw [aL]; exact HT))) rfl ⟨by rw [HS.out, HE.out]; rfl, below_setCells HA ai _⟩
 ·exact absurd he he0
theorem wC (p k : Nat) (vS vL : Value) (S : List Blk) (L : List (Int × Blk)) (w : World) (h : dZ w p vS vL S L false) (hk : k < S.length) :
  Calls prog 84 #[.pointer (some ⟨p, 0, none⟩), .int .i64 k] w fun e w' => e = .returned (.tuple #[blk (eU S L false k), .int .i64 0]) /\ Below w.heap.size w w' := by
 have hA := (Below.refl w.heap.size w).alloc ai (.cells (cel aF).toArray 29);have h1 := h.below hA;have he : cT S false k = 0 := fR (by omega);have HE := ae he;have HS := ae (kQ (L := L) he);have HN1 := l9 w (cel aF).toArray 29;clear he;obtain ⟨A, c, rfl, hrd, hc1, hc2⟩ := h1.S_.open_ rfl;obtain ⟨b, off, rfl, hb, hr⟩ := hrd.blk hk;obtain ⟨c0, c1, c2⟩ := cells3 h1.at_;generalize S.getD k aF = x at *;have HR := ae hr;have HH := ae h1;have HA := ae hA;have HN := ae HN1;have HSZ := ae (World.size_alloc w (.cells (cel aF).toArray 29));clear hr hrd h1 hA h HN1;go_enter func84, ntmps84;go_wp2_with (first | (refine av rfl (bw rfl) ?_) | fail);generalize w.alloc (.cells (cel aF).toArray 29) = w1 at *;refine (ki p _ vL S L false k _ HH).mono ?_;rintro e w2 ⟨rfl, rfl⟩;rw [HE.out];go_wp2_with (first | (refine av rfl (bf rfl rfl HR.out) ?_) | (refine av rfl (bw rfl) ?_) | (refine bj rfl (fY rfl rfl rfl) ?_) | fail);have HY := ae (l9 w1 (cel x).toArray 29);have HH2 := ae (HH.out.below (aj.alloc ai (.cells (cel x).toArray 29)));have HK2 := ae (bO HN (.cells (cel x).toArray 29));have HA2 := ae (HA.out.alloc HA.out.size (.cells (cel x).toArray 29));have HF := ae HH.out.lt;have hyw : w.heap.size < w1.heap.size := by rw [HSZ.out]; omega
 have HSZ2 := ae (World.size_alloc w1 (.cells (cel x).toArray 29));clear HH HN HA c0 c1 c2 HR;generalize hy : w1.heap.size = y at *;generalize w1.alloc (.cells (cel x).toArray 29) = w2 at *;clear hy;go_wp2_with fail
 go_loopw [8] (fun i wr => ∃ j : Nat, j <= L.length /\ i = .int .i64 j /\ Only (fun b => b = y) w2 wr /\ wr.heap[y]? = some (.cells (cel (jl (L.take j) k x)).toArray 29)) (fun i _ => L.length - (intOf i).toNat)
 case atStart => exact ⟨0, Nat.zero_le _, rfl, Only.refl _ _, HY⟩
 case round =>
  obtain ⟨j, hj, rfl, hon, hY⟩ := hrel;have hH := HH2.out.only hon (fun b hb e => by have := HF.out b hb; omega);obtain ⟨c0, c1, c2⟩ := cells3 hH.at_;obtain ⟨AL, cL, rfl, hrd, hl1, hl2⟩ := hH.L_.open_ rfl;unfold maxLen at hl2;have HON := ae hon;have HYW := ae hY;clear hon hY hH;by_cases hlt : j < L.length
  ·have HNX := ae (j7 (L := L) (k : Int) x hlt);obtain ⟨bA, oA, rfl, hA, cA, rA⟩ := hrd.pair hlt;generalize L.getD j (0, aF) = q at *;obtain ⟨qn, qb⟩ := q;have HRA := ae rA;have HTY := ae (eF HYW);clear rA hrd;have hAw : bA ≠ y := by have := HF.out bA (.inr (.inr rfl)); omega
   have hLL : (j : Int) < (L.length : Int) := by omega
   by_cases e : qn = (k : Int)
   ·simp only [e, if_true] at HNX;subst e;go_wp2_with (first | (refine av rfl (bf rfl rfl HRA.out) ?_) | (refine bj rfl (bD rfl rfl rfl HTY.out) ?_));go_roundw
    case rel => exact ⟨j + 1, by omega, by go_num, HON.out.setCells (.inl rfl) _ _, by rw [HNX.out]; exact q8 HYW⟩
    case measure => simp [intOf]; omega
   ·rw [if_neg e] at HNX;go_wp2_with (first | (refine av rfl (bf rfl rfl HRA.out) ?_) | (refine bj rfl (bD rfl rfl rfl HTY.out) ?_));go_roundw
    case rel => exact ⟨j + 1, by omega, by go_num, HON, by rw [HNX.out]; exact HYW⟩
    case measure => simp [intOf]; omega
  ·have hjn : j = L.length := by omega
   subst hjn;have HR := ae (HON.out.keep HK2 (by omega));have HTR := ae (eF HR);have HRY := ae (ib HYW);rw [List.take_length] at HRY;generalize jl L (k : Int) x = z at *;have hLL : ¬((L.length : Int) < (L.length : Int)) := by omega
   go_wp2_with (first | (refine av rfl (bf rfl rfl HRY.out) ?_) | (refine bj rfl (bD rfl rfl rfl HTR.out) ?_));refine bodyPost_ret (cI rfl _ _ _ rfl (World.rangeAt_setCells_same _ _ _ _ (by rw [aL]; exact HTR))) rfl ⟨by rw [HS.out]; rfl, ?_⟩;exact below_setCells (HA2.out.trans (HON.out.below (fun b hb => by omega) (by rw [HSZ2.out]; omega))) ai _
theorem acJ (p : Nat) (vS vL : Value) (S : List Blk) (L : List (Int × Blk)) (g : Bool) (n : Int) (w : World) (h : dZ w p vS vL S L g) :
  Calls prog 84 #[.pointer (some ⟨p, 0, none⟩), .int .i64 n] w fun e w' => e = .returned (.tuple #[blk (eU S L g n), .int .i64 (cT S g n)]) /\ Below w.heap.size w w' := by
 by_cases he : cT S g n = 0
 ·rcases eW (S := S) (g := g) (n := n) with h1 | h1 | ⟨_, rfl, k, rfl, hk⟩
  ·omega
  ·omega
  ·rw [he]; exact wC p k vS vL S L w h hk
 ·exact vv p vS vL S L g n w h he
section
variable {w w' : World} {p : Nat} {vS vL : Value} {S : List Blk} {L : List (Int × Blk)} {g : Bool}
theorem dZ.adY (h : dZ w p vS vL S L g) (g' : Bool) : dZ (w.setCell ⟨p, 2, none⟩ (.bool g')) p vS vL S L g' := by
 have hO := dt w p 2 (.bool g');refine ⟨?_, h.S_.only hO fun b hb e => h.S_.dH h.at_ (by decide) (by rw [hb, e]), h.L_.only hO fun b hb e => h.L_.dH h.at_ (by decide) (by rw [hb, e])⟩;have := heap_setCell_same w p 2 _ _ (.bool g') h.at_
 simpa using this
theorem dZ.nh (h : dZ w p vS vL S L g) {vL' : Value} {L' : List (Int × Blk)} (h' : bF ie w 0 vL' L') : dZ (w.setCell ⟨p, 1, none⟩ vL') p vS vL' S L' g := by
 have hO := dt w p 1 vL';refine ⟨?_, h.S_.only hO fun b hb e => h.S_.dH h.at_ (by decide) (by rw [hb, e]), h'.only hO fun b hb e => h'.dH h.at_ (by decide) (by rw [hb, e])⟩;have := heap_setCell_same w p 1 _ _ vL' h.at_
 simpa using this
theorem adM (hp : w.heap[p]? = some (.cells #[vS, vL, .bool g] 98)) (hS : bF lw w 0 vS S) {vL' : Value} {L' : List (Int × Blk)} (h' : bF ie w 0 vL' L') : dZ (w.setCell ⟨p, 1, none⟩ vL') p vS vL' S L' g := by
 have hO := dt w p 1 vL';refine ⟨?_, hS.only hO fun b hb e => hS.dH hp (by decide) (by rw [hb, e]), h'.only hO fun b hb e => h'.dH hp (by decide) (by rw [hb, e])⟩;have := heap_setCell_same w p 1 _ _ vL' hp
 simpa using this
theorem ad7 {b : Nat} : (Instr.fieldAt 98 (.pointer (some ⟨b, 0, none⟩)) 0).run prog w = .ok (.pointer (some ⟨b, 0, none⟩)) w := by kernel_rfl
theorem aaE {b : Nat} : (Instr.fieldAt 98 (.pointer (some ⟨b, 0, none⟩)) 1).run prog w = .ok (.pointer (some ⟨b, 1, none⟩)) w := by kernel_rfl
theorem acQ {a : Addr} {A : Option Addr} {n c : Nat} (h : w.cell? a = some (.slice A n c)) : (Instr.loadAt 96 (.pointer (some a))).run prog w = .ok (.slice A n c) w := by simp [go_sem, h]
theorem stS {a : Addr} {v : Value} {A : Option Addr} {n c : Nat} (h : w.cell? a = some v) (hf : w.frozen? a = false) : (Instr.storeAt 96 (.pointer (some a)) (.slice A n c)).run prog w = .ok () (w.setCell a (.slice A n c)) := by simp [go_sem, h, hf]
theorem tj (k : Int) (b : Blk) : (Instr.build 129 #[(0, .int .i64 k), (1, blk b)]).run prog w = .ok (gD k b) w := by
 have hz := jG ie w;have h1 := da (place := fun i => (#[(0, 1), (1, 64)] : Array (Nat × Nat))[i]?) (i := 0) (off := 0) (size := 1) (v := .int .i64 k) (pre := []) (mid := [.int .i64 0]) (post := cel aF) (vs := [.int .i64 k]) (rest := [(1, blk b)]) rfl rfl rfl rfl rfl;have h2 := da (place := fun i => (#[(0, 1), (1, 64)] : Array (Nat × Nat))[i]?) (i := 1) (off := 1) (size := 64) (v := blk b) (pre := [.int .i64 k]) (mid := cel aF) (post := []) (vs := cel b) (rest := []) rfl rfl (aL b) rfl (aL aF);simp only [List.nil_append, List.append_nil, List.singleton_append] at h1 h2;have h3 := h1.trans h2;have hz' : (zeroValue 129).run prog w = .ok (gD 0 aF) w := hz;have hc : (gD 0 aF).cells = (.int .i64 0 :: cel aF).toArray := rfl;simp only [Instr.build, Sem.run_bind, hz', run_underlying underlying129, Result.andThen_ok, hc];refine Eq.trans (congrArg (fun r => Result.andThen r _) (?h : _ = Result.ok #[(0, 1), (1, 64)] w)) ?_
 case h => kernel_rfl
 simp only [Result.andThen_ok];have h4 : Instr.fill (fun i => (#[(0, 1), (1, 64)] : Array (Nat × Nat))[i]?) (.int .i64 k :: cel b).toArray [] = some (.int .i64 k :: cel b).toArray := by rw [Instr.fill]
 rw [h3.trans h4]
 rfl
theorem p9 {ρ : Operand -> Value} {o : Oper} {x y : Operand} {k : Int} {b : Blk} (ho : o.op = .build 129 #[(0, x), (1, y)]) (hx : ρ x = .int .i64 k) (hy : ρ y = blk b) : (execOp ρ o).run prog w = .ok (.value (gD k b)) w := by
 have h := tj (w := w) k b;unfold execOp;simp only [ho, List.map_toArray, List.map_cons, List.map_nil, hx, hy, Sem.run_bind, h, Result.andThen_ok, Sem.run_pure]
theorem pair_cells (k : Int) (b : Blk) : (gD k b).cells = (ie.cel (k, b)).toArray := rfl
end
theorem abL (p : Nat) (vS vL : Value) (S : List Blk) (L : List (Int × Blk)) (g : Bool) (w : World) (h : dZ w p vS vL S L g) :
  Calls prog 49 #[.pointer (some ⟨p, 0, none⟩)] w fun e w' => (∃ v, e = .returned v) /\ dZ w' p vS (.slice none 0 0) S [] true /\ Only (foot p vS vL) w w' := by
 obtain ⟨c0, c1, c2⟩ := cells3 h.at_;have f1 := frozen_of_row w p 1 _ _ h.at_;have f2 := frozen_of_row w p 2 _ _ h.at_;have H := ae h;clear h;go_enter func49, ntmps49;go_wp2;refine bodyPost_end (results_none rfl _ _ _) rfl ⟨⟨_, rfl⟩, (H.out.adY true).nh (bF.nil _ _), ?_⟩;exact ((dt w p 2 _).trans (dt _ p 1 _) fun b hb => .inl hb).widen fun b hb => .inl hb
theorem tc (p : Nat) (vS vL : Value) (S : List Blk) (L : List (Int × Blk)) (g : Bool) (n : Int) (b : Blk) (w : World) (h : dZ w p vS vL S L g) (he0 : cT S g n ≠ 0) :
  Calls prog 45 #[.pointer (some ⟨p, 0, none⟩), .int .i64 n, blk b] w fun e w' => e = .returned (.int .i64 (cT S g n)) /\ Below w.heap.size w w' := by
 have hA := (Below.refl w.heap.size w).alloc ai (.cells (cel b).toArray 29);have h1 := h.below hA;have HA := ae hA;clear hA;have H0 := ae he0;rcases eW (S := S) (g := g) (n := n) with he | he | ⟨he, _⟩
 ·have HE := ae he;clear he he0;go_enter func45, ntmps45;go_wp2_with (first | (refine av rfl (bZ rfl rfl) ?_) | fail);refine (ki p vS vL S L g n _ h1).mono ?_;rintro e w1 ⟨rfl, rfl⟩;rw [HE.out];go_wp2_with fail;go_ret;exact ⟨bP HE.out.symm, HA⟩
 ·have HE := ae he;clear he he0;go_enter func45, ntmps45;go_wp2_with (first | (refine av rfl (bZ rfl rfl) ?_) | fail);refine (ki p vS vL S L g n _ h1).mono ?_;rintro e w1 ⟨rfl, rfl⟩;rw [HE.out];go_wp2_with fail;go_ret;exact ⟨bP HE.out.symm, HA⟩
 ·exact absurd he he0
theorem tQ (p k : Nat) (vS vL : Value) (S : List Blk) (L : List (Int × Blk)) (b : Blk) (w : World) (h : dZ w p vS vL S L false) (hk : k < S.length) (hL : L.length < 1000000) :
  Calls prog 45 #[.pointer (some ⟨p, 0, none⟩), .int .i64 k, blk b] w fun e w' => e = .returned (.int .i64 0) /\ ∃ vL', dZ w' p vS vL' S (L ++ [((k : Int), b)]) false /\ Only (foot p vS vL) w w' /\ (∀ x, vL'.ownBlock = some x -> vL.ownBlock = some x \/ w.heap.size <= x) := by
 have hA := (Below.refl w.heap.size w).alloc ai (.cells (cel b).toArray 29);have h1 := h.below hA;have HA := ae hA;have HE := ae (fR (S := S) (n := (k : Int)) (by omega));have HB := ae (l9 w (cel b).toArray 29);clear hA;obtain ⟨AL, cL, rfl, hl1, hl2⟩ := h1.L_.form;go_enter func45, ntmps45;go_wp2_with (first | (refine av rfl (bZ rfl rfl) ?_) | fail);refine (ki p vS _ S L false k _ h1).mono ?_;rintro e w1 ⟨rfl, rfl⟩;rw [HE.out];go_wp2_with fail;generalize hy : w.heap.size = y at *;generalize w.alloc (.cells (cel b).toArray 29) = w1 at *;refine iZ (fun w' => w'.heap[p]? = some (.cells #[vS, .slice AL L.length cL, .bool false] 98) /\ w'.heap[y]? = some (.cells (cel b).toArray 29)) 12 (by kernel_rfl) ?_;change eO _ _ _ _ _ _ 13 _ _ w1.drew;have hS : w1.drew.heap[p]? = some (.cells #[vS, .slice AL L.length cL, .bool false] 98) /\ w1.drew.heap[y]? = some (.cells (cel b).toArray 29) := ⟨h1.at_, HB⟩;refine aet 0 rfl (fun _ hw => aJ rfl aez) hS ?_;refine aet 1 rfl (fun _ hw => aJ rfl aez) hS ?_;refine aet 2 rfl (fun _ hw => cE rfl aez) hS ?_;refine aet 3 rfl (fun _ hw => ax rfl aez aaE) hS ?_;refine aet 4 rfl (fun _ hw => aE rfl aez (acQ (cells3 hw.1).2.1)) hS ?_;refine aet 5 rfl (fun _ hw => aJ rfl aez) hS ?_;refine aet 6 rfl (fun _ hw => bf rfl aez (ib hw.2)) hS ?_;refine aet 7 rfl (fun _ hw => p9 rfl aez aez) hS ?_;have hr : dZ w1.drew p vS (.slice AL L.length cL) S L false := ⟨h1.at_, h1.S_, h1.L_⟩;have hS2 : dZ (w1.drew.alloc (.cells (ie.cel ((k : Int), b)).toArray ie.t)) p vS (.slice AL L.length cL) S L false := hr.below (aj.alloc ai _);have hb2 := bO hS.2 (.cells (ie.cel ((k : Int), b)).toArray ie.t);have hnew : RdE ie _ _ _ 1 _ := iJ (E := ie) (l := [((k : Int), b)]) w1.drew (ie.cel ((k : Int), b)).toArray ie.t (by rw [ex]; simp [cF]);obtain ⟨v3, w3, hrun, hm3, hg3, ho3⟩ := iE ie _ 96 0 _ 1 1 _ _ _ _ hS2.L_ hnew (Nat.zero_le _) (by omega);have hO2 : Only (foot p vS (.slice AL L.length cL)) w (w1.drew.alloc (.cells (ie.cel ((k : Int), b)).toArray ie.t)) := (Only.of_below _ (hy ▸ HA.out)).drew.alloc _;have hO3 := hO2.grown hg3 (fun x hx => .inl (.inr (.inr hx)));have hp3 : w3.heap[p]? = some (.cells #[vS, .slice AL L.length cL, .bool false] 98) := (hg3.block p (aY hS2.at_) (fun e => hS2.L_.dH hS2.at_ (by decide) e.symm)).trans hS2.at_;have hy3 : w3.heap[y]? = some (.cells (cel b).toArray 29) := (hg3.block y (aY hb2) (fun e => hS2.L_.dH hb2 (by decide) e.symm)).trans hb2;have hSS3 := hS2.S_.kept hg3 (hS2.S_.other hS2.L_ (by decide));refine fh 8 rfl (by kernel_rfl) rfl (ft (E := ie) (a := ((k : Int), b)) rfl aez (pair_cells _ _) (by decide)) (fun _ => ⟨hS2.at_, hb2⟩) ?_;simp only [aa];refine fh 9 rfl (by kernel_rfl) rfl (jK (E := ie) rfl aez aez hrun) (fun _ => ⟨hp3, hy3⟩) ?_;simp only [aa];refine fh 10 rfl (by kernel_rfl) rfl (cE rfl aez) (fun _ => ⟨hp3, hy3⟩) ?_;simp only [aa];refine fh 11 rfl (by kernel_rfl) rfl (ax rfl aez aaE) (fun _ => ⟨hp3, hy3⟩) ?_;simp only [aa];obtain ⟨A3, c3, rfl, _, _⟩ := hm3.form;refine qq 12 rfl (by kernel_rfl) rfl (gB rfl (ev rfl) (ev rfl) (stS (cells3 hp3).2.1 (frozen_of_row _ _ _ _ _ hp3))) (fun e => absurd rfl e) ?_;simp only [Act.put];refine lY (by kernel_rfl) ?_ _;go_wp2_with fail;go_ret;refine ⟨rfl, _, adM hp3 hSS3 hm3, hO3.setCell (.inl (.inl rfl)) _, fun x hx => ?_⟩;rcases ho3 x hx with e | e
 ·exact .inl e
 ·refine .inr (ap ?_ e);have := hO2.size;omega
theorem aa8 (p : Nat) (vS vL : Value) (S : List Blk) (L : List (Int × Blk)) (g : Bool) (n : Int) (b : Blk) (w : World) (h : dZ w p vS vL S L g) (hL : L.length < 1000000) :
  Calls prog 45 #[.pointer (some ⟨p, 0, none⟩), .int .i64 n, blk b] w fun e w' => e = .returned (.int .i64 (cT S g n)) /\ ∃ vL', dZ w' p vS vL' S (wrL S L g n b) g /\ Only (foot p vS vL) w w' /\ (∀ x, vL'.ownBlock = some x -> vL.ownBlock = some x \/ w.heap.size <= x) := by
 by_cases he : cT S g n = 0
 ·rcases eW (S := S) (g := g) (n := n) with h1 | h1 | ⟨_, rfl, k, rfl, hk⟩
  ·omega
  ·omega
  ·have e : wrL S L false k b = L ++ [((k : Int), b)] := by unfold wrL; rw [if_pos he]
   rw [e, he];exact tQ p k vS vL S L b w h hk hL
 ·have e : wrL S L g n b = L := by unfold wrL; rw [if_neg he]
  rw [e];exact (tc p vS vL S L g n b w h he).mono fun e w' ⟨h1, h2⟩ => ⟨h1, vL, h.below h2, Only.of_below _ h2, fun x hx => .inl hx⟩
section
variable {w : World} {p b off gg n c k : Nat} {vL : Value} {S : List Blk} {L : List (Int × Blk)} {g : Bool}
theorem ad3 : (Instr.fieldAt 129 (.pointer (some ⟨b, off, none⟩)) 0).run prog w = .ok (.pointer (some ⟨b, off, none⟩)) w := by kernel_rfl
theorem aeh : (Instr.fieldAt 129 (.pointer (some ⟨b, off, none⟩)) 1).run prog w = .ok (.pointer (some ⟨b, off + 1, none⟩)) w := by kernel_rfl
theorem dZ.eN (h : dZ w p (.slice (some ⟨gg, 0, none⟩) n c) vL S L g) (hk : k < n) (x : Blk) : dZ (w.setCells gg (k * 64) (cel x)) p (.slice (some ⟨gg, 0, none⟩) n c) vL (S.set k x) L g := by
 have hO : Only (fun b => b = gg) w (w.setCells gg (k * 64) (cel x)) := (Only.refl (fun b => b = gg) w).setCells (.inl rfl) _ _;refine ⟨hO.keep h.at_ (fun e => h.S_.dH h.at_ (by decide) (by rw [e]; rfl)), h.S_.store hk x, h.L_.only hO fun b hb e => ?_⟩;rcases h.L_.other h.S_ (by decide) with e' | e'
 ·rw [e'] at hb; cases hb
 ·exact e' (by rw [hb, e]; rfl)
end
theorem o5 (p : Nat) (vS vL : Value) (S : List Blk) (L : List (Int × Blk)) (w : World) (h : dZ w p vS vL S L true) :
  Calls prog 53 #[.pointer (some ⟨p, 0, none⟩)] w fun e w' => e = .returned (.int .i64 9) /\ w = w' := by
 obtain ⟨c0, c1, c2⟩ := cells3 h.at_;go_enter func53, ntmps53;go_wp2;go_ret;exact ⟨rfl, rfl⟩
theorem tn (p : Nat) (vS vL : Value) (S : List Blk) (L : List (Int × Blk)) (w : World) (h : dZ w p vS vL S L false) (hF : Fit S L) :
  Calls prog 53 #[.pointer (some ⟨p, 0, none⟩)] w fun e w' => e = .returned (.int .i64 0) /\ dZ w' p vS (.slice none 0 0) (flS S L) [] false /\ Only (foot p vS vL) w w' := by
 obtain ⟨c0, c1, c2⟩ := cells3 h.at_;obtain ⟨AL, cL, rfl, hl1, hl2⟩ := h.L_.form;unfold maxLen at hl2;have HH := ae h;have HF := ae hF;clear h hF;go_enter func53, ntmps53;go_wp2;clear c0 c1 c2
 go_loopw [3] (fun i wr => ∃ j : Nat, j <= L.length /\ i = .int .i64 j /\ dZ wr p vS (.slice AL L.length cL) (flS S (L.take j)) L false /\ Only (foot p vS (.slice AL L.length cL)) w wr) (fun i _ => L.length - (intOf i).toNat)
 case atStart => exact ⟨0, Nat.zero_le _, rfl, HH, Only.refl _ _⟩
 case round =>
  obtain ⟨j, hj, rfl, hr, hon⟩ := hrel;obtain ⟨c0, c1, c2⟩ := cells3 hr.at_;by_cases hlt : j < L.length
  ·obtain ⟨k, hqk, hk⟩ := HF.out.at_ hlt;have hlenS := mw S (L.take j);obtain ⟨gS, cS, rfl⟩ := hr.S_.slice hlenS (by omega);obtain ⟨bA, oA, hAe, hAl, cA, rA⟩ := hr.L_.rd.pair hlt;have HS := ae (rN (S := S) hlt);rw [hqk] at cA HS;generalize (L.getD j (0, aF)).2 = x at *;have HRA := ae rA;have HA := ae (⟨c0, c1⟩ : _ /\ _);have HRr := ae hr;have HON := ae hon;subst hAe;have HKT := ae (show wr.there gS (k * 64) 64 from by
    have := HRr.out.S_.there hk (j := 0) (m := 64) ai;rw [Nat.add_zero] at this;exact this)
   clear hr hon rA hqk hlenS;have hLL : (j : Int) < (L.length : Int) := by omega
   go_wp2_with fail;refine wp_region_still_tail 21 (by kernel_rfl) (by kernel_rfl) ?_;simp only [ac];refine aM rfl (aJ rfl aez) ?_;simp only [aa];refine aM rfl (cE rfl aez) ?_;simp only [aa];refine aM rfl (ax rfl aez ad7) ?_;simp only [aa];refine aM rfl (aE rfl aez (ldB HA.out.1)) ?_;simp only [aa];refine aM rfl (aJ rfl aez) ?_;simp only [aa];refine aM rfl (cE rfl aez) ?_;simp only [aa];refine aM rfl (ax rfl aez aaE) ?_;simp only [aa];refine aM rfl (aE rfl aez (acQ HA.out.2)) ?_;simp only [aa];refine aM rfl (aJ rfl aez) ?_;simp only [aa];refine aM rfl (cK (E := ie) rfl aez aez hlt) ?_;simp only [aa];refine aM rfl (ax rfl aez ad3) ?_;simp only [aa];refine aM rfl (aE rfl aez (ldI cA)) ?_;simp only [aa];refine aM rfl (aJ rfl aez) ?_;simp only [aa];refine aM rfl (cE rfl aez) ?_;simp only [aa];refine aM rfl (ax rfl aez aaE) ?_;simp only [aa];refine aM rfl (aE rfl aez (acQ HA.out.2)) ?_;simp only [aa];refine aM rfl (aJ rfl aez) ?_;simp only [aa];refine aM rfl (cK (E := ie) rfl aez aez hlt) ?_;simp only [aa];refine aM rfl (ax rfl aez aeh) ?_;simp only [aa];refine aM rfl (bf rfl aez HRA) ?_;simp only [aa];refine aM rfl (ja (E := lw) rfl aez aez hk) ?_;simp only [aa];refine wpStill_nil ?_;change wpList _ _ _ _ _ wr.drew;go_wp2_with (first | (refine bj rfl (bD rfl rfl rfl HKT.out) ?_));go_roundw
   case rel =>
    have hd : dZ wr.drew p (.slice (some ⟨gS, 0, none⟩) S.length cS) (.slice (some ⟨bA, oA, none⟩) L.length cL) (flS S (L.take j)) L false := ⟨HRr.out.at_, HRr.out.S_, HRr.out.L_⟩;exact ⟨j + 1, by omega, by go_num, by rw [HS.out]; exact hd.eN hk x, HON.out.drew.setCells (.inl (.inr (.inl rfl))) _ _⟩
   case measure => simp [intOf]; omega
  ·have hjn : j = L.length := by omega
   subst hjn;have f1 := frozen_of_row wr p 1 _ _ hr.at_;have HRr := ae hr;have HON := ae hon;clear hr hon;have hLL : ¬((L.length : Int) < (L.length : Int)) := by omega
   go_wp2;go_ret;have hd := HRr.out.nh (bF.nil _ _);rw [List.take_length] at hd;exact ⟨rfl, hd, HON.out.setCell (.inl (.inl rfl)) _⟩
theorem y8 (k : Nat) (w : World) (h1 : 1 <= k) (h2 : k <= 512) :
  Calls prog 73 #[.int .i64 k] w fun e w' => ∃ p vS, e = .returned (.tuple #[.pointer (some ⟨p, 0, none⟩), .int .i64 0]) /\ dZ w' p vS (.slice none 0 0) (List.replicate k aF) [] false /\ Below w.heap.size w w' /\ ∀ b, foot p vS (.slice none 0 0) b -> w.heap.size <= b := by
 go_enter func73, ntmps73;have HM := ae (heap_alloc_new w (.cells (madeCells (cel aF).toArray (k * 64)) 29));have HB := ae ((Below.refl w.heap.size w).alloc ai (.cells (madeCells (cel aF).toArray (k * 64)) 29));have HSZ := ae (World.size_alloc w (.cells (madeCells (cel aF).toArray (k * 64)) 29));go_wp2_with (first | (refine av rfl (n8 (n := k) rfl rfl rfl (by omega)) ?_));generalize w.alloc (.cells (madeCells (cel aF).toArray (k * 64)) 29) = w1 at *;go_ret2;have hS : bF lw w1 0 (.slice (some ⟨w.heap.size, 0, none⟩) k k) (List.replicate k aF) := bF.of_block (E := lw) HM (by rw [<- nP]; rfl) (Nat.zero_le _) (by simp) (by unfold maxLen; omega);have hnw := heap_alloc_new w1 (.cells #[.slice (some ⟨w.heap.size, 0, none⟩) k k, .slice none 0 0, .bool false] 98);rw [HSZ.out] at hnw;refine ⟨w.heap.size + 1, _, rfl, ⟨hnw, hS.below (aj.alloc ai _), bF.nil _ _⟩, HB.out.alloc HB.out.size _, fun b hb => ?_⟩;rcases hb with rfl | hb | hb
 ·omega
 ·simp [Value.ownBlock] at hb; omega
 ·simp [Value.ownBlock] at hb
theorem xI (n : Int) (w : World) (h : ¬(1 <= n /\ n <= 512)) :
  Calls prog 73 #[.int .i64 n] w fun e w' => e = .returned (.tuple #[.pointer none, .int .i64 2]) /\ w = w' := by
 have hor : n < 1 \/ (1 <= n /\ 512 < n) := by omega
 clear h;rcases hor with h | ⟨h, h'⟩
 all_goals
  go_enter func73, ntmps73;go_wp2;go_ret2;exact ⟨rfl, rfl⟩
def Rv (w : World) (F : Nat -> Prop) (p : Nat) (S : List Blk) (L : List (Int × Blk)) (g : Bool) : Prop := ∃ vS vL, F = foot p vS vL /\ dZ w p vS vL S L g /\ Fit S L
section
variable {w w' : World} {F G : Nat -> Prop} {p : Nat} {S : List Blk} {L : List (Int × Blk)} {g : Bool}
theorem Rv.lt (h : Rv w F p S L g) : ∀ b, F b -> b < w.heap.size := by
 obtain ⟨vS, vL, rfl, h, _⟩ := h;exact h.lt
theorem Rv.only (h : Rv w F p S L g) (k : Only G w w') (hn : ∀ b, F b -> ¬ G b) : Rv w' F p S L g := by
 obtain ⟨vS, vL, rfl, h, hF⟩ := h;exact ⟨vS, vL, rfl, h.only k hn, hF⟩
end
section
variable {w : World} {F : Nat -> Prop} {p : Nat} {S : List Blk} {L : List (Int × Blk)} {g : Bool}
theorem aaR (n : Int) (h : Rv w F p S L g) : Calls prog 84 #[.pointer (some ⟨p, 0, none⟩), .int .i64 n] w fun e w' => e = .returned (.tuple #[blk (eU S L g n), .int .i64 (cT S g n)]) /\ Below w.heap.size w w' := by
 obtain ⟨vS, vL, rfl, h, _⟩ := h;exact acJ p vS vL S L g n w h
theorem x8 (n : Int) (b : Blk) (hL : L.length < 1000000) (h : Rv w F p S L g) : Calls prog 45 #[.pointer (some ⟨p, 0, none⟩), .int .i64 n, blk b] w fun e w' => e = .returned (.int .i64 (cT S g n)) /\ ∃ F', Rv w' F' p S (wrL S L g n b) g /\ Only F w w' /\ Grow w F F' := by
 obtain ⟨vS, vL, rfl, h, hF⟩ := h;refine (aa8 p vS vL S L g n b w h hL).mono ?_;rintro e w' ⟨he, vL', h1, h2, h3⟩;refine ⟨he, _, ⟨vS, vL', rfl, h1, hF.wr g n b⟩, h2, fun k hk => ?_⟩;rcases hk with e | e | e
 ·exact .inl (.inl e)
 ·exact .inl (.inr (.inl e))
 ·rcases h3 k e with e | e
  ·exact .inl (.inr (.inr e))
  ·exact .inr e
theorem zg (h : Rv w F p S L g) : Calls prog 53 #[.pointer (some ⟨p, 0, none⟩)] w fun e w' => e = .returned (.int .i64 (if g = true then 9 else 0)) /\ ∃ F', Rv w' F' p (if g = true then S else flS S L) (if g = true then L else []) g /\ Only F w w' /\ Grow w F F' := by
 obtain ⟨vS, vL, rfl, h, hF⟩ := h;cases g
 ·refine (tn p vS vL S L w h hF).mono ?_;rintro e w' ⟨he, h1, h2⟩;refine ⟨he, _, ⟨vS, _, rfl, h1, Fit.nil _⟩, h2, fun k hk => ?_⟩;rcases hk with e | e | e
  ·exact .inl (.inl e)
  ·exact .inl (.inr (.inl e))
  ·simp [Value.ownBlock] at e
 ·refine (o5 p vS vL S L w h).mono ?_;rintro e w' ⟨he, rfl⟩;exact ⟨he, _, ⟨vS, vL, rfl, h, hF⟩, Only.refl _ _, Grow.same _ _⟩
theorem aai (h : Rv w F p S L g) : Calls prog 49 #[.pointer (some ⟨p, 0, none⟩)] w fun e w' => (∃ v, e = .returned v) /\ ∃ F', Rv w' F' p S [] true /\ Only F w w' /\ Grow w F F' := by
 obtain ⟨vS, vL, rfl, h, hF⟩ := h;refine (abL p vS vL S L g w h).mono ?_;rintro e w' ⟨he, h1, h2⟩;refine ⟨he, _, ⟨vS, _, rfl, h1, Fit.nil _⟩, h2, fun k hk => ?_⟩;rcases hk with e | e | e
 ·exact .inl (.inl e)
 ·exact .inl (.inr (.inl e))
 ·simp [Value.ownBlock] at e
theorem abV (k : Nat) (w : World) (h1 : 1 <= k) (h2 : k <= 512) : Calls prog 73 #[.int .i64 k] w fun e w' => ∃ p F, e = .returned (.tuple #[.pointer (some ⟨p, 0, none⟩), .int .i64 0]) /\ Rv w' F p (List.replicate k aF) [] false /\ Below w.heap.size w w' /\ ∀ b, F b -> w.heap.size <= b := by
 refine (y8 k w h1 h2).mono ?_;rintro e w' ⟨p, vS, he, hr, hb, hf⟩;exact ⟨p, _, he, ⟨vS, _, rfl, hr, Fit.nil _⟩, hb, hf⟩
end
def cM : fM where
 K := ⟨Rv, Rv.lt, Rv.only⟩
 s := 91
 t := 90
 und := underlying91
 info := by kernel_rfl
 o := 93
 cs := fun v left cf steps => #[v, .int .i64 left, .bool cf, .int .i64 steps]
 ne := by decide
theorem pr {w : World} {b : Nat} {t : TypeId} {x y z u : Value} (h : w.heap[b]? = some (.cells #[x, y, z, u] t (0, 0))) : w.cell? ⟨b, 0, none⟩ = some x /\ w.cell? ⟨b, 1, none⟩ = some y /\ w.cell? ⟨b, 2, none⟩ = some z /\ w.cell? ⟨b, 3, none⟩ = some u := by
 refine ⟨?_, ?_, ?_, ?_⟩
 ·rw [cell_of_row w b 0 _ t (0, 0) h]; rfl
 ·rw [cell_of_row w b 1 _ t (0, 0) h]; rfl
 ·rw [cell_of_row w b 2 _ t (0, 0) h]; rfl
 ·rw [cell_of_row w b 3 _ t (0, 0) h]; rfl
theorem uJ {w : World} {F : Nat -> Prop} {p : Nat} {S : List Blk} {L : List (Int × Blk)} {g : Bool} (n : Int) (h : Rv w F p S L g) : Calls prog 43 #[.pointer (some ⟨p, 0, none⟩), .int .i64 n] w fun e w' => e = .returned (.int .i64 (cT S g n)) /\ w = w' := by
 obtain ⟨vS, vL, rfl, h, _⟩ := h;exact ki p vS vL S L g n w h
theorem m0 {w : World} {F : Nat -> Prop} {p : Nat} {S : List Blk} {L : List (Int × Blk)} {g : Bool} (h : Rv w F p S L g) : ∃ A c, w.cell? ⟨p, 0, none⟩ = some (.slice A S.length c) /\ w.cell? ⟨p, 2, none⟩ = some (.bool g) := by
 obtain ⟨vS, vL, rfl, h, _⟩ := h;obtain ⟨c0, c1, c2⟩ := cells3 h.at_;obtain ⟨A, c, rfl, _, _⟩ := h.S_.form;exact ⟨A, c, c0, c2⟩
section
variable {w w' : World} {p : Nat} {v : Value} {Fs : Nat -> Nat -> Prop} {ps : List Nat} {M : aR}
theorem bL.eQ (h : bL cM w p v Fs ps M) : w.cell? ⟨p, 0, none⟩ = some v /\ w.cell? ⟨p, 1, none⟩ = some (.int .i64 M.left) /\ w.cell? ⟨p, 2, none⟩ = some (.bool M.cf) /\ w.cell? ⟨p, 3, none⟩ = some (.int .i64 M.steps) := pr h.at_
theorem wI (h : bL cM w p v Fs ps M) :
  Calls prog 17 #[.pointer (some ⟨p, 0, none⟩)] w fun e w' => e = .returned (.int .i64 (M.ds.length : Int)) /\ w = w' := by
 obtain ⟨g, c, rfl, _, _⟩ := h.slice;obtain ⟨c0, c1, c2, c3⟩ := h.eQ;go_enter func17, ntmps17;go_wp2;go_ret;exact ⟨rfl, rfl⟩
theorem abT (h : bL cM w p v Fs ps M) :
  Calls prog 56 #[.pointer (some ⟨p, 0, none⟩)] w fun e w' => e = .returned (.bool M.cf) /\ w = w' := by
 obtain ⟨c0, c1, c2, c3⟩ := h.eQ;go_enter func56, ntmps56;go_wp2;go_ret;exact ⟨rfl, rfl⟩
theorem nf (h : bL cM w p v Fs ps M) {d : Int} (hd : ¬(0 <= d /\ d < M.ds.length)) :
  Calls prog 48 #[.pointer (some ⟨p, 0, none⟩), .int .i64 d] w fun e w' => e = .returned (.bool false) /\ w = w' := by
 obtain ⟨g, c, rfl, _, _⟩ := h.slice;obtain ⟨c0, c1, c2, c3⟩ := h.eQ;clear h;by_cases h0 : 0 <= d
 ·have h1 : ¬(d < (M.ds.length : Int)) := by omega
  clear hd;go_enter func48, ntmps48;go_wp2;go_ret;exact ⟨rfl, rfl⟩
 ·clear hd;go_enter func48, ntmps48;go_wp2;go_ret;exact ⟨rfl, rfl⟩
theorem mG (h : bL cM w p v Fs ps M) {k : Nat} (hk : k < M.ds.length) :
  Calls prog 48 #[.pointer (some ⟨p, 0, none⟩), .int .i64 k] w fun e w' => e = .returned (.bool true) /\ w = w' := by
 obtain ⟨g, c, rfl, _, _⟩ := h.slice;obtain ⟨c0, c1, c2, c3⟩ := h.eQ;clear h;go_enter func48, ntmps48;go_wp2;go_ret;exact ⟨rfl, rfl⟩
theorem nN (d : Int) (h : bL cM w p v Fs ps M) :
  Calls prog 42 #[.pointer (some ⟨p, 0, none⟩), .int .i64 d] w fun e w' => e = .returned (.int .i64 (dN M d)) /\ w = w' := by
 obtain ⟨c0, c1, c2, c3⟩ := h.eQ;rcases dz M d with ⟨e, hdk⟩ | ⟨e, hdk, ho⟩ | ⟨e, hdk, k, rfl, hk⟩
 ·rw [e];rw [hdk] at c2;clear e hdk h;go_enter func42, ntmps42;go_wp2;go_ret;exact ⟨rfl, rfl⟩
 ·rw [e];rw [hdk] at c2;have HO := ae (nf h ho);clear e hdk h ho;go_enter func42, ntmps42;go_wp2_with fail;refine HO.out.mono ?_;rintro e w1 ⟨rfl, rfl⟩;go_wp2_with fail;go_ret;exact ⟨rfl, rfl⟩
 ·rw [e];rw [hdk] at c2;have HO := ae (mG h hk);clear e hdk h hk;go_enter func42, ntmps42;go_wp2_with fail;refine HO.out.mono ?_;rintro e w1 ⟨rfl, rfl⟩;go_wp2_with fail;go_ret;exact ⟨rfl, rfl⟩
theorem wB (d : Int) (h : bL cM w p v Fs ps M) :
  Calls prog 86 #[.pointer (some ⟨p, 0, none⟩), .int .i64 d] w fun e w' => e = .returned (.int .i64 (dG M d)) /\ w = w' := by
 rcases kS M d with ⟨e, ho⟩ | ⟨e, k, rfl, hk⟩
 ·have HS : Hid (dG M d = 0) := ae (by unfold dG; rw [if_neg (by omega)]);have HO := ae (nf h ho);clear e h ho;go_enter func86, ntmps86;go_wp2_with fail;refine HO.out.mono ?_;rintro e w1 ⟨rfl, rfl⟩;go_wp2_with fail;go_ret;exact ⟨bP HS.out.symm, rfl⟩
 ·obtain ⟨x, hx⟩ : ∃ x, M.ds.getD k cd = x := ⟨_, rfl⟩;have hat := h.devs.at_ k hk;rw [hx] at hat
  have HS : Hid (dG M (k : Int) = (x.S.length : Int)) := ae (by unfold dG; rw [if_pos e, M.iG, hx]);have HO := ae (mG h hk);obtain ⟨g, c, rfl, _, _⟩ := h.slice;obtain ⟨c0, c1, c2, c3⟩ := h.eQ;have ck := h.cell hk;obtain ⟨AS, cS, d0, d2⟩ := m0 hat
  clear e h hat hx;generalize ps.getD k 0 = q at *;go_enter func86, ntmps86;go_wp2_with fail;refine HO.out.mono ?_;rintro e w1 ⟨rfl, rfl⟩;go_wp2_with fail;go_ret;exact ⟨bP HS.out.symm, rfl⟩
theorem abF (d n : Int) (h : bL cM w p v Fs ps M) :
  Calls prog 57 #[.pointer (some ⟨p, 0, none⟩), .int .i64 d, .int .i64 n] w fun e w' => e = .returned (.tuple #[blk (dY M d n), .int .i64 (ct M d n)]) /\ Below w.heap.size w w' := by
 have hA := (Below.refl w.heap.size w).alloc ai (.cells (cel aF).toArray 29);have h1 := h.below hA;have HT := ae (ec w aF 29);have HA := ae hA;have HO := ae (nN d h1);by_cases hl : dN M d = 0
 ·rcases dz M d with ⟨e, _⟩ | ⟨e, _⟩ | ⟨e, hdk, k, rfl, hk⟩
  ·omega
  ·omega
  obtain ⟨x, hx⟩ : ∃ x, M.ds.getD k cd = x := ⟨_, rfl⟩;have hat := h1.devs.at_ k hk;rw [hx] at hat
  have HB : Hid (dY M (k : Int) n = eU x.S x.L x.g n) := ae (by unfold dY; rw [if_pos e, <- hx]; rfl);have HE : Hid (ct M (k : Int) n = cT x.S x.g n) := ae (by unfold ct; rw [if_pos e, <- hx]; rfl);rw [e] at HO;have HD := ae (aaR n hat);have HSZ := ae (World.size_alloc w (.cells (cel aF).toArray 29));obtain ⟨g, c, rfl, _, _⟩ := h1.slice;obtain ⟨c0, c1, c2, c3⟩ := h1.eQ;have ck := h1.cell hk;clear e h h1 hat hx hdk hA hl;rw [HB.out, HE.out];clear HB HE;generalize eU x.S x.L x.g n = y at *;generalize cT x.S x.g n = z at *;generalize ps.getD k 0 = q at *;go_enter func57, ntmps57;go_wp2_with (first | (refine av rfl (bw rfl) ?_) | fail);refine HO.out.mono ?_;rintro e w1 ⟨rfl, rfl⟩;go_wp2_with fail;refine HD.out.mono ?_;rintro e w2 ⟨rfl, hb⟩;have HT2 := ae (bg HT (by rw [HSZ.out]; omega) hb);have HB2 := ae (HA.out.trans (hb.mono (by rw [HSZ.out]; omega)));clear hb;go_wp2_with (first | (refine bj rfl (bD rfl rfl rfl HT2.out) ?_) | fail);exact bodyPost_ret (cI rfl _ _ _ rfl (World.rangeAt_setCells_same _ _ _ _ (by rw [aL]; exact HT2))) rfl ⟨rfl, below_setCells HB2 ai _⟩
 ·have HB : Hid (dY M d n = aF) := ae (by unfold dY; rw [if_neg hl]);have HE : Hid (ct M d n = dN M d) := ae (by unfold ct; rw [if_neg hl]);clear h h1 hA;rw [HB.out, HE.out];rcases dz M d with ⟨e, _⟩ | ⟨e, _⟩ | ⟨e, _⟩
  rotate_right 1
  ·exact absurd e hl
  all_goals
   rw [e] at HO ⊢;clear e hl;go_enter func57, ntmps57;go_wp2_with (first | (refine av rfl (bw rfl) ?_) | fail);refine HO.out.mono ?_;rintro e w1 ⟨rfl, rfl⟩;go_wp2_with (first | (refine av rfl (cQ (c := aF) (parts := []) rfl rfl) ?_) | (refine bj rfl (bD rfl rfl rfl HT.out) ?_));exact bodyPost_ret (cI rfl _ _ _ rfl (World.rangeAt_setCells_same _ _ _ _ (by rw [aL]; exact HT))) rfl ⟨rfl, below_setCells HA ai _⟩
theorem adq (n : Int) (h : bL cM w p v Fs ps M) :
  Calls prog 14 #[.pointer (some ⟨p, 0, none⟩), .int .i64 n] w fun e w' => e = .returned (.int .i64 (jN M n)) /\ bL cM w' p v Fs ps (f8 M n) /\ Only (fun b => b = p) w w' := by
 obtain ⟨c0, c1, c2, c3⟩ := h.eQ;have f1 := frozen_of_row w p 1 _ _ h.at_;have HH := ae h;cases hdk : M.cf
 ·rw [hdk] at c2;by_cases hn : n < 0
  ·have HE : Hid (jN M n = 2) := ae (by unfold jN; rw [if_neg (by rw [hdk]; decide), if_pos hn]);have HS : Hid (f8 M n = M) := ae (by unfold f8; rw [HE.out, if_neg (by decide)]);clear h hdk;go_enter func14, ntmps14;go_wp2_with fail;go_ret;exact ⟨bP HE.out.symm, by rw [HS.out]; exact HH, Only.refl _ _⟩
  ·have HE : Hid (jN M n = 0) := ae (by unfold jN; rw [if_neg (by rw [hdk]; decide), if_neg hn]);have HS : Hid (f8 M n = ⟨M.ds, n.toNat, M.cf, M.steps⟩) := ae (by unfold f8; rw [HE.out, if_pos rfl]);have HN : Hid (((n.toNat : Nat) : Int) = n) := ae (by omega);clear h hdk;go_enter func14, ntmps14;go_wp2_with fail;go_ret;have ho := dt w p 1 (.int .i64 n);refine ⟨bP HE.out.symm, ?_, ho⟩;rw [HS.out];refine HH.out.obj _ _ _ ho ?_;have := heap_setCell_same w p 1 _ _ (.int .i64 n) HH.out.at_
   simpa [cM, HN.out] using this
 ·have HE : Hid (jN M n = 8) := ae (by unfold jN; rw [if_pos hdk]);have HS : Hid (f8 M n = M) := ae (by unfold f8; rw [HE.out, if_neg (by decide)]);rw [hdk] at c2;clear h hdk;go_enter func14, ntmps14;go_wp2_with fail;go_ret;exact ⟨bP HE.out.symm, by rw [HS.out]; exact HH, Only.refl _ _⟩
theorem ac0 (d : Int) (h : bL cM w p v Fs ps M) :
  Calls prog 12 #[.pointer (some ⟨p, 0, none⟩), .int .i64 d] w fun e w' => e = .returned (.int .i64 (mc M d)) /\ Left cM w p v Fs ps M.ds.length (gv M d) w' := by
 rcases kS M d with ⟨e, ho⟩ | ⟨e, k, rfl, hk⟩
 ·have HL := ae (Left.same h (M' := gv M d) (by unfold gv; rw [if_neg (by omega)]));have HO := ae (nf h ho);have HE := ae e;clear e h ho;go_enter func12, ntmps12;go_wp2_with fail;refine HO.out.mono ?_;rintro e w1 ⟨rfl, rfl⟩;go_wp2_with fail;go_ret;exact ⟨bP HE.out.symm, HL⟩
 ·obtain ⟨x, hx⟩ : ∃ x, M.ds.getD k cd = x := ⟨_, rfl⟩;have hat := h.devs.at_ k hk;rw [hx] at hat
  have HS : Hid (gv M (k : Int) = M.put k ⟨x.S, [], true⟩) := ae (by unfold gv; rw [if_pos e, <- hx]; rfl);have HO := ae (mG h hk);have HD := ae (aai hat);have HE := ae e;have HH := ae h;obtain ⟨g, c, rfl, _, _⟩ := h.slice;obtain ⟨c0, c1, c2, c3⟩ := h.eQ;have ck := h.cell hk;obtain ⟨q, hq⟩ : ∃ q, ps.getD k 0 = q := ⟨_, rfl⟩;rw [hq] at ck HD;have HQ := ae hq;clear e h hat hx hq;go_enter func12, ntmps12;go_wp2_with fail;refine HO.out.mono ?_;rintro e w1 ⟨rfl, rfl⟩;go_wp2_with fail;refine HD.out.mono ?_;rintro e w2 ⟨⟨z, rfl⟩, F', h1, h2, h3⟩;go_wp2_with fail;go_ret;exact ⟨bP HE.out.symm, Left.turn HH hk h2 h3 (d := ⟨x.S, [], true⟩) (by rw [HQ.out]; exact h1) HS⟩
def aR.step (M : aR) : aR := if M.left = 1 then M.night else M.done
theorem yI (h : bL cM w p v Fs ps M) (hs : M.steps < 1000000) (hll : M.left < 9223372036854775808) :
  Calls prog 44 #[.pointer (some ⟨p, 0, none⟩)] w fun e w' => e = .returned (.int .i64 M.dI) /\ bL cM w' p v Fs ps M.step /\ Only (fun b => b = p) w w' := by
 obtain ⟨c0, c1, c2, c3⟩ := h.eQ;have f1 := frozen_of_row w p 1 _ _ h.at_;have f2 := frozen_of_row w p 2 _ _ h.at_;have f3 := frozen_of_row w p 3 _ _ h.at_;have HH := ae h;clear h;by_cases h1 : M.left = 1
 ·have HE : Hid (M.dI = 8) := ae (by unfold aR.dI; rw [if_pos h1]);have HS : Hid (M.step = M.night) := ae (by unfold aR.step; rw [if_pos h1]);rw [h1] at c1;clear h1 hs hll;go_enter func44, ntmps44;go_wp2_with fail;go_ret;have ho := dt w p 2 (.bool true);refine ⟨bP HE.out.symm, ?_, ho⟩;rw [HS.out];refine HH.out.obj _ _ _ ho ?_;have := heap_setCell_same w p 2 _ _ (.bool true) HH.out.at_
  simpa [cM] using this
 ·have HE : Hid (M.dI = 0) := ae (by unfold aR.dI; rw [if_neg h1]);have HS : Hid (M.step = M.done) := ae (by unfold aR.step; rw [if_neg h1]);by_cases h2 : 1 < M.left
  ·have hl1 : ((M.left : Int) == 1) = false := by simpa using (by omega : ¬ (M.left : Int) = 1)
   go_enter func44, ntmps44;go_wp2_with fail;go_ret;have ho := (dt w p 1 (.int .i64 ((M.left : Int) - 1))).setCell (p := ⟨p, 3, none⟩) (.inl rfl) (.int .i64 ((M.steps : Int) + 1));refine ⟨bP HE.out.symm, ?_, ho⟩;rw [HS.out];refine HH.out.obj _ _ _ ho ?_;have h3 := heap_setCell_same _ p 3 _ _ (.int .i64 ((M.steps : Int) + 1)) (heap_setCell_same w p 1 _ _ (.int .i64 ((M.left : Int) - 1)) HH.out.at_);have e : ((M.left - 1 : Nat) : Int) = (M.left : Int) - 1 := by omega
   simpa [cM, e] using h3
  ·have hl0 : M.left = 0 := by omega
   have HL0 := ae hl0;rw [hl0] at c1;clear h1 hll h2 hl0;go_enter func44, ntmps44;go_wp2_with fail;go_ret;have ho := dt w p 3 (.int .i64 ((M.steps : Int) + 1));refine ⟨bP HE.out.symm, ?_, ho⟩;rw [HS.out];refine HH.out.obj _ _ _ ho ?_;have h3 := heap_setCell_same w p 3 _ _ (.int .i64 ((M.steps : Int) + 1)) HH.out.at_
   simpa [cM, HL0.out] using h3
end
section
variable {w w' : World} {p : Nat} {v : Value} {Fs : Nat -> Nat -> Prop} {ps : List Nat} {M : aR}
theorem pS {d : Int} (h0 : dN M d ≠ 0) : dN M d = 8 \/ dN M d = 2 := by
 rcases dz M d with ⟨e, _⟩ | ⟨e, _⟩ | ⟨e, _⟩
 ·exact .inl e
 ·exact .inr e
 ·exact absurd e h0
theorem tJ (d : Int) (h : bL cM w p v Fs ps M) (hl : fK M d ≠ 0) :
  Calls prog 16 #[.pointer (some ⟨p, 0, none⟩), .int .i64 d] w fun e w' => e = .returned (.int .i64 (hZ M d)) /\ Left cM w p v Fs ps M.ds.length (fk M d) w' := by
 have HE : Hid (hZ M d = fK M d) := ae (by unfold hZ; rw [if_neg hl]);have HL := ae (Left.same h (M' := fk M d) (by unfold fk; rw [if_neg hl]));have HO := ae (nN d h);by_cases h0 : dN M d = 0
 ·rcases dz M d with ⟨e, _⟩ | ⟨e, _⟩ | ⟨e, hdk, k, rfl, hk⟩
  ·omega
  ·omega
  obtain ⟨x, hx⟩ : ∃ x, M.ds.getD k cd = x := ⟨_, rfl⟩;have hat := h.devs.at_ k hk;rw [hx] at hat
  have hg : x.g = true := by
   cases hg : x.g
   ·exfalso; apply hl; unfold fK; rw [if_pos e, show M.dev (k : Int) = x from hx, hg, if_neg (by decide)]
   ·rfl
  have H9 : Hid (fK M (k : Int) = 9) := ae (by unfold fK; rw [if_pos e, show M.dev (k : Int) = x from hx, hg, if_pos rfl]);obtain ⟨g, c, rfl, _, _⟩ := h.slice;obtain ⟨c0, c1, c2, c3⟩ := h.eQ;have ck := h.cell hk;obtain ⟨AS, cS, d0, d2⟩ := m0 hat
  rw [hg] at d2;rw [e] at HO;clear e h hat hx hdk hl h0 hg;generalize ps.getD k 0 = q at *;go_enter func16, ntmps16;go_wp2_with fail;refine HO.out.mono ?_;rintro e w1 ⟨rfl, rfl⟩;go_wp2_with fail;go_ret;exact ⟨bP (by rw [HE.out, H9.out]), HL⟩
 ·have HA : Hid (fK M d = dN M d) := ae (by unfold fK; rw [if_neg h0]);clear h hl;rw [HE.out, HA.out];rcases pS h0 with e | e
  all_goals
   rw [e] at HO ⊢;clear e h0;go_enter func16, ntmps16;go_wp2_with fail;refine HO.out.mono ?_;rintro e w1 ⟨rfl, rfl⟩;go_wp2_with fail;go_ret;exact ⟨rfl, HL⟩
theorem zV (d : Int) (h : bL cM w p v Fs ps M) (hs : M.steps < 1000000) (hll : M.left < 9223372036854775808) :
  Calls prog 16 #[.pointer (some ⟨p, 0, none⟩), .int .i64 d] w fun e w' => e = .returned (.int .i64 (hZ M d)) /\ Left cM w p v Fs ps M.ds.length (fk M d) w' := by
 by_cases hl : fK M d = 0;rotate_left 1
 ·exact tJ d h hl
 have hlit : dN M d = 0 := by
  unfold fK at hl;by_cases h0 : dN M d = 0
  ·exact h0
  ·rw [if_neg h0] at hl; exact hl
 rcases dz M d with ⟨e, _⟩ | ⟨e, _⟩ | ⟨e, hdk, k, rfl, hk⟩
 ·omega
 ·omega
 obtain ⟨x, hx⟩ : ∃ x, M.ds.getD k cd = x := ⟨_, rfl⟩;have hat := h.devs.at_ k hk;rw [hx] at hat
 have hg : x.g = false := by
  cases hg : x.g
  ·rfl
  ·exfalso; unfold fK at hl; rw [if_pos e, show M.dev (k : Int) = x from hx, hg, if_pos rfl] at hl; omega
 have HEE : Hid (hZ M (k : Int) = M.dI) := ae (by unfold hZ; rw [if_pos hl]);have HO := ae (nN (k : Int) h);rw [e] at HO;have HST := ae (yI h hs hll);obtain ⟨q, hq⟩ : ∃ q, ps.getD k 0 = q := ⟨_, rfl⟩;obtain ⟨g, c, rfl, _, _⟩ := h.slice;obtain ⟨c0, c1, c2, c3⟩ := h.eQ;have ck := h.cell hk;obtain ⟨AS, cS, d0, d2⟩ := m0 hat
 rw [hg] at d2;rw [hq] at ck d2 d0;by_cases h1 : M.left = 1
 ·have HE : Hid (M.dI = 8) := ae (by unfold aR.dI; rw [if_pos h1]);have HN : Hid (M.step = M.night) := ae (by unfold aR.step; rw [if_pos h1]);have HS : Hid (fk M (k : Int) = M.night) := ae (by unfold fk; rw [if_pos hl, if_pos h1]);clear e h hat hx hdk hl hg h1 hlit hs hll hq;go_enter func16, ntmps16;go_wp2_with fail;refine HO.out.mono ?_;rintro e w1 ⟨rfl, rfl⟩;go_wp2_with fail;refine HST.out.mono ?_;rintro e w2 ⟨rfl, h2, ho2⟩;rw [HE.out];have H2 := ae h2;have HO2 := ae ho2;clear h2 ho2;go_wp2_with fail;go_ret;refine ⟨bP (by rw [HEE.out, HE.out]), ?_⟩;rw [HS.out, <- HN.out];exact Left.obj H2 HO2 (by rw [HN.out]; rfl)
 ·have HE : Hid (M.dI = 0) := ae (by unfold aR.dI; rw [if_neg h1]);have HN : Hid (M.step = M.done) := ae (by unfold aR.step; rw [if_neg h1]);have HS : Hid (fk M (k : Int) = M.done.put k ⟨flS x.S x.L, [], x.g⟩) := ae (by unfold fk; rw [if_pos hl, if_neg h1, show M.dev (k : Int) = x from hx]; rfl);have HX := ae hx;have HG := ae hg;have HQ := ae hq;clear e h hat hx hdk hl hg h1 hlit hs hll hq;go_enter func16, ntmps16;go_wp2_with fail;refine HO.out.mono ?_;rintro e w1 ⟨rfl, rfl⟩;go_wp2_with fail;refine HST.out.mono ?_;rintro e w2 ⟨rfl, h2, ho2⟩;rw [HE.out];rw [HN.out] at h2;obtain ⟨e0, e1, e2, e3⟩ := h2.eQ;have ek := bL.cell (M := M.done) h2 (i := k) hk;rw [HQ.out] at ek;have hat2 := h2.devs.at_ k hk;rw [show M.done.ds.getD k cd = x from HX.out, HQ.out] at hat2;have HD := ae (zg hat2);have H2 := ae h2;have HO2 := ae ho2;clear h2 ho2 hat2 c0 c1 c2 c3 ck d0 d2;go_wp2_with fail;refine HD.out.mono ?_;rintro e w3 ⟨rfl, F', g1, g2, g3⟩;rw [HG.out];have HL := ae (Left.behind HO2 (Left.turn H2 (i := k) hk g2 g3 (d := ⟨flS x.S x.L, [], x.g⟩) (show Rv _ _ _ _ _ _ by rw [HQ.out]; simpa [HG.out] using g1) HS));clear g1 g2 g3;go_wp2_with fail;go_ret;exact ⟨bP (by rw [HEE.out, HE.out]), HL⟩
end
section
variable {w w' : World} {p : Nat} {v : Value} {Fs : Nat -> Nat -> Prop} {ps : List Nat} {M : aR}
theorem adA {b : Nat} : (Instr.fieldAt 93 (.pointer (some ⟨b, 0, none⟩)) 0).run prog w = .ok (.pointer (some ⟨b, 0, none⟩)) w := by kernel_rfl
theorem aea {a : Addr} {A : Option Addr} {n c : Nat} (h : w.cell? a = some (.slice A n c)) : (Instr.loadAt 91 (.pointer (some a))).run prog w = .ok (.slice A n c) w := by simp [go_sem, h]
theorem ad6 {a : Addr} {A : Option Addr} (h : w.cell? a = some (.pointer A)) : (Instr.loadAt 90 (.pointer (some a))).run prog w = .ok (.pointer A) w := by simp [go_sem, h]
theorem xi {k : fM} {ρ : Operand -> Value} {o : Oper} {x y : Operand} {w : World} {b n c j : Nat} (ho : o.op = .indexAddr k.E.s x y) (hx : ρ x = .slice (some ⟨b, 0, none⟩) n c) (hy : ρ y = .int .i64 (j : Int)) (hj : j < n) : (execOp ρ o).run prog w = .ok (.value (.pointer (some ⟨b, j, none⟩))) w := by
 have h := cK (E := k.E) (w := w) ho hx hy hj;rwa [show 0 + j * k.E.n = j from by show 0 + j * 1 = j; omega] at h
theorem sp (d n : Int) (x : Blk) (h : bL cM w p v Fs ps M) (hr : ct M d n ≠ 0) :
  Calls prog 10 #[.pointer (some ⟨p, 0, none⟩), .int .i64 d, .int .i64 n, blk x] w fun e w' => e = .returned (.int .i64 (ct M d n)) /\ Below w.heap.size w w' := by
 have hA := (Below.refl w.heap.size w).alloc ai (.cells (cel x).toArray 29);have h1 := h.below hA;have HO := ae (nN d h1);have HA := ae hA;by_cases h0 : dN M d = 0
 ·rcases dz M d with ⟨e, _⟩ | ⟨e, _⟩ | ⟨e, hdk, k, rfl, hk⟩
  ·omega
  ·omega
  obtain ⟨y, hy⟩ : ∃ y, M.ds.getD k cd = y := ⟨_, rfl⟩;have hat := h1.devs.at_ k hk;rw [hy] at hat
  have hr0 : ct M (k : Int) n = cT y.S y.g n := by unfold ct; rw [if_pos e, M.iG, hy]
  rw [hr0] at hr ⊢;have HD := ae (uJ n hat);obtain ⟨g, c, rfl, _, _⟩ := h1.slice;obtain ⟨c0, c1, c2, c3⟩ := h1.eQ;have ck := h1.cell hk;rw [e] at HO;clear e h h1 hA hat hy hdk h0 hr0;generalize ps.getD k 0 = q at *;rcases eW (S := y.S) (g := y.g) (n := n) with e | e | ⟨e, _⟩
  rotate_right 1
  ·exact absurd e hr
  all_goals
   rw [e] at HD ⊢;clear e hr;go_enter func10, ntmps10;go_wp2_with (first | (refine av rfl (bZ rfl rfl) ?_) | fail);refine HO.out.mono ?_;rintro e w1 ⟨rfl, rfl⟩;go_wp2_with fail;refine HD.out.mono ?_;rintro e w2 ⟨rfl, rfl⟩;go_wp2_with fail;go_ret;exact ⟨rfl, HA⟩
 ·have hr0 : ct M d n = dN M d := by unfold ct; rw [if_neg h0]
  rw [hr0];clear h h1 hA hr hr0;rcases pS h0 with e | e
  all_goals
   rw [e] at HO ⊢;clear e h0;go_enter func10, ntmps10;go_wp2_with (first | (refine av rfl (bZ rfl rfl) ?_) | fail);refine HO.out.mono ?_;rintro e w1 ⟨rfl, rfl⟩;go_wp2_with fail;go_ret;exact ⟨rfl, HA⟩
theorem rT (n : Int) (x : Blk) (h : bL cM w p v Fs ps M) {k : Nat} (hdk : M.cf = false) (hk : k < M.ds.length) (he : cT (M.ds.getD k cd).S (M.ds.getD k cd).g n = 0) (hs : M.steps < 1000000) (hll : M.left < 9223372036854775808) (hL : (M.ds.getD k cd).L.length < 1000000) :
  Calls prog 10 #[.pointer (some ⟨p, 0, none⟩), .int .i64 k, .int .i64 n, blk x] w fun e w' => e = .returned (.int .i64 M.dI) /\ Left cM w p v Fs ps M.ds.length (eg M (k : Int) n x) w' := by
 obtain ⟨y, hy⟩ : ∃ y, M.ds.getD k cd = y := ⟨_, rfl⟩;obtain ⟨q, hq⟩ : ∃ q, ps.getD k 0 = q := ⟨_, rfl⟩;have hA := (Below.refl w.heap.size w).alloc ai (.cells (cel x).toArray 29);have h1 := h.below hA;have HO := ae (nN (k : Int) h1);rw [jz hdk hk] at HO;have hat := h1.devs.at_ k hk;have hr0 : ct M (k : Int) n = 0 := by unfold ct; rw [if_pos (jz hdk hk), M.iG]; exact he
 rw [hy, hq] at hat
 rw [hy] at he hL;have HD := ae (uJ n hat);rw [he] at HD;have HST := ae (yI h1 hs hll);obtain ⟨g, c, rfl, _, _⟩ := h1.slice;obtain ⟨c0, c1, c2, c3⟩ := h1.eQ;have ck := h1.cell hk;rw [hq] at ck;have HA := ae hA;have HE := ae he;have HL := ae hL;have HY := ae hy;have HQ := ae hq;have HR := ae hr0;have HB := ae (l9 w (cel x).toArray 29);have HPW := ae (aY h.at_);by_cases h2 : M.left = 1
 ·have HE1 : Hid (M.dI = 8) := ae (by unfold aR.dI; rw [if_pos h2]);have HN : Hid (M.step = M.night) := ae (by unfold aR.step; rw [if_pos h2]);have HW : Hid (eg M (k : Int) n x = M.night) := ae (by unfold eg; rw [if_pos hr0, if_pos h2]);clear h h1 h2 hA hat hr0 hy hq hdk he hs hll hL;go_enter func10, ntmps10;go_wp2_with (first | (refine av rfl (bZ rfl rfl) ?_) | fail);refine HO.out.mono ?_;rintro e w1 ⟨rfl, rfl⟩;go_wp2_with fail;refine HD.out.mono ?_;rintro e w2 ⟨rfl, rfl⟩;go_wp2_with fail;refine HST.out.mono ?_;rintro e w3 ⟨rfl, h3, ho3⟩;rw [HE1.out];have HLL := ae (Left.above HA (Left.obj h3 ho3 (n := M.ds.length) (by rw [HN.out]; rfl)));clear h3 ho3;go_wp2_with fail;go_ret;exact ⟨bP HE1.out.symm, by rw [HW.out, <- HN.out]; exact HLL⟩
 ·have HE1 : Hid (M.dI = 0) := ae (by unfold aR.dI; rw [if_neg h2]);have HN : Hid (M.step = M.done) := ae (by unfold aR.step; rw [if_neg h2]);have HW : Hid (eg M (k : Int) n x = M.done.put k ⟨y.S, wrL y.S y.L y.g n x, y.g⟩) := ae (by unfold eg; rw [if_pos hr0, if_neg h2, show M.dev (k : Int) = y from hy]; rfl);clear h h1 h2 hA hat hr0 hy hq hdk he hs hll hL;go_enter func10, ntmps10;go_wp2_with (first | (refine av rfl (bZ rfl rfl) ?_) | fail);refine HO.out.mono ?_;rintro e w1 ⟨rfl, rfl⟩;go_wp2_with fail;refine HD.out.mono ?_;rintro e w2 ⟨rfl, rfl⟩;go_wp2_with fail;refine HST.out.mono ?_;rintro e w3 ⟨rfl, h3, ho3⟩;rw [HE1.out];rw [HN.out] at h3;have hb3 := ho3.keep HB (fun e => by have := HPW.out; omega);have H3 := ae h3;have HB3 := ae hb3;have HO3 := ae (Only.trans (Only.of_below (fun b => b = p) HA) ho3 fun b hb => .inl hb);clear h3 ho3 hb3 c0 c1 c2 c3 ck;go_wp2_with fail;have hdr : bL cM w3.drew p (.slice (some ⟨g, 0, none⟩) M.ds.length c) Fs ps M.done := H3.out.below (bd aj);refine wp_region_still_tail 9 (by kernel_rfl) (by kernel_rfl) ?_;simp only [ac];refine aM rfl (aJ rfl aez) ?_;simp only [aa];refine aM rfl (cE rfl aez) ?_;simp only [aa];refine aM rfl (ax rfl aez adA) ?_;simp only [aa];refine aM rfl (aE rfl aez (aea hdr.eQ.1)) ?_;simp only [aa];refine aM rfl (aJ rfl aez) ?_;simp only [aa];refine aM rfl (xi (k := cM) rfl aez aez hk) ?_;simp only [aa];refine aM rfl (aE rfl aez (ad6 (bL.cell (M := M.done) hdr (i := k) hk))) ?_;simp only [aa];refine aM rfl (aJ rfl aez) ?_;simp only [aa];refine aM rfl (bf rfl aez (ib HB3)) ?_;simp only [aa];refine wpStill_nil ?_;change wpList _ _ _ _ _ w3.drew;rw [HQ.out];have hat3 := hdr.devs.at_ k hk;rw [show M.done.ds.getD k cd = y from HY.out, HQ.out] at hat3;have HDR := ae hdr;have HD3 := ae (x8 n x HL hat3);clear hdr hat3;go_wp2_with fail;refine HD3.out.mono ?_;rintro e w4 ⟨rfl, F', g1, g2, g3⟩;rw [HE.out];have HLT := ae (Left.behind (HO3.out.drew) (Left.turn HDR (i := k) hk g2 g3 (d := ⟨y.S, wrL y.S y.L y.g n x, y.g⟩) (show Rv _ _ _ _ _ _ by rw [HQ.out]; exact g1) HW));clear g1 g2 g3;go_wp2_with fail;go_ret;exact ⟨bP HE1.out.symm, HLT⟩
theorem aao (d n : Int) (x : Blk) (h : bL cM w p v Fs ps M) (hr : ∀ i, i < M.ds.length -> (M.ds.getD i cd).L.length < 1000000) (hs : M.steps < 1000000) (hll : M.left < 9223372036854775808) :
  Calls prog 10 #[.pointer (some ⟨p, 0, none⟩), .int .i64 d, .int .i64 n, blk x] w fun e w' => e = .returned (.int .i64 (jL M d n)) /\ Left cM w p v Fs ps M.ds.length (eg M d n x) w' := by
 by_cases hr0 : ct M d n = 0
 ·have hlit : dN M d = 0 := by
   by_cases h0 : dN M d = 0
   ·exact h0
   ·unfold ct at hr0; rw [if_neg h0] at hr0; exact hr0
  rcases dz M d with ⟨e, _⟩ | ⟨e, _⟩ | ⟨e, hdk, k, rfl, hk⟩
  ·omega
  ·omega
  have he : cT (M.ds.getD k cd).S (M.ds.getD k cd).g n = 0 := by unfold ct at hr0; rwa [if_pos e, M.iG] at hr0
  refine (rT n x h hdk hk he hs hll (hr k hk)).mono ?_;rintro e w' ⟨rfl, hl⟩;exact ⟨by unfold jL; rw [if_pos hr0], hl⟩
 ·refine (sp d n x h hr0).mono ?_;rintro e w' ⟨rfl, hb⟩;exact ⟨by unfold jL; rw [if_neg hr0], Left.sA h hb (by unfold eg; rw [if_neg hr0])⟩
end
section
variable {w w' : World}
theorem ac7 {A : Option Addr} {n c : Nat} {ks : List Int} (hl : RdE je w w.heap.size A n ks) (hnc : n <= c) (hc : c <= maxLen) :
  Calls prog 35 #[.slice A n c] w (eX cM w ks) := by
 have hlen : ks.length = n := hl.1;unfold maxLen at hc;by_cases h1 : n < 1
 ·have HN := ae (show ¬ gW ks from fun h => by have := h.1; omega);have h0 : n = 0 := by omega
  subst h0;clear hl hlen h1;go_enter func35, ntmps35;go_wp2;go_ret2;exact eX.no aj HN rfl
 by_cases h2 : 17 < n
 ·have HN := ae (show ¬ gW ks from fun h => by have := h.2.1; omega);have h1' : ¬((n : Int) < 1) := by omega
  have h2' : ((n : Int) > 17) := by omega
  clear hl hlen h1 h2;go_enter func35, ntmps35;go_wp2;go_ret2;exact eX.no aj HN rfl
 have h1' : ¬((n : Int) < 1) := by omega
 have h2' : ¬((n : Int) > 17) := by omega
 have h3' : ¬(17 < (n : Int)) := by omega
 have HL := ae hl;have HLEN := ae hlen;have HMK := ae (show Making cM w (w.alloc (.cells #[.slice none 0 0, .int .i64 0, .bool false, .int .i64 0] 93)) (.slice none 0 0) (fun _ _ => False) [] [] 0 false 0 from
  ⟨heap_alloc_new w _, bF.nil _ _, ⟨rfl, fun i hi => absurd hi (Nat.not_lt_zero i), fun i j hi => absurd hi (Nat.not_lt_zero i)⟩, fun i hi => absurd hi (Nat.not_lt_zero i), (Below.refl _ w).alloc ai _⟩)
 clear hl hlen;go_enter func35, ntmps35;go_wp2_with fail;generalize w.alloc (.cells #[.slice none 0 0, .int .i64 0, .bool false, .int .i64 0] 93) = w0 at *;clear h1' h2' h3'
 go_loopw [5] (fun i wr => ∃ (j : Nat) (v : Value) (Fs : Nat -> Nat -> Prop) (ps : List Nat), j <= n /\ i = .int .i64 j /\ Making cM w wr v Fs ps ((ks.take j).map mI) 0 false 0 /\ ∀ q, q < j -> 1 <= ks.getD q 0 /\ ks.getD q 0 <= 512) (fun i _ => n - (intOf i).toNat)
 case atStart => exact ⟨0, _, _, _, Nat.zero_le _, rfl, HMK, fun q hq => absurd hq (Nat.not_lt_zero q)⟩
 case round =>
  obtain ⟨j, v, Fs, ps, hj, rfl, hmk, hall⟩ := hrel;have HALL := ae hall;clear hall HMK;by_cases hlt : j < n
  ·have hlj : (j : Int) < (n : Int) := by omega
   obtain ⟨bA, oA, rfl, hbA, hcA⟩ := (HL.out.below hmk.below).int hlt;have HM := ae hmk;obtain ⟨AS, cS, rfl, hs1, hs2⟩ := hmk.row.form;unfold maxLen at hs2;have hpl : ps.length = j := by have := hmk.devs.len; rw [List.length_map, List.length_take] at this; have := HLEN.out; omega
   have HPL := ae hpl;obtain ⟨z, hz⟩ : ∃ z, ks.getD j 0 = z := ⟨_, rfl⟩;rw [hz] at hcA;have HZ := ae hz;clear hmk hz hpl;by_cases hok : 1 <= z /\ z <= 512
   ·obtain ⟨k, rfl⟩ : ∃ k : Nat, z = k := ⟨z.toNat, by omega⟩;have hk1 : 1 <= k := by omega
    have hk2 : k <= 512 := by omega
    clear hok;go_wp2_with fail;refine (abV k wr hk1 hk2).mono ?_;rintro e w1 ⟨p', F', rfl, hd1, hb1, hF1⟩;have hat1 := aB HM.out.at_ hb1;obtain ⟨c0, c1, c2, c3⟩ := pr hat1;have hrow1 := HM.out.row.below hb1;have hrow2 := hrow1.below ((Below.refl _ w1).alloc ai (.cells (cM.E.cel p').toArray cM.E.t));have HR := ae hrow2;have HNEW := ae (iJ (E := cM.E) (l := [p']) w1 (cM.E.cel p').toArray cM.E.t (by rw [ex]; simp [cF]));have HSZ := ae (show w.heap.size <= (w1.alloc (.cells (cM.E.cel p').toArray cM.E.t)).heap.size by rw [World.size_alloc]; have := HM.out.below.size; have := hb1.size; omega);have HD1 := ae hd1;have HB1 := ae hb1;have HF1 := ae hF1;have HAT := ae hat1;have HPS := ae (show ps.length + 1 <= 34359738368 by have := HPL.out; omega);clear hd1 hb1 hF1 hat1 hrow1 hrow2;have hal : w.heap.size < w1.heap.size := aY HAT;go_wp2_with (first | (refine av rfl (ft (E := cM.E) (a := p') rfl rfl rfl (by decide)) ?_) | (at_builtin; refine iK cM.E rfl _ _ rfl w.heap.size _ _ _ _ ps [p'] _ rfl rfl HR HNEW HSZ HPS ?_) | fail);intro v' w3 hm3 hg3 ho3;have hxv : v'.ownBlock ≠ some w.heap.size := fun e => by
     rcases ho3 _ e with e' | e'
     ·exact HM.out.row.dH HM.out.at_ cM.ne e'
     ·omega
    have HNX := ae (HM.out.next (fun _ _ => rfl) HB1 HF1 (d := mI k) HD1 hm3 hg3 ho3);have hvx : (Value.slice AS ps.length cS).ownBlock ≠ some w.heap.size := HM.out.row.dH HM.out.at_ cM.ne;have hat3 : w3.heap[w.heap.size]? = some _ := (hg3.block w.heap.size (by rw [World.size_alloc]; omega) (fun e => hvx e.symm)).trans (bO HAT _);obtain ⟨AV, cV, rfl, _, _⟩ := hm3.form;obtain ⟨d0, d1, d2, d3⟩ := pr hat3;have f0 := frozen_of_row w3 w.heap.size 0 _ _ hat3;clear hm3 hg3 ho3 hat3 c0 c1 c2 c3;go_wp2_with fail;go_roundw
    case rel =>
     refine ⟨j + 1, .slice AV (ps.length + 1) cV, upF Fs (List.map mI (List.take j ks)).length F', ps ++ [p'], by omega, by go_num, ?_, fun q hq => ?_⟩
     ·rw [jS (by have := HLEN.out; omega), HZ.out];have h6 := HNX.out;rw [show (ps ++ [p']).length = ps.length + 1 from by simp] at h6;exact h6
     ·by_cases e : q = j
      ·subst e; rw [HZ.out]; omega
      ·exact HALL.out q (by omega)
    case measure => simp [intOf]; omega
   ·have HB := ae HM.out.below;have HN := ae (show ¬ gW ks from fun h => hok (by have := h.2.2 z (by rw [<- HZ.out]; exact jg (by have := HLEN.out; omega)); exact this));go_wp2_with fail;refine (xI z wr hok).mono ?_;rintro e w1 ⟨rfl, rfl⟩;have HB1 := ae HB;clear hok;go_wp2_with fail;go_ret2;exact eX.no HB1 HN rfl
  ·have hjn : j = n := by omega
   subst hjn;have hlj : ¬((j : Int) < (j : Int)) := by omega
   have HM := ae hmk;clear hmk;go_wp2_with fail;go_ret2;have h5 := HM.out;have hLL := HLEN.out;rw [<- hLL, List.take_length] at h5;obtain ⟨g1, g2, g3⟩ := h5.done (by rw [List.length_map]; omega) (by rw [List.length_map]; omega);refine ⟨g3, .inl ⟨⟨by omega, by omega, fun k hk => ?_⟩, _, _, _, _, rfl, g1, g2⟩⟩;obtain ⟨i, hi, rfl⟩ := List.getElem_of_mem hk;have := HALL.out i (by omega);rwa [List.getD_eq_getElem?_getD, List.getElem?_eq_getElem hi] at this
end
def adF : tD where
 read := 57
 write := 10
 flush := 16
 fail := 12
 arm := 14
 devices := 17
 eh := 86
 cf := 56
def RB (w : World) (F : Nat -> Prop) (p : Nat) (M : aR) : Prop := InB cM w F p M /\ M.Wf
theorem nH {M : aR} {k : Nat} {d : iN} (h : M.Wf) (hd : d.S.length = (M.ds.getD k cd).S.length) : (M.put k d).Wf := by
 refine ⟨by rw [M.my]; exact h.one, by rw [M.my]; exact h.cap, fun i hi => ?_⟩;rw [M.my] at hi
 show 1 <= ((M.ds.set k d).getD i cd).S.length /\ ((M.ds.set k d).getD i cd).S.length <= 512
 by_cases e : i = k
 ·subst e; rw [iU hi, hd]; exact h.len i hi
 ·rw [ig e]; exact h.len i hi
theorem tY {M : aR} (h : M.Wf) : M.done.Wf := ⟨h.one, h.cap, h.len⟩
theorem qu {M : aR} (h : M.Wf) : M.night.Wf := ⟨h.one, h.cap, h.len⟩
theorem adx {M : aR} (h : M.Wf) (d n : Int) (b : Blk) : (eg M d n b).Wf := by
 unfold eg
 split
 ·split
  ·exact qu h
  ·exact nH (tY h) rfl
 ·exact h
theorem ac5 {M : aR} (h : M.Wf) (d : Int) : (fk M d).Wf := by
 unfold fk
 split
 ·split
  ·exact qu h
  ·exact nH (tY h) (by rw [mw]; rfl)
 ·exact h
theorem ac6 {M : aR} (h : M.Wf) (d : Int) : (gv M d).Wf := by
 unfold gv
 split
 ·exact nH h rfl
 ·exact h
theorem adC {M : aR} (h : M.Wf) (n : Int) : (f8 M n).Wf := by
 unfold f8
 split
 ·exact ⟨h.one, h.cap, h.len⟩
 ·exact h
theorem acM {ks : List Int} (h : gW ks) : (cp ks).Wf := by
 refine ⟨by rw [gl, List.length_map]; exact h.1, by rw [gl, List.length_map]; exact h.2.1, fun i hi => ?_⟩;rw [gl, List.length_map] at hi;have : ((cp ks).ds.getD i cd) = mI (ks.getD i 0) := by
  rw [gl, List.getD, List.getD, List.getElem?_map, List.getElem?_eq_getElem hi]; rfl
 rw [this];have h2 := h.2.2 _ (jg (x := 0) hi)
 show 1 <= (List.replicate _ _).length /\ (List.replicate _ _).length <= 512
 rw [List.length_replicate];omega
def aed : Ben adF where
 Bn := RB
 lt := fun h => h.1.lt
 only := fun h ho hn => ⟨h.1.only ho hn, h.2⟩
 wf := fun h => h.2
 read := fun d n ⟨⟨_, _, _, _, h⟩, _⟩ => abF d n h
 write := fun d n b hr ⟨⟨_, _, _, e, h⟩, hw⟩ => by
  subst e;exact (aao d n b h (fun i hi => hr.at_ hi) (by have := hr.1; omega) hr.2.1).mono fun e w' ⟨h1, h2⟩ => ⟨h1, by obtain ⟨F', g1, g2⟩ := h2.out; exact ⟨F', ⟨g1, adx hw _ _ _⟩, g2⟩⟩
 flush := fun d hr ⟨⟨_, _, _, e, h⟩, hw⟩ => by
  subst e;exact (zV d h (by have := hr.1; omega) hr.2.1).mono fun e w' ⟨h1, h2⟩ => ⟨h1, by obtain ⟨F', g1, g2⟩ := h2.out; exact ⟨F', ⟨g1, ac5 hw _⟩, g2⟩⟩
 fail := fun d ⟨⟨_, _, _, e, h⟩, hw⟩ => by
  subst e;exact (ac0 d h).mono fun e w' ⟨h1, h2⟩ => ⟨h1, by obtain ⟨F', g1, g2⟩ := h2.out; exact ⟨F', ⟨g1, ac6 hw _⟩, g2⟩⟩
 arm := fun {w F p M} n ⟨⟨_, _, _, e, h⟩, hw⟩ => by
  subst e;exact (adq n h).mono fun e w' ⟨h1, h2, h3⟩ => ⟨h1, by obtain ⟨F', g1, g2⟩ := (Left.obj h2 h3 (n := M.ds.length) (by unfold f8; split <;> rfl)).out; exact ⟨F', ⟨g1, adC hw _⟩, g2⟩⟩
 devices := fun ⟨⟨_, _, _, _, h⟩, _⟩ => (wI h).mono fun e w' ⟨h1, h2⟩ => ⟨h1, by subst h2; exact aj⟩
 eh := fun d ⟨⟨_, _, _, _, h⟩, _⟩ => (wB d h).mono fun e w' ⟨h1, h2⟩ => ⟨h1, by subst h2; exact aj⟩
 cf := fun ⟨⟨_, _, _, _, h⟩, _⟩ => (abT h).mono fun e w' ⟨h1, h2⟩ => ⟨h1, by subst h2; exact aj⟩
structure adf extends Ben adF where
 new : ∀ {w A n c ks}, RdE je w w.heap.size A n ks -> n <= c -> c <= maxLen -> Calls prog 35 #[.slice A n c] w (acK Bn w ks)
def bV : adf where
 toBen := aed
 new := fun h1 h2 h3 => (ac7 h1 h2 h3).mono fun e w' h => by
  obtain ⟨g1, g | g⟩ := h
  ·obtain ⟨g0, p, v, Fs, ps, g2, g3, g4⟩ := g;exact ⟨g1, .inl ⟨g0, p, _, g2, ⟨⟨v, Fs, ps, rfl, g3⟩, acM g0⟩, g4⟩⟩
  ·exact ⟨g1, .inr g⟩
section
variable {ρ : Operand -> Value} {o : Oper} {x y : Operand} {w : World} {t : TypeId} {old cs : Array Value}
theorem kn (hz : (prog.info? t).map (·.size) = some cs.size) (he : old.size = cs.size) (h1 : cs.toList.all Value.oneCell' = true) (ho : o.op = .store t x y) (hx : ρ x = .pointer (some ⟨w.heap.size, 0, none⟩)) (hy : ρ y = .agg cs) :
  (execOp ρ o).run prog (w.alloc (.cells old t)) = .ok .skip (w.alloc (.cells cs t)) := by
 have h := run_storeAt_new (P := prog) w t old cs hz he (by simpa using h1);unfold execOp;simp only [ho, hx, hy, Sem.run_bind, h, Result.andThen_ok, Sem.run_pure]
end
def arr (l : List UInt8) : Value := .agg (vals l).toArray
section
variable {ρ : Operand -> Value} {o : Oper} {x y : Operand} {w : World} {b off : Nat} {t : TypeId} {cs ds : List Value} {d : TypeDesc}
theorem eD (hu : prog.underlying t = some d) (hd : d.isRow = true) (hz : (prog.info? t).map (·.size) = some cs.length) (ho : o.op = .load t x) (hx : ρ x = .pointer (some ⟨b, off, none⟩)) (hc : w.rangeAt b off cs) :
  (execOp ρ o).run prog w = .ok (.value (.agg cs.toArray)) w := aE ho hx (run_loadAt_mid w b off t cs d hc hu hd hz)
theorem fg (ho : o.op = .box t x) (hx : ρ x = .agg cs.toArray) : (execOp ρ o).run prog w = .ok (.value (.pointer (some ⟨w.heap.size, 0, none⟩))) (w.alloc (.cells cs.toArray t)) := by
 unfold execOp;simp [ho, hx, Instr.box, newVar, newRow, Value.cells]
theorem fW {v : Value} (h : (prog.info? t).map (fun i => i.zero) = some (some v)) (w : World) : (zeroValue t).run prog w = .ok v w := by
 cases hq : prog.info? t with
 |none => rw [hq] at h; cases h
 |some i =>
  rw [hq] at h;simp only [Option.map_some, Option.some.injEq] at h;simp [zeroValue, typeInfo, hq, h]
theorem dC (h : (prog.info? t).map (fun i => i.zero) = some (some (.agg cs.toArray))) (ho : o.op = .alloc t) : (execOp ρ o).run prog w = .ok (.value (.pointer (some ⟨w.heap.size, 0, none⟩))) (w.alloc (.cells cs.toArray t)) := by
 have hz := fW h w;unfold execOp;simp [ho, Instr.alloc, hz, newVar, newRow, Value.cells]
theorem dq (hz : (prog.info? t).map (·.size) = some cs.length) (h1 : ∀ v ∈ cs, v.oneCell' = true) (ho : o.op = .store t x y) (hx : ρ x = .pointer (some ⟨b, off, none⟩)) (hy : ρ y = .agg cs.toArray) (ht : w.there b off cs.length) :
  (execOp ρ o).run prog w = .ok .skip (w.setCells b off cs) := by
 have h := run_storeAt_mid (P := prog) w b off t cs.toArray (by simpa using ht) (by simpa using hz) (all_oneCell_toArray h1);refine gB ho hx hy ?_
 simpa using h
theorem fZ (hz : (prog.info? t).map (·.size) = some cs.length) (he : ds.length = cs.length) (h1 : ∀ v ∈ cs, v.oneCell' = true) (ho : o.op = .store t x y) (hx : ρ x = .pointer (some ⟨w.heap.size, 0, none⟩)) (hy : ρ y = .agg cs.toArray) :
  (execOp ρ o).run prog (w.alloc (.cells ds.toArray t)) = .ok .skip (w.alloc (.cells cs.toArray t)) :=
 kn (by simpa using hz) (by simpa using he) (by simpa using h1) ho hx hy
theorem jA {v : Value} (ho : o.op = .build t #[]) (h : (Instr.build t #[]).run prog w = .ok v w) : (execOp ρ o).run prog w = .ok (.value v) w := by
 unfold execOp;simp only [ho, List.map_toArray, List.map_nil, Sem.run_bind, h, Result.andThen_ok, Sem.run_pure]
theorem rE {r : TypeId} {xs ys : Array Value} {c : Bool} (hg : prog.eqGuardType prog.depth t = false) (he : (Op.equalIn 10000 t (.agg xs) (.agg ys)).run prog w = .ok c w) (ho : o.op = .binOp .eql t x y r) (hx : ρ x = .agg xs) (hy : ρ y = .agg ys) :
  (execOp ρ o).run prog w = .ok (.value (.bool c)) w := by
 have h := run_eql_struct (P := prog) w t xs ys;rw [he] at h;unfold execOp;simp only [ho, hx, hy, Sem.run_bind, run_eqGuard_agg w .eql t x y xs ys hg, Result.andThen_ok];rw [h];simp
theorem nK {r : TypeId} {xs ys : Array Value} {c : Bool} (hg : prog.eqGuardType prog.depth t = false) (he : (Op.equalIn 10000 t (.agg xs) (.agg ys)).run prog w = .ok c w) (ho : o.op = .binOp .neq t x y r) (hx : ρ x = .agg xs) (hy : ρ y = .agg ys) :
  (execOp ρ o).run prog w = .ok (.value (.bool (!c))) w := by
 have h := run_neq_struct (P := prog) w t xs ys;rw [he] at h;unfold execOp;simp only [ho, hx, hy, Sem.run_bind, run_eqGuard_agg w .neq t x y xs ys hg, Result.andThen_ok];rw [h];simp
end
section
variable {ρ : Operand -> Value} {o : Oper} {x y : Operand} {w : World} {t r : TypeId} {k : IntKind} {a b : Int}
theorem df (c : Bool) (ho : o.op = .binOp .gtr t x y r) (hx : ρ x = .int k a) (hy : ρ y = .int k b) (h : decide (b < a) = c) : (execOp ρ o).run prog w = .ok (.value (.bool c)) w := by
 unfold execOp;simp [ho, hx, hy, eqGuard, binOp, Op.intCmp, h]
theorem cq (c : Bool) (ho : o.op = .binOp .geq t x y r) (hx : ρ x = .int k a) (hy : ρ y = .int k b) (h : decide (b <= a) = c) : (execOp ρ o).run prog w = .ok (.value (.bool c)) w := by
 unfold execOp;simp [ho, hx, hy, eqGuard, binOp, Op.intCmp, h]
theorem eS (c : Bool) (ho : o.op = .binOp .leq t x y r) (hx : ρ x = .int k a) (hy : ρ y = .int k b) (h : decide (a <= b) = c) : (execOp ρ o).run prog w = .ok (.value (.bool c)) w := by
 unfold execOp;simp [ho, hx, hy, eqGuard, binOp, Op.intCmp, h]
theorem bi (c : Bool) (ho : o.op = .binOp .lss t x y r) (hx : ρ x = .int k a) (hy : ρ y = .int k b) (h : decide (a < b) = c) : (execOp ρ o).run prog w = .ok (.value (.bool c)) w := by
 unfold execOp;simp [ho, hx, hy, eqGuard, binOp, Op.intCmp, h]
theorem lE {ad : Addr} {n : Int} (h : w.cell? ad = some (.int .u8 n)) : (Instr.loadAt 5 (.pointer (some ad))).run prog w = .ok (.int .u8 n) w := by simp [go_sem, h]
end
theorem cv {w : World} {ad : Addr} {k : Int} (h : w.cell? ad = some (.int .i64 k)) : (Instr.loadAt 3 (.pointer (some ad))).run prog w = .ok (.int .i64 k) w := by simp [go_sem, h]
theorem cO {w : World} {ad : Addr} {k : Int} (h : w.cell? ad = some (.int .u64 k)) : (Instr.loadAt 30 (.pointer (some ad))).run prog w = .ok (.int .u64 k) w := by simp [go_sem, h]
theorem lA {t : TypeId} {n : Nat} (hu : prog.underlying t = some (.array n 5)) (w : World) (a b : List UInt8) (ha : a.length = n) (hb : b.length = n) (d : Nat) : (Op.equalIn (d + 2) t (arr a) (arr b)).run prog w = .ok (decide (a = b)) w := by
 have he : ∀ x y : Int, (Op.equalIn (d + 1) 5 (.int .u8 x) (.int .u8 y)).run prog w = .ok (x == y) w := fun x y => run_equalIn_int w d 5 .u8 .u8 x y underlying5
 have hp : ∀ (c : List UInt8) (i : Nat), i < c.length -> (part 5 (vals c).toArray (i * 1)).run prog w = .ok (.int .u8 (bt c i)) w := fun c i hi => by
  have := fT hi;simp [part, this]
 show (Op.equalIn ((d + 1) + 1) t (arr a) (arr b)).run prog w = .ok (decide (a = b)) w
 generalize d + 1 = e at *;have key : ∀ (l : List Nat), (∀ i ∈ l, i < n) ->
   ((forIn l ((none : Option Bool), ()) fun i r => do
    let x <- part 5 (vals a).toArray (i * 1)
    let y <- part 5 (vals b).toArray (i * 1)
    let z <- Op.equalIn e 5 x y
    if (!z) = true then pure (ForInStep.done (some false, ())) else pure (ForInStep.yield (none, ())) : Sem _)).run prog w =
   .ok (if l.all (fun i => bt a i == bt b i) then (none, ()) else (some false, ())) w := by
  intro l
  induction l with
  |nil => intro _; simp
  |cons i l ih =>
   intro hl;have hi := hl i (by simp);simp only [List.forIn_cons, Sem.run_bind, hp a i (by omega), hp b i (by omega), Result.andThen_ok, he];by_cases h : bt a i = bt b i
   ·have hb : (bt a i == bt b i) = true := by simpa using h
    simp only [hb, Bool.not_true, Bool.false_eq_true, if_false, Sem.run_pure, Result.andThen_ok, List.all_cons, Bool.true_and];exact ih fun j hj => hl j (by simp [hj])
   ·have hb : (bt a i == bt b i) = false := by simpa using h
    simp [hb]
 have hall : ((List.range' 0 n).all fun i => bt a i == bt b i) = decide (a = b) := by
  rw [Bool.eq_iff_iff, List.all_eq_true, decide_eq_true_iff]
  constructor
  ·intro h;exact eB (by omega) fun j hj => by simpa using h j (by simp [List.mem_range']; omega)
  ·rintro rfl i _;simp
 have hk := key (List.range' 0 n) (fun i hi => by simp [List.mem_range'] at hi; omega);rw [hall] at hk;simp only [Op.equalIn, arr, Sem.run_bind, run_underlying hu, Result.andThen_ok, Tryz.sizeOf5, Std.Legacy.Range.forIn_eq_forIn_range'];simp only [Std.Legacy.Range.size, Nat.sub_zero, Nat.add_sub_cancel, Nat.div_one];rw [hk];by_cases h : a = b
 ·simp [h]
 ·simp [h]
theorem f9 {d : Nat} {xs ys : Array Value} {nm tg pk : String} {t : TypeId} {off bo : Nat} {em : Bool} {fs : List Field} {w : World} {u v : Value} {r : Bool} (hn : nm ≠ "_") (h1 : (part t xs off).run prog w = .ok u w) (h2 : (part t ys off).run prog w = .ok v w)
  (h3 : (Op.equalIn d t u v).run prog w = .ok r w) : (Op.eqFields d xs ys (⟨nm, t, off, em, tg, pk, bo⟩ :: fs)).run prog w = if r then (Op.eqFields d xs ys fs).run prog w else .ok false w := by
 cases r
 ·simp only [Op.eqFields, hn, ne_eq, not_false_eq_true, if_true, Sem.run_bind, h1, h2, h3, Result.andThen_ok, Bool.not_false, Sem.run_pure, Bool.false_eq_true, if_false]
 ·simp only [Op.eqFields, hn, ne_eq, not_false_eq_true, if_true, Sem.run_bind, h1, h2, h3, Result.andThen_ok, Bool.not_true, Bool.false_eq_true, if_false]
theorem ux {d : Nat} {xs ys : Array Value} {w : World} : (Op.eqFields d xs ys []).run prog w = .ok true w := by simp [Op.eqFields]
theorem br {w : World} {b : Nat} {t : TypeId} {cs : List Value} (h : w.heap[b]? = some (.cells cs.toArray t (0, 0))) : w.rangeAt b 0 cs := fun j v hj => by
 rw [cell_of_row w b (0 + j) _ t (0, 0) h, Nat.zero_add]
 simpa using hj
theorem ei {w : World} {b o k : Nat} {cs ds es fs : List Value} (h : w.rangeAt b o cs) (e : cs = ds ++ (es ++ fs)) (hk : ds.length = k) : w.rangeAt b (o + k) es := fun j v hj => by
 subst e hk;have := h (ds.length + j) v (by
  rw [List.getElem?_append_right (by omega), Nat.add_sub_cancel_left, List.getElem?_append_left (List.getElem?_eq_some_iff.1 hj).1];exact hj)
 rwa [<- Nat.add_assoc] at this
theorem aP {w : World} {b : Nat} {t : TypeId} {cs : List Value} (h : w.heap[b]? = some (.cells cs.toArray t (0, 0))) {o n : Nat} (hn : o + n <= cs.length) : w.there b o n := fun j hj => by
 rw [cell_of_row w b (o + j) _ t (0, 0) h, frozen_of_row w b (o + j) _ t h];exact ⟨by simp; omega, rfl⟩
theorem cC {fn : Func} {p q u : Tmp} {t : TypeId} {cs : List Value} {d : TypeDesc} (h : fn.results = #[.tmp p, .cell q t, .tmp u]) (tmps : Array Value) (w : World) (b : Nat) (hq : tmps.getD q undef = .pointer (some ⟨b, 0, none⟩)) (hr : w.rangeAt b 0 cs) (hu : prog.underlying t = some d) (hd : d.isRow = true) (hz : (prog.info? t).map (·.size) = some cs.length) :
  (results fn tmps).run prog w = .ok (.tuple #[tmps.getD p undef, .agg cs.toArray, tmps.getD u undef]) w := by
 have hl : (loadVar t ⟨b, 0, none⟩).run prog w = .ok (.agg cs.toArray) w := run_loadVar_mid (P := prog) w b 0 t cs d hr hu hd hz;have hq' : tmps[q]?.getD undef = .pointer (some ⟨b, 0, none⟩) := by simpa using hq
 simp [results, h, hq', asAddr, hl]
theorem eG {fn : Func} {p : Tmp} {t : TypeId} {cs : List Value} {d : TypeDesc} (h0 : fn.results = #[.cell p t]) (tmps : Array Value) (w : World) (b : Nat) (hp : tmps.getD p undef = .pointer (some ⟨b, 0, none⟩)) (hr : w.rangeAt b 0 cs) (hu : prog.underlying t = some d) (hd : d.isRow = true) (hz : (prog.info? t).map (·.size) = some cs.length) :
  (results fn tmps).run prog w = .ok (.agg cs.toArray) w := by
 have hl : (loadVar t ⟨b, 0, none⟩).run prog w = .ok (.agg cs.toArray) w := run_loadVar_mid (P := prog) w b 0 t cs d hr hu hd hz;have hp' : tmps[p]?.getD undef = .pointer (some ⟨b, 0, none⟩) := by simpa using hp
 simp [results, h0, hp', asAddr, hl]
theorem size_setCells (w : World) (b o : Nat) (vs : List Value) : (w.setCells b o vs).heap.size = w.heap.size := (fB b vs o w).1
theorem cell1 {w : World} {b : Nat} {t : TypeId} {x : Value} (h : w.heap[b]? = some (.cells #[x] t (0, 0))) : w.cell? ⟨b, 0, none⟩ = some x /\ w.frozen? ⟨b, 0, none⟩ = false :=
 ⟨by rw [cell_of_row w b 0 _ t (0, 0) h]; rfl, frozen_of_row w b 0 _ t h⟩
theorem set1 {w : World} {b : Nat} {t : TypeId} {x : Value} (h : w.heap[b]? = some (.cells #[x] t (0, 0))) (y : Value) : (w.setCell ⟨b, 0, none⟩ y).heap[b]? = some (.cells #[y] t (0, 0)) := by
 have := heap_setCell_same w b 0 #[x] t y h
 simpa using this
theorem fz (w : World) (b o : Nat) (y : Value) : w.grownBy (w.setCell ⟨b, o, none⟩ y) (some b) :=
 ⟨rfl, rfl, rfl, by simp [World.setCell], fun k hk hne => heap_setCell_other w ⟨b, o, none⟩ k y (fun e => hne (by rw [e]))⟩
theorem cl {w w' : World} {b k : Nat} {o : Obj} (h : w.heap[b]? = some o) (hg : w.grownBy w' (some k)) (hne : b ≠ k) : w'.heap[b]? = some o := (hg.block b (aY h) (fun e => hne (by injection e))).trans h
end Go.Proofs.YtehefifamaofkaaGreatDoor
