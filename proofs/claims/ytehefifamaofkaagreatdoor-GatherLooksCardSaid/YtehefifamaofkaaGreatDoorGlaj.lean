import Derived.LaidEqlPtr
import Derived.Test.YtehefifamaofkaaGreatDoorGlai
import Derived.Deep.Slices
namespace Go.Proofs.YtehefifamaofkaaGreatDoor
set_option maxHeartbeats 8000000
open Go.Proofs.Tryz
open Go.RowKit
set_option linter.unusedVariables false
set_option maxRecDepth 100000
def lsK (q : Nat -> Bool) (R : Ros) : Nat -> Ros
 |0 => R
 |k + 1 => if q k = true then cx (lsK q R k) (k : Int) else lsK q R k
theorem yw {x : Ros} {m : Int} (h : sta x m.toNat = 1) : cx x m = x := by
 unfold cx gi;rw [al (by omega), Bool.and_false, Bool.and_false]
 rfl
theorem yg (x : Ros) (m : Int) : (cx x m).m = x.m /\ (cx x m).s = x.s /\ (cx x m).r = x.r := by
 unfold cx
 split
 ·split <;> exact ⟨rfl, rfl, rfl⟩
 ·exact ⟨rfl, rfl, rfl⟩
theorem xZ {x : Ros} (hf : bn x = true) (m : Int) (j : Nat) : sta (cx x m) j = if (0 <= m /\ m < x.m) /\ (j : Int) = m then 1 else sta x j := by
 by_cases hm : 0 <= m /\ m < x.m
 ·by_cases h1 : sta x m.toNat = 1
  ·rw [yw h1]
   split
   ·rename_i e
    rw [show j = m.toNat by omega];exact h1
   ·rfl
  ·obtain ⟨_, l2⟩ := pO (d := m.toNat) hf (by omega) h1;have e := l2 j;rw [show ((m.toNat : Nat) : Int) = m by omega] at e;rw [e];by_cases c : j = m.toNat
   ·rw [if_pos c, if_pos ⟨hm, by omega⟩]
   ·rw [if_neg c, if_neg fun y => c (by omega)]
 ·rw [if_neg fun y => hm y.1];have : gi x m = false := by
   unfold gi;rw [show er x m = false from al hm, Bool.false_and, Bool.and_false]
  unfold cx;rw [this]
  rfl
theorem oW : ∀ (f : Nat) (h : HuS), bn h.R = true -> bn (fm f h).2.R = true /\ ((fm f h).2.R.m = h.R.m /\ (fm f h).2.R.s = h.R.s /\ (fm f h).2.R.r = h.R.r) /\ ∀ j, sta (fm f h).2.R j = sta h.R j \/ sta (fm f h).2.R j = 1
 |0, h, hf => ⟨hf, ⟨rfl, rfl, rfl⟩, fun _ => .inl rfl⟩
 |f + 1, h, hf => by
  rw [fm];obtain ⟨o, e, M', hx⟩ : ∃ o e M', dh h.id (h.ev + 1) h.R h.R.m.toNat 0 h.M = (o, e, M') := ⟨_, _, _, rfl⟩;rw [hx];cases o with
  |none => exact ⟨hf, ⟨rfl, rfl, rfl⟩, fun _ => .inl rfl⟩
  |some m =>
   obtain ⟨g1, g2, g3⟩ := yg h.R (m : Int);obtain ⟨k1, ⟨k2, k3, k4⟩, k5⟩ := oW f ⟨M', h.id, h.ev + 1, cx h.R (m : Int)⟩ (kT _ hf);refine ⟨k1, ⟨k2.trans g1, k3.trans g2, k4.trans g3⟩, fun j => ?_⟩;rcases k5 j with y | y
   ·have z : sta (cx h.R (m : Int)) j = _ := xZ hf (m : Int) j
    split at z
    ·exact .inr (y.trans z)
    ·exact .inl (y.trans z)
   ·exact .inr y
section
variable {N ev : Nat} {q1 q2 : Nat -> Bool} {M : aR} {R : Ros}
structure GvA (N ev : Nat) (R : Ros) (q : Nat -> Bool) (M : aR) : Prop where
 cf : M.cf = false
 left : M.left = 0
 len : M.ds.length = N + 1
 evs : 1 <= ev /\ ev <= 2305843009213693952
 fine : bn R = true
 geo : R.m = (N : Int) /\ R.s = 4 /\ R.r = 40
 sec : ∀ j, j < N -> (M.ds.getD j cd).S.length = 6
 last : (M.ds.getD N cd).S.length = 50
 dead : ∀ j, j < N -> q j = true -> (M.ds.getD j cd).g = true
 now : ∀ j, j < N -> q j = false -> ∃ S, M.ds.getD j cd = ⟨S, [], false⟩ /\ Now ev ⟨9, (j : Int), R⟩ S
theorem ya {j : Nat} (h : j < M.ds.length) : dG M (j : Int) = ((M.ds.getD j cd).S.length : Int) := by
 unfold dG;rw [if_pos (mi h)]
 rfl
theorem GvA.fits (a : GvA N ev R q1 M) : gaF M ev R = true := by
 have hl := a.len;refine abN ⟨a.evs.2, by rw [a.geo.1, hl]; omega, ?_, ?_⟩
 ·rw [a.geo.1, a.geo.2.2, ya (by omega), a.last]; decide
 ·rw [iO, a.geo.1, a.geo.2.1];intro j hj;rw [ya (by omega), a.sec j (by omega)]
  decide
theorem GvA.tells (a : GvA N ev R q1 M) {j : Nat} (hj : j < N) (hq : q1 j = false) : gaE M (j : Int) = 0 /\ gaN M (j : Int) = ev /\ gaS M (j : Int) = ⟨9, (j : Int), R⟩ := by
 obtain ⟨S, hS, n1, n2, n3⟩ := a.now j hj hq;have hl := a.len;have hw : Wel M j S := ⟨a.cf, a.left, by omega, hS⟩;have h6 : S.length = 6 := by have := a.sec j hj; rw [hS] at this; exact this
 have x0 : gaX M (j : Int) = S.getD 0 aF := hw.rdB (n := 0) (by omega);have x1 : gaY M (j : Int) = S.getD 1 aF := hw.rdB (n := 1) (by omega);have r0 : ct M (j : Int) 0 = 0 := hw.rdE (n := 0) (by omega);have r1 : ct M (j : Int) 1 = 0 := hw.rdE (n := 1) (by omega);have hQ : gaQ M (j : Int) = true := by
  unfold gaQ;rw [x0, x1, n2, n3, n1, r0, r1, a.fits, am (show 0 <= (j : Int) /\ (j : Int) < (M.ds.length : Int) - 1 by omega)]
  rfl
 have hE : gaE M (j : Int) = 0 := by unfold gaE; rw [a.cf, if_neg (by decide), if_pos hQ]
 obtain ⟨g1, g2⟩ := pa hE;rw [x0, x1] at g1 g2;exact ⟨hE, g1.trans n2, g2.trans n3⟩
theorem GvA.mute (a : GvA N ev R q1 M) {j : Nat} (hj : j < N) (hq : q1 j = true) : gaE M (j : Int) = 7 := by
 have hl := a.len;have h6 := a.sec j hj;have r0 : ct M (j : Int) 0 = 9 := uz a.cf (by omega) (a.dead j hj hq) (by omega);unfold gaE gaQ;rw [a.cf, if_neg (by decide), r0, al (show ¬ (9 : Int) = 0 by decide), Bool.and_false, Bool.false_and, Bool.false_and, Bool.false_and, if_neg (by decide)]
theorem GvA.adQ (a : GvA N ev R q1 M) : ∀ {k : Nat}, k <= N -> ((∀ j, j < k -> q1 j = true) /\ gaK M k = none) \/ ((∃ j, j < k /\ q1 j = false) /\ gaK M k = some ⟨ev, 9, R⟩)
 |0, _ => .inl ⟨fun j hj => absurd hj (by omega), rfl⟩
 |k + 1, hk => by
  have ih := a.adQ (k := k) (by omega);cases hq : q1 k
  ·obtain ⟨t1, t2, t3⟩ := a.tells (j := k) (by omega) hq;have hp : gaP M (k : Int) = ⟨ev, 9, R⟩ := by unfold gaP; rw [t2, t3]
   refine .inr ⟨⟨k, by omega, hq⟩, ?_⟩;rw [gaK, t2, hp];rcases ih with ⟨_, e⟩ | ⟨_, e⟩
   ·rw [e, if_pos ⟨t1, rfl⟩]
   ·rw [e, if_neg fun y => by have := y.2; unfold gaU at this; simp at this]
  ·have t1 := a.mute (j := k) (by omega) hq;have e1 : gaK M (k + 1) = gaK M k := by rw [gaK, if_neg fun y => by omega]
   rw [e1];rcases ih with ⟨i, e⟩ | ⟨⟨j, i, i2⟩, e⟩
   ·refine .inl ⟨fun j hj => ?_, e⟩;by_cases c : j = k
    ·subst c; exact hq
    ·exact i j (by omega)
   ·exact .inr ⟨⟨j, by omega, i2⟩, e⟩
theorem GvA.adj (a : GvA N ev R q1 M) : ∀ {k : Nat}, k <= N -> gaL M ⟨ev, 9, R⟩ k = lsK q1 R k
 |0, _ => rfl
 |k + 1, hk => by
  rw [gaL, lsK, a.adj (k := k) (by omega)];cases hq : q1 k
  ·obtain ⟨t1, t2, t3⟩ := a.tells (j := k) (by omega) hq;have : gaW M ⟨ev, 9, R⟩ k = true := by
    unfold gaW g7;rw [t1, t3];simp
   rw [if_pos this, if_neg (by decide)]
  ·have t1 := a.mute (j := k) (by omega) hq;have : gaW M ⟨ev, 9, R⟩ k = false := by
    unfold gaW;rw [t1, al (show ¬ (7 : Int) = 0 by decide), Bool.false_and, Bool.false_and, Bool.false_and]
   rw [this, if_neg (by decide), if_pos rfl]
theorem GvA.look (a : GvA N ev R q1 M) : ((∀ j, j < N -> q1 j = true) /\ glE M = 7 /\ glF M = bv) \/ ((∃ j, j < N /\ q1 j = false) /\ glE M = 0 /\ glF M = ⟨ev, 9, lsK q1 R N⟩) := by
 have hO : gaO M = gaK M N := by unfold gaO; rw [a.len]; rfl
 unfold glE glF;rw [a.cf, hO, if_neg (by decide), if_neg (by decide)];rcases a.adQ (Nat.le_refl N) with ⟨i, e⟩ | ⟨i, e⟩
 ·rw [e]; exact .inl ⟨i, rfl, rfl⟩
 ·rw [e];refine .inr ⟨i, rfl, ?_⟩
  show (⟨ev, 9, gaL M ⟨ev, 9, R⟩ R.m.toNat⟩ : Fnd) = _
  rw [a.geo.1, Int.toNat_natCast, a.adj (Nat.le_refl N)]
theorem GvA.fai (a : GvA N ev R q1 M) (q2 : Nat -> Bool) : GvA N ev R (fun j => q1 j || q2 j) (gL q2 M N) := by
 have hl := a.len;have hg := x9 (q := q2) (M := M) (k := N) (by omega);refine ⟨hg.cf.trans a.cf, hg.left.trans a.left, hg.len.trans hl, a.evs, a.fine, a.geo, fun j hj => ?_, ?_, fun j hj hq => ?_, fun j hj hq => ?_⟩
 ·rw [hg.at_ j]; split
  ·exact a.sec j hj
  ·exact a.sec j hj
 ·rw [hg.at_ N, if_neg fun y => by omega]; exact a.last
 ·rw [hg.at_ j];by_cases c : j < N /\ q2 j = true
  ·rw [if_pos c]
  ·rw [if_neg c];refine a.dead j hj ?_;cases h3 : q1 j
   ·rw [h3, Bool.false_or] at hq; exact absurd ⟨hj, hq⟩ c
   ·rfl
 ·have h3 : q1 j = false /\ q2 j = false := by simpa using hq
  rw [hg.at_ j, if_neg fun y => by rw [h3.2] at y; exact absurd y.2 (by decide)];exact a.now j hj h3.1
theorem vd (h1 : 3 <= N) (h2 : N <= 6) (q1 : Nat -> Bool) {e0 : Nat} (hev : e0 < 4294967296) :
  ∃ ev' R' M', fm 17 ⟨gL q1 (cp (szK N 4)) N, 9, e0, neR N 4⟩ = (0, ⟨M', 9, ev', R'⟩) /\ (e0 < ev' /\ ev' <= e0 + iC (ded (neR N 4) (gL q1 (cp (szK N 4)) N)) N + 1) /\ GvA N ev' R' q1 M' /\ (∀ j, j < N -> (sta R' j = 1 ↔ q1 j = true)) /\ (∀ j, j < N -> sta R' j = 0 \/ sta R' j = 1) /\ (iC (ded (neR N 4) (gL q1 (cp (szK N 4)) N)) N = 0 -> R' = neR N 4) := by
 have hk := zP h1 (by omega) (show (1 : Int) <= 4 by decide) (by decide) q1 e0;have hp := ua (ded (neR N 4) (gL q1 (cp (szK N 4)) N)) N;obtain ⟨ev', R', M', e, k1, k2, k3, k4, k5, _, k7, k8, k9⟩ := od 17 e0 _ _ hk (by rw [l7]; omega) (by omega);obtain ⟨r1, ⟨r2, r3, r4⟩, r5⟩ := oW 17 ⟨gL q1 (cp (szK N 4)) N, 9, e0, neR N 4⟩ hk.fine;rw [e] at r1 r2 r3 r4 r5;dsimp only at r1 r2 r3 r4 r5;rw [l7] at k3 k5 k7 k8 k9;have hf := x9 (q := q1) (M := cp (szK N 4)) (k := N) (by rw [fD]; omega);have hl : M'.ds.length = N + 1 := by rw [k5.len, hf.len, fD]
 have s0 : ∀ j, j < N -> sta R' j = 0 \/ sta R' j = 1 := fun j hj => by
  rcases r5 j with y | y
  ·exact .inl (y.trans (uD (by omega)))
  ·exact .inr y
 have s1 : ∀ j, j < N -> (sta R' j = 1 ↔ q1 j = true) := fun j hj => by
  rw [k7 j hj, qz hj, uD (by omega)];simp
 have hsl : ∀ j, j < N -> (M'.ds.getD j cd).S.length = 6 := fun j hj => by
  rw [k5.sl j, hf.at_ j, jt hj]
  split <;> simp
 have hN : (M'.ds.getD N cd).S.length = 50 := by
  rw [k5.hi N ai, hf.at_ N, if_neg fun y => by omega, gl];have : (szK N 4).getD N 0 = 50 := by
   unfold szK;simp [List.getD]
  simp only [List.getD, List.getElem?_map];rw [List.getD, List.getElem?_eq_getElem (by rw [jo]; omega)] at this;rw [List.getElem?_eq_getElem (by rw [jo]; omega)];simp only [Option.getD_some] at this;simp only [Option.map_some, Option.getD_some, this]
  rfl
 refine ⟨ev', R', M', e, ⟨k2, k3⟩, ⟨k1.cf, k1.left, hl, ⟨by omega, by omega⟩, r1, ⟨k4.trans rfl, r3, r4⟩, hsl, hN, fun j hj hq => ?_, fun j hj hq => ?_⟩, s1, s0, k9⟩
 ·rw [k5.gs j, qz hj]; exact hq
 ·rcases k8 j hj with y | y
  ·have := (s1 j hj).1 y;rw [hq] at this;cases this
  ·exact y
theorem xH (N : Nat) (d : Int) : gaE (cp (szK N 4)) d = 7 /\ glE (cp (szK N 4)) = 7 /\ glF (cp (szK N 4)) = bv := by
 have hz : ∀ e n, dY (cp (szK N 4)) e n = aF := fun e n => by
  unfold dY
  split
  ·have hL : ((cp (szK N 4)).dev e).L = [] /\ ∀ j, ((cp (szK N 4)).dev e).S.getD j aF = aF := by
    unfold aR.dev cp;simp only [List.getD, List.getElem?_map];cases ((szK N 4)[e.toNat]?) with
    |none => exact ⟨rfl, fun j => rfl⟩
    |some x =>
     refine ⟨rfl, fun j => ?_⟩;simp only [Option.map_some, Option.getD_some, List.getElem?_replicate]
     split <;> rfl
   unfold eU
   split
   ·rw [hL.1];exact hL.2 _
   ·rfl
  ·rfl
 have g : gsN aF = 0 := iY.2 (by rw [uK]; decide);have hd : ∀ e, gaE (cp (szK N 4)) e = 7 := fun e => by
  have hq : gaQ (cp (szK N 4)) e = false := by
   unfold gaQ gaX gaY nwE;rw [hz, hz, g, if_pos ⟨rfl, rfl⟩, al (show ¬ ((7 : Nat) = 0) by decide), Bool.and_false, Bool.false_and]
  unfold gaE;rw [hq, if_neg (show ¬ ((cp (szK N 4)).cf = true) from fun x => by cases x), if_neg (by decide)]
 have hk : ∀ k, gaK (cp (szK N 4)) k = none := fun k => by
  induction k with
  |zero => rfl
  |succ k ih => rw [gaK, hd, if_neg fun x => by omega, ih]
 refine ⟨hd d, ?_, ?_⟩
 ·unfold glE gaO;rw [hk, if_neg (show ¬ ((cp (szK N 4)).cf = true) from fun x => by cases x)]
 ·unfold glF gaO;rw [hk, if_neg (show ¬ ((cp (szK N 4)).cf = true) from fun x => by cases x)]
theorem aaZ : ∃ M', ke ⟨cp (szK 3 4), 9, 0, neR 3 4⟩ = 0 /\ iT ⟨cp (szK 3 4), 9, 0, neR 3 4⟩ = ⟨M', 9, 1, neR 3 4⟩ /\ glE M' = 0 /\ glF M' = ⟨1, 9, neR 3 4⟩ /\ glE (gv M' 0) = 0 /\ ∃ R2, glF (gv M' 0) = ⟨1, 9, R2⟩ /\ stN R2 = 2 := by
 obtain ⟨ev', R', M', e, k1, B, s1, s0, k9⟩ := vd (N := 3) (by omega) (by omega) (fun _ => false) (e0 := 0) (by omega);have e0 : gL (fun _ => false) (cp (szK 3 4)) 3 = cp (szK 3 4) := rfl;have hp : iC (ded (neR 3 4) (gL (fun _ => false) (cp (szK 3 4)) 3)) 3 = 0 := by rw [e0]; decide +kernel
 rw [hp] at k1;have hR := k9 hp;have hev : ev' = 1 := by omega
 subst hev hR;rw [e0] at e;refine ⟨M', by unfold ke; rw [e], by unfold iT; rw [e], ?_⟩;have h1 := B.look;have B2 := B.fai fun j => decide (j = 0)
 have e2 : gL (fun j => decide (j = 0)) M' 3 = gv M' 0 := rfl;rw [e2] at B2;have h2 := B2.look;rcases h1 with ⟨a, _⟩ | ⟨_, a1, a2⟩
 ·have := a 0 (by omega); cases this
 ·rcases h2 with ⟨b, _⟩ | ⟨_, b1, b2⟩
  ·have := b 1 (by omega); cases this
  ·exact ⟨a1, a2, b1, _, b2, by decide +kernel⟩
end
set_option linter.unusedSimpArgs false
theorem sj (a b : Int) (w : World) : (Instr.build 32 #[(0, .int .i64 a), (1, .int .i64 b), (2, .int .i64 40)]).run prog w = .ok (.agg #[.int .i64 a, .int .i64 b, .int .i64 40]) w := by kernel_rfl
theorem pT {ρ : Operand -> Value} {o : Oper} {x y z : Operand} {w : World} {a b : Int} (ho : o.op = .build 32 #[(0, x), (1, y), (2, z)]) (hx : ρ x = .int .i64 a) (hy : ρ y = .int .i64 b) (hz : ρ z = .int .i64 40) : (execOp ρ o).run prog w = .ok (.value (.agg #[.int .i64 a, .int .i64 b, .int .i64 40])) w := by
 unfold execOp;simp only [ho, hx, hy, hz, List.map_toArray, List.map_cons, List.map_nil, Sem.run_bind, sj, Result.andThen_ok, Sem.run_pure]
section
variable {ρ : Operand -> Value} {o : Oper} {x y : Operand} {w : World} {t r : TypeId} {v : Value} {a1 a2 : Addr}
theorem qR (op : BinOp) (t : TypeId) (x y : Operand) (a b : Option Addr) : (eqGuard op t x y (.pointer a) (.pointer b)).run prog w = .ok () w := by
 cases op <;> simp [eqGuard]
theorem oz {op : BinOp} {m n : Option Addr} (ho : o.op = .binOp op t x y r) (hx : ρ x = .pointer m) (hy : ρ y = .pointer n) (h : (binOp op t (.pointer m) (.pointer n)).run prog w = .ok v w) : (execOp ρ o).run prog w = .ok (.value v) w := by
 unfold execOp;simp only [ho, hx, hy, Sem.run_bind, qR, h, Result.andThen_ok, Sem.run_pure]
theorem lX {te : TypeId} (hp : prog.underlying t = some (.pointer te)) (m : Option Addr) (d : Nat) : (Op.equalIn (d + 1) t (.pointer m) (.pointer none)).run prog w = .ok (decide (m = none)) w := by
 cases m <;> simp [Op.equalIn, run_underlying hp]
theorem ka {te : TypeId} {m : Option Addr} (c : Bool) (hp : prog.underlying t = some (.pointer te)) (ho : o.op = .binOp .eql t x y r) (hx : ρ x = .pointer m) (hy : ρ y = .pointer none) (h : decide (m = none) = c) : (execOp ρ o).run prog w = .ok (.value (.bool c)) w := by
 subst h;refine oz ho hx hy ?_;simp only [binOp];simp [Op.equal, Op.maxDepth, lX hp m 9999]
theorem gd {te : TypeId} {m : Option Addr} (c : Bool) (hp : prog.underlying t = some (.pointer te)) (ho : o.op = .binOp .neq t x y r) (hx : ρ x = .pointer m) (hy : ρ y = .pointer none) (h : (!decide (m = none)) = c) : (execOp ρ o).run prog w = .ok (.value (.bool c)) w := by
 subst h;refine oz ho hx hy ?_;simp only [binOp];simp [Op.equal, Op.maxDepth, lX hp m 9999]
end
theorem abG {N : Nat} {s : Int} (hN : N <= 16) (hs : 1 <= s /\ s <= 64) : gW (szK N s) := by
 refine ⟨by rw [jo]; omega, by rw [jo]; omega, fun k hk => ?_⟩;unfold szK at hk;rcases List.mem_append.1 hk with h | h
 ·have := (List.mem_replicate.1 h).2; omega
 ·simp at h; omega
theorem zX {N : Nat} {s : Int} (h1 : 3 <= N) (h2 : N <= 16) (h3 : 1 <= s /\ s <= 64) {ev : Nat} (hev : ev <= 2305843009213693952) : lI (cp (szK N s)) 9 ev (neR N s) = true := by
 have hsec : ∀ k, k <= N -> mb (cp (szK N s)) (neR N s) k = true := fun k hk => by
  induction k with
  |zero => rfl
  |succ k ih =>
   refine oh (ih (by omega)) ?_;have e : dG (cp (szK N s)) (k : Int) = ((2 + s).toNat : Int) := by
    unfold dG;rw [if_pos (mi (by rw [fD]; omega))]
    show (((cp (szK N s)).ds.getD k cd).S.length : Int) = _
    rw [jt (by omega)]
    show ((List.replicate (2 + s).toNat aF).length : Int) = _
    rw [List.length_replicate]
   rw [e]
   show ¬ (((2 + s).toNat : Nat) : Int) < 2 + s
   omega
 unfold lI;rw [mT h1 h2 h3.1 h3.2, fD, show (neR N s).m.toNat = N from l7 N s, hsec N ai, al (show ¬ (9 : Nat) = 0 by decide), al (show ¬ 2305843009213693952 < ev by omega), am (show ((N + 1 : Nat) : Int) = (neR N s).m + 1 from rfl)]
 rfl
theorem abO {N : Nat} {s : Int} (h1 : 3 <= N) (h2 : N <= 16) (h3 : 1 <= s /\ s <= 64) : yM (neR N s) = neR N s /\ qp (neR N s) = 0 := by
 have hg : ez (neR N s) = true := am ⟨by show 3 <= (N : Int); omega, by show (N : Int) <= 16; omega, h3.1, h3.2, by show (40 : Int) <= 40; omega, by show (40 : Int) <= 256; omega⟩
 constructor
 ·unfold yM; rw [hg]; rfl
 ·unfold qp; rw [hg]; rfl
section
variable {id ev : Nat} {R : Ros} {M : aR} {k m : Nat} {h : HuS} {d : Int}
theorem dA {n : Nat} (h : Room M n) (hm : m <= n) : Room M m := ⟨by have := h.1; omega, h.2.1, fun d hd => by have := h.2.2 d hd; omega⟩
theorem acb (h : Room M (k + 1)) (s : Stp) : Room (pJ d M s) k := by
 cases s with
 |wr n b => exact pF h d n b
 |fl => exact aa0 h d
theorem adk (l : List Stp) : ∀ {M : aR}, Room M (k + l.length) -> Room (goB d M l) k := by
 induction l with
 |nil => intro M h; exact h
 |cons s l ih =>
  intro M h;rw [List.length_cons] at h;have h1 := acb (d := d) (k := k + l.length) h s;rw [goB]
  split
  ·exact ih h1
  ·exact dA h1 (by omega)
theorem yC (h : Room M (k + 2)) : Room (dw id ev R M m) k := by
 unfold dw
 split
 ·exact adk _ h
 ·exact dA h (by omega)
theorem o8 : ∀ (n m : Nat) (M : aR), Room M (k + 2 * n) -> Room (dh id ev R n m M).2.2 k
 |0, m, M, h => h
 |n + 1, m, M, h => by
  have h1 : Room (dw id ev R M m) (k + 2 * n) := yC (dA h (by omega));rw [dh]
  split
  ·exact o8 n (m + 1) M (dA h (by omega))
  ·split
   ·exact dA h1 (by omega)
   ·split
    ·exact o8 n (m + 1) _ h1
    ·exact dA h1 (by omega)
theorem tN (hf : bn R = true) : R.m.toNat <= 16 := by
 unfold bn at hf;simp only [Bool.and_eq_true] at hf;have := eI hf.1.1.1;omega
end
def pK (R : Ros) (j : Nat) : Bool := decide (sta R j ≠ 1)
structure OnS (h0 : HuS) (f : Nat) (h : HuS) : Prop where
 same : fm f h = fm 17 h0
 pot : iC (pK h.R) h.R.m.toNat < f
 fine : bn h.R = true
 id : h.id = h0.id
 m : h.R.m = h0.R.m
 ev : h.ev + f <= h0.ev + 17
 rm : Room h.M (34 * f)
theorem OnS.start {h : HuS} (hf : bn h.R = true) (hr : Room h.M 600) : OnS h 17 h :=
 ⟨rfl, by have := ua (pK h.R) h.R.m.toNat; have := tN hf; omega, hf, rfl, rfl, ai, dA hr (by omega)⟩
section
variable {h0 h : HuS} {f m : Nat} {e : Int} {M' : aR}
theorem OnS.pos (k : OnS h0 f h) : ∃ f', f = f' + 1 := ⟨f - 1, by have := k.pot; omega⟩
theorem OnS.fin (k : OnS h0 f h) (ho : dh h.id (h.ev + 1) h.R h.R.m.toNat 0 h.M = (none, e, M')) : ke h0 = e /\ iT h0 = ⟨M', h.id, h.ev + 1, h.R⟩ := by
 obtain ⟨f', rfl⟩ := k.pos;have := k.same;rw [fm] at this;simp only [ho] at this;unfold ke iT;rw [<- this];exact ⟨rfl, rfl⟩
theorem kf {id ev : Nat} {R : Ros} : ∀ (k m : Nat) (M : aR) {d : Nat} {e : Int} {M' : aR}, dh id ev R k m M = (some d, e, M') -> m <= d /\ d < m + k /\ sta R d ≠ 1
 |0, m, M, d, e, M', h => by rw [dh] at h; cases h
 |k + 1, m, M, d, e, M', h => by
  rw [dh] at h
  split at h
  ·obtain ⟨h1, h2, h3⟩ := kf k (m + 1) M h;exact ⟨by omega, by omega, h3⟩
  ·rename_i hs
   split at h
   ·cases h;exact ⟨ai, by omega, hs⟩
   ·split at h
    ·obtain ⟨h1, h2, h3⟩ := kf k (m + 1) _ h;exact ⟨by omega, by omega, h3⟩
    ·cases h
theorem OnS.go (k : OnS h0 f h) {d : Nat} (ho : dh h.id (h.ev + 1) h.R h.R.m.toNat 0 h.M = (some d, e, M')) : ∃ f', f = f' + 1 /\ OnS h0 f' ⟨M', h.id, h.ev + 1, cx h.R d⟩ := by
 obtain ⟨f', rfl⟩ := k.pos;obtain ⟨_, hd, hs⟩ := kf _ _ _ ho;have hl := pO k.fine (d := d) (by omega) hs;refine ⟨f', rfl, ?_⟩;have hq : pK h.R d = true := am hs;have hq' : pK (cx h.R d) d = false := by unfold pK; rw [hl.2 d, if_pos rfl]; rfl
 have hsub : ∀ j, pK (cx h.R d) j = true -> pK h.R j = true := fun j hj => by
  unfold pK at hj ⊢;rw [hl.2 j] at hj;by_cases e : j = d
  ·rw [if_pos e] at hj; simp at hj
  ·rwa [if_neg e] at hj
 have hlt := pL hsub hq hq' (n := h.R.m.toNat) (by omega);have hr : Room M' (34 * f') := by
  have hm := tN k.fine;have h1 := o8 (k := 34 * f' + 2) (id := h.id) (ev := h.ev + 1) (R := h.R) h.R.m.toNat 0 h.M (dA k.rm (by omega));rw [ho] at h1;exact dA h1 (by omega)
 refine ⟨?_, ?_, kT _ k.fine, k.id, hl.1.trans k.m, by have := k.ev; show h.ev + 1 + f' <= _; omega, hr⟩
 ·have := k.same;rw [fm] at this;simp only [ho] at this;exact this
 ·show iC (pK (cx h.R d)) (cx h.R d).m.toNat < f'
  rw [hl.1];have := k.pot;omega
theorem r7 {id ev : Nat} {R : Ros} {k m : Nat} {M : aR} (hs : sta R m ≠ 1) (he : dJ id ev R M m = 0) : dh id ev R (k + 1) m M = dh id ev R k (m + 1) (dw id ev R M m) := by
 rw [dh, if_neg hs, if_neg (by rw [he]; decide), if_pos he]
theorem sP {id ev : Nat} {R : Ros} {k m : Nat} {M : aR} (hs : sta R m = 1) : dh id ev R (k + 1) m M = dh id ev R k (m + 1) M := by rw [dh, if_pos hs]
theorem sR {id ev : Nat} {R : Ros} {k m : Nat} {M : aR} (hs : sta R m ≠ 1) (he : dJ id ev R M m = 9) : dh id ev R (k + 1) m M = (some m, 0, dw id ev R M m) := by rw [dh, if_neg hs, if_pos he]
theorem wc {id ev : Nat} {R : Ros} {k m : Nat} {M : aR} (hs : sta R m ≠ 1) (h0 : dJ id ev R M m ≠ 0) (h9 : dJ id ev R M m ≠ 9) : dh id ev R (k + 1) m M = (none, dJ id ev R M m, dw id ev R M m) := by rw [dh, if_neg hs, if_neg h9, if_neg h0]
end
structure adV (R : Ros) (M : aR) : Prop where
 cf : M.cf = false
 left : M.left = 0
 len : R.m.toNat < M.ds.length
 two : ∀ m, m < R.m.toNat -> 2 <= (M.ds.getD m cd).S.length
def HRm (h : HuS) : Prop := Room h.M 600 /\ h.ev <= 4611686018427387000
section
variable {id ev : Nat} {R : Ros} {M : aR} {k m : Nat} {h : HuS} {d : Int}
structure HR (k : Nat) (h : HuS) : Prop where
 rm : Room h.M (600 * k)
 ev : h.ev + 17 * k <= 4611686018427387000
 fine : bn h.R = true
 lit : adV h.R h.M
theorem HR.hrm (h' : HR (k + 1) h) : HRm h := ⟨dA h'.rm (by omega), by have := h'.ev; omega⟩
theorem HR.new {N : Nat} {s : Int} (h1 : 3 <= N) (h2 : N <= 16) (h3 : 1 <= s) (h4 : s <= 64) {n : Nat} (hn : n <= 1600) (id : Nat) : HR n ⟨cp (szK N s), id, 0, neR N s⟩ := ⟨qQ (by omega), by show 0 + _ <= _; omega, mT h1 h2 h3 h4, rfl, rfl, by show (neR N s).m.toNat < _; rw [l7, fD]; omega, fun m hm => by
 have hm' : m < (neR N s).m.toNat := hm;rw [l7] at hm';rw [jt hm']
 show 2 <= (List.replicate _ _).length
 rw [List.length_replicate];omega⟩
end
open Go.RowKit Go.ChangeShapes Go.WideShapes Go.ChangeAt Go.Deep
theorem np : prog.cellsOf 3 = 1 := by kernel_rfl
theorem aci : prog.cellsOf 30 = 1 := by kernel_rfl
theorem aaP : prog.cellsOf 4 = 1 := by kernel_rfl
section
variable {H : Type} {enc : TypeId × Value -> H} {W : World} {base : Nat} {v : Value} {d : DataW H} {p : List MemPlace}
theorem ads {m : Nat} {x : Value} {y : DataW H × List MemPlace} (h : DataW.trod enc prog W 0 (fun _ => true) true m 5 [x] = some y) : ∃ u : UInt8, x = .int .u8 (u.toNat : Int) := by
 obtain ⟨k, e, _, hw⟩ := DataW.trod_int underlying5 h;have hr : 0 <= k /\ k <= 255 := bounds_u8 hw;injection e with e;refine ⟨UInt8.ofNat k.toNat, ?_⟩;rw [e, UInt8.toNat_ofNat']
 congr 1
 omega
theorem nR {m : Nat} {x : Value} {y : DataW H × List MemPlace} (h : DataW.trod enc prog W 0 (fun _ => true) true m 3 [x] = some y) : ∃ k : Int, x = .int .i64 k := by
 obtain ⟨k, e, _, hw⟩ := DataW.trod_int underlying3 h;injection e with e;exact ⟨k, e⟩
theorem acv {m : Nat} {x : Value} {y : DataW H × List MemPlace} (h : DataW.trod enc prog W 0 (fun _ => true) true m 30 [x] = some y) : ∃ k : Nat, x = .int .u64 (k : Int) /\ k < 18446744073709551616 := by
 obtain ⟨k, e, _, hw⟩ := DataW.trod_int underlying30 h;have hr := bounds_u64 hw;injection e with e;obtain ⟨n, rfl⟩ := Int.eq_ofNat_of_zero_le hr.1;exact ⟨n, e, by omega⟩
theorem aak {m : Nat} {x : Value} {y : DataW H × List MemPlace} (h : DataW.trod enc prog W 0 (fun _ => true) true m 4 [x] = some y) : ∃ k : Bool, x = .bool k := by
 obtain ⟨k, e, _⟩ := DataW.trod_bool underlying4 h;injection e with e;exact ⟨k, e⟩
end
theorem uq : prog.cellsOf 35 = 21 := by kernel_rfl
theorem t8 : prog.cellsOf 32 = 3 := by kernel_rfl
theorem t0 : prog.cellsOf 33 = 16 := by kernel_rfl
section
variable {H : Type} {enc : TypeId × Value -> H} {W : World} {base : Nat} {v : Value} {d : DataW H} {p : List MemPlace}
theorem adN {fuel : Nat} {cs : List Value} {x : DataW H × List MemPlace} (h : DataW.trod enc prog W 0 (fun _ => true) true fuel 33 cs = some x) : ∃ v : Vector UInt8 16, cs = vals v.toList := by
 obtain ⟨xs, m, _, _, hlen, hn, hel⟩ := DataW.trod_array underlying33 h;rw [t0] at hlen;rw [uE] at hel;have hu : ∀ i : Fin 16, ∃ u : UInt8, cs[i.val]? = some (.int .u8 (u.toNat : Int)) := fun i => by
  have h1 := hel i.val i.isLt;have hi : i.val < cs.length := by have := i.isLt; omega
  have hd : (cs.drop (i.val * 1)).take 1 = [cs[i.val]] := by
   rw [Nat.mul_one, List.drop_eq_getElem_cons hi]
   rfl
  have hx : i.val < xs.length := by have := i.isLt; omega
  rw [hd, List.getElem?_eq_getElem hx] at h1;obtain ⟨u, hu⟩ := ads h1;exact ⟨u, by rw [List.getElem?_eq_getElem hi, hu]⟩
 obtain ⟨f, hf⟩ := Classical.axiomOfChoice hu;refine ⟨Vector.ofFn f, ?_⟩;apply List.ext_getElem?;intro i;by_cases hi : i < 16
 ·rw [hf ⟨i, hi⟩];simp [vals, hi]
 ·rw [List.getElem?_eq_none (by omega), List.getElem?_eq_none (by rw [bk]; simp; omega)]
theorem acI {fuel : Nat} {cs : List Value} {x : DataW H × List MemPlace} (h : DataW.trod enc prog W 0 (fun _ => true) true fuel 32 cs = some x) : ∃ m s r : Int, cs = [.int .i64 m, .int .i64 s, .int .i64 r] := by
 obtain ⟨xs, k, _, _, hlen, hn, hel⟩ := DataW.trod_struct underlying32 h;rw [t8] at hlen;have hn' : xs.length = 3 := hn
 match cs, hlen, xs, hn' with
 |[a, b, c], _, [y0, y1, y2], _ =>
  have e0 : DataW.trod enc prog W 0 (fun _ => true) true k 3 ((List.drop 0 [a, b, c]).take (prog.cellsOf 3)) = some y0 := hel 0 _ rfl;rw [np] at e0;have e1 : DataW.trod enc prog W 0 (fun _ => true) true k 3 ((List.drop 1 [a, b, c]).take (prog.cellsOf 3)) = some y1 := hel 1 _ rfl;rw [np] at e1;have e2 : DataW.trod enc prog W 0 (fun _ => true) true k 3 ((List.drop 2 [a, b, c]).take (prog.cellsOf 3)) = some y2 := hel 2 _ rfl;rw [np] at e2;obtain ⟨m, rfl⟩ := nR (show DataW.trod enc prog W 0 (fun _ => true) true k 3 [a] = some y0 from e0);obtain ⟨s, rfl⟩ := nR (show DataW.trod enc prog W 0 (fun _ => true) true k 3 [b] = some y1 from e1);obtain ⟨r, rfl⟩ := nR (show DataW.trod enc prog W 0 (fun _ => true) true k 3 [c] = some y2 from e2);exact ⟨m, s, r, rfl⟩
theorem acz {fuel : Nat} {cs : List Value} {x : DataW H × List MemPlace} (h : DataW.trod enc prog W 0 (fun _ => true) true fuel 35 cs = some x) : ∃ r : Ros, cs = aS r := by
 obtain ⟨xs, k, _, _, hlen, hn, hel⟩ := DataW.trod_struct underlying35 h;rw [uq] at hlen;have hn' : xs.length = 4 := hn
 match xs, hn' with
 |[y0, y1, y2, y3], _ =>
  have e0 : DataW.trod enc prog W 0 (fun _ => true) true k 32 ((List.drop 0 cs).take (prog.cellsOf 32)) = some y0 := hel 0 _ rfl;rw [t8] at e0;have e1 : DataW.trod enc prog W 0 (fun _ => true) true k 33 ((List.drop 3 cs).take (prog.cellsOf 33)) = some y1 := hel 1 _ rfl;rw [t0] at e1;have e2 : DataW.trod enc prog W 0 (fun _ => true) true k 3 ((List.drop 19 cs).take (prog.cellsOf 3)) = some y2 := hel 2 _ rfl;rw [np] at e2;have e3 : DataW.trod enc prog W 0 (fun _ => true) true k 4 ((List.drop 20 cs).take (prog.cellsOf 4)) = some y3 := hel 3 _ rfl;rw [aaP] at e3;obtain ⟨m, s, r, hg⟩ := acI (show DataW.trod enc prog W 0 (fun _ => true) true k 32 ((cs.drop 0).take 3) = some y0 from e0);obtain ⟨st, hst⟩ := adN (show DataW.trod enc prog W 0 (fun _ => true) true k 33 ((cs.drop 3).take 16) = some y1 from e1);have d2 : (cs.drop 19).take 1 = [cs[19]'(by omega)] := by rw [List.drop_eq_getElem_cons (by omega)]; rfl
  have d3 : (cs.drop 20).take 1 = [cs[20]'(by omega)] := by rw [List.drop_eq_getElem_cons (by omega)]; rfl
  obtain ⟨cur, hcur⟩ := nR (show DataW.trod enc prog W 0 (fun _ => true) true k 3 [cs[19]'(by omega)] = some y2 from by rw [<- d2]; exact e2);obtain ⟨gone, hgone⟩ := aak (show DataW.trod enc prog W 0 (fun _ => true) true k 4 [cs[20]'(by omega)] = some y3 from by rw [<- d3]; exact e3);refine ⟨⟨m, s, r, st, cur, gone⟩, ?_⟩;have hsplit : cs = (cs.drop 0).take 3 ++ ((cs.drop 3).take 16 ++ [cs[19]'(by omega), cs[20]'(by omega)]) := by
   have h3 : cs.drop 19 = [cs[19]'(by omega), cs[20]'(by omega)] := by
    rw [List.drop_eq_getElem_cons (by omega), List.drop_eq_getElem_cons (by omega), List.drop_of_length_le (by omega)]
   rw [<- h3, List.drop_zero];have h4 : (cs.drop 3).take 16 ++ cs.drop 19 = cs.drop 3 := by
    have := List.take_append_drop 16 (cs.drop 3);rwa [List.drop_drop] at this
   rw [h4, List.take_append_drop]
  rw [hsplit, hg, hst, hcur, hgone]
  rfl
end
theorem aap : prog.cellsOf 37 = 23 := by kernel_rfl
section
variable {H : Type} {enc : TypeId × Value -> H} {W : World} {base : Nat} {v : Value} {d : DataW H} {p : List MemPlace}
theorem acd {fuel : Nat} {cs : List Value} {x : DataW H × List MemPlace} (h : DataW.trod enc prog W 0 (fun _ => true) true fuel 37 cs = some x) : ∃ s : Sup, cs = aN s /\ s.id < 18446744073709551616 := by
 obtain ⟨xs, k, _, _, hlen, hn, hel⟩ := DataW.trod_struct underlying37 h;rw [aap] at hlen;have hn' : xs.length = 3 := hn
 match cs, hlen, xs, hn' with
 |a :: b :: r, hlen, [y0, y1, y2], _ =>
  have e0 : DataW.trod enc prog W 0 (fun _ => true) true k 30 ((List.drop 0 (a :: b :: r)).take (prog.cellsOf 30)) = some y0 := hel 0 _ rfl;rw [aci] at e0;have e1 : DataW.trod enc prog W 0 (fun _ => true) true k 3 ((List.drop 1 (a :: b :: r)).take (prog.cellsOf 3)) = some y1 := hel 1 _ rfl;rw [np] at e1;have e2 : DataW.trod enc prog W 0 (fun _ => true) true k 35 ((List.drop 2 (a :: b :: r)).take (prog.cellsOf 35)) = some y2 := hel 2 _ rfl;rw [uq] at e2;obtain ⟨id, rfl, hid⟩ := acv (show DataW.trod enc prog W 0 (fun _ => true) true k 30 [a] = some y0 from e0);obtain ⟨self, rfl⟩ := nR (show DataW.trod enc prog W 0 (fun _ => true) true k 3 [b] = some y1 from e1);have hr : r.take 21 = r := List.take_of_length_le (by simp at hlen; omega);obtain ⟨ro, hro⟩ := acz (show DataW.trod enc prog W 0 (fun _ => true) true k 35 (r.take 21) = some y2 from e2);exact ⟨⟨id, self, ro⟩, by rw [<- hr, hro]; rfl, hid⟩
end
theorem ab2 : prog.cellsOf 29 = 64 := by kernel_rfl
section
variable {H : Type} {enc : TypeId × Value -> H} {W : World} {base : Nat} {v : Value} {d : DataW H} {p : List MemPlace}
theorem abP {m : Nat} {x : Value} {y : DataW H × List MemPlace} (h : DataW.trod enc prog W 0 (fun _ => true) true m 5 [x] = some y) : ∃ u : UInt8, x = .int .u8 (u.toNat : Int) := by
 obtain ⟨k, e, _, hw⟩ := DataW.trod_int underlying5 h;have hr : 0 <= k /\ k <= 255 := bounds_u8 hw;injection e with e;refine ⟨UInt8.ofNat k.toNat, ?_⟩;rw [e, UInt8.toNat_ofNat']
 congr 1
 omega
theorem qd {fuel : Nat} {cs : List Value} {x : DataW H × List MemPlace} (h : DataW.trod enc prog W 0 (fun _ => true) true fuel 29 cs = some x) : ∃ b : Blk, cs = cel b := by
 obtain ⟨xs, m, _, _, hlen, hn, hel⟩ := DataW.trod_array pi h;rw [ab2] at hlen;rw [uE] at hel;have hu : ∀ i : Fin 64, ∃ u : UInt8, cs[i.val]? = some (.int .u8 (u.toNat : Int)) := fun i => by
  have h1 := hel i.val i.isLt;have hi : i.val < cs.length := by have := i.isLt; omega
  have hd : (cs.drop (i.val * 1)).take 1 = [cs[i.val]] := by
   rw [Nat.mul_one, List.drop_eq_getElem_cons hi]
   rfl
  have hx : i.val < xs.length := by have := i.isLt; omega
  rw [hd, List.getElem?_eq_getElem hx] at h1;obtain ⟨u, hu⟩ := abP h1;exact ⟨u, by rw [List.getElem?_eq_getElem hi, hu]⟩
 obtain ⟨f, hf⟩ := Classical.axiomOfChoice hu;refine ⟨Vector.ofFn f, ?_⟩;apply List.ext_getElem?;intro i;by_cases hi : i < 64
 ·rw [hf ⟨i, hi⟩, kg _ hi, kF _ hi];simp
 ·rw [List.getElem?_eq_none (by omega), List.getElem?_eq_none (by rw [aL]; omega)]
end
section
variable {H : Type} {enc : TypeId × Value -> H} {W : World} {base : Nat} {v : Value} {d : DataW H} {p : List MemPlace}
theorem ph {α : Type} (E : Elt α) (Good : α -> Prop) (hc : prog.cellsOf E.t = E.n) {fuel : Nat} {cs : List Value} {x : DataW H × List MemPlace} (hf : DataW.trod enc prog W 0 (fun _ => true) true fuel E.s cs = some x)
  (hE : ∀ (fuel : Nat) (cs : List Value) (x : DataW H × List MemPlace), DataW.trod enc prog W 0 (fun _ => true) true fuel E.t cs = some x -> ∃ a, cs = E.cel a /\ Good a) :
  ∃ (A : Option Addr) (n c : Nat) (l : List α), cs = [.slice A n c] /\ RdE E W W.heap.size A n l /\ n <= c /\ c <= maxLen /\ ∀ k, k < n -> Good (l.getD k E.d) := by
 rcases open_slice E.und hf with ⟨hcs, hx⟩ | ⟨a, len0, cap, m, n, D, Pl, hcs, hb, hl, hm, hmm, hx, hel⟩
 ·exact ⟨none, 0, 0, [], hcs, RdE.nil _ _ _, by omega, by unfold maxLen; omega, fun k hk => absurd hk (by omega)⟩
 ·simp only [if_true] at hmm;subst hmm
  haveI : Inhabited α := ⟨E.d⟩
  obtain ⟨f, hf2⟩ := choose_lt (α := α) (p := fun i b => W.cells? 0 (a.add (i * E.n)) E.n = some (E.cel b) /\ Good b) (n := m) (fun i hi => by
   obtain ⟨cs', h1, h2⟩ := hel i hi;rw [hc] at h1;obtain ⟨b, rfl, hg⟩ := hE _ _ _ h2;exact ⟨b, h1, hg⟩)
  have hp := E.pos;refine ⟨some a, len0, m, (List.range len0).map f, hcs, ⟨by simp, fun k hk => ?_⟩, hl, hm, fun k hk => ?_⟩
  ·obtain ⟨b, off, spot⟩ := a;have hzero : ∀ i, ∃ u, (E.cel (f i))[0]? = some u := fun i => ⟨_, List.getElem?_eq_getElem (by rw [E.len]; exact hp)⟩
   have hspot : spot = none := by
    obtain ⟨u, hu⟩ := hzero 0;have h0 := (World.cells?_some (hf2 0 (by omega)).1).2.2 0 hp;rw [hu] at h0;have := World.cell?_spot h0
    simpa [Addr.add] using this
   subst hspot;have hcc := World.cells?_some (hf2 k (by omega)).1;refine ⟨b, off, rfl, ?_, fun j u hj => ?_⟩
   ·obtain ⟨u, hu⟩ := hzero k;have h0 := hcc.2.2 0 hp;rw [hu, add_mid, add_mid] at h0;exact World.block_lt_of_cell? W _ h0
   ·have hlt : j < E.n := by have := (List.getElem?_eq_some_iff.1 hj).1; rwa [E.len] at this
    have h1 := hcc.2.2 j hlt;rw [add_mid, add_mid] at h1;rw [h1, <- hj];simp [List.getD, hk]
  ·simpa [List.getD, hk] using (hf2 k (by omega)).2
theorem vN {α : Type} (E : Elt α) (Good : α -> Prop) (hc : prog.cellsOf E.t = E.n) (hv : Value.okWide prog W .any base E.s v) (h : DataW.Trod enc prog W 0 (fun _ => true) true E.s v d p)
  (hE : ∀ (fuel : Nat) (cs : List Value) (x : DataW H × List MemPlace), DataW.trod enc prog W 0 (fun _ => true) true fuel E.t cs = some x -> ∃ a, cs = E.cel a /\ Good a) :
  ∃ (A : Option Addr) (n c : Nat) (l : List α), v = .slice A n c /\ RdE E W W.heap.size A n l /\ n <= c /\ c <= maxLen /\ ∀ k, k < n -> Good (l.getD k E.d) := by
 obtain ⟨a0, len0, cap0, rfl⟩ := okWide_slice E.und hv;obtain ⟨fuel, hf⟩ := h;obtain ⟨A, n, c, l, hcs, rest⟩ := ph E Good hc hf hE;simp [Value.cells] at hcs;obtain ⟨rfl, rfl, rfl⟩ := hcs;exact ⟨_, _, _, l, rfl, rest⟩
theorem l6 (fuel : Nat) (cs : List Value) (x : DataW H × List MemPlace) (h : DataW.trod enc prog W 0 (fun _ => true) true fuel 3 cs = some x) : ∃ a : Int, cs = [.int .i64 a] /\ (Lit.int .i64 a).wf = true := by
 obtain ⟨k, e, _, hw⟩ := DataW.trod_int underlying3 h;exact ⟨k, e, hw⟩
end
theorem qX {H : Type} {enc : TypeId × Value -> H} {W : World} (fuel : Nat) (cs : List Value) (x : DataW H × List MemPlace) (h : DataW.trod enc prog W 0 (fun _ => true) true fuel 30 cs = some x) : ∃ a : Nat, cs = [.int .u64 (a : Int)] /\ a < 18446744073709551616 := by
 obtain ⟨k, e, _, hw⟩ := DataW.trod_int underlying30 h;have hr := bounds_u64 hw;obtain ⟨n, rfl⟩ := Int.eq_ofNat_of_zero_le hr.1;exact ⟨n, e, by omega⟩
theorem nk {H : Type} {enc : TypeId × Value -> H} {W : World} (fuel : Nat) (cs : List Value) (x : DataW H × List MemPlace) (h : DataW.trod enc prog W 0 (fun _ => true) true fuel 5 cs = some x) : ∃ a : UInt8, cs = [.int .u8 (a.toNat : Int)] := by
 obtain ⟨k, e, _, hw⟩ := DataW.trod_int underlying5 h;have hr : 0 <= k /\ k <= 255 := bounds_u8 hw;refine ⟨UInt8.ofNat k.toNat, ?_⟩;rw [e, UInt8.toNat_ofNat']
 congr 2
 omega
theorem pI {H : Type} {enc : TypeId × Value -> H} {W : World} (fuel : Nat) (cs : List Value) (x : DataW H × List MemPlace) (h : DataW.trod enc prog W 0 (fun _ => true) true fuel 4 cs = some x) : ∃ a : Bool, cs = [.bool a] := by
 obtain ⟨k, e, _⟩ := DataW.trod_bool underlying4 h;exact ⟨k, e⟩
theorem gq {α : Type} (l : List α) (a k : Nat) : l.drop a = (l.drop a).take k ++ l.drop (a + k) := by
 conv => lhs; rw [<- List.take_append_drop k (l.drop a)]
 rw [List.drop_drop]
structure cg where
 D : Int
 N : Int
 Event : Nat
 S : Sup
 Any : Bool
 B : Blk
 At : UInt8
 By : UInt8
def cg.C (a : cg) : List Value := [.int .i64 a.D] ++ ([.int .i64 a.N] ++ ([.int .u64 (a.Event : Int)] ++ (aN a.S ++ ([.bool a.Any] ++ (cel a.B ++ ([.int .u8 (a.At.toNat : Int)] ++ ([.int .u8 (a.By.toNat : Int)])))))))
def cg.V (a : cg) : Value := .agg a.C.toArray
theorem cg.yk (a : cg) : a.C.length = 93 := by simp [cg.C, aL, aA]
theorem cg.adu (a : cg) : ∀ v ∈ a.C, v.oneCell' = true := by
 intro v hv;simp only [cg.C, List.mem_append, List.mem_singleton] at hv;rcases hv with rfl | rfl | rfl | hv | rfl | hv | rfl | rfl
 ·rfl
 ·rfl
 ·rfl
 ·exact kH _ v hv
 ·rfl
 ·exact kA _ v hv
 ·rfl
 ·rfl
def cg.zero : cg := ⟨0, 0, 0, aT, false, aF, 0, 0⟩
def gK : Elt cg where
 s := 22
 t := 39
 n := 93
 by_ := 168
 cel := cg.C
 d := cg.zero
 z := cg.zero.V
 pos := by omega
 small := by omega
 len := cg.yk
 one := cg.adu
 und := underlying22
 info := by kernel_rfl
 zc := by show (Value.cells (.agg _)).size = 93; simp [Value.cells, cg.yk]
def cg.In (W : World) (a : cg) : Prop := (-9223372036854775808 <= a.D /\ a.D <= 9223372036854775807) /\ (-9223372036854775808 <= a.N /\ a.N <= 9223372036854775807) /\ (a.Event < 18446744073709551616) /\ (a.S.id < 18446744073709551616)
section
variable {H : Type} {enc : TypeId × Value -> H} {W : World} {base : Nat} {v : Value} {d : DataW H} {p : List MemPlace}
theorem cg.aay (fuel : Nat) (cs : List Value) (x : DataW H × List MemPlace) (h : DataW.trod enc prog W 0 (fun _ => true) true fuel 39 cs = some x) : ∃ a : cg, cs = a.C /\ a.In W := by
 obtain ⟨xs, m, _, _, hlen, hxl, hf⟩ := DataW.trod_struct underlying39 h;have h0 : DataW.trod enc prog W 0 (fun _ => true) true m 3 ((cs.drop 0).take (prog.cellsOf 3)) = xs[0]? := hf 0 _ rfl;have h1 : DataW.trod enc prog W 0 (fun _ => true) true m 3 ((cs.drop 1).take (prog.cellsOf 3)) = xs[1]? := hf 1 _ rfl;have h2 : DataW.trod enc prog W 0 (fun _ => true) true m 30 ((cs.drop 2).take (prog.cellsOf 30)) = xs[2]? := hf 2 _ rfl;have h3 : DataW.trod enc prog W 0 (fun _ => true) true m 37 ((cs.drop 3).take (prog.cellsOf 37)) = xs[3]? := hf 3 _ rfl;have h4 : DataW.trod enc prog W 0 (fun _ => true) true m 4 ((cs.drop 26).take (prog.cellsOf 4)) = xs[4]? := hf 4 _ rfl;have h5 : DataW.trod enc prog W 0 (fun _ => true) true m 29 ((cs.drop 27).take (prog.cellsOf 29)) = xs[5]? := hf 5 _ rfl;have h6 : DataW.trod enc prog W 0 (fun _ => true) true m 5 ((cs.drop 91).take (prog.cellsOf 5)) = xs[6]? := hf 6 _ rfl;have h7 : DataW.trod enc prog W 0 (fun _ => true) true m 5 ((cs.drop 92).take (prog.cellsOf 5)) = xs[7]? := hf 7 _ rfl;have hxl2 : xs.length = 8 := hxl;have hln : cs.length = 93 := hlen.trans (by kernel_rfl);rw [show prog.cellsOf 3 = 1 from by kernel_rfl, List.getElem?_eq_getElem (by omega)] at h0;rw [show prog.cellsOf 3 = 1 from by kernel_rfl, List.getElem?_eq_getElem (by omega)] at h1;rw [show prog.cellsOf 30 = 1 from by kernel_rfl, List.getElem?_eq_getElem (by omega)] at h2;rw [show prog.cellsOf 37 = 23 from by kernel_rfl, List.getElem?_eq_getElem (by omega)] at h3;rw [show prog.cellsOf 4 = 1 from by kernel_rfl, List.getElem?_eq_getElem (by omega)] at h4;rw [show prog.cellsOf 29 = 64 from by kernel_rfl, List.getElem?_eq_getElem (by omega)] at h5;rw [show prog.cellsOf 5 = 1 from by kernel_rfl, List.getElem?_eq_getElem (by omega)] at h6;rw [show prog.cellsOf 5 = 1 from by kernel_rfl, List.getElem?_eq_getElem (by omega)] at h7;obtain ⟨a0, e0, w0⟩ := l6 _ _ _ h0;have b0 := bounds_i64 w0;obtain ⟨a1, e1, w1⟩ := l6 _ _ _ h1;have b1 := bounds_i64 w1;obtain ⟨a2, e2, b2⟩ := qX _ _ _ h2;obtain ⟨a3, e3, b3⟩ := acd h3;obtain ⟨a4, e4⟩ := pI _ _ _ h4;obtain ⟨a5, e5⟩ := qd h5;obtain ⟨a6, e6⟩ := nk _ _ _ h6;obtain ⟨a7, e7⟩ := nk _ _ _ h7;refine ⟨⟨a0, a1, a2, a3, a4, a5, a6, a7⟩, ?_, ⟨b0, b1, b2, b3⟩⟩;have q7 : cs.drop 92 = [.int .u8 (a7.toNat : Int)] := by rw [<- List.take_of_length_le (l := cs.drop 92) (i := 1) (by rw [List.length_drop]; omega)]; exact e7
 have q6 : cs.drop 91 = [.int .u8 (a6.toNat : Int)] ++ ([.int .u8 (a7.toNat : Int)]) := by rw [gq cs 91 1, e6, show 91 + 1 = 92 from rfl, q7]
 have q5 : cs.drop 27 = cel a5 ++ ([.int .u8 (a6.toNat : Int)] ++ ([.int .u8 (a7.toNat : Int)])) := by rw [gq cs 27 64, e5, show 27 + 64 = 91 from rfl, q6]
 have q4 : cs.drop 26 = [.bool a4] ++ (cel a5 ++ ([.int .u8 (a6.toNat : Int)] ++ ([.int .u8 (a7.toNat : Int)]))) := by rw [gq cs 26 1, e4, show 26 + 1 = 27 from rfl, q5]
 have q3 : cs.drop 3 = aN a3 ++ ([.bool a4] ++ (cel a5 ++ ([.int .u8 (a6.toNat : Int)] ++ ([.int .u8 (a7.toNat : Int)])))) := by rw [gq cs 3 23, e3, show 3 + 23 = 26 from rfl, q4]
 have q2 : cs.drop 2 = [.int .u64 (a2 : Int)] ++ (aN a3 ++ ([.bool a4] ++ (cel a5 ++ ([.int .u8 (a6.toNat : Int)] ++ ([.int .u8 (a7.toNat : Int)]))))) := by rw [gq cs 2 1, e2, show 2 + 1 = 3 from rfl, q3]
 have q1 : cs.drop 1 = [.int .i64 a1] ++ ([.int .u64 (a2 : Int)] ++ (aN a3 ++ ([.bool a4] ++ (cel a5 ++ ([.int .u8 (a6.toNat : Int)] ++ ([.int .u8 (a7.toNat : Int)])))))) := by rw [gq cs 1 1, e1, show 1 + 1 = 2 from rfl, q2]
 have q0 : cs.drop 0 = [.int .i64 a0] ++ ([.int .i64 a1] ++ ([.int .u64 (a2 : Int)] ++ (aN a3 ++ ([.bool a4] ++ (cel a5 ++ ([.int .u8 (a6.toNat : Int)] ++ ([.int .u8 (a7.toNat : Int)]))))))) := by rw [gq cs 0 1, e0, show 0 + 1 = 1 from rfl, q1]
 exact q0
theorem abB (hv : Value.okWide prog W .any base 22 v) (h : DataW.Trod enc prog W 0 (fun _ => true) true 22 v d p) :
  ∃ (A : Option Addr) (n c : Nat) (l : List cg), v = .slice A n c /\ RdE gK W W.heap.size A n l /\ n <= c /\ c <= maxLen /\ ∀ k, k < n -> (l.getD k cg.zero).In W :=
 vN gK (cg.In W) (by kernel_rfl) hv h (fun fuel cs x h => cg.aay fuel cs x h)
end
theorem cg.size : (prog.info? 39).map (·.size) = some 93 := by kernel_rfl
section
variable {ρ : Operand -> Value} {o : Oper} {x y : Operand} {w : World} {b off : Nat} {a c : cg}
theorem nQ (ho : o.op = .load 39 x) (hx : ρ x = .pointer (some ⟨b, off, none⟩)) (hc : w.rangeAt b off a.C) : (execOp ρ o).run prog w = .ok (.value a.V) w := eD underlying39 rfl (by rw [cg.yk]; exact cg.size) ho hx hc
theorem nY (ho : o.op = .box 39 x) (hx : ρ x = a.V) : (execOp ρ o).run prog w = .ok (.value (.pointer (some ⟨w.heap.size, 0, none⟩))) (w.alloc (.cells a.C.toArray 39)) := fg ho hx
end
section
variable {w w' : World} {b : Nat} {a : cg}
theorem xX : (Instr.fieldAt 39 (.pointer (some ⟨b, 0, none⟩)) 2).run prog w = .ok (.pointer (some ⟨b, 2, none⟩)) w := by kernel_rfl
theorem xh : (Instr.fieldAt 39 (.pointer (some ⟨b, 0, none⟩)) 3).run prog w = .ok (.pointer (some ⟨b, 3, none⟩)) w := by kernel_rfl
theorem rO : (Instr.fieldAt 39 (.pointer (some ⟨b, 0, none⟩)) 4).run prog w = .ok (.pointer (some ⟨b, 26, none⟩)) w := by kernel_rfl
theorem wY : (Instr.fieldAt 39 (.pointer (some ⟨b, 0, none⟩)) 5).run prog w = .ok (.pointer (some ⟨b, 27, none⟩)) w := by kernel_rfl
theorem rJ : (Instr.fieldAt 39 (.pointer (some ⟨b, 0, none⟩)) 6).run prog w = .ok (.pointer (some ⟨b, 91, none⟩)) w := by kernel_rfl
theorem ru : (Instr.fieldAt 39 (.pointer (some ⟨b, 0, none⟩)) 7).run prog w = .ok (.pointer (some ⟨b, 92, none⟩)) w := by kernel_rfl
def cg.At_ (w : World) (b : Nat) (a : cg) : Prop := w.heap[b]? = some (.cells a.C.toArray 39 (0, 0))
theorem cg.At_.range (h : cg.At_ w b a) : w.rangeAt b 0 a.C := br h
theorem cg.At_.new (w : World) (a : cg) : cg.At_ (w.alloc (.cells a.C.toArray 39)) w.heap.size a := heap_alloc_new w _
theorem cg.At_.f2 (h : cg.At_ w b a) : w.cell? ⟨b, 2, none⟩ = some (.int .u64 (a.Event : Int)) := by
 have := h.range 2 (.int .u64 (a.Event : Int)) (by
  show a.C[2]? = _
  rw [show 2 = 2 + 0 from rfl, <- List.getElem?_drop];rw [show a.C.drop 2 = [.int .u64 (a.Event : Int)] ++ (aN a.S ++ ([.bool a.Any] ++ (cel a.B ++ ([.int .u8 (a.At.toNat : Int)] ++ ([.int .u8 (a.By.toNat : Int)]))))) from ?_]
  ·rfl
  ·rfl)
 rwa [Nat.zero_add] at this
theorem cg.At_.f3 (h : cg.At_ w b a) : w.rangeAt b 3 (aN a.S) := fun j u hj => by
 have hl := (List.getElem?_eq_some_iff.1 hj).1;have := h.range (3 + j) u (by
  show a.C[3 + j]? = some u
  rw [<- List.getElem?_drop];rw [show a.C.drop 3 = aN a.S ++ ([.bool a.Any] ++ (cel a.B ++ ([.int .u8 (a.At.toNat : Int)] ++ ([.int .u8 (a.By.toNat : Int)])))) from ?_]
  ·first
   |exact hj
   |(rw [List.getElem?_append_left hl]; exact hj)
  ·rfl)
 rwa [Nat.zero_add] at this
theorem cg.At_.f4 (h : cg.At_ w b a) : w.cell? ⟨b, 26, none⟩ = some (.bool a.Any) := by
 have := h.range 26 (.bool a.Any) (by
  show a.C[26]? = _
  rw [show 26 = 26 + 0 from rfl, <- List.getElem?_drop];rw [show a.C.drop 26 = [.bool a.Any] ++ (cel a.B ++ ([.int .u8 (a.At.toNat : Int)] ++ ([.int .u8 (a.By.toNat : Int)]))) from ?_]
  ·rfl
  ·unfold cg.C; rw [show 26 = 1 + 25 from rfl, <- List.drop_drop, List.drop_left' (by rfl)]; rw [show 25 = 1 + 24 from rfl, <- List.drop_drop, List.drop_left' (by rfl)]; rw [show 24 = 1 + 23 from rfl, <- List.drop_drop, List.drop_left' (by rfl)]; rw [List.drop_left' (by exact aA _)])
 rwa [Nat.zero_add] at this
theorem cg.At_.f5 (h : cg.At_ w b a) : w.rangeAt b 27 (cel a.B) := fun j u hj => by
 have hl := (List.getElem?_eq_some_iff.1 hj).1;have := h.range (27 + j) u (by
  show a.C[27 + j]? = some u
  rw [<- List.getElem?_drop];rw [show a.C.drop 27 = cel a.B ++ ([.int .u8 (a.At.toNat : Int)] ++ ([.int .u8 (a.By.toNat : Int)])) from ?_]
  ·first
   |exact hj
   |(rw [List.getElem?_append_left hl]; exact hj)
  ·unfold cg.C; rw [show 27 = 1 + 26 from rfl, <- List.drop_drop, List.drop_left' (by rfl)]; rw [show 26 = 1 + 25 from rfl, <- List.drop_drop, List.drop_left' (by rfl)]; rw [show 25 = 1 + 24 from rfl, <- List.drop_drop, List.drop_left' (by rfl)]; rw [show 24 = 23 + 1 from rfl, <- List.drop_drop, List.drop_left' (by exact aA _)]; rw [List.drop_left' (by rfl)])
 rwa [Nat.zero_add] at this
theorem cg.At_.f6 (h : cg.At_ w b a) : w.cell? ⟨b, 91, none⟩ = some (.int .u8 (a.At.toNat : Int)) := by
 have := h.range 91 (.int .u8 (a.At.toNat : Int)) (by
  show a.C[91]? = _
  rw [show 91 = 91 + 0 from rfl, <- List.getElem?_drop];rw [show a.C.drop 91 = [.int .u8 (a.At.toNat : Int)] ++ ([.int .u8 (a.By.toNat : Int)]) from ?_]
  ·rfl
  ·unfold cg.C; rw [show 91 = 1 + 90 from rfl, <- List.drop_drop, List.drop_left' (by rfl)]; rw [show 90 = 1 + 89 from rfl, <- List.drop_drop, List.drop_left' (by rfl)]; rw [show 89 = 1 + 88 from rfl, <- List.drop_drop, List.drop_left' (by rfl)]; rw [show 88 = 23 + 65 from rfl, <- List.drop_drop, List.drop_left' (by exact aA _)]; rw [show 65 = 1 + 64 from rfl, <- List.drop_drop, List.drop_left' (by rfl)]; rw [List.drop_left' (by exact aL _)])
 rwa [Nat.zero_add] at this
theorem cg.At_.f7 (h : cg.At_ w b a) : w.cell? ⟨b, 92, none⟩ = some (.int .u8 (a.By.toNat : Int)) := by
 have := h.range 92 (.int .u8 (a.By.toNat : Int)) (by
  show a.C[92]? = _
  rw [show 92 = 92 + 0 from rfl, <- List.getElem?_drop];rw [show a.C.drop 92 = [.int .u8 (a.By.toNat : Int)] from ?_]
  ·rfl
  ·unfold cg.C; rw [show 92 = 1 + 91 from rfl, <- List.drop_drop, List.drop_left' (by rfl)]; rw [show 91 = 1 + 90 from rfl, <- List.drop_drop, List.drop_left' (by rfl)]; rw [show 90 = 1 + 89 from rfl, <- List.drop_drop, List.drop_left' (by rfl)]; rw [show 89 = 23 + 66 from rfl, <- List.drop_drop, List.drop_left' (by exact aA _)]; rw [show 66 = 1 + 65 from rfl, <- List.drop_drop, List.drop_left' (by rfl)]; rw [show 65 = 64 + 1 from rfl, <- List.drop_drop, List.drop_left' (by exact aL _)]; rw [List.drop_left' (by rfl)])
 rwa [Nat.zero_add] at this
end
theorem td {fn : Func} {p q u : Tmp} (h : fn.results = #[.tmp p, .tmp q, .tmp u]) (tmps : Array Value) (w : World) : (results fn tmps).run prog w = .ok (.tuple #[tmps.getD p undef, tmps.getD q undef, tmps.getD u undef]) w := by
 simp [results, h]
theorem q9 (P : n6) (N : Nat) (w : World) (h1 : 3 <= N) (h2 : N <= 16) : Calls prog 7 #[.int .i64 (N : Int)] w fun e w' => ∃ p q F G, e = .returned (.tuple #[.pointer (some ⟨p, 0, none⟩), .pointer (some ⟨q, 0, none⟩), .bool true]) /\ P.Bn w' F p (cp (szK N 4)) /\ bV.Bn w' G q (cp (szK N 4)) /\ (∀ b, F b -> ¬ G b) /\ (∀ b, F b \/ G b -> w.heap.size <= b) /\ Below w.heap.size w w' := by
 have HN := ae h2;have HOK := ae (abG (N := N) (s := 4) h2 (by omega));clear h1 h2;go_enter func7, ntmps7;go_upto_region 0 with fail;refine cy 3 ?_;go_upto_region 1 with fail;refine cy 1 ?_;go_upto_region 2 with fail;refine cy 1 ?_;go_wp2_with fail
 go_loopw [5, 6] (fun v z wr => ∃ i : Nat, z = .int .i64 i /\ i <= N /\ bF je wr w.heap.size v (List.replicate i (2 + 4)) /\ Below w.heap.size w wr) (fun _ z _ => N - (intOf z).toNat)
 case atStart => exact ⟨0, by go_num, Nat.zero_le _, bF.nil _ _, aj⟩
 case round =>
  obtain ⟨i, rfl, hi, hm, hb⟩ := hrel;have HM := ae hm;have HW := ae hb;have HBS : Hid (w.heap.size <= wr.heap.size) := ae hb.size;clear hm hb;by_cases hlt : i < N
  ·have HI := ae hlt;have HLT : Hid (decide ((i : Int) < (N : Int)) = true) := ae (am (by omega));have HA : Hid (IntKind.i64.wrap ((i : Int) + 1) = ((i + 1 : Nat) : Int)) := ae (by have := HN.out; rw [dx ⟨by omega, by omega⟩]; omega);have hsz : (wr.alloc (.cells #[.int .i64 6] 3)).heap.size = wr.heap.size + 1 := ak;obtain ⟨v2, w3, hrun, hm2, hg2⟩ := jf je (wr.alloc (.cells #[.int .i64 6] 3)) 77 w.heap.size (wr.heap.size + 1) 1 1 u5 (List.replicate i (2 + 4)) [6] (some ⟨wr.heap.size, 0, none⟩) (bF.below HM (aj.alloc ai _)) (iJ (E := je) (l := [6]) wr #[.int .i64 6] 3 rfl) (by have := HBS.out; omega) (by have := HN.out; simp; omega);have HRUN := ae hrun;have HM3 : Hid (bF je w3 w.heap.size v2 (List.replicate (i + 1) (2 + 4))) := ae (by rw [List.replicate_succ']; exact hm2);have HW3 : Hid (Below w.heap.size w w3) := ae ((HW.out.trans (aj.alloc HBS _)).grown hg2 (by have := HBS.out; omega) (fun j' hj' => HM.out.lG j' hj'));clear hi hlt hsz hrun hm2 hg2;go_upto_region 3 with fail;refine aV 2 ?_;refine aep (bi true rfl aez aez HLT) ?_;refine ag ?_;go_upto_region 5 with fail;refine aV 1 ?_;refine aep (ft (E := je) (a := 6) rfl evk rfl (by decide)) ?_;refine aep (jK (E := je) rfl aez aez HRUN) ?_;refine aK 1 ?_;go_upto_region 4 with fail;refine aV 1 ?_;refine aep (bU rfl aez evk HA) ?_;refine aK 1 ?_;go_wp2_with fail;go_roundw
   case rel => exact ⟨i + 1, by go_num, HI, HM3, HW3⟩
   case measure => have := HI.out; simp [intOf]; omega
  have hin : i = N := by omega
  subst hin;have HLT : Hid (decide ((i : Int) < (i : Int)) = false) := ae (al (by omega));have hsz : (wr.alloc (.cells #[.int .i64 50] 3)).heap.size = wr.heap.size + 1 := ak;obtain ⟨v2, w3, hrun, hm2, hg2⟩ := jf je (wr.alloc (.cells #[.int .i64 50] 3)) 77 w.heap.size (wr.heap.size + 1) 1 1 u5 (List.replicate i (2 + 4)) [50] (some ⟨wr.heap.size, 0, none⟩) (bF.below HM (aj.alloc ai _)) (iJ (E := je) (l := [50]) wr #[.int .i64 50] 3 rfl) (by have := HBS.out; omega) (by have := HN.out; simp; omega);have HRUN := ae hrun;have HM3 : Hid (bF je w3 w.heap.size v2 (szK i 4)) := ae hm2;have HW3 : Hid (Below w.heap.size w w3) := ae ((HW.out.trans (aj.alloc HBS _)).grown hg2 (by have := HBS.out; omega) (fun j' hj' => HM.out.lG j' hj'));clear hi hlt hsz hrun hm2 hg2;go_upto_region 3 with fail;refine aV 2 ?_;refine aep (bi false rfl aez aez HLT) ?_;refine ag ?_;go_upto_region 6 with fail;refine aV 1 ?_;refine aep (ft (E := je) (a := 50) rfl evk rfl (by decide)) ?_;refine aep (jK (E := je) rfl aez aez HRUN) ?_;refine aK 1 ?_;obtain ⟨A2, c2, rfl, e21, e22⟩ := HM3.out.form;have HR3 := ae HM3.out.rd;have HC2 := ae (And.intro e21 e22);have HB3 := ae HW3;clear e21 e22;go_upto_region 7 with fail;refine aV 1 ?_;refine ay rfl (aC call34 rfl (evc aez evn)) ?_;refine (P.new HR3 HC2.out.1 HC2.out.2).mono ?_;rintro e w4 ⟨b4, h4⟩;obtain ⟨_, p, F, rfl, n4, f4⟩ | ⟨h4, _⟩ := h4;rotate_left 1
  ·exact absurd HOK h4
  have HB4 := ae (HB3.out.trans (b4.mono HB3.out.size));have HN4 := ae n4;have HF4 : Hid (∀ b, F b -> w3.heap.size <= b) := ae f4;have HFL : Hid (∀ b, F b -> b < w4.heap.size) := ae fun b hb => P.toBen.lt n4 b hb
  have HR4 := ae (HM3.out.below b4).rd;clear b4 n4 f4;refine bm ?_;refine runs 3 ?_;refine aK 2 ?_;go_upto_region 8 with fail;refine aV 1 ?_;refine ay rfl (aC call35 rfl (evc aez evn)) ?_;refine (bV.new HR4 HC2.out.1 HC2.out.2).mono ?_;rintro e w5 ⟨b5, h5⟩;obtain ⟨_, q, G, rfl, n5, f5⟩ | ⟨h5, _⟩ := h5;rotate_left 1
  ·exact absurd HOK h5
  have HB5 := ae (HB4.out.trans (b5.mono HB4.out.size));have HN5 := ae (P.toBen.below HN4 b5);have HD5 := ae n5;have HG5 : Hid (∀ b, G b -> w4.heap.size <= b) := ae f5;clear b5 n5 f5;refine bm ?_;refine runs 3 ?_;refine aK 2 ?_;go_upto_region 9 with fail;refine aV 3 ?_;refine aep (aH true rfl aez evk rfl) ?_;refine runs 2 ?_;refine aew (aH true rfl aez evk rfl) ?_;refine runs 3 ?_;refine aK 1 ?_;go_wp2_with fail;have s3 := HB3.out.size;have s4 := HB4.out.size;exact bodyPost_ret (td rfl _ _) rfl ⟨p, q, F, G, rfl, HN5, HD5, (fun b h1 h2 => by have := HFL.out b h1; have := HG5.out b h2; omega), (fun b e => e.elim (fun h => ap s3 (HF4.out b h)) (fun h => ap s4 (HG5.out b h))), HB5⟩
def PAt (P : n6) (w0 : World) (B : Nat) (w : World) (p : Nat) (M : aR) : Prop := ∃ F, P.Bn w F p M /\ (∀ b, F b -> B <= b) /\ Below B w0 w /\ lu w0 B
theorem PAt.below {P : n6} {w0 w w' : World} {B p : Nat} {M : aR} (a : PAt P w0 B w p M) (k : Below w.heap.size w w') : PAt P w0 B w' p M := by
 obtain ⟨F, h1, h2, h3, h4⟩ := a;exact ⟨F, P.toBen.below h1 k, h2, h3.trans (k.mono (ap h4.le h3.size)), h4⟩
theorem xL (P : n6) (N : Nat) (w : World) (T : Tab w) (h1 : 3 <= N) (h2 : N <= 16) : Calls prog 7 #[.int .i64 (N : Int)] w fun e w' => ∃ p q, e = .returned (.tuple #[.pointer (some ⟨p, 0, none⟩), .pointer (some ⟨q, 0, none⟩), .bool true]) /\ PAt P w w.heap.size w' p (cp (szK N 4)) :=
 (q9 P N w h1 h2).mono fun e w' ⟨p, q, F, G, g1, g2, _, _, g5, g6⟩ => ⟨p, q, g1, F, g2, fun b e => g5 b (.inl e), g6, lu.start T⟩
theorem abd (P : n6) (N : Nat) (w : World) (T : Tab w) (h1 : 3 <= N) (h2 : N <= 16) : Calls prog 7 #[.int .i64 (N : Int)] w fun e w' => ∃ p q, e = .returned (.tuple #[.pointer (some ⟨p, 0, none⟩), .pointer (some ⟨q, 0, none⟩), .bool true]) /\ TwB P.toBen bV.toBen w w.heap.size (fun _ => False) w' p q (cp (szK N 4)) (cp (szK N 4)) :=
 (q9 P N w h1 h2).mono fun e w' ⟨p, q, F, G, g1, g2, g3, g4, g5, g6⟩ => ⟨p, q, g1, TwB.start T g2 g3 g4 g5 g6⟩
theorem n9 (x : Fnd) (w : World) : Calls prog 22 #[fnd x, fnd x] w fun e w' => e = .returned (.bool true) /\ Below w.heap.size w w' := by
 go_enter func22, ntmps22;go_upto_region 0 with fail;refine af ?_;refine aep (kq (c := x) rfl aez) ?_;have hbx := (Below.refl w.heap.size w).alloc ai (.cells (bu x).toArray 50);have HB1 := ae hbx;have X1 : Hid (ci _ _ x) := ae (heap_alloc_new w (.cells (bu x).toArray 50));obtain ⟨bX, hbX⟩ : ∃ bX, w.heap.size = bX := ⟨_, rfl⟩;rw [hbX] at X1 ⊢;clear hbx hbX;generalize w.alloc (.cells (bu x).toArray 50) = w1 at *;refine aep (kq (c := x) rfl aez) ?_;have hbx := (Below.refl w1.heap.size w1).alloc ai (.cells (bu x).toArray 50);have HB2 := ae (HB1.out.trans (hbx.mono HB1.out.size));have Y2 : Hid (ci _ _ x) := ae (heap_alloc_new w1 (.cells (bu x).toArray 50));have X2 : Hid (ci _ _ x) := ae (aB X1 hbx);obtain ⟨bY, hbY⟩ : ∃ bY, w1.heap.size = bY := ⟨_, rfl⟩;rw [hbY] at Y2 ⊢;clear hbx hbY;generalize w1.alloc (.cells (bu x).toArray 50) = w2 at *;refine aK 1 ?_;go_upto_region 1 with fail;refine af ?_;refine aep (ax rfl aez uj) ?_;refine aep (aE rfl aez (cO X2.out.cells.1)) ?_;refine aep (ax rfl aez uj) ?_;refine aep (aE rfl aez (cO Y2.out.cells.1)) ?_;refine aep (aH true rfl aez aez (beq_self_eq_true _)) ?_;refine runs 1 ?_;refine aew (ax rfl aez jX) ?_;refine aew (aE rfl aez (cO X2.out.cells.2)) ?_;refine aew (ax rfl aez jX) ?_;refine aew (aE rfl aez (cO Y2.out.cells.2)) ?_;refine aew (aH true rfl aez aez (beq_self_eq_true _)) ?_;refine runs 2 ?_;refine aew (ax rfl aez fe) ?_;refine aew (bq rfl aez X2.out.il) ?_;refine aew (ax rfl aez fe) ?_;refine aew (bq rfl aez Y2.out.il) ?_;refine ay aek (aC call33 rfl (evc aez (evc aez evn))) ?_;refine (xl x.R x.R w2).mono ?_;rintro e w3 ⟨rfl, b3⟩;have HB3 := ae (HB2.out.trans (b3.mono HB2.out.size));rw [am (rfl : x.R = x.R)];clear b3;refine bm ?_;refine aK 2 ?_;go_wp2_with fail;go_ret;exact ⟨rfl, HB3⟩
theorem aaB {w : World} {g j : Nat} (hj : j < 64) : (Instr.indexAt 29 (.pointer (some ⟨g, 0, none⟩)) (.int .u8 (j : Int))).run prog w = .ok (.pointer (some ⟨g, j, none⟩)) w := by
 have e : (0 <= (j : Int) /\ (j : Int) < 64) := by omega
 simp [Instr.indexAt, Instr.sureAddr, asIntOf, run_underlying underlying29, Tryz.sizeOf5, Addr.add_mid, e, hj]
theorem ur {w : World} {ad : Addr} {b : Bool} (h : w.cell? ad = some (.bool b)) : (Instr.loadAt 4 (.pointer (some ad))).run prog w = .ok (.bool b) w := by simp [go_sem, h]
theorem t9 {w : World} {ad : Addr} {n : Int} (h : w.cell? ad = some (.int .u8 n)) : (Instr.loadAt 5 (.pointer (some ad))).run prog w = .ok (.int .u8 n) w := by simp [go_sem, h]
theorem abl {w : World} {g j : Nat} {c : Blk} (h : w.heap[g]? = some (.cells (cel c).toArray 29 (0, 0))) (hj : j < 64) : ∃ u : UInt8, (Instr.loadAt 5 (.pointer (some ⟨g, j, none⟩))).run prog w = .ok (.int .u8 (u.toNat : Int)) w /\ w.cell? ⟨g, j, none⟩ = some (.int .u8 (u.toNat : Int)) := by
 have hl : j < (cel c).length := by rw [aL]; exact hj
 have hc : w.cell? ⟨g, j, none⟩ = some ((cel c)[j]) := by
  have := br h j ((cel c)[j]) (List.getElem?_eq_getElem hl);rwa [Nat.zero_add] at this
 obtain ⟨u, hu⟩ : ∃ u : UInt8, (cel c)[j] = .int .u8 (u.toNat : Int) := by
  refine ⟨c[j], ?_⟩;simp [cel, vals]
 rw [hu] at hc;exact ⟨u, by simp [go_sem, hc], hc⟩
theorem oT {w : World} {b i : Nat} {t : TypeId} {c : Blk} (v : UInt8) (h : w.heap[b]? = some (.cells (cel c).toArray t (0, 0))) (hi : i < 64) : (w.setCell ⟨b, i, none⟩ (.int .u8 (v.toNat : Int))).heap[b]? = some (.cells (cel (c.set i v)).toArray t (0, 0)) := by
 have := heap_setCell_same w b i _ t (.int .u8 (v.toNat : Int)) h;rw [<- aaI _ hi]
 simpa using this
theorem ng {w : World} {b : Nat} {t : TypeId} {c d : Blk} (h : w.heap[b]? = some (.cells (cel d).toArray t (0, 0))) : (w.setCells b 0 (cel c)).heap[b]? = some (.cells (cel c).toArray t (0, 0)) := by
 have := jw (cel c) 0 (cel d) w h;have e := kr (c := []) (cel c) [] (cel d) (by rw [aL, aL]);simp only [List.nil_append, List.append_nil, List.length_nil] at e;rwa [e] at this
theorem jV {a w : World} {B b j : Nat} {v : Value} (h : Below B a w) (hb : B <= b) : Below B a (w.setCell ⟨b, j, none⟩ v) := below_setCells (o := j) h hb [v]
theorem oM {ρ : Operand -> Value} {o : Oper} {x y : Operand} {w : World} {b j : Nat} {u : Value} {n : Int} (ho : o.op = .store 5 x y) (hx : ρ x = .pointer (some ⟨b, j, none⟩)) (hy : ρ y = .int .u8 n) (h : w.cell? ⟨b, j, none⟩ = some u) (hf : w.frozen? ⟨b, j, none⟩ = false) : (execOp ρ o).run prog w = .ok .skip (w.setCell ⟨b, j, none⟩ (.int .u8 n)) :=
 gB ho hx hy (by simp [go_sem, h, hf])
theorem vj (a : cg) (w0 : World) (hin : a.In w0) (w : World) : Calls prog 8 #[a.V] w fun e w' => ∃ c, e = .returned (blk c) /\ Below w.heap.size w w' := by
 obtain ⟨_, _, he, hs⟩ := hin;have HE := ae he;have HS := ae hs;obtain ⟨j, hj⟩ : ∃ j, a.At.toNat % 64 = j := ⟨_, rfl⟩;have HJ : Hid (j < 64) := ae (by omega);have HR : Hid ((a.At.toNat : Int).tmod 64 = (j : Int)) := ae (by rw [<- hj]; rfl);obtain ⟨an, han⟩ : ∃ an, a.Any = an := ⟨_, rfl⟩;have HAN := ae han;clear he hs hj han;go_enter func8, ntmps8;go_upto_region 0 with fail;refine af ?_;refine aep (nY rfl aez) ?_;have hbx := (Below.refl w.heap.size w).alloc ai (.cells a.C.toArray 39);have HB1 := ae hbx;have A1 := ae (cg.At_.new w a);have HGA : Hid (w.heap.size <= w.heap.size) := ae ai;obtain ⟨bA, hbA⟩ : ∃ bA, w.heap.size = bA := ⟨_, rfl⟩;rw [hbA] at A1 HGA ⊢;clear hbx hbA;generalize w.alloc (.cells a.C.toArray 39) = w1 at *;refine aep (bw rfl) ?_;have hbx := (Below.refl w1.heap.size w1).alloc ai (.cells (cel aF).toArray 29);have HB2 := ae (HB1.out.trans (hbx.mono HB1.out.size));have R2 := ae (heap_alloc_new w1 (.cells (cel aF).toArray 29));have A2 : Hid (cg.At_ _ bA a) := ae (aB A1 hbx);have HGR : Hid (w.heap.size <= w1.heap.size) := ae (HB1.out.size);obtain ⟨bR, hbR⟩ : ∃ bR, w1.heap.size = bR := ⟨_, rfl⟩;rw [hbR] at R2 HGR ⊢;clear hbx hbR;generalize w1.alloc (.cells (cel aF).toArray 29) = w2 at *;refine ag ?_;go_upto_region 1 with fail;refine af ?_;refine aep (ax rfl aez wY) ?_;refine aep (bf (c := a.B) rfl aez A2.out.f5) ?_;refine aep (bw rfl) ?_;refine az rfl (e9 (c := a.B) rfl (ev rfl) (ev rfl)) ?_;simp only [aa];have hbx := (Below.refl w2.heap.size w2).alloc ai (.cells (cel a.B).toArray 29);have HB3 := ae (HB2.out.trans (hbx.mono HB2.out.size));have X3 := ae (heap_alloc_new w2 (.cells (cel a.B).toArray 29));have A3 : Hid (cg.At_ _ bA a) := ae (aB A2 hbx);have R3 := ae (aB R2 hbx);have HGX : Hid (w.heap.size <= w2.heap.size) := ae (HB2.out.size);obtain ⟨bX, hbX⟩ : ∃ bX, w2.heap.size = bX := ⟨_, rfl⟩;have HX2S := ae hbX;rw [hbX] at X3 HGX ⊢;clear hbx hbX;generalize w2.alloc (.cells (cel a.B).toArray 29) = w3 at *;refine ag ?_;have HNE : Hid (bR ≠ bX /\ bA ≠ bX) := ae (by
  refine ⟨fun e => ?_, fun e => ?_⟩
  ·have h1 := aY R2;have h2 := HX2S.out;omega
  ·have h1 := aY A2;have h2 := HX2S.out;omega)
 cases an;rotate_left 1
 ·go_upto_region 2 with fail;refine af ?_;refine aep (ax rfl aez rO) ?_;refine aep (aE rfl aez (ur (A3.out.f4.trans (by rw [HAN.out])))) ?_;refine aK 1 ?_;obtain ⟨u, hld, hcell⟩ := abl X3 HJ;have HLD := ae hld;have HCL := ae hcell;have HFZ : Hid ((World.drew w3).frozen? ⟨bX, j, none⟩ = false) := ae (frozen_of_row (World.drew w3) bX j _ _ X3);have HLD' : Hid ((Instr.loadAt 5 (.pointer (some ⟨bX, j, none⟩))).run prog (World.drew w3) = .ok (.int .u8 (u.toNat : Int)) (World.drew w3)) := ae (by
   have := hcell;have h2 : (World.drew w3).cell? ⟨bX, j, none⟩ = some (.int .u8 (u.toNat : Int)) := hcell;simp [go_sem, h2])
  clear hld hcell;go_upto_region 4 with fail;refine wp_region_still_tail 9 (by kernel_rfl) (by kernel_rfl) ?_;simp only [ac];refine aM rfl (ax rfl aez rJ) ?_;simp only [aa];refine aM rfl (aE rfl aez (t9 (A3.out.f6))) ?_;simp only [aa];refine aM rfl (fw rfl aez evk (by decide) HR) ?_;simp only [aa];refine aM rfl (cD rfl aez aez (aaB HJ)) ?_;simp only [aa];refine aM rfl (aE rfl aez HLD') ?_;simp only [aa];refine aM rfl (ax rfl aez ru) ?_;simp only [aa];refine aM rfl (aE rfl aez (t9 (A3.out.f7))) ?_;simp only [aa];refine aM rfl (oc rfl aez aez) ?_;simp only [aa];refine aM rfl (cD rfl aez aez (aaB HJ)) ?_;simp only [aa];refine wpStill_nil ?_;change wpList _ _ _ _ _ (World.drew _);refine az rfl (oM rfl (ev rfl) (ev rfl) (show (World.drew w3).cell? _ = _ from HCL.out) HFZ.out) ?_;simp only [aa];have XF := ae (oT (w := World.drew w3) (u ^^^ a.By) X3 HJ);have BF := ae (jV (j := j) (v := .int .u8 ((u ^^^ a.By).toNat : Int)) (bd HB3) HGX);have RF : Hid (((World.drew w3).setCell ⟨bX, j, none⟩ (.int .u8 ((u ^^^ a.By).toNat : Int))).heap[bR]? = _) := ae ((ch bX [.int .u8 ((u ^^^ a.By).toNat : Int)] j (World.drew w3) bR HNE.out.1).trans R3);generalize (World.drew w3).setCell ⟨bX, j, none⟩ (.int .u8 ((u ^^^ a.By).toNat : Int)) = wf at *;refine ag ?_;obtain ⟨c, hc⟩ : ∃ c, a.B.set j (u ^^^ a.By) = c := ⟨_, rfl⟩;rw [hc] at XF;clear hc;go_upto_region 5 with fail;refine af ?_;refine aep (bf (c := c) rfl aez (br XF)) ?_;refine az rfl (bD (c := c) rfl (ev rfl) (ev rfl) (eF RF.out)) ?_;simp only [aa];have RZ := ae (ng (c := c) RF);have BZ := ae (below_setCells BF HGR (o := 0) (cel c));generalize wf.setCells bR 0 (cel c) = wz at *;refine ag ?_;go_wp2_with fail;exact bodyPost_ret (uH rfl _ _ _ rfl (br RZ)) rfl ⟨c, rfl, BZ⟩
 go_upto_region 2 with fail;refine af ?_;refine aep (ax rfl aez rO) ?_;refine aep (aE rfl aez (ur (A3.out.f4.trans (by rw [HAN.out])))) ?_;refine aK 1 ?_;go_upto_region 3 with fail;refine af ?_;refine aep (ax rfl aez xX) ?_;refine aep (aE rfl aez (cO A3.out.f2)) ?_;refine aep (ax rfl aez xh) ?_;refine aep (bz (c := a.S) rfl aez A3.out.f3) ?_;refine ay rfl (aC call36 rfl (evc aez (evc aez evn))) ?_;refine (acB a.Event a.S w3 HE HS).mono ?_;rintro e w4 ⟨rfl, b4⟩;have HB4 := ae (HB3.out.trans (b4.mono HB3.out.size));have A4 : Hid (cg.At_ w4 bA a) := ae (aB A3 b4);have R4 := ae (aB R3 b4);have X4 := ae (aB X3 b4);clear b4;refine bm ?_;refine runs 3 ?_;refine az rfl (bD (c := eE a.Event a.S) rfl (ev rfl) (ev rfl) (eF X4.out)) ?_;simp only [aa];have X5 := ae (ng (c := eE a.Event a.S) X4);have HB5 := ae (below_setCells HB4 HGX (o := 0) (cel (eE a.Event a.S)));have A5 : Hid (cg.At_ (w4.setCells bX 0 (cel (eE a.Event a.S))) bA a) := ae ((ch bX _ 0 _ bA HNE.out.2).trans A4);have R5 := ae ((ch bX (cel (eE a.Event a.S)) 0 w4 bR HNE.out.1).trans R4);generalize w4.setCells bX 0 (cel (eE a.Event a.S)) = w5 at *;refine ag ?_;obtain ⟨u, hld, hcell⟩ := abl X5 HJ;have HLD := ae hld;have HCL := ae hcell;have HFZ : Hid ((World.drew w5).frozen? ⟨bX, j, none⟩ = false) := ae (frozen_of_row (World.drew w5) bX j _ _ X5);have HLD' : Hid ((Instr.loadAt 5 (.pointer (some ⟨bX, j, none⟩))).run prog (World.drew w5) = .ok (.int .u8 (u.toNat : Int)) (World.drew w5)) := ae (by
  have := hcell;have h2 : (World.drew w5).cell? ⟨bX, j, none⟩ = some (.int .u8 (u.toNat : Int)) := hcell;simp [go_sem, h2])
 clear hld hcell;go_upto_region 4 with fail;refine wp_region_still_tail 9 (by kernel_rfl) (by kernel_rfl) ?_;simp only [ac];refine aM rfl (ax rfl aez rJ) ?_;simp only [aa];refine aM rfl (aE rfl aez (t9 (A5.out.f6))) ?_;simp only [aa];refine aM rfl (fw rfl aez evk (by decide) HR) ?_;simp only [aa];refine aM rfl (cD rfl aez aez (aaB HJ)) ?_;simp only [aa];refine aM rfl (aE rfl aez HLD') ?_;simp only [aa];refine aM rfl (ax rfl aez ru) ?_;simp only [aa];refine aM rfl (aE rfl aez (t9 (A5.out.f7))) ?_;simp only [aa];refine aM rfl (oc rfl aez aez) ?_;simp only [aa];refine aM rfl (cD rfl aez aez (aaB HJ)) ?_;simp only [aa];refine wpStill_nil ?_;change wpList _ _ _ _ _ (World.drew _);refine az rfl (oM rfl (ev rfl) (ev rfl) (show (World.drew w5).cell? _ = _ from HCL.out) HFZ.out) ?_;simp only [aa];have XF := ae (oT (w := World.drew w5) (u ^^^ a.By) X5 HJ);have BF := ae (jV (j := j) (v := .int .u8 ((u ^^^ a.By).toNat : Int)) (bd HB5) HGX);have RF : Hid (((World.drew w5).setCell ⟨bX, j, none⟩ (.int .u8 ((u ^^^ a.By).toNat : Int))).heap[bR]? = _) := ae ((ch bX [.int .u8 ((u ^^^ a.By).toNat : Int)] j (World.drew w5) bR HNE.out.1).trans R5);generalize (World.drew w5).setCell ⟨bX, j, none⟩ (.int .u8 ((u ^^^ a.By).toNat : Int)) = wf at *;refine ag ?_;obtain ⟨c, hc⟩ : ∃ c, (eE a.Event a.S).set j (u ^^^ a.By) = c := ⟨_, rfl⟩;rw [hc] at XF;clear hc;go_upto_region 5 with fail;refine af ?_;refine aep (bf (c := c) rfl aez (br XF)) ?_;refine az rfl (bD (c := c) rfl (ev rfl) (ev rfl) (eF RF.out)) ?_;simp only [aa];have RZ := ae (ng (c := c) RF);have BZ := ae (below_setCells BF HGR (o := 0) (cel c));generalize wf.setCells bR 0 (cel c) = wz at *;refine ag ?_;go_wp2_with fail;exact bodyPost_ret (uH rfl _ _ _ rfl (br RZ)) rfl ⟨c, rfl, BZ⟩
section
variable {C : pj} {w0 w w' : World} {B q p : Nat} {K K' : Nat -> Prop} {h h' : HuS}
theorem HAt.gat (I : qo C.R) (a : HAt C w0 B K w q p h) {x : Fnd} {e : Int} (hx : glF h.M = x) (he : glE h.M = e) : Calls prog 20 #[.pointer (some ⟨q, 0, none⟩)] w fun r w' => r = .returned (.tuple #[fnd x, .int .i64 e]) /\ Below w.heap.size w w' := by
 subst hx he;obtain ⟨G, h1, h2, h3, h4, h5⟩ := a;obtain ⟨Gb, b1, _⟩ := C.ben h1;exact I.look b1 (h4.tab h3)
end
section
variable {P : n6} {w0 w w' : World} {B p : Nat} {M : aR}
theorem PAt.tab (a : PAt P w0 B w p M) : Tab w := by
 obtain ⟨F, h1, h2, h3, h4⟩ := a;exact h4.tab h3
theorem PAt.gat (I : qo P) (a : PAt P w0 B w p M) {x : Fnd} {e : Int} (hx : glF M = x) (he : glE M = e) : Calls prog 20 #[.pointer (some ⟨p, 0, none⟩)] w fun r w' => r = .returned (.tuple #[fnd x, .int .i64 e]) /\ Below w.heap.size w w' := by
 subst hx he;have T := a.tab;obtain ⟨F, h1, _⟩ := a;exact I.look h1 T
theorem PAt.sup (I : qo P) (d : Int) (a : PAt P w0 B w p M) {x : Sup} {n : Nat} {e : Int} (hn : gaN M d = n) (hx : gaS M d = x) (he : gaE M d = e) : Calls prog 18 #[.pointer (some ⟨p, 0, none⟩), .int .i64 d] w fun r w' => r = .returned (.tuple #[.int .u64 (n : Int), sup x, .int .i64 e]) /\ Below w.heap.size w w' := by
 subst hn hx he;have T := a.tab;obtain ⟨F, h1, _⟩ := a;exact I.super d h1 T
end
section
variable {P : n6} {Q : adf} {w0 w w' : World} {B q p : Nat} {K K' : Nat -> Prop} {M N : aR}
theorem TwB.pat (a : TwB P.toBen Q.toBen w0 B K w p q M N) : PAt P w0 B w p M := by
 obtain ⟨F, G, h1, h2, h3, h4, h5, h6, h7⟩ := a;exact ⟨F, h1, fun b e => h4 b (.inl e), h5, h6⟩
theorem TwB.gat (I : qo P) (a : TwB P.toBen Q.toBen w0 B K w p q M N) {x : Fnd} {e : Int} (hx : glF M = x) (he : glE M = e) : Calls prog 20 #[.pointer (some ⟨p, 0, none⟩)] w fun r w' => r = .returned (.tuple #[fnd x, .int .i64 e]) /\ Below w.heap.size w w' := a.pat.gat I hx he
theorem TwB.sup (I : qo P) (d : Int) (a : TwB P.toBen Q.toBen w0 B K w p q M N) {x : Sup} {n : Nat} {e : Int} (hn : gaN M d = n) (hx : gaS M d = x) (he : gaE M d = e) : Calls prog 18 #[.pointer (some ⟨p, 0, none⟩), .int .i64 d] w fun r w' => r = .returned (.tuple #[.int .u64 (n : Int), sup x, .int .i64 e]) /\ Below w.heap.size w w' := a.pat.sup I d hn hx he
end
theorem aaL (N : Nat) (d : Int) : gaN (cp (szK N 4)) d = 0 /\ gaS (cp (szK N 4)) d = aT := lP (by rw [(xH N d).1]; decide)
theorem ub (C : pj) (I : qo C.R) (w : World) (T : Tab w) : Calls prog 23 #[] w fun e w' => e = .returned (.bool true) /\ Below w.heap.size w w' := by
 obtain ⟨z0, hz0⟩ : ∃ z0 : HuS, (⟨cp (szK 3 4), 9, 0, neR 3 4⟩ : HuS) = z0 := ⟨_, rfl⟩;obtain ⟨M', hs1, hs2, l1, l2, l3, R2, l4, l5⟩ := aaZ;rw [hz0] at hs1 hs2;obtain ⟨M0, hm0⟩ : ∃ M0, cp (szK 3 4) = M0 := ⟨_, rfl⟩;have hr : HR 60 z0 := by rw [<- hz0]; exact HR.new (by omega) (by omega) (by omega) (by omega) (by omega) 9
 have hg := xH 3 3;have hgz := aaL 3 3;have hzM : z0 = ⟨M0, 9, 0, neR 3 4⟩ := by rw [<- hz0, hm0]
 rw [hm0] at hg hgz;have HT := ae T;have HM0 := ae hm0;have HZM := ae hzM;have HRM : Hid (Room z0.M 600 /\ z0.ev <= 4611686018427387000) := ae (HR.hrm (k := 59) hr);have HS1 := ae hs1;have HS2 := ae hs2;have HL := ae (And.intro l1 (And.intro l2 (And.intro l3 (And.intro l4 l5))));have HG := ae hg;have HGZ := ae hgz;have HNW := ae (abO (N := 3) (s := 4) (by omega) (by omega) (by omega));have HH : Hid (lI M0 9 0 (neR 3 4) = true) := ae (by rw [<- hm0]; exact zX (N := 3) (s := 4) (by omega) (by omega) (by omega) (ev := 0) (by omega));have HST : Hid (((stN (neR 3 4) : Nat) : Int) = 1) := ae (by decide +kernel);clear T hz0 hs1 hs2 l1 l2 l3 l4 l5 hr hg hgz hm0 hzM;go_enter func23, ntmps23;go_upto_region 0 with fail;refine cy 1 ?_;go_upto_region 1 with fail;refine af ?_;refine ay rfl (aC call7 rfl (evc evk evn)) ?_;refine (xL C.R 3 w HT (by omega) (by omega)).mono ?_;rintro e w1 ⟨p, q, rfl, a1⟩;rw [HM0.out] at a1;have HA1 := ae a1;clear a1;refine bm ?_;refine runs 3 ?_;refine runs 3 ?_;refine aK 1 ?_;go_upto_region 2 with fail;refine af ?_;refine aep (pT rfl evk evk evk) ?_;refine ay rfl (aC call26 rfl (evc aez evn)) ?_;rw [show Value.agg #[Value.int .i64 3, Value.int .i64 4, Value.int .i64 40] = geo (neR 3 4) from rfl];refine (acx (x := neR 3 4) (w := w1) HNW.out.1 HNW.out.2).mono ?_;rintro e w2 ⟨rfl, b_⟩;have HA2 := ae (HA1.out.below b_);clear b_;refine bm ?_;refine runs 3 ?_;refine aep (cn rfl) ?_;refine az rfl (nL rfl (ev rfl) (ev rfl)) ?_;simp only [aa];have hx := (Below.refl w2.heap.size w2).alloc ai (.cells (aS (neR 3 4)).toArray 35);have HX3 := ae (bQ.new w2 (neR 3 4));have HA3 := ae (HA2.out.below hx);clear hx;obtain ⟨b4, hb4⟩ : ∃ b4, w2.heap.size = b4 := ⟨_, rfl⟩;rw [hb4] at HX3 ⊢;clear hb4;generalize w2.alloc (.cells (aS (neR 3 4)).toArray 35) = w3 at *;refine aK 1 ?_;go_upto_region 3 with fail;refine aV 3 ?_;refine runs 1 ?_;refine aew (aI false rfl aez evk rfl) ?_;refine aK 1 ?_;go_upto_region 5 with fail;refine aV 1 ?_;refine ay rfl (aC call20 rfl (evc aez evn)) ?_;refine (HA3.out.gat I HG.out.2.2 HG.out.2.1).mono ?_;rintro e w4 ⟨rfl, b_⟩;have HA4 := ae (HA3.out.below b_);have HX4 := ae (HX3.out.below (aY HX3) b_);clear b_;refine bm ?_;refine runs 3 ?_;refine aep (cW rfl) ?_;refine az rfl (dO (c := bv) rfl (ev rfl) (ev rfl)) ?_;simp only [aa];have hx := (Below.refl w4.heap.size w4).alloc ai (.cells (bu bv).toArray 50);have HA5 := ae (HA4.out.below hx);have HX5 := ae (HX4.out.below (aY HX4) hx);clear hx;generalize w4.alloc (.cells (bu bv).toArray 50) = w5 at *;refine aK 1 ?_;go_upto_region 6 with fail;refine aV 1 ?_;refine ay rfl (aC call18 rfl (evc aez (evc evk evn))) ?_;refine (HA5.out.sup I 3 HGZ.out.1 HGZ.out.2 HG.out.1).mono ?_;rintro e w6 ⟨rfl, b_⟩;have HA6 := ae (HA5.out.below b_);have HX6 := ae (HX5.out.below (aY HX5) b_);clear b_;refine bm ?_;refine runs 3 ?_;refine runs 1 ?_;refine aep (aW rfl) ?_;refine runs 1 ?_;refine az rfl (bW (c := aT) rfl (ev rfl) (ev rfl)) ?_;simp only [aa];have hx := (Below.refl w6.heap.size w6).alloc ai (.cells (aN aT).toArray 37);have HA7 := ae (HA6.out.below hx);have HX7 := ae (HX6.out.below (aY HX6) hx);clear hx;generalize w6.alloc (.cells (aN aT).toArray 37) = w7 at *;refine aK 1 ?_;go_upto_region 7 with fail;refine aV 1 ?_;refine aep (bq rfl aez HX7.out.range) ?_;refine ay rfl (aC call27 rfl (evc aez (evc evk (evc evk (evc aez evn))))) ?_;obtain ⟨F7, f1, f4, f5, f6⟩ := HA7.out;refine (C.new_ 9 0 (neR 3 4) (by omega) (by omega) f1).mono ?_;rintro e w8 ⟨b8, h8⟩;obtain ⟨_, t, G, rfl, j8, g8⟩ | ⟨h8, _⟩ := h8;rotate_left 1
 ·exact absurd (HH.out.symm.trans h8) (by decide)
 have HU8 : Hid (HAt C w w.heap.size (fun _ => False) w8 p t z0) := ae ⟨G, by rw [HZM.out]; exact j8, fun b hb => by
  rcases g8 b hb with e | e
  ·exact f4 b e
  ·exact ap f5.size e, f5.trans (b8.mono f5.size), f6, fun b e => e.elim⟩
 clear f1 f4 f5 f6 b8 j8 g8 HA1 HA2 HA3 HA4 HA5 HA6 HA7 HX3 HX4 HX5 HX6 HX7;refine bm ?_;refine runs 3 ?_;refine aK 2 ?_;go_upto_region 8 with fail;refine aV 1 ?_;refine aep (aI false rfl aez evk rfl) ?_;refine runs 2 ?_;refine aew (aI false rfl aez evk rfl) ?_;refine runs 3 ?_;refine aew (aI false rfl aez evk rfl) ?_;refine runs 3 ?_;refine ay aek (aC call28 rfl (evc aez evn)) ?_;refine (HU8.out.save HRM.out.1 HRM.out.2 HS1).mono ?_;rintro e w9 ⟨rfl, a_, _⟩;rw [HS1.out];rw [HS2.out] at a_;have HU9 := ae a_;clear a_ HU8;refine bm ?_;refine aew (aI false rfl aez evk rfl) ?_;refine aK 1 ?_;go_upto_region 10 with fail;refine aV 1 ?_;refine ay rfl (aC call20 rfl (evc aez evn)) ?_;refine (HU9.out.gat I HL.out.2.1 HL.out.1).mono ?_;rintro e w10 ⟨rfl, b_⟩;have HU10 := ae (HU9.out.below b_);clear b_ HU9;refine bm ?_;refine runs 3 ?_;refine aep (cW rfl) ?_;refine az rfl (dO (c := ⟨1, 9, neR 3 4⟩) rfl (ev rfl) (ev rfl)) ?_;simp only [aa];have hx := (Below.refl w10.heap.size w10).alloc ai (.cells (bu ⟨1, 9, neR 3 4⟩).toArray 50);have HP11 : Hid (ci _ _ ⟨1, 9, neR 3 4⟩) := ae (heap_alloc_new w10 (.cells (bu ⟨1, 9, neR 3 4⟩).toArray 50));have hsz : (w10.alloc (.cells (bu ⟨1, 9, neR 3 4⟩).toArray 50)).heap.size = w10.heap.size + 1 := ak;have HU11 := ae (HU10.out.guard (K' := fun b => b = w10.heap.size) hx fun b e => .inr ⟨by omega, by omega⟩);obtain ⟨b13, hb13⟩ : ∃ b, w10.heap.size = b := ⟨_, rfl⟩;rw [hb13] at HP11 HU11 ⊢;clear hx hsz hb13 HU10;generalize w10.alloc (.cells (bu ⟨1, 9, neR 3 4⟩).toArray 50) = w11 at *;refine aK 1 ?_;go_upto_region 11 with fail;refine aV 1 ?_;refine ay rfl (aC call11 rfl (evc aez (evc evk evn))) ?_;refine (HU11.out.ben fun hb => C.R.fail 0 hb).mono ?_;rintro e w12 ⟨rfl, a_, k_⟩;have HU12 : Hid (HAt C w w.heap.size (fun b => b = b13) w12 p t ⟨gv M' 0, 9, 1, neR 3 4⟩) := ae a_;have HP12 : Hid (ci w12 b13 ⟨1, 9, neR 3 4⟩) := ae (k_.at_ rfl HP11);clear a_ k_ HU11 HP11;refine bm ?_;refine ag ?_;go_upto_region 12 with fail;refine aV 1 ?_;refine ay rfl (aC call20 rfl (evc aez evn)) ?_;refine (HU12.out.gat I HL.out.2.2.2.1 HL.out.2.2.1).mono ?_;rintro e w13 ⟨rfl, b_⟩;have HU13 := ae (HU12.out.below b_);have HP13 : Hid (ci w13 b13 ⟨1, 9, neR 3 4⟩) := ae (aB HP12 b_);clear b_ HU12 HP12;refine bm ?_;refine runs 3 ?_;refine aep (cW rfl) ?_;refine az rfl (dO (c := ⟨1, 9, R2⟩) rfl (ev rfl) (ev rfl)) ?_;simp only [aa];have hx := (Below.refl w13.heap.size w13).alloc ai (.cells (bu ⟨1, 9, R2⟩).toArray 50);have HQ14 : Hid (ci _ _ ⟨1, 9, R2⟩) := ae (heap_alloc_new w13 (.cells (bu ⟨1, 9, R2⟩).toArray 50));have HU14 := ae (HU13.out.below hx);have HP14 : Hid (ci _ b13 ⟨1, 9, neR 3 4⟩) := ae (aB HP13 hx);clear hx HU13 HP13;generalize w13.alloc (.cells (bu ⟨1, 9, R2⟩).toArray 50) = w14 at *;refine aK 1 ?_;go_upto_region 13 with fail;refine aV 1 ?_;refine aep (aH true rfl aez evk rfl) ?_;refine runs 1 ?_;refine aew (ax rfl aez uj) ?_;refine aew (aE rfl aez (cO HP14.out.cells.1)) ?_;refine aew (aH true rfl aez evk rfl) ?_;refine runs 2 ?_;refine aew (ax rfl aez jX) ?_;refine aew (aE rfl aez (cO HP14.out.cells.2)) ?_;refine aew (aH true rfl aez evk rfl) ?_;refine runs 2 ?_;refine aew (ax rfl aez fe) ?_;refine aew (bq rfl aez HP14.out.il) ?_;refine ay aek (aC call64 rfl (evc aez evn)) ?_;refine (xG (neR 3 4) w14).mono ?_;rintro e w15 ⟨rfl, b_⟩;have HU15 := ae (HU14.out.below b_);have HQ15 : Hid (ci w15 _ ⟨1, 9, R2⟩) := ae (aB HQ14 b_);clear b_ HU14 HQ14;refine bm ?_;refine aew (aH true rfl aez evk (by rw [HST.out]; rfl)) ?_;refine runs 3 ?_;refine aew (aH true rfl aez evk rfl) ?_;refine runs 2 ?_;refine aew (ax rfl aez fe) ?_;refine aew (bq rfl aez HQ15.out.il) ?_;refine ay aek (aC call64 rfl (evc aez evn)) ?_;refine (xG R2 w15).mono ?_;rintro e w16 ⟨rfl, b_⟩;have HU16 := ae (HU15.out.below b_);clear b_ HU15;refine bm ?_;refine aew (aH true rfl aez evk (by rw [HL.out.2.2.2.2]; rfl)) ?_;refine aK 2 ?_;go_wp2_with fail;go_ret;exact ⟨rfl, HU16.out.bel⟩
section
variable {ρ : Operand -> Value} {o : Oper} {x y : Operand} {w : World} {t r : TypeId}
theorem iH {D k : Nat} (ho : o.op = .binOp .shr t x y r) (hx : ρ x = .int .u16 (D : Int)) (hy : ρ y = .int .u64 (k : Int)) (hk : k <= 16) : (execOp ρ o).run prog w = .ok (.value (.int .u16 ((D / 2 ^ k : Nat) : Int))) w := by
 have hn : ¬ ((k : Int) < 0) := by omega
 unfold execOp;simp only [ho, hx, hy];simp [eqGuard, binOp, Op.shift, hn, IntKind.bits, Nat.min_eq_left hk]
theorem iq {a b c : Nat} (ho : o.op = .binOp .and t x y r) (hx : ρ x = .int .u16 (a : Int)) (hy : ρ y = .int .u16 (b : Int)) (h : bits .and .u16 (a : Int) (b : Int) = (c : Int)) : (execOp ρ o).run prog w = .ok (.value (.int .u16 (c : Int))) w := by
 unfold execOp;simp [ho, hx, hy, eqGuard, go_sem, h]
end
def aas (D : Nat) (j : Nat) : Bool := decide (D / 2 ^ j % 2 = 1)
theorem mu {D j : Nat} (hD : D < 65536) : bits .and .u16 ((D / 2 ^ j : Nat) : Int) (((1 : Nat)) : Int) = ((D / 2 ^ j % 2 : Nat) : Int) := by
 have hl : D / 2 ^ j < 65536 := Nat.lt_of_le_of_lt (Nat.div_le_self _ _) hD;have h2 := u16_and_nat (D / 2 ^ j) 1 hl (by omega);rw [Nat.and_one_is_mod] at h2;exact h2
theorem oX {D j : Nat} : ((((D / 2 ^ j % 2 : Nat) : Int)) == 1) = aas D j := by
 unfold aas;by_cases h : D / 2 ^ j % 2 = 1
 ·rw [h, am rfl]; rfl
 ·rw [al h]; exact ar (by omega)
theorem uG {w : World} {b off : Nat} : (Instr.fieldAt 39 (.pointer (some ⟨b, off, none⟩)) 0).run prog w = .ok (.pointer (some ⟨b, off, none⟩)) w := by kernel_rfl
theorem tT {w : World} {b off : Nat} : (Instr.fieldAt 39 (.pointer (some ⟨b, off, none⟩)) 1).run prog w = .ok (.pointer (some ⟨b, off + 1, none⟩)) w := by kernel_rfl
theorem lh {ρ : Operand -> Value} {o : Oper} {x : Operand} {w : World} {t e : TypeId} {A : Option Addr} {n c : Nat} (hu : prog.underlying t = some (.slice e)) (ho : o.op = .call { callee := .builtin .len, args := #[x], argTypes := #[t] }) (hx : ρ x = .slice A n c) : (execOp ρ o).run prog w = .ok (.value (.int .i64 (n : Int))) w := by
 simp [execOp, ho, resolve, invoke, builtin, hx, Builtin.len_, run_underlying hu, Result.andThen]
 rfl
theorem kZ {M : aR} {k : Nat} (h : Room M (k + 1)) : Room M 1 := ⟨by have := h.1; omega, h.2.1, fun d hd => by have := h.2.2 d hd; omega⟩
end Go.Proofs.YtehefifamaofkaaGreatDoor
