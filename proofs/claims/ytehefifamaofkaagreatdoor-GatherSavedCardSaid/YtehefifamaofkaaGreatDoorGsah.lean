import Derived.Test.YtehefifamaofkaaGreatDoorGsag
import Derived.Deep.Slices
namespace Go.Proofs.YtehefifamaofkaaGreatDoor
set_option maxHeartbeats 8000000
open Go.Proofs.Tryz
open Go.RowKit
set_option linter.unusedVariables false
set_option linter.unusedSimpArgs false
set_option maxRecDepth 100000
theorem y9 {N : Nat} {s : Int} (hN : N <= 16) (hs : 1 <= s /\ s <= 64) : ga (szK N s) := by
 refine ⟨by rw [iB]; omega, by rw [iB]; omega, fun k hk => ?_⟩;unfold szK at hk;rcases List.mem_append.1 hk with h | h
 ·have := (List.mem_replicate.1 h).2; omega
 ·simp at h; omega
theorem rZ {N : Nat} {s : Int} (h1 : 3 <= N) (h2 : N <= 16) (h3 : 1 <= s /\ s <= 64) {ev : Nat} (hev : ev <= 2305843009213693952) : ju (bV (szK N s)) 9 ev (neR N s) = true := by
 have hsec : ∀ k, k <= N -> kx (bV (szK N s)) (neR N s) k = true := fun k hk => by
  induction k with
  |zero => rfl
  |succ k ih =>
   refine mB (ih (by omega)) ?_;have e : dz (bV (szK N s)) (k : Int) = ((2 + s).toNat : Int) := by
    unfold dz;rw [if_pos (kF (by rw [eY]; omega))]
    show (((bV (szK N s)).ds.getD k bI).S.length : Int) = _
    rw [iF (by omega)]
    show ((List.replicate (2 + s).toNat aB).length : Int) = _
    rw [List.length_replicate]
   rw [e]
   show ¬ (((2 + s).toNat : Nat) : Int) < 2 + s
   omega
 unfold ju;rw [ln h1 h2 h3.1 h3.2, eY, show (neR N s).m.toNat = N from kt N s, hsec N ai, al (show ¬ (9 : Nat) = 0 by decide), al (show ¬ 2305843009213693952 < ev by omega), am (show ((N + 1 : Nat) : Int) = (neR N s).m + 1 from rfl)]
 rfl
theorem ur {N : Nat} {s : Int} (h1 : 3 <= N) (h2 : N <= 16) (h3 : 1 <= s /\ s <= 64) : vW (neR N s) = neR N s /\ oo (neR N s) = 0 := by
 have hg : dV (neR N s) = true := am ⟨by show 3 <= (N : Int); omega, by show (N : Int) <= 16; omega, h3.1, h3.2, by show (40 : Int) <= 40; omega, by show (40 : Int) <= 256; omega⟩
 constructor
 ·unfold vW; rw [hg]; rfl
 ·unfold oo; rw [hg]; rfl
section
variable {id ev : Nat} {R : Ros} {M : aM} {k m : Nat} {h : HuS} {d : Int}
theorem dh {n : Nat} (h : Room M n) (hm : m <= n) : Room M m := ⟨by have := h.1; omega, h.2.1, fun d hd => by have := h.2.2 d hd; omega⟩
theorem zC (h : Room M (k + 1)) (s : Stp) : Room (nN d M s) k := by
 cases s with
 |wr n b => exact sc h d n b
 |fl => exact yq h d
theorem aaB (l : List Stp) : ∀ {M : aM}, Room M (k + l.length) -> Room (goB d M l) k := by
 induction l with
 |nil => intro M h; exact h
 |cons s l ih =>
  intro M h;rw [List.length_cons] at h;have h1 := zC (d := d) (k := k + l.length) h s;rw [goB]
  split
  ·exact ih h1
  ·exact dh h1 (by omega)
theorem vJ (h : Room M (k + 2)) : Room (cW id ev R M m) k := by
 unfold cW
 split
 ·exact aaB _ h
 ·exact dh h (by omega)
theorem np : ∀ (n m : Nat) (M : aM), Room M (k + 2 * n) -> Room (cI id ev R n m M).2.2 k
 |0, m, M, h => h
 |n + 1, m, M, h => by
  have h1 : Room (cW id ev R M m) (k + 2 * n) := vJ (dh h (by omega));rw [cI]
  split
  ·exact np n (m + 1) M (dh h (by omega))
  ·split
   ·exact dh h1 (by omega)
   ·split
    ·exact np n (m + 1) _ h1
    ·exact dh h1 (by omega)
theorem rF (hf : aU R = true) : R.m.toNat <= 16 := by
 unfold aU at hf;simp only [Bool.and_eq_true] at hf;have := eE hf.1.1.1;omega
end
def nO (R : Ros) (j : Nat) : Bool := decide (sta R j ≠ 1)
structure OnS (h0 : HuS) (f : Nat) (h : HuS) : Prop where
 same : eH f h = eH 17 h0
 pot : gG (nO h.R) h.R.m.toNat < f
 fine : aU h.R = true
 id : h.id = h0.id
 m : h.R.m = h0.R.m
 ev : h.ev + f <= h0.ev + 17
 rm : Room h.M (34 * f)
theorem OnS.start {h : HuS} (hf : aU h.R = true) (hr : Room h.M 600) : OnS h 17 h :=
 ⟨rfl, by have := rT (nO h.R) h.R.m.toNat; have := rF hf; omega, hf, rfl, rfl, ai, dh hr (by omega)⟩
section
variable {h0 h : HuS} {f m : Nat} {e : Int} {M' : aM}
theorem OnS.pos (k : OnS h0 f h) : ∃ f', f = f' + 1 := ⟨f - 1, by have := k.pot; omega⟩
theorem OnS.fin (k : OnS h0 f h) (ho : cI h.id (h.ev + 1) h.R h.R.m.toNat 0 h.M = (none, e, M')) : ia h0 = e /\ el h0 = ⟨M', h.id, h.ev + 1, h.R⟩ := by
 obtain ⟨f', rfl⟩ := k.pos;have := k.same;rw [eH] at this;simp only [ho] at this;unfold ia el;rw [<- this];exact ⟨rfl, rfl⟩
theorem i9 {id ev : Nat} {R : Ros} : ∀ (k m : Nat) (M : aM) {d : Nat} {e : Int} {M' : aM}, cI id ev R k m M = (some d, e, M') -> m <= d /\ d < m + k /\ sta R d ≠ 1
 |0, m, M, d, e, M', h => by rw [cI] at h; cases h
 |k + 1, m, M, d, e, M', h => by
  rw [cI] at h
  split at h
  ·obtain ⟨h1, h2, h3⟩ := i9 k (m + 1) M h;exact ⟨by omega, by omega, h3⟩
  ·rename_i hs
   split at h
   ·cases h;exact ⟨ai, by omega, hs⟩
   ·split at h
    ·obtain ⟨h1, h2, h3⟩ := i9 k (m + 1) _ h;exact ⟨by omega, by omega, h3⟩
    ·cases h
theorem OnS.go (k : OnS h0 f h) {d : Nat} (ho : cI h.id (h.ev + 1) h.R h.R.m.toNat 0 h.M = (some d, e, M')) : ∃ f', f = f' + 1 /\ OnS h0 f' ⟨M', h.id, h.ev + 1, cG h.R d⟩ := by
 obtain ⟨f', rfl⟩ := k.pos;obtain ⟨_, hd, hs⟩ := i9 _ _ _ ho;have hl := nQ k.fine (d := d) (by omega) hs;refine ⟨f', rfl, ?_⟩;have hq : nO h.R d = true := am hs;have hq' : nO (cG h.R d) d = false := by unfold nO; rw [hl.2 d, if_pos rfl]; rfl
 have hsub : ∀ j, nO (cG h.R d) j = true -> nO h.R j = true := fun j hj => by
  unfold nO at hj ⊢;rw [hl.2 j] at hj;by_cases e : j = d
  ·rw [if_pos e] at hj; simp at hj
  ·rwa [if_neg e] at hj
 have hlt := nP hsub hq hq' (n := h.R.m.toNat) (by omega);have hr : Room M' (34 * f') := by
  have hm := rF k.fine;have h1 := np (k := 34 * f' + 2) (id := h.id) (ev := h.ev + 1) (R := h.R) h.R.m.toNat 0 h.M (dh k.rm (by omega));rw [ho] at h1;exact dh h1 (by omega)
 refine ⟨?_, ?_, il _ k.fine, k.id, hl.1.trans k.m, by have := k.ev; show h.ev + 1 + f' <= _; omega, hr⟩
 ·have := k.same;rw [eH] at this;simp only [ho] at this;exact this
 ·show gG (nO (cG h.R d)) (cG h.R d).m.toNat < f'
  rw [hl.1];have := k.pot;omega
theorem pQ {id ev : Nat} {R : Ros} {k m : Nat} {M : aM} (hs : sta R m ≠ 1) (he : df id ev R M m = 0) : cI id ev R (k + 1) m M = cI id ev R k (m + 1) (cW id ev R M m) := by
 rw [cI, if_neg hs, if_neg (by rw [he]; decide), if_pos he]
theorem qL {id ev : Nat} {R : Ros} {k m : Nat} {M : aM} (hs : sta R m = 1) : cI id ev R (k + 1) m M = cI id ev R k (m + 1) M := by rw [cI, if_pos hs]
theorem qM {id ev : Nat} {R : Ros} {k m : Nat} {M : aM} (hs : sta R m ≠ 1) (he : df id ev R M m = 9) : cI id ev R (k + 1) m M = (some m, 0, cW id ev R M m) := by rw [cI, if_neg hs, if_pos he]
theorem tG {id ev : Nat} {R : Ros} {k m : Nat} {M : aM} (hs : sta R m ≠ 1) (h0 : df id ev R M m ≠ 0) (h9 : df id ev R M m ≠ 9) : cI id ev R (k + 1) m M = (none, df id ev R M m, cW id ev R M m) := by rw [cI, if_neg hs, if_neg h9, if_neg h0]
end
structure aa8 (R : Ros) (M : aM) : Prop where
 bK : M.bK = false
 left : M.left = 0
 len : R.m.toNat < M.ds.length
 two : ∀ m, m < R.m.toNat -> 2 <= (M.ds.getD m bI).S.length
def HRm (h : HuS) : Prop := Room h.M 600 /\ h.ev <= 4611686018427387000
section
variable {id ev : Nat} {R : Ros} {M : aM} {k m : Nat} {h : HuS} {d : Int}
structure HR (k : Nat) (h : HuS) : Prop where
 rm : Room h.M (600 * k)
 ev : h.ev + 17 * k <= 4611686018427387000
 fine : aU h.R = true
 lit : aa8 h.R h.M
theorem HR.hrm (h' : HR (k + 1) h) : HRm h := ⟨dh h'.rm (by omega), by have := h'.ev; omega⟩
theorem HR.new {N : Nat} {s : Int} (h1 : 3 <= N) (h2 : N <= 16) (h3 : 1 <= s) (h4 : s <= 64) {n : Nat} (hn : n <= 1600) (id : Nat) : HR n ⟨bV (szK N s), id, 0, neR N s⟩ := ⟨oT (by omega), by show 0 + _ <= _; omega, ln h1 h2 h3 h4, rfl, rfl, by show (neR N s).m.toNat < _; rw [kt, eY]; omega, fun m hm => by
 have hm' : m < (neR N s).m.toNat := hm;rw [kt] at hm';rw [iF hm']
 show 2 <= (List.replicate _ _).length
 rw [List.length_replicate];omega⟩
end
open Go.RowKit Go.ChangeShapes Go.WideShapes Go.ChangeAt Go.Deep
structure abA where
 D : Int
 N : Int
 Event : Nat
 S : Sup
 Any : Bool
 B : Blk
 At : UInt8
 By : UInt8
theorem qV {fn : Func} {p q u : Tmp} (h : fn.results = #[.tmp p, .tmp q, .tmp u]) (tmps : Array Value) (w : World) : (results fn tmps).run prog w = .ok (.tuple #[tmps.getD p undef, tmps.getD q undef, tmps.getD u undef]) w := by
 simp [results, h]
theorem o8 (P : nM) (N : Nat) (w : World) (h1 : 3 <= N) (h2 : N <= 16) : Calls prog 7 #[.int .i64 (N : Int)] w fun e w' => ∃ p q F G, e = .returned (.tuple #[.pointer (some ⟨p, 0, none⟩), .pointer (some ⟨q, 0, none⟩), .bool true]) /\ P.Bn w' F p (bV (szK N 4)) /\ qq.Bn w' G q (bV (szK N 4)) /\ (∀ b, F b -> ¬ G b) /\ (∀ b, F b \/ G b -> w.heap.size <= b) /\ Below w.heap.size w w' := by
 have HN := ae h2;have HOK := ae (y9 (N := N) (s := 4) h2 (by omega));clear h1 h2;go_enter func7, ntmps7;go_upto_region 0 with fail;refine cC 3 ?_;go_upto_region 1 with fail;refine cC 1 ?_;go_upto_region 2 with fail;refine cC 1 ?_;go_wp2_with fail
 go_loopw [5, 6] (fun v z wr => ∃ i : Nat, z = .int .i64 i /\ i <= N /\ bc ir wr w.heap.size v (List.replicate i (2 + 4)) /\ Below w.heap.size w wr) (fun _ z _ => N - (intOf z).toNat)
 case atStart => exact ⟨0, by go_num, Nat.zero_le _, bc.nil _ _, aj⟩
 case round =>
  obtain ⟨i, rfl, hi, hm, hb⟩ := hrel;have HM := ae hm;have HW := ae hb;have HBS : Hid (w.heap.size <= wr.heap.size) := ae hb.size;clear hm hb;by_cases hlt : i < N
  ·have HI := ae hlt;have HLT : Hid (decide ((i : Int) < (N : Int)) = true) := ae (am (by omega));have HA : Hid (IntKind.i64.wrap ((i : Int) + 1) = ((i + 1 : Nat) : Int)) := ae (by have := HN.out; rw [eC ⟨by omega, by omega⟩]; omega);have hsz : (wr.alloc (.cells #[.int .i64 6] 3)).heap.size = wr.heap.size + 1 := ak;obtain ⟨v2, w3, hrun, hm2, hg2⟩ := iu ir (wr.alloc (.cells #[.int .i64 6] 3)) 77 w.heap.size (wr.heap.size + 1) 1 1 u5 (List.replicate i (2 + 4)) [6] (some ⟨wr.heap.size, 0, none⟩) (bc.below HM (aj.alloc ai _)) (gP (E := ir) (l := [6]) wr #[.int .i64 6] 3 rfl) (by have := HBS.out; omega) (by have := HN.out; simp; omega);have HRUN := ae hrun;have HM3 : Hid (bc ir w3 w.heap.size v2 (List.replicate (i + 1) (2 + 4))) := ae (by rw [List.replicate_succ']; exact hm2);have HW3 : Hid (Below w.heap.size w w3) := ae ((HW.out.trans (aj.alloc HBS _)).grown hg2 (by have := HBS.out; omega) (fun j' hj' => HM.out.jX j' hj'));clear hi hlt hsz hrun hm2 hg2;go_upto_region 3 with fail;refine aZ 2 ?_;refine abG (bu true rfl abQ abQ HLT) ?_;refine ag ?_;go_upto_region 5 with fail;refine aZ 1 ?_;refine abG (eM (E := ir) (a := 6) rfl evk rfl (by decide)) ?_;refine abG (iR (E := ir) rfl abQ abQ HRUN) ?_;refine aL 1 ?_;go_upto_region 4 with fail;refine aZ 1 ?_;refine abG (cq rfl abQ evk HA) ?_;refine aL 1 ?_;go_wp2_with fail;go_roundw
   case rel => exact ⟨i + 1, by go_num, HI, HM3, HW3⟩
   case measure => have := HI.out; simp [intOf]; omega
  have hin : i = N := by omega
  subst hin;have HLT : Hid (decide ((i : Int) < (i : Int)) = false) := ae (al (by omega));have hsz : (wr.alloc (.cells #[.int .i64 50] 3)).heap.size = wr.heap.size + 1 := ak;obtain ⟨v2, w3, hrun, hm2, hg2⟩ := iu ir (wr.alloc (.cells #[.int .i64 50] 3)) 77 w.heap.size (wr.heap.size + 1) 1 1 u5 (List.replicate i (2 + 4)) [50] (some ⟨wr.heap.size, 0, none⟩) (bc.below HM (aj.alloc ai _)) (gP (E := ir) (l := [50]) wr #[.int .i64 50] 3 rfl) (by have := HBS.out; omega) (by have := HN.out; simp; omega);have HRUN := ae hrun;have HM3 : Hid (bc ir w3 w.heap.size v2 (szK i 4)) := ae hm2;have HW3 : Hid (Below w.heap.size w w3) := ae ((HW.out.trans (aj.alloc HBS _)).grown hg2 (by have := HBS.out; omega) (fun j' hj' => HM.out.jX j' hj'));clear hi hlt hsz hrun hm2 hg2;go_upto_region 3 with fail;refine aZ 2 ?_;refine abG (bu false rfl abQ abQ HLT) ?_;refine ag ?_;go_upto_region 6 with fail;refine aZ 1 ?_;refine abG (eM (E := ir) (a := 50) rfl evk rfl (by decide)) ?_;refine abG (iR (E := ir) rfl abQ abQ HRUN) ?_;refine aL 1 ?_;obtain ⟨A2, c2, rfl, e21, e22⟩ := HM3.out.form;have HR3 := ae HM3.out.rd;have HC2 := ae (And.intro e21 e22);have HB3 := ae HW3;clear e21 e22;go_upto_region 7 with fail;refine aZ 1 ?_;refine ay rfl (aA call34 rfl (evc abQ evn)) ?_;refine (P.new HR3 HC2.out.1 HC2.out.2).mono ?_;rintro e w4 ⟨b4, h4⟩;obtain ⟨_, p, F, rfl, n4, f4⟩ | ⟨h4, _⟩ := h4;rotate_left 1
  ·exact absurd HOK h4
  have HB4 := ae (HB3.out.trans (b4.mono HB3.out.size));have HN4 := ae n4;have HF4 : Hid (∀ b, F b -> w3.heap.size <= b) := ae f4;have HFL : Hid (∀ b, F b -> b < w4.heap.size) := ae fun b hb => P.toBen.lt n4 b hb
  have HR4 := ae (HM3.out.below b4).rd;clear b4 n4 f4;refine bp ?_;refine runs 3 ?_;refine aL 2 ?_;go_upto_region 8 with fail;refine aZ 1 ?_;refine ay rfl (aA call35 rfl (evc abQ evn)) ?_;refine (qq.new HR4 HC2.out.1 HC2.out.2).mono ?_;rintro e w5 ⟨b5, h5⟩;obtain ⟨_, q, G, rfl, n5, f5⟩ | ⟨h5, _⟩ := h5;rotate_left 1
  ·exact absurd HOK h5
  have HB5 := ae (HB4.out.trans (b5.mono HB4.out.size));have HN5 := ae (P.toBen.below HN4 b5);have HD5 := ae n5;have HG5 : Hid (∀ b, G b -> w4.heap.size <= b) := ae f5;clear b5 n5 f5;refine bp ?_;refine runs 3 ?_;refine aL 2 ?_;go_upto_region 9 with fail;refine aZ 3 ?_;refine abG (aD true rfl abQ evk rfl) ?_;refine runs 2 ?_;refine abN (aD true rfl abQ evk rfl) ?_;refine runs 3 ?_;refine aL 1 ?_;go_wp2_with fail;have s3 := HB3.out.size;have s4 := HB4.out.size;exact bodyPost_ret (qV rfl _ _) rfl ⟨p, q, F, G, rfl, HN5, HD5, (fun b h1 h2 => by have := HFL.out b h1; have := HG5.out b h2; omega), (fun b e => e.elim (fun h => ap s3 (HF4.out b h)) (fun h => ap s4 (HG5.out b h))), HB5⟩
def PAt (P : nM) (w0 : World) (B : Nat) (w : World) (p : Nat) (M : aM) : Prop := ∃ F, P.Bn w F p M /\ (∀ b, F b -> B <= b) /\ Below B w0 w /\ jM w0 B
theorem PAt.below {P : nM} {w0 w w' : World} {B p : Nat} {M : aM} (a : PAt P w0 B w p M) (k : Below w.heap.size w w') : PAt P w0 B w' p M := by
 obtain ⟨F, h1, h2, h3, h4⟩ := a;exact ⟨F, P.toBen.below h1 k, h2, h3.trans (k.mono (ap h4.le h3.size)), h4⟩
theorem uQ (P : nM) (N : Nat) (w : World) (T : Tab w) (h1 : 3 <= N) (h2 : N <= 16) : Calls prog 7 #[.int .i64 (N : Int)] w fun e w' => ∃ p q, e = .returned (.tuple #[.pointer (some ⟨p, 0, none⟩), .pointer (some ⟨q, 0, none⟩), .bool true]) /\ PAt P w w.heap.size w' p (bV (szK N 4)) :=
 (o8 P N w h1 h2).mono fun e w' ⟨p, q, F, G, g1, g2, _, _, g5, g6⟩ => ⟨p, q, g1, F, g2, fun b e => g5 b (.inl e), g6, jM.start T⟩
theorem yE (P : nM) (N : Nat) (w : World) (T : Tab w) (h1 : 3 <= N) (h2 : N <= 16) : Calls prog 7 #[.int .i64 (N : Int)] w fun e w' => ∃ p q, e = .returned (.tuple #[.pointer (some ⟨p, 0, none⟩), .pointer (some ⟨q, 0, none⟩), .bool true]) /\ TwB P.toBen qq.toBen w w.heap.size (fun _ => False) w' p q (bV (szK N 4)) (bV (szK N 4)) :=
 (o8 P N w h1 h2).mono fun e w' ⟨p, q, F, G, g1, g2, g3, g4, g5, g6⟩ => ⟨p, q, g1, TwB.start T g2 g3 g4 g5 g6⟩
section
variable {C : nv} {w0 w w' : World} {B q p : Nat} {K K' : Nat -> Prop} {h h' : HuS}
theorem HAt.gat (I : sR C.R) (a : HAt C w0 B K w q p h) {x : Fnd} {e : Int} (hx : glF h.M = x) (he : glE h.M = e) : Calls prog 20 #[.pointer (some ⟨q, 0, none⟩)] w fun r w' => r = .returned (.tuple #[fnd x, .int .i64 e]) /\ Below w.heap.size w w' := by
 subst hx he;obtain ⟨G, h1, h2, h3, h4, h5⟩ := a;obtain ⟨Gb, b1, _⟩ := C.ben h1;exact I.look b1 (h4.tab h3)
theorem HAt.tab (a : HAt C w0 B K w q p h) : Tab w := by
 obtain ⟨G, h1, h2, h3, h4, h5⟩ := a;exact h4.tab h3
end
section
variable {P : nM} {w0 w w' : World} {B p : Nat} {M : aM}
theorem PAt.tab (a : PAt P w0 B w p M) : Tab w := by
 obtain ⟨F, h1, h2, h3, h4⟩ := a;exact h4.tab h3
theorem PAt.gat (I : sR P) (a : PAt P w0 B w p M) {x : Fnd} {e : Int} (hx : glF M = x) (he : glE M = e) : Calls prog 20 #[.pointer (some ⟨p, 0, none⟩)] w fun r w' => r = .returned (.tuple #[fnd x, .int .i64 e]) /\ Below w.heap.size w w' := by
 subst hx he;have T := a.tab;obtain ⟨F, h1, _⟩ := a;exact I.look h1 T
theorem PAt.sup (I : sR P) (d : Int) (a : PAt P w0 B w p M) {x : Sup} {n : Nat} {e : Int} (hn : gaN M d = n) (hx : gaS M d = x) (he : gaE M d = e) : Calls prog 18 #[.pointer (some ⟨p, 0, none⟩), .int .i64 d] w fun r w' => r = .returned (.tuple #[.int .u64 (n : Int), sup x, .int .i64 e]) /\ Below w.heap.size w w' := by
 subst hn hx he;have T := a.tab;obtain ⟨F, h1, _⟩ := a;exact I.super d h1 T
end
theorem ye (N : Nat) (d : Int) : gaN (bV (szK N 4)) d = 0 /\ gaS (bV (szK N 4)) d = bq := ml (by rw [(uM N d).1]; decide)
theorem rU (C : nv) (I : sR C.R) (w : World) (T : Tab w) : Calls prog 23 #[] w fun e w' => e = .returned (.bool true) /\ Below w.heap.size w w' := by
 obtain ⟨z0, hz0⟩ : ∃ z0 : HuS, (⟨bV (szK 3 4), 9, 0, neR 3 4⟩ : HuS) = z0 := ⟨_, rfl⟩;obtain ⟨M', hs1, hs2, l1, l2, l3, R2, l4, l5⟩ := yp;rw [hz0] at hs1 hs2;obtain ⟨M0, hm0⟩ : ∃ M0, bV (szK 3 4) = M0 := ⟨_, rfl⟩;have hr : HR 60 z0 := by rw [<- hz0]; exact HR.new (by omega) (by omega) (by omega) (by omega) (by omega) 9
 have hg := uM 3 3;have hgz := ye 3 3;have hzM : z0 = ⟨M0, 9, 0, neR 3 4⟩ := by rw [<- hz0, hm0]
 rw [hm0] at hg hgz;have HT := ae T;have HM0 := ae hm0;have HZM := ae hzM;have HRM : Hid (Room z0.M 600 /\ z0.ev <= 4611686018427387000) := ae (HR.hrm (k := 59) hr);have HS1 := ae hs1;have HS2 := ae hs2;have HL := ae (And.intro l1 (And.intro l2 (And.intro l3 (And.intro l4 l5))));have HG := ae hg;have HGZ := ae hgz;have HNW := ae (ur (N := 3) (s := 4) (by omega) (by omega) (by omega));have HH : Hid (ju M0 9 0 (neR 3 4) = true) := ae (by rw [<- hm0]; exact rZ (N := 3) (s := 4) (by omega) (by omega) (by omega) (ev := 0) (by omega));have HST : Hid (((stN (neR 3 4) : Nat) : Int) = 1) := ae (by decide +kernel);clear T hz0 hs1 hs2 l1 l2 l3 l4 l5 hr hg hgz hm0 hzM;go_enter func23, ntmps23;go_upto_region 0 with fail;refine cC 1 ?_;go_upto_region 1 with fail;refine af ?_;refine ay rfl (aA call7 rfl (evc evk evn)) ?_;refine (uQ C.R 3 w HT (by omega) (by omega)).mono ?_;rintro e w1 ⟨p, q, rfl, a1⟩;rw [HM0.out] at a1;have HA1 := ae a1;clear a1;refine bp ?_;refine runs 3 ?_;refine runs 3 ?_;refine aL 1 ?_;go_upto_region 2 with fail;refine af ?_;refine abG (kf rfl evk evk evk) ?_;refine ay rfl (aA call26 rfl (evc abQ evn)) ?_;rw [show Value.agg #[Value.int .i64 3, Value.int .i64 4, Value.int .i64 40] = geo (neR 3 4) from rfl];refine (vq (x := neR 3 4) (w := w1) HNW.out.1 HNW.out.2).mono ?_;rintro e w2 ⟨rfl, b_⟩;have HA2 := ae (HA1.out.below b_);clear b_;refine bp ?_;refine runs 3 ?_;refine abG (bP rfl) ?_;refine az rfl (gI rfl (ev rfl) (ev rfl)) ?_;simp only [aa];have hx := (Below.refl w2.heap.size w2).alloc ai (.cells (aO (neR 3 4)).toArray 35);have HX3 := ae (bm.new w2 (neR 3 4));have HA3 := ae (HA2.out.below hx);clear hx;obtain ⟨b4, hb4⟩ : ∃ b4, w2.heap.size = b4 := ⟨_, rfl⟩;rw [hb4] at HX3 ⊢;clear hb4;generalize w2.alloc (.cells (aO (neR 3 4)).toArray 35) = w3 at *;refine aL 1 ?_;go_upto_region 3 with fail;refine aZ 3 ?_;refine runs 1 ?_;refine abN (aR false rfl abQ evk rfl) ?_;refine aL 1 ?_;go_upto_region 5 with fail;refine aZ 1 ?_;refine ay rfl (aA call20 rfl (evc abQ evn)) ?_;refine (HA3.out.gat I HG.out.2.2 HG.out.2.1).mono ?_;rintro e w4 ⟨rfl, b_⟩;have HA4 := ae (HA3.out.below b_);have HX4 := ae (HX3.out.below (aW HX3) b_);clear b_;refine bp ?_;refine runs 3 ?_;refine abG (dN rfl) ?_;refine az rfl (eX (c := co) rfl (ev rfl) (ev rfl)) ?_;simp only [aa];have hx := (Below.refl w4.heap.size w4).alloc ai (.cells (bW co).toArray 50);have HA5 := ae (HA4.out.below hx);have HX5 := ae (HX4.out.below (aW HX4) hx);clear hx;generalize w4.alloc (.cells (bW co).toArray 50) = w5 at *;refine aL 1 ?_;go_upto_region 6 with fail;refine aZ 1 ?_;refine ay rfl (aA call18 rfl (evc abQ (evc evk evn))) ?_;refine (HA5.out.sup I 3 HGZ.out.1 HGZ.out.2 HG.out.1).mono ?_;rintro e w6 ⟨rfl, b_⟩;have HA6 := ae (HA5.out.below b_);have HX6 := ae (HX5.out.below (aW HX5) b_);clear b_;refine bp ?_;refine runs 3 ?_;refine runs 1 ?_;refine abG (bz rfl) ?_;refine runs 1 ?_;refine az rfl (cx (c := bq) rfl (ev rfl) (ev rfl)) ?_;simp only [aa];have hx := (Below.refl w6.heap.size w6).alloc ai (.cells (aY bq).toArray 37);have HA7 := ae (HA6.out.below hx);have HX7 := ae (HX6.out.below (aW HX6) hx);clear hx;generalize w6.alloc (.cells (aY bq).toArray 37) = w7 at *;refine aL 1 ?_;go_upto_region 7 with fail;refine aZ 1 ?_;refine abG (bh rfl abQ HX7.out.range) ?_;refine ay rfl (aA call27 rfl (evc abQ (evc evk (evc evk (evc abQ evn))))) ?_;obtain ⟨F7, f1, f4, f5, f6⟩ := HA7.out;refine (C.new_ 9 0 (neR 3 4) (by omega) (by omega) f1).mono ?_;rintro e w8 ⟨b8, h8⟩;obtain ⟨_, t, G, rfl, j8, g8⟩ | ⟨h8, _⟩ := h8;rotate_left 1
 ·exact absurd (HH.out.symm.trans h8) (by decide)
 have HU8 : Hid (HAt C w w.heap.size (fun _ => False) w8 p t z0) := ae ⟨G, by rw [HZM.out]; exact j8, fun b hb => by
  rcases g8 b hb with e | e
  ·exact f4 b e
  ·exact ap f5.size e, f5.trans (b8.mono f5.size), f6, fun b e => e.elim⟩
 clear f1 f4 f5 f6 b8 j8 g8 HA1 HA2 HA3 HA4 HA5 HA6 HA7 HX3 HX4 HX5 HX6 HX7;refine bp ?_;refine runs 3 ?_;refine aL 2 ?_;go_upto_region 8 with fail;refine aZ 1 ?_;refine abG (aR false rfl abQ evk rfl) ?_;refine runs 2 ?_;refine abN (aR false rfl abQ evk rfl) ?_;refine runs 3 ?_;refine abN (aR false rfl abQ evk rfl) ?_;refine runs 3 ?_;refine ay abB (aA call28 rfl (evc abQ evn)) ?_;refine (HU8.out.save HRM.out.1 HRM.out.2 HS1).mono ?_;rintro e w9 ⟨rfl, a_, _⟩;rw [HS1.out];rw [HS2.out] at a_;have HU9 := ae a_;clear a_ HU8;refine bp ?_;refine abN (aR false rfl abQ evk rfl) ?_;refine aL 1 ?_;go_upto_region 10 with fail;refine aZ 1 ?_;refine ay rfl (aA call20 rfl (evc abQ evn)) ?_;refine (HU9.out.gat I HL.out.2.1 HL.out.1).mono ?_;rintro e w10 ⟨rfl, b_⟩;have HU10 := ae (HU9.out.below b_);clear b_ HU9;refine bp ?_;refine runs 3 ?_;refine abG (dN rfl) ?_;refine az rfl (eX (c := ⟨1, 9, neR 3 4⟩) rfl (ev rfl) (ev rfl)) ?_;simp only [aa];have hx := (Below.refl w10.heap.size w10).alloc ai (.cells (bW ⟨1, 9, neR 3 4⟩).toArray 50);have HP11 : Hid (dC _ _ ⟨1, 9, neR 3 4⟩) := ae (heap_alloc_new w10 (.cells (bW ⟨1, 9, neR 3 4⟩).toArray 50));have hsz : (w10.alloc (.cells (bW ⟨1, 9, neR 3 4⟩).toArray 50)).heap.size = w10.heap.size + 1 := ak;have HU11 := ae (HU10.out.guard (K' := fun b => b = w10.heap.size) hx fun b e => .inr ⟨by omega, by omega⟩);obtain ⟨b13, hb13⟩ : ∃ b, w10.heap.size = b := ⟨_, rfl⟩;rw [hb13] at HP11 HU11 ⊢;clear hx hsz hb13 HU10;generalize w10.alloc (.cells (bW ⟨1, 9, neR 3 4⟩).toArray 50) = w11 at *;refine aL 1 ?_;go_upto_region 11 with fail;refine aZ 1 ?_;refine ay rfl (aA call11 rfl (evc abQ (evc evk evn))) ?_;refine (HU11.out.ben fun hb => C.R.fail 0 hb).mono ?_;rintro e w12 ⟨rfl, a_, k_⟩;have HU12 : Hid (HAt C w w.heap.size (fun b => b = b13) w12 p t ⟨fo M' 0, 9, 1, neR 3 4⟩) := ae a_;have HP12 : Hid (dC w12 b13 ⟨1, 9, neR 3 4⟩) := ae (k_.at_ rfl HP11);clear a_ k_ HU11 HP11;refine bp ?_;refine ag ?_;go_upto_region 12 with fail;refine aZ 1 ?_;refine ay rfl (aA call20 rfl (evc abQ evn)) ?_;refine (HU12.out.gat I HL.out.2.2.2.1 HL.out.2.2.1).mono ?_;rintro e w13 ⟨rfl, b_⟩;have HU13 := ae (HU12.out.below b_);have HP13 : Hid (dC w13 b13 ⟨1, 9, neR 3 4⟩) := ae (aC HP12 b_);clear b_ HU12 HP12;refine bp ?_;refine runs 3 ?_;refine abG (dN rfl) ?_;refine az rfl (eX (c := ⟨1, 9, R2⟩) rfl (ev rfl) (ev rfl)) ?_;simp only [aa];have hx := (Below.refl w13.heap.size w13).alloc ai (.cells (bW ⟨1, 9, R2⟩).toArray 50);have HQ14 : Hid (dC _ _ ⟨1, 9, R2⟩) := ae (heap_alloc_new w13 (.cells (bW ⟨1, 9, R2⟩).toArray 50));have HU14 := ae (HU13.out.below hx);have HP14 : Hid (dC _ b13 ⟨1, 9, neR 3 4⟩) := ae (aC HP13 hx);clear hx HU13 HP13;generalize w13.alloc (.cells (bW ⟨1, 9, R2⟩).toArray 50) = w14 at *;refine aL 1 ?_;go_upto_region 13 with fail;refine aZ 1 ?_;refine abG (aD true rfl abQ evk rfl) ?_;refine runs 1 ?_;refine abN (ax rfl abQ yU) ?_;refine abN (aE rfl abQ (cR HP14.out.cells.1)) ?_;refine abN (aD true rfl abQ evk rfl) ?_;refine runs 2 ?_;refine abN (ax rfl abQ m8) ?_;refine abN (aE rfl abQ (cR HP14.out.cells.2)) ?_;refine abN (aD true rfl abQ evk rfl) ?_;refine runs 2 ?_;refine abN (ax rfl abQ ly) ?_;refine abN (bh rfl abQ HP14.out.mm) ?_;refine ay abB (aA call64 rfl (evc abQ evn)) ?_;refine (uL (neR 3 4) w14).mono ?_;rintro e w15 ⟨rfl, b_⟩;have HU15 := ae (HU14.out.below b_);have HQ15 : Hid (dC w15 _ ⟨1, 9, R2⟩) := ae (aC HQ14 b_);clear b_ HU14 HQ14;refine bp ?_;refine abN (aD true rfl abQ evk (by rw [HST.out]; rfl)) ?_;refine runs 3 ?_;refine abN (aD true rfl abQ evk rfl) ?_;refine runs 2 ?_;refine abN (ax rfl abQ ly) ?_;refine abN (bh rfl abQ HQ15.out.mm) ?_;refine ay abB (aA call64 rfl (evc abQ evn)) ?_;refine (uL R2 w15).mono ?_;rintro e w16 ⟨rfl, b_⟩;have HU16 := ae (HU15.out.below b_);clear b_ HU15;refine bp ?_;refine abN (aD true rfl abQ evk (by rw [HL.out.2.2.2.2]; rfl)) ?_;refine aL 2 ?_;go_wp2_with fail;go_ret;exact ⟨rfl, HU16.out.bel⟩
section
variable {ρ : Operand -> Value} {o : Oper} {x y : Operand} {w : World} {t r : TypeId}
theorem gM {D k : Nat} (ho : o.op = .binOp .shr t x y r) (hx : ρ x = .int .u16 (D : Int)) (hy : ρ y = .int .u64 (k : Int)) (hk : k <= 16) : (execOp ρ o).run prog w = .ok (.value (.int .u16 ((D / 2 ^ k : Nat) : Int))) w := by
 have hn : ¬ ((k : Int) < 0) := by omega
 unfold execOp;simp only [ho, hx, hy];simp [eqGuard, binOp, Op.shift, hn, IntKind.bits, Nat.min_eq_left hk]
theorem gA {a b c : Nat} (ho : o.op = .binOp .and t x y r) (hx : ρ x = .int .u16 (a : Int)) (hy : ρ y = .int .u16 (b : Int)) (h : bits .and .u16 (a : Int) (b : Int) = (c : Int)) : (execOp ρ o).run prog w = .ok (.value (.int .u16 (c : Int))) w := by
 unfold execOp;simp [ho, hx, hy, eqGuard, go_sem, h]
theorem rk {n : Nat} (ho : o.op = .convert 59 30 x) (hx : ρ x = .int .u32 (n : Int)) (hn : n < 4294967296) : (execOp ρ o).run prog w = .ok (.value (.int .u64 (n : Int))) w := by
 have h : IntKind.u64.wrap (n : Int) = (n : Int) := by rw [IntKind.wrap_u64]; exact Int.emod_eq_of_lt (by omega) (by omega)
 have hc : (convert 59 30 (.int .u32 (n : Int))).run prog w = .ok (.int .u64 (n : Int)) w := by simp [convert, go_sem, h]
 unfold execOp;simp only [ho, hx, Sem.run_bind, hc, Result.andThen_ok, Sem.run_pure]
end
def dL (D : Nat) (j : Nat) : Bool := decide (D / 2 ^ j % 2 = 1)
theorem kP {D j : Nat} (hD : D < 65536) : bits .and .u16 ((D / 2 ^ j : Nat) : Int) (((1 : Nat)) : Int) = ((D / 2 ^ j % 2 : Nat) : Int) := by
 have hl : D / 2 ^ j < 65536 := Nat.lt_of_le_of_lt (Nat.div_le_self _ _) hD;have h2 := u16_and_nat (D / 2 ^ j) 1 hl (by omega);rw [Nat.and_one_is_mod] at h2;exact h2
theorem na {D j : Nat} : ((((D / 2 ^ j % 2 : Nat) : Int)) == 1) = dL D j := by
 unfold dL;by_cases h : D / 2 ^ j % 2 = 1
 ·rw [h, am rfl]; rfl
 ·rw [al h]; exact ar (by omega)
theorem lX {q : Nat -> Bool} {M : aM} {k : Nat} (h : Room M k) : ∀ i, Room (da q M i) k
 |0 => h
 |i + 1 => by
  rw [da]
  split
  ·exact xr (lX h i) _
  ·exact lX h i
theorem yu (x : Ros) (w : World) : Calls prog 33 #[ros x, ros x] w fun e w' => e = .returned (.bool true) /\ Below w.heap.size w w' := by
 have := uo x x w;rw [am (rfl : x = x)] at this;exact this
theorem HAt.aay {C : nv} {w0 w w' : World} {B q p g : Nat} {K : Nat -> Prop} {h : HuS} (a : HAt C w0 B K w q p h) (hg : K g) (hB : B <= g) (ho : Only (fun b => b = g) w w') : HAt C w0 B K w' q p h := by
 obtain ⟨G, h1, h2, h3, h4, h5⟩ := a;have hs := ho.size;refine ⟨G, C.only h1 ho fun b hb e => (h5 g hg).1 (e ▸ hb), h2, h3.trans (ho.below (fun b e => by subst e; exact hB) (ap h4.le h3.size)), h4, fun b hb => ?_⟩;obtain ⟨g1, g2⟩ := h5 b hb;exact ⟨g1, by omega⟩
theorem bm.abb {w : World} {b : Nat} {x y : Ros} (h : bm w b x) : bm (w.setCells b 0 (aO y)) b y := by
 have := jQ (aO y) 0 (aO x) w h;have e := kW (c := []) (aO y) [] (aO x) (by rw [aT, aT]);simp only [List.nil_append, List.append_nil, List.length_nil] at e;rw [e] at this;exact this
theorem xZ (C : nv) (I : sR C.R) (a E D1 D2 : Nat) (w : World) (T : Tab w) (ha : a < 256) (hE : E < 4294967296) (hD1 : D1 < 65536) (hD2 : D2 < 65536) : Calls prog 5 #[.int .u8 (a : Int), .int .u32 (E : Int), .int .u16 (D1 : Int), .int .u16 (D2 : Int)] w fun e w' => e = .returned (.bool true) /\ Below w.heap.size w w' := by
 obtain ⟨NN, hNN⟩ : ∃ NN, 3 + a % 4 = NN := ⟨_, rfl⟩;have h1 : 3 <= NN := by omega
 have h2 : NN <= 6 := by omega
 obtain ⟨M0, hm0⟩ : ∃ M0, bV (szK NN 4) = M0 := ⟨_, rfl⟩;obtain ⟨z1, hz1⟩ : ∃ z1 : HuS, (⟨da (dL D1) M0 NN, 9, E, neR NN 4⟩ : HuS) = z1 := ⟨_, rfl⟩;obtain ⟨g1, g2, g3, g4, g5, g6, g7⟩ := uX h1 h2 (dL D1) (dL D2) hE (h := z1) (by rw [<- hz1, hm0]);have hrm : Room z1.M 600 := by rw [<- hz1, <- hm0]; exact lX (oT (by omega)) _
 obtain ⟨z2, hz2⟩ : ∃ z2, el z1 = z2 := ⟨_, rfl⟩;rw [hz2] at g2 g3 g4 g5 g6 g7;obtain ⟨W, hW⟩ : ∃ W, lsK (dL D2) z2.R NN = W := ⟨_, rfl⟩;obtain ⟨Mf, hMf⟩ : ∃ Mf, da (dL D2) z2.M NN = Mf := ⟨_, rfl⟩;rw [hW, hMf] at g7;have HT := ae T;have HD1 := ae hD1;have HD2 := ae hD2;have HE := ae hE;have HN1 := ae h1;have HN2 := ae h2;have HM0 := ae hm0;have HZ1 := ae hz1;have HZ2 := ae hz2;have HSV := ae g1;have HEV := ae g5;have HG := ae g7;have HW := ae hW;have HMF := ae hMf;have HRM : Hid (Room z1.M 600 /\ z1.ev <= 4611686018427387000) := ae ⟨hrm, by rw [<- hz1]; show E <= _; omega⟩;have HRA : Hid ((a : Int).tmod 4 = ((a % 4 : Nat) : Int)) := ae rfl;have HCA : Hid (IntKind.i64.wrap ((a % 4 : Nat) : Int) = ((a % 4 : Nat) : Int)) := ae (eC (by omega));have HAA : Hid (IntKind.i64.wrap (3 + ((a % 4 : Nat) : Int)) = (NN : Int)) := ae (by rw [eC (by omega)]; omega);have HNW := ae (ur (N := NN) (s := 4) h1 (by omega) (by omega));have HH : Hid (ju M0 9 E (neR NN 4) = true) := ae (by rw [<- hm0]; exact rZ (N := NN) (s := 4) h1 (by omega) (by omega) (ev := E) (by omega));clear T ha hE hD1 hD2 hNN h1 h2 hm0 hz1 g1 g2 g3 g4 g5 g6 g7 hrm hz2 hW hMf;go_enter func5, ntmps5;go_upto_region 0 with fail;refine cC 1 ?_;go_upto_region 1 with fail;refine aZ 1 ?_;refine abG (tc rfl abQ evk (by decide) HRA) ?_;refine abG (vp rfl abQ HCA) ?_;refine abG (cq rfl evk abQ HAA) ?_;refine aL 1 ?_;go_upto_region 2 with fail;refine aZ 1 ?_;refine ay rfl (aA call7 rfl (evc abQ evn)) ?_;refine (yE C.R NN w HT HN1 (by have := HN2.out; omega)).mono ?_;rintro e w1 ⟨p, q, rfl, a1⟩;rw [HM0.out] at a1;have HA1 := ae a1;clear a1;refine bp ?_;refine runs 3 ?_;refine runs 3 ?_;refine aL 1 ?_;go_upto_region 3 with fail;refine aZ 1 ?_;refine abG (kf rfl abQ evk evk) ?_;refine ay rfl (aA call26 rfl (evc abQ evn)) ?_;rw [show Value.agg #[Value.int .i64 (NN : Int), Value.int .i64 4, Value.int .i64 40] = geo (neR NN 4) from rfl];refine (vq (x := neR NN 4) (w := w1) HNW.out.1 HNW.out.2).mono ?_;rintro e w2 ⟨rfl, b_⟩;have HA2 := ae (HA1.out.below b_);clear b_;refine bp ?_;refine runs 3 ?_;refine abG (bP rfl) ?_;refine az rfl (gI rfl (ev rfl) (ev rfl)) ?_;simp only [aa];have hx := (Below.refl w2.heap.size w2).alloc ai (.cells (aO (neR NN 4)).toArray 35);have HX3 := ae (bm.new w2 (neR NN 4));have HA3 := ae (HA2.out.below hx);clear hx;obtain ⟨b13, hb13⟩ : ∃ b, w2.heap.size = b := ⟨_, rfl⟩;rw [hb13] at HX3 ⊢;clear hb13;generalize w2.alloc (.cells (aO (neR NN 4)).toArray 35) = w3 at *;refine aL 1 ?_;go_upto_region 4 with fail;refine aZ 2 ?_;refine abG (rk rfl abQ HE) ?_;refine abG (bh rfl abQ HX3.out.range) ?_;refine ay rfl (aA call27 rfl (evc abQ (evc evk (evc abQ (evc abQ evn))))) ?_;obtain ⟨F7, G7, f1, f2, f3, f4, f5, f6, f7⟩ := HA3.out;refine (C.new_ 9 E (neR NN 4) (by omega) (by have := HE.out; omega) f1).mono ?_;rintro e w8 ⟨b8, h8⟩;obtain ⟨_, t, G, rfl, j8, g8⟩ | ⟨h8, _⟩ := h8;rotate_left 1
 ·exact absurd (HH.out.symm.trans h8) (by decide)
 have HU8 : Hid (HAt C w w.heap.size (fun _ => False) w8 p t ⟨M0, 9, E, neR NN 4⟩) := ae ⟨G, j8, fun b hb => by
  rcases g8 b hb with e | e
  ·exact f4 b (.inl e)
  ·exact ap f5.size e, f5.trans (b8.mono f5.size), f6, fun b e => e.elim⟩
 clear f1 f2 f3 f4 f5 f6 f7 b8 j8 g8 HA1 HA2 HA3 HX3;refine bp ?_;refine runs 3 ?_;refine aL 2 ?_;go_upto_region 5 with fail;refine aZ 3 ?_;refine runs 1 ?_;refine abN (aR false rfl abQ evk rfl) ?_;refine runs 3 ?_;refine abN (aR false rfl abQ evk rfl) ?_;refine aL 1 ?_;go_upto_region 7 with fail;refine cC 1 ?_;go_wp2_with fail
 go_loopw [17] (fun z wr => ∃ i : Nat, z = .int .i64 i /\ i <= NN /\ HAt C w w.heap.size (fun _ => False) wr p t ⟨da (dL D1) M0 i, 9, E, neR NN 4⟩) (fun z _ => NN - (intOf z).toNat)
 case atStart => exact ⟨0, by go_num, Nat.zero_le _, HU8⟩
 case round =>
  clear HU8;obtain ⟨i, rfl, hi, ha⟩ := hrel;have HIL := ae hi;have HAi := ae ha;clear hi ha;by_cases hlt : i < NN
  ·have HI := ae hlt;have HLT : Hid (decide ((i : Int) < (NN : Int)) = true) := ae (am (by omega));have HIA : Hid (IntKind.i64.wrap ((i : Int) + 1) = ((i + 1 : Nat) : Int)) := ae (by have := HN2.out; rw [eC ⟨by omega, by omega⟩]; omega);have HU : Hid (IntKind.u64.wrap (i : Int) = (i : Int)) := ae (by rw [IntKind.wrap_u64]; exact Int.emod_eq_of_lt (by omega) (by have := HN2.out; omega));have HI16 : Hid (i <= 16) := ae (by have := HN2.out; omega);clear hlt;go_upto_region 8 with fail;refine aZ 2 ?_;refine abG (bu true rfl abQ abQ HLT) ?_;refine ag ?_;cases hq : dL D1 i
   ·have HQ : Hid ((((D1 / 2 ^ i % 2 : Nat) : Int) == 1) = false) := ae (by rw [na]; exact hq);have HF1 : Hid (da (dL D1) M0 (i + 1) = da (dL D1) M0 i) := ae (by rw [da, if_neg (by rw [hq]; decide)]);clear hq;go_upto_region 10 with fail;refine aZ 2 ?_;refine abG (ji rfl abQ HU) ?_;refine abG (gM rfl abQ abQ HI16) ?_;refine abG (gA rfl abQ evk (kP HD1)) ?_;refine abG (aD false rfl abQ evk HQ) ?_;refine ag ?_;go_upto_region 9 with fail;refine aZ 1 ?_;refine abG (cq rfl abQ evk HIA) ?_;refine aL 1 ?_;go_wp2_with fail;go_roundw
    case rel => exact ⟨i + 1, by go_num, HI, by rw [HF1.out]; exact HAi⟩
    case measure => have := HI.out; simp [intOf]; omega
   have HQ : Hid ((((D1 / 2 ^ i % 2 : Nat) : Int) == 1) = true) := ae (by rw [na]; exact hq);have HF1 : Hid (da (dL D1) M0 (i + 1) = fo (da (dL D1) M0 i) (i : Int)) := ae (by rw [da, if_pos hq]);clear hq;go_upto_region 10 with fail;refine aZ 2 ?_;refine abG (ji rfl abQ HU) ?_;refine abG (gM rfl abQ abQ HI16) ?_;refine abG (gA rfl abQ evk (kP HD1)) ?_;refine abG (aD true rfl abQ evk HQ) ?_;refine ag ?_;go_upto_region 11 with fail;refine aZ 2 ?_;refine ay rfl (aA call11 rfl (evc abQ (evc abQ evn))) ?_;refine (HAi.out.ben fun hb => C.R.fail (i : Int) hb).mono ?_;rintro e w8 ⟨rfl, a8, k8⟩;have HA8 := ae a8;clear a8 k8;refine bp ?_;refine ag ?_;go_upto_region 9 with fail;refine aZ 1 ?_;refine abG (cq rfl abQ evk HIA) ?_;refine aL 1 ?_;go_wp2_with fail;go_roundw
   case rel => exact ⟨i + 1, by go_num, HI, by rw [HF1.out]; exact HA8⟩
   case measure => have := HI.out; simp [intOf]; omega
  have hin : i = NN := by have := HIL.out; omega
  subst hin;have HLT : Hid (decide ((i : Int) < (i : Int)) = false) := ae (al (by omega));rw [HZ1.out] at HAi;clear hlt HIL;go_upto_region 8 with fail;refine aZ 2 ?_;refine abG (bu false rfl abQ abQ HLT) ?_;refine ag ?_;go_upto_region 12 with fail;refine aZ 1 ?_;refine ay rfl (aA call28 rfl (evc abQ evn)) ?_;refine (HAi.out.save HRM.out.1 HRM.out.2 HSV).mono ?_;rintro e w9 ⟨rfl, a_, _⟩;rw [HSV.out];rw [HZ2.out] at a_;have HU9 := ae a_;clear a_ HAi;refine bp ?_;refine abG (aR false rfl abQ evk rfl) ?_;refine ag ?_;go_upto_region 14 with fail;refine aZ 1 ?_;refine ay rfl (aA call29 rfl (evc abQ evn)) ?_;refine (HAt.nL HU9).mono ?_;rintro e w10 ⟨rfl, b_⟩;have HU10 := ae (HU9.out.below b_);clear b_ HU9;refine bp ?_;refine abG (bP rfl) ?_;refine az rfl (gI (c := z2.R) rfl (ev rfl) (ev rfl)) ?_;simp only [aa];have hx := (Below.refl w10.heap.size w10).alloc ai (.cells (aO z2.R).toArray 35);have HX11 := ae (bm.new w10 z2.R);have hsz : (w10.alloc (.cells (aO z2.R).toArray 35)).heap.size = w10.heap.size + 1 := ak;have HU11 := ae (HU10.out.guard (K' := fun b => b = w10.heap.size) hx fun b e => .inr ⟨by omega, by omega⟩);have HG18 : Hid (w.heap.size <= w10.heap.size) := ae HU10.out.bel.size;obtain ⟨b18, hb18⟩ : ∃ b, w10.heap.size = b := ⟨_, rfl⟩;rw [hb18] at HX11 HU11 HG18 ⊢;clear hx hsz hb18 HU10;generalize w10.alloc (.cells (aO z2.R).toArray 35) = w11 at *;refine ag ?_;go_upto_region 15 with fail;refine cC 1 ?_;have HU12 : Hid (HAt C w w.heap.size (fun b => b = b18) w11 p t ⟨da (dL D2) z2.M 0, z2.id, z2.ev, z2.R⟩) := ae HU11;have HX12 : Hid (bm w11 b18 (lsK (dL D2) z2.R 0)) := ae HX11;clear HU11 HX11;go_wp2_with fail
  go_loopw [19] (fun z wr => ∃ j : Nat, z = .int .i64 j /\ j <= i /\ HAt C w w.heap.size (fun b => b = b18) wr p t ⟨da (dL D2) z2.M j, z2.id, z2.ev, z2.R⟩ /\ bm wr b18 (lsK (dL D2) z2.R j)) (fun z _ => i - (intOf z).toNat)
  case atStart => exact ⟨0, by go_num, Nat.zero_le _, HU12, HX12⟩
  case round =>
   clear HU12 HX12;obtain ⟨j, rfl, hi, ha, hx⟩ := hrel;have HIL := ae hi;have HAj := ae ha;have HXj := ae hx;clear hi ha hx;by_cases hlt : j < i
   ·have HI := ae hlt;have HLT : Hid (decide ((j : Int) < (i : Int)) = true) := ae (am (by omega));have HIA : Hid (IntKind.i64.wrap ((j : Int) + 1) = ((j + 1 : Nat) : Int)) := ae (by have := HN2.out; rw [eC ⟨by omega, by omega⟩]; omega);have HU : Hid (IntKind.u64.wrap (j : Int) = (j : Int)) := ae (by rw [IntKind.wrap_u64]; exact Int.emod_eq_of_lt (by omega) (by have := HN2.out; omega));have HI16 : Hid (j <= 16) := ae (by have := HN2.out; omega);clear hlt;go_upto_region 16 with fail;refine aZ 2 ?_;refine abG (bu true rfl abQ abQ HLT) ?_;refine ag ?_;cases hq : dL D2 j
    ·have HQ : Hid ((((D2 / 2 ^ j % 2 : Nat) : Int) == 1) = false) := ae (by rw [na]; exact hq);have HF1 : Hid (da (dL D2) z2.M (j + 1) = da (dL D2) z2.M j /\ lsK (dL D2) z2.R (j + 1) = lsK (dL D2) z2.R j) := ae ⟨by rw [da, if_neg (by rw [hq]; decide)], by rw [lsK, if_neg (by rw [hq]; decide)]⟩;clear hq;go_upto_region 18 with fail;refine aZ 2 ?_;refine abG (ji rfl abQ HU) ?_;refine abG (gM rfl abQ abQ HI16) ?_;refine abG (gA rfl abQ evk (kP HD2)) ?_;refine abG (aD false rfl abQ evk HQ) ?_;refine ag ?_;go_upto_region 17 with fail;refine aZ 1 ?_;refine abG (cq rfl abQ evk HIA) ?_;refine aL 1 ?_;go_wp2_with fail;go_roundw
     case rel => exact ⟨j + 1, by go_num, HI, by rw [HF1.out.1]; exact HAj, by rw [HF1.out.2]; exact HXj⟩
     case measure => have := HI.out; simp [intOf]; omega
    have HQ : Hid ((((D2 / 2 ^ j % 2 : Nat) : Int) == 1) = true) := ae (by rw [na]; exact hq);have HF1 : Hid (da (dL D2) z2.M (j + 1) = fo (da (dL D2) z2.M j) (j : Int) /\ lsK (dL D2) z2.R (j + 1) = cG (lsK (dL D2) z2.R j) (j : Int)) := ae ⟨by rw [da, if_pos hq], by rw [lsK, if_pos hq]⟩;clear hq;go_upto_region 18 with fail;refine aZ 2 ?_;refine abG (ji rfl abQ HU) ?_;refine abG (gM rfl abQ abQ HI16) ?_;refine abG (gA rfl abQ evk (kP HD2)) ?_;refine abG (aD true rfl abQ evk HQ) ?_;refine ag ?_;go_upto_region 19 with fail;refine aZ 2 ?_;refine ay rfl (aA call11 rfl (evc abQ (evc abQ evn))) ?_;refine (HAj.out.ben fun hb => C.R.fail (j : Int) hb).mono ?_;rintro e w12 ⟨rfl, a_, k_⟩;have HA12 := ae a_;have HX12 : Hid (bm w12 b18 (lsK (dL D2) z2.R j)) := ae (k_.at_ rfl HXj);clear a_ k_ HAj HXj;refine bp ?_;refine ag ?_;go_upto_region 20 with fail;refine af ?_;refine abG (bh rfl abQ HX12.out.range) ?_;refine runs 1 ?_;refine ay rfl (aA call30 rfl (evc abQ (evc abQ evn))) ?_;refine (aaL (lsK (dL D2) z2.R j) (j : Int) w12).mono ?_;rintro e w13 ⟨rfl, b_⟩;have HA13 := ae (HA12.out.below b_);have HX13 := ae (HX12.out.below (aW HX12) b_);clear b_ HA12 HX12;refine bp ?_;refine runs 3 ?_;refine az rfl (dK (cs := aO (cG (lsK (dL D2) z2.R j) (j : Int))) (by rw [aT]; exact lh) (fF _) rfl (ev rfl) (ev rfl) (bk HX13.out (by rw [aT, aT]; decide))) ?_;simp only [aa];have hon : Only (fun b => b = b18) w13 (w13.setCells b18 0 (aO (cG (lsK (dL D2) z2.R j) (j : Int)))) := (Only.refl (fun b => b = b18) w13).setCells (b := b18) (.inl rfl) (aO (cG (lsK (dL D2) z2.R j) (j : Int))) 0;have HA14 := ae (HAt.aay HA13 rfl HG18 hon);have HX14 : Hid (bm (w13.setCells b18 0 (aO (cG (lsK (dL D2) z2.R j) (j : Int)))) b18 (cG (lsK (dL D2) z2.R j) (j : Int))) := ae (bm.abb HX13);clear hon HA13 HX13;generalize w13.setCells b18 0 (aO (cG (lsK (dL D2) z2.R j) (j : Int))) = w14 at *;refine ag ?_;go_upto_region 17 with fail;refine aZ 1 ?_;refine abG (cq rfl abQ evk HIA) ?_;refine aL 1 ?_;go_wp2_with fail;go_roundw
    case rel => exact ⟨j + 1, by go_num, HI, by rw [HF1.out.1]; exact HA14, by rw [HF1.out.2]; exact HX14⟩
    case measure => have := HI.out; simp [intOf]; omega
   have hin : j = i := by have := HIL.out; omega
   subst hin;have HLT : Hid (decide ((j : Int) < (j : Int)) = false) := ae (al (by omega));rw [HMF.out] at HAj;rw [HW.out] at HXj;clear hlt HIL;go_upto_region 16 with fail;refine aZ 2 ?_;refine abG (bu false rfl abQ abQ HLT) ?_;refine ag ?_;obtain ⟨le, hle⟩ : ∃ le, glE Mf = le := ⟨_, rfl⟩;obtain ⟨lf, hlf⟩ : ∃ lf, glF Mf = lf := ⟨_, rfl⟩;rw [hle, hlf] at HG;have HLE := ae hle;have HLF := ae hlf;clear hle hlf;go_upto_region 21 with fail;refine aZ 1 ?_;refine ay rfl (aA call20 rfl (evc abQ evn)) ?_;refine (HAj.out.gat I HLF HLE).mono ?_;rintro e w15 ⟨rfl, b_⟩;have HA15 := ae (HAj.out.below b_);have HX15 := ae (HXj.out.below (aW HXj) b_);clear b_ HAj HXj;refine bp ?_;refine runs 3 ?_;refine abG (dN rfl) ?_;refine az rfl (eX (c := lf) rfl (ev rfl) (ev rfl)) ?_;simp only [aa];have hx := (Below.refl w15.heap.size w15).alloc ai (.cells (bW lf).toArray 50);have HP16 : Hid (dC _ _ lf) := ae (heap_alloc_new w15 (.cells (bW lf).toArray 50));have HA16 := ae (HA15.out.below hx);have HX16 := ae (HX15.out.below (aW HX15) hx);obtain ⟨b20, hb20⟩ : ∃ b, w15.heap.size = b := ⟨_, rfl⟩;rw [hb20] at HP16 ⊢;clear hx hb20 HA15 HX15;generalize w15.alloc (.cells (bW lf).toArray 50) = w16 at *;refine aL 1 ?_;obtain ⟨mw, hmw⟩ : ∃ mw, ey W = mw := ⟨_, rfl⟩;have HMW := ae hmw;clear hmw;have hg := HG.out;go_upto_region 22 with fail;refine af ?_;refine abG (bh rfl abQ HX16.out.range) ?_;refine ay rfl (aA call31 rfl (evc abQ evn)) ?_;refine (yT W w16).mono ?_;rintro e w17 ⟨rfl, b_⟩;rcases hg with ⟨hm, he⟩ | ⟨hm, he, hf⟩
   ·have HQ : Hid ((((mw : Nat) : Int) == (j : Int)) = true) := ae (by rw [show mw = j from HMW.out.symm.trans hm]; exact beq_self_eq_true _);have HE7 : Hid ((le == 7) = true) := ae (by rw [he]; rfl);clear hm he;rw [HMW.out];have HA17 := ae (HA16.out.below b_);have HX17 := ae (HX16.out.below (aW HX16) b_);have HP17 : Hid (dC w17 b20 lf) := ae (aC HP16 b_);clear b_ HA16 HX16 HP16;refine bp ?_;refine runs 1 ?_;refine abG (aD true rfl abQ abQ HQ) ?_;refine ag ?_;go_upto_region 23 with fail;refine aZ 1 ?_;refine abG (aD true rfl abQ evk HE7) ?_;refine runs 1 ?_;refine ay abB (aA call23 rfl evn) ?_;refine (rU C I w17 HA17.out.tab).mono ?_;rintro e wz ⟨rfl, b_⟩;have HZ := ae (HA17.out.bel.trans (b_.mono HA17.out.bel.size));clear b_;refine bp ?_;refine aL 2 ?_;go_wp2_with fail;go_ret;exact ⟨rfl, HZ⟩
   have HQ : Hid ((((mw : Nat) : Int) == (j : Int)) = false) := ae (ar fun e => hm (HMW.out.trans (by omega)));have HE0 : Hid ((le == 0) = true) := ae (by rw [he]; rfl);have HLE2 : Hid ((((lf.ev : Nat) : Int) == ((z2.ev : Nat) : Int)) = true) := ae (by rw [hf]; exact beq_self_eq_true _);have HLI : Hid ((((lf.id : Nat) : Int) == 9) = true) := ae (by rw [hf]; rfl);have HLR : Hid (lf.R = W) := ae (by rw [hf]);clear hm he hf;rw [HMW.out];have HA17 := ae (HA16.out.below b_);have HX17 := ae (HX16.out.below (aW HX16) b_);have HP17 : Hid (dC w17 b20 lf) := ae (aC HP16 b_);clear b_ HA16 HX16 HP16;refine bp ?_;refine runs 1 ?_;refine abG (aD false rfl abQ abQ HQ) ?_;refine ag ?_;go_upto_region 24 with fail;refine bQ (B := w17.heap.size) (by kernel_rfl) ?_;refine ec 1 ?_;refine abO (fun _ hw => aD true rfl abQ evk HE0) ?_;refine ec 1 ?_;refine abP (fun _ hw => ax rfl abQ yU) ?_;refine abP (fun _ hw => aE rfl abQ (cR (dC.cells (aC HP17 hw)).1)) ?_;refine ec 1 ?_;refine cD abB (fun _ => aA call32 rfl (evc abQ evn)) (cn ai fun _ hw => HAt.rS (HA17.out.below hw)) ?_;simp only [aa];refine abP (fun _ hw => aD true rfl abQ abQ HLE2) ?_;refine ec 2 ?_;refine abP (fun _ hw => ax rfl abQ m8) ?_;refine abP (fun _ hw => aE rfl abQ (cR (dC.cells (aC HP17 hw)).2)) ?_;refine abP (fun _ hw => aD true rfl abQ evk HLI) ?_;refine ec 2 ?_;refine abP (fun _ hw => ax rfl abQ ly) ?_;refine abP (fun _ hw => bh (c := W) rfl abQ (HLR.out ▸ dC.mm (aC HP17 hw))) ?_;refine abP (fun _ hw => bh rfl abQ (HX17.out.below (aW HX17) hw).range) ?_;refine cD abB (fun _ => aA call33 rfl (evc abQ (evc abQ evn))) (cn ai fun w' hw => yu W w') ?_;simp only [aa];refine ec 2 ?_;refine cD abB (fun _ => aA call23 rfl evn) (cn ai fun w' hw => rU C I w' (HAt.tab (HA17.out.below hw))) ?_;simp only [aa];refine ec 2 ?_;refine wpQuiet_nil ?_;intro w19 hw;have HW19 := ae (HA17.out.bel.trans (hw.mono HA17.out.bel.size));clear hw;go_wp2_with fail;go_ret;exact ⟨rfl, HW19⟩
structure Tld where
 ev : Nat
 S : Sup
def aS : Tld := ⟨0, bq⟩
def i4 (M : aM) (d : Int) : Tld := ⟨gaN M d, gaS M d⟩
def kz (M : aM) (k : Nat) : List Tld := (List.range k).map fun (j : Nat) => i4 M (j : Int)
section
variable {M : aM} {k j : Nat} {f : Fnd}
theorem ez : (kz M k).length = k := by simp [kz]
theorem fL (h : j < k) : (kz M k).getD j aS = i4 M (j : Int) := by simp [kz, List.getD, h]
theorem sB : kz M (k + 1) = kz M k ++ [i4 M (k : Int)] := by simp [kz, List.range_succ]
theorem nH (h : gaE M (j : Int) = 0) : 1 <= gaN M (j : Int) := (qX h).1.1
theorem nT (h : gaE M (j : Int) ≠ 0) : gaN M (j : Int) = 0 := (ml h).1
theorem xh : gaE M (j : Int) = 0 ↔ gaN M (j : Int) ≠ 0 := ⟨fun h => by have := nH h; omega, fun h => Decidable.byContradiction fun e => h (nT e)⟩
theorem rr (M : aM) : ∀ k : Nat, (gaK M k = none /\ ∀ i, i < k -> gaN M (i : Int) = 0) \/ (∃ j, j < k /\ gaK M k = some (gaP M (j : Int)) /\ gaE M (j : Int) = 0 /\ (∀ i, i < j -> gaN M (i : Int) < gaN M (j : Int)) /\ ∀ i, i < k -> gaN M (i : Int) <= gaN M (j : Int))
 |0 => .inl ⟨rfl, fun i hi => absurd hi (by omega)⟩
 |k + 1 => by
  by_cases he : gaE M (k : Int) = 0
  ·have hp := nH he;rcases rr M k with ⟨e1, e2⟩ | ⟨j, e1, e2, e3, e4, e5⟩
   ·refine .inr ⟨k, by omega, by rw [gaK, e1, if_pos ⟨he, rfl⟩], he, fun i hi => by rw [e2 i hi]; omega, fun i hi => ?_⟩;by_cases x : i = k
    ·subst x; omega
    ·rw [e2 i (by omega)]; omega
   ·by_cases hl : gaN M (j : Int) < gaN M (k : Int)
    ·refine .inr ⟨k, by omega, by rw [gaK, e2, if_pos ⟨he, am hl⟩], he, fun i hi => by have := e5 i hi; omega, fun i hi => ?_⟩;by_cases x : i = k
     ·subst x; omega
     ·have := e5 i (by omega); omega
    ·refine .inr ⟨j, by omega, by rw [gaK, e2, if_neg (fun x => hl (of_decide_eq_true x.2))], e3, e4, fun i hi => ?_⟩;by_cases x : i = k
     ·subst x; omega
     ·exact e5 i (by omega)
  ·have hz := nT he;have hk : gaK M (k + 1) = gaK M k := by rw [gaK, if_neg (fun x => he x.1)]
   rcases rr M k with ⟨e1, e2⟩ | ⟨j, e1, e2, e3, e4, e5⟩
   ·refine .inl ⟨hk.trans e1, fun i hi => ?_⟩;by_cases x : i = k
    ·subst x; exact hz
    ·exact e2 i (by omega)
   ·refine .inr ⟨j, by omega, hk.trans e2, e3, e4, fun i hi => ?_⟩;by_cases x : i = k
    ·subst x; omega
    ·exact e5 i (by omega)
def aav (l : List Tld) (j : Nat) : Prop := j < l.length /\ (∀ i, i < j -> (l.getD i aS).ev < (l.getD j aS).ev) /\ ∀ i, i < l.length -> (l.getD i aS).ev <= (l.getD j aS).ev
theorem wj (M : aM) (k : Nat) : (k = 0 /\ gaK M k = none) \/ ∃ j, aav (kz M k) j /\ j < k /\ ((gaN M (j : Int) = 0 /\ gaK M k = none) \/ (gaN M (j : Int) ≠ 0 /\ gaE M (j : Int) = 0 /\ gaK M k = some (gaP M (j : Int)))) := by
 rcases rr M k with ⟨e1, e2⟩ | ⟨j, e1, e2, e3, e4, e5⟩
 ·by_cases h : k = 0
  ·exact .inl ⟨h, e1⟩
  ·refine .inr ⟨0, ⟨by rw [ez]; omega, fun i hi => absurd hi (by omega), fun i hi => ?_⟩, by omega, .inl ⟨e2 0 (by omega), e1⟩⟩;rw [ez] at hi;rw [fL hi, fL (by omega)]
   show gaN M _ <= gaN M _
   rw [e2 i hi];exact Nat.zero_le _
 ·refine .inr ⟨j, ⟨by rw [ez]; exact e1, fun i hi => ?_, fun i hi => ?_⟩, e1, .inr ⟨by have := nH e3; omega, e3, e2⟩⟩
  ·rw [fL (by omega), fL e1];exact e4 i hi
  ·rw [ez] at hi;rw [fL hi, fL e1];exact e5 i hi
def tlW (t : Tld) (j : Nat) (id : Nat) (R : Ros) : Bool := decide (t.ev ≠ 0) && (decide (t.S.id = id) && (decide (t.S.self = (j : Int)) && ma t.S.ros R))
theorem aab (hf : aU f.R = true) (k : Nat) : tlW (i4 M (j : Int)) j f.id (gaL M f k) = gaW M f j := by
 obtain ⟨_, h2, h3, h4⟩ := ob (M := M) hf k;have hg : ma (gaS M (j : Int)).ros (gaL M f k) = ma (gaS M (j : Int)).ros f.R := by unfold ma; rw [h2, h3, h4]
 have he : decide (gaN M (j : Int) ≠ 0) = decide (gaE M (j : Int) = 0) := by rw [decide_eq_decide]; exact xh.symm
 unfold tlW gaW i4;dsimp only;rw [hg, he];cases decide (gaE M (j : Int) = 0) <;> cases decide ((gaS M (j : Int)).self = (j : Int)) <;> cases decide ((gaS M (j : Int)).id = f.id) <;> rfl
end
def may (m s r : Int) : Bool := decide (3 <= m /\ m <= 16 /\ 1 <= s /\ s <= 64 /\ 40 <= r /\ r <= 256)
def has (s t : Int) : Bool := decide (0 <= t /\ t < s)
theorem kB {s t : Int} : has s t = true ↔ (0 <= t /\ t < s) := by unfold has; rw [decide_eq_true_iff]
def par (M T : Nat) : Nat := M - 1 - T % M
def uc (t : Int) : Int := if has 64 t = true then 2 + t else 0
def tQ (t : Int) : Int := if has 64 t = true then 0 else 12
theorem ke (t : Int) (w : World) : Calls prog 93 #[.int .i64 t] w fun e w' => e = .returned (.tuple #[.int .i64 (uc t), .int .i64 (tQ t)]) /\ Below w.heap.size w w' := by
 go_enter func93, ntmps93;go_wp2
 all_goals
  go_ret2;refine ⟨pl ?_ ?_, aj⟩
  all_goals
   first
   |unfold uc
   |unfold tQ
   first
   |rw [if_pos (kB.2 (by omega))]
   |rw [if_neg (by rw [kB]; omega)]
theorem xY (a b : Blk) (k : Nat) (w : World) (T : Tab w) (h : kw a b = k) : Calls prog 114 #[blk a, blk b] w fun e w' => e = .returned (.int .i64 (k : Nat)) /\ Below w.heap.size w w' := by
 subst h;exact aap a b w T
structure HpS where
 id : Nat
 ev : Nat
 us : Nat
 R : Ros
def phC (qa : Option Addr) (x : HpS) : List Value := .pointer qa :: .int .u64 (x.id : Int) :: .int .u64 (x.ev : Int) :: (aO x.R ++ [.int .u64 (x.us : Int)])
theorem yn (qa : Option Addr) (x : HpS) : (phC qa x).length = 25 := by simp [phC, aT]
def PHo (w : World) (p : Nat) (qa : Option Addr) (x : HpS) : Prop := w.heap[p]? = some (.cells (phC qa x).toArray 112 (0, 0))
abbrev PHu (w : World) (p q : Nat) (x : HpS) : Prop := PHo w p (some ⟨q, 0, none⟩) x
section
variable {w w' : World} {p : Nat} {qa : Option Addr} {x : HpS} {G : Nat -> Prop}
theorem PHo.only (h : PHo w p qa x) (ho : Only G w w') (hn : ¬ G p) : PHo w' p qa x := ho.keep h hn
theorem PHo.below (h : PHo w p qa x) (hb : Below w.heap.size w w') : PHo w' p qa x := aC h hb
theorem PHo.lt (h : PHo w p qa x) : p < w.heap.size := aW h
theorem PHo.c0 (h : PHo w p qa x) : w.cell? ⟨p, 0, none⟩ = some (.pointer qa) := (bN h) 0 _ rfl
theorem PHo.c1 (h : PHo w p qa x) : w.cell? ⟨p, 1, none⟩ = some (.int .u64 (x.id : Int)) := (bN h) 1 _ rfl
theorem PHo.c2 (h : PHo w p qa x) : w.cell? ⟨p, 2, none⟩ = some (.int .u64 (x.ev : Int)) := (bN h) 2 _ rfl
theorem PHo.c24 (h : PHo w p qa x) : w.cell? ⟨p, 24, none⟩ = some (.int .u64 (x.us : Int)) := (bN h) 24 _ (by
 show (aO x.R ++ [_])[21]? = _
 rw [List.getElem?_append_right (by rw [aT]; exact ai), aT]; rfl)
theorem PHo.ros (h : PHo w p qa x) : w.rangeAt p 3 (aO x.R) := by
 have := dR (k := 3) (ds := [.pointer qa, .int .u64 (x.id : Int), .int .u64 (x.ev : Int)]) (es := aO x.R) (fs := [.int .u64 (x.us : Int)]) (bN h) (by simp [phC]) rfl;rwa [Nat.zero_add] at this
theorem PHo.vh (h : PHo w p qa x) (j : Nat) : w.frozen? ⟨p, j, none⟩ = false := frozen_of_row w p j _ _ h
theorem PHo.there (h : PHo w p qa x) {o n : Nat} (hn : o + n <= 25) : w.there p o n := bk h (by rw [yn]; exact hn)
theorem oJ : (Instr.fieldAt 112 (.pointer (some ⟨p, 0, none⟩)) 0).run prog w = .ok (.pointer (some ⟨p, 0, none⟩)) w := by kernel_rfl
theorem aaG : (Instr.fieldAt 112 (.pointer (some ⟨p, 0, none⟩)) 1).run prog w = .ok (.pointer (some ⟨p, 1, none⟩)) w := by kernel_rfl
theorem yW : (Instr.fieldAt 112 (.pointer (some ⟨p, 0, none⟩)) 2).run prog w = .ok (.pointer (some ⟨p, 2, none⟩)) w := by kernel_rfl
theorem vY : (Instr.fieldAt 112 (.pointer (some ⟨p, 0, none⟩)) 3).run prog w = .ok (.pointer (some ⟨p, 3, none⟩)) w := by kernel_rfl
theorem vy : (Instr.fieldAt 112 (.pointer (some ⟨p, 0, none⟩)) 4).run prog w = .ok (.pointer (some ⟨p, 24, none⟩)) w := by kernel_rfl
theorem uq {ad : Addr} {a : Option Addr} (h : w.cell? ad = some (.pointer a)) : (Instr.loadAt 24 (.pointer (some ad))).run prog w = .ok (.pointer a) w := by simp [go_sem, h]
theorem t0 {ad : Addr} {a : Option Addr} (h : w.cell? ad = some (.pointer a)) : (Instr.loadAt 62 (.pointer (some ad))).run prog w = .ok (.pointer a) w := by simp [go_sem, h]
theorem PHo.set {y : HpS} (h : PHo w p qa x) {j : Nat} {u : Value} (hy : (phC qa x).set j u = phC qa y) : PHo (w.setCell ⟨p, j, none⟩ u) p qa y := by
 have := heap_setCell_same w p j _ 112 u h;rw [List.setIfInBounds_toArray, hy] at this;exact this
theorem PHo.put (h : PHo w p qa x) (y : Ros) : PHo (w.setCells p 3 (aO y)) p qa { x with R := y } :=
 heap_put p 112 [.int .u64 (x.us : Int)] (aO y) (aO x.R) [.pointer qa, .int .u64 (x.id : Int), .int .u64 (x.ev : Int)] w (by rw [aT, aT]) h
theorem zT (qa : Option Addr) (x : HpS) (e : Nat) : (phC qa x).set 2 (.int .u64 (e : Int)) = phC qa { x with ev := e } := rfl
theorem uY (qa : Option Addr) (x : HpS) (e : Nat) : (phC qa x).set 24 (.int .u64 (e : Int)) = phC qa { x with us := e } := by
 show _ :: _ :: _ :: (aO x.R ++ [_]).set 21 _ = _
 rw [List.set_append_right _ _ (by rw [aT]; exact ai), aT]
 rfl
end
def HJ (w0 : World) (H K : Nat -> Prop) (w : World) (p q : Nat) (M : aM) (x : HpS) : Prop :=
 ∃ G, aP.Bn w G q M /\ PHu w p q x /\ ¬ G p /\ Only H w0 w /\ Grow w0 H (fun b => G b \/ b = p) /\ (∀ b, K b -> ¬ G b /\ b ≠ p /\ b < w.heap.size) /\ CrG w0 H
section
variable {w0 w w' : World} {H K K' : Nat -> Prop} {p q : Nat} {M : aM} {x y : HpS}
theorem HJ.hul (h : HJ w0 H K w p q M x) : PHu w p q x := by obtain ⟨_, _, h, _⟩ := h; exact h
theorem HJ.tab (h : HJ w0 H K w p q M x) : Tab w := by
 obtain ⟨_, _, _, _, h, _, _, hT⟩ := h;intro i hi;have := hT.t i hi;exact (h.cell (p := ⟨0, i, none⟩) (ko this) hT.off).trans this
theorem HJ.lt (h : HJ w0 H K w p q M x) {b : Nat} (hb : K b) : b < w.heap.size := by obtain ⟨_, _, _, _, _, _, h, _⟩ := h; exact (h b hb).2.2
theorem HJ.ne (h : HJ w0 H K w p q M x) {b : Nat} (hb : K b) : b ≠ p := by obtain ⟨_, _, _, _, _, _, h, _⟩ := h; exact (h b hb).2.1
theorem HJ.size (h : HJ w0 H K w p q M x) : w0.heap.size <= w.heap.size := by obtain ⟨_, _, _, _, h, _⟩ := h; exact h.size
theorem HJ.guard (h : HJ w0 H K w p q M x) (hb : Below w.heap.size w w') (hK : ∀ b, K' b -> K b \/ (w.heap.size <= b /\ b < w'.heap.size)) : HJ w0 H K' w' p q M x := by
 obtain ⟨G, h1, h2, h3, h4, h5, h6, h7⟩ := h;have hlt := aP.lt h1;have hp := h2.lt;have hs := hb.size;refine ⟨G, aP.below h1 hb, h2.below hb, h3, h4.lr hb, h5, fun b e => ?_, h7⟩;rcases hK b e with e | ⟨e1, e2⟩
 ·obtain ⟨g1, g2, g3⟩ := h6 b e;exact ⟨g1, g2, by omega⟩
 ·exact ⟨fun hg => by have := hlt b hg; omega, by omega, e2⟩
theorem HJ.below (h : HJ w0 H K w p q M x) (hb : Below w.heap.size w w') : HJ w0 H K w' p q M x := h.guard hb fun b e => .inl e
theorem HJ.drew (h : HJ w0 H K w p q M x) : HJ w0 H K w.drew p q M x := h.below (bd aj)
theorem HJ.less (h : HJ w0 H K w p q M x) (hK : ∀ b, K' b -> K b) : HJ w0 H K' w p q M x := h.guard aj fun b e => .inl (hK b e)
def up (K : Nat -> Prop) (n m : Nat) : Nat -> Prop := fun b => K b \/ (n <= b /\ b < m)
theorem HJ.up (h : HJ w0 H K w p q M x) (hb : Below w.heap.size w w') : HJ w0 H (Proofs.YtehefifamaofkaaGreatDoor.up K w.heap.size w'.heap.size) w' p q M x := h.guard hb fun b e => e
theorem HJ.kept (h : HJ w0 H K w p q M x) (hb : Below w.heap.size w w') : dd K w w' := fun b e => hb.block b (h.lt e)
theorem HJ.turn {G G' : Nat -> Prop} {M' : aM} (h1 : aP.Bn w G q M) (h2 : PHu w p q x) (h3 : ¬ G p) (h4 : Only H w0 w) (h5 : Grow w0 H (fun b => G b \/ b = p)) (h6 : ∀ b, K b -> ¬ G b /\ b ≠ p /\ b < w.heap.size) (h7 : CrG w0 H)
  (k1 : aP.Bn w' G' q M') (k2 : Only G w w') (k3 : Grow w G G') : HJ w0 H K w' p q M' x /\ dd K w w' := by
 have hs := k2.size;have hs0 := h4.size;have hp := h2.lt;refine ⟨⟨G', k1, h2.only k2 h3, fun e => ?_, h4.trans k2 fun b e => h5 b (.inl e), fun b e => ?_, fun b e => ?_, h7⟩, fun b e => k2.block b (h6 b e).2.2 (h6 b e).1⟩
 ·rcases k3 p e with e | e
  ·exact h3 e
  ·omega
 ·rcases e with e | e
  ·rcases k3 b e with e | e
   ·exact h5 b (.inl e)
   ·exact .inr (by omega)
  ·exact h5 b (.inr e)
 ·obtain ⟨g1, g2, g3⟩ := h6 b e;refine ⟨fun hg => ?_, g2, by omega⟩;rcases k3 b hg with e | e
  ·exact g1 e
  ·omega
theorem HJ.write (d n : Int) (b : Blk) (hr : Room M 1) (h : HJ w0 H K w p q M x) : Calls prog 9 #[.pointer (some ⟨q, 0, none⟩), .int .i64 d, .int .i64 n, blk b] w fun e w' => e = .returned (.int .i64 (iS M d n)) /\ HJ w0 H K w' p q (dE M d n b) x /\ dd K w w' := by
 obtain ⟨G, h1, h2, h3, h4, h5, h6, h7⟩ := h;exact (aP.write d n b hr h1).mono fun e w' ⟨k0, G', k1, k2, k3⟩ => ⟨k0, HJ.turn h1 h2 h3 h4 h5 h6 h7 k1 k2 k3⟩
theorem HJ.flush (d : Int) (hr : Room M 1) (h : HJ w0 H K w p q M x) : Calls prog 15 #[.pointer (some ⟨q, 0, none⟩), .int .i64 d] w fun e w' => e = .returned (.int .i64 (gl M d)) /\ HJ w0 H K w' p q (eD M d) x /\ dd K w w' := by
 obtain ⟨G, h1, h2, h3, h4, h5, h6, h7⟩ := h;exact (aP.flush d hr h1).mono fun e w' ⟨k0, G', k1, k2, k3⟩ => ⟨k0, HJ.turn h1 h2 h3 h4 h5 h6 h7 k1 k2 k3⟩
theorem HJ.read (d n : Int) (h : HJ w0 H K w p q M x) : Calls prog 81 #[.pointer (some ⟨q, 0, none⟩), .int .i64 d, .int .i64 n] w fun e w' => e = .returned (.tuple #[blk (dA M d n), .int .i64 (cg M d n)]) /\ Below w.heap.size w w' := by
 obtain ⟨G, h1, _⟩ := h;exact aP.read d n h1
theorem HJ.obj (h : HJ w0 H K w p q M x) (ho : Only (fun b => b = p) w w') (hp : PHu w' p q y) : HJ w0 H K w' p q M y /\ dd K w w' := by
 obtain ⟨G, h1, h2, h3, h4, h5, h6, h7⟩ := h;have hs := ho.size;refine ⟨⟨G, aP.only h1 ho fun b hb e => h3 (e ▸ hb), hp, h3, h4.trans ho fun b e => h5 b (.inr e), h5, fun b e => ?_, h7⟩, fun b e => ho.block b (h6 b e).2.2 (h6 b e).2.1⟩;obtain ⟨g1, g2, g3⟩ := h6 b e;exact ⟨g1, g2, by omega⟩
theorem HJ.mine {g : Nat} (h : HJ w0 H K w p q M x) (hg : K g) (hg0 : w0.heap.size <= g) (ho : Only (fun b => b = g) w w') : HJ w0 H K w' p q M x := by
 obtain ⟨G, h1, h2, h3, h4, h5, h6, h7⟩ := h;have hs := ho.size;obtain ⟨g1, g2, g3⟩ := h6 g hg;refine ⟨G, aP.only h1 ho fun b hb e => g1 (e ▸ hb), h2.only ho fun e => g2 e.symm, h3, h4.trans ho fun b e => .inr (by omega), h5, fun b e => ?_, h7⟩;obtain ⟨g1, g2, g3⟩ := h6 b e;exact ⟨g1, g2, by omega⟩
end
structure Fu where
 f : FuncId
 cap : List Value
 ok : ∀ (args : Array Value) (w : World), (callFunc f args).run prog w = .ok (.enter f args) w
def Fu.val (s : Fu) : Value := .func (.func s.f) #[] s.cap.toArray
section
variable {ρ : Operand -> Value} {o : Oper} {x y : Operand} {w : World} {s : Fu} {v : Value}
theorem oz {a : Act} {ats : Array TypeId} (ho : o.op = .call { callee := .value x, args := #[y], argTypes := ats }) (hx : a.eval x = s.val) (hy : a.eval y = v) : (execOp a.eval o).run prog w = .ok (.enter s.f (v :: s.cap).toArray) w := by
 unfold Fu.val at hx;unfold execOp;simp [ho, resolve, Deferred.ofValue, invoke, hx, hy, s.ok]
end
def NoH (w : World) (v : Value) : Prop := v = .pointer none \/ ∃ p, v = .pointer (some ⟨p, 0, none⟩) /\ PHo w p none ⟨0, 0, 0, bF⟩
theorem NoH.below {w w' : World} {v : Value} (h : NoH w v) (hb : Below w.heap.size w w') : NoH w' v := by
 rcases h with h | ⟨p, h, h1⟩
 ·exact .inl h
 ·exact .inr ⟨p, h, h1.below hb⟩
section
variable {w : World} {p q : Nat} {qa : Option Addr} {x : HpS} {v : Value}
theorem uz (h : PHo w p (some ⟨q, 0, none⟩) x) : Calls prog 68 #[.pointer (some ⟨p, 0, none⟩)] w fun e w' => e = .returned (.bool true) /\ w = w' := by
 have HL := ae h;clear h;go_enter func68, ntmps68;go_upto_region 1 with fail;refine aZ 1 ?_;refine abG (fz true underlying62 rfl abQ evk rfl) ?_;refine runs 3 ?_;refine abN (ax rfl abQ oJ) ?_;refine abN (aE rfl abQ (uq (PHo.c0 HL))) ?_;refine abN (fz true underlying24 rfl abQ evk rfl) ?_;refine aL 2 ?_;go_wp2_with fail;go_ret;exact ⟨rfl, rfl⟩
theorem vo (h : PHo w p none x) : Calls prog 68 #[.pointer (some ⟨p, 0, none⟩)] w fun e w' => e = .returned (.bool false) /\ w = w' := by
 have HL := ae h;clear h;go_enter func68, ntmps68;go_upto_region 1 with fail;refine aZ 1 ?_;refine abG (fz true underlying62 rfl abQ evk rfl) ?_;refine runs 3 ?_;refine abN (ax rfl abQ oJ) ?_;refine abN (aE rfl abQ (uq (PHo.c0 HL))) ?_;refine abN (fz false underlying24 rfl abQ evk rfl) ?_;refine aL 2 ?_;go_wp2_with fail;go_ret;exact ⟨rfl, rfl⟩
theorem ut : Calls prog 68 #[.pointer none] w fun e w' => e = .returned (.bool false) /\ w = w' := by
 go_enter func68, ntmps68;go_upto_region 1 with fail;refine aZ 1 ?_;refine abG (fz false underlying62 rfl abQ evk rfl) ?_;refine aG 5 rfl (aK rfl abQ) (by kernel_rfl) ?_;simp only [a9, ac, aa];refine aL 2 ?_;go_wp2_with fail;go_ret;exact ⟨rfl, rfl⟩
theorem xg (h : NoH w v) : Calls prog 68 #[v] w fun e w' => e = .returned (.bool false) /\ w = w' := by
 rcases h with rfl | ⟨p, rfl, h⟩
 ·exact ut
 ·exact vo h
theorem sF (h : PHo w p qa x) : Calls prog 29 #[.pointer (some ⟨p, 0, none⟩)] w fun e w' => e = .returned (ros (x.R)) /\ Below w.heap.size w w' := by
 have HL := ae (h.below ((Below.refl w.heap.size w).alloc ai (.cells (aO bF).toArray 35)));clear h;have HA := ae (bm.new w bF);have HB := ae ((Below.refl w.heap.size w).alloc ai (.cells (aO bF).toArray 35));go_enter func29, ntmps29;go_upto_region 0 with fail;refine af ?_;refine abG (bP rfl) ?_;generalize w.alloc (.cells (aO bF).toArray 35) = w1 at *
 skip
 refine ag ?_;go_upto_region 1 with fail;refine aZ 1 ?_;refine abG (i6 false underlying62 rfl abQ evk rfl) ?_;refine ag ?_;go_upto_region 3 with fail;refine aZ 2 ?_;refine abG (ax rfl abQ vY) ?_;refine abG (bh rfl abQ (PHo.ros HL)) ?_;refine az rfl (cu rfl (ev rfl) (ev rfl) HA.out) ?_;simp only [aa];refine ag ?_;go_wp2_with fail;exact bodyPost_ret (za rfl _ _ _ rfl (iO HA)) rfl ⟨rfl, gy HB ai⟩
theorem pH (h : PHo w p qa x) : Calls prog 32 #[.pointer (some ⟨p, 0, none⟩)] w fun e w' => e = .returned (.int .u64 (x.ev : Int)) /\ w = w' := by
 have HL := ae h;clear h;go_enter func32, ntmps32;go_upto_region 1 with fail;refine aZ 1 ?_;refine abG (i6 false underlying62 rfl abQ evk rfl) ?_;refine ag ?_;go_upto_region 3 with fail;refine aZ 2 ?_;refine abG (ax rfl abQ yW) ?_;refine abG (aE rfl abQ (cR (PHo.c2 HL))) ?_;refine aL 1 ?_;go_wp2_with fail;go_ret;exact ⟨rfl, rfl⟩
theorem tV : Calls prog 32 #[.pointer none] w fun e w' => e = .returned (.int .u64 0) /\ w = w' := by
 go_enter func32, ntmps32;go_upto_region 1 with fail;refine aZ 1 ?_;refine abG (i6 true underlying62 rfl abQ evk rfl) ?_;refine ag ?_;go_upto_region 2 with fail;refine cC 1 ?_;go_wp2_with fail;go_ret;exact ⟨rfl, rfl⟩
end
section
variable {P : Program} {md : Region.Mode} {l : List Oper} {Q : Exit -> Act -> World -> Prop} {S : World -> Prop} {fuel : Nat} {listed : Array Bool} {a : Act} {w w1 : World} {o o' : Oper} {v : Value}
theorem tN (i : Nat) (hi : l[i]? = some o) (hr : Region.ready md l.toArray listed = [i]) (hw : Region.wanted o (yielded l.toArray a.tmps) = true) (h : (execOp a.eval o).run P w = .ok (.value v) w1)
  (hS : S w1) (hk : wpAnyH P md l.toArray Q S fuel (listed.setIfInBounds i true) (a.put o.dst v) w1) : wpAnyH P md l.toArray Q S (fuel + 1) listed a w :=
 wpAnyH_all hr (by simp) fun j hj => by
  obtain rfl : j = i := by simpa using hj
  unfold wpOp;simp only [List.getElem?_toArray, hi, hw, if_true];refine .inl ?_;unfold Oper.wp;rw [h];exact ⟨hS, hk⟩
theorem pj (i j : Nat) {f : FuncId} {vs : Array Value} (hi : l[i]? = some o) (hj : l[j]? = some o') (hr : Region.ready md l.toArray listed = [i, j]) (hwi : Region.wanted o (yielded l.toArray a.tmps) = true) (hwj : Region.wanted o' (yielded l.toArray a.tmps) = true) (h : (execOp a.eval o).run P w = .ok (.enter f vs) w)
  (hc : Calls P f vs w fun e w' => ∃ v, e = .returned v /\ S w' /\ wpAnyH P md l.toArray Q S fuel (listed.setIfInBounds i true) (a.put o.dst v) w') (h' : (execOp a.eval o').run P w = .ok (.value v) w1) (hS : S w1)
  (hk : wpAnyH P md l.toArray Q S fuel (listed.setIfInBounds j true) (a.put o'.dst v) w1) : wpAnyH P md l.toArray Q S (fuel + 1) listed a w :=
 wpAnyH_all hr (by simp) fun z hz => by
  rcases (show z = i \/ z = j by simpa using hz) with rfl | rfl
  ·unfold wpOp;simp only [List.getElem?_toArray, hi, hwi, if_true];refine .inl ?_;unfold Oper.wp;rw [h];exact hc.mono fun e w' ⟨v, he, hk⟩ => by subst he; exact hk
  ·unfold wpOp;simp only [List.getElem?_toArray, hj, hwj, if_true];refine .inl ?_;unfold Oper.wp;rw [h'];exact ⟨hS, hk⟩
theorem zd {α β : Type} {F : α -> β -> Prop} {G : Prop} {T : α -> β -> Prop} (k : (∀ a b, F a b -> T a b) -> G) (h : ∀ a b, F a b -> T a b) : G := k h
end
theorem ve : (prog.info? 130).map (fun i => i.zero) = some (some (.agg (cel aB ++ cel aB).toArray)) := by kernel_rfl
def Ar2 (w : World) (b : Nat) (a0 a1 : Blk) : Prop := w.heap[b]? = some (.cells (cel a0 ++ cel a1).toArray 130 (0, 0))
theorem Ar2.r0 {w : World} {b : Nat} {a0 a1 : Blk} (h : Ar2 w b a0 a1) : w.rangeAt b 0 (cel a0) := dR (cs := cel a0 ++ cel a1) (ds := []) (es := cel a0) (fs := cel a1) (k := 0) (bN h) rfl rfl
theorem Ar2.r1 {w : World} {b : Nat} {a0 a1 : Blk} (h : Ar2 w b a0 a1) : w.rangeAt b 64 (cel a1) := by
 have := dR (cs := cel a0 ++ cel a1) (ds := cel a0) (es := cel a1) (fs := []) (k := 64) (bN h) (by rw [List.append_nil]) (aJ a0);rwa [Nat.zero_add] at this
theorem Ar2.there {w : World} {b k : Nat} {a0 a1 : Blk} (h : Ar2 w b a0 a1) (hk : k < 2) : w.there b (0 + k * 64) 64 := bk h (by rw [List.length_append, aJ, aJ]; omega)
theorem Ar2.set {w : World} {b k : Nat} {a0 a1 : Blk} (h : Ar2 w b a0 a1) (hk : k < 2) (y : Blk) : Ar2 (w.setCells b (0 + k * 64) (cel y)) b (if k = 0 then y else a0) (if k = 1 then y else a1) := by
 rcases (show k = 0 \/ k = 1 by omega) with rfl | rfl
 ·exact heap_put b 130 (cel a1) (cel y) (cel a0) [] w (by rw [aJ, aJ]) h
 ·have h' : w.heap[b]? = some (.cells (cel a0 ++ cel a1 ++ []).toArray 130 (0, 0)) := by rw [List.append_nil]; exact h
  have := heap_put b 130 [] (cel y) (cel a1) (cel a0) w (by rw [aJ, aJ]) h';rw [List.append_nil, aJ] at this;exact this
theorem yD {w : World} {b k : Nat} (hk : k < 2) : (Instr.indexAt 130 (.pointer (some ⟨b, 0, none⟩)) (.int .i64 (k : Int))).run prog w = .ok (.pointer (some ⟨b, 0 + k * 64, none⟩)) w := by
 have e : (0 <= (k : Int) /\ (k : Int) < 2) := by omega
 simp [Instr.indexAt, Instr.sureAddr, asIntOf, run_underlying underlying130, Tryz.sizeOf29, Addr.add_mid, e, hk]
theorem yM {w : World} {b : Nat} : (Instr.indexAt 130 (.pointer (some ⟨b, 0, none⟩)) (.int .i64 0)).run prog w = .ok (.pointer (some ⟨b, 0, none⟩)) w := yD (k := 0) (by omega)
theorem yY {w : World} {b : Nat} : (Instr.indexAt 130 (.pointer (some ⟨b, 0, none⟩)) (.int .i64 1)).run prog w = .ok (.pointer (some ⟨b, 64, none⟩)) w := yD (k := 1) (by omega)
theorem abg {w : World} {ad : Addr} {u : Value} {n : Int} (h : w.cell? ad = some u) (hf : w.frozen? ad = false) : (Instr.storeAt 30 (.pointer (some ad)) (.int .u64 n)).run prog w = .ok () (w.setCell ad (.int .u64 n)) := by simp [go_sem, h, hf]
theorem uk {w : World} {b : Nat} : (Instr.fieldAt 37 (.pointer (some ⟨b, 0, none⟩)) 1).run prog w = .ok (.pointer (some ⟨b, 1, none⟩)) w := by kernel_rfl
theorem fU {ρ : Operand -> Value} {o : Oper} {x y : Operand} {w : World} {b j : Nat} {u : Value} {n : Int} (ho : o.op = .store 30 x y) (hx : ρ x = .pointer (some ⟨b, j, none⟩)) (hy : ρ y = .int .u64 n) (h : w.cell? ⟨b, j, none⟩ = some u) (hf : w.frozen? ⟨b, j, none⟩ = false) : (execOp ρ o).run prog w = .ok .skip (w.setCell ⟨b, j, none⟩ (.int .u64 n)) :=
 gB ho hx hy (abg h hf)
section
variable {id en m : Nat} {R : Ros} {M : aM} {n : Nat} {b : Blk}
theorem xp (h : cg M m 0 ≠ 0) : df id en R M m = cg M m 0 /\ cW id en R M m = M := ⟨if_neg h, if_neg fun e => h e.1⟩
theorem wG (h0 : cg M m 0 = 0) (h : cg M m 1 ≠ 0) : df id en R M m = cg M m 1 /\ cW id en R M m = M := ⟨by unfold df; rw [if_pos h0, if_neg h], if_neg fun e => h e.2⟩
theorem zB (h0 : cg M m 0 = 0) (h1 : cg M m 1 = 0) (hn : kw (dA M m 0) (dA M m 1) = n) (hb : fI en ⟨id, m, R⟩ = b) (h : iS M m n ≠ 0) : df id en R M m = iS M m n /\ cW id en R M m = dE M m n b := by
 have := yV (d := (m : Int)) (M := M) (s := .wr (n : Int) b) (l := [.fl]) h;unfold df cW sD;rw [if_pos h0, if_pos h1, if_pos ⟨h0, h1⟩, hn, hb];exact this
theorem zz (h0 : cg M m 0 = 0) (h1 : cg M m 1 = 0) (hn : kw (dA M m 0) (dA M m 1) = n) (hb : fI en ⟨id, m, R⟩ = b) (h : iS M m n = 0) : df id en R M m = gl (dE M m n b) m /\ cW id en R M m = eD (dE M m n b) m := by
 have h2 := go_ok (d := (m : Int)) (M := M) (s := .wr (n : Int) b) (l := [.fl]) h;unfold df cW sD;rw [if_pos h0, if_pos h1, if_pos ⟨h0, h1⟩, hn, hb, h2.1, h2.2]
 show goE m (dE M m n b) [.fl] = _ /\ goB m (dE M m n b) [.fl] = _
 by_cases hf : gl (dE M m n b) m = 0
 ·have h3 := go_ok (d := (m : Int)) (M := dE M m n b) (s := .fl) (l := []) hf;rw [h3.1, h3.2, hf];exact ⟨rfl, rfl⟩
 ·have h3 := yV (d := (m : Int)) (M := dE M m n b) (s := .fl) (l := []) hf;rw [h3.1, h3.2];exact ⟨rfl, rfl⟩
end
def rdK (M : aM) (m k j : Nat) : Blk := if j < k then dA M m j else aB
def sL (p : Nat) (qa : Option Addr) (x : HpS) (b5 b7 b11 : Nat) (sx : Sup) (a0 a1 y : Blk) (w : World) : Prop :=
 PHo w p qa x /\ w.heap[b5]? = some (.cells (aY sx).toArray 37 (0, 0)) /\ Ar2 w b7 a0 a1 /\ w.heap[b11]? = some (.cells (cel y).toArray 29 (0, 0))
theorem sL.below {p : Nat} {qa : Option Addr} {x : HpS} {b5 b7 b11 : Nat} {sx : Sup} {a0 a1 y : Blk} {w w' : World} (h : sL p qa x b5 b7 b11 sx a0 a1 y w) (hb : Below w.heap.size w w') : sL p qa x b5 b7 b11 sx a0 a1 y w' :=
 ⟨h.1.below hb, aC h.2.1 hb, aC h.2.2.1 hb, aC h.2.2.2 hb⟩
section
variable {w0 w : World} {H K : Nat -> Prop} {p q : Nat} {M : aM} {x : HpS}
theorem ze {en m : Nat} {R : Ros} (hr : Room M 2) (hev : 1 <= en /\ en <= 4611686018427387904) (hid : x.id ≠ 0 /\ x.id < 18446744073709551616) (hf : aU R = true) (hm : m < R.m.toNat) (h : HJ w0 H K w p q M x) : Calls prog 96 #[.pointer (some ⟨p, 0, none⟩), .int .u64 (en : Int), sup ⟨x.id, (m : Int), R⟩] w fun e w' =>
  e = .returned (.int .i64 (df x.id en R M m)) /\ (∃ us, (us = x.us \/ us = en) /\ HJ w0 H K w' p q (cW x.id en R M m) { x with us := us }) /\ dd K w w' := by
 have hev' : evB en = true := by unfold evB; rw [decide_eq_true_iff]; omega
 have hsp : ew ⟨x.id, (m : Int), R⟩ = true := by
  unfold ew;simp only [Bool.and_eq_true, decide_eq_true_eq];exact ⟨⟨hid.1, hf⟩, by omega, by omega⟩
 have HSP : Hid (kb en ⟨x.id, (m : Int), R⟩ = 0) := ae (jy hev' hsp);obtain ⟨sb, hsb⟩ : ∃ sb, fI en ⟨x.id, (m : Int), R⟩ = sb := ⟨_, rfl⟩;have HSB' := ae hsb;obtain ⟨E, hE⟩ : ∃ E, df x.id en R M m = E := ⟨_, rfl⟩;obtain ⟨M2, hM2⟩ : ∃ M2, cW x.id en R M m = M2 := ⟨_, rfl⟩;rw [hE, hM2];have HE := ae hE;have HM2 := ae hM2;have HRM := ae hr;have HEV : Hid (en < 18446744073709551616) := ae (by omega);have HID := ae hid.2;have HJ := ae h;clear hr hev hid hf hm h hev' hsp hsb hE hM2;go_enter func96, ntmps96;go_upto_region 0 with fail;refine af ?_;refine abG (gi (c := ⟨x.id, (m : Int), R⟩) rfl abQ) ?_;have hb0 := (Below.refl w.heap.size w).alloc ai (.cells (aY (⟨x.id, (m : Int), R⟩ : Sup)).toArray 37);have HS1 := ae (heap_alloc_new w (.cells (aY (⟨x.id, (m : Int), R⟩ : Sup)).toArray 37));have HB1 := ae hb0;obtain ⟨b5, hb5⟩ : ∃ b5, w.heap.size = b5 := ⟨_, rfl⟩;have HG5 : Hid (w.heap.size <= b5) := ae (Nat.le_of_eq hb5);rw [hb5] at HS1 ⊢;clear hb5 hb0;generalize w.alloc (.cells (aY (⟨x.id, (m : Int), R⟩ : Sup)).toArray 37) = w1 at *;refine aL 1 ?_;go_upto_region 1 with fail;refine af ?_;refine abG (dp ve rfl) ?_;have hb0 := (Below.refl w1.heap.size w1).alloc ai (.cells (cel aB ++ cel aB).toArray 130);have HA2 : Hid (Ar2 _ w1.heap.size aB aB) := ae (heap_alloc_new w1 (.cells (cel aB ++ cel aB).toArray 130));have HS2 := ae (aC HS1 hb0);have HB2 := ae (HB1.out.trans (hb0.mono HB1.out.size));obtain ⟨b7, hb7⟩ : ∃ b7, w1.heap.size = b7 := ⟨_, rfl⟩;have HG7 : Hid (w.heap.size <= b7) := ae (by rw [<- hb7]; exact HB1.out.size);have HSZ : Hid (b5 < b7) := ae (by rw [<- hb7]; exact aW HS1);rw [hb7] at HA2 ⊢;clear hb7 hb0;generalize w1.alloc (.cells (cel aB ++ cel aB).toArray 130) = w2 at *;clear HS1 HB1;refine ag ?_;go_upto_region 2 with fail;refine cC 1 ?_;go_wp2_with fail
 go_loopw [14] (fun z wr => ∃ i : Nat, z = .int .i64 i /\ i <= 2 /\ Below w.heap.size w wr /\ wr.heap[b5]? = some (.cells (aY (⟨x.id, (m : Int), R⟩ : Sup)).toArray 37 (0, 0)) /\ Ar2 wr b7 (rdK M m i 0) (rdK M m i 1) /\ ∀ j : Nat, j < i -> cg M m (j : Int) = 0) (fun z _ => 2 - (intOf z).toNat)
 case atStart => exact ⟨0, by go_num, by omega, HB2, HS2, HA2, fun j hj => absurd hj (by omega)⟩
 case round =>
  obtain ⟨i, rfl, hi, hb, hs, ha, hz⟩ := hrel;have HBr := ae hb;have HSr := ae hs;have HAr := ae ha;have HZr := ae hz;have HJr := ae (HJ.out.below hb);clear hb hs ha hz HB2 HS2 HA2;by_cases hlt : i < 2
  ·have HI := ae hlt;have HLT : Hid (decide ((i : Int) < 2) = true) := ae (am (by omega));have HIA : Hid (IntKind.i64.wrap ((i : Int) + 1) = ((i + 1 : Nat) : Int)) := ae (by rw [eC ⟨by omega, by omega⟩]; omega);obtain ⟨xb, hxb⟩ : ∃ xb, dA M m (i : Int) = xb := ⟨_, rfl⟩;obtain ⟨ee, hee⟩ : ∃ ee, cg M m (i : Int) = ee := ⟨_, rfl⟩;have HXB := ae hxb;have HEE := ae hee;clear hi hlt hxb hee;go_upto_region 3 with fail;refine af ?_;refine abG (bu true rfl abQ evk HLT) ?_;refine ag ?_;go_upto_region 4 with fail;refine cC 2 ?_;have HSD : Hid (Below wr.heap.size wr (World.drew wr)) := ae ((Below.refl wr.heap.size wr).drew);have HSB : Hid (Below wr.heap.size wr ((World.drew wr).alloc (.cells (cel aB).toArray 29))) := ae (HSD.out.alloc ai _);go_upto_region 5 with fail;refine wp_region_held (S := fun w' => Below wr.heap.size wr w') (by kernel_rfl) ?_;change wpAnyH _ _ _ _ _ 14 _ _ wr.drew;apply zd (F := fun (vb : Value) (wz : World) => ∃ b, vb = .pointer (some ⟨b, 0, none⟩) /\ wz.heap[b]? = some (.cells (cel xb).toArray 29 (0, 0)) /\ Below wr.heap.size wr wz /\ wr.heap.size <= b)
   ·intro kk;refine ab3 0 rfl HSD ?_;refine ab5 1 rfl HSD ?_;refine abJ 2 rfl (fun _ hw => ax rfl abQ oJ) HSD ?_;refine abJ 3 rfl (fun _ hw => aE rfl abQ (uq (PHo.c0 (HJr.out.hul.below hw)))) HSD ?_;refine abJ 4 rfl (fun _ hw => ax rfl abQ uk) HSD ?_;refine abJ 5 rfl (fun _ hw => aE rfl abQ (cJ ((bN (aC HSr hw)) 1 _ rfl))) HSD ?_;refine ab3 6 rfl HSD ?_;refine pj 7 11 rfl rfl (by kernel_rfl) rfl rfl (aA call81 rfl (evc abQ (evc abQ (evc abQ evn)))) ?_ (bL rfl) HSB ?_
    ·refine ((HJr.out.below HSD).read (m : Int) (i : Int)).mono ?_;rintro e wA ⟨rfl, bA⟩;rw [HXB.out, HEE.out];have HSA := ae (Below.trans HSD (bA.mono (Below.size HSD)));clear bA;refine ⟨_, rfl, HSA, ?_⟩;simp only [aa];refine ab3 8 rfl HSA ?_;refine ab6 9 rfl HSA ?_;refine ab6 10 rfl HSA ?_;have HSA2 := ae (HSA.out.alloc HSA.out.size (.cells (cel aB).toArray 29));have HSA3 := ae (HSA.out.alloc HSA.out.size (.cells (cel xb).toArray 29));refine tN 11 rfl (by kernel_rfl) rfl (bL rfl) HSA2.out ?_;simp only [aa];refine gd 12 rfl (by kernel_rfl) rfl (jg (c := xb) rfl (ev rfl) (ev rfl)) HSA3.out ?_;simp only [Act.put];refine ab4 13 rfl HSA3 ?_;refine wpAnyH_done (by kernel_rfl) ?_ _;have hz : (wA.alloc (.cells (cel xb).toArray 29)).heap[wA.heap.size]? = _ := heap_alloc_new wA (.cells (cel xb).toArray 29);have hy := HSA3.out;have hge := HSA.out.size;obtain ⟨bb, hbb⟩ : ∃ bb, wA.heap.size = bb := ⟨_, rfl⟩;rw [hbb] at hz hge ⊢;clear HSA2 HSA3;generalize wA.alloc (.cells (cel xb).toArray 29) = wz at *;obtain ⟨vb, hvb⟩ : ∃ vb, Value.pointer (some ⟨bb, 0, none⟩) = vb := ⟨_, rfl⟩;rw [hvb];exact kk vb wz ⟨bb, hvb.symm, hz, hy, hge⟩
    ·skip
     simp only [aa];obtain ⟨wa, hwa⟩ : ∃ wa, wr.drew.alloc (.cells (cel aB).toArray 29) = wa := ⟨_, rfl⟩;have HSa := HSB;have HQa := ae (heap_alloc_new wr.drew (.cells (cel aB).toArray 29));obtain ⟨bb, hbb⟩ : ∃ bb, wr.drew.heap.size = bb := ⟨_, rfl⟩;have HBL : Hid (wr.heap.size <= bb) := ae (Nat.le_of_eq hbb);rw [hwa] at HSa HQa;rw [hbb] at HQa;rw [hwa, hbb];clear hwa hbb;refine fZ 7 rfl (by kernel_rfl) rfl (aA call81 rfl (evc abQ (evc abQ (evc abQ evn)))) ?_;refine ((HJr.out.below HSa).read (m : Int) (i : Int)).mono ?_;rintro e wA ⟨rfl, bA⟩;rw [HXB.out, HEE.out];have HQB := ae (aC HQa bA);have HSb := ae (HSa.out.trans (bA.mono HSa.out.size));clear bA;refine ⟨_, rfl, HSb, ?_⟩;simp only [aa];refine ab3 8 rfl HSb ?_;refine ab6 9 rfl HSb ?_;refine ab6 10 rfl HSb ?_;have HSc := ae (below_setCells HSb HBL (o := 0) (cel xb));refine gd 12 rfl (by kernel_rfl) rfl (bD (c := xb) rfl (ev rfl) (ev rfl) (fv HQB.out)) HSc.out ?_;simp only [Act.put];refine ab4 13 rfl HSc ?_;refine wpAnyH_done (by kernel_rfl) ?_ _;have hz : (wA.setCells bb 0 (cel xb)).heap[bb]? = _ := o7 HQB;have hy := HSc.out;clear HSc;generalize wA.setCells bb 0 (cel xb) = wz at *;obtain ⟨vb, hvb⟩ : ∃ vb, Value.pointer (some ⟨bb, 0, none⟩) = vb := ⟨_, rfl⟩;rw [hvb];exact kk vb wz ⟨bb, hvb.symm, hz, hy, HBL⟩
   rintro _ wz ⟨g9, rfl, hz9, hy, hge⟩;have HG9 := ae hz9;have HBz := ae (HBr.out.trans (hy.mono HBr.out.size));have HSz := ae (aC HSr hy);have HAz : Hid (Ar2 wz b7 (rdK M m i 0) (rdK M m i 1)) := ae (aC HAr hy);have HNE : Hid (b5 ≠ b7) := ae (by have := HSZ.out; omega);clear hz9 hy hge HSB HSD;by_cases h0 : ee = 0;rotate_left 1
   ·have H0 : Hid ((ee != 0) = true) := ae (bne_iff_ne.2 h0);have HFI : Hid (E = ee /\ M2 = M) := ae (by
     rcases (show i = 0 \/ i = 1 by have := HI.out; omega) with rfl | rfl
     ·have := xp (id := x.id) (en := en) (R := R) (M := M) (m := m) (by rw [show ((0 : Nat) : Int) = 0 from rfl] at HEE; rw [HEE.out]; exact h0);exact ⟨by rw [<- HE.out, this.1]; exact HEE, by rw [<- HM2.out, this.2]⟩
     ·have := wG (id := x.id) (en := en) (R := R) (M := M) (m := m) (HZr.out 0 (by omega)) (by rw [show ((1 : Nat) : Int) = 1 from rfl] at HEE; rw [HEE.out]; exact h0);exact ⟨by rw [<- HE.out, this.1]; exact HEE, by rw [<- HM2.out, this.2]⟩)
    clear h0;go_upto_region 6 with fail;refine aZ 1 ?_;refine abG (aR true rfl abQ evk H0) ?_;refine ag ?_;go_upto_region 7 with fail;refine cC 2 ?_;go_wp2_with fail;go_ret;exact ⟨by rw [HFI.out.1]; rfl, ⟨x.us, .inl rfl, by rw [HFI.out.2]; exact HJ.out.below HBz⟩, HJ.out.kept HBz⟩
   subst h0;go_upto_region 6 with fail;refine aZ 1 ?_;refine abG (aR false rfl abQ evk rfl) ?_;refine ag ?_;have hset := HAz.out.set HI xb;have hk0 : (if i = 0 then xb else rdK M m i 0) = rdK M m (i + 1) 0 := by
    rcases (show i = 0 \/ i = 1 by have := HI.out; omega) with rfl | rfl
    ·rw [if_pos rfl, <- HXB.out]; rfl
    ·rfl
   have hk1 : (if i = 1 then xb else rdK M m i 1) = rdK M m (i + 1) 1 := by
    rcases (show i = 0 \/ i = 1 by have := HI.out; omega) with rfl | rfl
    ·rfl
    ·rw [if_pos rfl, <- HXB.out]; rfl
   rw [hk0, hk1] at hset;have HAs := ae hset;have HSs := ae ((du b7 (cel xb) (0 + i * 64) wz b5 HNE).trans HSz);have HBs := ae (below_setCells HBz HG7 (o := 0 + i * 64) (cel xb));have HTH := ae (HAz.out.there HI);clear hset hk0 hk1;go_upto_region 8 with fail;refine aZ 1 ?_;refine abG (br (c := xb) rfl abQ (bN HG9)) ?_;refine abG (cr rfl abQ abQ (yD HI)) ?_;refine az rfl (bD (c := xb) rfl (ev rfl) (ev rfl) HTH.out) ?_;simp only [aa];generalize wz.setCells b7 (0 + i * 64) (cel xb) = ws at *;refine ag ?_;go_upto_region 9 with fail;refine af ?_;refine abG (cq rfl abQ evk HIA) ?_;refine aL 1 ?_;go_wp2_with fail;go_roundw
   case rel => exact ⟨i + 1, by go_num, by have := HI.out; omega, HBs, HSs, HAs, fun j hj => by
    by_cases e : j = i
    ·subst e; exact HEE
    ·exact HZr.out j (by omega)⟩
   case measure => have := HI.out; simp [intOf]; omega
  have h2 : i = 2 := by omega
  subst h2;have HLT : Hid (decide (((2 : Nat) : Int) < 2) = false) := ae (al (by omega));obtain ⟨a0, ha0⟩ : ∃ a0, dA M m 0 = a0 := ⟨_, rfl⟩;obtain ⟨a1, ha1⟩ : ∃ a1, dA M m 1 = a1 := ⟨_, rfl⟩;have HAq : Hid (Ar2 wr b7 a0 a1) := ae (by rw [<- ha0, <- ha1]; exact HAr);have HR0 : Hid (cg M m 0 = 0) := ae (HZr.out 0 (by omega));have HR1 : Hid (cg M m 1 = 0) := ae (HZr.out 1 (by omega));obtain ⟨n, hn⟩ : ∃ n, kw a0 a1 = n := ⟨_, rfl⟩;have HN := ae hn;have HNN : Hid (kw (dA M m 0) (dA M m 1) = n) := ae (by rw [ha0, ha1]; exact hn);clear ha0 ha1 hn hi hlt HAr HZr;go_upto_region 3 with fail;refine af ?_;refine abG (bu false rfl abQ evk HLT) ?_;refine ag ?_;go_upto_region 10 with fail;refine aZ 1 ?_;refine abG (cp (c := ⟨x.id, (m : Int), R⟩) rfl abQ (bN HSr)) ?_;refine ay rfl (aA call113 rfl (evc abQ (evc abQ evn))) ?_;refine (aaD en ⟨x.id, (m : Int), R⟩ wr HJr.out.tab HEV HID).mono ?_;rintro e w3 ⟨rfl, b3⟩;rw [HSP.out, HSB'.out];have HB3 := ae (HBr.out.trans (b3.mono HBr.out.size));have HS3 := ae (aC HSr b3);have HA3 : Hid (Ar2 w3 b7 a0 a1) := ae (aC HAq b3);clear b3 HSr HAq;refine bp ?_;refine runs 3 ?_;refine abG (bL rfl) ?_;refine az rfl (jg (c := sb) rfl (ev rfl) (ev rfl)) ?_;simp only [aa];have hb0 := HB3.out.alloc HB3.out.size (.cells (cel sb).toArray 29);have hb00 := (Below.refl w3.heap.size w3).alloc ai (.cells (cel sb).toArray 29);have HG4 := ae (heap_alloc_new w3 (.cells (cel sb).toArray 29));have HS4 := ae (aC HS3 hb00);have HA4 : Hid (Ar2 _ b7 a0 a1) := ae (aC HA3 hb00);have HB4 := ae hb0;obtain ⟨b11, hb11⟩ : ∃ b11, w3.heap.size = b11 := ⟨_, rfl⟩;have HG11 : Hid (w.heap.size <= b11) := ae (by rw [<- hb11]; exact HB3.out.size);rw [hb11] at HG4 ⊢;clear hb11 hb0 hb00 HS3 HA3 HB3;generalize w3.alloc (.cells (cel sb).toArray 29) = w4 at *;refine aL 1 ?_;go_upto_region 11 with fail;refine aZ 1 ?_;refine abG (aR false rfl abQ evk rfl) ?_;refine ag ?_;have HL4 : Hid (sL p (some ⟨q, 0, none⟩) x b5 b7 b11 ⟨x.id, (m : Int), R⟩ a0 a1 sb (World.drew w4)) := ae ⟨(HJ.out.below HB4).hul, HS4, HA4, HG4⟩;have HB4d : Hid (Below w.heap.size w (World.drew w4)) := ae (bd HB4);obtain ⟨we, hwe⟩ : ∃ we, iS M m (n : Int) = we := ⟨_, rfl⟩;have HWE := ae hwe;clear HS4 HA4 HG4 hwe;go_upto_region 13 with fail;refine wp_region_held (S := sL p (some ⟨q, 0, none⟩) x b5 b7 b11 ⟨x.id, (m : Int), R⟩ a0 a1 sb) (by kernel_rfl) ?_;change wpAnyH _ _ _ _ _ 14 _ _ w4.drew;refine ab3 0 rfl HL4 ?_;refine ab5 1 rfl HL4 ?_;refine abJ 2 rfl (fun _ hw => ax rfl abQ oJ) HL4 ?_;refine abJ 3 rfl (fun _ hw => aE rfl abQ (uq (PHo.c0 hw.1))) HL4 ?_;refine abJ 4 rfl (fun _ hw => ax rfl abQ uk) HL4 ?_;refine abJ 5 rfl (fun _ hw => aE rfl abQ (cJ ((bN hw.2.1) 1 _ rfl))) HL4 ?_;refine abJ 6 rfl (fun _ hw => cr rfl abQ evk yM) HL4 ?_;refine abJ 7 rfl (fun _ hw => br (c := a0) rfl abQ hw.2.2.1.r0) HL4 ?_;refine abJ 8 rfl (fun _ hw => cr rfl abQ evk yY) HL4 ?_;refine abJ 9 rfl (fun _ hw => br (c := a1) rfl abQ hw.2.2.1.r1) HL4 ?_;refine abJ 11 rfl (fun _ hw => br (c := sb) rfl abQ (bN hw.2.2.2)) HL4 ?_;refine fZ 10 rfl (by kernel_rfl) rfl (aA call114 rfl (evc abQ (evc abQ evn))) ?_;refine (xY a0 a1 n (World.drew w4) (HJ.out.below HB4d).tab HN).mono ?_;rintro e w5 ⟨rfl, b5'⟩;have HL5 := ae (HL4.out.below b5');have HB5 := ae (HB4d.out.trans (b5'.mono HB4d.out.size));have HJ5 := ae (HJ.out.up HB5);clear b5';refine ⟨_, rfl, HL5, ?_⟩;simp only [aa];refine fZ 12 rfl (by kernel_rfl) rfl (aA call9 rfl (evc abQ (evc abQ (evc abQ (evc abQ evn))))) ?_;refine (HJ5.out.write (m : Int) (n : Int) sb (dh HRM (by omega))).mono ?_;rintro e w6 ⟨rfl, j6, k6⟩;rw [HWE.out];have HJ6 := ae j6;have HK6 : Hid (dd K w w6) := ae ((HJ.out.kept HB5).trans (k6.less fun b e => .inl e));have HS6 := ae (k6.at_ (.inr ⟨HG5, aW HL5.out.2.1⟩) HL5.out.2.1);have HL6 : Hid (sL p (some ⟨q, 0, none⟩) x b5 b7 b11 ⟨x.id, (m : Int), R⟩ a0 a1 sb w6) := ae ⟨j6.hul, HS6, k6.at_ (.inr ⟨HG7, aW HL5.out.2.2.1⟩) HL5.out.2.2.1, k6.at_ (.inr ⟨HG11, aW HL5.out.2.2.2⟩) HL5.out.2.2.2⟩;clear j6 k6;refine ⟨_, rfl, HL6, ?_⟩;simp only [aa];refine ab4 13 rfl HL6 ?_;refine wpAnyH_done (by kernel_rfl) ?_ _;by_cases h0 : we = 0;rotate_left 1
  ·have H0 : Hid ((we != 0) = true) := ae (bne_iff_ne.2 h0);have hput := zB (id := x.id) (en := en) (R := R) HR0 HR1 HNN HSB' (by rw [HWE.out]; exact h0);have HFI : Hid (E = we /\ M2 = dE M m n sb) := ae ⟨by rw [<- HE.out, hput.1, HWE.out], by rw [<- HM2.out, hput.2]⟩;clear h0 hput;go_upto_region 14 with fail;refine aZ 1 ?_;refine abG (aR true rfl abQ evk H0) ?_;refine ag ?_;go_upto_region 15 with fail;refine cC 2 ?_;go_wp2_with fail;go_ret;exact ⟨by rw [HFI.out.1]; rfl, ⟨x.us, .inl rfl, by rw [HFI.out.2]; exact HJ6.out.less fun b e => .inl e⟩, HK6⟩
  subst h0;have hput := zz (id := x.id) (en := en) (R := R) HR0 HR1 HNN HSB' HWE;have HFI : Hid (E = gl (dE M m n sb) m /\ M2 = eD (dE M m n sb) m) := ae ⟨by rw [<- HE.out, hput.1], by rw [<- HM2.out, hput.2]⟩;clear hput;go_upto_region 14 with fail;refine aZ 1 ?_;refine abG (aR false rfl abQ evk rfl) ?_;refine ag ?_;obtain ⟨M3, hM3⟩ : ∃ M3, dE M m n sb = M3 := ⟨_, rfl⟩;have HRM3 : Hid (Room M3 1) := ae (by rw [<- hM3]; exact sc HRM _ _ _);rw [hM3] at HFI HJ6;clear hM3;go_upto_region 16 with fail;refine aZ 3 ?_;refine abG (ax rfl abQ vy) ?_;refine az rfl (fU rfl (ev rfl) (ev rfl) HJ6.out.hul.c24 (HJ6.out.hul.vh 24)) ?_;simp only [aa];have ho := (Only.refl (fun b => b = p) w6).setCell (p := ⟨p, 24, none⟩) (.inl rfl) (.int .u64 (en : Int));have hset := HJ6.out.hul.set (uY _ x en);obtain ⟨hj7, hk7⟩ := HJ6.out.obj ho hset;have HJ7 := ae hj7;have HK7 : Hid (dd K w _) := ae (HK6.out.trans (hk7.less fun b e => .inl e));have HS7 := ae (hk7.at_ (.inr ⟨HG5, by have := aW HL5.out.2.1; exact this⟩) HS6);clear ho hset hj7 hk7;generalize w6.setCell ⟨p, 24, none⟩ (.int .u64 (en : Int)) = w7 at *;refine ag ?_;go_upto_region 17 with fail;refine wp_region_still_tail 6 (by kernel_rfl) (by kernel_rfl) ?_;simp only [ac];refine aQ rfl (aK rfl abQ) ?_;simp only [aa];refine aQ rfl (ch rfl abQ) ?_;simp only [aa];refine aQ rfl (ax rfl abQ oJ) ?_;simp only [aa];refine aQ rfl (aE rfl abQ (uq (PHo.c0 HJ7.out.hul))) ?_;simp only [aa];refine aQ rfl (ax rfl abQ uk) ?_;simp only [aa];refine aQ rfl (aE rfl abQ (cJ ((bN HS7) 1 _ rfl))) ?_;simp only [aa];refine wpStill_nil ?_;change wpList _ _ _ _ _ (World.drew _);refine ay rfl (aA call15 rfl (evc abQ (evc abQ evn))) ?_;refine (HJ7.out.drew.flush (m : Int) HRM3).mono ?_;rintro e w8 ⟨rfl, j8, k8⟩;refine bp ?_;refine aL 1 ?_;go_wp2_with fail;go_ret;exact ⟨by rw [HFI.out.1]; rfl, ⟨en, .inr rfl, by rw [HFI.out.2]; exact j8.less fun b e => .inl e⟩, HK7.out.trans (k8.less fun b e => .inl e)⟩
end
end Go.Proofs.YtehefifamaofkaaGreatDoor
