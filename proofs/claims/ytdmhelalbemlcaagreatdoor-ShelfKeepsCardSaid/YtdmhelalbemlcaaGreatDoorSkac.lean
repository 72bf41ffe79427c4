import Derived.Test.YtdmhelalbemlcaaGreatDoorSkab
import Derived.Laws.CopyRow
import Derived.RangeFuncNested
import Derived.RangeFuncBound
import Derived.RangeFuncCalls
import Derived.RangeFuncLeaves
import Derived.Shelf.Abstract
import Derived.Shelf.RegionOpen
import Derived.OwnWalkIn
import Derived.TacticsInMore
import Derived.LoopNIn
import Derived.LoopIn
namespace Go.Proofs.YtdmhelalbemlcaaGreatDoor
set_option maxHeartbeats 8000000
open Go.Proofs.Tryz
open Go.RowKit
set_option linter.unusedVariables false
set_option maxRecDepth 100000
structure ui (R : Ros) (M : aZ) : Prop where
 dark : M.dark = false
 left : M.left = 0
 len : R.m.toNat < M.ds.length
 two : ∀ m, m < R.m.toNat -> 2 <= (M.ds.getD m cZ).S.length
structure iS (M M' : aZ) : Prop where
 dark : M'.dark = M.dark
 left : M.left = 0 -> M'.left = 0
 len : M'.ds.length = M.ds.length
 sl : ∀ j, (M'.ds.getD j cZ).S.length = (M.ds.getD j cZ).S.length
section
variable {R R' : Ros} {M M' M3 : aZ} {m n id ev : Nat} {h : HuS} {b : Blk} {k : Nat}
theorem iS.refl (M : aZ) : iS M M := ⟨rfl, fun e => e, rfl, fun _ => rfl⟩
theorem iS.trans (h : iS M M') (g : iS M' M3) : iS M M3 := ⟨g.dark.trans h.dark, fun e => g.left (h.left e), g.len.trans h.len, fun j => (g.sl j).trans (h.sl j)⟩
theorem ui.keep (h : ui R M) (g : iS M M') (hR : R'.m = R.m) : ui R' M' := ⟨g.dark.trans h.dark, g.left h.left, by rw [hR, g.len]; exact h.len, fun m hm => by rw [g.sl m]; exact h.two m (by rw [<- hR]; exact hm)⟩
theorem uT {d : jW} (hk : m < M.ds.length) (hS : d.S.length = (M.ds.getD m cZ).S.length) {M' : aZ} (hM : M' = M.done.put m d) : iS M M' := by
 subst hM;refine ⟨rfl, fun e => by show M.left - 1 = 0; omega, List.length_set, fun j => ?_⟩
 show ((M.ds.set m d).getD j cZ).S.length = _
 rw [ajO _ _ _ _ _ hk]
 split
 ·rename_i e; subst e; exact hS
 ·rfl
theorem afq (hl : M.left = 0) (hd : M.dark = false) (hm : m < M.ds.length) (n : Int) (b : Blk) : iS M (et M m n b) := by
 unfold et
 split
 ·rw [if_neg (by omega)];exact uT (d := ⟨(M.dev (m : Int)).S, wrL (M.dev (m : Int)).S (M.dev (m : Int)).L (M.dev (m : Int)).g n b, (M.dev (m : Int)).g⟩) hm rfl rfl
 ·exact iS.refl M
theorem af0 (hl : M.left = 0) (hd : M.dark = false) (hm : m < M.ds.length) : iS M (gh M m) := by
 unfold gh
 split
 ·rw [if_neg (by omega)];exact uT (d := ⟨flS (M.dev (m : Int)).S (M.dev (m : Int)).L, [], (M.dev (m : Int)).g⟩) hm (mV _ _) rfl
 ·exact iS.refl M
theorem tp (hd : M.dark = false) (hm : m < M.ds.length) (hn : n < (M.ds.getD m cZ).S.length) : cJ M m n = if (M.ds.getD m cZ).g = true then 9 else 0 := by
 unfold cJ;rw [if_pos (mP hd hm)]
 show dw (M.ds.getD m cZ).S (M.ds.getD m cZ).g (n : Int) = _
 unfold dw;rw [if_pos ⟨by omega, by omega⟩]
theorem ahc (h : ui R M) (hm : m < R.m.toNat) : (eg id ev R M m = 0 \/ eg id ev R M m = 9) /\ iS M (fg id ev R M m) := by
 have hl : m < M.ds.length := by have := h.len; omega
 have h2 := h.two m hm;have r0 : cJ M m 0 = if (M.ds.getD m cZ).g = true then 9 else 0 := tp (n := 0) h.dark hl (by omega)
 have r1 : cJ M m 1 = if (M.ds.getD m cZ).g = true then 9 else 0 := tp (n := 1) h.dark hl (by omega)
 cases hg : (M.ds.getD m cZ).g with
 |true =>
  rw [hg, if_pos rfl] at r0;have hn : ¬ cJ M m 0 = 0 := fun e => by rw [r0] at e; exact absurd e (by decide)
  exact ⟨.inr (by unfold eg; rw [if_neg hn, r0]), by unfold fg; rw [if_neg fun e => hn e.1]; exact iS.refl M⟩
 |false =>
  rw [hg, if_neg (by decide)] at r0 r1;obtain ⟨n, hn⟩ : ∃ n, oo (fo M m 0) (fo M m 1) = n := ⟨_, rfl⟩;have hn2 : n < 2 := by rw [<- hn]; exact ai2 _ _
  have hst : M.dX = 0 := by unfold aZ.dX; rw [h.left]; rfl
  have hw : eZ M m (n : Int) = 0 := by
   unfold eZ;rw [if_pos (by rw [tp h.dark hl (by omega), hg]; rfl), hst]
  have hT : aag id ev R M m = [.wr (n : Int) (jF ev ⟨id, m, R⟩), .fl] := by unfold aag; rw [hn]
  have h1 := go_ok (d := (m : Int)) (M := M) (s := .wr (n : Int) (jF ev ⟨id, m, R⟩)) (l := [.fl]) hw;have k1 := afq h.left h.dark hl (n : Int) (jF ev ⟨id, m, R⟩);have hg' : ((et M m (n : Int) (jF ev ⟨id, m, R⟩)).ds.getD m cZ).g = false := by
   unfold et;rw [if_pos (by rw [tp h.dark hl (by omega), hg]; rfl), if_neg (by rw [h.left]; omega)]
   show ((M.ds.set m _).getD m cZ).g = false
   rw [ajO _ _ _ _ _ hl, if_pos rfl];exact hg
  obtain ⟨M1, hM1⟩ : ∃ M1, et M m (n : Int) (jF ev ⟨id, m, R⟩) = M1 := ⟨_, rfl⟩;have hst1 : wi (m : Int) M (.wr (n : Int) (jF ev ⟨id, m, R⟩)) = M1 := hM1;rw [hM1] at k1 hg';have hl1 : m < M1.ds.length := by rw [k1.len]; exact hl
  have hf : ib M1 m = 0 := by
   have hfa : gO M1 m = 0 := by
    unfold gO;have : (M1.dev (m : Int)).g = false := hg';rw [if_pos (mP (k1.dark.trans h.dark) hl1), this]
    rfl
   unfold ib;rw [if_pos hfa];unfold aZ.dX;rw [k1.left h.left]
   rfl
  have h3 := go_ok (d := (m : Int)) (M := M1) (s := .fl) (l := []) hf;have k2 := af0 (k1.left h.left) (k1.dark.trans h.dark) hl1;refine ⟨.inl ?_, ?_⟩
  ·unfold eg;rw [if_pos r0, if_pos r1, hT, h1.1, hst1, h3.1]
   rfl
  ·unfold fg;rw [if_pos ⟨r0, r1⟩, hT, h1.2, hst1, h3.2];exact k1.trans k2
theorem qq : ∀ (k m : Nat) (M : aZ), m + k <= R.m.toNat -> ui R M -> (dF id ev R k m M).2.1 = 0 /\ iS M (dF id ev R k m M).2.2
 |0, m, M, _, h => ⟨rfl, iS.refl M⟩
 |k + 1, m, M, hk, h => by
  rw [dF]
  split
  ·exact qq k (m + 1) M (by omega) h
  ·obtain ⟨p1, p2⟩ := ahc (id := id) (ev := ev) h (m := m) (by omega)
   split
   ·exact ⟨rfl, p2⟩
   ·rename_i h9
    have h0 : eg id ev R M m = 0 := by rcases p1 with e | e; exact e; exact absurd e h9
    rw [if_pos h0];obtain ⟨q1, q2⟩ := qq k (m + 1) _ (by omega) (h.keep p2 rfl);exact ⟨q1, p2.trans q2⟩
theorem sp : ∀ (f : Nat) (h : HuS), bi h.R = true -> ui h.R h.M -> mc (kC h.R) h.R.m.toNat < f -> (fH f h).1 = 0 /\ iS h.M (fH f h).2.M
 |0, h, _, _, hp => absurd hp (by omega)
 |f + 1, h, hf, hl, hp => by
  obtain ⟨o1, o2⟩ := qq (id := h.id) (ev := h.ev + 1) (R := h.R) h.R.m.toNat 0 h.M (by omega) hl;rw [fH];obtain ⟨O, hO⟩ : ∃ O, dF h.id (h.ev + 1) h.R h.R.m.toNat 0 h.M = O := ⟨_, rfl⟩;rw [hO] at o1 o2 ⊢;obtain ⟨a, e, M'⟩ := O;cases a with
  |none => exact ⟨o1, o2⟩
  |some d =>
   obtain ⟨_, hd, hs⟩ := jT _ _ _ hO;have hls := aaa hf (d := d) (by omega) hs;have hq : kC h.R d = true := ao hs;have hq' : kC (fa h.R d) d = false := by unfold kC; rw [hls.2 d, if_pos rfl]; rfl
   have hsub : ∀ j, kC (fa h.R d) j = true -> kC h.R j = true := fun j hj => by
    unfold kC at hj ⊢;rw [hls.2 j] at hj;by_cases e : j = d
    ·rw [if_pos e] at hj; simp at hj
    ·rwa [if_neg e] at hj
   have hlt := tJ hsub hq hq' (n := h.R.m.toNat) (by omega);obtain ⟨s1, s2⟩ := sp f ⟨M', h.id, h.ev + 1, fa h.R d⟩ (mT _ hf) (hl.keep o2 hls.1) (by show mc (kC (fa h.R d)) (fa h.R d).m.toNat < f; rw [hls.1]; omega);exact ⟨s1, o2.trans s2⟩
theorem wM (hf : bi h.R = true) (hl : ui h.R h.M) : gQ h = 0 /\ iS h.M (fY h).M := sp 17 h hf hl (by have := zm (kC h.R) h.R.m.toNat; have := mj hf; omega)
end
def bx (a b : Blk) : Blk := Vector.zipWith (· ^^^ ·) a b
theorem afQ (a b : Blk) {j : Nat} (h : j < 64) : bits .xor .u8 (byt a j) (byt b j) = byt (bx a b) j := by
 rw [iZ a h, iZ b h, iZ _ h];rw [u8_xor_nat _ _ (UInt8.toNat_lt _) (UInt8.toNat_lt _)];simp [bx]
theorem ae9 (a b : Blk) (w : World) : Calls prog 165 #[blk a, blk b] w fun e w' => e = .returned (blk (bx a b)) /\ Below w.heap.size w w' := by
 obtain ⟨hA, hB, hR, hO, hb⟩ := akL w a b aF aF;obtain ⟨w4, hw4⟩ : ∃ w4, oa w a b aF aF = w4 := ⟨_, rfl⟩;rw [hw4] at hA hB hR hO hb;have HW := ae hw4;have HA := ae hA;have HB := ae hB;have HR := ae hR;have HX := ae (fun j (h : j < 64) => afQ a b h);clear hw4 hA hB hR;go_enter func165, ntmps165;go_wp2_with (first | (refine az rfl (cm rfl rfl) ?_) | (refine az rfl (aX rfl) ?_));have hs := HW.out;unfold oa at hs;rw [hs];clear hs HW;generalize hsz : w.heap.size = s at *
 go_loopw [7] (fun i wr => ∃ (j : Nat) (f : Nat -> Int), j <= 64 /\ i = .int .i64 j /\ wr.rowIs (s + 1 + 1 + 1) 45 64 (fun j => .int .u8 (f j)) /\ (∀ m, m < j -> f m = byt (bx a b) m) /\ Below (s + 1 + 1 + 1) w4 wr) (fun i _ => 64 - (intOf i).toNat)
 case atStart => exact ⟨0, byt aF, by omega, rfl, hO, fun m hm => absurd hm (by omega), ak⟩
 case round =>
  obtain ⟨j, f, hj, rfl, hrow, hf, hbl⟩ := hrel;have HF := ae hf;clear hf hO;by_cases hlt : j < 64
  ·have hc1 := hrow.cell (i := j) (by omega);have hfr := hrow.frozen j;have ha := eK HA (by omega) hbl j _ (iG a hlt);have hb' := eK HB (by omega) hbl j _ (iG b hlt);rw [Nat.zero_add] at ha hb';go_wp2_with fail
   go_still_tail 9, (by kernel_rfl)
   change wpList _ _ _ _ _ wr.drew;go_wp2_with fail;go_roundw
   case rel =>
    refine ⟨j + 1, upd f j (byt (bx a b) j), by omega, by go_num, ?_, ?_, bd (hbl.setCell (by simp) _)⟩
    ·rw [HX.out j hlt]; exact tM hrow _
    ·intro m hm;by_cases e : m = j
     ·subst e; exact pW _ _ _
     ·rw [mC _ _ e]; exact HF.out m (by omega)
   case measure => simp [intOf]; omega
  ·have hj64 : j = 64 := by omega
   subst hj64;have hr := abc (c := bx a b) (o := 0) hrow (by omega) (fun m hm => by rw [Nat.zero_add]; exact HF.out m hm);have ht := cg HR (by omega) hbl;go_wp2_with (first | (refine az rfl (aV rfl rfl hr) ?_) | (refine bw rfl (aU rfl rfl rfl ht) ?_));refine bodyPost_ret (zY rfl _ _ _ rfl (World.rangeAt_setCells_same _ _ _ _ (by rw [aK]; exact ht))) rfl ⟨rfl, ?_⟩;rw [hsz];exact hb.trans (below_setCells (hbl.mono (by omega)) (by omega) _)
def fold (l : List Blk) : Blk := l.foldl bx aF
theorem abk {l : List Blk} {j : Nat} (h : j < l.length) : fold (l.take (j + 1)) = bx (fold (l.take j)) (l.getD j aF) := by
 unfold fold;rw [List.take_add_one, List.getElem?_eq_getElem h, List.foldl_append, List.getD, List.getElem?_eq_getElem h]
 rfl
def sM (w : World) (a b : Blk) : World := (w.alloc (.cells (cel a).toArray 45)).alloc (.cells (cel b).toArray 45)
theorem akk (w : World) (a b : Blk) : (sM w a b).rangeAt w.heap.size 0 (cel a) /\ (sM w a b).there w.heap.size 0 64 /\ (sM w a b).rangeAt (w.heap.size + 1) 0 (cel b) /\ (sM w a b).there (w.heap.size + 1) 0 64 /\ Below w.heap.size w (sM w a b) /\ (sM w a b).heap.size = w.heap.size + 1 + 1 := by
 unfold sM;have e1 := World.size_alloc (w := w) (o := Obj.cells (cel a).toArray 45);have e2 := World.size_alloc (w := (w.alloc (.cells (cel a).toArray 45))) (o := Obj.cells (cel b).toArray 45);refine ⟨World.rangeAt_alloc (dc w (cel a) _) _, World.there_alloc (eu w a _) _, ?_, ?_, ?_, by rw [e2, e1]⟩
 ·rw [<- e1]; exact dc _ (cel b) _
 ·rw [<- e1]; exact eu _ b _
 ·exact ((Below.refl _ w).alloc aj _).alloc (by omega) _
theorem acI (A : Option Addr) (n c N : Nat) (l : List Blk) (w : World) (hl : RdB w N A n l) (hN : N <= w.heap.size) (hn : n <= maxLen) :
  Calls prog 117 #[.slice A n c] w fun e w' => e = .returned (blk (fold l)) /\ Below w.heap.size w w' := by
 unfold maxLen at hn;obtain ⟨_, hR, hO, hOt, hb, hsize⟩ := akk w aF aF;obtain ⟨w2, hw2⟩ : ∃ w2, sM w aF aF = w2 := ⟨_, rfl⟩;rw [hw2] at hR hO hOt hb hsize;have HW := ae hw2;have HR := ae hR;have HS := ae hsize;clear hw2 hR hsize;go_enter func117, ntmps117;go_wp2_with (first | (refine az rfl (cm rfl rfl) ?_) | (refine az rfl (aX rfl) ?_));have hs := HW.out;unfold sM at hs;rw [hs];clear hs HW;generalize hsz : w.heap.size = s at *
 go_loopw [8] (fun i wr => ∃ j : Nat, j <= n /\ i = .int .i64 j /\ wr.rangeAt (s + 1) 0 (cel (fold (l.take j))) /\ wr.there (s + 1) 0 64 /\ wr.there s 0 64 /\ Below s w wr /\ s + 1 + 1 <= wr.heap.size) (fun i _ => n - (intOf i).toNat)
 case atStart => exact ⟨0, by omega, rfl, hO, hOt, HR, hb, Nat.le_of_eq HS.out.symm⟩
 case round =>
  clear hO hOt HR hb HS;obtain ⟨j, hj, rfl, hO, hOt, hRt, hbl, hsz2⟩ := hrel;have HO := ae hO;have HOT := ae hOt;have HRT := ae hRt;clear hO hOt hRt;by_cases hlt : j < n
  ·obtain ⟨bA, oA, rfl, hA, cA⟩ := (hl.below (hbl.mono hN)).2 j hlt;have HE := ae (abk (l := l) (j := j) (by have := hl.1; omega));generalize l.getD j aF = x at *;have hO1 := World.rangeAt_alloc HO (.cells (cel x).toArray 45);have hX1 := dc wr (cel x) 45;have hba : Below s w (wr.alloc (.cells (cel x).toArray 45)) := hbl.alloc (by omega) _;have HX1 := ae hX1;have HO1 := ae hO1;clear hX1 hO1;go_wp2_with (first | (refine az rfl (aV rfl rfl cA) ?_) | (refine az rfl (aX rfl) ?_) | (refine bw rfl (jo rfl rfl rfl) ?_) | (refine az rfl (aV rfl rfl HO1.out) ?_) | (refine az rfl (aV rfl rfl HX1.out) ?_));refine (ae9 _ _ _).mono ?_;rintro e w1 ⟨rfl, hb1⟩;rw [World.size_alloc] at hb1;have hOt1 := cg (World.there_alloc HOT (.cells (cel x).toArray 45)) (by omega) hb1;go_wp2_with (first | (refine bw rfl (aU rfl rfl rfl hOt1) ?_));go_roundw
   case rel =>
    refine ⟨j + 1, by omega, by go_num, ?_, World.there_setCells hOt1 _ _ _, World.there_setCells (cg (World.there_alloc HRT _) (by omega) hb1) _ _ _, ?_, ?_⟩
    ·rw [HE.out]; exact World.rangeAt_setCells_same _ _ _ _ (by rw [aK]; exact hOt1)
    ·exact below_setCells (hba.trans (hb1.mono (by omega))) (by omega) _
    ·rw [(fF _ _ _ _).1];have := hb1.size;rw [World.size_alloc] at this;omega
   case measure => simp [intOf]; omega
  ·have hjn : j = n := by omega
   subst hjn;have hfl : l.take j = l := List.take_of_length_le (Nat.le_of_eq hl.1);rw [hfl] at HO;go_wp2_with (first | (refine az rfl (aV rfl rfl HO.out) ?_) | (refine bw rfl (aU rfl rfl rfl HRT.out) ?_));refine bodyPost_ret (zY rfl _ _ _ rfl (World.rangeAt_setCells_same _ _ _ _ (by rw [aK]; exact HRT))) rfl ⟨rfl, ?_⟩;rw [hsz];exact below_setCells hbl aj _
theorem mg (a b : Blk) (i : Nat) (h : i < 64) : (bx a b)[i] = a[i] ^^^ b[i] := by simp [bx]
theorem adJ (i : Nat) (h : i < 64) : aF[i] = 0 := by simp [aF]
theorem ahi (a b : Blk) : bx a b = bx b a := Vector.ext fun i h => by rw [mg, mg, UInt8.xor_comm]
theorem abZ (a b c : Blk) : bx (bx a b) c = bx a (bx b c) := Vector.ext fun i h => by rw [mg, mg, mg, mg, UInt8.xor_assoc]
theorem tA (a : Blk) : bx a aF = a := Vector.ext fun i h => by rw [mg, adJ, UInt8.xor_zero]
theorem zS (a : Blk) : bx aF a = a := by rw [ahi, tA]
theorem vp (l : List Blk) (a : Blk) : l.foldl bx a = bx a (fold l) := by
 unfold fold
 induction l generalizing a with
 |nil => simp [tA]
 |cons x l ih => rw [List.foldl_cons, List.foldl_cons, ih, ih (bx aF x), zS, abZ]
theorem aeE : fold [] = aF := rfl
theorem aaN (x : Blk) (l : List Blk) : fold (x :: l) = bx x (fold l) := by
 show (x :: l).foldl bx aF = _
 rw [List.foldl_cons, vp, zS]
theorem wv (a b : List Blk) : fold (a ++ b) = bx (fold a) (fold b) := by
 show (a ++ b).foldl bx aF = _
 rw [List.foldl_append, vp]
 rfl
def ftK (s sk no : Int) : Nat -> Nat -> HuS -> Blk -> Int × Blk × HuS
 |0, _, h, x => (0, x, h)
 |k + 1, i, h, x =>
  if (i : Int) = sk then ftK s sk no k (i + 1) h x
  else if gi h s i = 0 then ftK s sk no k (i + 1) (f6 h s i) (bx x (kb h s i))
  else (if gi h s i = 7 then no else gi h s i, aF, f6 h s i)
def HRm (h : HuS) : Prop := Room h.M 600 /\ h.ev <= 4611686018427387000
def ftP (s sk : Int) : Nat -> Nat -> HuS -> Prop
 |0, _, _ => True
 |k + 1, i, h => if (i : Int) = sk then ftP s sk k (i + 1) h else HRm h /\ qG h s i /\ (gi h s i = 0 -> ftP s sk k (i + 1) (f6 h s i))
def ik (h : HuS) (s m : Int) : Int × Blk × HuS := if gi h s m = 7 then ftK s m 16 h.R.m.toNat 0 (f6 h s m) aF else (gi h s m, kb h s m, f6 h s m)
def aaW (h : HuS) (s m : Int) : Prop := HRm h /\ qG h s m /\ (gi h s m = 7 -> ftP s m h.R.m.toNat 0 (f6 h s m))
section
variable {id ev : Nat} {R : Ros} {M : aZ} {k m : Nat} {h : HuS} {d : Int}
structure HR (k : Nat) (h : HuS) : Prop where
 rm : Room h.M (600 * k)
 ev : h.ev + 17 * k <= 4611686018427387000
 fine : bi h.R = true
 lit : ui h.R h.M
theorem HR.less {n : Nat} (h' : HR n h) (hm : m <= n) : HR m h := ⟨dy h'.rm (by omega), by have := h'.ev; omega, h'.fine, h'.lit⟩
theorem HR.hrm (h' : HR (k + 1) h) : HRm h := ⟨dy h'.rm (by omega), by have := h'.ev; omega⟩
theorem HR.sav (h' : HR (k + 1) h) : HR k (fY h) /\ iM h.R (fY h).R /\ (fY h).id = h.id := by
 obtain ⟨k1, k2, k3, k4⟩ := tE (k := 600 * k) 17 h h'.fine (dy h'.rm (by omega));exact ⟨⟨k1, by have := h'.ev; have : (fY h).ev <= h.ev + 17 := k3; omega, k2.fine, h'.lit.keep (wM h'.fine h'.lit).2 k2.m⟩, k2, k4⟩
theorem HR.ded (h' : HR (k + 1) h) (m : Nat) : HR k (uD h m) /\ iM h.R (uD h m).R /\ (uD h m).id = h.id := by
 have hk := iM.los h'.fine (m : Int);have h1 : HR (k + 1) (ml h m) := ⟨h'.rm, h'.ev, hk.fine, h'.lit.keep (iS.refl _) hk.m⟩;obtain ⟨k1, k2, k3⟩ := h1.sav;exact ⟨k1, hk.trans k2, k3⟩
theorem HR.agl (h' : HR k h) (s m : Int) : qG h s m := fun _ => (wM (h := ml h m.toNat) (iM.los h'.fine (m.toNat : Int)).fine (h'.lit.keep (iS.refl _) (iM.los h'.fine (m.toNat : Int)).m)).1
theorem HR.hrd (h' : HR (k + 1) h) (s m : Int) : HR k (f6 h s m) /\ iM h.R (f6 h s m).R /\ (f6 h s m).id = h.id := by
 unfold f6
 split
 ·exact h'.ded _
 ·exact ⟨h'.less (by omega), iM.refl h'.fine, rfl⟩
theorem af5 (M : aZ) (d : Int) : iS M (ki M d) := by
 unfold ki
 split
 ·rename_i he
  rcases lH M d with ⟨e, _⟩ | ⟨_, j, rfl, hj⟩
  ·omega
  ·refine ⟨rfl, fun e => e, List.length_set, fun i => ?_⟩
   show ((M.ds.set j _).getD i cZ).S.length = _
   rw [ajO _ _ _ _ _ hj]
   split
   ·rename_i e; subst e; rfl
   ·rfl
 ·exact iS.refl M
theorem HR.fail (h' : HR k h) (d : Int) : HR k { h with M := ki h.M d } := ⟨af1 h'.rm d, h'.ev, h'.fine, h'.lit.keep (af5 h.M d) rfl⟩
theorem qv {s sk no : Int} : ∀ (n i : Nat) (h : HuS) (x : Blk), HR (k + n) h -> ftP s sk n i h /\ HR k (ftK s sk no n i h x).2.2 /\ iM h.R (ftK s sk no n i h x).2.2.R /\ (ftK s sk no n i h x).2.2.id = h.id
 |0, i, h, x, h' => ⟨trivial, h', iM.refl h'.fine, rfl⟩
 |n + 1, i, h, x, h' => by
  rw [ftK, ftP];by_cases e : (i : Int) = sk
  ·rw [if_pos e, if_pos e];exact qv n (i + 1) h x (h'.less (by omega))
  ·rw [if_neg e, if_neg e];obtain ⟨k1, k2, k3⟩ := HR.hrd (k := k + n) h' s i;by_cases e2 : gi h s i = 0
   ·rw [if_pos e2];obtain ⟨j1, j2, j3, j4⟩ := qv (s := s) (sk := sk) (no := no) n (i + 1) (f6 h s i) (bx x (kb h s i)) k1;exact ⟨⟨h'.hrm, h'.agl s i, fun _ => j1⟩, j2, k2.trans j3, j4.trans k3⟩
   ·rw [if_neg e2];exact ⟨⟨h'.hrm, h'.agl s i, fun e => absurd e e2⟩, k1.less (by omega), k2, k3⟩
theorem HR.ftc (h' : HR (k + 17) h) (s m : Int) : aaW h s m /\ HR k (ik h s m).2.2 /\ iM h.R (ik h s m).2.2.R /\ (ik h s m).2.2.id = h.id := by
 obtain ⟨k1, k2, k3⟩ := HR.hrd (k := k + 16) h' s m;have hm : h.R.m.toNat <= 16 := mj h'.fine;unfold ik aaW;by_cases e : gi h s m = 7
 ·rw [if_pos e];obtain ⟨j1, j2, j3, j4⟩ := qv (k := k) (s := s) (sk := m) (no := 16) h.R.m.toNat 0 (f6 h s m) aF (k1.less (by omega));exact ⟨⟨h'.less (m := k + 16 + 1) (by omega) |>.hrm, h'.agl s m, fun _ => j1⟩, j2, k2.trans j3, j4.trans k3⟩
 ·rw [if_neg e];exact ⟨⟨h'.less (m := k + 16 + 1) (by omega) |>.hrm, h'.agl s m, fun e' => absurd e' e⟩, k1.less (by omega), k2, k3⟩
theorem HR.new {N : Nat} {s : Int} (h1 : 3 <= N) (h2 : N <= 16) (h3 : 1 <= s) (h4 : s <= 64) {n : Nat} (hn : n <= 1600) (id : Nat) : HR n ⟨fI (szK N s), id, 0, neR N s⟩ := ⟨adA (by omega), by show 0 + _ <= _; omega, mu h1 h2 h3 h4, rfl, rfl, by show (neR N s).m.toNat < _; rw [aeI, pw]; omega, fun m hm => by
 have hm' : m < (neR N s).m.toNat := hm;rw [aeI] at hm';rw [yZ hm']
 show 2 <= (List.replicate _ _).length
 rw [List.length_replicate];omega⟩
end
def LwE : Elt (Int × Blk) := vG 157 215 underlying157 (by kernel_rfl)
theorem eM {w : World} {b : Nat} {t : TypeId} {x y z u : Value} (h : w.heap[b]? = some (.cells #[x, y, z, u] t (0, 0))) : w.cell? ⟨b, 0, none⟩ = some x /\ w.cell? ⟨b, 1, none⟩ = some y /\ w.cell? ⟨b, 2, none⟩ = some z /\ w.cell? ⟨b, 3, none⟩ = some u := by
 refine ⟨?_, ?_, ?_, ?_⟩
 ·rw [cell_of_row w b 0 _ t (0, 0) h]; rfl
 ·rw [cell_of_row w b 1 _ t (0, 0) h]; rfl
 ·rw [cell_of_row w b 2 _ t (0, 0) h]; rfl
 ·rw [cell_of_row w b 3 _ t (0, 0) h]; rfl
structure PD (w : World) (p : Nat) (vS vL : Value) (S : List Blk) (L : List (Int × Blk)) (g : Bool) : Prop where
 at_ : w.heap[p]? = some (.cells #[.int .i64 (S.length : Int), vS, vL, .bool g] 159)
 one : 1 <= S.length
 S_ : aQ gP w 0 vS (if g = true then [] else S)
 L_ : aQ LwE w 0 vL L
 dead : g = true -> L = []
section
variable {w w' : World} {p : Nat} {vS vL : Value} {S : List Blk} {L : List (Int × Blk)} {g : Bool} {F : Nat -> Prop}
theorem PD.lt (h : PD w p vS vL S L g) : ∀ k, foot p vS vL k -> k < w.heap.size := by
 intro k hk;rcases hk with rfl | hk | hk
 ·exact (Array.getElem?_eq_some_iff.1 h.at_).1
 ·exact h.S_.kE k hk
 ·exact h.L_.kE k hk
theorem PD.only (h : PD w p vS vL S L g) (k : Only F w w') (hn : ∀ b, foot p vS vL b -> ¬ F b) : PD w' p vS vL S L g :=
 ⟨k.keep h.at_ (hn p (.inl rfl)), h.one, h.S_.only k fun b hb => hn b (.inr (.inl hb)), h.L_.only k fun b hb => hn b (.inr (.inr hb)), h.dead⟩
theorem PD.below (h : PD w p vS vL S L g) (k : Below w.heap.size w w') : PD w' p vS vL S L g := h.only (Only.of_below (fun _ => False) k) fun _ _ e => e
theorem PD.alive (h : PD w p vS vL S L false) : aQ gP w 0 vS S := h.S_
end
theorem lc (p : Nat) (vS vL : Value) (S : List Blk) (L : List (Int × Blk)) (g : Bool) (w : World) (h : PD w p vS vL S L g) :
  Calls prog 109 #[.pointer (some ⟨p, 0, none⟩)] w fun e w' => e = .returned (.bool true) /\ w = w' := by
 obtain ⟨c0, c1, c2, c3⟩ := eM h.at_;have h1 : 0 < S.length := h.one;go_enter func109, ntmps109;go_wp2;go_ret;exact ⟨rfl, rfl⟩
theorem acS (p : Nat) (vS vL : Value) (S : List Blk) (L : List (Int × Blk)) (g : Bool) (n : Int) (w : World) (h : PD w p vS vL S L g) :
  Calls prog 200 #[.pointer (some ⟨p, 0, none⟩), .int .i64 n] w fun e w' => e = .returned (.bool (decide (0 <= n /\ n < S.length))) /\ w = w' := by
 obtain ⟨c0, c1, c2, c3⟩ := eM h.at_;by_cases h0 : 0 <= n
 ·by_cases h1 : n < S.length
  ·have HD := ae (ao (p := 0 <= n /\ n < S.length) ⟨h0, h1⟩);go_enter func200, ntmps200;go_wp2;go_ret;exact ⟨bF HD.out.symm, rfl⟩
  ·have HD := ae (am (p := 0 <= n /\ n < S.length) (fun e => h1 e.2));go_enter func200, ntmps200;go_wp2;go_ret;exact ⟨bF (am (by omega)).symm, rfl⟩
 ·have HD := ae (am (p := 0 <= n /\ n < S.length) (fun e => h0 e.1));go_enter func200, ntmps200;go_wp2;go_ret;exact ⟨bF (by have e : decide (0 <= n) = false := am (by omega); rw [e]; rfl), rfl⟩
theorem gy (p : Nat) (vS vL : Value) (S : List Blk) (L : List (Int × Blk)) (g : Bool) (n : Int) (w : World) (h : PD w p vS vL S L g) :
  Calls prog 185 #[.pointer (some ⟨p, 0, none⟩), .int .i64 n] w fun e w' => e = .returned (.int .i64 (dw S g n)) /\ w = w' := by
 obtain ⟨c0, c1, c2, c3⟩ := eM h.at_;by_cases h1 : 0 <= n /\ n < S.length
 ·have HD := ae (ao h1);cases g
  ·have HE := ae (lK h1);clear h1;go_enter func185, ntmps185;go_wp2_with fail;refine (lc p vS vL S L false w h).mono ?_;rintro e w1 ⟨rfl, rfl⟩;go_wp2_with fail;refine (acS p vS vL S L false n w h).mono ?_;rintro e w1 ⟨rfl, rfl⟩;rw [HD.out];go_wp2_with fail;go_ret;exact ⟨cp HE.out.symm, rfl⟩
  ·have HE := ae (rk h1);clear h1;go_enter func185, ntmps185;go_wp2_with fail;refine (lc p vS vL S L true w h).mono ?_;rintro e w1 ⟨rfl, rfl⟩;go_wp2_with fail;refine (acS p vS vL S L true n w h).mono ?_;rintro e w1 ⟨rfl, rfl⟩;rw [HD.out];go_wp2_with fail;go_ret;exact ⟨cp HE.out.symm, rfl⟩
 ·have HD := ae (am h1);have HE := ae (pG g h1);clear h1;go_enter func185, ntmps185;go_wp2_with fail;refine (lc p vS vL S L g w h).mono ?_;rintro e w1 ⟨rfl, rfl⟩;go_wp2_with fail;refine (acS p vS vL S L g n w h).mono ?_;rintro e w1 ⟨rfl, rfl⟩;rw [HD.out];go_wp2_with fail;go_ret;exact ⟨cp HE.out.symm, rfl⟩
theorem abL (p : Nat) (vS vL : Value) (S : List Blk) (L : List (Int × Blk)) (g : Bool) (w : World) (h : PD w p vS vL S L g) :
  Calls prog 180 #[.pointer (some ⟨p, 0, none⟩)] w fun e w' => e = .returned (.int .i64 (S.length : Int)) /\ w = w' := by
 obtain ⟨c0, c1, c2, c3⟩ := eM h.at_;go_enter func180, ntmps180;go_wp2_with fail;refine (lc p vS vL S L g w h).mono ?_;rintro e w1 ⟨rfl, rfl⟩;go_wp2_with fail;go_ret;exact ⟨rfl, rfl⟩
theorem ajf (p : Nat) (vS vL : Value) (S : List Blk) (L : List (Int × Blk)) (g : Bool) (w : World) (h : PD w p vS vL S L g) :
  Calls prog 225 #[.pointer (some ⟨p, 0, none⟩)] w fun e w' => e = .returned (.bool g) /\ w = w' := by
 obtain ⟨c0, c1, c2, c3⟩ := eM h.at_;go_enter func225, ntmps225;go_wp2_with fail;refine (lc p vS vL S L g w h).mono ?_;rintro e w1 ⟨rfl, rfl⟩;go_wp2_with fail;go_ret;exact ⟨rfl, rfl⟩
theorem aim (p : Nat) (vS vL : Value) (S : List Blk) (L : List (Int × Blk)) (g : Bool) (n : Int) (w : World) (h : PD w p vS vL S L g) :
  Calls prog 142 #[.pointer (some ⟨p, 0, none⟩), .int .i64 n] w fun e w' => e = .returned (.tuple #[blk (kN S g n), .int .i64 (dw S g n)]) /\ Below w.heap.size w w' := by
 have hA := (Below.refl w.heap.size w).alloc aj (.cells (cel aF).toArray 45);have h1 := h.below hA;have HT := ae (eu w aF 45);have HA := ae hA;clear hA;rcases fp (S := S) (g := g) (n := n) with he | he | ⟨he, rfl, k, rfl, hk⟩
 ·have HS := ae (uH (S := S) (g := g) (n := n) (by omega));have HE := ae he;clear he;go_enter func142, ntmps142;go_wp2_with (first | (refine az rfl (aX rfl) ?_) | fail);refine (gy p vS vL S L g n _ h1).mono ?_;rintro e w1 ⟨rfl, rfl⟩;rw [HE.out];go_wp2_with (first | (refine az rfl (cQ (c := aF) (parts := []) rfl rfl) ?_) | (refine bw rfl (aU rfl rfl rfl HT.out) ?_));refine bodyPost_ret (cj rfl _ _ _ rfl (World.rangeAt_setCells_same _ _ _ _ (by rw [aK]; exact HT))) rfl ⟨by rw [HS.out, HE.out]; rfl, below_setCells HA aj _⟩
 ·have HS := ae (uH (S := S) (g := g) (n := n) (by omega));have HE := ae he;clear he;go_enter func142, ntmps142;go_wp2_with (first | (refine az rfl (aX rfl) ?_) | fail);refine (gy p vS vL S L g n _ h1).mono ?_;rintro e w1 ⟨rfl, rfl⟩;rw [HE.out];go_wp2_with (first | (refine az rfl (cQ (c := aF) (parts := []) rfl rfl) ?_) | (refine bw rfl (aU rfl rfl rfl HT.out) ?_));refine bodyPost_ret (cj rfl _ _ _ rfl (World.rangeAt_setCells_same _ _ _ _ (by rw [aK]; exact HT))) rfl ⟨by rw [HS.out, HE.out]; rfl, below_setCells HA aj _⟩
 ·have HS := ae (ac0 he);have HE := ae he;clear he;obtain ⟨A, c, rfl, hrd, hc1, hc2⟩ := h1.alive.open_ rfl;obtain ⟨b, off, rfl, hb, hr⟩ := hrd.blk hk;obtain ⟨c0, c1, c2, c3⟩ := eM h1.at_;generalize S.getD k aF = x at *;have HR := ae hr;clear hr hrd;go_enter func142, ntmps142;go_wp2_with (first | (refine az rfl (aX rfl) ?_) | fail);refine (gy p _ vL S L false k _ h1).mono ?_;rintro e w1 ⟨rfl, rfl⟩;rw [HE.out];go_wp2_with (first | (refine az rfl (aV rfl rfl HR.out) ?_) | (refine bw rfl (aU rfl rfl rfl HT.out) ?_));refine bodyPost_ret (cj rfl _ _ _ rfl (World.rangeAt_setCells_same _ _ _ _ (by rw [aK]; exact HT))) rfl ⟨by rw [HS.out, HE.out]; rfl, below_setCells HA aj _⟩
section
variable {w w' : World} {p : Nat} {vS vL : Value} {S : List Blk} {L : List (Int × Blk)} {g : Bool}
theorem zn (hp : w.heap[p]? = some (.cells #[.int .i64 (S.length : Int), vS, vL, .bool g] 159)) (h1 : 1 <= S.length) (hS : aQ gP w 0 vS (if g = true then [] else S)) {vL' : Value} {L' : List (Int × Blk)} (h' : aQ LwE w 0 vL' L') (hd : g = true -> L' = []) : PD (w.setCell ⟨p, 2, none⟩ vL') p vS vL' S L' g := by
 have hO := eE w p 2 vL';refine ⟨?_, h1, hS.only hO fun b hb e => hS.dZ hp (by decide) (by rw [hb, e]), h'.only hO fun b hb e => h'.dZ hp (by decide) (by rw [hb, e]), hd⟩;have := heap_setCell_same w p 2 _ _ vL' hp
 simpa using this
theorem PD.dk (h : PD w p vS vL S L g) {vL' : Value} {L' : List (Int × Blk)} (h' : aQ LwE w 0 vL' L') (hd : g = true -> L' = []) : PD (w.setCell ⟨p, 2, none⟩ vL') p vS vL' S L' g := zn h.at_ h.one h.S_ h' hd
theorem aj4 {b : Nat} : (Instr.fieldAt 159 (.pointer (some ⟨b, 0, none⟩)) 1).run prog w = .ok (.pointer (some ⟨b, 1, none⟩)) w := by kernel_rfl
theorem ahS {b : Nat} : (Instr.fieldAt 159 (.pointer (some ⟨b, 0, none⟩)) 2).run prog w = .ok (.pointer (some ⟨b, 2, none⟩)) w := by kernel_rfl
theorem aiv {b off : Nat} : (Instr.fieldAt 215 (.pointer (some ⟨b, off, none⟩)) 0).run prog w = .ok (.pointer (some ⟨b, off, none⟩)) w := by kernel_rfl
theorem ajN {b off : Nat} : (Instr.fieldAt 215 (.pointer (some ⟨b, off, none⟩)) 1).run prog w = .ok (.pointer (some ⟨b, off + 1, none⟩)) w := by kernel_rfl
theorem ldP {a : Addr} {A : Option Addr} {n c : Nat} (h : w.cell? a = some (.slice A n c)) : (Instr.loadAt 157 (.pointer (some a))).run prog w = .ok (.slice A n c) w := by simp [go_sem, h]
theorem stP {a : Addr} {v : Value} {A : Option Addr} {n c : Nat} (h : w.cell? a = some v) (hf : w.frozen? a = false) : (Instr.storeAt 157 (.pointer (some a)) (.slice A n c)).run prog w = .ok () (w.setCell a (.slice A n c)) := by simp [go_sem, h, hf]
theorem yH (k : Int) (b : Blk) : (Instr.build 215 #[(0, .int .i64 k), (1, blk b)]).run prog w = .ok (i9 k b) w := by
 have hz := lI LwE w;have h1 := dm (place := fun i => (#[(0, 1), (1, 64)] : Array (Nat × Nat))[i]?) (i := 0) (off := 0) (size := 1) (v := .int .i64 k) (pre := []) (mid := [.int .i64 0]) (post := cel aF) (vs := [.int .i64 k]) (rest := [(1, blk b)]) rfl rfl rfl rfl rfl;have h2 := dm (place := fun i => (#[(0, 1), (1, 64)] : Array (Nat × Nat))[i]?) (i := 1) (off := 1) (size := 64) (v := blk b) (pre := [.int .i64 k]) (mid := cel aF) (post := []) (vs := cel b) (rest := []) rfl rfl (aK b) rfl (aK aF);simp only [List.nil_append, List.append_nil, List.singleton_append] at h1 h2;have h3 := h1.trans h2;have hz' : (zeroValue 215).run prog w = .ok (i9 0 aF) w := hz;have hc : (i9 0 aF).cells = (.int .i64 0 :: cel aF).toArray := rfl;simp only [Instr.build, Sem.run_bind, hz', run_underlying underlying215, Result.andThen_ok, hc];refine Eq.trans (congrArg (fun r => Result.andThen r _) (?h : _ = Result.ok #[(0, 1), (1, 64)] w)) ?_
 case h => kernel_rfl
 simp only [Result.andThen_ok];have h4 : Instr.fill (fun i => (#[(0, 1), (1, 64)] : Array (Nat × Nat))[i]?) (.int .i64 k :: cel b).toArray [] = some (.int .i64 k :: cel b).toArray := by rw [Instr.fill]
 rw [h3.trans h4]
 rfl
theorem uf {ρ : Operand -> Value} {o : Oper} {x y : Operand} {k : Int} {b : Blk} (ho : o.op = .build 215 #[(0, x), (1, y)]) (hx : ρ x = .int .i64 k) (hy : ρ y = blk b) : (execOp ρ o).run prog w = .ok (.value (i9 k b)) w := by
 have h := yH (w := w) k b;unfold execOp;simp only [ho, List.map_toArray, List.map_cons, List.map_nil, hx, hy, Sem.run_bind, h, Result.andThen_ok, Sem.run_pure]
theorem vZ (k : Int) (b : Blk) : (i9 k b).cells = (LwE.cel (k, b)).toArray := rfl
end
theorem aiI (p : Nat) (vS vL : Value) (S : List Blk) (L : List (Int × Blk)) (g : Bool) (w : World) (h : PD w p vS vL S L g) :
  Calls prog 54 #[.pointer (some ⟨p, 0, none⟩)] w fun e w' => e = .returned (.int .i64 0) /\ PD w' p (.slice none 0 0) (.slice none 0 0) S [] true /\ Only (foot p vS vL) w w' := by
 obtain ⟨c0, c1, c2, c3⟩ := eM h.at_;have f0 := frozen_of_row w p 0 _ _ h.at_;have f1 := frozen_of_row w p 1 _ _ h.at_;have f2 := frozen_of_row w p 2 _ _ h.at_;have f3 := frozen_of_row w p 3 _ _ h.at_;have H := ae h;clear h;go_enter func54, ntmps54;go_wp2_with fail;refine (lc p vS vL S L g w H).mono ?_;rintro e w1 ⟨rfl, rfl⟩;go_wp2_with fail;go_ret;refine ⟨rfl, ⟨?_, H.out.one, aQ.nil _ _, aQ.nil _ _, fun _ => rfl⟩, ?_⟩
 ·have h0 := H.out.at_;have h1 := heap_setCell_same w p 0 _ _ (.int .i64 (S.length : Int)) h0;have h2 := heap_setCell_same _ p 1 _ _ (.slice none 0 0) h1;have h3 := heap_setCell_same _ p 2 _ _ (.slice none 0 0) h2;have h4 := heap_setCell_same _ p 3 _ _ (.bool true) h3
  simpa using h4
 ·have hO : Only (fun b => b = p) w w := Only.refl _ _;exact ((((hO.setCell (p := ⟨p, 0, none⟩) (.inl rfl) _).setCell (p := ⟨p, 1, none⟩) (.inl rfl) _).setCell (p := ⟨p, 2, none⟩) (.inl rfl) _).setCell (p := ⟨p, 3, none⟩) (.inl rfl) _).widen fun b hb => .inl hb
theorem yF (p : Nat) (vS vL : Value) (S : List Blk) (L : List (Int × Blk)) (g : Bool) (n : Int) (b : Blk) (w : World) (h : PD w p vS vL S L g) (he0 : dw S g n ≠ 0) :
  Calls prog 145 #[.pointer (some ⟨p, 0, none⟩), .int .i64 n, blk b] w fun e w' => e = .returned (.int .i64 (dw S g n)) /\ Below w.heap.size w w' := by
 have hA := (Below.refl w.heap.size w).alloc aj (.cells (cel b).toArray 45);have h1 := h.below hA;have HA := ae hA;clear hA;have H0 := ae he0;rcases fp (S := S) (g := g) (n := n) with he | he | ⟨he, _⟩
 rotate_right 1
 ·exact absurd he he0
 all_goals
  have HE := ae he;clear he he0;go_enter func145, ntmps145;go_wp2_with (first | (refine az rfl (cm rfl rfl) ?_) | fail);refine (gy p vS vL S L g n _ h1).mono ?_;rintro e w1 ⟨rfl, rfl⟩;rw [HE.out];go_wp2_with fail;go_ret;exact ⟨cp HE.out.symm, HA⟩
theorem xu (p k : Nat) (vS vL : Value) (S : List Blk) (L : List (Int × Blk)) (b : Blk) (w : World) (h : PD w p vS vL S L false) (hk : k < S.length) (hL : L.length < 1000000) :
  Calls prog 145 #[.pointer (some ⟨p, 0, none⟩), .int .i64 k, blk b] w fun e w' => e = .returned (.int .i64 0) /\ ∃ vL', PD w' p vS vL' S (L ++ [((k : Int), b)]) false /\ Only (foot p vS vL) w w' /\ (∀ x, vL'.ownBlock = some x -> vL.ownBlock = some x \/ w.heap.size <= x) := by
 have hA := (Below.refl w.heap.size w).alloc aj (.cells (cel b).toArray 45);have h1 := h.below hA;have HA := ae hA;have HE := ae (lK (S := S) (n := (k : Int)) (by omega));have HB := ae (kB w (cel b).toArray 45);clear hA;obtain ⟨AL, cL, rfl, hl1, hl2⟩ := h1.L_.form;go_enter func145, ntmps145;go_wp2_with (first | (refine az rfl (cm rfl rfl) ?_) | fail);refine (gy p vS _ S L false k _ h1).mono ?_;rintro e w1 ⟨rfl, rfl⟩;rw [HE.out];go_wp2_with fail;generalize hy : w.heap.size = y at *;generalize w.alloc (.cells (cel b).toArray 45) = w1 at *;refine kM (fun w' => w'.heap[p]? = some (.cells #[.int .i64 (S.length : Int), vS, .slice AL L.length cL, .bool false] 159) /\ w'.heap[y]? = some (.cells (cel b).toArray 45)) 12 (by kernel_rfl) ?_;change fE _ _ _ _ _ _ 13 _ _ w1.drew;have hS : w1.drew.heap[p]? = some (.cells #[.int .i64 (S.length : Int), vS, .slice AL L.length cL, .bool false] 159) /\ w1.drew.heap[y]? = some (.cells (cel b).toArray 45) := ⟨h1.at_, HB⟩;refine alQ 0 rfl (fun _ hw => aL rfl alW) hS ?_;refine alQ 1 rfl (fun _ hw => aL rfl alW) hS ?_;refine alQ 2 rfl (fun _ hw => bj rfl alW) hS ?_;refine alQ 3 rfl (fun _ hw => ax rfl alW ahS) hS ?_;refine alQ 4 rfl (fun _ hw => aE rfl alW (ldP (eM hw.1).2.2.1)) hS ?_;refine alQ 5 rfl (fun _ hw => aL rfl alW) hS ?_;refine alQ 6 rfl (fun _ hw => aV rfl alW (jG hw.2)) hS ?_;refine alQ 7 rfl (fun _ hw => uf rfl alW alW) hS ?_;have hr : PD w1.drew p vS (.slice AL L.length cL) S L false := ⟨h1.at_, h1.one, h1.S_, h1.L_, h1.dead⟩;have hS2 : PD (w1.drew.alloc (.cells (LwE.cel ((k : Int), b)).toArray LwE.t)) p vS (.slice AL L.length cL) S L false := hr.below (ak.alloc aj _);have hb2 := bJ hS.2 (.cells (LwE.cel ((k : Int), b)).toArray LwE.t);have hnew : RdE LwE _ _ _ 1 _ := eB (E := LwE) (l := [((k : Int), b)]) w1.drew (LwE.cel ((k : Int), b)).toArray LwE.t (by rw [eN]; simp [cH]);obtain ⟨v3, w3, hrun, hm3, hg3, ho3⟩ := ip LwE _ 157 0 _ 1 1 _ _ _ _ hS2.L_ hnew (Nat.zero_le _) (by omega);have hO2 : Only (foot p vS (.slice AL L.length cL)) w (w1.drew.alloc (.cells (LwE.cel ((k : Int), b)).toArray LwE.t)) := (Only.of_below _ (hy ▸ HA.out)).drew.alloc _;have hO3 := hO2.grown hg3 (fun x hx => .inl (.inr (.inr hx)));have hp3 : w3.heap[p]? = some (.cells #[.int .i64 (S.length : Int), vS, .slice AL L.length cL, .bool false] 159) := (hg3.block p (aS hS2.at_) (fun e => hS2.L_.dZ hS2.at_ (by decide) e.symm)).trans hS2.at_;have hy3 : w3.heap[y]? = some (.cells (cel b).toArray 45) := (hg3.block y (aS hb2) (fun e => hS2.L_.dZ hb2 (by decide) e.symm)).trans hb2;have hSS3 := hS2.S_.kept hg3 (hS2.S_.other hS2.L_ (by decide));refine fW 8 rfl (by kernel_rfl) rfl (da (E := LwE) (a := ((k : Int), b)) rfl alW (vZ _ _) (by decide)) (fun _ => ⟨hS2.at_, hb2⟩) ?_;simp only [aa];refine fW 9 rfl (by kernel_rfl) rfl (fX (E := LwE) rfl alW alW hrun) (fun _ => ⟨hp3, hy3⟩) ?_;simp only [aa];refine fW 10 rfl (by kernel_rfl) rfl (bj rfl alW) (fun _ => ⟨hp3, hy3⟩) ?_;simp only [aa];refine fW 11 rfl (by kernel_rfl) rfl (ax rfl alW ahS) (fun _ => ⟨hp3, hy3⟩) ?_;simp only [aa];obtain ⟨A3, c3, rfl, _, _⟩ := hm3.form;refine uG 12 rfl (by kernel_rfl) rfl (dh rfl (ev rfl) (ev rfl) (stP (eM hp3).2.2.1 (frozen_of_row _ _ _ _ _ hp3))) (fun e => absurd rfl e) ?_;simp only [Act.put];refine n7 (by kernel_rfl) ?_ _;go_wp2_with fail;go_ret;refine ⟨rfl, _, zn hp3 h1.one hSS3 hm3 (fun e => absurd e (by decide)), hO3.setCell (.inl (.inl rfl)) _, fun x hx => ?_⟩;rcases ho3 x hx with e | e
 ·exact .inl e
 ·refine .inr (ar ?_ e);have := hO2.size;omega
theorem afe (p : Nat) (vS vL : Value) (S : List Blk) (L : List (Int × Blk)) (g : Bool) (n : Int) (b : Blk) (w : World) (h : PD w p vS vL S L g) (hL : L.length < 1000000) :
  Calls prog 145 #[.pointer (some ⟨p, 0, none⟩), .int .i64 n, blk b] w fun e w' => e = .returned (.int .i64 (dw S g n)) /\ ∃ vL', PD w' p vS vL' S (wrL S L g n b) g /\ Only (foot p vS vL) w w' /\ (∀ x, vL'.ownBlock = some x -> vL.ownBlock = some x \/ w.heap.size <= x) := by
 by_cases he : dw S g n = 0
 ·rcases fp (S := S) (g := g) (n := n) with h1 | h1 | ⟨_, rfl, k, rfl, hk⟩
  ·omega
  ·omega
  ·have e : wrL S L false k b = L ++ [((k : Int), b)] := by unfold wrL; rw [if_pos he]
   rw [e, he];exact xu p k vS vL S L b w h hk hL
 ·have e : wrL S L g n b = L := by unfold wrL; rw [if_neg he]
  rw [e];exact (yF p vS vL S L g n b w h he).mono fun e w' ⟨h1, h2⟩ => ⟨h1, vL, h.below h2, Only.of_below _ h2, fun x hx => .inl hx⟩
theorem aly : ∃ d, prog.underlying LwE.t = some d /\ d.isRow = true := ⟨_, underlying215, rfl⟩
section
variable {ρ : Operand -> Value} {o : Oper} {x y : Operand} {w : World} {b off : Nat} {a : Int × Blk}
theorem pz (ho : o.op = .load LwE.t x) (hx : ρ x = .pointer (some ⟨b, off, none⟩)) (hc : w.rangeAt b off (fB a)) : (execOp ρ o).run prog w = .ok (.value (.agg (fB a).toArray)) w := by
 obtain ⟨d, h1, h2⟩ := aly;exact xX (E := LwE) h1 h2 ho hx hc
theorem nY (ho : o.op = .alloc LwE.t) : (execOp ρ o).run prog w = .ok (.value (.pointer (some ⟨w.heap.size, 0, none⟩))) (w.alloc (.cells LwE.z.cells LwE.t)) := ua (E := LwE) ho
theorem qU (ho : o.op = .store LwE.t x y) (hx : ρ x = .pointer (some ⟨w.heap.size, 0, none⟩)) (hy : ρ y = .agg (fB a).toArray) : (execOp ρ o).run prog (w.alloc (.cells LwE.z.cells LwE.t)) = .ok .skip (w.alloc (.cells (fB a).toArray LwE.t)) := yd (E := LwE) ho hx hy
end
section
variable {w w' : World} {p gg n c k : Nat} {vL : Value} {S : List Blk} {L : List (Int × Blk)}
theorem PD.hJ (h : PD w p (.slice (some ⟨gg, 0, none⟩) n c) vL S L false) (hk : k < n) (x : Blk) : PD (w.setCells gg (k * 64) (cel x)) p (.slice (some ⟨gg, 0, none⟩) n c) vL (S.set k x) L false := by
 have hO : Only (fun b => b = gg) w (w.setCells gg (k * 64) (cel x)) := (Only.refl (fun b => b = gg) w).setCells (.inl rfl) _ _;refine ⟨?_, by rw [List.length_set]; exact h.one, h.alive.store hk x, h.L_.only hO fun b hb e => ?_, fun e => absurd e (by decide)⟩
 ·rw [List.length_set];exact hO.keep h.at_ (fun e => h.S_.dZ h.at_ (by decide) (by rw [e]; rfl))
 ·rcases h.L_.other h.S_ (by decide) with e' | e'
  ·rw [e'] at hb; cases hb
  ·exact e' (by rw [hb, e]; rfl)
end
theorem td (p : Nat) (vS vL : Value) (S : List Blk) (L : List (Int × Blk)) (w : World) (h : PD w p vS vL S L true) :
  Calls prog 226 #[.pointer (some ⟨p, 0, none⟩)] w fun e w' => e = .returned (.int .i64 9) /\ w = w' := by
 obtain ⟨c0, c1, c2, c3⟩ := eM h.at_;go_enter func226, ntmps226;go_wp2_with fail;refine (lc p vS vL S L true w h).mono ?_;rintro e w1 ⟨rfl, rfl⟩;go_wp2_with fail;go_ret;exact ⟨rfl, rfl⟩
theorem xe (p : Nat) (vS vL : Value) (S : List Blk) (L : List (Int × Blk)) (w : World) (h : PD w p vS vL S L false) (hF : Fit S L) :
  Calls prog 226 #[.pointer (some ⟨p, 0, none⟩)] w fun e w' => e = .returned (.int .i64 0) /\ PD w' p vS (.slice none 0 0) (flS S L) [] false /\ Only (foot p vS vL) w w' := by
 obtain ⟨c0, c1, c2, c3⟩ := eM h.at_;obtain ⟨AL, cL, rfl, hl1, hl2⟩ := h.L_.form;unfold maxLen at hl2;have HH := ae h;have HF := ae hF;clear h hF;go_enter func226, ntmps226;go_wp2_with fail;refine (lc p vS _ S L false w HH).mono ?_;rintro e w1 ⟨rfl, rfl⟩;go_wp2_with fail;clear c0 c1 c2 c3
 go_loopw [4, 17] (fun v4 i wr => ∃ j : Nat, j <= L.length /\ i = .int .i64 j /\ PD wr p vS (.slice AL L.length cL) (flS S (L.take j)) L false /\ Only (foot p vS (.slice AL L.length cL)) w wr) (fun _ i _ => L.length - (intOf i).toNat)
 case atStart => exact ⟨0, Nat.zero_le _, rfl, HH, Only.refl _ _⟩
 case round =>
  obtain ⟨j, hj, rfl, hr, hon⟩ := hrel;by_cases hlt : j < L.length
  ·obtain ⟨k, hqk, hk⟩ := HF.out.at_ hlt;have hlenS := mV S (L.take j);obtain ⟨gS, cS, rfl⟩ := hr.alive.slice hlenS (by omega);obtain ⟨bA, oA, hAe, hAl, rA⟩ := hr.L_.rd.pairs hlt;have HS := ae (wH (S := S) hlt);rw [hqk] at HS;generalize hq : L.getD j (0, aF) = q at *;obtain ⟨q1, x⟩ := q;obtain rfl : q1 = (k : Int) := hqk;clear hq;have h1 := hr.below (ak.alloc aj (.cells (fB ((k : Int), x)).toArray LwE.t));have HON := ae (hon.alloc (.cells (fB ((k : Int), x)).toArray LwE.t));have hnw := aen wr ((k : Int), x) LwE.t;have HRA := ae rA;subst hAe;clear rA hr hon;have hLL : (j : Int) < (L.length : Int) := by omega
   go_wp2_with (first | (refine az rfl (cu (E := LwE) rfl rfl rfl hlt) ?_) | (refine az rfl (pz rfl rfl HRA.out) ?_) | (refine az rfl (nY rfl) ?_) | (refine bw rfl (qU rfl rfl rfl) ?_) | fail);generalize hy : wr.heap.size = y at *;generalize wr.alloc (.cells (fB ((k : Int), x)).toArray LwE.t) = w1 at *;obtain ⟨c0, c1, c2, c3⟩ := eM h1.at_;have HA := ae c1;have HN := ae hnw;have H1 := ae h1;have HKT := ae (show w1.there gS (k * 64) 64 from by
    have := H1.out.alive.there hk (j := 0) (m := 64) aj;rw [Nat.add_zero] at this;exact this)
   clear c0 c1 c2 c3 hnw h1 hlenS;refine wp_region_still_tail 9 (by kernel_rfl) (by kernel_rfl) ?_;simp only [ac];refine aM rfl (aL rfl alW) ?_;simp only [aa];refine aM rfl (bj rfl alW) ?_;simp only [aa];refine aM rfl (ax rfl alW aj4) ?_;simp only [aa];refine aM rfl (aE rfl alW (ldB HA)) ?_;simp only [aa];refine aM rfl (ax rfl alW aiv) ?_;simp only [aa];refine aM rfl (aE rfl alW (ldI HN.out.1)) ?_;simp only [aa];refine aM rfl (ax rfl alW ajN) ?_;simp only [aa];refine aM rfl (aV rfl alW HN.out.2) ?_;simp only [aa];refine aM rfl (kY (E := gP) rfl alW alW hk) ?_;simp only [aa];refine wpStill_nil ?_;change wpList _ _ _ _ _ w1.drew;go_wp2_with (first | (refine bw rfl (aU rfl rfl rfl HKT.out) ?_) | fail);go_roundw
   case rel =>
    have hd : PD w1.drew p (.slice (some ⟨gS, 0, none⟩) S.length cS) (.slice (some ⟨bA, oA, none⟩) L.length cL) (flS S (L.take j)) L false := ⟨H1.out.at_, H1.out.one, H1.out.S_, H1.out.L_, H1.out.dead⟩;exact ⟨j + 1, by omega, by go_num, by rw [HS.out]; exact hd.hJ hk x, HON.out.drew.setCells (.inl (.inr (.inl rfl))) _ _⟩
   case measure => simp [intOf]; omega
  ·have hjn : j = L.length := by omega
   subst hjn;obtain ⟨c0, c1, c2, c3⟩ := eM hr.at_;have f2 := frozen_of_row wr p 2 _ _ hr.at_;have HRr := ae hr;have HON := ae hon;clear hr hon;have hLL : ¬((L.length : Int) < (L.length : Int)) := by omega
   go_wp2_with fail;go_ret;have hd := HRr.out.dk (aQ.nil _ _) (fun _ => rfl);rw [List.take_length] at hd;exact ⟨rfl, hd, HON.out.setCell (.inl (.inl rfl)) _⟩
theorem adY (k : Nat) (w : World) (h1 : 1 <= k) (h2 : k <= 512) :
  Calls prog 72 #[.int .i64 k] w fun e w' => ∃ p vS, e = .returned (.tuple #[.pointer (some ⟨p, 0, none⟩), .int .i64 0]) /\ PD w' p vS (.slice none 0 0) (List.replicate k aF) [] false /\ Below w.heap.size w w' /\ ∀ b, foot p vS (.slice none 0 0) b -> w.heap.size <= b := by
 go_enter func72, ntmps72;have HM := ae (heap_alloc_new w (.cells (madeCells (cel aF).toArray (k * 64)) 45));have HB := ae ((Below.refl w.heap.size w).alloc aj (.cells (madeCells (cel aF).toArray (k * 64)) 45));have HSZ := ae (World.size_alloc w (.cells (madeCells (cel aF).toArray (k * 64)) 45));go_wp2_with (first | (refine az rfl (rh (n := k) rfl rfl rfl (by omega)) ?_) | fail);generalize w.alloc (.cells (madeCells (cel aF).toArray (k * 64)) 45) = w1 at *;go_ret2;have hS : aQ gP w1 0 (.slice (some ⟨w.heap.size, 0, none⟩) k k) (List.replicate k aF) := aQ.of_block (E := gP) HM (by rw [<- qN]; rfl) (Nat.zero_le _) (by simp) (by unfold maxLen; omega);have hnw := heap_alloc_new w1 (.cells #[.int .i64 (k : Int), .slice (some ⟨w.heap.size, 0, none⟩) k k, .slice none 0 0, .bool false] 159);rw [HSZ.out] at hnw;refine ⟨w.heap.size + 1, _, rfl, ⟨by rw [List.length_replicate]; exact hnw, by simpa using h1, hS.below (ak.alloc aj _), aQ.nil _ _, fun e => absurd e (by decide)⟩, HB.out.alloc HB.out.size _, fun b hb => ?_⟩;rcases hb with rfl | hb | hb
 ·omega
 ·simp [Value.ownBlock] at hb; omega
 ·simp [Value.ownBlock] at hb
theorem aeb (n : Int) (w : World) (h : ¬(1 <= n /\ n <= 512)) :
  Calls prog 72 #[.int .i64 n] w fun e w' => e = .returned (.tuple #[.pointer none, .int .i64 2]) /\ w = w' := by
 have hor : n < 1 \/ (1 <= n /\ 512 < n) := by omega
 clear h;rcases hor with h | ⟨h, h'⟩
 all_goals
  go_enter func72, ntmps72;go_wp2;go_ret2;exact ⟨rfl, rfl⟩
def kp (z : Int) : Nat := (min (max z 0) 64).toNat
def oN (o : Oper) : Bool := match o.op with
 |.defer _ => false
 |_ => true
theorem m4 {o : Oper} (h : oN o = true) : ∀ c, o.op ≠ .defer c := by
 intro c e;unfold oN at h;rw [e] at h;cases h
section
variable {F : Fence} {n : Nat} {P : Program} {ops : Array Oper} {rest : List Oper} {o : Oper} {a : Act} {w w' : World} {Q : Exit -> Act -> World -> Prop} {v : Value}
theorem ez (hg : o.guard = none) (hd : oN o = true) (ha : o.about P w a.eval = none) (h : (execOp a.eval o).run P w = .ok (.value v) w') (hr : wpListIn F n P ops Q rest (a.put o.dst v) w') : wpListIn F n P ops Q (o :: rest) a w := by
 refine wpListIn_plain hg fun K hK => ?_
 unfold Oper.wpIn;refine ⟨fun f hf => (by rw [ha] at hf; cases hf), ?_⟩;rw [Oper.semAt_plain F _ _ (m4 hd), h];exact hK _ _ hr
theorem mI (hg : o.guard = none) (hd : oN o = true) (ha : o.about P w a.eval = none) (h : (execOp a.eval o).run P w = .ok .skip w') (hr : wpListIn F n P ops Q rest (a.put o.dst undef) w') : wpListIn F n P ops Q (o :: rest) a w := by
 refine wpListIn_plain hg fun K hK => ?_
 unfold Oper.wpIn;refine ⟨fun f hf => (by rw [ha] at hf; cases hf), ?_⟩;rw [Oper.semAt_plain F _ _ (m4 hd), h];exact hK _ _ hr
end
open Go.RowKit Go.Shelf
attribute [local go_sem] Oper.semAt_some
def cmd (L : List (Int × Blk)) : Nat -> List (Nat × (Int × Blk))
 |0 => []
 |d + 1 => cmd L d ++ [(L.length - 1 - d, L.getD (L.length - 1 - d) (0, aF))]
theorem agK (L : List (Int × Blk)) (d : Nat) : (cmd L d).length = d := by
 induction d with
 |zero => rfl
 |succ d ih => rw [cmd, List.length_append, ih]; rfl
theorem zN (L : List (Int × Blk)) (d i : Nat) (h1 : L.length - d <= i) (h2 : i < L.length) : (i, L.getD i (0, aF)) ∈ cmd L d := by
 induction d with
 |zero => omega
 |succ d ih =>
  rw [cmd];by_cases e : L.length - d <= i
  ·exact List.mem_append.2 (.inl (ih e))
  ·have : i = L.length - 1 - d := by omega
   subst this;exact List.mem_append.2 (.inr (by simp))
def afs (x : Nat × (Int × Blk)) : Array Value := #[.int .i64 (x.1 : Int), .agg (fB x.2).toArray]
theorem tP (F : Fence) (n : Nat) (h : F.fn 202) (hro : F.round = none) (a : Option Addr) (len cap : Nat) (w : World) :
  CallsIn F n prog 202 #[.slice a len cap] w fun e w' => e = .returned (.func (.func 210) #[] #[.pointer (some ⟨w.heap.size, 0, none⟩)]) /\ w' = w.alloc (.cells #[.slice a len cap] 157) := by
 refine callsIn_of_wp func202 rfl h ?_ hro;simp only [ntmps202, List.size_toArray, List.length_cons, List.length_nil, Nat.reduceAdd, Nat.reduceSub, Array.replicate_succ, Array.replicate_zero, List.push_toArray, List.append_toArray, List.nil_append, List.cons_append]
 gi_wp2
 go_ret;exact ⟨rfl, rfl⟩
set_option maxRecDepth 100000 in
theorem aeq (F : Fence) (n : Nat) (h40 : F.fn 210) (hro : F.round = none) (hn : 1 <= n) (l Bs n₀ : Nat) (A : Option Addr) (cap : Nat) (L : List (Int × Blk)) (hLl : L.length <= 1000000) (J Jx : List (Nat × (Int × Blk)) -> World -> Prop)
  (hY : ∀ pre x W, J pre W -> pre.length < L.length -> YieldAt F (n - 1) prog l (afs x) W fun e W' =>
   (e = .returned (.bool true) /\ J (pre ++ [x]) W' /\ Below n₀ W W') \/ (e = .returned (.bool false) /\ Jx (pre ++ [x]) W'))
  (W : World) (hBn : Bs < n₀) (hBs : W.cell? ⟨Bs, 0, none⟩ = some (.slice A L.length cap)) (hL : RdE LwE W n₀ A L.length L) (h0 : J [] W) :
  CallsIn F n prog 210 #[.func (.yield l) #[] #[], .pointer (some ⟨Bs, 0, none⟩)] W fun e W' => (∃ v, e = .returned v) /\
   ((∃ ys, ys = cmd L L.length /\ J ys W') \/ (∃ pre, (∃ d, d <= L.length /\ pre = cmd L d) /\ Jx pre W')) := by
 refine callsIn_of_wp func210 rfl h40 ?_ hro;simp only [ntmps210, List.size_toArray, List.length_cons, List.length_nil, Nat.reduceAdd, Nat.reduceSub, Array.replicate_succ, Array.replicate_zero, List.push_toArray, List.append_toArray, List.nil_append, List.cons_append]
 gi_wp2
 gi_loopw [3] (fun i wr => ∃ r : Nat, r <= L.length /\ i = .int .i64 ((r : Int) - 1) /\ J (cmd L (L.length - r)) wr /\ Below n₀ W wr)
  (fun i _ => (intOf i + 1).toNat)
 case atStart => exact ⟨L.length, aj, rfl, by rw [Nat.sub_self]; exact h0, ak⟩
 case round =>
  obtain ⟨r, hr, rfl, hJs, hnx⟩ := hrel;have hbx : wr.cell? ⟨Bs, 0, none⟩ = some (.slice A L.length cap) := (hnx.cell (p := ⟨Bs, 0, none⟩) hBn).trans hBs;have hLr := hL.below hnx;cases r with
  |zero =>
   clear hLr hbx;rw [Nat.sub_zero] at hJs;have e : ((0 : Nat) : Int) - 1 = -1 := rfl;rw [e]
   gi_wp2
   go_end0
   exact ⟨⟨_, rfl⟩, .inl ⟨_, rfl, hJs⟩⟩
  |succ m =>
   have e : ((m + 1 : Nat) : Int) - 1 = (m : Int) := by omega
   rw [e];clear e;have hlt : m < L.length := hr;obtain ⟨bA, oA, rfl, hbA, rA⟩ := RdE.pairs hLr hlt;have hnext : cmd L (L.length - m) = cmd L (L.length - (m + 1)) ++ [(m, L.getD m (0, aF))] := by
    have e1 : L.length - m = (L.length - (m + 1)) + 1 := by omega
    rw [e1, cmd];have e2 : L.length - 1 - (L.length - (m + 1)) = m := by omega
    rw [e2]
   have HNX := ae hnext;obtain ⟨fn, tmps, assign, body, hy, hR⟩ := hY _ (m, L.getD m (0, aF)) wr hJs (by rw [agK]; omega);rw [<- hnext] at hR;have HRA := ae rA;generalize L.getD m (0, aF) = q at *;unfold afs at hy;dsimp only at hy;clear hnext rA hLr
   gi_wp2_with (first | (refine ez rfl rfl rfl (cu (E := LwE) rfl rfl rfl hlt) ?_) | (refine ez rfl rfl rfl (pz rfl rfl HRA) ?_) | fail)
   refine hR.mono ?_;rintro e W3 (⟨rfl, hJ3, hk3⟩ | ⟨rfl, hJx3⟩)
   ·gi_wp2
    go_roundw
    case rel => exact ⟨m, by omega, rfl, hJ3, hnx.trans hk3⟩
    case measure => simp [intOf]
   ·gi_wp2
    refine bodyPost_ret (results_none rfl _ _ _) rfl ?_;exact ⟨⟨_, rfl⟩, .inr ⟨_, ⟨L.length - m, by omega, rfl⟩, hJx3⟩⟩
theorem wO (F : Fence) (n : Nat) (h40 : F.fn 210) (hro : F.round = none) (hn : 1 <= n) (Bs : Nat) (A : Option Addr) (cap : Nat) (L : List (Int × Blk)) (hLl : L.length <= 1000000) (w : World) (hBn : Bs < w.heap.size) (hBs : w.cell? ⟨Bs, 0, none⟩ = some (.slice A L.length cap)) (hL : RdE LwE w w.heap.size A L.length L) :
  SeqStopsK F n prog 210 #[.pointer (some ⟨Bs, 0, none⟩)] afs (Below w.heap.size) (fun ys => ys = cmd L L.length) (fun pre => ∃ d, d <= L.length /\ pre = cmd L d) L.length w := fun l J Jx W hW _ _ hY h0 =>
 aeq F n h40 hro hn l Bs w.heap.size A cap L hLl J Jx hY W hBn ((hW.cell (p := ⟨Bs, 0, none⟩) hBn).trans hBs) (hL.below hW) h0
attribute [local go_sem] Oper.semAt_some
theorem o8 {fn : Func} {p u : Tmp} {c : Blk} {e : Int} (h : fn.results = #[.cell p 45, .cell u 27]) (tmps : Array Value) (w : World) (b b' : Nat) (hp : tmps.getD p undef = .pointer (some ⟨b, 0, none⟩)) (hu : tmps.getD u undef = .pointer (some ⟨b', 0, none⟩)) (hc : w.rangeAt b 0 (cel c)) (he : w.cell? ⟨b', 0, none⟩ = some (.int .i64 e)) :
  (results fn tmps).run prog w = .ok (.tuple #[blk c, .int .i64 e]) w := by
 have hl : (loadVar 45 ⟨b, 0, none⟩).run prog w = .ok (blk c) w := run_loadVar_mid w b 0 45 (cel c) _ hc uJ rfl (by rw [aK]; exact sn);have hl2 : (loadVar 27 ⟨b', 0, none⟩).run prog w = .ok (.int .i64 e) w := by simp [go_sem, he]
 have hp' : tmps[p]?.getD undef = .pointer (some ⟨b, 0, none⟩) := by simpa using hp
 have hu' : tmps[u]?.getD undef = .pointer (some ⟨b', 0, none⟩) := by simpa using hu
 simp [results, h, hp', hu', asAddr, hl, hl2]
theorem lq {w : World} {b b' o i : Nat} {cs : List Value} (h : w.rangeAt b o cs) (hne : b ≠ b') (v : Value) : (w.setCell ⟨b', i, none⟩ v).rangeAt b o cs := fun j u hj => by
 rw [World.cell?_of_block (w := w) (a := ⟨b, o + j, none⟩) (heap_setCell_other w ⟨b', i, none⟩ b v hne)];exact h j u hj
def rd3 (w : World) (n : Int) : World := ((w.alloc (.cells #[.int .i64 n] 3)).alloc (.cells (cel aF).toArray 45)).alloc (.cells #[.int .i64 0] 27)
theorem rH (w : World) (n : Int) : Below w.heap.size w (rd3 w n) /\ (rd3 w n).heap[w.heap.size]? = some (.cells #[.int .i64 n] 3) /\ (rd3 w n).heap[w.heap.size + 1]? = some (.cells (cel aF).toArray 45) /\ (rd3 w n).heap[w.heap.size + 1 + 1]? = some (.cells #[.int .i64 0] 27) /\ (rd3 w n).heap.size = w.heap.size + 1 + 1 + 1 := by
 unfold rd3;have e1 := World.size_alloc (w := w) (o := .cells #[.int .i64 n] 3);have e2 := World.size_alloc (w := w.alloc (.cells #[.int .i64 n] 3)) (o := .cells (cel aF).toArray 45);have e3 := World.size_alloc (w := (w.alloc (.cells #[.int .i64 n] 3)).alloc (.cells (cel aF).toArray 45)) (o := .cells #[.int .i64 0] 27);have n1 := kB w #[.int .i64 n] 3;have n2 := kB (w.alloc (.cells #[.int .i64 n] 3)) (cel aF).toArray 45;have n3 := kB ((w.alloc (.cells #[.int .i64 n] 3)).alloc (.cells (cel aF).toArray 45)) #[.int .i64 0] 27;rw [e2, e1] at n3;rw [e1] at n2;refine ⟨(((Below.refl _ w).alloc aj _).alloc (by omega) _).alloc (by omega) _, bJ (bJ n1 _) _, bJ n2 _, n3, by omega⟩
theorem one_cell {w : World} {b : Nat} {v : Value} {t : TypeId} (h : w.heap[b]? = some (.cells #[v] t (0, 0))) : w.cell? ⟨b, 0, none⟩ = some v /\ w.frozen? ⟨b, 0, none⟩ = false := by
 refine ⟨?_, frozen_of_row w b 0 _ t h⟩;rw [cell_of_row w b 0 _ t (0, 0) h]; rfl
theorem aaM (p : Nat) (vS vL : Value) (S : List Blk) (L : List (Int × Blk)) (g : Bool) (n : Int) (w : World) (h : PD w p vS vL S L g) (he0 : dw S g n ≠ 0) :
  Calls prog 189 #[.pointer (some ⟨p, 0, none⟩), .int .i64 n] w fun e w' => e = .returned (.tuple #[blk (ge S L g n), .int .i64 (dw S g n)]) /\ Below w.heap.size w w' := by
 obtain ⟨hA, k0, k1, k2, hsz⟩ := rH w n;have h1 := h.below hA;have HA := ae hA;have HT := ae (bQ k1);obtain ⟨c0, f0⟩ := one_cell k0;have hO : Only (fun b => b = w.heap.size + 1) (rd3 w n) ((rd3 w n).setCells (w.heap.size + 1) 0 (cel aF)) := (Only.refl (fun b => b = w.heap.size + 1) (rd3 w n)).setCells (.inl rfl) _ _;have k2' := hO.keep k2 (by omega);obtain ⟨c2, f2⟩ := one_cell k2';have HS := ae (pI (L := L) he0);clear hA k0 k1 k2 hO k2';rcases fp (S := S) (g := g) (n := n) with he | he | ⟨he, _⟩
 rotate_right 1
 ·exact absurd he he0
 all_goals
  have HE := ae he;clear he he0;go_enter func189, ntmps189;unfold rd3 at *;go_wp2_with (first | (refine az rfl (aX rfl) ?_) | fail);generalize ((w.alloc (.cells #[.int .i64 n] 3)).alloc (.cells (cel aF).toArray 45)).alloc (.cells #[.int .i64 0] 27) = w3 at *;refine (gy p vS vL S L g n w3 h1).mono ?_;rintro e w1 ⟨rfl, rfl⟩;rw [HE.out];go_wp2_with (first | (refine az rfl (cQ (c := aF) (parts := []) rfl rfl) ?_) | (refine bw rfl (aU rfl rfl rfl ?ht) ?_; (case ht => exact HT.out)) | fail);have hr1 : (w3.setCells (w.heap.size + 1) 0 (cel aF)).rangeAt (w.heap.size + 1) 0 (cel aF) := World.rangeAt_setCells_same _ _ _ _ (by rw [aK]; exact HT);have hr2 := lq (b' := w.heap.size + 1 + 1) (i := 0) hr1 (by omega);have hb2 := (below_setCells HA (show w.heap.size <= w.heap.size + 1 by omega) (o := 0) (cel aF));refine bodyPost_ret (o8 rfl _ _ _ _ rfl rfl (hr2 _) (World.cell?_setCell_same' _ _ _ (by rw [c2]; rfl))) rfl ⟨by rw [HS.out, HE.out], hb2.setCell (p := ⟨w.heap.size + 1 + 1, 0, none⟩) (by show _ <= w.heap.size + 1 + 1; omega) _⟩
attribute [local go_sem] Oper.semAt_some
theorem xf {L : List (Int × Blk)} {n : Int} {b : Blk} (h : ∀ q ∈ L, q.1 ≠ n) : ls L n b = b := by
 unfold ls
 induction L generalizing b with
 |nil => rfl
 |cons q L ih =>
  rw [List.foldl_cons, if_neg (h q (by simp)), ih fun q hq => h q (by simp [hq])]
theorem acP {L : List (Int × Blk)} {n : Int} {b : Blk} {i : Nat} (hi : i < L.length) (h : (L.getD i (0, aF)).1 = n) (hb : ∀ j, i < j -> j < L.length -> (L.getD j (0, aF)).1 ≠ n) : ls L n b = (L.getD i (0, aF)).2 := by
 have key : ∀ m, i + 1 + m <= L.length -> ls (L.take (i + 1 + m)) n b = (L.getD i (0, aF)).2 := by
  intro m
  induction m with
  |zero => intro _; rw [Nat.add_zero, lW n b hi, if_pos h]
  |succ m ih =>
   intro hm;rw [<- Nat.add_assoc, lW n b (by omega), if_neg (hb _ (by omega) (by omega))];exact ih (by omega)
 have := key (L.length - (i + 1)) (by omega);rwa [show i + 1 + (L.length - (i + 1)) = L.length from by omega, List.take_length] at this
def NoK (k : Int) (pre : List (Nat × (Int × Blk))) : Prop := ∀ x ∈ pre, x.2.1 ≠ k
def alw (s : Nat) (k : Int) (pre : List (Nat × (Int × Blk))) (W : World) : Prop := ∃ ini last, pre = ini ++ [last] /\ NoK k ini /\ last.2.1 = k /\ W.rangeAt (s + 1) 0 (cel last.2.2) /\ W.cell? ⟨s + 1 + 1, 0, none⟩ = some (.int .i64 0)
theorem age {w : World} {b : Nat} {q : Int × Blk} {t : TypeId} (h : w.heap[b]? = some (.cells (fB q).toArray t (0, 0))) : w.cell? ⟨b, 0, none⟩ = some (.int .i64 q.1) /\ w.rangeAt b 1 (cel q.2) := by
 have hr : w.rangeAt b 0 (fB q) := fun j v hj => by
  rw [cell_of_row _ _ (0 + j) (fB q).toArray t (0, 0) h]
  simpa using hj
 refine ⟨hr 0 _ rfl, fun j v hj => ?_⟩;have := hr (j + 1) v hj;rwa [show 0 + (j + 1) = 1 + j from by omega] at this
theorem iP (b : Nat) : ∀ (vs : List Value) (o : Nat) (w : World), KeepsOthers w (w.setCells b o vs)
 |[], _, w => KeepsOthers.refl w
 |v :: r, o, w => (KeepsOthers.setCell w ⟨b, o, none⟩ v).trans (iP b r (o + 1) _)
set_option maxRecDepth 100000 in
theorem aaR (p k : Nat) (vS vL : Value) (S : List Blk) (L : List (Int × Blk)) (w : World) (h : PD w p vS vL S L false) (hk : k < S.length) (hLl : L.length <= 1000000) :
  Calls prog 189 #[.pointer (some ⟨p, 0, none⟩), .int .i64 k] w fun e w' => e = .returned (.tuple #[blk (ge S L false k), .int .i64 0]) /\ Below w.heap.size w w' := by
 obtain ⟨gS, cS, rfl⟩ := h.alive.slice rfl (by omega);obtain ⟨hA, k0, k1, k2, hsz⟩ := rH w (k : Int);have h1 := h.below hA;have HA := ae hA;have HE := ae (lK (S := S) (n := (k : Int)) (by omega));have HK0 := ae k0;have HK1 := ae k1;have HK2 := ae k2;obtain ⟨c0, f0⟩ := one_cell k0;obtain ⟨AL, cL, rfl, hl1, hl2⟩ := h1.L_.form;obtain ⟨d0, d1, d2, d3⟩ := eM h1.at_;clear hA k0 k1 k2;refine (callsIn_wide (n := 3)).1 ?_;refine callsIn_of_wp_marks func189 rfl trivial ?_ rfl;refine wpIn_wide.2 ?_;simp only [ntmps189, List.size_toArray, List.length_cons, List.length_nil, Nat.reduceAdd, Nat.reduceSub, Array.replicate_succ, Array.replicate_zero, List.push_toArray, List.append_toArray, List.nil_append, List.cons_append];unfold rd3 at *;go_wp2_with (first | (refine az rfl (aX rfl) ?_) | fail);generalize ((w.alloc (.cells #[.int .i64 (k : Int)] 3)).alloc (.cells (cel aF).toArray 45)).alloc (.cells #[.int .i64 0] 27) = w3 at *;refine (gy p _ _ S L false k w3 h1).mono ?_;rintro e w4 ⟨rfl, rfl⟩;rw [HE.out];go_wp2_with fail;refine (callsIn_wide.1 (tP Fence.wide 3 trivial rfl AL L.length cL w3)).mono ?_;rintro e w4 ⟨rfl, rfl⟩;go_wp2_with fail;have hB0 := HA.out.alloc HA.out.size (.cells #[.slice AL L.length cL] 157);have hbox := kB w3 #[.slice AL L.length cL] 157;have h2 := h1.below ((Below.refl _ w3).alloc aj (.cells #[.slice AL L.length cL] 157));have k0 := bJ HK0 (.cells #[.slice AL L.length cL] 157);have k1 := bJ HK1 (.cells #[.slice AL L.length cL] 157);have k2 := bJ HK2 (.cells #[.slice AL L.length cL] 157);have hsz0 := World.size_alloc w3 (.cells #[.slice AL L.length cL] 157);rw [hsz] at hbox hsz0;generalize w3.alloc (.cells #[.slice AL L.length cL] 157) = W0 at *;clear c0 f0 d0 d1 d2 d3 h1 HA HK0 HK1 HK2 hsz;have HK0 := ae k0;have HK1 := ae k1;have HK2 := ae k2;have HH2 := ae h2;have HB0 := ae hB0;have hpw : p < w.heap.size := h.lt p (.inl rfl);have HH := ae h;refine (wpIn_wide (n := 3)).1 ?_;refine wpIn_rangeFunc_ownH rfl (by omega) (gf := 210) (lb := #[.pointer (some ⟨w.heap.size + 1 + 1 + 1, 0, none⟩)]) rfl trivial (enters_of func210 (by kernel_rfl) rfl)
  (wO Fence.wide 2 trivial rfl (by omega) (w.heap.size + 1 + 1 + 1) AL cL L hLl W0 (by omega) (one_cell hbox).1 h2.L_.rd) belowK_t (belowK_b aj) ak (fun _ => rfl)
  (fun pre W => NoK (k : Int) pre /\ Below W0.heap.size W0 W)
  (fun c pre W => (c = .ret /\ alw w.heap.size (k : Int) pre W) /\ Below w.heap.size w W)
  (OwnFrom.and (ownFrom_pure _ _) (ownFrom_below aj aj))
  (fun c => OwnFrom.and (Own.from (fun s A B row hs hg hr => by obtain ⟨hc, ini, last, e1, e2, e3, e4, e5⟩ := hs; exact ⟨hc, ini, last, e1, e2, e3, fun j v hj => cell_kept (e4 j v hj) hg hr, cell_kept e5 hg hr⟩) _) (ownFrom_below aj (by omega)))
  ⟨fun x hx => absurd hx (by simp), ak⟩
  (fun x a' W => ∃ Bx, W0.heap.size <= Bx /\ W.heap[Bx]? = some (.cells (fB x.2).toArray LwE.t) /\ a' = { tmps := #[.pointer (some ⟨p, 0, none⟩), .int .i64 (k : Int), undef, .pointer (some ⟨w.heap.size, 0, none⟩), .pointer (some ⟨w.heap.size + 1, 0, none⟩), .pointer (some ⟨w.heap.size + 1 + 1, 0, none⟩), .int .i64 0, undef, .pointer (some ⟨Bx, 0, none⟩), .pointer (some ⟨p, 0, none⟩), .int .i64 (k : Int), .int .i64 0, .int .i64 0, .bool false, undef, undef, .pointer (some ⟨p, 0, none⟩), .pointer (some ⟨p, 0, none⟩), .pointer (some ⟨p, 2, none⟩), .slice AL L.length cL, .func (.func 210) #[] #[.pointer (some ⟨w.heap.size + 1 + 1 + 1, 0, none⟩)], .int .i64 (x.1 : Int), .agg (fB x.2).toArray, undef, undef, undef, undef, undef, undef, undef, undef, undef, undef, undef, undef, undef], defers := [] })
  (fun x a' _ X Y row hs hg hr => by
   obtain ⟨Bx, e1, e2, e3⟩ := hs;exact ⟨Bx, e1, (hg.block Bx (aS e2) (fun e => by obtain ⟨_, o, ho, hc⟩ := hr Bx e.symm; rw [e2] at ho; cases ho; cases hc)).trans e2, e3⟩)
  ?assign ?body ?done ?stop
 case assign =>
  rintro l pre x W K ⟨hne, hb⟩ hK;simp only [afs, List.zip_toArray, List.zip_cons_cons, List.zip_nil_right, List.foldl_toArray, List.foldl_cons, List.foldl_nil, List.setIfInBounds_toArray, List.set_cons_succ, List.set_cons_zero];refine wpIn_region_lit ?_;refine ez rfl rfl rfl (nY rfl) ?_;refine mI rfl rfl rfl (qU (a := x.2) rfl rfl rfl) ?_;refine wpListIn_nil ?_;exact hK _ _ ((KeepsOthers.alloc _ _).from _) ((Below.refl _ W).alloc hb.size _) ⟨hne, hb.alloc hb.size _⟩ ⟨W.heap.size, hb.size, heap_alloc_new W _, rfl⟩
 case body =>
  rintro l pre x a' W hl _ ⟨hne, hb⟩ ⟨Bx, hBx, hbx, rfl⟩ hlt;obtain ⟨i, q1, qb⟩ := x;have hn : W.cell? ⟨w.heap.size, 0, none⟩ = some (.int .i64 (k : Int)) := (one_cell (aC HK0 hb)).1;have hk1 := aC HK1 hb;have hk2 := aC HK2 hb;obtain ⟨hx1, hx2⟩ := age hbx;have HX2 := ae hx2;have HT := ae (bQ hk1);have hO : Only (fun b => b = w.heap.size + 1) W (W.setCells (w.heap.size + 1) 0 (cel qb)) := (Only.refl (fun b => b = w.heap.size + 1) W).setCells (.inl rfl) _ _;have hk2' := hO.keep hk2 (by omega);obtain ⟨c2, f2⟩ := one_cell hk2';have HB := ae hb;have HNE := ae hne;have HK2' := ae hk2';clear hb hne hbx hx2 hk1 hk2 hO hk2';by_cases hq : q1 = (k : Int)
  ·subst hq
   gi_wp2_with (first | (refine ez rfl rfl rfl (ax rfl rfl aiv) ?_) | (refine ez rfl rfl rfl (ax rfl rfl ajN) ?_) | (refine ez rfl rfl rfl (aV rfl rfl HX2.out) ?_) | (refine mI rfl rfl rfl (aU rfl rfl rfl ?ht) ?_; (case ht => exact HT.out)) | fail)
   have hr1 : (W.setCells (w.heap.size + 1) 0 (cel qb)).rangeAt (w.heap.size + 1) 0 (cel qb) := World.rangeAt_setCells_same _ _ _ _ (by rw [aK]; exact HT);have hr2 := lq (b' := w.heap.size + 1 + 1) (i := 0) hr1 (by omega);have hbw := HB0.out.trans (HB.out.mono (by omega));have hb2 := below_setCells hbw (show w.heap.size <= w.heap.size + 1 by omega) (o := 0) (cel qb);exact ⟨((iP _ _ _ _).trans (KeepsOthers.setCell _ _ _)).from _, ⟨rfl, pre, (i, (k : Int), qb), rfl, HNE, rfl, hr2 _, World.cell?_setCell_same' _ _ _ (by rw [c2]; rfl)⟩, hb2.setCell (p := ⟨w.heap.size + 1 + 1, 0, none⟩) (by show _ <= w.heap.size + 1 + 1; omega) _⟩
  ·have hq' : (q1 == (k : Int)) = false := by simpa using hq
   gi_wp2_with (first | (refine ez rfl rfl rfl (ax rfl rfl aiv) ?_) | (refine ez rfl rfl rfl (ax rfl rfl ajN) ?_) | fail)
   exact ⟨KeepsFrom.refl _ _, ak, fun y hy => (List.mem_append.1 hy).elim (HNE.out y) (fun e => by simp at e; subst e; exact hq), by have := HB.out; rwa [hsz0] at this⟩
 case done =>
  rintro D ys W hD rfl ⟨hne, hb⟩ hK;have hrd : ge S L false (k : Int) = S.getD k aF := by
   rw [qk HE.out];refine xf fun q hq => ?_
   obtain ⟨j, hj, rfl⟩ := List.getElem_of_mem hq;have := hne _ (zN L L.length j (by omega) hj)
   simpa [List.getD, List.getElem?_eq_getElem hj] using this
  have h3 := HH2.out.below hb;obtain ⟨c0, c1, c2, c3⟩ := eM h3.at_;have hn : W.cell? ⟨w.heap.size, 0, none⟩ = some (.int .i64 (k : Int)) := (one_cell (aC HK0 hb)).1;obtain ⟨b, off, hbe, _, hr⟩ := h3.alive.rd.blk hk;injection hbe with hbe;injection hbe with hb1 hb2;subst hb1 hb2;rw [Nat.zero_add] at hr;have HRD0 := hrd;generalize S.getD k aF = x at *;have HRD := ae HRD0;clear HRD0;have hk1 := aC HK1 hb;have hk2 := aC HK2 hb;have HT := ae (bQ hk1);have hO : Only (fun b => b = w.heap.size + 1) W (W.setCells (w.heap.size + 1) 0 (cel x)) := (Only.refl (fun b => b = w.heap.size + 1) W).setCells (.inl rfl) _ _;have hk2' := hO.keep hk2 (by omega);have HK2W := ae hk2;have HA := ae c1;have HN := ae hn;have HR := ae hr;have HB := ae hb;have HKD := ae hK;clear hrd h3 c0 c1 c2 c3 hn hr hk1 hk2 hO hk2' hne hb hK;go_wp2_with fail;refine wp_region_still_tail 7 (by kernel_rfl) (by kernel_rfl) ?_;simp only [ac];refine aM rfl (aL rfl alW) ?_;simp only [aa];refine aM rfl (bj rfl alW) ?_;simp only [aa];refine aM rfl (ax rfl alW aj4) ?_;simp only [aa];refine aM rfl (aE rfl alW (ldB HA)) ?_;simp only [aa];refine aM rfl (aE rfl alW (ldI HN)) ?_;simp only [aa];refine aM rfl (aax rfl alW alW hk) ?_;simp only [aa];refine aM rfl (aV rfl alW HR) ?_;simp only [aa];refine wpStill_nil ?_;change wpList _ _ _ _ _ W.drew;have HTd : W.drew.there (w.heap.size + 1) 0 64 := HT.out;have HTd' := ae HTd;have hk2d : (W.drew.setCells (w.heap.size + 1) 0 (cel x)).heap[w.heap.size + 1 + 1]? = some (.cells #[.int .i64 0] 27) := (fu _ _ _ W.drew _ (by omega)).trans HK2W;obtain ⟨c2, f2⟩ := one_cell hk2d;have HKd := ((iP (w.heap.size + 1) (cel x) 0 W.drew).trans (KeepsOthers.setCell _ ⟨w.heap.size + 1 + 1, 0, none⟩ (.int .i64 0))).same D _ HKD rfl;have HKH := ae HKd;have hr1 : (W.drew.setCells (w.heap.size + 1) 0 (cel x)).rangeAt (w.heap.size + 1) 0 (cel x) := World.rangeAt_setCells_same _ _ _ _ (by rw [aK]; exact HTd);have HR2 := ae (lq (b' := w.heap.size + 1 + 1) (i := 0) hr1 (by omega) (.int .i64 0));have HE2 := ae (World.cell?_setCell_same' (W.drew.setCells (w.heap.size + 1) 0 (cel x)) ⟨w.heap.size + 1 + 1, 0, none⟩ (.int .i64 0) (by rw [c2]; rfl));have hbw := bd (HB0.out.trans (HB.out.mono (by omega)));have HB2 := ae ((below_setCells hbw (show w.heap.size <= w.heap.size + 1 by omega) (o := 0) (cel x)).setCell (p := ⟨w.heap.size + 1 + 1, 0, none⟩) (by show _ <= w.heap.size + 1 + 1; omega) (.int .i64 0));clear hk2d HKd hr1 hbw HTd;go_wp2_with (first | (refine bw rfl (aU rfl rfl rfl ?ht) ?_; (case ht => exact HTd'.out)) | fail);refine ⟨by simp, .inl ⟨_, _, rfl, run_takeDeferred HKH, ?_⟩⟩;refine ⟨.tuple #[blk x, .int .i64 0], o8 rfl _ _ _ _ rfl rfl (fun j v hj => cell_kept (HR2.out j v hj) (grownBy_putObj' _ D (.deferred none)) (fun r e => by cases e; exact ⟨_, HKH, rfl⟩)) (cell_kept HE2 (grownBy_putObj' _ D (.deferred none)) (fun r e => by cases e; exact ⟨_, HKH, rfl⟩)), by rw [HRD.out], HB2.out.trans (belowK_b (w := w) aj _ D _ _ (by omega) HKH rfl rfl)⟩
 case stop =>
  rintro D c pre W hD ⟨d, hd, rfl⟩ ⟨⟨rfl, ini, last, e1, e2, e3, e4, e5⟩, hb⟩ hK;have hrd : ge S L false (k : Int) = last.2.2 := by
   rw [qk HE.out];cases d with
   |zero => simp [cmd] at e1
   |succ d =>
    rw [cmd] at e1;obtain ⟨e6, e7⟩ := List.append_inj' e1 rfl;subst e6;have e8 : (L.length - 1 - d, L.getD (L.length - 1 - d) (0, aF)) = last := by simpa using e7
    subst e8;refine acP (i := L.length - 1 - d) (by omega) e3 fun j h1 h2 => ?_
    exact e2 _ (zN L d j (by omega) h2)
  gi_wp2
  refine ⟨by simp, .inl ⟨_, _, rfl, run_takeDeferred hK, ?_⟩⟩;refine ⟨.tuple #[blk last.2.2, .int .i64 0], o8 rfl _ _ _ _ rfl rfl (fun j v hj => cell_kept (e4 j v hj) (grownBy_putObj' _ D (.deferred none)) (fun r e => by cases e; exact ⟨_, hK, rfl⟩)) (cell_kept e5 (grownBy_putObj' _ D (.deferred none)) (fun r e => by cases e; exact ⟨_, hK, rfl⟩)), by rw [hrd], hb.trans (belowK_b (w := w) aj W D _ _ (by omega) hK rfl rfl)⟩
theorem aiM (p : Nat) (vS vL : Value) (S : List Blk) (L : List (Int × Blk)) (g : Bool) (n : Int) (w : World) (h : PD w p vS vL S L g) (hLl : L.length <= 1000000) :
  Calls prog 189 #[.pointer (some ⟨p, 0, none⟩), .int .i64 n] w fun e w' => e = .returned (.tuple #[blk (ge S L g n), .int .i64 (dw S g n)]) /\ Below w.heap.size w w' := by
 by_cases he : dw S g n = 0
 ·rcases fp (S := S) (g := g) (n := n) with h1 | h1 | ⟨_, rfl, k, rfl, hk⟩
  ·omega
  ·omega
  ·rw [he];exact aaR p k vS vL S L w h hk hLl
 ·exact aaM p vS vL S L g n w h he
def Pv (w : World) (F : Nat -> Prop) (p : Nat) (S : List Blk) (L : List (Int × Blk)) (g : Bool) : Prop := ∃ vS vL, F = foot p vS vL /\ PD w p vS vL S L g /\ Fit S L /\ S.length <= 512 /\ L.length <= 1000000
section
variable {w w' : World} {F G : Nat -> Prop} {p : Nat} {S : List Blk} {L : List (Int × Blk)} {g : Bool}
theorem Pv.lt (h : Pv w F p S L g) : ∀ b, F b -> b < w.heap.size := by
 obtain ⟨vS, vL, rfl, h, _⟩ := h;exact h.lt
theorem Pv.only (h : Pv w F p S L g) (k : Only G w w') (hn : ∀ b, F b -> ¬ G b) : Pv w' F p S L g := by
 obtain ⟨vS, vL, rfl, h, hF⟩ := h;exact ⟨vS, vL, rfl, h.only k hn, hF⟩
theorem i2 (h : w = w') : Below w.heap.size w w' := by subst h; exact ak
end
def ajB : Dev where
 Dv := Pv
 lt := Pv.lt
 only := Pv.only
 fit := fun ⟨_, _, _, h, hF, _⟩ => ⟨hF, h.one⟩
 cap := fun ⟨_, _, _, _, _, hS, _⟩ => hS
 new_ok := fun k w h1 h2 => by
  refine (adY k w h1 h2).mono ?_;rintro e w' ⟨p, vS, he, hr, hb, hf⟩;exact ⟨p, _, he, ⟨vS, _, rfl, hr, Fit.nil _, by rw [List.length_replicate]; exact h2, Nat.zero_le _⟩, hb, hf⟩
 new_no := fun n w h => (aeb n w h).mono fun e w' ⟨h1, h2⟩ => ⟨h1, i2 h2⟩
 read := fun n ⟨vS, vL, _, h, _, _, hL⟩ => aiM _ vS vL _ _ _ n _ h hL
 sure := fun n ⟨vS, vL, _, h, _⟩ => aim _ vS vL _ _ _ n _ h
 write := fun {w F p S L g} n b hL ⟨vS, vL, e0, h, hF, hS, _⟩ => by
  subst e0;refine (afe p vS vL S L g n b w h hL).mono ?_;rintro e w' ⟨he, vL', h1, h2, h3⟩;refine ⟨he, _, ⟨vS, vL', rfl, h1, hF.wr g n b, hS, ?_⟩, h2, fun k hk => ?_⟩
  ·unfold wrL
   split
   ·rw [List.length_append]; simp; omega
   ·omega
  ·rcases hk with e | e | e
   ·exact .inl (.inl e)
   ·exact .inl (.inr (.inl e))
   ·rcases h3 k e with e | e
    ·exact .inl (.inr (.inr e))
    ·exact .inr e
 flush := fun {w F p S L g} ⟨vS, vL, e0, h, hF, hS, hL⟩ => by
  subst e0;cases g
  ·refine (xe p vS vL S L w h hF).mono ?_;rintro e w' ⟨he, h1, h2⟩;refine ⟨he, _, ⟨vS, _, rfl, h1, Fit.nil _, by rw [if_neg (by simp), mV]; exact hS, Nat.zero_le _⟩, h2, fun k hk => ?_⟩;rcases hk with e | e | e
   ·exact .inl (.inl e)
   ·exact .inl (.inr (.inl e))
   ·simp [Value.ownBlock] at e
  ·refine (td p vS vL S L w h).mono ?_;rintro e w' ⟨he, rfl⟩;exact ⟨he, _, ⟨vS, vL, rfl, h, hF, hS, hL⟩, Only.refl _ _, Grow.same _ _⟩
 fail := fun {w F p S L g} ⟨vS, vL, e0, h, hF, hS, hL⟩ => by
  subst e0;refine (aiI p vS vL S L g w h).mono ?_;rintro e w' ⟨he, h1, h2⟩;refine ⟨he, _, ⟨_, _, rfl, h1, Fit.nil _, hS, Nat.zero_le _⟩, h2, fun k hk => ?_⟩;rcases hk with e | e | e
  ·exact .inl (.inl e)
  ·simp [Value.ownBlock] at e
  ·simp [Value.ownBlock] at e
 dead := fun ⟨vS, vL, _, h, _⟩ => (ajf _ vS vL _ _ _ _ h).mono fun e w' ⟨h1, h2⟩ => ⟨h1, i2 h2⟩
 gd := fun ⟨vS, vL, _, h, _⟩ => (abL _ vS vL _ _ _ _ h).mono fun e w' ⟨h1, h2⟩ => ⟨h1, i2 h2⟩
def akr : Array Value := #[.int .i64 0, .slice none 0 0, .slice none 0 0, .bool false]
def NoP (w : World) (v : Value) : Prop := v = .pointer none \/ ∃ p, v = .pointer (some ⟨p, 0, none⟩) /\ w.heap[p]? = some (.cells akr 159)
theorem aik {w : World} {v : Value} (h : NoP w v) : Calls prog 109 #[v] w fun e w' => e = .returned (.bool false) /\ w = w' := by
 rcases h with rfl | ⟨p, rfl, h⟩
 ·go_enter func109, ntmps109;go_wp2;go_ret;exact ⟨rfl, rfl⟩
 ·obtain ⟨c0, c1, c2, c3⟩ := eM h;go_enter func109, ntmps109;go_wp2;go_ret;exact ⟨rfl, rfl⟩
theorem abz {w : World} {v : Value} (h : NoP w v) : Calls prog 180 #[v] w fun e w' => e = .returned (.int .i64 0) /\ Below w.heap.size w w' := by
 go_enter func180, ntmps180;go_wp2_with fail;refine (aik h).mono ?_;rintro e w1 ⟨rfl, rfl⟩;go_wp2_with fail;go_ret;exact ⟨rfl, ak⟩
def Dev.K (D : Dev) : DvK := ⟨D.Dv, D.lt, D.only⟩
def cI (D : Dev) : ij where
 K := D.K
 s := 124
 t := 103
 und := underlying124
 info := by kernel_rfl
 o := 126
 cs := fun v left dark steps => #[v, .int .i64 steps, .int .i64 left, .bool dark]
 ne := by decide
section
variable {D : Dev} {w w' : World} {p : Nat} {v : Value} {Fs : Nat -> Nat -> Prop} {ps : List Nat} {M : aZ}
theorem bU.nH (h : bU (cI D) w p v Fs ps M) : w.cell? ⟨p, 0, none⟩ = some v /\ w.cell? ⟨p, 1, none⟩ = some (.int .i64 M.steps) /\ w.cell? ⟨p, 2, none⟩ = some (.int .i64 M.left) /\ w.cell? ⟨p, 3, none⟩ = some (.bool M.dark) := eM h.at_
theorem rC (h : bU (cI D) w p v Fs ps M) :
  Calls prog 75 #[.pointer (some ⟨p, 0, none⟩)] w fun e w' => e = .returned (.int .i64 (M.ds.length : Int)) /\ w = w' := by
 obtain ⟨g, c, rfl, _, _⟩ := h.slice;obtain ⟨c0, c1, c2, c3⟩ := h.nH;go_enter func75, ntmps75;go_wp2;go_ret;exact ⟨rfl, rfl⟩
theorem aco (h : bU (cI D) w p v Fs ps M) :
  Calls prog 108 #[.pointer (some ⟨p, 0, none⟩)] w fun e w' => e = .returned (.bool true) /\ w = w' := by
 have h1 : 0 < M.ds.length := h.one;go_enter func108, ntmps108;go_wp2_with fail;refine (rC h).mono ?_;rintro e w1 ⟨rfl, rfl⟩;go_wp2_with fail;go_ret;exact ⟨rfl, rfl⟩
theorem adO (h : bU (cI D) w p v Fs ps M) :
  Calls prog 184 #[.pointer (some ⟨p, 0, none⟩)] w fun e w' => e = .returned (.bool M.dark) /\ w = w' := by
 obtain ⟨c0, c1, c2, c3⟩ := h.nH;go_enter func184, ntmps184;go_wp2;go_ret;exact ⟨rfl, rfl⟩
theorem kK (h : bU (cI D) w p v Fs ps M) {d : Int} (hd : ¬(0 <= d /\ d < M.ds.length)) :
  Calls prog 53 #[.pointer (some ⟨p, 0, none⟩), .int .i64 d] w fun e w' => e = .returned (.tuple #[.pointer none, .int .i64 2]) /\ w = w' := by
 have hm := ae (aco h);obtain ⟨g, c, rfl, _, _⟩ := h.slice;obtain ⟨c0, c1, c2, c3⟩ := h.nH;clear h;by_cases h0 : d < 0
 ·clear hd;go_enter func53, ntmps53;go_wp2_with fail;refine hm.out.mono ?_;rintro e w1 ⟨rfl, rfl⟩;go_wp2_with fail;go_ret2;exact ⟨rfl, rfl⟩
 ·have h1 : ¬(d < (M.ds.length : Int)) := by omega
  clear hd;go_enter func53, ntmps53;go_wp2_with fail;refine hm.out.mono ?_;rintro e w1 ⟨rfl, rfl⟩;go_wp2_with fail;go_ret2;exact ⟨rfl, rfl⟩
theorem lg (h : bU (cI D) w p v Fs ps M) {k : Nat} (hk : k < M.ds.length) :
  Calls prog 53 #[.pointer (some ⟨p, 0, none⟩), .int .i64 k] w fun e w' => e = .returned (.tuple #[.pointer (some ⟨ps.getD k 0, 0, none⟩), .int .i64 0]) /\ w = w' := by
 have hm := ae (aco h);obtain ⟨g, c, rfl, _, _⟩ := h.slice;obtain ⟨c0, c1, c2, c3⟩ := h.nH;have hc := h.cell hk;generalize ps.getD k 0 = q at *;clear h;go_enter func53, ntmps53;go_wp2_with fail;refine hm.out.mono ?_;rintro e w1 ⟨rfl, rfl⟩;go_wp2_with fail;go_ret2;exact ⟨rfl, rfl⟩
theorem pR (h : bU (cI D) w p v Fs ps M) {d : Int} (hd : eO M d ≠ 0) :
  Calls prog 141 #[.pointer (some ⟨p, 0, none⟩), .int .i64 d] w fun e w' => e = .returned (.tuple #[.pointer none, .int .i64 (eO M d)]) /\ w = w' := by
 have hm := ae (adO h);rcases dO M d with ⟨e, hdk⟩ | ⟨e, hdk, ho⟩ | ⟨e, _⟩
 ·rw [e];have HD := ae hdk;clear e hdk hd h;go_enter func141, ntmps141;go_wp2_with fail;refine hm.out.mono ?_;rintro e w1 ⟨rfl, rfl⟩;rw [HD.out];go_wp2_with fail;go_ret2;exact ⟨rfl, rfl⟩
 ·rw [e];have HD := ae hdk;have HO := ae (kK h ho);clear e hdk hd h ho;go_enter func141, ntmps141;go_wp2_with fail;refine hm.out.mono ?_;rintro e w1 ⟨rfl, rfl⟩;rw [HD.out];go_wp2_with fail;refine HO.out.mono ?_;rintro e w1 ⟨rfl, rfl⟩;go_wp2_with fail;go_ret2;exact ⟨rfl, rfl⟩
 ·exact absurd e hd
theorem kQ (h : bU (cI D) w p v Fs ps M) {k : Nat} (hdk : M.dark = false) (hk : k < M.ds.length) :
  Calls prog 141 #[.pointer (some ⟨p, 0, none⟩), .int .i64 k] w fun e w' => e = .returned (.tuple #[.pointer (some ⟨ps.getD k 0, 0, none⟩), .int .i64 0]) /\ w = w' := by
 have hm := ae (adO h);have HD := ae hdk;have HO := ae (lg h hk);clear hdk h;generalize ps.getD k 0 = q at *;go_enter func141, ntmps141;go_wp2_with fail;refine hm.out.mono ?_;rintro e w1 ⟨rfl, rfl⟩;rw [HD.out];go_wp2_with fail;refine HO.out.mono ?_;rintro e w1 ⟨rfl, rfl⟩;go_wp2_with fail;go_ret2;exact ⟨rfl, rfl⟩
end
section
variable {D : Dev} {w w' : World} {p : Nat} {v : Value} {Fs : Nat -> Nat -> Prop} {ps : List Nat} {M : aZ}
theorem abn (d : Int) (h : bU (cI D) w p v Fs ps M) :
  Calls prog 129 #[.pointer (some ⟨p, 0, none⟩), .int .i64 d] w fun e w' => e = .returned (.int .i64 (iV M d)) /\ Below w.heap.size w w' := by
 rcases lH M d with ⟨e, ho⟩ | ⟨e, k, rfl, hk⟩
 ·have HS : Hid (iV M d = 0) := ae (by unfold iV; rw [if_neg (by omega)]);have HO := ae (kK h ho);clear e h ho;go_enter func129, ntmps129;go_wp2_with fail;refine HO.out.mono ?_;rintro e w1 ⟨rfl, rfl⟩;go_wp2_with fail;refine (abz (.inl rfl)).mono ?_;rintro e w2 ⟨rfl, hb⟩;go_wp2_with fail;go_ret;exact ⟨cp HS.out.symm, hb⟩
 ·obtain ⟨x, hx⟩ : ∃ x, M.ds.getD k cZ = x := ⟨_, rfl⟩;have hat := h.devs.at_ k hk;rw [hx] at hat
  have HS : Hid (iV M (k : Int) = (x.S.length : Int)) := ae (by unfold iV; rw [if_pos e, M.km, hx]);have HO := ae (lg h hk);have HD := ae (D.gd hat);clear e h hat hx;generalize ps.getD k 0 = q at *;go_enter func129, ntmps129;go_wp2_with fail;refine HO.out.mono ?_;rintro e w1 ⟨rfl, rfl⟩;go_wp2_with fail;refine HD.out.mono ?_;rintro e w2 ⟨rfl, hb⟩;go_wp2_with fail;go_ret;exact ⟨cp HS.out.symm, hb⟩
theorem ain (d : Int) (h : bU (cI D) w p v Fs ps M) :
  Calls prog 14 #[.pointer (some ⟨p, 0, none⟩), .int .i64 d] w fun e w' => e = .returned (.int .i64 (oq M d)) /\ Left (cI D) w p v Fs ps M.ds.length (ki M d) w' := by
 rcases lH M d with ⟨e, ho⟩ | ⟨e, k, rfl, hk⟩
 ·have HL := ae (Left.same h (M' := ki M d) (by unfold ki; rw [if_neg (by omega)]));have HO := ae (kK h ho);have HE := ae e;clear e h ho;go_enter func14, ntmps14;go_wp2_with fail;refine HO.out.mono ?_;rintro e w1 ⟨rfl, rfl⟩;go_wp2_with fail;go_ret;exact ⟨cp HE.out.symm, HL⟩
 ·obtain ⟨x, hx⟩ : ∃ x, M.ds.getD k cZ = x := ⟨_, rfl⟩;have hat := h.devs.at_ k hk;rw [hx] at hat
  have HS : Hid (ki M (k : Int) = M.put k ⟨x.S, [], true⟩) := ae (by unfold ki; rw [if_pos e, <- hx]; rfl);have HO := ae (lg h hk);have HD := ae (D.fail hat);have HE := ae e;have HH := ae h;clear e h hat hx;go_enter func14, ntmps14;go_wp2_with fail;refine HO.out.mono ?_;rintro e w1 ⟨rfl, rfl⟩;go_wp2_with fail;refine HD.out.mono ?_;rintro e w2 ⟨rfl, F', h1, h2, h3⟩;go_wp2_with fail;go_ret;exact ⟨cp HE.out.symm, Left.turn HH hk h2 h3 (d := ⟨x.S, [], true⟩) h1 HS⟩
theorem o6 (f : Value) (h : bU (cI D) w p v Fs ps M) (hl : M.left = 1) :
  Calls prog 143 #[.pointer (some ⟨p, 0, none⟩), f] w fun e w' => e = .returned (.int .i64 8) /\ bU (cI D) w' p v Fs ps M.night /\ Only (fun b => b = p) w w' := by
 obtain ⟨c0, c1, c2, c3⟩ := h.nH;have f3 := frozen_of_row w p 3 _ _ h.at_;rw [hl] at c2;have HH := ae h;have HL := ae hl;clear h hl;go_enter func143, ntmps143;go_wp2_with fail;go_ret;have ho := eE w p 3 (.bool true);refine ⟨rfl, HH.out.obj _ _ _ ho ?_, ho⟩;have := heap_setCell_same w p 3 _ _ (.bool true) HH.out.at_
 simpa [cI] using this
theorem adD (h : bU (cI D) w p v Fs ps M) (h2 : 1 < M.left) : bU (cI D) ((w.setCell ⟨p, 2, none⟩ (.int .i64 ((M.left : Int) - 1))).setCell ⟨p, 1, none⟩ (.int .i64 ((M.steps : Int) + 1))) p v Fs ps M.done /\ Only (fun b => b = p) w ((w.setCell ⟨p, 2, none⟩ (.int .i64 ((M.left : Int) - 1))).setCell ⟨p, 1, none⟩ (.int .i64 ((M.steps : Int) + 1))) := by
 have ho := (eE w p 2 (.int .i64 ((M.left : Int) - 1))).setCell (p := ⟨p, 1, none⟩) (.inl rfl) (.int .i64 ((M.steps : Int) + 1));refine ⟨h.obj _ _ _ ho ?_, ho⟩;have h3 := heap_setCell_same _ p 1 _ _ (.int .i64 ((M.steps : Int) + 1)) (heap_setCell_same w p 2 _ _ (.int .i64 ((M.left : Int) - 1)) h.at_);have e : ((M.left - 1 : Nat) : Int) = (M.left : Int) - 1 := by omega
 simpa [cI, e] using h3
theorem abw (h : bU (cI D) w p v Fs ps M) (h2 : M.left = 0) : bU (cI D) (w.setCell ⟨p, 1, none⟩ (.int .i64 ((M.steps : Int) + 1))) p v Fs ps M.done /\ Only (fun b => b = p) w (w.setCell ⟨p, 1, none⟩ (.int .i64 ((M.steps : Int) + 1))) := by
 have ho := eE w p 1 (.int .i64 ((M.steps : Int) + 1));refine ⟨h.obj _ _ _ ho ?_, ho⟩;have h3 := heap_setCell_same w p 1 _ _ (.int .i64 ((M.steps : Int) + 1)) h.at_
 simpa [cI, h2] using h3
theorem ry (fid : FuncId) (bs cs : Array Value) (h : bU (cI D) w p v Fs ps M) (hl : M.left ≠ 1) (hs : M.steps < 1000000) (hll : M.left < 9223372036854775808) (hf : ∀ (args : Array Value) (w : World), (callFunc fid args).run prog w = .ok (.enter fid args) w) (Q : Int -> World -> Prop)
  (hdo : ∀ w1, bU (cI D) w1 p v Fs ps M.done -> Only (fun b => b = p) w w1 -> Calls prog fid (bs ++ cs) w1 fun e w2 => ∃ x, e = .returned (.int .i64 x) /\ Q x w2) :
  Calls prog 143 #[.pointer (some ⟨p, 0, none⟩), .func (.func fid) bs cs] w fun e w2 => ∃ x, e = .returned (.int .i64 x) /\ Q x w2 := by
 obtain ⟨c0, c1, c2, c3⟩ := h.nH;have f2 := frozen_of_row w p 2 _ _ h.at_;have f1 := frozen_of_row w p 1 _ _ h.at_;have HH := ae h;clear h;have hl1 : ((M.left : Int) == 1) = false := by simpa using (by omega : ¬ (M.left : Int) = 1)
 by_cases h2 : 1 < M.left
 ·have HT := ae (adD HH h2);go_enter func143, ntmps143;go_wp2_with fail;refine (hdo _ HT.out.1 HT.out.2).mono ?_;rintro e w3 ⟨x, rfl, hq⟩;go_wp2_with fail;go_ret;exact ⟨x, rfl, hq⟩
 ·have hl0 : M.left = 0 := by omega
  have HT := ae (abw HH hl0);rw [hl0] at c2;clear hl1 hl hll h2 hl0;go_enter func143, ntmps143;go_wp2_with fail;refine (hdo _ HT.out.1 HT.out.2).mono ?_;rintro e w3 ⟨x, rfl, hq⟩;go_wp2_with fail;go_ret;exact ⟨x, rfl, hq⟩
end
section
variable {D : Dev} {w w' : World} {p : Nat} {v : Value} {Fs : Nat -> Nat -> Prop} {ps : List Nat} {M : aZ}
theorem ajv (d n : Int) (h : bU (cI D) w p v Fs ps M) :
  Calls prog 164 #[.pointer (some ⟨p, 0, none⟩), .int .i64 d, .int .i64 n] w fun e w' => e = .returned (.tuple #[blk (fo M d n), .int .i64 (cJ M d n)]) /\ Below w.heap.size w w' := by
 have hA := (Below.refl w.heap.size w).alloc aj (.cells (cel aF).toArray 45);have h1 := h.below hA;have HT := ae (eu w aF 45);have HA := ae hA;by_cases hl : eO M d = 0
 ·rcases dO M d with ⟨e, _⟩ | ⟨e, _⟩ | ⟨e, hdk, k, rfl, hk⟩
  ·omega
  ·omega
  obtain ⟨x, hx⟩ : ∃ x, M.ds.getD k cZ = x := ⟨_, rfl⟩;have hat := h1.devs.at_ k hk;rw [hx] at hat
  have HB : Hid (fo M (k : Int) n = ge x.S x.L x.g n) := ae (by unfold fo; rw [if_pos e, <- hx]; rfl);have HE : Hid (cJ M (k : Int) n = dw x.S x.g n) := ae (by unfold cJ; rw [if_pos e, <- hx]; rfl);have HO := ae (kQ h1 hdk hk);have HD := ae (D.read n hat);have HSZ := ae (World.size_alloc w (.cells (cel aF).toArray 45));clear e h h1 hat hx hdk hA hl;rw [HB.out, HE.out];clear HB HE;generalize ge x.S x.L x.g n = y at *;generalize dw x.S x.g n = z at *;generalize ps.getD k 0 = q at *;go_enter func164, ntmps164;go_wp2_with (first | (refine az rfl (aX rfl) ?_) | fail);refine HO.out.mono ?_;rintro e w1 ⟨rfl, rfl⟩;go_wp2_with fail;refine HD.out.mono ?_;rintro e w2 ⟨rfl, hb⟩;have HT2 := ae (cg HT (by rw [HSZ.out]; omega) hb);have HB2 := ae (HA.out.trans (hb.mono (by rw [HSZ.out]; omega)));clear hb;go_wp2_with (first | (refine bw rfl (aU rfl rfl rfl HT2.out) ?_) | fail);exact bodyPost_ret (cj rfl _ _ _ rfl (World.rangeAt_setCells_same _ _ _ _ (by rw [aK]; exact HT2))) rfl ⟨rfl, below_setCells HB2 aj _⟩
 ·have HB : Hid (fo M d n = aF) := ae (by unfold fo; rw [if_neg hl]);have HE : Hid (cJ M d n = eO M d) := ae (by unfold cJ; rw [if_neg hl]);have HO := ae (pR h1 hl);clear h h1 hA;rw [HB.out, HE.out];rcases dO M d with ⟨e, _⟩ | ⟨e, _⟩ | ⟨e, _⟩
  rotate_right 1
  ·exact absurd e hl
  all_goals
   rw [e] at HO ⊢;clear e hl;go_enter func164, ntmps164;go_wp2_with (first | (refine az rfl (aX rfl) ?_) | fail);refine HO.out.mono ?_;rintro e w1 ⟨rfl, rfl⟩;go_wp2_with (first | (refine az rfl (cQ (c := aF) (parts := []) rfl rfl) ?_) | (refine bw rfl (aU rfl rfl rfl HT.out) ?_));exact bodyPost_ret (cj rfl _ _ _ rfl (World.rangeAt_setCells_same _ _ _ _ (by rw [aK]; exact HT))) rfl ⟨rfl, below_setCells HA aj _⟩
theorem xc (d : Int) (h : bU (cI D) w p v Fs ps M) (hl : gO M d ≠ 0) :
  Calls prog 213 #[.pointer (some ⟨p, 0, none⟩), .int .i64 d] w fun e w' => e = .returned (.int .i64 (ib M d)) /\ Left (cI D) w p v Fs ps M.ds.length (gh M d) w' := by
 have HE : Hid (ib M d = gO M d) := ae (by unfold ib; rw [if_neg hl]);have HL : Hid (∀ w', Below w.heap.size w w' -> Left (cI D) w p v Fs ps M.ds.length (gh M d) w') := ae (fun w' hb => by
  have e : gh M d = M := by unfold gh; rw [if_neg hl]
  rw [e];exact ⟨Fs, ps, h.below hb, Only.of_below _ hb, Grow.same _ _⟩)
 by_cases h0 : eO M d = 0
 ·rcases dO M d with ⟨e, _⟩ | ⟨e, _⟩ | ⟨e, hdk, k, rfl, hk⟩
  ·omega
  ·omega
  obtain ⟨x, hx⟩ : ∃ x, M.ds.getD k cZ = x := ⟨_, rfl⟩;have hat := h.devs.at_ k hk;rw [hx] at hat
  have hg : x.g = true := by
   cases hg : x.g
   ·exfalso; apply hl; unfold gO; rw [if_pos e, show M.dev (k : Int) = x from hx, hg, if_neg (by decide)]
   ·rfl
  have H9 : Hid (gO M (k : Int) = 9) := ae (by unfold gO; rw [if_pos e, show M.dev (k : Int) = x from hx, hg, if_pos rfl]);have HO := ae (kQ h hdk hk);have HD := ae (D.dead hat);have HG := ae hg;clear e h hat hx hdk hl h0 hg;generalize ps.getD k 0 = q at *;go_enter func213, ntmps213;go_wp2_with fail;refine HO.out.mono ?_;rintro e w1 ⟨rfl, rfl⟩;go_wp2_with fail;refine HD.out.mono ?_;rintro e w2 ⟨rfl, hb⟩;rw [HG.out];have HBB := ae hb;clear hb;go_wp2_with fail;go_ret;exact ⟨cp (by rw [HE.out, H9.out]), HL.out _ HBB⟩
 ·have HA : Hid (gO M d = eO M d) := ae (by unfold gO; rw [if_neg h0]);have HO := ae (pR h h0);clear h hl;rw [HE.out, HA.out];rcases dO M d with ⟨e, _⟩ | ⟨e, _⟩ | ⟨e, _⟩
  rotate_right 1
  ·exact absurd e h0
  all_goals
   rw [e] at HO ⊢;clear e h0;go_enter func213, ntmps213;go_wp2_with fail;refine HO.out.mono ?_;rintro e w1 ⟨rfl, rfl⟩;go_wp2_with fail;go_ret;exact ⟨rfl, HL.out _ ak⟩
theorem ag6 (d : Int) (h : bU (cI D) w p v Fs ps M) (hs : M.steps < 1000000) (hll : M.left < 9223372036854775808) :
  Calls prog 213 #[.pointer (some ⟨p, 0, none⟩), .int .i64 d] w fun e w' => e = .returned (.int .i64 (ib M d)) /\ Left (cI D) w p v Fs ps M.ds.length (gh M d) w' := by
 by_cases hl : gO M d = 0;rotate_left 1
 ·exact xc d h hl
 have hlit : eO M d = 0 := by
  unfold gO at hl;by_cases h0 : eO M d = 0
  ·exact h0
  ·rw [if_neg h0] at hl; exact hl
 rcases dO M d with ⟨e, _⟩ | ⟨e, _⟩ | ⟨e, hdk, k, rfl, hk⟩
 ·omega
 ·omega
 obtain ⟨x, hx⟩ : ∃ x, M.ds.getD k cZ = x := ⟨_, rfl⟩;have hat := h.devs.at_ k hk;rw [hx] at hat
 have hg : x.g = false := by
  cases hg : x.g
  ·rfl
  ·exfalso; unfold gO at hl; rw [if_pos e, show M.dev (k : Int) = x from hx, hg, if_pos rfl] at hl; omega
 have HEE : Hid (ib M (k : Int) = M.dX) := ae (by unfold ib; rw [if_pos hl]);have HO := ae (kQ h hdk hk);have HD := ae (D.dead hat);have HG := ae hg;obtain ⟨q, hq⟩ : ∃ q, ps.getD k 0 = q := ⟨_, rfl⟩;rw [hq] at HO HD;by_cases h1 : M.left = 1
 ·have HE : Hid (M.dX = 8) := ae (by unfold aZ.dX; rw [if_pos h1]);have HS : Hid (gh M (k : Int) = M.night) := ae (by unfold gh; rw [if_pos hl, if_pos h1]);have HH := ae h;have H1 := ae h1;clear e h hat hx hdk hl hg h1 hlit hs hll hq;go_enter func213, ntmps213;go_wp2_with fail;refine HO.out.mono ?_;rintro e w1 ⟨rfl, rfl⟩;go_wp2_with fail;refine HD.out.mono ?_;rintro e w2 ⟨rfl, hb⟩;rw [HG.out];have HBB := ae hb;clear hb;go_wp2_with fail;refine (o6 _ (HH.out.below HBB) H1).mono ?_;rintro e w3 ⟨rfl, h3, ho3⟩;go_wp2_with fail;go_ret;refine ⟨cp (by rw [HEE.out, HE.out]), ?_⟩;rw [HS.out];exact ⟨Fs, ps, h3, (Only.of_below _ HBB).trans (nC _ ho3) fun b hb => .inl hb, Grow.same _ _⟩
 ·have HE : Hid (M.dX = 0) := ae (by unfold aZ.dX; rw [if_neg h1]);have HS : Hid (gh M (k : Int) = M.done.put k ⟨flS x.S x.L, [], x.g⟩) := ae (by unfold gh; rw [if_pos hl, if_neg h1, show M.dev (k : Int) = x from hx]; rfl);have HH := ae h;have H1 := ae h1;have HX := ae hx;have HSS := ae hs;have HLL := ae hll;have HQ := ae hq;clear e h hat hx hdk hl hg h1 hlit hs hll hq;go_enter func213, ntmps213;go_wp2_with fail;refine HO.out.mono ?_;rintro e w1 ⟨rfl, rfl⟩;go_wp2_with fail;refine HD.out.mono ?_;rintro e w2 ⟨rfl, hb⟩;rw [HG.out];have HBB := ae hb;clear hb;go_wp2_with fail;refine (ry 226 #[.pointer (some ⟨q, 0, none⟩)] #[] (HH.out.below HBB) H1 HSS HLL call226 (fun z w3 => z = 0 /\ Left (cI D) w2 p v Fs ps M.ds.length (gh M (k : Int)) w3) ?_).mono ?_
  ·intro w3 h3 ho3;have hat3 := h3.devs.at_ k hk;rw [show M.done.ds.getD k cZ = x from HX.out, HG.out, HQ.out] at hat3;refine (D.flush hat3).mono ?_;rintro e w4 ⟨he, F', g1, g2, g3⟩;refine ⟨0, by simpa using he, rfl, Left.behind ho3 (Left.turn h3 hk g2 g3 (d := ⟨flS x.S x.L, [], x.g⟩) (show D.Dv _ _ _ _ _ _ by rw [HG.out, HQ.out]; simpa using g1) HS)⟩
  ·rintro e w4 ⟨z, rfl, rfl, Fs', ps', h4, ho4, hg4⟩;go_wp2_with fail;go_ret;refine ⟨cp (by rw [HEE.out, HE.out]), Fs', ps', h4, (Only.of_below _ HBB).trans ho4 fun b hb => .inl hb, fun b hb => ?_⟩;rcases hg4 b hb with e | e
   ·exact .inl e
   ·exact .inr (ar HBB.out.size e)
end
section
variable {D : Dev} {w w' : World} {p : Nat} {v : Value} {Fs : Nat -> Nat -> Prop} {ps : List Nat} {M : aZ}
def wr3 (w : World) (n : Int) (b : Blk) (q : Option Addr) : World := ((w.alloc (.cells #[.int .i64 n] 3)).alloc (.cells (cel b).toArray 45)).alloc (.cells #[.pointer q] 103)
theorem nI (w : World) (n : Int) (b : Blk) (q : Option Addr) : Below w.heap.size w (wr3 w n b q) /\ (wr3 w n b q).heap[w.heap.size]? = some (.cells #[.int .i64 n] 3) /\ (wr3 w n b q).heap[w.heap.size + 1]? = some (.cells (cel b).toArray 45) /\ (wr3 w n b q).heap[w.heap.size + 1 + 1]? = some (.cells #[.pointer q] 103) /\ (wr3 w n b q).heap.size = w.heap.size + 1 + 1 + 1 := by
 unfold wr3;have e1 := World.size_alloc (w := w) (o := .cells #[.int .i64 n] 3);have e2 := World.size_alloc (w := w.alloc (.cells #[.int .i64 n] 3)) (o := .cells (cel b).toArray 45);have e3 := World.size_alloc (w := (w.alloc (.cells #[.int .i64 n] 3)).alloc (.cells (cel b).toArray 45)) (o := .cells #[.pointer q] 103);have n1 := kB w #[.int .i64 n] 3;have n2 := kB (w.alloc (.cells #[.int .i64 n] 3)) (cel b).toArray 45;have n3 := kB ((w.alloc (.cells #[.int .i64 n] 3)).alloc (.cells (cel b).toArray 45)) #[.pointer q] 103;rw [e2, e1] at n3;rw [e1] at n2;refine ⟨(((Below.refl _ w).alloc aj _).alloc (by omega) _).alloc (by omega) _, bJ (bJ n1 _) _, bJ n2 _, n3, by omega⟩
theorem ak2 {q a b c : Nat} {n : Int} {x : Blk} {F : Nat -> Prop} {S : List Blk} {L : List (Int × Blk)} {g : Bool} (h : D.Dv w F q S L g) (hL : L.length < 1000000) (hq : w.heap[a]? = some (.cells #[.pointer (some ⟨q, 0, none⟩)] 103)) (hn : w.heap[b]? = some (.cells #[.int .i64 n] 3)) (hx : w.heap[c]? = some (.cells (cel x).toArray 45)) :
  Calls prog 144 #[.pointer (some ⟨a, 0, none⟩), .pointer (some ⟨b, 0, none⟩), .pointer (some ⟨c, 0, none⟩)] w fun e w' => e = .returned (.int .i64 (dw S g n)) /\ ∃ F', D.Dv w' F' q S (wrL S L g n x) g /\ Only F w w' /\ Grow w F F' := by
 obtain ⟨c1, f1⟩ := one_cell hq;obtain ⟨c2, f2⟩ := one_cell hn;have HR := ae (jG hx);have HD := ae (D.write n x hL h);clear h hq hn hx;go_enter func144, ntmps144;go_wp2_with (first | (refine az rfl (aV rfl rfl HR) ?_) | fail);refine HD.out.mono ?_;rintro e w4 ⟨rfl, F', g1, g2, g3⟩;go_wp2_with fail;go_ret;exact ⟨rfl, F', g1, g2, g3⟩
theorem ud (d n : Int) (x : Blk) (h : bU (cI D) w p v Fs ps M) (h0 : eO M d ≠ 0) :
  Calls prog 94 #[.pointer (some ⟨p, 0, none⟩), .int .i64 d, .int .i64 n, blk x] w fun e w' => e = .returned (.int .i64 (eO M d)) /\ Below w.heap.size w w' := by
 have hA : Below w.heap.size w ((w.alloc (.cells #[.int .i64 n] 3)).alloc (.cells (cel x).toArray 45)) := ((Below.refl _ w).alloc aj _).alloc (by rw [World.size_alloc]; omega) _;have HO := ae (pR (h.below hA) h0);have HF := ae (nI w n x none).1;clear h hA;rcases dO M d with ⟨e, _⟩ | ⟨e, _⟩ | ⟨e, _⟩
 rotate_right 1
 ·exact absurd e h0
 all_goals
  rw [e] at HO ⊢;clear e h0;go_enter func94, ntmps94;go_wp2_with (first | (refine az rfl (cm rfl rfl) ?_) | fail);refine HO.out.mono ?_;rintro e w1 ⟨rfl, rfl⟩;go_wp2_with fail;go_ret;exact ⟨rfl, HF⟩
end
end Go.Proofs.YtdmhelalbemlcaaGreatDoor
