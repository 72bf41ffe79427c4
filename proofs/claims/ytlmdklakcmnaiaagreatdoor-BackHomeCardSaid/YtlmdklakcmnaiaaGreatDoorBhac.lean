import Derived.Test.YtlmdklakcmnaiaaGreatDoorBhab
import Derived.Laws.CopyRow
import Derived.RangeFuncNested
import Derived.RangeFuncBound
import Derived.RangeFuncCalls
import Derived.RangeFuncLeaves
import Derived.Shelf.Abstract
import Derived.Shelf.RegionOpen
import Derived.OwnWalkIn
import Derived.TacticsInMore
import Derived.LoopNIn
import Derived.LoopIn
namespace Go.Proofs.YtlmdklakcmnaiaaGreatDoor
set_option maxHeartbeats 8000000
open Go.Proofs.Tryz
open Go.RowKit
set_option linter.unusedVariables false
set_option maxRecDepth 100000
def ptr (x : Nat) : Value := .pointer (some ⟨x, 0, none⟩)
def ahl (s t : TypeId) (und : prog.underlying s = some (.slice t)) (info : (prog.info? t).map (fun i => (i.zero, i.size, i.bytes)) = some (some (.pointer none), 1, 8)) : Elt Nat where
 s := s
 t := t
 n := 1
 by_ := 8
 cel := fun x => [ptr x]
 d := 0
 z := .pointer none
 pos := by omega
 small := by omega
 len := fun _ => rfl
 one := fun a v hv => by simp only [List.mem_singleton] at hv; subst hv; rfl
 und := und
 info := info
 zc := rfl
section
variable {s t : TypeId} {und : prog.underlying s = some (.slice t)} {info : (prog.info? t).map (fun i => (i.zero, i.size, i.bytes)) = some (some (.pointer none), 1, 8)} {w : World} {B n k : Nat} {A : Option Addr} {l : List Nat}
theorem RdE.ptr (h : RdE (ahl s t und info) w B A n l) (hk : k < n) : ∃ b off, A = some ⟨b, off, none⟩ /\ b < B /\ w.cell? ⟨b, off + k, none⟩ = some (.pointer (some ⟨l.getD k 0, 0, none⟩)) := by
 obtain ⟨b, off, e, hb, hc⟩ := h.2 k hk;have := hc 0 (Go.Proofs.YtlmdklakcmnaiaaGreatDoor.ptr (l.getD k 0)) rfl;exact ⟨b, off, e, hb, by simpa [ahl, Go.Proofs.YtlmdklakcmnaiaaGreatDoor.ptr] using this⟩
end
structure iv where
 K : DvK
 s : TypeId
 t : TypeId
 und : prog.underlying s = some (.slice t)
 info : (prog.info? t).map (fun i => (i.zero, i.size, i.bytes)) = some (some (.pointer none), 1, 8)
 o : TypeId
 cs : Value -> Nat -> Bool -> Nat -> Array Value
 ne : t ≠ o
def iv.E (k : iv) : Elt Nat := ahl k.s k.t k.und k.info
structure bV (k : iv) (w : World) (p : Nat) (v : Value) (Fs : Nat -> Nat -> Prop) (ps : List Nat) (M : aV) : Prop where
 at_ : w.heap[p]? = some (.cells (k.cs v M.left M.cq M.steps) k.o)
 row : aN k.E w 0 v ps
 devs : kV k.K w Fs ps M.ds
 apart : ∀ i, i < M.ds.length -> ∀ b, Fs i b -> b ≠ p /\ v.ownBlock ≠ some b
 one : 1 <= M.ds.length
 cap : M.ds.length <= 17
def iE (p : Nat) (v : Value) (Fs : Nat -> Nat -> Prop) (n : Nat) (b : Nat) : Prop := b = p \/ v.ownBlock = some b \/ ∃ i, i < n /\ Fs i b
section
variable {k : iv} {w w' : World} {p : Nat} {v : Value} {Fs : Nat -> Nat -> Prop} {ps : List Nat} {M : aV} {G F' : Nat -> Prop} {i : Nat}
theorem bV.aj2 (h : bV k w p v Fs ps M) : v.ownBlock ≠ some p := h.row.eU h.at_ k.ne
theorem bV.lt (h : bV k w p v Fs ps M) : ∀ b, iE p v Fs M.ds.length b -> b < w.heap.size := by
 intro b hb;rcases hb with rfl | hb | ⟨i, hi, hb⟩
 ·exact aU h.at_
 ·exact h.row.ju b hb
 ·exact h.devs.lt i hi b hb
theorem bV.only (h : bV k w p v Fs ps M) (ho : Only G w w') (hn : ∀ b, iE p v Fs M.ds.length b -> ¬ G b) : bV k w' p v Fs ps M :=
 ⟨ho.keep h.at_ (hn p (.inl rfl)), h.row.only ho fun b hb => hn b (.inr (.inl hb)), h.devs.only ho fun i hi b hb => hn b (.inr (.inr ⟨i, hi, hb⟩)), h.apart, h.one, h.cap⟩
theorem bV.below (h : bV k w p v Fs ps M) (hb : Below w.heap.size w w') : bV k w' p v Fs ps M := h.only (Only.of_below (fun _ => False) hb) fun _ _ e => e
theorem bV.len (h : bV k w p v Fs ps M) : ps.length = M.ds.length := h.devs.len
theorem bV.obj (h : bV k w p v Fs ps M) (left : Nat) (cq : Bool) (steps : Nat) (ho : Only (fun b => b = p) w w') (hc : w'.heap[p]? = some (.cells (k.cs v left cq steps) k.o)) : bV k w' p v Fs ps ⟨M.ds, left, cq, steps⟩ :=
 ⟨hc, h.row.only ho fun b hb e => h.aj2 (by rw [hb, e]), h.devs.only ho fun i hi b hb e => (h.apart i hi b hb).1 e, h.apart, h.one, h.cap⟩
theorem bV.turn (h : bV k w p v Fs ps M) (hi : i < M.ds.length) (ho : Only (Fs i) w w') (hg : Grow w (Fs i) F') {d : jf} (hd : k.K.Dv w' F' (ps.getD i 0) d.S d.L d.g) :
  bV k w' p v (upF Fs i F') ps (M.put i d) := by
 refine ⟨ho.keep h.at_ (fun e => (h.apart i hi p e).1 rfl), h.row.only ho fun b hb e => (h.apart i hi b e).2 hb, h.devs.turn hi ho hg hd, fun j hj b hb => ?_, by show 1 <= (M.ds.set i d).length; rw [List.length_set]; exact h.one, by show (M.ds.set i d).length <= 17; rw [List.length_set]; exact h.cap⟩;have hj' : j < M.ds.length := by have : j < (M.ds.set i d).length := hj; rwa [List.length_set] at this
 rcases hb with ⟨e, hb⟩ | ⟨e, hb⟩
 ·rcases hg b hb with hb | hb
  ·exact h.apart i hi b hb
  ·have h1 := aU h.at_;exact ⟨fun e => by omega, fun e => by have := h.row.ju b e; omega⟩
 ·exact h.apart j hj' b hb
theorem vM (hi : i < M.ds.length) (ho : Only (Fs i) w w') : Only (iE p v Fs M.ds.length) w w' := ho.widen fun b hb => .inr (.inr ⟨i, hi, hb⟩)
theorem mP (n : Nat) (ho : Only (fun b => b = p) w w') : Only (iE p v Fs n) w w' := ho.widen fun b hb => .inl hb
theorem wt {n : Nat} (hi : i < n) (hg : Grow w (Fs i) F') {n' : Nat} (hn : n' = n) : Grow w (iE p v Fs n) (iE p v (upF Fs i F') n') := by
 subst hn;intro b hb;rcases hb with e | e | ⟨j, hj, hb⟩
 ·exact .inl (.inl e)
 ·exact .inl (.inr (.inl e))
 ·rcases hb with ⟨e, hb⟩ | ⟨e, hb⟩
  ·rcases hg b hb with hb | hb
   ·exact .inl (.inr (.inr ⟨i, hi, hb⟩))
   ·exact .inr hb
  ·exact .inl (.inr (.inr ⟨j, hj, hb⟩))
theorem bV.slice (h : bV k w p v Fs ps M) : ∃ g c, v = .slice (some ⟨g, 0, none⟩) M.ds.length c /\ M.ds.length <= c /\ c <= maxLen := by
 have hl := h.len;have h1 := h.one;rcases h.row.2 with ⟨rfl, h0⟩ | ⟨g, cap, cur, rfl, _, _, hc1, hc2, _⟩
 ·omega
 ·exact ⟨g, cap, by rw [hl], by omega, hc2⟩
theorem bV.cell {g c : Nat} (h : bV k w p (.slice (some ⟨g, 0, none⟩) M.ds.length c) Fs ps M) (hi : i < M.ds.length) : w.cell? ⟨g, i, none⟩ = some (.pointer (some ⟨ps.getD i 0, 0, none⟩)) := by
 have hr : RdE k.E w w.heap.size (some ⟨g, 0, none⟩) M.ds.length ps := h.row.rd;obtain ⟨b, off, e, _, hc⟩ := RdE.ptr (und := k.und) (info := k.info) hr hi;injection e with e;injection e with e1 e2;subst e1 e2;rw [Nat.zero_add] at hc;exact hc
end
theorem aV.afI (M : aV) (k : Nat) (d : jf) : (M.put k d).ds.length = M.ds.length := by show (M.ds.set k d).length = _; rw [List.length_set]
section
variable {k : iv} {w w' : World} {p : Nat} {v : Value} {Fs : Nat -> Nat -> Prop} {ps : List Nat} {M : aV}
def Left (k : iv) (w : World) (p : Nat) (v : Value) (Fs : Nat -> Nat -> Prop) (ps : List Nat) (n : Nat) (M' : aV) (w' : World) : Prop :=
 ∃ Fs' ps', bV k w' p v Fs' ps' M' /\ Only (iE p v Fs n) w w' /\ Grow w (iE p v Fs n) (iE p v Fs' M'.ds.length)
theorem Left.same (h : bV k w p v Fs ps M) {M' : aV} (e : M' = M) : Left k w p v Fs ps M.ds.length M' w := by
 subst e; exact ⟨Fs, ps, h, Only.refl _ _, Grow.same _ _⟩
theorem Left.turn (h : bV k w p v Fs ps M) {i : Nat} {F' : Nat -> Prop} {d : jf} (hi : i < M.ds.length) (ho : Only (Fs i) w w') (hg : Grow w (Fs i) F') (hd : k.K.Dv w' F' (ps.getD i 0) d.S d.L d.g) {M' : aV} (e : M' = M.put i d) : Left k w p v Fs ps M.ds.length M' w' := by
 subst e;exact ⟨_, _, h.turn hi ho hg hd, vM hi ho, wt hi hg (M.afI i d)⟩
theorem Left.behind {w1 : World} {n : Nat} {M' : aV} (ho : Only (fun b => b = p) w w1) (h : Left k w1 p v Fs ps n M' w') : Left k w p v Fs ps n M' w' := by
 obtain ⟨Fs', ps', h1, h2, h3⟩ := h;refine ⟨Fs', ps', h1, (mP n ho).trans h2 fun b hb => .inl hb, fun b hb => ?_⟩;rcases h3 b hb with e | e
 ·exact .inl e
 ·exact .inr (aq ho.size e)
theorem Left.obj {M' : aV} (h : bV k w' p v Fs ps M') (ho : Only (fun b => b = p) w w') {n : Nat} (hn : M'.ds.length = n) : Left k w p v Fs ps n M' w' := by
 subst hn;exact ⟨Fs, ps, h, mP _ ho, Grow.same _ _⟩
theorem Left.ab8 (h : bV k w p v Fs ps M) (hb : Below w.heap.size w w') {M' : aV} (e : M' = M) : Left k w p v Fs ps M.ds.length M' w' := by
 subst e;exact ⟨Fs, ps, h.below hb, Only.of_below _ hb, Grow.same _ _⟩
theorem Left.above {w1 : World} {n : Nat} {M' : aV} (hb : Below w.heap.size w w1) (h : Left k w1 p v Fs ps n M' w') : Left k w p v Fs ps n M' w' := by
 obtain ⟨Fs', ps', h1, h2, h3⟩ := h;refine ⟨Fs', ps', h1, (Only.of_below _ hb).trans h2 fun b hb => .inl hb, fun b hb' => ?_⟩;rcases h3 b hb' with e | e
 ·exact .inl e
 ·exact .inr (aq hb.size e)
end
def ou (k : Int) : jf := ⟨List.replicate k.toNat aJ, [], false⟩
theorem jd (ks : List Int) : (fg ks).ds = ks.map ou := rfl
structure Making (kd : iv) (w wr : World) (v : Value) (Fs : Nat -> Nat -> Prop) (ps : List Nat) (ds : List jf) (left : Nat) (cq : Bool) (steps : Nat) : Prop where
 at_ : wr.heap[w.heap.size]? = some (.cells (kd.cs v left cq steps) kd.o)
 row : aN kd.E wr w.heap.size v ps
 devs : kV kd.K wr Fs ps ds
 apart : ∀ i, i < ds.length -> ∀ b, Fs i b -> w.heap.size < b /\ v.ownBlock ≠ some b
 below : Below w.heap.size w wr
section
variable {kd : iv} {w wr w1 w3 : World} {v v' : Value} {Fs : Nat -> Nat -> Prop} {F' : Nat -> Prop} {ps : List Nat} {ds : List jf} {p' : Nat} {d : jf} {o2 : Obj} {left steps : Nat} {cq : Bool}
theorem Making.next (hcs : ∀ v v', (kd.cs v left cq steps).setIfInBounds 0 v' = kd.cs v' left cq steps) (h : Making kd w wr v Fs ps ds left cq steps) (hb1 : Below wr.heap.size wr w1) (hF : ∀ b, F' b -> wr.heap.size <= b) (hd : kd.K.Dv w1 F' p' d.S d.L d.g)
  (hm : aN kd.E w3 w.heap.size v' (ps ++ [p'])) (hg : (w1.alloc o2).grownBy w3 v.ownBlock) (ho : ∀ x, v'.ownBlock = some x -> v.ownBlock = some x \/ w1.heap.size + 1 <= x) :
  Making kd w (w3.setCell ⟨w.heap.size, 0, none⟩ v') v' (upF Fs ds.length F') (ps ++ [p']) (ds ++ [d]) left cq steps := by
 have hx := aU h.at_;have h1 := hb1.size;have hsz : (w1.alloc o2).heap.size = w1.heap.size + 1 := World.size_alloc _ _;have hvl : ∀ b, v.ownBlock = some b -> b < wr.heap.size := h.row.ju;have o3 : Only (fun b => v.ownBlock = some b) w1 w3 := (Only.of_below _ ((Below.refl _ w1).alloc aj o2)).trans ((Only.refl (fun b => v.ownBlock = some b) _).grown hg fun k e => .inl e) fun b hb => .inl hb
 have hvx : v.ownBlock ≠ some w.heap.size := h.row.eU h.at_ kd.ne;have hat1 := aC h.at_ hb1;have hat3 := o3.keep hat1 hvx;have o4 : Only (fun b => b = w.heap.size \/ v.ownBlock = some b) w1 (w3.setCell ⟨w.heap.size, 0, none⟩ v') := (o3.widen fun b hb => .inr hb).setCell (p := ⟨w.heap.size, 0, none⟩) (.inl (.inl rfl)) _;have hv3 : v'.ownBlock ≠ some w.heap.size := hm.eU hat3 kd.ne;have hdv := h.devs.push hb1 hF hd;have hap : ∀ i, i < (ds ++ [d]).length -> ∀ b, upF Fs ds.length F' i b -> w.heap.size < b /\ v.ownBlock ≠ some b /\ b < w1.heap.size := fun i hi b hb => by
  have hlt := hdv.lt i hi b hb;rcases hb with ⟨e, hb⟩ | ⟨e, hb⟩
  ·have := hF b hb;exact ⟨by omega, fun e => by have := hvl b e; omega, hlt⟩
  ·rw [List.length_append, List.length_singleton] at hi;exact ⟨(h.apart i (by omega) b hb).1, (h.apart i (by omega) b hb).2, hlt⟩
 refine ⟨?_, hm.only (kg w3 w.heap.size 0 v') fun b hb e => hv3 (by rw [hb, e]), hdv.only o4 fun i hi b hb e => ?_, fun i hi b hb => ⟨(hap i hi b hb).1, fun e => ?_⟩, ?_⟩
 ·have := heap_setCell_same w3 w.heap.size 0 _ _ v' hat3;rw [hcs] at this;exact this
 ·rcases e with e | e
  ·have := (hap i hi b hb).1; omega
  ·exact (hap i hi b hb).2.1 e
 ·rcases ho b e with e | e
  ·exact (hap i hi b hb).2.1 e
  ·have := (hap i hi b hb).2.2; omega
 ·have hb01 : Below w.heap.size w w1 := h.below.trans (hb1.mono h.below.size);refine hb01.trans (o4.below (fun b hb => ?_) hb01.size);rcases hb with e | e
  ·omega
  ·exact h.row.gH b e
theorem Making.done (h : Making kd w wr v Fs ps ds left cq steps) (h1 : 1 <= ds.length) (h2 : ds.length <= 17) : bV kd wr w.heap.size v Fs ps ⟨ds, left, cq, steps⟩ /\ (∀ b, iE w.heap.size v Fs ds.length b -> w.heap.size <= b) /\ Below w.heap.size w wr :=
 ⟨⟨h.at_, h.row.base (Nat.zero_le _), h.devs, fun i hi b hb => ⟨by have := (h.apart i hi b hb).1; omega, (h.apart i hi b hb).2⟩, h1, h2⟩, fun b hb => by
  rcases hb with e | e | ⟨i, hi, e⟩
  ·omega
  ·exact h.row.gH b e
  ·have := (h.apart i hi b e).1; omega, h.below⟩
end
def fv (kd : iv) (w : World) (ks : List Int) (e : Ending) (w' : World) : Prop :=
 Below w.heap.size w w' /\ ((jh ks /\ ∃ p v Fs ps, e = .returned (.tuple #[.pointer (some ⟨p, 0, none⟩), .int .i64 0]) /\ bV kd w' p v Fs ps (fg ks) /\ ∀ b, iE p v Fs (fg ks).ds.length b -> w.heap.size <= b) \/ (¬ jh ks /\ e = .returned (.tuple #[.pointer none, .int .i64 2])))
theorem fv.no {kd : iv} {w w' : World} {ks : List Int} (hb : Below w.heap.size w w') (hn : ¬ jh ks) {e : Ending} (he : e = .returned (.tuple #[.pointer none, .int .i64 2])) : fv kd w ks e w' := ⟨hb, .inr ⟨hn, he⟩⟩
theorem kX {ks : List Int} {j : Nat} (h : j < ks.length) : (ks.take (j + 1)).map ou = (ks.take j).map ou ++ [ou (ks.getD j 0)] := by
 rw [List.take_add_one, List.getD, List.getElem?_eq_getElem h, List.map_append]; rfl
def nJ (x : Ros) (s m : Int) : Bool := decide (0 <= s /\ s < x.s /\ 0 <= m /\ m < x.m)
def eH (x : Ros) : Bool := decide (stN x = 5)
def kE (h : HuS) (m : Nat) : HuS := { h with R := dM h.R m }
def nG (h : HuS) (m : Nat) (t : Int) : Int := if fT (kE h m) = 0 then (if eH (fk (kE h m)).R = true then 16 else t) else fT (kE h m)
def mB (h : HuS) (m : Nat) : HuS := fk (kE h m)
def jZ (h : HuS) (s m : Int) (b : Blk) : Int :=
 if nJ h.R s m = true then (if eH h.R = true then 16 else if hasB h.R m s = true then (if eG h.M m (2 + s) = 9 then nG h m.toNat 0 else eG h.M m (2 + s)) else 0) else 2
def fU (h : HuS) (s m : Int) (b : Blk) : HuS :=
 if nJ h.R s m = true /\ eH h.R = false /\ hasB h.R m s = true then (if eG h.M m (2 + s) = 9 then mB h m.toNat else { h with M := dW h.M m (2 + s) b }) else h
def szK (N : Nat) (s : Int) : List Int := List.replicate N (2 + s) ++ [50]
section
variable {N : Nat} {s : Int}
theorem ahx {j : Nat} (hj : j < N) : (szK N s).getD j 0 = 2 + s := by
 unfold szK;simp only [List.getD];rw [List.getElem?_append_left (by simpa using hj), List.getElem?_replicate, if_pos hj]
 rfl
theorem nK : (szK N s).length = N + 1 := by simp [szK]
theorem lI {j : Nat} (hj : j < N) : (fg (szK N s)).ds.getD j bF = ⟨List.replicate (2 + s).toNat aJ, [], false⟩ := by
 rw [jd];simp only [List.getD, List.getElem?_map];have h := ahx (s := s) hj;rw [List.getD] at h;rw [List.getElem?_eq_getElem (by rw [nK]; omega)] at h ⊢;simp only [Option.getD_some] at h;simp only [Option.map_some, Option.getD_some, h]
 rfl
theorem lQ : (fg (szK N s)).ds.length = N + 1 := by rw [jd, List.length_map, nK]
end
def neR (N : Nat) (s : Int) : Ros := gz ⟨(N : Int), s, 40, Vector.replicate 16 0, 0, false⟩
theorem ka {N : Nat} {s : Int} (h1 : 3 <= N) (h2 : N <= 16) (h3 : 1 <= s) (h4 : s <= 64) : aW (neR N s) = true := by
 unfold neR;rw [xN];exact ao ⟨by show 3 <= (N : Int); omega, by show (N : Int) <= 16; omega, h3, h4, by show (40 : Int) <= 40; omega, by show (40 : Int) <= 256; omega⟩
theorem adB (N : Nat) (s : Int) : (neR N s).m.toNat = N := by show ((N : Int)).toNat = N; omega
section
variable {M : aV} {d n : Int} {b : Blk}
theorem ach (M : aV) (d n : Int) : dr M d n = 0 \/ dr M d n = 2 \/ dr M d n = 8 \/ dr M d n = 9 := by
 unfold dr
 split
 ·rcases iL (S := (M.dev d).S) (g := (M.dev d).g) (n := n) with h | h | h
  ·exact .inr (.inl h)
  ·exact .inr (.inr (.inr h))
  ·exact .inl h.1
 ·rcases fM M d with h | h | h
  ·exact .inr (.inr (.inl h.1))
  ·exact .inr (.inl h.1)
  ·exact .inl h.1
theorem agC (M : aV) (d n : Int) : eG M d n = 0 \/ eG M d n = 2 \/ eG M d n = 8 \/ eG M d n = 9 := by
 unfold eG
 split
 ·unfold aV.fo
  split
  ·exact .inr (.inr (.inl rfl))
  ·exact .inl rfl
 ·exact ach M d n
theorem aiN (M : aV) (d : Int) : eI M d = 0 \/ eI M d = 2 \/ eI M d = 8 \/ eI M d = 9 := by
 unfold eI
 split
 ·unfold aV.fo
  split
  ·exact .inr (.inr (.inl rfl))
  ·exact .inl rfl
 ·unfold iT
  split
  ·split
   ·exact .inr (.inr (.inr rfl))
   ·exact .inl rfl
  ·rcases fM M d with h | h | h
   ·exact .inr (.inr (.inl h.1))
   ·exact .inr (.inl h.1)
   ·exact .inl h.1
def erS (e : Int) : Prop := e = 0 \/ e = 2 \/ e = 8 \/ e = 9
theorem aeB (M : aV) (d : Int) (s : Stp) : erS (rU d M s) := by
 cases s with
 |wr n b => exact agC M d n
 |fl => exact aiN M d
theorem agp (d : Int) : ∀ (l : List Stp) (M : aV), erS (goE d M l)
 |[], M => .inl rfl
 |s :: l, M => by
  rw [goE]
  split
  ·exact agp d l _
  ·exact aeB M d s
theorem aii {id ev : Nat} {R : Ros} {m : Nat} : erS (dF id ev R M m) := by
 unfold dF
 split
 ·split
  ·exact agp _ _ _
  ·exact ach M m 1
 ·exact ach M m 0
theorem sL {id ev : Nat} {R : Ros} : ∀ (k m : Nat) (M : aV), (dn id ev R k m M).2.1 = 0 \/ (dn id ev R k m M).2.1 = 2 \/ (dn id ev R k m M).2.1 = 8
 |0, m, M => .inl rfl
 |k + 1, m, M => by
  rw [dn]
  split
  ·exact sL k (m + 1) M
  ·split
   ·exact .inl rfl
   ·rename_i h9
    split
    ·exact sL k (m + 1) _
    ·rcases aii (M := M) (id := id) (ev := ev) (R := R) (m := m) with e | e | e | e
     ·exact .inl e
     ·exact .inr (.inl e)
     ·exact .inr (.inr e)
     ·exact absurd e h9
theorem tV : ∀ (f : Nat) (h : HuS), (fe f h).1 = 0 \/ (fe f h).1 = 2 \/ (fe f h).1 = 8
 |0, h => .inl rfl
 |f + 1, h => by
  rw [fe];have := sL (id := h.id) (ev := h.ev + 1) (R := h.R) h.R.m.toNat 0 h.M;generalize dn h.id (h.ev + 1) h.R h.R.m.toNat 0 h.M = o at *;obtain ⟨a, e, M'⟩ := o;cases a with
  |none => exact this
  |some d => exact tV f _
theorem afz (h : HuS) : fT h = 0 \/ fT h = 2 \/ fT h = 8 := tV 17 h
end
def wL (h : HuS) (s m : Int) : Prop := nJ h.R s m = true /\ eH h.R = false /\ hasB h.R m s = true /\ eG h.M m (2 + s) = 9 -> fT (kE h m.toNat) = 0
section
variable {id ev : Nat} {R : Ros} {M : aV} {k m : Nat} {h : HuS} {d : Int}
theorem cM {n : Nat} (h : Room M n) (hm : m <= n) : Room M m := ⟨by have := h.1; omega, h.2.1, fun d hd => by have := h.2.2 d hd; omega⟩
theorem ahp (h : Room M (k + 1)) (s : Stp) : Room (sP d M s) k := by
 cases s with
 |wr n b => exact sC h d n b
 |fl => exact yT h d
theorem aiU (l : List Stp) : ∀ {M : aV}, Room M (k + l.length) -> Room (goB d M l) k := by
 induction l with
 |nil => intro M h; exact h
 |cons s l ih =>
  intro M h;rw [List.length_cons] at h;have h1 := ahp (d := d) (k := k + l.length) h s;rw [goB]
  split
  ·exact ih h1
  ·exact cM h1 (by omega)
theorem ada (h : Room M (k + 2)) : Room (eg id ev R M m) k := by
 unfold eg
 split
 ·exact aiU _ h
 ·exact cM h (by omega)
theorem nN : ∀ (n m : Nat) (M : aV), Room M (k + 2 * n) -> Room (dn id ev R n m M).2.2 k
 |0, m, M, h => h
 |n + 1, m, M, h => by
  have h1 : Room (eg id ev R M m) (k + 2 * n) := ada (cM h (by omega));rw [dn]
  split
  ·exact nN n (m + 1) M (cM h (by omega))
  ·split
   ·exact cM h1 (by omega)
   ·split
    ·exact nN n (m + 1) _ h1
    ·exact cM h1 (by omega)
structure fq (x y : Ros) : Prop where
 fine : aW y = true
 m : y.m = x.m
 s : y.s = x.s
 r : y.r = x.r
theorem fq.refl (hf : aW R = true) : fq R R := ⟨hf, rfl, rfl, rfl⟩
theorem fq.trans {x y z : Ros} (h : fq x y) (g : fq y z) : fq x z := ⟨g.fine, g.m.trans h.m, g.s.trans h.s, g.r.trans h.r⟩
theorem fq.los (hf : aW R = true) (j : Int) : fq R (dM R j) := by
 refine ⟨l9 j hf, ?_, ?_, ?_⟩ <;> (unfold dM; split <;> (try split) <;> rfl)
theorem lD (hf : aW R = true) : R.m.toNat <= 16 := by
 unfold aW at hf;simp only [Bool.and_eq_true] at hf;have := ew hf.1.1.1;omega
theorem sM : ∀ (f : Nat) (h : HuS), aW h.R = true -> Room h.M (k + 32 * f) -> Room (fe f h).2.M k /\ fq h.R (fe f h).2.R /\ (fe f h).2.ev <= h.ev + f /\ (fe f h).2.id = h.id
 |0, h, hf, hr => ⟨hr, fq.refl hf, aj, rfl⟩
 |f + 1, h, hf, hr => by
  have hm := lD hf;have h1 : Room (dn h.id (h.ev + 1) h.R h.R.m.toNat 0 h.M).2.2 (k + 32 * f) := nN _ 0 h.M (cM hr (by omega));rw [fe];generalize dn h.id (h.ev + 1) h.R h.R.m.toNat 0 h.M = o at *;obtain ⟨a, e, M'⟩ := o;cases a with
  |none => exact ⟨cM h1 (by omega), fq.refl hf, by show h.ev + 1 <= _; omega, rfl⟩
  |some d =>
   have hk := fq.los hf (d : Int);obtain ⟨k1, k2, k3, k4⟩ := sM f ⟨M', h.id, h.ev + 1, dM h.R d⟩ hk.fine h1;exact ⟨k1, hk.trans k2, by show (fe f ⟨M', h.id, h.ev + 1, dM h.R d⟩).2.ev <= h.ev + (f + 1); have : (fe f ⟨M', h.id, h.ev + 1, dM h.R d⟩).2.ev <= h.ev + 1 + f := k3; omega, k4⟩
end
def jX (R : Ros) (j : Nat) : Bool := decide (sta R j ≠ 1)
structure OnS (h0 : HuS) (f : Nat) (h : HuS) : Prop where
 same : fe f h = fe 17 h0
 pot : ly (jX h.R) h.R.m.toNat < f
 fine : aW h.R = true
 id : h.id = h0.id
 m : h.R.m = h0.R.m
 ev : h.ev + f <= h0.ev + 17
 rm : Room h.M (34 * f)
theorem OnS.start {h : HuS} (hf : aW h.R = true) (hr : Room h.M 600) : OnS h 17 h :=
 ⟨rfl, by have := ye (jX h.R) h.R.m.toNat; have := lD hf; omega, hf, rfl, rfl, aj, cM hr (by omega)⟩
section
variable {h0 h : HuS} {f m : Nat} {e : Int} {M' : aV}
theorem OnS.pos (k : OnS h0 f h) : ∃ f', f = f' + 1 := ⟨f - 1, by have := k.pot; omega⟩
theorem OnS.fin (k : OnS h0 f h) (ho : dn h.id (h.ev + 1) h.R h.R.m.toNat 0 h.M = (none, e, M')) : fT h0 = e /\ fk h0 = ⟨M', h.id, h.ev + 1, h.R⟩ := by
 obtain ⟨f', rfl⟩ := k.pos;have := k.same;rw [fe] at this;simp only [ho] at this;unfold fT fk;rw [<- this];exact ⟨rfl, rfl⟩
theorem jE {id ev : Nat} {R : Ros} : ∀ (k m : Nat) (M : aV) {d : Nat} {e : Int} {M' : aV}, dn id ev R k m M = (some d, e, M') -> m <= d /\ d < m + k /\ sta R d ≠ 1
 |0, m, M, d, e, M', h => by rw [dn] at h; cases h
 |k + 1, m, M, d, e, M', h => by
  rw [dn] at h
  split at h
  ·obtain ⟨h1, h2, h3⟩ := jE k (m + 1) M h;exact ⟨by omega, by omega, h3⟩
  ·rename_i hs
   split at h
   ·cases h;exact ⟨aj, by omega, hs⟩
   ·split at h
    ·obtain ⟨h1, h2, h3⟩ := jE k (m + 1) _ h;exact ⟨by omega, by omega, h3⟩
    ·cases h
theorem OnS.go (k : OnS h0 f h) {d : Nat} (ho : dn h.id (h.ev + 1) h.R h.R.m.toNat 0 h.M = (some d, e, M')) : ∃ f', f = f' + 1 /\ OnS h0 f' ⟨M', h.id, h.ev + 1, dM h.R d⟩ := by
 obtain ⟨f', rfl⟩ := k.pos;obtain ⟨_, hd, hs⟩ := jE _ _ _ ho;have hl := sV k.fine (d := d) (by omega) hs;refine ⟨f', rfl, ?_⟩;have hq : jX h.R d = true := ao hs;have hq' : jX (dM h.R d) d = false := by unfold jX; rw [hl.2 d, if_pos rfl]; rfl
 have hsub : ∀ j, jX (dM h.R d) j = true -> jX h.R j = true := fun j hj => by
  unfold jX at hj ⊢;rw [hl.2 j] at hj;by_cases e : j = d
  ·rw [if_pos e] at hj; simp at hj
  ·rwa [if_neg e] at hj
 have hlt := sR hsub hq hq' (n := h.R.m.toNat) (by omega);have hr : Room M' (34 * f') := by
  have hm := lD k.fine;have h1 := nN (k := 34 * f' + 2) (id := h.id) (ev := h.ev + 1) (R := h.R) h.R.m.toNat 0 h.M (cM k.rm (by omega));rw [ho] at h1;exact cM h1 (by omega)
 refine ⟨?_, ?_, l9 _ k.fine, k.id, hl.1.trans k.m, by have := k.ev; show h.ev + 1 + f' <= _; omega, hr⟩
 ·have := k.same;rw [fe] at this;simp only [ho] at this;exact this
 ·show ly (jX (dM h.R d)) (dM h.R d).m.toNat < f'
  rw [hl.1];have := k.pot;omega
theorem ox {id ev : Nat} {R : Ros} {k m : Nat} {M : aV} (hs : sta R m ≠ 1) (he : dF id ev R M m = 0) : dn id ev R (k + 1) m M = dn id ev R k (m + 1) (eg id ev R M m) := by
 rw [dn, if_neg hs, if_neg (by rw [he]; decide), if_pos he]
theorem pa {id ev : Nat} {R : Ros} {k m : Nat} {M : aV} (hs : sta R m = 1) : dn id ev R (k + 1) m M = dn id ev R k (m + 1) M := by rw [dn, if_pos hs]
theorem wM {id ev : Nat} {R : Ros} {k m : Nat} {M : aV} (hs : sta R m ≠ 1) (he : dF id ev R M m = 9) : dn id ev R (k + 1) m M = (some m, 0, eg id ev R M m) := by rw [dn, if_neg hs, if_pos he]
theorem aal {id ev : Nat} {R : Ros} {k m : Nat} {M : aV} (hs : sta R m ≠ 1) (h0 : dF id ev R M m ≠ 0) (h9 : dF id ev R M m ≠ 9) : dn id ev R (k + 1) m M = (none, dF id ev R M m, eg id ev R M m) := by rw [dn, if_neg hs, if_neg h9, if_neg h0]
end
structure tv (R : Ros) (M : aV) : Prop where
 cq : M.cq = false
 left : M.left = 0
 len : R.m.toNat < M.ds.length
 two : ∀ m, m < R.m.toNat -> 2 <= (M.ds.getD m bF).S.length
structure ii (M M' : aV) : Prop where
 cq : M'.cq = M.cq
 left : M.left = 0 -> M'.left = 0
 len : M'.ds.length = M.ds.length
 sl : ∀ j, (M'.ds.getD j bF).S.length = (M.ds.getD j bF).S.length
section
variable {R R' : Ros} {M M' M3 : aV} {m n id ev : Nat} {h : HuS} {b : Blk} {k : Nat}
theorem ii.refl (M : aV) : ii M M := ⟨rfl, fun e => e, rfl, fun _ => rfl⟩
theorem ii.trans (h : ii M M') (g : ii M' M3) : ii M M3 := ⟨g.cq.trans h.cq, fun e => g.left (h.left e), g.len.trans h.len, fun j => (g.sl j).trans (h.sl j)⟩
theorem tv.keep (h : tv R M) (g : ii M M') (hR : R'.m = R.m) : tv R' M' := ⟨g.cq.trans h.cq, g.left h.left, by rw [hR, g.len]; exact h.len, fun m hm => by rw [g.sl m]; exact h.two m (by rw [<- hR]; exact hm)⟩
theorem t8 {d : jf} (hk : m < M.ds.length) (hS : d.S.length = (M.ds.getD m bF).S.length) {M' : aV} (hM : M' = M.done.put m d) : ii M M' := by
 subst hM;refine ⟨rfl, fun e => by show M.left - 1 = 0; omega, List.length_set, fun j => ?_⟩
 show ((M.ds.set m d).getD j bF).S.length = _
 rw [xF _ _ _ _ _ hk]
 split
 ·rename_i e; subst e; exact hS
 ·rfl
theorem xQ (hl : M.left = 0) (hd : M.cq = false) (hm : m < M.ds.length) (n : Int) (b : Blk) : ii M (dW M m n b) := by
 unfold dW
 split
 ·rw [if_neg (by omega)];exact t8 (d := ⟨(M.dev (m : Int)).S, wrL (M.dev (m : Int)).S (M.dev (m : Int)).L (M.dev (m : Int)).g n b, (M.dev (m : Int)).g⟩) hm rfl rfl
 ·exact ii.refl M
theorem yf (hl : M.left = 0) (hd : M.cq = false) (hm : m < M.ds.length) : ii M (fL M m) := by
 unfold fL
 split
 ·rw [if_neg (by omega)];exact t8 (d := ⟨flS (M.dev (m : Int)).S (M.dev (m : Int)).L, [], (M.dev (m : Int)).g⟩) hm (nW _ _) rfl
 ·exact ii.refl M
theorem mJ (hd : M.cq = false) (hm : m < M.ds.length) (hn : n < (M.ds.getD m bF).S.length) : dr M m n = if (M.ds.getD m bF).g = true then 9 else 0 := by
 unfold dr;rw [if_pos (lZ hd hm)]
 show dN (M.ds.getD m bF).S (M.ds.getD m bF).g (n : Int) = _
 unfold dN;rw [if_pos ⟨by omega, by omega⟩]
theorem afT (h : tv R M) (hm : m < R.m.toNat) : (dF id ev R M m = 0 \/ dF id ev R M m = 9) /\ ii M (eg id ev R M m) := by
 have hl : m < M.ds.length := by have := h.len; omega
 have h2 := h.two m hm;have r0 : dr M m 0 = if (M.ds.getD m bF).g = true then 9 else 0 := mJ (n := 0) h.cq hl (by omega)
 have r1 : dr M m 1 = if (M.ds.getD m bF).g = true then 9 else 0 := mJ (n := 1) h.cq hl (by omega)
 cases hg : (M.ds.getD m bF).g with
 |true =>
  rw [hg, if_pos rfl] at r0;have hn : ¬ dr M m 0 = 0 := fun e => by rw [r0] at e; exact absurd e (by decide)
  exact ⟨.inr (by unfold dF; rw [if_neg hn, r0]), by unfold eg; rw [if_neg fun e => hn e.1]; exact ii.refl M⟩
 |false =>
  rw [hg, if_neg (by decide)] at r0 r1;obtain ⟨n, hn⟩ : ∃ n, mD (gF M m 0) (gF M m 1) = n := ⟨_, rfl⟩;have hn2 : n < 2 := by rw [<- hn]; exact acB _ _
  have hst : M.fo = 0 := by unfold aV.fo; rw [h.left]; rfl
  have hw : eG M m (n : Int) = 0 := by
   unfold eG;rw [if_pos (by rw [mJ h.cq hl (by omega), hg]; rfl), hst]
  have hT : sY id ev R M m = [.wr (n : Int) (gC ev ⟨id, m, R⟩), .fl] := by unfold sY; rw [hn]
  have h1 := go_ok (d := (m : Int)) (M := M) (s := .wr (n : Int) (gC ev ⟨id, m, R⟩)) (l := [.fl]) hw;have k1 := xQ h.left h.cq hl (n : Int) (gC ev ⟨id, m, R⟩);have hg' : ((dW M m (n : Int) (gC ev ⟨id, m, R⟩)).ds.getD m bF).g = false := by
   unfold dW;rw [if_pos (by rw [mJ h.cq hl (by omega), hg]; rfl), if_neg (by rw [h.left]; omega)]
   show ((M.ds.set m _).getD m bF).g = false
   rw [xF _ _ _ _ _ hl, if_pos rfl];exact hg
  obtain ⟨M1, hM1⟩ : ∃ M1, dW M m (n : Int) (gC ev ⟨id, m, R⟩) = M1 := ⟨_, rfl⟩;have hst1 : sP (m : Int) M (.wr (n : Int) (gC ev ⟨id, m, R⟩)) = M1 := hM1;rw [hM1] at k1 hg';have hl1 : m < M1.ds.length := by rw [k1.len]; exact hl
  have hf : eI M1 m = 0 := by
   have hfa : iT M1 m = 0 := by
    unfold iT;have : (M1.dev (m : Int)).g = false := hg';rw [if_pos (lZ (k1.cq.trans h.cq) hl1), this]
    rfl
   unfold eI;rw [if_pos hfa];unfold aV.fo;rw [k1.left h.left]
   rfl
  have h3 := go_ok (d := (m : Int)) (M := M1) (s := .fl) (l := []) hf;have k2 := yf (k1.left h.left) (k1.cq.trans h.cq) hl1;refine ⟨.inl ?_, ?_⟩
  ·unfold dF;rw [if_pos r0, if_pos r1, hT, h1.1, hst1, h3.1]
   rfl
  ·unfold eg;rw [if_pos ⟨r0, r1⟩, hT, h1.2, hst1, h3.2];exact k1.trans k2
theorem pK : ∀ (k m : Nat) (M : aV), m + k <= R.m.toNat -> tv R M -> (dn id ev R k m M).2.1 = 0 /\ ii M (dn id ev R k m M).2.2
 |0, m, M, _, h => ⟨rfl, ii.refl M⟩
 |k + 1, m, M, hk, h => by
  rw [dn]
  split
  ·exact pK k (m + 1) M (by omega) h
  ·obtain ⟨p1, p2⟩ := afT (id := id) (ev := ev) h (m := m) (by omega)
   split
   ·exact ⟨rfl, p2⟩
   ·rename_i h9
    have h0 : dF id ev R M m = 0 := by rcases p1 with e | e; exact e; exact absurd e h9
    rw [if_pos h0];obtain ⟨q1, q2⟩ := pK k (m + 1) _ (by omega) (h.keep p2 rfl);exact ⟨q1, p2.trans q2⟩
theorem rE : ∀ (f : Nat) (h : HuS), aW h.R = true -> tv h.R h.M -> ly (jX h.R) h.R.m.toNat < f -> (fe f h).1 = 0 /\ ii h.M (fe f h).2.M
 |0, h, _, _, hp => absurd hp (by omega)
 |f + 1, h, hf, hl, hp => by
  obtain ⟨o1, o2⟩ := pK (id := h.id) (ev := h.ev + 1) (R := h.R) h.R.m.toNat 0 h.M (by omega) hl;rw [fe];obtain ⟨O, hO⟩ : ∃ O, dn h.id (h.ev + 1) h.R h.R.m.toNat 0 h.M = O := ⟨_, rfl⟩;rw [hO] at o1 o2 ⊢;obtain ⟨a, e, M'⟩ := O;cases a with
  |none => exact ⟨o1, o2⟩
  |some d =>
   obtain ⟨_, hd, hs⟩ := jE _ _ _ hO;have hls := sV hf (d := d) (by omega) hs;have hq : jX h.R d = true := ao hs;have hq' : jX (dM h.R d) d = false := by unfold jX; rw [hls.2 d, if_pos rfl]; rfl
   have hsub : ∀ j, jX (dM h.R d) j = true -> jX h.R j = true := fun j hj => by
    unfold jX at hj ⊢;rw [hls.2 j] at hj;by_cases e : j = d
    ·rw [if_pos e] at hj; simp at hj
    ·rwa [if_neg e] at hj
   have hlt := sR hsub hq hq' (n := h.R.m.toNat) (by omega);obtain ⟨s1, s2⟩ := rE f ⟨M', h.id, h.ev + 1, dM h.R d⟩ (l9 _ hf) (hl.keep o2 hls.1) (by show ly (jX (dM h.R d)) (dM h.R d).m.toNat < f; rw [hls.1]; omega);exact ⟨s1, o2.trans s2⟩
theorem qm (hf : aW h.R = true) (hl : tv h.R h.M) : fT h = 0 /\ ii h.M (fk h).M := rE 17 h hf hl (by have := ye (jX h.R) h.R.m.toNat; have := lD hf; omega)
end
def bx (a b : Blk) : Blk := Vector.zipWith (· ^^^ ·) a b
def HRm (h : HuS) : Prop := Room h.M 600 /\ h.ev <= 4611686018427387000
section
variable {id ev : Nat} {R : Ros} {M : aV} {k m : Nat} {h : HuS} {d : Int}
structure HR (k : Nat) (h : HuS) : Prop where
 rm : Room h.M (600 * k)
 ev : h.ev + 17 * k <= 4611686018427387000
 fine : aW h.R = true
 lit : tv h.R h.M
theorem HR.less {n : Nat} (h' : HR n h) (hm : m <= n) : HR m h := ⟨cM h'.rm (by omega), by have := h'.ev; omega, h'.fine, h'.lit⟩
theorem HR.hrm (h' : HR (k + 1) h) : HRm h := ⟨cM h'.rm (by omega), by have := h'.ev; omega⟩
theorem HR.sav (h' : HR (k + 1) h) : HR k (fk h) /\ fq h.R (fk h).R /\ (fk h).id = h.id := by
 obtain ⟨k1, k2, k3, k4⟩ := sM (k := 600 * k) 17 h h'.fine (cM h'.rm (by omega));exact ⟨⟨k1, by have := h'.ev; have : (fk h).ev <= h.ev + 17 := k3; omega, k2.fine, h'.lit.keep (qm h'.fine h'.lit).2 k2.m⟩, k2, k4⟩
theorem HR.ded (h' : HR (k + 1) h) (m : Nat) : HR k (mB h m) /\ fq h.R (mB h m).R /\ (mB h m).id = h.id := by
 have hk := fq.los h'.fine (m : Int);have h1 : HR (k + 1) (kE h m) := ⟨h'.rm, h'.ev, hk.fine, h'.lit.keep (ii.refl _) hk.m⟩;obtain ⟨k1, k2, k3⟩ := h1.sav;exact ⟨k1, hk.trans k2, k3⟩
theorem HR.ajO (h' : HR k h) (s m : Int) : wL h s m := fun _ => (qm (h := kE h m.toNat) (fq.los h'.fine (m.toNat : Int)).fine (h'.lit.keep (ii.refl _) (fq.los h'.fine (m.toNat : Int)).m)).1
theorem HR.hwr (h' : HR (k + 1) h) (s m : Int) (b : Blk) : HR k (fU h s m b) /\ fq h.R (fU h s m b).R /\ (fU h s m b).id = h.id := by
 unfold fU
 split
 ·rename_i hc
  split
  ·exact h'.ded _
  ·have hq : eQ h.R m = true := by
    have := hc.2.2;unfold hasB at this;simp only [Bool.and_eq_true] at this;exact this.2.1
   have hq2 := of_decide_eq_true hq;obtain ⟨j, hj⟩ : ∃ j : Nat, m = (j : Int) := ⟨m.toNat, by omega⟩;subst hj;have hjl : j < h.M.ds.length := by have := h'.lit.len; omega
   exact ⟨⟨sC (cM h'.rm (by omega)) _ _ _, by have := h'.ev; show h.ev + _ <= _; omega, h'.fine, h'.lit.keep (xQ h'.lit.left h'.lit.cq hjl _ _) rfl⟩, fq.refl h'.fine, rfl⟩
 ·exact ⟨h'.less (by omega), fq.refl h'.fine, rfl⟩
theorem ym (M : aV) (d : Int) : ii M (js M d) := by
 unfold js
 split
 ·rename_i he
  rcases jH M d with ⟨e, _⟩ | ⟨_, j, rfl, hj⟩
  ·omega
  ·refine ⟨rfl, fun e => e, List.length_set, fun i => ?_⟩
   show ((M.ds.set j _).getD i bF).S.length = _
   rw [xF _ _ _ _ _ hj]
   split
   ·rename_i e; subst e; rfl
   ·rfl
 ·exact ii.refl M
theorem HR.fail (h' : HR k h) (d : Int) : HR k { h with M := js h.M d } := ⟨aeS h'.rm d, h'.ev, h'.fine, h'.lit.keep (ym h.M d) rfl⟩
theorem HR.new {N : Nat} {s : Int} (h1 : 3 <= N) (h2 : N <= 16) (h3 : 1 <= s) (h4 : s <= 64) {n : Nat} (hn : n <= 1600) (id : Nat) : HR n ⟨fg (szK N s), id, 0, neR N s⟩ := ⟨acD (by omega), by show 0 + _ <= _; omega, ka h1 h2 h3 h4, rfl, rfl, by show (neR N s).m.toNat < _; rw [adB, lQ]; omega, fun m hm => by
 have hm' : m < (neR N s).m.toNat := hm;rw [adB] at hm';rw [lI hm']
 show 2 <= (List.replicate _ _).length
 rw [List.length_replicate];omega⟩
end
def LwE : Elt (Int × Blk) := acL 128 192 underlying128 (by kernel_rfl)
theorem et {w : World} {b : Nat} {t : TypeId} {x y z u : Value} (h : w.heap[b]? = some (.cells #[x, y, z, u] t (0, 0))) : w.cell? ⟨b, 0, none⟩ = some x /\ w.cell? ⟨b, 1, none⟩ = some y /\ w.cell? ⟨b, 2, none⟩ = some z /\ w.cell? ⟨b, 3, none⟩ = some u := by
 refine ⟨?_, ?_, ?_, ?_⟩
 ·rw [cell_of_row w b 0 _ t (0, 0) h]; rfl
 ·rw [cell_of_row w b 1 _ t (0, 0) h]; rfl
 ·rw [cell_of_row w b 2 _ t (0, 0) h]; rfl
 ·rw [cell_of_row w b 3 _ t (0, 0) h]; rfl
structure PD (w : World) (p : Nat) (vS vL : Value) (S : List Blk) (L : List (Int × Blk)) (g : Bool) : Prop where
 at_ : w.heap[p]? = some (.cells #[.int .i64 (S.length : Int), vS, vL, .bool g] 130)
 one : 1 <= S.length
 S_ : aN oU w 0 vS (if g = true then [] else S)
 L_ : aN LwE w 0 vL L
 dead : g = true -> L = []
section
variable {w w' : World} {p : Nat} {vS vL : Value} {S : List Blk} {L : List (Int × Blk)} {g : Bool} {F : Nat -> Prop}
theorem PD.lt (h : PD w p vS vL S L g) : ∀ k, foot p vS vL k -> k < w.heap.size := by
 intro k hk;rcases hk with rfl | hk | hk
 ·exact (Array.getElem?_eq_some_iff.1 h.at_).1
 ·exact h.S_.ju k hk
 ·exact h.L_.ju k hk
theorem PD.only (h : PD w p vS vL S L g) (k : Only F w w') (hn : ∀ b, foot p vS vL b -> ¬ F b) : PD w' p vS vL S L g :=
 ⟨k.keep h.at_ (hn p (.inl rfl)), h.one, h.S_.only k fun b hb => hn b (.inr (.inl hb)), h.L_.only k fun b hb => hn b (.inr (.inr hb)), h.dead⟩
theorem PD.below (h : PD w p vS vL S L g) (k : Below w.heap.size w w') : PD w' p vS vL S L g := h.only (Only.of_below (fun _ => False) k) fun _ _ e => e
theorem PD.alive (h : PD w p vS vL S L false) : aN oU w 0 vS S := h.S_
end
theorem kw (p : Nat) (vS vL : Value) (S : List Blk) (L : List (Int × Blk)) (g : Bool) (w : World) (h : PD w p vS vL S L g) :
  Calls prog 63 #[.pointer (some ⟨p, 0, none⟩)] w fun e w' => e = .returned (.bool true) /\ w = w' := by
 obtain ⟨c0, c1, c2, c3⟩ := et h.at_;have h1 : 0 < S.length := h.one;go_enter func63, ntmps63;go_wp2;go_ret;exact ⟨rfl, rfl⟩
theorem abR (p : Nat) (vS vL : Value) (S : List Blk) (L : List (Int × Blk)) (g : Bool) (n : Int) (w : World) (h : PD w p vS vL S L g) :
  Calls prog 109 #[.pointer (some ⟨p, 0, none⟩), .int .i64 n] w fun e w' => e = .returned (.bool (decide (0 <= n /\ n < S.length))) /\ w = w' := by
 obtain ⟨c0, c1, c2, c3⟩ := et h.at_;by_cases h0 : 0 <= n
 ·by_cases h1 : n < S.length
  ·have HD := ae (ao (p := 0 <= n /\ n < S.length) ⟨h0, h1⟩);go_enter func109, ntmps109;go_wp2;go_ret;exact ⟨bf HD.out.symm, rfl⟩
  ·have HD := ae (am (p := 0 <= n /\ n < S.length) (fun e => h1 e.2));go_enter func109, ntmps109;go_wp2;go_ret;exact ⟨bf (am (by omega)).symm, rfl⟩
 ·have HD := ae (am (p := 0 <= n /\ n < S.length) (fun e => h0 e.1));go_enter func109, ntmps109;go_wp2;go_ret;exact ⟨bf (by have e : decide (0 <= n) = false := am (by omega); rw [e]; rfl), rfl⟩
theorem fX (p : Nat) (vS vL : Value) (S : List Blk) (L : List (Int × Blk)) (g : Bool) (n : Int) (w : World) (h : PD w p vS vL S L g) :
  Calls prog 73 #[.pointer (some ⟨p, 0, none⟩), .int .i64 n] w fun e w' => e = .returned (.int .i64 (dN S g n)) /\ w = w' := by
 obtain ⟨c0, c1, c2, c3⟩ := et h.at_;by_cases h1 : 0 <= n /\ n < S.length
 ·have HD := ae (ao h1);cases g
  ·have HE := ae (mm h1);clear h1;go_enter func73, ntmps73;go_wp2_with fail;refine (kw p vS vL S L false w h).mono ?_;rintro e w1 ⟨rfl, rfl⟩;go_wp2_with fail;refine (abR p vS vL S L false n w h).mono ?_;rintro e w1 ⟨rfl, rfl⟩;rw [HD.out];go_wp2_with fail;go_ret;exact ⟨dv HE.out.symm, rfl⟩
  ·have HE := ae (zu h1);clear h1;go_enter func73, ntmps73;go_wp2_with fail;refine (kw p vS vL S L true w h).mono ?_;rintro e w1 ⟨rfl, rfl⟩;go_wp2_with fail;refine (abR p vS vL S L true n w h).mono ?_;rintro e w1 ⟨rfl, rfl⟩;rw [HD.out];go_wp2_with fail;go_ret;exact ⟨dv HE.out.symm, rfl⟩
 ·have HD := ae (am h1);have HE := ae (acf g h1);clear h1;go_enter func73, ntmps73;go_wp2_with fail;refine (kw p vS vL S L g w h).mono ?_;rintro e w1 ⟨rfl, rfl⟩;go_wp2_with fail;refine (abR p vS vL S L g n w h).mono ?_;rintro e w1 ⟨rfl, rfl⟩;rw [HD.out];go_wp2_with fail;go_ret;exact ⟨dv HE.out.symm, rfl⟩
theorem aaN (p : Nat) (vS vL : Value) (S : List Blk) (L : List (Int × Blk)) (g : Bool) (w : World) (h : PD w p vS vL S L g) :
  Calls prog 118 #[.pointer (some ⟨p, 0, none⟩)] w fun e w' => e = .returned (.int .i64 (S.length : Int)) /\ w = w' := by
 obtain ⟨c0, c1, c2, c3⟩ := et h.at_;go_enter func118, ntmps118;go_wp2_with fail;refine (kw p vS vL S L g w h).mono ?_;rintro e w1 ⟨rfl, rfl⟩;go_wp2_with fail;go_ret;exact ⟨rfl, rfl⟩
theorem ahZ (p : Nat) (vS vL : Value) (S : List Blk) (L : List (Int × Blk)) (g : Bool) (w : World) (h : PD w p vS vL S L g) :
  Calls prog 106 #[.pointer (some ⟨p, 0, none⟩)] w fun e w' => e = .returned (.bool g) /\ w = w' := by
 obtain ⟨c0, c1, c2, c3⟩ := et h.at_;go_enter func106, ntmps106;go_wp2_with fail;refine (kw p vS vL S L g w h).mono ?_;rintro e w1 ⟨rfl, rfl⟩;go_wp2_with fail;go_ret;exact ⟨rfl, rfl⟩
theorem ag5 (p : Nat) (vS vL : Value) (S : List Blk) (L : List (Int × Blk)) (g : Bool) (n : Int) (w : World) (h : PD w p vS vL S L g) :
  Calls prog 35 #[.pointer (some ⟨p, 0, none⟩), .int .i64 n] w fun e w' => e = .returned (.tuple #[blk (iI S g n), .int .i64 (dN S g n)]) /\ Below w.heap.size w w' := by
 have hA := (Below.refl w.heap.size w).alloc aj (.cells (cel aJ).toArray 44);have h1 := h.below hA;have HT := ae (fB w aJ 44);have HA := ae hA;clear hA;rcases iL (S := S) (g := g) (n := n) with he | he | ⟨he, rfl, k, rfl, hk⟩
 ·have HS := ae (tQ (S := S) (g := g) (n := n) (by omega));have HE := ae he;clear he;go_enter func35, ntmps35;go_wp2_with (first | (refine az rfl (bU rfl) ?_) | fail);refine (fX p vS vL S L g n _ h1).mono ?_;rintro e w1 ⟨rfl, rfl⟩;rw [HE.out];go_wp2_with (first | (refine az rfl (dy (c := aJ) (parts := []) rfl rfl) ?_) | (refine bN rfl (bO rfl rfl rfl HT.out) ?_));refine bodyPost_ret (dC rfl _ _ _ rfl (World.rangeAt_setCells_same _ _ _ _ (by rw [aO]; exact HT))) rfl ⟨by rw [HS.out, HE.out]; rfl, below_setCells HA aj _⟩
 ·have HS := ae (tQ (S := S) (g := g) (n := n) (by omega));have HE := ae he;clear he;go_enter func35, ntmps35;go_wp2_with (first | (refine az rfl (bU rfl) ?_) | fail);refine (fX p vS vL S L g n _ h1).mono ?_;rintro e w1 ⟨rfl, rfl⟩;rw [HE.out];go_wp2_with (first | (refine az rfl (dy (c := aJ) (parts := []) rfl rfl) ?_) | (refine bN rfl (bO rfl rfl rfl HT.out) ?_));refine bodyPost_ret (dC rfl _ _ _ rfl (World.rangeAt_setCells_same _ _ _ _ (by rw [aO]; exact HT))) rfl ⟨by rw [HS.out, HE.out]; rfl, below_setCells HA aj _⟩
 ·have HS := ae (tX he);have HE := ae he;clear he;obtain ⟨A, c, rfl, hrd, hc1, hc2⟩ := h1.alive.open_ rfl;obtain ⟨b, off, rfl, hb, hr⟩ := hrd.blk hk;obtain ⟨c0, c1, c2, c3⟩ := et h1.at_;generalize S.getD k aJ = x at *;have HR := ae hr;clear hr hrd;go_enter func35, ntmps35;go_wp2_with (first | (refine az rfl (bU rfl) ?_) | fail);refine (fX p _ vL S L false k _ h1).mono ?_;rintro e w1 ⟨rfl, rfl⟩;rw [HE.out];go_wp2_with (first | (refine az rfl (bI rfl rfl HR.out) ?_) | (refine bN rfl (bO rfl rfl rfl HT.out) ?_));refine bodyPost_ret (dC rfl _ _ _ rfl (World.rangeAt_setCells_same _ _ _ _ (by rw [aO]; exact HT))) rfl ⟨by rw [HS.out, HE.out]; rfl, below_setCells HA aj _⟩
section
variable {w w' : World} {p : Nat} {vS vL : Value} {S : List Blk} {L : List (Int × Blk)} {g : Bool}
theorem yg (hp : w.heap[p]? = some (.cells #[.int .i64 (S.length : Int), vS, vL, .bool g] 130)) (h1 : 1 <= S.length) (hS : aN oU w 0 vS (if g = true then [] else S)) {vL' : Value} {L' : List (Int × Blk)} (h' : aN LwE w 0 vL' L') (hd : g = true -> L' = []) : PD (w.setCell ⟨p, 2, none⟩ vL') p vS vL' S L' g := by
 have hO := kg w p 2 vL';refine ⟨?_, h1, hS.only hO fun b hb e => hS.eU hp (by decide) (by rw [hb, e]), h'.only hO fun b hb e => h'.eU hp (by decide) (by rw [hb, e]), hd⟩;have := heap_setCell_same w p 2 _ _ vL' hp
 simpa using this
theorem PD.eu (h : PD w p vS vL S L g) {vL' : Value} {L' : List (Int × Blk)} (h' : aN LwE w 0 vL' L') (hd : g = true -> L' = []) : PD (w.setCell ⟨p, 2, none⟩ vL') p vS vL' S L' g := yg h.at_ h.one h.S_ h' hd
theorem aiM {b : Nat} : (Instr.fieldAt 130 (.pointer (some ⟨b, 0, none⟩)) 1).run prog w = .ok (.pointer (some ⟨b, 1, none⟩)) w := by kernel_rfl
theorem agA {b : Nat} : (Instr.fieldAt 130 (.pointer (some ⟨b, 0, none⟩)) 2).run prog w = .ok (.pointer (some ⟨b, 2, none⟩)) w := by kernel_rfl
theorem ahe {b off : Nat} : (Instr.fieldAt 192 (.pointer (some ⟨b, off, none⟩)) 0).run prog w = .ok (.pointer (some ⟨b, off, none⟩)) w := by kernel_rfl
theorem aiw {b off : Nat} : (Instr.fieldAt 192 (.pointer (some ⟨b, off, none⟩)) 1).run prog w = .ok (.pointer (some ⟨b, off + 1, none⟩)) w := by kernel_rfl
theorem ldP {a : Addr} {A : Option Addr} {n c : Nat} (h : w.cell? a = some (.slice A n c)) : (Instr.loadAt 128 (.pointer (some a))).run prog w = .ok (.slice A n c) w := by simp [go_sem, h]
theorem stP {a : Addr} {v : Value} {A : Option Addr} {n c : Nat} (h : w.cell? a = some v) (hf : w.frozen? a = false) : (Instr.storeAt 128 (.pointer (some a)) (.slice A n c)).run prog w = .ok () (w.setCell a (.slice A n c)) := by simp [go_sem, h, hf]
theorem xB (k : Int) (b : Blk) : (Instr.build 192 #[(0, .int .i64 k), (1, blk b)]).run prog w = .ok (nB k b) w := by
 have hz := mV LwE w;have h1 := dk (place := fun i => (#[(0, 1), (1, 64)] : Array (Nat × Nat))[i]?) (i := 0) (off := 0) (size := 1) (v := .int .i64 k) (pre := []) (mid := [.int .i64 0]) (post := cel aJ) (vs := [.int .i64 k]) (rest := [(1, blk b)]) rfl rfl rfl rfl rfl;have h2 := dk (place := fun i => (#[(0, 1), (1, 64)] : Array (Nat × Nat))[i]?) (i := 1) (off := 1) (size := 64) (v := blk b) (pre := [.int .i64 k]) (mid := cel aJ) (post := []) (vs := cel b) (rest := []) rfl rfl (aO b) rfl (aO aJ);simp only [List.nil_append, List.append_nil, List.singleton_append] at h1 h2;have h3 := h1.trans h2;have hz' : (zeroValue 192).run prog w = .ok (nB 0 aJ) w := hz;have hc : (nB 0 aJ).cells = (.int .i64 0 :: cel aJ).toArray := rfl;simp only [Instr.build, Sem.run_bind, hz', run_underlying underlying192, Result.andThen_ok, hc];refine Eq.trans (congrArg (fun r => Result.andThen r _) (?h : _ = Result.ok #[(0, 1), (1, 64)] w)) ?_
 case h => kernel_rfl
 simp only [Result.andThen_ok];have h4 : Instr.fill (fun i => (#[(0, 1), (1, 64)] : Array (Nat × Nat))[i]?) (.int .i64 k :: cel b).toArray [] = some (.int .i64 k :: cel b).toArray := by rw [Instr.fill]
 rw [h3.trans h4]
 rfl
theorem tu {ρ : Operand -> Value} {o : Oper} {x y : Operand} {k : Int} {b : Blk} (ho : o.op = .build 192 #[(0, x), (1, y)]) (hx : ρ x = .int .i64 k) (hy : ρ y = blk b) : (execOp ρ o).run prog w = .ok (.value (nB k b)) w := by
 have h := xB (w := w) k b;unfold execOp;simp only [ho, List.map_toArray, List.map_cons, List.map_nil, hx, hy, Sem.run_bind, h, Result.andThen_ok, Sem.run_pure]
theorem uV (k : Int) (b : Blk) : (nB k b).cells = (LwE.cel (k, b)).toArray := rfl
end
theorem ahs (p : Nat) (vS vL : Value) (S : List Blk) (L : List (Int × Blk)) (g : Bool) (w : World) (h : PD w p vS vL S L g) :
  Calls prog 29 #[.pointer (some ⟨p, 0, none⟩)] w fun e w' => e = .returned (.int .i64 0) /\ PD w' p (.slice none 0 0) (.slice none 0 0) S [] true /\ Only (foot p vS vL) w w' := by
 obtain ⟨c0, c1, c2, c3⟩ := et h.at_;have f0 := frozen_of_row w p 0 _ _ h.at_;have f1 := frozen_of_row w p 1 _ _ h.at_;have f2 := frozen_of_row w p 2 _ _ h.at_;have f3 := frozen_of_row w p 3 _ _ h.at_;have H := ae h;clear h;go_enter func29, ntmps29;go_wp2_with fail;refine (kw p vS vL S L g w H).mono ?_;rintro e w1 ⟨rfl, rfl⟩;go_wp2_with fail;go_ret;refine ⟨rfl, ⟨?_, H.out.one, aN.nil _ _, aN.nil _ _, fun _ => rfl⟩, ?_⟩
 ·have h0 := H.out.at_;have h1 := heap_setCell_same w p 0 _ _ (.int .i64 (S.length : Int)) h0;have h2 := heap_setCell_same _ p 1 _ _ (.slice none 0 0) h1;have h3 := heap_setCell_same _ p 2 _ _ (.slice none 0 0) h2;have h4 := heap_setCell_same _ p 3 _ _ (.bool true) h3
  simpa using h4
 ·have hO : Only (fun b => b = p) w w := Only.refl _ _;exact ((((hO.setCell (p := ⟨p, 0, none⟩) (.inl rfl) _).setCell (p := ⟨p, 1, none⟩) (.inl rfl) _).setCell (p := ⟨p, 2, none⟩) (.inl rfl) _).setCell (p := ⟨p, 3, none⟩) (.inl rfl) _).widen fun b hb => .inl hb
theorem xy (p : Nat) (vS vL : Value) (S : List Blk) (L : List (Int × Blk)) (g : Bool) (n : Int) (b : Blk) (w : World) (h : PD w p vS vL S L g) (he0 : dN S g n ≠ 0) :
  Calls prog 114 #[.pointer (some ⟨p, 0, none⟩), .int .i64 n, blk b] w fun e w' => e = .returned (.int .i64 (dN S g n)) /\ Below w.heap.size w w' := by
 have hA := (Below.refl w.heap.size w).alloc aj (.cells (cel b).toArray 44);have h1 := h.below hA;have HA := ae hA;clear hA;have H0 := ae he0;rcases iL (S := S) (g := g) (n := n) with he | he | ⟨he, _⟩
 rotate_right 1
 ·exact absurd he he0
 all_goals
  have HE := ae he;clear he he0;go_enter func114, ntmps114;go_wp2_with (first | (refine az rfl (cY rfl rfl) ?_) | fail);refine (fX p vS vL S L g n _ h1).mono ?_;rintro e w1 ⟨rfl, rfl⟩;rw [HE.out];go_wp2_with fail;go_ret;exact ⟨dv HE.out.symm, HA⟩
theorem v7 (p k : Nat) (vS vL : Value) (S : List Blk) (L : List (Int × Blk)) (b : Blk) (w : World) (h : PD w p vS vL S L false) (hk : k < S.length) (hL : L.length < 1000000) :
  Calls prog 114 #[.pointer (some ⟨p, 0, none⟩), .int .i64 k, blk b] w fun e w' => e = .returned (.int .i64 0) /\ ∃ vL', PD w' p vS vL' S (L ++ [((k : Int), b)]) false /\ Only (foot p vS vL) w w' /\ (∀ x, vL'.ownBlock = some x -> vL.ownBlock = some x \/ w.heap.size <= x) := by
 have hA := (Below.refl w.heap.size w).alloc aj (.cells (cel b).toArray 44);have h1 := h.below hA;have HA := ae hA;have HE := ae (mm (S := S) (n := (k : Int)) (by omega));have HB := ae (lM w (cel b).toArray 44);clear hA;obtain ⟨AL, cL, rfl, hl1, hl2⟩ := h1.L_.form;go_enter func114, ntmps114;go_wp2_with (first | (refine az rfl (cY rfl rfl) ?_) | fail);refine (fX p vS _ S L false k _ h1).mono ?_;rintro e w1 ⟨rfl, rfl⟩;rw [HE.out];go_wp2_with fail;generalize hy : w.heap.size = y at *;generalize w.alloc (.cells (cel b).toArray 44) = w1 at *;refine oX (fun w' => w'.heap[p]? = some (.cells #[.int .i64 (S.length : Int), vS, .slice AL L.length cL, .bool false] 130) /\ w'.heap[y]? = some (.cells (cel b).toArray 44)) 12 (by kernel_rfl) ?_;change fx _ _ _ _ _ _ 13 _ _ w1.drew;have hS : w1.drew.heap[p]? = some (.cells #[.int .i64 (S.length : Int), vS, .slice AL L.length cL, .bool false] 130) /\ w1.drew.heap[y]? = some (.cells (cel b).toArray 44) := ⟨h1.at_, HB⟩;refine akn 0 rfl (fun _ hw => aM rfl akt) hS ?_;refine akn 1 rfl (fun _ hw => aM rfl akt) hS ?_;refine akn 2 rfl (fun _ hw => bq rfl akt) hS ?_;refine akn 3 rfl (fun _ hw => ax rfl akt agA) hS ?_;refine akn 4 rfl (fun _ hw => aD rfl akt (ldP (et hw.1).2.2.1)) hS ?_;refine akn 5 rfl (fun _ hw => aM rfl akt) hS ?_;refine akn 6 rfl (fun _ hw => bI rfl akt (rH hw.2)) hS ?_;refine akn 7 rfl (fun _ hw => tu rfl akt akt) hS ?_;have hr : PD w1.drew p vS (.slice AL L.length cL) S L false := ⟨h1.at_, h1.one, h1.S_, h1.L_, h1.dead⟩;have hS2 : PD (w1.drew.alloc (.cells (LwE.cel ((k : Int), b)).toArray LwE.t)) p vS (.slice AL L.length cL) S L false := hr.below (ak.alloc aj _);have hb2 := bu hS.2 (.cells (LwE.cel ((k : Int), b)).toArray LwE.t);have hnew : RdE LwE _ _ _ 1 _ := fS (E := LwE) (l := [((k : Int), b)]) w1.drew (LwE.cel ((k : Int), b)).toArray LwE.t (by rw [eL]; simp [cE]);obtain ⟨v3, w3, hrun, hm3, hg3, ho3⟩ := jL LwE _ 128 0 _ 1 1 _ _ _ _ hS2.L_ hnew (Nat.zero_le _) (by omega);have hO2 : Only (foot p vS (.slice AL L.length cL)) w (w1.drew.alloc (.cells (LwE.cel ((k : Int), b)).toArray LwE.t)) := (Only.of_below _ (hy ▸ HA.out)).drew.alloc _;have hO3 := hO2.grown hg3 (fun x hx => .inl (.inr (.inr hx)));have hp3 : w3.heap[p]? = some (.cells #[.int .i64 (S.length : Int), vS, .slice AL L.length cL, .bool false] 130) := (hg3.block p (aU hS2.at_) (fun e => hS2.L_.eU hS2.at_ (by decide) e.symm)).trans hS2.at_;have hy3 : w3.heap[y]? = some (.cells (cel b).toArray 44) := (hg3.block y (aU hb2) (fun e => hS2.L_.eU hb2 (by decide) e.symm)).trans hb2;have hSS3 := hS2.S_.kept hg3 (hS2.S_.other hS2.L_ (by decide));refine kQ 8 rfl (by kernel_rfl) rfl (eA (E := LwE) (a := ((k : Int), b)) rfl akt (uV _ _) (by decide)) (fun _ => ⟨hS2.at_, hb2⟩) ?_;simp only [aa];refine kQ 9 rfl (by kernel_rfl) rfl (gh (E := LwE) rfl akt akt hrun) (fun _ => ⟨hp3, hy3⟩) ?_;simp only [aa];refine kQ 10 rfl (by kernel_rfl) rfl (bq rfl akt) (fun _ => ⟨hp3, hy3⟩) ?_;simp only [aa];refine kQ 11 rfl (by kernel_rfl) rfl (ax rfl akt agA) (fun _ => ⟨hp3, hy3⟩) ?_;simp only [aa];obtain ⟨A3, c3, rfl, _, _⟩ := hm3.form;refine abS 12 rfl (by kernel_rfl) rfl (df rfl (ev rfl) (ev rfl) (stP (et hp3).2.2.1 (frozen_of_row _ _ _ _ _ hp3))) (fun e => absurd rfl e) ?_;simp only [Act.put];refine uL (by kernel_rfl) ?_ _;go_wp2_with fail;go_ret;refine ⟨rfl, _, yg hp3 h1.one hSS3 hm3 (fun e => absurd e (by decide)), hO3.setCell (.inl (.inl rfl)) _, fun x hx => ?_⟩;rcases ho3 x hx with e | e
 ·exact .inl e
 ·refine .inr (aq ?_ e);have := hO2.size;omega
theorem ad5 (p : Nat) (vS vL : Value) (S : List Blk) (L : List (Int × Blk)) (g : Bool) (n : Int) (b : Blk) (w : World) (h : PD w p vS vL S L g) (hL : L.length < 1000000) :
  Calls prog 114 #[.pointer (some ⟨p, 0, none⟩), .int .i64 n, blk b] w fun e w' => e = .returned (.int .i64 (dN S g n)) /\ ∃ vL', PD w' p vS vL' S (wrL S L g n b) g /\ Only (foot p vS vL) w w' /\ (∀ x, vL'.ownBlock = some x -> vL.ownBlock = some x \/ w.heap.size <= x) := by
 by_cases he : dN S g n = 0
 ·rcases iL (S := S) (g := g) (n := n) with h1 | h1 | ⟨_, rfl, k, rfl, hk⟩
  ·omega
  ·omega
  ·have e : wrL S L false k b = L ++ [((k : Int), b)] := by unfold wrL; rw [if_pos he]
   rw [e, he];exact v7 p k vS vL S L b w h hk hL
 ·have e : wrL S L g n b = L := by unfold wrL; rw [if_neg he]
  rw [e];exact (xy p vS vL S L g n b w h he).mono fun e w' ⟨h1, h2⟩ => ⟨h1, vL, h.below h2, Only.of_below _ h2, fun x hx => .inl hx⟩
theorem aj6 : ∃ d, prog.underlying LwE.t = some d /\ d.isRow = true := ⟨_, underlying192, rfl⟩
section
variable {ρ : Operand -> Value} {o : Oper} {x y : Operand} {w : World} {b off : Nat} {a : Int × Blk}
theorem oV (ho : o.op = .load LwE.t x) (hx : ρ x = .pointer (some ⟨b, off, none⟩)) (hc : w.rangeAt b off (fh a)) : (execOp ρ o).run prog w = .ok (.value (.agg (fh a).toArray)) w := by
 obtain ⟨d, h1, h2⟩ := aj6;exact wO (E := LwE) h1 h2 ho hx hc
theorem nt (ho : o.op = .alloc LwE.t) : (execOp ρ o).run prog w = .ok (.value (.pointer (some ⟨w.heap.size, 0, none⟩))) (w.alloc (.cells LwE.z.cells LwE.t)) := tl (E := LwE) ho
theorem qo (ho : o.op = .store LwE.t x y) (hx : ρ x = .pointer (some ⟨w.heap.size, 0, none⟩)) (hy : ρ y = .agg (fh a).toArray) : (execOp ρ o).run prog (w.alloc (.cells LwE.z.cells LwE.t)) = .ok .skip (w.alloc (.cells (fh a).toArray LwE.t)) := wX (E := LwE) ho hx hy
end
section
variable {w w' : World} {p gg n c k : Nat} {vL : Value} {S : List Blk} {L : List (Int × Blk)}
theorem PD.ic (h : PD w p (.slice (some ⟨gg, 0, none⟩) n c) vL S L false) (hk : k < n) (x : Blk) : PD (w.setCells gg (k * 64) (cel x)) p (.slice (some ⟨gg, 0, none⟩) n c) vL (S.set k x) L false := by
 have hO : Only (fun b => b = gg) w (w.setCells gg (k * 64) (cel x)) := (Only.refl (fun b => b = gg) w).setCells (.inl rfl) _ _;refine ⟨?_, by rw [List.length_set]; exact h.one, h.alive.store hk x, h.L_.only hO fun b hb e => ?_, fun e => absurd e (by decide)⟩
 ·rw [List.length_set];exact hO.keep h.at_ (fun e => h.S_.eU h.at_ (by decide) (by rw [e]; rfl))
 ·rcases h.L_.other h.S_ (by decide) with e' | e'
  ·rw [e'] at hb; cases hb
  ·exact e' (by rw [hb, e]; rfl)
end
theorem sg (p : Nat) (vS vL : Value) (S : List Blk) (L : List (Int × Blk)) (w : World) (h : PD w p vS vL S L true) :
  Calls prog 108 #[.pointer (some ⟨p, 0, none⟩)] w fun e w' => e = .returned (.int .i64 9) /\ w = w' := by
 obtain ⟨c0, c1, c2, c3⟩ := et h.at_;go_enter func108, ntmps108;go_wp2_with fail;refine (kw p vS vL S L true w h).mono ?_;rintro e w1 ⟨rfl, rfl⟩;go_wp2_with fail;go_ret;exact ⟨rfl, rfl⟩
theorem vH (p : Nat) (vS vL : Value) (S : List Blk) (L : List (Int × Blk)) (w : World) (h : PD w p vS vL S L false) (hF : Fit S L) :
  Calls prog 108 #[.pointer (some ⟨p, 0, none⟩)] w fun e w' => e = .returned (.int .i64 0) /\ PD w' p vS (.slice none 0 0) (flS S L) [] false /\ Only (foot p vS vL) w w' := by
 obtain ⟨c0, c1, c2, c3⟩ := et h.at_;obtain ⟨AL, cL, rfl, hl1, hl2⟩ := h.L_.form;unfold maxLen at hl2;have HH := ae h;have HF := ae hF;clear h hF;go_enter func108, ntmps108;go_wp2_with fail;refine (kw p vS _ S L false w HH).mono ?_;rintro e w1 ⟨rfl, rfl⟩;go_wp2_with fail;clear c0 c1 c2 c3
 go_loopw [4, 17] (fun v4 i wr => ∃ j : Nat, j <= L.length /\ i = .int .i64 j /\ PD wr p vS (.slice AL L.length cL) (flS S (L.take j)) L false /\ Only (foot p vS (.slice AL L.length cL)) w wr) (fun _ i _ => L.length - (intOf i).toNat)
 case atStart => exact ⟨0, Nat.zero_le _, rfl, HH, Only.refl _ _⟩
 case round =>
  obtain ⟨j, hj, rfl, hr, hon⟩ := hrel;by_cases hlt : j < L.length
  ·obtain ⟨k, hqk, hk⟩ := HF.out.at_ hlt;have hlenS := nW S (L.take j);obtain ⟨gS, cS, rfl⟩ := hr.alive.slice hlenS (by omega);obtain ⟨bA, oA, hAe, hAl, rA⟩ := hr.L_.rd.pairs hlt;have HS := ae (adR (S := S) hlt);rw [hqk] at HS;generalize hq : L.getD j (0, aJ) = q at *;obtain ⟨q1, x⟩ := q;obtain rfl : q1 = (k : Int) := hqk;clear hq;have h1 := hr.below (ak.alloc aj (.cells (fh ((k : Int), x)).toArray LwE.t));have HON := ae (hon.alloc (.cells (fh ((k : Int), x)).toArray LwE.t));have hnw := adl wr ((k : Int), x) LwE.t;have HRA := ae rA;subst hAe;clear rA hr hon;have hLL : (j : Int) < (L.length : Int) := by omega
   go_wp2_with (first | (refine az rfl (co (E := LwE) rfl rfl rfl hlt) ?_) | (refine az rfl (oV rfl rfl HRA.out) ?_) | (refine az rfl (nt rfl) ?_) | (refine bN rfl (qo rfl rfl rfl) ?_) | fail);generalize hy : wr.heap.size = y at *;generalize wr.alloc (.cells (fh ((k : Int), x)).toArray LwE.t) = w1 at *;obtain ⟨c0, c1, c2, c3⟩ := et h1.at_;have HA := ae c1;have HN := ae hnw;have H1 := ae h1;have HKT := ae (show w1.there gS (k * 64) 64 from by
    have := H1.out.alive.there hk (j := 0) (m := 64) aj;rw [Nat.add_zero] at this;exact this)
   clear c0 c1 c2 c3 hnw h1 hlenS;refine wp_region_still_tail 9 (by kernel_rfl) (by kernel_rfl) ?_;simp only [ac];refine aP rfl (aM rfl akt) ?_;simp only [aa];refine aP rfl (bq rfl akt) ?_;simp only [aa];refine aP rfl (ax rfl akt aiM) ?_;simp only [aa];refine aP rfl (aD rfl akt (ldB HA)) ?_;simp only [aa];refine aP rfl (ax rfl akt ahe) ?_;simp only [aa];refine aP rfl (aD rfl akt (ldI HN.out.1)) ?_;simp only [aa];refine aP rfl (ax rfl akt aiw) ?_;simp only [aa];refine aP rfl (bI rfl akt HN.out.2) ?_;simp only [aa];refine aP rfl (nw (E := oU) rfl akt akt hk) ?_;simp only [aa];refine wpStill_nil ?_;change wpList _ _ _ _ _ w1.drew;go_wp2_with (first | (refine bN rfl (bO rfl rfl rfl HKT.out) ?_) | fail);go_roundw
   case rel =>
    have hd : PD w1.drew p (.slice (some ⟨gS, 0, none⟩) S.length cS) (.slice (some ⟨bA, oA, none⟩) L.length cL) (flS S (L.take j)) L false := ⟨H1.out.at_, H1.out.one, H1.out.S_, H1.out.L_, H1.out.dead⟩;exact ⟨j + 1, by omega, by go_num, by rw [HS.out]; exact hd.ic hk x, HON.out.drew.setCells (.inl (.inr (.inl rfl))) _ _⟩
   case measure => simp [intOf]; omega
  ·have hjn : j = L.length := by omega
   subst hjn;obtain ⟨c0, c1, c2, c3⟩ := et hr.at_;have f2 := frozen_of_row wr p 2 _ _ hr.at_;have HRr := ae hr;have HON := ae hon;clear hr hon;have hLL : ¬((L.length : Int) < (L.length : Int)) := by omega
   go_wp2_with fail;go_ret;have hd := HRr.out.eu (aN.nil _ _) (fun _ => rfl);rw [List.take_length] at hd;exact ⟨rfl, hd, HON.out.setCell (.inl (.inl rfl)) _⟩
theorem acZ (k : Nat) (w : World) (h1 : 1 <= k) (h2 : k <= 512) :
  Calls prog 38 #[.int .i64 k] w fun e w' => ∃ p vS, e = .returned (.tuple #[.pointer (some ⟨p, 0, none⟩), .int .i64 0]) /\ PD w' p vS (.slice none 0 0) (List.replicate k aJ) [] false /\ Below w.heap.size w w' /\ ∀ b, foot p vS (.slice none 0 0) b -> w.heap.size <= b := by
 go_enter func38, ntmps38;have HM := ae (heap_alloc_new w (.cells (madeCells (cel aJ).toArray (k * 64)) 44));have HB := ae ((Below.refl w.heap.size w).alloc aj (.cells (madeCells (cel aJ).toArray (k * 64)) 44));have HSZ := ae (World.size_alloc w (.cells (madeCells (cel aJ).toArray (k * 64)) 44));go_wp2_with (first | (refine az rfl (qH (n := k) rfl rfl rfl (by omega)) ?_) | fail);generalize w.alloc (.cells (madeCells (cel aJ).toArray (k * 64)) 44) = w1 at *;go_ret2;have hS : aN oU w1 0 (.slice (some ⟨w.heap.size, 0, none⟩) k k) (List.replicate k aJ) := aN.of_block (E := oU) HM (by rw [<- qf]; rfl) (Nat.zero_le _) (by simp) (by unfold maxLen; omega);have hnw := heap_alloc_new w1 (.cells #[.int .i64 (k : Int), .slice (some ⟨w.heap.size, 0, none⟩) k k, .slice none 0 0, .bool false] 130);rw [HSZ.out] at hnw;refine ⟨w.heap.size + 1, _, rfl, ⟨by rw [List.length_replicate]; exact hnw, by simpa using h1, hS.below (ak.alloc aj _), aN.nil _ _, fun e => absurd e (by decide)⟩, HB.out.alloc HB.out.size _, fun b hb => ?_⟩;rcases hb with rfl | hb | hb
 ·omega
 ·simp [Value.ownBlock] at hb; omega
 ·simp [Value.ownBlock] at hb
theorem ac8 (n : Int) (w : World) (h : ¬(1 <= n /\ n <= 512)) :
  Calls prog 38 #[.int .i64 n] w fun e w' => e = .returned (.tuple #[.pointer none, .int .i64 2]) /\ w = w' := by
 have hor : n < 1 \/ (1 <= n /\ 512 < n) := by omega
 clear h;rcases hor with h | ⟨h, h'⟩
 all_goals
  go_enter func38, ntmps38;go_wp2;go_ret2;exact ⟨rfl, rfl⟩
def oc (o : Oper) : Bool := match o.op with
 |.defer _ => false
 |_ => true
theorem mh {o : Oper} (h : oc o = true) : ∀ c, o.op ≠ .defer c := by
 intro c e;unfold oc at h;rw [e] at h;cases h
section
variable {F : Fence} {n : Nat} {P : Program} {ops : Array Oper} {rest : List Oper} {o : Oper} {a : Act} {w w' : World} {Q : Exit -> Act -> World -> Prop} {v : Value}
theorem dR (hg : o.guard = none) (hd : oc o = true) (ha : o.about P w a.eval = none) (h : (execOp a.eval o).run P w = .ok (.value v) w') (hr : wpListIn F n P ops Q rest (a.put o.dst v) w') : wpListIn F n P ops Q (o :: rest) a w := by
 refine wpListIn_plain hg fun K hK => ?_
 unfold Oper.wpIn;refine ⟨fun f hf => (by rw [ha] at hf; cases hf), ?_⟩;rw [Oper.semAt_plain F _ _ (mh hd), h];exact hK _ _ hr
theorem lV (hg : o.guard = none) (hd : oc o = true) (ha : o.about P w a.eval = none) (h : (execOp a.eval o).run P w = .ok .skip w') (hr : wpListIn F n P ops Q rest (a.put o.dst undef) w') : wpListIn F n P ops Q (o :: rest) a w := by
 refine wpListIn_plain hg fun K hK => ?_
 unfold Oper.wpIn;refine ⟨fun f hf => (by rw [ha] at hf; cases hf), ?_⟩;rw [Oper.semAt_plain F _ _ (mh hd), h];exact hK _ _ hr
end
open Go.RowKit Go.Shelf
attribute [local go_sem] Oper.semAt_some
def cmd (L : List (Int × Blk)) : Nat -> List (Nat × (Int × Blk))
 |0 => []
 |d + 1 => cmd L d ++ [(L.length - 1 - d, L.getD (L.length - 1 - d) (0, aJ))]
theorem afu (L : List (Int × Blk)) (d : Nat) : (cmd L d).length = d := by
 induction d with
 |zero => rfl
 |succ d ih => rw [cmd, List.length_append, ih]; rfl
theorem yJ (L : List (Int × Blk)) (d i : Nat) (h1 : L.length - d <= i) (h2 : i < L.length) : (i, L.getD i (0, aJ)) ∈ cmd L d := by
 induction d with
 |zero => omega
 |succ d ih =>
  rw [cmd];by_cases e : L.length - d <= i
  ·exact List.mem_append.2 (.inl (ih e))
  ·have : i = L.length - 1 - d := by omega
   subst this;exact List.mem_append.2 (.inr (by simp))
def aem (x : Nat × (Int × Blk)) : Array Value := #[.int .i64 (x.1 : Int), .agg (fh x.2).toArray]
theorem sW (F : Fence) (n : Nat) (h : F.fn 150) (hro : F.round = none) (a : Option Addr) (len cap : Nat) (w : World) :
  CallsIn F n prog 150 #[.slice a len cap] w fun e w' => e = .returned (.func (.func 160) #[] #[.pointer (some ⟨w.heap.size, 0, none⟩)]) /\ w' = w.alloc (.cells #[.slice a len cap] 128) := by
 refine callsIn_of_wp func150 rfl h ?_ hro;simp only [ntmps150, List.size_toArray, List.length_cons, List.length_nil, Nat.reduceAdd, Nat.reduceSub, Array.replicate_succ, Array.replicate_zero, List.push_toArray, List.append_toArray, List.nil_append, List.cons_append]
 gi_wp2
 go_ret;exact ⟨rfl, rfl⟩
set_option maxRecDepth 100000 in
theorem adn (F : Fence) (n : Nat) (h40 : F.fn 160) (hro : F.round = none) (hn : 1 <= n) (l Bs n₀ : Nat) (A : Option Addr) (cap : Nat) (L : List (Int × Blk)) (hLl : L.length <= 1000000) (J Jx : List (Nat × (Int × Blk)) -> World -> Prop)
  (hY : ∀ pre x W, J pre W -> pre.length < L.length -> YieldAt F (n - 1) prog l (aem x) W fun e W' =>
   (e = .returned (.bool true) /\ J (pre ++ [x]) W' /\ Below n₀ W W') \/ (e = .returned (.bool false) /\ Jx (pre ++ [x]) W'))
  (W : World) (hBn : Bs < n₀) (hBs : W.cell? ⟨Bs, 0, none⟩ = some (.slice A L.length cap)) (hL : RdE LwE W n₀ A L.length L) (h0 : J [] W) :
  CallsIn F n prog 160 #[.func (.yield l) #[] #[], .pointer (some ⟨Bs, 0, none⟩)] W fun e W' => (∃ v, e = .returned v) /\
   ((∃ ys, ys = cmd L L.length /\ J ys W') \/ (∃ pre, (∃ d, d <= L.length /\ pre = cmd L d) /\ Jx pre W')) := by
 refine callsIn_of_wp func160 rfl h40 ?_ hro;simp only [ntmps160, List.size_toArray, List.length_cons, List.length_nil, Nat.reduceAdd, Nat.reduceSub, Array.replicate_succ, Array.replicate_zero, List.push_toArray, List.append_toArray, List.nil_append, List.cons_append]
 gi_wp2
 gi_loopw [3] (fun i wr => ∃ r : Nat, r <= L.length /\ i = .int .i64 ((r : Int) - 1) /\ J (cmd L (L.length - r)) wr /\ Below n₀ W wr)
  (fun i _ => (intOf i + 1).toNat)
 case atStart => exact ⟨L.length, aj, rfl, by rw [Nat.sub_self]; exact h0, ak⟩
 case round =>
  obtain ⟨r, hr, rfl, hJs, hnx⟩ := hrel;have hbx : wr.cell? ⟨Bs, 0, none⟩ = some (.slice A L.length cap) := (hnx.cell (p := ⟨Bs, 0, none⟩) hBn).trans hBs;have hLr := hL.below hnx;cases r with
  |zero =>
   clear hLr hbx;rw [Nat.sub_zero] at hJs;have e : ((0 : Nat) : Int) - 1 = -1 := rfl;rw [e]
   gi_wp2
   go_end0
   exact ⟨⟨_, rfl⟩, .inl ⟨_, rfl, hJs⟩⟩
  |succ m =>
   have e : ((m + 1 : Nat) : Int) - 1 = (m : Int) := by omega
   rw [e];clear e;have hlt : m < L.length := hr;obtain ⟨bA, oA, rfl, hbA, rA⟩ := RdE.pairs hLr hlt;have hnext : cmd L (L.length - m) = cmd L (L.length - (m + 1)) ++ [(m, L.getD m (0, aJ))] := by
    have e1 : L.length - m = (L.length - (m + 1)) + 1 := by omega
    rw [e1, cmd];have e2 : L.length - 1 - (L.length - (m + 1)) = m := by omega
    rw [e2]
   have HNX := ae hnext;obtain ⟨fn, tmps, assign, body, hy, hR⟩ := hY _ (m, L.getD m (0, aJ)) wr hJs (by rw [afu]; omega);rw [<- hnext] at hR;have HRA := ae rA;generalize L.getD m (0, aJ) = q at *;unfold aem at hy;dsimp only at hy;clear hnext rA hLr
   gi_wp2_with (first | (refine dR rfl rfl rfl (co (E := LwE) rfl rfl rfl hlt) ?_) | (refine dR rfl rfl rfl (oV rfl rfl HRA) ?_) | fail)
   refine hR.mono ?_;rintro e W3 (⟨rfl, hJ3, hk3⟩ | ⟨rfl, hJx3⟩)
   ·gi_wp2
    go_roundw
    case rel => exact ⟨m, by omega, rfl, hJ3, hnx.trans hk3⟩
    case measure => simp [intOf]
   ·gi_wp2
    refine bodyPost_ret (results_none rfl _ _ _) rfl ?_;exact ⟨⟨_, rfl⟩, .inr ⟨_, ⟨L.length - m, by omega, rfl⟩, hJx3⟩⟩
theorem vr (F : Fence) (n : Nat) (h40 : F.fn 160) (hro : F.round = none) (hn : 1 <= n) (Bs : Nat) (A : Option Addr) (cap : Nat) (L : List (Int × Blk)) (hLl : L.length <= 1000000) (w : World) (hBn : Bs < w.heap.size) (hBs : w.cell? ⟨Bs, 0, none⟩ = some (.slice A L.length cap)) (hL : RdE LwE w w.heap.size A L.length L) :
  SeqStopsK F n prog 160 #[.pointer (some ⟨Bs, 0, none⟩)] aem (Below w.heap.size) (fun ys => ys = cmd L L.length) (fun pre => ∃ d, d <= L.length /\ pre = cmd L d) L.length w := fun l J Jx W hW _ _ hY h0 =>
 adn F n h40 hro hn l Bs w.heap.size A cap L hLl J Jx hY W hBn ((hW.cell (p := ⟨Bs, 0, none⟩) hBn).trans hBs) (hL.below hW) h0
attribute [local go_sem] Oper.semAt_some
theorem oF {fn : Func} {p u : Tmp} {c : Blk} {e : Int} (h : fn.results = #[.cell p 44, .cell u 32]) (tmps : Array Value) (w : World) (b b' : Nat) (hp : tmps.getD p undef = .pointer (some ⟨b, 0, none⟩)) (hu : tmps.getD u undef = .pointer (some ⟨b', 0, none⟩)) (hc : w.rangeAt b 0 (cel c)) (he : w.cell? ⟨b', 0, none⟩ = some (.int .i64 e)) :
  (results fn tmps).run prog w = .ok (.tuple #[blk c, .int .i64 e]) w := by
 have hl : (loadVar 44 ⟨b, 0, none⟩).run prog w = .ok (blk c) w := run_loadVar_mid w b 0 44 (cel c) _ hc vZ rfl (by rw [aO]; exact vm);have hl2 : (loadVar 32 ⟨b', 0, none⟩).run prog w = .ok (.int .i64 e) w := by simp [go_sem, he]
 have hp' : tmps[p]?.getD undef = .pointer (some ⟨b, 0, none⟩) := by simpa using hp
 have hu' : tmps[u]?.getD undef = .pointer (some ⟨b', 0, none⟩) := by simpa using hu
 simp [results, h, hp', hu', asAddr, hl, hl2]
theorem kB {w : World} {b b' o i : Nat} {cs : List Value} (h : w.rangeAt b o cs) (hne : b ≠ b') (v : Value) : (w.setCell ⟨b', i, none⟩ v).rangeAt b o cs := fun j u hj => by
 rw [World.cell?_of_block (w := w) (a := ⟨b, o + j, none⟩) (heap_setCell_other w ⟨b', i, none⟩ b v hne)];exact h j u hj
def rd3 (w : World) (n : Int) : World := ((w.alloc (.cells #[.int .i64 n] 3)).alloc (.cells (cel aJ).toArray 44)).alloc (.cells #[.int .i64 0] 32)
theorem qX (w : World) (n : Int) : Below w.heap.size w (rd3 w n) /\ (rd3 w n).heap[w.heap.size]? = some (.cells #[.int .i64 n] 3) /\ (rd3 w n).heap[w.heap.size + 1]? = some (.cells (cel aJ).toArray 44) /\ (rd3 w n).heap[w.heap.size + 1 + 1]? = some (.cells #[.int .i64 0] 32) /\ (rd3 w n).heap.size = w.heap.size + 1 + 1 + 1 := by
 unfold rd3;have e1 := World.size_alloc (w := w) (o := .cells #[.int .i64 n] 3);have e2 := World.size_alloc (w := w.alloc (.cells #[.int .i64 n] 3)) (o := .cells (cel aJ).toArray 44);have e3 := World.size_alloc (w := (w.alloc (.cells #[.int .i64 n] 3)).alloc (.cells (cel aJ).toArray 44)) (o := .cells #[.int .i64 0] 32);have n1 := lM w #[.int .i64 n] 3;have n2 := lM (w.alloc (.cells #[.int .i64 n] 3)) (cel aJ).toArray 44;have n3 := lM ((w.alloc (.cells #[.int .i64 n] 3)).alloc (.cells (cel aJ).toArray 44)) #[.int .i64 0] 32;rw [e2, e1] at n3;rw [e1] at n2;refine ⟨(((Below.refl _ w).alloc aj _).alloc (by omega) _).alloc (by omega) _, bu (bu n1 _) _, bu n2 _, n3, by omega⟩
theorem one_cell {w : World} {b : Nat} {v : Value} {t : TypeId} (h : w.heap[b]? = some (.cells #[v] t (0, 0))) : w.cell? ⟨b, 0, none⟩ = some v /\ w.frozen? ⟨b, 0, none⟩ = false := by
 refine ⟨?_, frozen_of_row w b 0 _ t h⟩;rw [cell_of_row w b 0 _ t (0, 0) h]; rfl
theorem zM (p : Nat) (vS vL : Value) (S : List Blk) (L : List (Int × Blk)) (g : Bool) (n : Int) (w : World) (h : PD w p vS vL S L g) (he0 : dN S g n ≠ 0) :
  Calls prog 144 #[.pointer (some ⟨p, 0, none⟩), .int .i64 n] w fun e w' => e = .returned (.tuple #[blk (jl S L g n), .int .i64 (dN S g n)]) /\ Below w.heap.size w w' := by
 obtain ⟨hA, k0, k1, k2, hsz⟩ := qX w n;have h1 := h.below hA;have HA := ae hA;have HT := ae (je k1);obtain ⟨c0, f0⟩ := one_cell k0;have hO : Only (fun b => b = w.heap.size + 1) (rd3 w n) ((rd3 w n).setCells (w.heap.size + 1) 0 (cel aJ)) := (Only.refl (fun b => b = w.heap.size + 1) (rd3 w n)).setCells (.inl rfl) _ _;have k2' := hO.keep k2 (by omega);obtain ⟨c2, f2⟩ := one_cell k2';have HS := ae (aco (L := L) he0);clear hA k0 k1 k2 hO k2';rcases iL (S := S) (g := g) (n := n) with he | he | ⟨he, _⟩
 rotate_right 1
 ·exact absurd he he0
 all_goals
  have HE := ae he;clear he he0;go_enter func144, ntmps144;unfold rd3 at *;go_wp2_with (first | (refine az rfl (bU rfl) ?_) | fail);generalize ((w.alloc (.cells #[.int .i64 n] 3)).alloc (.cells (cel aJ).toArray 44)).alloc (.cells #[.int .i64 0] 32) = w3 at *;refine (fX p vS vL S L g n w3 h1).mono ?_;rintro e w1 ⟨rfl, rfl⟩;rw [HE.out];go_wp2_with (first | (refine az rfl (dy (c := aJ) (parts := []) rfl rfl) ?_) | (refine bN rfl (bO rfl rfl rfl ?ht) ?_; (case ht => exact HT.out)) | fail);have hr1 : (w3.setCells (w.heap.size + 1) 0 (cel aJ)).rangeAt (w.heap.size + 1) 0 (cel aJ) := World.rangeAt_setCells_same _ _ _ _ (by rw [aO]; exact HT);have hr2 := kB (b' := w.heap.size + 1 + 1) (i := 0) hr1 (by omega);have hb2 := (below_setCells HA (show w.heap.size <= w.heap.size + 1 by omega) (o := 0) (cel aJ));refine bodyPost_ret (oF rfl _ _ _ _ rfl rfl (hr2 _) (World.cell?_setCell_same' _ _ _ (by rw [c2]; rfl))) rfl ⟨by rw [HS.out, HE.out], hb2.setCell (p := ⟨w.heap.size + 1 + 1, 0, none⟩) (by show _ <= w.heap.size + 1 + 1; omega) _⟩
attribute [local go_sem] Oper.semAt_some
theorem vI {L : List (Int × Blk)} {n : Int} {b : Blk} (h : ∀ q ∈ L, q.1 ≠ n) : gD L n b = b := by
 unfold gD
 induction L generalizing b with
 |nil => rfl
 |cons q L ih =>
  rw [List.foldl_cons, if_neg (h q (by simp)), ih fun q hq => h q (by simp [hq])]
theorem abP {L : List (Int × Blk)} {n : Int} {b : Blk} {i : Nat} (hi : i < L.length) (h : (L.getD i (0, aJ)).1 = n) (hb : ∀ j, i < j -> j < L.length -> (L.getD j (0, aJ)).1 ≠ n) : gD L n b = (L.getD i (0, aJ)).2 := by
 have key : ∀ m, i + 1 + m <= L.length -> gD (L.take (i + 1 + m)) n b = (L.getD i (0, aJ)).2 := by
  intro m
  induction m with
  |zero => intro _; rw [Nat.add_zero, oM n b hi, if_pos h]
  |succ m ih =>
   intro hm;rw [<- Nat.add_assoc, oM n b (by omega), if_neg (hb _ (by omega) (by omega))];exact ih (by omega)
 have := key (L.length - (i + 1)) (by omega);rwa [show i + 1 + (L.length - (i + 1)) = L.length from by omega, List.take_length] at this
def NoK (k : Int) (pre : List (Nat × (Int × Blk))) : Prop := ∀ x ∈ pre, x.2.1 ≠ k
def aj4 (s : Nat) (k : Int) (pre : List (Nat × (Int × Blk))) (W : World) : Prop := ∃ ini last, pre = ini ++ [last] /\ NoK k ini /\ last.2.1 = k /\ W.rangeAt (s + 1) 0 (cel last.2.2) /\ W.cell? ⟨s + 1 + 1, 0, none⟩ = some (.int .i64 0)
theorem ae3 {w : World} {b : Nat} {q : Int × Blk} {t : TypeId} (h : w.heap[b]? = some (.cells (fh q).toArray t (0, 0))) : w.cell? ⟨b, 0, none⟩ = some (.int .i64 q.1) /\ w.rangeAt b 1 (cel q.2) := by
 have hr : w.rangeAt b 0 (fh q) := fun j v hj => by
  rw [cell_of_row _ _ (0 + j) (fh q).toArray t (0, 0) h]
  simpa using hj
 refine ⟨hr 0 _ rfl, fun j v hj => ?_⟩;have := hr (j + 1) v hj;rwa [show 0 + (j + 1) = 1 + j from by omega] at this
theorem iq (b : Nat) : ∀ (vs : List Value) (o : Nat) (w : World), KeepsOthers w (w.setCells b o vs)
 |[], _, w => KeepsOthers.refl w
 |v :: r, o, w => (KeepsOthers.setCell w ⟨b, o, none⟩ v).trans (iq b r (o + 1) _)
set_option maxRecDepth 100000 in
theorem zR (p k : Nat) (vS vL : Value) (S : List Blk) (L : List (Int × Blk)) (w : World) (h : PD w p vS vL S L false) (hk : k < S.length) (hLl : L.length <= 1000000) :
  Calls prog 144 #[.pointer (some ⟨p, 0, none⟩), .int .i64 k] w fun e w' => e = .returned (.tuple #[blk (jl S L false k), .int .i64 0]) /\ Below w.heap.size w w' := by
 obtain ⟨gS, cS, rfl⟩ := h.alive.slice rfl (by omega);obtain ⟨hA, k0, k1, k2, hsz⟩ := qX w (k : Int);have h1 := h.below hA;have HA := ae hA;have HE := ae (mm (S := S) (n := (k : Int)) (by omega));have HK0 := ae k0;have HK1 := ae k1;have HK2 := ae k2;obtain ⟨c0, f0⟩ := one_cell k0;obtain ⟨AL, cL, rfl, hl1, hl2⟩ := h1.L_.form;obtain ⟨d0, d1, d2, d3⟩ := et h1.at_;clear hA k0 k1 k2;refine (callsIn_wide (n := 3)).1 ?_;refine callsIn_of_wp_marks func144 rfl trivial ?_ rfl;refine wpIn_wide.2 ?_;simp only [ntmps144, List.size_toArray, List.length_cons, List.length_nil, Nat.reduceAdd, Nat.reduceSub, Array.replicate_succ, Array.replicate_zero, List.push_toArray, List.append_toArray, List.nil_append, List.cons_append];unfold rd3 at *;go_wp2_with (first | (refine az rfl (bU rfl) ?_) | fail);generalize ((w.alloc (.cells #[.int .i64 (k : Int)] 3)).alloc (.cells (cel aJ).toArray 44)).alloc (.cells #[.int .i64 0] 32) = w3 at *;refine (fX p _ _ S L false k w3 h1).mono ?_;rintro e w4 ⟨rfl, rfl⟩;rw [HE.out];go_wp2_with fail;refine (callsIn_wide.1 (sW Fence.wide 3 trivial rfl AL L.length cL w3)).mono ?_;rintro e w4 ⟨rfl, rfl⟩;go_wp2_with fail;have hB0 := HA.out.alloc HA.out.size (.cells #[.slice AL L.length cL] 128);have hbox := lM w3 #[.slice AL L.length cL] 128;have h2 := h1.below ((Below.refl _ w3).alloc aj (.cells #[.slice AL L.length cL] 128));have k0 := bu HK0 (.cells #[.slice AL L.length cL] 128);have k1 := bu HK1 (.cells #[.slice AL L.length cL] 128);have k2 := bu HK2 (.cells #[.slice AL L.length cL] 128);have hsz0 := World.size_alloc w3 (.cells #[.slice AL L.length cL] 128);rw [hsz] at hbox hsz0;generalize w3.alloc (.cells #[.slice AL L.length cL] 128) = W0 at *;clear c0 f0 d0 d1 d2 d3 h1 HA HK0 HK1 HK2 hsz;have HK0 := ae k0;have HK1 := ae k1;have HK2 := ae k2;have HH2 := ae h2;have HB0 := ae hB0;have hpw : p < w.heap.size := h.lt p (.inl rfl);have HH := ae h;refine (wpIn_wide (n := 3)).1 ?_;refine wpIn_rangeFunc_ownH rfl (by omega) (gf := 160) (lb := #[.pointer (some ⟨w.heap.size + 1 + 1 + 1, 0, none⟩)]) rfl trivial (enters_of func160 (by kernel_rfl) rfl)
  (vr Fence.wide 2 trivial rfl (by omega) (w.heap.size + 1 + 1 + 1) AL cL L hLl W0 (by omega) (one_cell hbox).1 h2.L_.rd) belowK_t (belowK_b aj) ak (fun _ => rfl)
  (fun pre W => NoK (k : Int) pre /\ Below W0.heap.size W0 W)
  (fun c pre W => (c = .ret /\ aj4 w.heap.size (k : Int) pre W) /\ Below w.heap.size w W)
  (OwnFrom.and (ownFrom_pure _ _) (ownFrom_below aj aj))
  (fun c => OwnFrom.and (Own.from (fun s A B row hs hg hr => by obtain ⟨hc, ini, last, e1, e2, e3, e4, e5⟩ := hs; exact ⟨hc, ini, last, e1, e2, e3, fun j v hj => cell_kept (e4 j v hj) hg hr, cell_kept e5 hg hr⟩) _) (ownFrom_below aj (by omega)))
  ⟨fun x hx => absurd hx (by simp), ak⟩
  (fun x a' W => ∃ Bx, W0.heap.size <= Bx /\ W.heap[Bx]? = some (.cells (fh x.2).toArray LwE.t) /\ a' = { tmps := #[.pointer (some ⟨p, 0, none⟩), .int .i64 (k : Int), undef, .pointer (some ⟨w.heap.size, 0, none⟩), .pointer (some ⟨w.heap.size + 1, 0, none⟩), .pointer (some ⟨w.heap.size + 1 + 1, 0, none⟩), .int .i64 0, undef, .pointer (some ⟨Bx, 0, none⟩), .pointer (some ⟨p, 0, none⟩), .int .i64 (k : Int), .int .i64 0, .int .i64 0, .bool false, undef, undef, .pointer (some ⟨p, 0, none⟩), .pointer (some ⟨p, 0, none⟩), .pointer (some ⟨p, 2, none⟩), .slice AL L.length cL, .func (.func 160) #[] #[.pointer (some ⟨w.heap.size + 1 + 1 + 1, 0, none⟩)], .int .i64 (x.1 : Int), .agg (fh x.2).toArray, undef, undef, undef, undef, undef, undef, undef, undef, undef, undef, undef, undef, undef], defers := [] })
  (fun x a' _ X Y row hs hg hr => by
   obtain ⟨Bx, e1, e2, e3⟩ := hs;exact ⟨Bx, e1, (hg.block Bx (aU e2) (fun e => by obtain ⟨_, o, ho, hc⟩ := hr Bx e.symm; rw [e2] at ho; cases ho; cases hc)).trans e2, e3⟩)
  ?assign ?body ?done ?stop
 case assign =>
  rintro l pre x W K ⟨hne, hb⟩ hK;simp only [aem, List.zip_toArray, List.zip_cons_cons, List.zip_nil_right, List.foldl_toArray, List.foldl_cons, List.foldl_nil, List.setIfInBounds_toArray, List.set_cons_succ, List.set_cons_zero];refine wpIn_region_lit ?_;refine dR rfl rfl rfl (nt rfl) ?_;refine lV rfl rfl rfl (qo (a := x.2) rfl rfl rfl) ?_;refine wpListIn_nil ?_;exact hK _ _ ((KeepsOthers.alloc _ _).from _) ((Below.refl _ W).alloc hb.size _) ⟨hne, hb.alloc hb.size _⟩ ⟨W.heap.size, hb.size, heap_alloc_new W _, rfl⟩
 case body =>
  rintro l pre x a' W hl _ ⟨hne, hb⟩ ⟨Bx, hBx, hbx, rfl⟩ hlt;obtain ⟨i, q1, qb⟩ := x;have hn : W.cell? ⟨w.heap.size, 0, none⟩ = some (.int .i64 (k : Int)) := (one_cell (aC HK0 hb)).1;have hk1 := aC HK1 hb;have hk2 := aC HK2 hb;obtain ⟨hx1, hx2⟩ := ae3 hbx;have HX2 := ae hx2;have HT := ae (je hk1);have hO : Only (fun b => b = w.heap.size + 1) W (W.setCells (w.heap.size + 1) 0 (cel qb)) := (Only.refl (fun b => b = w.heap.size + 1) W).setCells (.inl rfl) _ _;have hk2' := hO.keep hk2 (by omega);obtain ⟨c2, f2⟩ := one_cell hk2';have HB := ae hb;have HNE := ae hne;have HK2' := ae hk2';clear hb hne hbx hx2 hk1 hk2 hO hk2';by_cases hq : q1 = (k : Int)
  ·subst hq
   gi_wp2_with (first | (refine dR rfl rfl rfl (ax rfl rfl ahe) ?_) | (refine dR rfl rfl rfl (ax rfl rfl aiw) ?_) | (refine dR rfl rfl rfl (bI rfl rfl HX2.out) ?_) | (refine lV rfl rfl rfl (bO rfl rfl rfl ?ht) ?_; (case ht => exact HT.out)) | fail)
   have hr1 : (W.setCells (w.heap.size + 1) 0 (cel qb)).rangeAt (w.heap.size + 1) 0 (cel qb) := World.rangeAt_setCells_same _ _ _ _ (by rw [aO]; exact HT);have hr2 := kB (b' := w.heap.size + 1 + 1) (i := 0) hr1 (by omega);have hbw := HB0.out.trans (HB.out.mono (by omega));have hb2 := below_setCells hbw (show w.heap.size <= w.heap.size + 1 by omega) (o := 0) (cel qb);exact ⟨((iq _ _ _ _).trans (KeepsOthers.setCell _ _ _)).from _, ⟨rfl, pre, (i, (k : Int), qb), rfl, HNE, rfl, hr2 _, World.cell?_setCell_same' _ _ _ (by rw [c2]; rfl)⟩, hb2.setCell (p := ⟨w.heap.size + 1 + 1, 0, none⟩) (by show _ <= w.heap.size + 1 + 1; omega) _⟩
  ·have hq' : (q1 == (k : Int)) = false := by simpa using hq
   gi_wp2_with (first | (refine dR rfl rfl rfl (ax rfl rfl ahe) ?_) | (refine dR rfl rfl rfl (ax rfl rfl aiw) ?_) | fail)
   exact ⟨KeepsFrom.refl _ _, ak, fun y hy => (List.mem_append.1 hy).elim (HNE.out y) (fun e => by simp at e; subst e; exact hq), by have := HB.out; rwa [hsz0] at this⟩
 case done =>
  rintro D ys W hD rfl ⟨hne, hb⟩ hK;have hrd : jl S L false (k : Int) = S.getD k aJ := by
   rw [uG HE.out];refine vI fun q hq => ?_
   obtain ⟨j, hj, rfl⟩ := List.getElem_of_mem hq;have := hne _ (yJ L L.length j (by omega) hj)
   simpa [List.getD, List.getElem?_eq_getElem hj] using this
  have h3 := HH2.out.below hb;obtain ⟨c0, c1, c2, c3⟩ := et h3.at_;have hn : W.cell? ⟨w.heap.size, 0, none⟩ = some (.int .i64 (k : Int)) := (one_cell (aC HK0 hb)).1;obtain ⟨b, off, hbe, _, hr⟩ := h3.alive.rd.blk hk;injection hbe with hbe;injection hbe with hb1 hb2;subst hb1 hb2;rw [Nat.zero_add] at hr;have HRD0 := hrd;generalize S.getD k aJ = x at *;have HRD := ae HRD0;clear HRD0;have hk1 := aC HK1 hb;have hk2 := aC HK2 hb;have HT := ae (je hk1);have hO : Only (fun b => b = w.heap.size + 1) W (W.setCells (w.heap.size + 1) 0 (cel x)) := (Only.refl (fun b => b = w.heap.size + 1) W).setCells (.inl rfl) _ _;have hk2' := hO.keep hk2 (by omega);have HK2W := ae hk2;have HA := ae c1;have HN := ae hn;have HR := ae hr;have HB := ae hb;have HKD := ae hK;clear hrd h3 c0 c1 c2 c3 hn hr hk1 hk2 hO hk2' hne hb hK;go_wp2_with fail;refine wp_region_still_tail 7 (by kernel_rfl) (by kernel_rfl) ?_;simp only [ac];refine aP rfl (aM rfl akt) ?_;simp only [aa];refine aP rfl (bq rfl akt) ?_;simp only [aa];refine aP rfl (ax rfl akt aiM) ?_;simp only [aa];refine aP rfl (aD rfl akt (ldB HA)) ?_;simp only [aa];refine aP rfl (aD rfl akt (ldI HN)) ?_;simp only [aa];refine aP rfl (zx rfl akt akt hk) ?_;simp only [aa];refine aP rfl (bI rfl akt HR) ?_;simp only [aa];refine wpStill_nil ?_;change wpList _ _ _ _ _ W.drew;have HTd : W.drew.there (w.heap.size + 1) 0 64 := HT.out;have HTd' := ae HTd;have hk2d : (W.drew.setCells (w.heap.size + 1) 0 (cel x)).heap[w.heap.size + 1 + 1]? = some (.cells #[.int .i64 0] 32) := (eY _ _ _ W.drew _ (by omega)).trans HK2W;obtain ⟨c2, f2⟩ := one_cell hk2d;have HKd := ((iq (w.heap.size + 1) (cel x) 0 W.drew).trans (KeepsOthers.setCell _ ⟨w.heap.size + 1 + 1, 0, none⟩ (.int .i64 0))).same D _ HKD rfl;have HKH := ae HKd;have hr1 : (W.drew.setCells (w.heap.size + 1) 0 (cel x)).rangeAt (w.heap.size + 1) 0 (cel x) := World.rangeAt_setCells_same _ _ _ _ (by rw [aO]; exact HTd);have HR2 := ae (kB (b' := w.heap.size + 1 + 1) (i := 0) hr1 (by omega) (.int .i64 0));have HE2 := ae (World.cell?_setCell_same' (W.drew.setCells (w.heap.size + 1) 0 (cel x)) ⟨w.heap.size + 1 + 1, 0, none⟩ (.int .i64 0) (by rw [c2]; rfl));have hbw := bd (HB0.out.trans (HB.out.mono (by omega)));have HB2 := ae ((below_setCells hbw (show w.heap.size <= w.heap.size + 1 by omega) (o := 0) (cel x)).setCell (p := ⟨w.heap.size + 1 + 1, 0, none⟩) (by show _ <= w.heap.size + 1 + 1; omega) (.int .i64 0));clear hk2d HKd hr1 hbw HTd;go_wp2_with (first | (refine bN rfl (bO rfl rfl rfl ?ht) ?_; (case ht => exact HTd'.out)) | fail);refine ⟨by simp, .inl ⟨_, _, rfl, run_takeDeferred HKH, ?_⟩⟩;refine ⟨.tuple #[blk x, .int .i64 0], oF rfl _ _ _ _ rfl rfl (fun j v hj => cell_kept (HR2.out j v hj) (grownBy_putObj' _ D (.deferred none)) (fun r e => by cases e; exact ⟨_, HKH, rfl⟩)) (cell_kept HE2 (grownBy_putObj' _ D (.deferred none)) (fun r e => by cases e; exact ⟨_, HKH, rfl⟩)), by rw [HRD.out], HB2.out.trans (belowK_b (w := w) aj _ D _ _ (by omega) HKH rfl rfl)⟩
 case stop =>
  rintro D c pre W hD ⟨d, hd, rfl⟩ ⟨⟨rfl, ini, last, e1, e2, e3, e4, e5⟩, hb⟩ hK;have hrd : jl S L false (k : Int) = last.2.2 := by
   rw [uG HE.out];cases d with
   |zero => simp [cmd] at e1
   |succ d =>
    rw [cmd] at e1;obtain ⟨e6, e7⟩ := List.append_inj' e1 rfl;subst e6;have e8 : (L.length - 1 - d, L.getD (L.length - 1 - d) (0, aJ)) = last := by simpa using e7
    subst e8;refine abP (i := L.length - 1 - d) (by omega) e3 fun j h1 h2 => ?_
    exact e2 _ (yJ L d j (by omega) h2)
  gi_wp2
  refine ⟨by simp, .inl ⟨_, _, rfl, run_takeDeferred hK, ?_⟩⟩;refine ⟨.tuple #[blk last.2.2, .int .i64 0], oF rfl _ _ _ _ rfl rfl (fun j v hj => cell_kept (e4 j v hj) (grownBy_putObj' _ D (.deferred none)) (fun r e => by cases e; exact ⟨_, hK, rfl⟩)) (cell_kept e5 (grownBy_putObj' _ D (.deferred none)) (fun r e => by cases e; exact ⟨_, hK, rfl⟩)), by rw [hrd], hb.trans (belowK_b (w := w) aj W D _ _ (by omega) hK rfl rfl)⟩
theorem ahw (p : Nat) (vS vL : Value) (S : List Blk) (L : List (Int × Blk)) (g : Bool) (n : Int) (w : World) (h : PD w p vS vL S L g) (hLl : L.length <= 1000000) :
  Calls prog 144 #[.pointer (some ⟨p, 0, none⟩), .int .i64 n] w fun e w' => e = .returned (.tuple #[blk (jl S L g n), .int .i64 (dN S g n)]) /\ Below w.heap.size w w' := by
 by_cases he : dN S g n = 0
 ·rcases iL (S := S) (g := g) (n := n) with h1 | h1 | ⟨_, rfl, k, rfl, hk⟩
  ·omega
  ·omega
  ·rw [he];exact zR p k vS vL S L w h hk hLl
 ·exact zM p vS vL S L g n w h he
def Pv (w : World) (F : Nat -> Prop) (p : Nat) (S : List Blk) (L : List (Int × Blk)) (g : Bool) : Prop := ∃ vS vL, F = foot p vS vL /\ PD w p vS vL S L g /\ Fit S L /\ S.length <= 512 /\ L.length <= 1000000
section
variable {w w' : World} {F G : Nat -> Prop} {p : Nat} {S : List Blk} {L : List (Int × Blk)} {g : Bool}
theorem Pv.lt (h : Pv w F p S L g) : ∀ b, F b -> b < w.heap.size := by
 obtain ⟨vS, vL, rfl, h, _⟩ := h;exact h.lt
theorem Pv.only (h : Pv w F p S L g) (k : Only G w w') (hn : ∀ b, F b -> ¬ G b) : Pv w' F p S L g := by
 obtain ⟨vS, vL, rfl, h, hF⟩ := h;exact ⟨vS, vL, rfl, h.only k hn, hF⟩
theorem gw (h : w = w') : Below w.heap.size w w' := by subst h; exact ak
end
def aim : Dev where
 Dv := Pv
 lt := Pv.lt
 only := Pv.only
 fit := fun ⟨_, _, _, h, hF, _⟩ => ⟨hF, h.one⟩
 cap := fun ⟨_, _, _, _, _, hS, _⟩ => hS
 new_ok := fun k w h1 h2 => by
  refine (acZ k w h1 h2).mono ?_;rintro e w' ⟨p, vS, he, hr, hb, hf⟩;exact ⟨p, _, he, ⟨vS, _, rfl, hr, Fit.nil _, by rw [List.length_replicate]; exact h2, Nat.zero_le _⟩, hb, hf⟩
 new_no := fun n w h => (ac8 n w h).mono fun e w' ⟨h1, h2⟩ => ⟨h1, gw h2⟩
 read := fun n ⟨vS, vL, _, h, _, _, hL⟩ => ahw _ vS vL _ _ _ n _ h hL
 sure := fun n ⟨vS, vL, _, h, _⟩ => ag5 _ vS vL _ _ _ n _ h
 write := fun {w F p S L g} n b hL ⟨vS, vL, e0, h, hF, hS, _⟩ => by
  subst e0;refine (ad5 p vS vL S L g n b w h hL).mono ?_;rintro e w' ⟨he, vL', h1, h2, h3⟩;refine ⟨he, _, ⟨vS, vL', rfl, h1, hF.wr g n b, hS, ?_⟩, h2, fun k hk => ?_⟩
  ·unfold wrL
   split
   ·rw [List.length_append]; simp; omega
   ·omega
  ·rcases hk with e | e | e
   ·exact .inl (.inl e)
   ·exact .inl (.inr (.inl e))
   ·rcases h3 k e with e | e
    ·exact .inl (.inr (.inr e))
    ·exact .inr e
 flush := fun {w F p S L g} ⟨vS, vL, e0, h, hF, hS, hL⟩ => by
  subst e0;cases g
  ·refine (vH p vS vL S L w h hF).mono ?_;rintro e w' ⟨he, h1, h2⟩;refine ⟨he, _, ⟨vS, _, rfl, h1, Fit.nil _, by rw [if_neg (by simp), nW]; exact hS, Nat.zero_le _⟩, h2, fun k hk => ?_⟩;rcases hk with e | e | e
   ·exact .inl (.inl e)
   ·exact .inl (.inr (.inl e))
   ·simp [Value.ownBlock] at e
  ·refine (sg p vS vL S L w h).mono ?_;rintro e w' ⟨he, rfl⟩;exact ⟨he, _, ⟨vS, vL, rfl, h, hF, hS, hL⟩, Only.refl _ _, Grow.same _ _⟩
 fail := fun {w F p S L g} ⟨vS, vL, e0, h, hF, hS, hL⟩ => by
  subst e0;refine (ahs p vS vL S L g w h).mono ?_;rintro e w' ⟨he, h1, h2⟩;refine ⟨he, _, ⟨_, _, rfl, h1, Fit.nil _, hS, Nat.zero_le _⟩, h2, fun k hk => ?_⟩;rcases hk with e | e | e
  ·exact .inl (.inl e)
  ·simp [Value.ownBlock] at e
  ·simp [Value.ownBlock] at e
 dead := fun ⟨vS, vL, _, h, _⟩ => (ahZ _ vS vL _ _ _ _ h).mono fun e w' ⟨h1, h2⟩ => ⟨h1, gw h2⟩
 fR := fun ⟨vS, vL, _, h, _⟩ => (aaN _ vS vL _ _ _ _ h).mono fun e w' ⟨h1, h2⟩ => ⟨h1, gw h2⟩
def ai6 : Array Value := #[.int .i64 0, .slice none 0 0, .slice none 0 0, .bool false]
def NoP (w : World) (v : Value) : Prop := v = .pointer none \/ ∃ p, v = .pointer (some ⟨p, 0, none⟩) /\ w.heap[p]? = some (.cells ai6 130)
theorem ag3 {w : World} {v : Value} (h : NoP w v) : Calls prog 63 #[v] w fun e w' => e = .returned (.bool false) /\ w = w' := by
 rcases h with rfl | ⟨p, rfl, h⟩
 ·go_enter func63, ntmps63;go_wp2;go_ret;exact ⟨rfl, rfl⟩
 ·obtain ⟨c0, c1, c2, c3⟩ := et h;go_enter func63, ntmps63;go_wp2;go_ret;exact ⟨rfl, rfl⟩
theorem aaC {w : World} {v : Value} (h : NoP w v) : Calls prog 118 #[v] w fun e w' => e = .returned (.int .i64 0) /\ Below w.heap.size w w' := by
 go_enter func118, ntmps118;go_wp2_with fail;refine (ag3 h).mono ?_;rintro e w1 ⟨rfl, rfl⟩;go_wp2_with fail;go_ret;exact ⟨rfl, ak⟩
def Dev.K (D : Dev) : DvK := ⟨D.Dv, D.lt, D.only⟩
def cy (D : Dev) : iv where
 K := D.K
 s := 93
 t := 83
 und := underlying93
 info := by kernel_rfl
 o := 95
 cs := fun v left cq steps => #[v, .int .i64 steps, .int .i64 left, .bool cq]
 ne := by decide
section
variable {D : Dev} {w w' : World} {p : Nat} {v : Value} {Fs : Nat -> Nat -> Prop} {ps : List Nat} {M : aV}
theorem bV.mS (h : bV (cy D) w p v Fs ps M) : w.cell? ⟨p, 0, none⟩ = some v /\ w.cell? ⟨p, 1, none⟩ = some (.int .i64 M.steps) /\ w.cell? ⟨p, 2, none⟩ = some (.int .i64 M.left) /\ w.cell? ⟨p, 3, none⟩ = some (.bool M.cq) := et h.at_
theorem qT (h : bV (cy D) w p v Fs ps M) :
  Calls prog 41 #[.pointer (some ⟨p, 0, none⟩)] w fun e w' => e = .returned (.int .i64 (M.ds.length : Int)) /\ w = w' := by
 obtain ⟨g, c, rfl, _, _⟩ := h.slice;obtain ⟨c0, c1, c2, c3⟩ := h.mS;go_enter func41, ntmps41;go_wp2;go_ret;exact ⟨rfl, rfl⟩
theorem abn (h : bV (cy D) w p v Fs ps M) :
  Calls prog 62 #[.pointer (some ⟨p, 0, none⟩)] w fun e w' => e = .returned (.bool true) /\ w = w' := by
 have h1 : 0 < M.ds.length := h.one;go_enter func62, ntmps62;go_wp2_with fail;refine (qT h).mono ?_;rintro e w1 ⟨rfl, rfl⟩;go_wp2_with fail;go_ret;exact ⟨rfl, rfl⟩
theorem xe (h : bV (cy D) w p v Fs ps M) :
  Calls prog 137 #[.pointer (some ⟨p, 0, none⟩)] w fun e w' => e = .returned (.bool M.cq) /\ w = w' := by
 obtain ⟨c0, c1, c2, c3⟩ := h.mS;go_enter func137, ntmps137;go_wp2;go_ret;exact ⟨rfl, rfl⟩
theorem iG (h : bV (cy D) w p v Fs ps M) {d : Int} (hd : ¬(0 <= d /\ d < M.ds.length)) :
  Calls prog 28 #[.pointer (some ⟨p, 0, none⟩), .int .i64 d] w fun e w' => e = .returned (.tuple #[.pointer none, .int .i64 2]) /\ w = w' := by
 have hm := ae (abn h);obtain ⟨g, c, rfl, _, _⟩ := h.slice;obtain ⟨c0, c1, c2, c3⟩ := h.mS;clear h;by_cases h0 : d < 0
 ·clear hd;go_enter func28, ntmps28;go_wp2_with fail;refine hm.out.mono ?_;rintro e w1 ⟨rfl, rfl⟩;go_wp2_with fail;go_ret2;exact ⟨rfl, rfl⟩
 ·have h1 : ¬(d < (M.ds.length : Int)) := by omega
  clear hd;go_enter func28, ntmps28;go_wp2_with fail;refine hm.out.mono ?_;rintro e w1 ⟨rfl, rfl⟩;go_wp2_with fail;go_ret2;exact ⟨rfl, rfl⟩
theorem iN (h : bV (cy D) w p v Fs ps M) {k : Nat} (hk : k < M.ds.length) :
  Calls prog 28 #[.pointer (some ⟨p, 0, none⟩), .int .i64 k] w fun e w' => e = .returned (.tuple #[.pointer (some ⟨ps.getD k 0, 0, none⟩), .int .i64 0]) /\ w = w' := by
 have hm := ae (abn h);obtain ⟨g, c, rfl, _, _⟩ := h.slice;obtain ⟨c0, c1, c2, c3⟩ := h.mS;have hc := h.cell hk;generalize ps.getD k 0 = q at *;clear h;go_enter func28, ntmps28;go_wp2_with fail;refine hm.out.mono ?_;rintro e w1 ⟨rfl, rfl⟩;go_wp2_with fail;go_ret2;exact ⟨rfl, rfl⟩
theorem pe (h : bV (cy D) w p v Fs ps M) {d : Int} (hd : gG M d ≠ 0) :
  Calls prog 105 #[.pointer (some ⟨p, 0, none⟩), .int .i64 d] w fun e w' => e = .returned (.tuple #[.pointer none, .int .i64 (gG M d)]) /\ w = w' := by
 have hm := ae (xe h);rcases fM M d with ⟨e, hdk⟩ | ⟨e, hdk, ho⟩ | ⟨e, _⟩
 ·rw [e];have HD := ae hdk;clear e hdk hd h;go_enter func105, ntmps105;go_wp2_with fail;refine hm.out.mono ?_;rintro e w1 ⟨rfl, rfl⟩;rw [HD.out];go_wp2_with fail;go_ret2;exact ⟨rfl, rfl⟩
 ·rw [e];have HD := ae hdk;have HO := ae (iG h ho);clear e hdk hd h ho;go_enter func105, ntmps105;go_wp2_with fail;refine hm.out.mono ?_;rintro e w1 ⟨rfl, rfl⟩;rw [HD.out];go_wp2_with fail;refine HO.out.mono ?_;rintro e w1 ⟨rfl, rfl⟩;go_wp2_with fail;go_ret2;exact ⟨rfl, rfl⟩
 ·exact absurd e hd
theorem ki (h : bV (cy D) w p v Fs ps M) {k : Nat} (hdk : M.cq = false) (hk : k < M.ds.length) :
  Calls prog 105 #[.pointer (some ⟨p, 0, none⟩), .int .i64 k] w fun e w' => e = .returned (.tuple #[.pointer (some ⟨ps.getD k 0, 0, none⟩), .int .i64 0]) /\ w = w' := by
 have hm := ae (xe h);have HD := ae hdk;have HO := ae (iN h hk);clear hdk h;generalize ps.getD k 0 = q at *;go_enter func105, ntmps105;go_wp2_with fail;refine hm.out.mono ?_;rintro e w1 ⟨rfl, rfl⟩;rw [HD.out];go_wp2_with fail;refine HO.out.mono ?_;rintro e w1 ⟨rfl, rfl⟩;go_wp2_with fail;go_ret2;exact ⟨rfl, rfl⟩
end
section
variable {D : Dev} {w w' : World} {p : Nat} {v : Value} {Fs : Nat -> Nat -> Prop} {ps : List Nat} {M : aV}
theorem aar (d : Int) (h : bV (cy D) w p v Fs ps M) :
  Calls prog 81 #[.pointer (some ⟨p, 0, none⟩), .int .i64 d] w fun e w' => e = .returned (.int .i64 (io M d)) /\ Below w.heap.size w w' := by
 rcases jH M d with ⟨e, ho⟩ | ⟨e, k, rfl, hk⟩
 ·have HS : Hid (io M d = 0) := ae (by unfold io; rw [if_neg (by omega)]);have HO := ae (iG h ho);clear e h ho;go_enter func81, ntmps81;go_wp2_with fail;refine HO.out.mono ?_;rintro e w1 ⟨rfl, rfl⟩;go_wp2_with fail;refine (aaC (.inl rfl)).mono ?_;rintro e w2 ⟨rfl, hb⟩;go_wp2_with fail;go_ret;exact ⟨dv HS.out.symm, hb⟩
 ·obtain ⟨x, hx⟩ : ∃ x, M.ds.getD k bF = x := ⟨_, rfl⟩;have hat := h.devs.at_ k hk;rw [hx] at hat
  have HS : Hid (io M (k : Int) = (x.S.length : Int)) := ae (by unfold io; rw [if_pos e, M.oe, hx]);have HO := ae (iN h hk);have HD := ae (D.fR hat);clear e h hat hx;generalize ps.getD k 0 = q at *;go_enter func81, ntmps81;go_wp2_with fail;refine HO.out.mono ?_;rintro e w1 ⟨rfl, rfl⟩;go_wp2_with fail;refine HD.out.mono ?_;rintro e w2 ⟨rfl, hb⟩;go_wp2_with fail;go_ret;exact ⟨dv HS.out.symm, hb⟩
theorem ag6 (d : Int) (h : bV (cy D) w p v Fs ps M) :
  Calls prog 9 #[.pointer (some ⟨p, 0, none⟩), .int .i64 d] w fun e w' => e = .returned (.int .i64 (l6 M d)) /\ Left (cy D) w p v Fs ps M.ds.length (js M d) w' := by
 rcases jH M d with ⟨e, ho⟩ | ⟨e, k, rfl, hk⟩
 ·have HL := ae (Left.same h (M' := js M d) (by unfold js; rw [if_neg (by omega)]));have HO := ae (iG h ho);have HE := ae e;clear e h ho;go_enter func9, ntmps9;go_wp2_with fail;refine HO.out.mono ?_;rintro e w1 ⟨rfl, rfl⟩;go_wp2_with fail;go_ret;exact ⟨dv HE.out.symm, HL⟩
 ·obtain ⟨x, hx⟩ : ∃ x, M.ds.getD k bF = x := ⟨_, rfl⟩;have hat := h.devs.at_ k hk;rw [hx] at hat
  have HS : Hid (js M (k : Int) = M.put k ⟨x.S, [], true⟩) := ae (by unfold js; rw [if_pos e, <- hx]; rfl);have HO := ae (iN h hk);have HD := ae (D.fail hat);have HE := ae e;have HH := ae h;clear e h hat hx;go_enter func9, ntmps9;go_wp2_with fail;refine HO.out.mono ?_;rintro e w1 ⟨rfl, rfl⟩;go_wp2_with fail;refine HD.out.mono ?_;rintro e w2 ⟨rfl, F', h1, h2, h3⟩;go_wp2_with fail;go_ret;exact ⟨dv HE.out.symm, Left.turn HH hk h2 h3 (d := ⟨x.S, [], true⟩) h1 HS⟩
theorem oD (f : Value) (h : bV (cy D) w p v Fs ps M) (hl : M.left = 1) :
  Calls prog 107 #[.pointer (some ⟨p, 0, none⟩), f] w fun e w' => e = .returned (.int .i64 8) /\ bV (cy D) w' p v Fs ps M.night /\ Only (fun b => b = p) w w' := by
 obtain ⟨c0, c1, c2, c3⟩ := h.mS;have f3 := frozen_of_row w p 3 _ _ h.at_;rw [hl] at c2;have HH := ae h;have HL := ae hl;clear h hl;go_enter func107, ntmps107;go_wp2_with fail;go_ret;have ho := kg w p 3 (.bool true);refine ⟨rfl, HH.out.obj _ _ _ ho ?_, ho⟩;have := heap_setCell_same w p 3 _ _ (.bool true) HH.out.at_
 simpa [cy] using this
theorem acE (h : bV (cy D) w p v Fs ps M) (h2 : 1 < M.left) : bV (cy D) ((w.setCell ⟨p, 2, none⟩ (.int .i64 ((M.left : Int) - 1))).setCell ⟨p, 1, none⟩ (.int .i64 ((M.steps : Int) + 1))) p v Fs ps M.done /\ Only (fun b => b = p) w ((w.setCell ⟨p, 2, none⟩ (.int .i64 ((M.left : Int) - 1))).setCell ⟨p, 1, none⟩ (.int .i64 ((M.steps : Int) + 1))) := by
 have ho := (kg w p 2 (.int .i64 ((M.left : Int) - 1))).setCell (p := ⟨p, 1, none⟩) (.inl rfl) (.int .i64 ((M.steps : Int) + 1));refine ⟨h.obj _ _ _ ho ?_, ho⟩;have h3 := heap_setCell_same _ p 1 _ _ (.int .i64 ((M.steps : Int) + 1)) (heap_setCell_same w p 2 _ _ (.int .i64 ((M.left : Int) - 1)) h.at_);have e : ((M.left - 1 : Nat) : Int) = (M.left : Int) - 1 := by omega
 simpa [cy, e] using h3
theorem aaz (h : bV (cy D) w p v Fs ps M) (h2 : M.left = 0) : bV (cy D) (w.setCell ⟨p, 1, none⟩ (.int .i64 ((M.steps : Int) + 1))) p v Fs ps M.done /\ Only (fun b => b = p) w (w.setCell ⟨p, 1, none⟩ (.int .i64 ((M.steps : Int) + 1))) := by
 have ho := kg w p 1 (.int .i64 ((M.steps : Int) + 1));refine ⟨h.obj _ _ _ ho ?_, ho⟩;have h3 := heap_setCell_same w p 1 _ _ (.int .i64 ((M.steps : Int) + 1)) h.at_
 simpa [cy, h2] using h3
theorem qQ (fid : FuncId) (bs cs : Array Value) (h : bV (cy D) w p v Fs ps M) (hl : M.left ≠ 1) (hs : M.steps < 1000000) (hll : M.left < 9223372036854775808) (hf : ∀ (args : Array Value) (w : World), (callFunc fid args).run prog w = .ok (.enter fid args) w) (Q : Int -> World -> Prop)
  (hdo : ∀ w1, bV (cy D) w1 p v Fs ps M.done -> Only (fun b => b = p) w w1 -> Calls prog fid (bs ++ cs) w1 fun e w2 => ∃ x, e = .returned (.int .i64 x) /\ Q x w2) :
  Calls prog 107 #[.pointer (some ⟨p, 0, none⟩), .func (.func fid) bs cs] w fun e w2 => ∃ x, e = .returned (.int .i64 x) /\ Q x w2 := by
 obtain ⟨c0, c1, c2, c3⟩ := h.mS;have f2 := frozen_of_row w p 2 _ _ h.at_;have f1 := frozen_of_row w p 1 _ _ h.at_;have HH := ae h;clear h;have hl1 : ((M.left : Int) == 1) = false := by simpa using (by omega : ¬ (M.left : Int) = 1)
 by_cases h2 : 1 < M.left
 ·have HT := ae (acE HH h2);go_enter func107, ntmps107;go_wp2_with fail;refine (hdo _ HT.out.1 HT.out.2).mono ?_;rintro e w3 ⟨x, rfl, hq⟩;go_wp2_with fail;go_ret;exact ⟨x, rfl, hq⟩
 ·have hl0 : M.left = 0 := by omega
  have HT := ae (aaz HH hl0);rw [hl0] at c2;clear hl1 hl hll h2 hl0;go_enter func107, ntmps107;go_wp2_with fail;refine (hdo _ HT.out.1 HT.out.2).mono ?_;rintro e w3 ⟨x, rfl, hq⟩;go_wp2_with fail;go_ret;exact ⟨x, rfl, hq⟩
end
end Go.Proofs.YtlmdklakcmnaiaaGreatDoor
