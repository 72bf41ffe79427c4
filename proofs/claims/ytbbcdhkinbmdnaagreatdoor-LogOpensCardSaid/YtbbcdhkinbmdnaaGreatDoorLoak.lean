import Derived.Test.YtbbcdhkinbmdnaaGreatDoorLoaj
import Derived.Test.YtbbcdhkinbmdnaaGreatDoorLoah
import Derived.Test.YtbbcdhkinbmdnaaGreatDoorLoae
import Derived.Test.YtbbcdhkinbmdnaaGreatDoorLoai
import Derived.Test.YtbbcdhkinbmdnaaGreatDoorLoZ
namespace Go.Proofs.YtbbcdhkinbmdnaaGreatDoor
open Go.RowKit
set_option linter.unusedVariables false
set_option maxRecDepth 100000
def ptr (x : Nat) : Value := .pointer (some ⟨x, 0, none⟩)
def ptrE (s t : TypeId) (und : Tryz.prog.underlying s = some (.slice t)) (info : (Tryz.prog.info? t).map (fun i => (i.zero, i.size, i.bytes)) = some (some (.pointer none), 1, 8)) : Elt Nat where
 s := s
 t := t
 n := 1
 by_ := 8
 cel := fun x => [ptr x]
 d := 0
 z := .pointer none
 pos := by omega
 small := by omega
 len := fun _ => rfl
 one := fun a v hv => by simp only [List.mem_singleton] at hv; subst hv; rfl
 und := und
 info := info
 zc := rfl
section
variable {s t : TypeId} {und : Tryz.prog.underlying s = some (.slice t)} {info : (Tryz.prog.info? t).map (fun i => (i.zero, i.size, i.bytes)) = some (some (.pointer none), 1, 8)} {w : World} {B n k : Nat} {A : Option Addr} {l : List Nat}
theorem RdE.ptr (h : RdE (ptrE s t und info) w B A n l) (hk : k < n) : ∃ b off, A = some ⟨b, off, none⟩ ∧ b < B ∧ w.cell? ⟨b, off + k, none⟩ = some (.pointer (some ⟨l.getD k 0, 0, none⟩)) := by
 obtain ⟨b, off, e, hb, hc⟩ := h.2 k hk
 have := hc 0 (Go.Proofs.YtbbcdhkinbmdnaaGreatDoor.ptr (l.getD k 0)) rfl
 exact ⟨b, off, e, hb, by simpa [ptrE, Go.Proofs.YtbbcdhkinbmdnaaGreatDoor.ptr] using this⟩
end
structure BKind where
 K : DvK
 s : TypeId
 t : TypeId
 und : Tryz.prog.underlying s = some (.slice t)
 info : (Tryz.prog.info? t).map (fun i => (i.zero, i.size, i.bytes)) = some (some (.pointer none), 1, 8)
 o : TypeId
 cs : Value → Nat → Bool → Nat → Array Value
 ne : t ≠ o
def BKind.E (k : BKind) : Elt Nat := ptrE k.s k.t k.und k.info
structure BenAt (k : BKind) (w : World) (p : Nat) (v : Value) (Fs : Nat → Nat → Prop) (ps : List Nat) (M : BenS) : Prop where
 at_ : w.heap[p]? = some (.cells (k.cs v M.left M.dark M.steps) k.o)
 row : aH k.E w 0 v ps
 devs : Devs k.K w Fs ps M.ds
 apart : ∀ i, i < M.ds.length → ∀ b, Fs i b → b ≠ p ∧ v.ownBlock ≠ some b
 one : 1 ≤ M.ds.length
 cap : M.ds.length ≤ 17
def footB (p : Nat) (v : Value) (Fs : Nat → Nat → Prop) (n : Nat) (b : Nat) : Prop := b = p ∨ v.ownBlock = some b ∨ ∃ i, i < n ∧ Fs i b
section
variable {k : BKind} {w w' : World} {p : Nat} {v : Value} {Fs : Nat → Nat → Prop} {ps : List Nat} {M : BenS} {G F' : Nat → Prop} {i : Nat}
theorem BenAt.rowp (h : BenAt k w p v Fs ps M) : v.ownBlock ≠ some p := h.row.dc h.at_ k.ne
theorem BenAt.lt (h : BenAt k w p v Fs ps M) : ∀ b, footB p v Fs M.ds.length b → b < w.heap.size := by
 intro b hb
 rcases hb with rfl | hb | ⟨i, hi, hb⟩
 ·exact aK h.at_
 ·exact h.row.own_lt b hb
 ·exact h.devs.lt i hi b hb
theorem BenAt.only (h : BenAt k w p v Fs ps M) (ho : Only G w w') (hn : ∀ b, footB p v Fs M.ds.length b → ¬ G b) : BenAt k w' p v Fs ps M :=
 ⟨ho.keep h.at_ (hn p (.inl rfl)), h.row.only ho fun b hb => hn b (.inr (.inl hb)), h.devs.only ho fun i hi b hb => hn b (.inr (.inr ⟨i, hi, hb⟩)), h.apart, h.one, h.cap⟩
theorem BenAt.below (h : BenAt k w p v Fs ps M) (hb : Below w.heap.size w w') : BenAt k w' p v Fs ps M := h.only (Only.of_below (fun _ => False) hb) fun _ _ e => e
theorem BenAt.len (h : BenAt k w p v Fs ps M) : ps.length = M.ds.length := h.devs.len
theorem BenAt.obj (h : BenAt k w p v Fs ps M) (left : Nat) (dark : Bool) (steps : Nat) (ho : Only (fun b => b = p) w w') (hc : w'.heap[p]? = some (.cells (k.cs v left dark steps) k.o)) : BenAt k w' p v Fs ps ⟨M.ds, left, dark, steps⟩ :=
 ⟨hc, h.row.only ho fun b hb e => h.rowp (by rw [hb, e]), h.devs.only ho fun i hi b hb e => (h.apart i hi b hb).1 e, h.apart, h.one, h.cap⟩
theorem BenAt.turn (h : BenAt k w p v Fs ps M) (hi : i < M.ds.length) (ho : Only (Fs i) w w') (hg : Grow w (Fs i) F') {d : DevS} (hd : k.K.Dv w' F' (ps.getD i 0) d.S d.L d.g) :
  BenAt k w' p v (upF Fs i F') ps (M.put i d) := by
 refine ⟨ho.keep h.at_ (fun e => (h.apart i hi p e).1 rfl), h.row.only ho fun b hb e => (h.apart i hi b e).2 hb, h.devs.turn hi ho hg hd, fun j hj b hb => ?_, by show 1 ≤ (M.ds.set i d).length; rw [List.length_set]; exact h.one, by show (M.ds.set i d).length ≤ 17; rw [List.length_set]; exact h.cap⟩
 have hj' : j < M.ds.length := by have : j < (M.ds.set i d).length := hj; rwa [List.length_set] at this
 rcases hb with ⟨e, hb⟩ | ⟨e, hb⟩
 ·rcases hg b hb with hb | hb
  ·exact h.apart i hi b hb
  ·have h1 := aK h.at_
   exact ⟨fun e => by omega, fun e => by have := h.row.own_lt b e; omega⟩
 ·exact h.apart j hj' b hb
theorem footB_turn (hi : i < M.ds.length) (ho : Only (Fs i) w w') : Only (footB p v Fs M.ds.length) w w' := ho.widen fun b hb => .inr (.inr ⟨i, hi, hb⟩)
theorem footB_obj (n : Nat) (ho : Only (fun b => b = p) w w') : Only (footB p v Fs n) w w' := ho.widen fun b hb => .inl hb
theorem footB_grow {n : Nat} (hi : i < n) (hg : Grow w (Fs i) F') {n' : Nat} (hn : n' = n) : Grow w (footB p v Fs n) (footB p v (upF Fs i F') n') := by
 subst hn
 intro b hb
 rcases hb with e | e | ⟨j, hj, hb⟩
 ·exact .inl (.inl e)
 ·exact .inl (.inr (.inl e))
 ·rcases hb with ⟨e, hb⟩ | ⟨e, hb⟩
  ·rcases hg b hb with hb | hb
   ·exact .inl (.inr (.inr ⟨i, hi, hb⟩))
   ·exact .inr hb
  ·exact .inl (.inr (.inr ⟨j, hj, hb⟩))
theorem BenAt.slice (h : BenAt k w p v Fs ps M) : ∃ g c, v = .slice (some ⟨g, 0, none⟩) M.ds.length c ∧ M.ds.length ≤ c ∧ c ≤ maxLen := by
 have hl := h.len
 have h1 := h.one
 rcases h.row.2 with ⟨rfl, h0⟩ | ⟨g, cap, cur, rfl, _, _, hc1, hc2, _⟩
 ·omega
 ·exact ⟨g, cap, by rw [hl], by omega, hc2⟩
theorem BenAt.cell {g c : Nat} (h : BenAt k w p (.slice (some ⟨g, 0, none⟩) M.ds.length c) Fs ps M) (hi : i < M.ds.length) : w.cell? ⟨g, i, none⟩ = some (.pointer (some ⟨ps.getD i 0, 0, none⟩)) := by
 have hr : RdE k.E w w.heap.size (some ⟨g, 0, none⟩) M.ds.length ps := h.row.rd
 obtain ⟨b, off, e, _, hc⟩ := RdE.ptr (und := k.und) (info := k.info) hr hi
 injection e with e
 injection e with e1 e2
 subst e1 e2
 rw [Nat.zero_add] at hc
 exact hc
end
theorem BenS.put_len (M : BenS) (k : Nat) (d : DevS) : (M.put k d).ds.length = M.ds.length := by show (M.ds.set k d).length = _; rw [List.length_set]
section
variable {k : BKind} {w w' : World} {p : Nat} {v : Value} {Fs : Nat → Nat → Prop} {ps : List Nat} {M : BenS}
def Left (k : BKind) (w : World) (p : Nat) (v : Value) (Fs : Nat → Nat → Prop) (ps : List Nat) (n : Nat) (M' : BenS) (w' : World) : Prop :=
 ∃ Fs' ps', BenAt k w' p v Fs' ps' M' ∧ Only (footB p v Fs n) w w' ∧ Grow w (footB p v Fs n) (footB p v Fs' M'.ds.length)
theorem Left.same (h : BenAt k w p v Fs ps M) {M' : BenS} (e : M' = M) : Left k w p v Fs ps M.ds.length M' w := by
 subst e; exact ⟨Fs, ps, h, Only.refl _ _, Grow.same _ _⟩
theorem Left.turn (h : BenAt k w p v Fs ps M) {i : Nat} {F' : Nat → Prop} {d : DevS} (hi : i < M.ds.length) (ho : Only (Fs i) w w') (hg : Grow w (Fs i) F') (hd : k.K.Dv w' F' (ps.getD i 0) d.S d.L d.g) {M' : BenS} (e : M' = M.put i d) : Left k w p v Fs ps M.ds.length M' w' := by
 subst e
 exact ⟨_, _, h.turn hi ho hg hd, footB_turn hi ho, footB_grow hi hg (M.put_len i d)⟩
theorem Left.behind {w1 : World} {n : Nat} {M' : BenS} (ho : Only (fun b => b = p) w w1) (h : Left k w1 p v Fs ps n M' w') : Left k w p v Fs ps n M' w' := by
 obtain ⟨Fs', ps', h1, h2, h3⟩ := h
 refine ⟨Fs', ps', h1, (footB_obj n ho).trans h2 fun b hb => .inl hb, fun b hb => ?_⟩
 rcases h3 b hb with e | e
 ·exact .inl e
 ·exact .inr (Nat.le_trans ho.size e)
theorem Left.obj {M' : BenS} (h : BenAt k w' p v Fs ps M') (ho : Only (fun b => b = p) w w') {n : Nat} (hn : M'.ds.length = n) : Left k w p v Fs ps n M' w' := by
 subst hn
 exact ⟨Fs, ps, h, footB_obj _ ho, Grow.same _ _⟩
theorem Left.below_ (h : BenAt k w p v Fs ps M) (hb : Below w.heap.size w w') {M' : BenS} (e : M' = M) : Left k w p v Fs ps M.ds.length M' w' := by
 subst e
 exact ⟨Fs, ps, h.below hb, Only.of_below _ hb, Grow.same _ _⟩
theorem Left.above {w1 : World} {n : Nat} {M' : BenS} (hb : Below w.heap.size w w1) (h : Left k w1 p v Fs ps n M' w') : Left k w p v Fs ps n M' w' := by
 obtain ⟨Fs', ps', h1, h2, h3⟩ := h
 refine ⟨Fs', ps', h1, (Only.of_below _ hb).trans h2 fun b hb => .inl hb, fun b hb' => ?_⟩
 rcases h3 b hb' with e | e
 ·exact .inl e
 ·exact .inr (Nat.le_trans hb.size e)
end
def newD (k : Int) : DevS := ⟨List.replicate k.toNat ap, [], false⟩
theorem newS6_ds (ks : List Int) : (newS6 ks).ds = ks.map newD := rfl
structure Making (kd : BKind) (w wr : World) (v : Value) (Fs : Nat → Nat → Prop) (ps : List Nat) (ds : List DevS) (left : Nat) (dark : Bool) (steps : Nat) : Prop where
 at_ : wr.heap[w.heap.size]? = some (.cells (kd.cs v left dark steps) kd.o)
 row : aH kd.E wr w.heap.size v ps
 devs : Devs kd.K wr Fs ps ds
 apart : ∀ i, i < ds.length → ∀ b, Fs i b → w.heap.size < b ∧ v.ownBlock ≠ some b
 below : Below w.heap.size w wr
section
variable {kd : BKind} {w wr w1 w3 : World} {v v' : Value} {Fs : Nat → Nat → Prop} {F' : Nat → Prop} {ps : List Nat} {ds : List DevS} {p' : Nat} {d : DevS} {o2 : Obj} {left steps : Nat} {dark : Bool}
theorem Making.next (hcs : ∀ v v', (kd.cs v left dark steps).setIfInBounds 0 v' = kd.cs v' left dark steps) (h : Making kd w wr v Fs ps ds left dark steps) (hb1 : Below wr.heap.size wr w1) (hF : ∀ b, F' b → wr.heap.size ≤ b) (hd : kd.K.Dv w1 F' p' d.S d.L d.g)
  (hm : aH kd.E w3 w.heap.size v' (ps ++ [p'])) (hg : (w1.alloc o2).grownBy w3 v.ownBlock) (ho : ∀ x, v'.ownBlock = some x → v.ownBlock = some x ∨ w1.heap.size + 1 ≤ x) :
  Making kd w (w3.setCell ⟨w.heap.size, 0, none⟩ v') v' (upF Fs ds.length F') (ps ++ [p']) (ds ++ [d]) left dark steps := by
 have hx := aK h.at_
 have h1 := hb1.size
 have hsz : (w1.alloc o2).heap.size = w1.heap.size + 1 := World.size_alloc _ _
 have hvl : ∀ b, v.ownBlock = some b → b < wr.heap.size := h.row.own_lt
 have o3 : Only (fun b => v.ownBlock = some b) w1 w3 := (Only.of_below _ ((Below.refl _ w1).alloc (Nat.le_refl _) o2)).trans ((Only.refl (fun b => v.ownBlock = some b) _).grown hg fun k e => .inl e) fun b hb => .inl hb
 have hvx : v.ownBlock ≠ some w.heap.size := h.row.dc h.at_ kd.ne
 have hat1 := cj h.at_ hb1
 have hat3 := o3.keep hat1 hvx
 have o4 : Only (fun b => b = w.heap.size ∨ v.ownBlock = some b) w1 (w3.setCell ⟨w.heap.size, 0, none⟩ v') := (o3.widen fun b hb => .inr hb).setCell (p := ⟨w.heap.size, 0, none⟩) (.inl (.inl rfl)) _
 have hv3 : v'.ownBlock ≠ some w.heap.size := hm.dc hat3 kd.ne
 have hdv := h.devs.push hb1 hF hd
 have hap : ∀ i, i < (ds ++ [d]).length → ∀ b, upF Fs ds.length F' i b → w.heap.size < b ∧ v.ownBlock ≠ some b ∧ b < w1.heap.size := fun i hi b hb => by
  have hlt := hdv.lt i hi b hb
  rcases hb with ⟨e, hb⟩ | ⟨e, hb⟩
  ·have := hF b hb
   exact ⟨by omega, fun e => by have := hvl b e; omega, hlt⟩
  ·rw [List.length_append, List.length_singleton] at hi
   exact ⟨(h.apart i (by omega) b hb).1, (h.apart i (by omega) b hb).2, hlt⟩
 refine ⟨?_, hm.only (ez w3 w.heap.size 0 v') fun b hb e => hv3 (by rw [hb, e]), hdv.only o4 fun i hi b hb e => ?_, fun i hi b hb => ⟨(hap i hi b hb).1, fun e => ?_⟩, ?_⟩
 ·have := heap_setCell_same w3 w.heap.size 0 _ _ v' hat3
  rw [hcs] at this
  exact this
 ·rcases e with e | e
  ·have := (hap i hi b hb).1; omega
  ·exact (hap i hi b hb).2.1 e
 ·rcases ho b e with e | e
  ·exact (hap i hi b hb).2.1 e
  ·have := (hap i hi b hb).2.2; omega
 ·have hb01 : Below w.heap.size w w1 := h.below.trans (hb1.mono h.below.size)
  refine hb01.trans (o4.below (fun b hb => ?_) hb01.size)
  rcases hb with e | e
  ·omega
  ·exact h.row.lt_own b e
theorem Making.done (h : Making kd w wr v Fs ps ds left dark steps) (h1 : 1 ≤ ds.length) (h2 : ds.length ≤ 17) : BenAt kd wr w.heap.size v Fs ps ⟨ds, left, dark, steps⟩ ∧ (∀ b, footB w.heap.size v Fs ds.length b → w.heap.size ≤ b) ∧ Below w.heap.size w wr :=
 ⟨⟨h.at_, h.row.base (Nat.zero_le _), h.devs, fun i hi b hb => ⟨by have := (h.apart i hi b hb).1; omega, (h.apart i hi b hb).2⟩, h1, h2⟩, fun b hb => by
  rcases hb with e | e | ⟨i, hi, e⟩
  ·omega
  ·exact h.row.lt_own b e
  ·have := (h.apart i hi b e).1; omega, h.below⟩
end
def eE (kd : BKind) (w : World) (ks : List Int) (e : Ending) (w' : World) : Prop :=
 Below w.heap.size w w' ∧ ((newOk ks ∧ ∃ p v Fs ps, e = .returned (.tuple #[.pointer (some ⟨p, 0, none⟩), .int .i64 0]) ∧ BenAt kd w' p v Fs ps (newS6 ks) ∧ ∀ b, footB p v Fs (newS6 ks).ds.length b → w.heap.size ≤ b) ∨ (¬ newOk ks ∧ e = .returned (.tuple #[.pointer none, .int .i64 2])))
theorem eE.no {kd : BKind} {w w' : World} {ks : List Int} (hb : Below w.heap.size w w') (hn : ¬ newOk ks) {e : Ending} (he : e = .returned (.tuple #[.pointer none, .int .i64 2])) : eE kd w ks e w' := ⟨hb, .inr ⟨hn, he⟩⟩
theorem take_map_succ {ks : List Int} {j : Nat} (h : j < ks.length) : (ks.take (j + 1)).map newD = (ks.take j).map newD ++ [newD (ks.getD j 0)] := by
 rw [List.take_add_one, List.getD, List.getElem?_eq_getElem h, List.map_append]; rfl
structure BIds where
 read : FuncId
 write : FuncId
 flush : FuncId
 fp : FuncId
structure BenS.Wf (M : BenS) : Prop where
 one : 1 ≤ M.ds.length
 cap : M.ds.length ≤ 17
 len : ∀ i, i < M.ds.length → 1 ≤ (M.ds.getD i cJ).S.length ∧ (M.ds.getD i cJ).S.length ≤ 512
structure Ben (I : BIds) where
 Bn : World → (Nat → Prop) → Nat → BenS → Prop
 lt : ∀ {w F p M}, Bn w F p M → ∀ b, F b → b < w.heap.size
 only : ∀ {w w' F G p M}, Bn w F p M → Only G w w' → (∀ b, F b → ¬ G b) → Bn w' F p M
 wf : ∀ {w F p M}, Bn w F p M → M.Wf
 read : ∀ {w F p M} (d n : Int), Bn w F p M → Calls Tryz.prog I.read #[.pointer (some ⟨p, 0, none⟩), .int .i64 d, .int .i64 n] w fun e w' => e = .returned (.tuple #[blk (cq M d n), .int .i64 (bT M d n)]) ∧ Below w.heap.size w w'
 write : ∀ {w F p M} (d n : Int) (b : Blk), Room M 1 → Bn w F p M → Calls Tryz.prog I.write #[.pointer (some ⟨p, 0, none⟩), .int .i64 d, .int .i64 n, blk b] w fun e w' => e = .returned (.int .i64 (wrE6 M d n)) ∧ ∃ F', Bn w' F' p (dK M d n b) ∧ Only F w w' ∧ Grow w F F'
 flush : ∀ {w F p M} (d : Int), Room M 1 → Bn w F p M → Calls Tryz.prog I.flush #[.pointer (some ⟨p, 0, none⟩), .int .i64 d] w fun e w' => e = .returned (.int .i64 (flE6 M d)) ∧ ∃ F', Bn w' F' p (flS6 M d) ∧ Only F w w' ∧ Grow w F F'
 fp : ∀ {w F p M} (d : Int), Bn w F p M → Calls Tryz.prog I.fp #[.pointer (some ⟨p, 0, none⟩), .int .i64 d] w fun e w' => e = .returned (.int .i64 (bO M d)) ∧ Below w.heap.size w w'
theorem Ben.below {I : BIds} (R : Ben I) {w w' : World} {F : Nat → Prop} {p : Nat} {M : BenS} (h : R.Bn w F p M) (k : Below w.heap.size w w') : R.Bn w' F p M := R.only h (Only.of_below (fun _ => False) k) fun _ _ e => e
section
variable {k : BKind} {w w' : World} {F G : Nat → Prop} {p : Nat} {M M' : BenS}
def NewB (Bn : World → (Nat → Prop) → Nat → BenS → Prop) (w : World) (ks : List Int) (e : Ending) (w' : World) : Prop :=
 Below w.heap.size w w' ∧ ((newOk ks ∧ ∃ p F, e = .returned (.tuple #[.pointer (some ⟨p, 0, none⟩), .int .i64 0]) ∧ Bn w' F p (newS6 ks) ∧ ∀ b, F b → w.heap.size ≤ b) ∨ (¬ newOk ks ∧ e = .returned (.tuple #[.pointer none, .int .i64 2])))
def At {I : BIds} (R : Ben I) (w0 : World) (B : Nat) (w : World) (p : Nat) (M : BenS) : Prop := ∃ F, R.Bn w F p M ∧ (∀ b, F b → B ≤ b) ∧ Below B w0 w ∧ B ≤ w0.heap.size
def InB (k : BKind) (w : World) (F : Nat → Prop) (p : Nat) (M : BenS) : Prop := ∃ v Fs ps, F = footB p v Fs M.ds.length ∧ BenAt k w p v Fs ps M
theorem InB.lt (h : InB k w F p M) : ∀ b, F b → b < w.heap.size := by
 obtain ⟨v, Fs, ps, rfl, h⟩ := h
 exact h.lt
theorem InB.only (h : InB k w F p M) (ho : Only G w w') (hn : ∀ b, F b → ¬ G b) : InB k w' F p M := by
 obtain ⟨v, Fs, ps, rfl, h⟩ := h
 exact ⟨v, Fs, ps, rfl, h.only ho hn⟩
theorem Left.out {v : Value} {Fs : Nat → Nat → Prop} {ps : List Nat} (h : Left k w p v Fs ps M.ds.length M' w') : ∃ F', InB k w' F' p M' ∧ Only (footB p v Fs M.ds.length) w w' ∧ Grow w (footB p v Fs M.ds.length) F' := by
 obtain ⟨Fs', ps', h1, h2, h3⟩ := h
 exact ⟨_, ⟨v, Fs', ps', rfl, h1⟩, h2, h3⟩
end
def LooE : Elt (Int × Blk) := pairE 129 133 Tryz.underlying129 (by kernel_rfl)
structure RefD (w : World) (p : Nat) (vS vL : Value) (S : List Blk) (L : List (Int × Blk)) (g : Bool) : Prop where
 at_ : w.heap[p]? = some (.cells #[vS, vL, .bool g] 131)
 S_ : aH BlkE w 0 vS S
 L_ : aH LooE w 0 vL L
section
variable {w w' : World} {p : Nat} {vS vL : Value} {S : List Blk} {L : List (Int × Blk)} {g : Bool} {F : Nat → Prop}
theorem RefD.lt (h : RefD w p vS vL S L g) : ∀ k, foot p vS vL k → k < w.heap.size := by
 intro k hk
 rcases hk with rfl | hk | hk
 ·exact (Array.getElem?_eq_some_iff.1 h.at_).1
 ·exact h.S_.own_lt k hk
 ·exact h.L_.own_lt k hk
theorem RefD.only (h : RefD w p vS vL S L g) (k : Only F w w') (hn : ∀ b, foot p vS vL b → ¬ F b) : RefD w' p vS vL S L g :=
 ⟨k.keep h.at_ (hn p (.inl rfl)), h.S_.only k fun b hb => hn b (.inr (.inl hb)), h.L_.only k fun b hb => hn b (.inr (.inr hb))⟩
theorem RefD.below (h : RefD w p vS vL S L g) (k : Below w.heap.size w w') : RefD w' p vS vL S L g := h.only (Only.of_below (fun _ => False) k) fun _ _ e => e
end
theorem r_asks (p : Nat) (vS vL : Value) (S : List Blk) (L : List (Int × Blk)) (g : Bool) (n : Int) (w : World) (h : RefD w p vS vL S L g) :
  Calls Tryz.prog 23 #[.pointer (some ⟨p, 0, none⟩), .int .i64 n] w fun e w' => e = .returned (.int .i64 (cR S g n)) ∧ w = w' := by
 obtain ⟨c0, c1, c2⟩ := cells3 h.at_
 obtain ⟨A, c, rfl, hc1, hc2⟩ := h.S_.form
 by_cases h0 : n < 0
 ·have HE := af (askE_out (S := S) (n := n) g (by omega))
  go_enter Tryz.func23, Tryz.ntmps23
  go_wp2
  go_ret
  exact ⟨bD HE.out.symm, rfl⟩
 ·by_cases h1 : n < S.length
  ·cases g
   ·have HE := af (fH (S := S) (n := n) (by omega))
    go_enter Tryz.func23, Tryz.ntmps23
    go_wp2
    go_ret
    exact ⟨bD HE.out.symm, rfl⟩
   ·have HE := af (askE_dead (S := S) (n := n) (by omega))
    go_enter Tryz.func23, Tryz.ntmps23
    go_wp2
    go_ret
    exact ⟨bD HE.out.symm, rfl⟩
  ·have HE := af (askE_out (S := S) (n := n) g (by omega))
   go_enter Tryz.func23, Tryz.ntmps23
   go_wp2
   go_ret
   exact ⟨bD HE.out.symm, rfl⟩
theorem r_read_no (p : Nat) (vS vL : Value) (S : List Blk) (L : List (Int × Blk)) (g : Bool) (n : Int) (w : World) (h : RefD w p vS vL S L g) (he0 : cR S g n ≠ 0) :
  Calls Tryz.prog 74 #[.pointer (some ⟨p, 0, none⟩), .int .i64 n] w fun e w' => e = .returned (.tuple #[blk (eR S L g n), .int .i64 (cR S g n)]) ∧ Below w.heap.size w w' := by
 have hA := (Below.refl w.heap.size w).alloc (Nat.le_refl _) (.cells (cel ap).toArray 29)
 have h1 := h.below hA
 have HT := af (dl w ap 29)
 have HA := af hA
 have HS := af (readB_no (L := L) he0)
 clear hA
 rcases eD (S := S) (g := g) (n := n) with he | he | ⟨he, _⟩
 ·have HE := af he
  clear he he0
  go_enter Tryz.func74, Tryz.ntmps74
  go_wp2_with (first | (refine al rfl (aT rfl) ?_) | fail)
  refine (r_asks p vS vL S L g n _ h1).mono ?_
  rintro e w1 ⟨rfl, rfl⟩
  rw [HE.out]
  go_wp2_with (first | (refine al rfl (b8 (c := ap) (parts := []) rfl rfl) ?_) | (refine aV rfl (aR rfl rfl rfl HT.out) ?_))
  refine bodyPost_ret (bZ rfl _ _ _ rfl (World.rangeAt_setCells_same _ _ _ _ (by rw [aA]; exact HT.out))) rfl ⟨by rw [HS.out, HE.out]; rfl, below_setCells HA.out (Nat.le_refl _) _⟩
 ·have HE := af he
  clear he he0
  go_enter Tryz.func74, Tryz.ntmps74
  go_wp2_with (first | (refine al rfl (aT rfl) ?_) | fail)
  refine (r_asks p vS vL S L g n _ h1).mono ?_
  rintro e w1 ⟨rfl, rfl⟩
  rw [HE.out]
  go_wp2_with (first | (refine al rfl (b8 (c := ap) (parts := []) rfl rfl) ?_) | (refine aV rfl (aR rfl rfl rfl HT.out) ?_))
  refine bodyPost_ret (bZ rfl _ _ _ rfl (World.rangeAt_setCells_same _ _ _ _ (by rw [aA]; exact HT.out))) rfl ⟨by rw [HS.out, HE.out]; rfl, below_setCells HA.out (Nat.le_refl _) _⟩
 ·exact absurd he he0
set_option maxHeartbeats 2000000 in
theorem r_read_ok (p k : Nat) (vS vL : Value) (S : List Blk) (L : List (Int × Blk)) (w : World) (h : RefD w p vS vL S L false) (hk : k < S.length) :
  Calls Tryz.prog 74 #[.pointer (some ⟨p, 0, none⟩), .int .i64 k] w fun e w' => e = .returned (.tuple #[blk (eR S L false k), .int .i64 0]) ∧ Below w.heap.size w w' := by
 have hA := (Below.refl w.heap.size w).alloc (Nat.le_refl _) (.cells (cel ap).toArray 29)
 have h1 := h.below hA
 have he : cR S false k = 0 := fH (by omega)
 have HE := af he
 have HS := af (readB_ok (L := L) he)
 have HN1 := new1 w (cel ap).toArray 29
 clear he
 obtain ⟨A, c, rfl, hrd, hc1, hc2⟩ := h1.S_.open_ rfl
 obtain ⟨b, off, rfl, hb, hr⟩ := hrd.blk hk
 obtain ⟨c0, c1, c2⟩ := cells3 h1.at_
 generalize S.getD k ap = x at *
 have HR := af hr
 have HH := af h1
 have HA := af hA
 have HN := af HN1
 have HSZ := af (World.size_alloc w (.cells (cel ap).toArray 29))
 clear hr hrd h1 hA h HN1
 go_enter Tryz.func74, Tryz.ntmps74
 go_wp2_with (first | (refine al rfl (aT rfl) ?_) | fail)
 generalize w.alloc (.cells (cel ap).toArray 29) = w1 at *
 refine (r_asks p _ vL S L false k _ HH.out).mono ?_
 rintro e w2 ⟨rfl, rfl⟩
 rw [HE.out]
 go_wp2_with (first | (refine al rfl (aS rfl rfl HR.out) ?_) | (refine al rfl (aT rfl) ?_) | (refine aV rfl (exec_fill rfl rfl rfl) ?_) | fail)
 have HY := af (new1 w1 (cel x).toArray 29)
 have HH2 := af (HH.out.below ((Below.refl _ _).alloc (Nat.le_refl _) (.cells (cel x).toArray 29)))
 have HK2 := af (bU HN.out (.cells (cel x).toArray 29))
 have HA2 := af (HA.out.alloc HA.out.size (.cells (cel x).toArray 29))
 have HF := af HH.out.lt
 have hyw : w.heap.size < w1.heap.size := by rw [HSZ.out]; omega
 have HSZ2 := af (World.size_alloc w1 (.cells (cel x).toArray 29))
 clear HH HN HA c0 c1 c2 HR
 generalize hy : w1.heap.size = y at *
 generalize w1.alloc (.cells (cel x).toArray 29) = w2 at *
 clear hy
 go_wp2_with fail
 go_loopw [8] (fun i wr => ∃ j : Nat, j ≤ L.length ∧ i = .int .i64 j ∧ Only (fun b => b = y) w2 wr ∧ wr.heap[y]? = some (.cells (cel (lastW (L.take j) k x)).toArray 29)) (fun i _ => L.length - (intOf i).toNat)
 case atStart => exact ⟨0, Nat.zero_le _, rfl, Only.refl _ _, HY.out⟩
 case round =>
  obtain ⟨j, hj, rfl, hon, hY⟩ := hrel
  have hH := HH2.out.only hon (fun b hb e => by have := HF.out b hb; omega)
  obtain ⟨c0, c1, c2⟩ := cells3 hH.at_
  obtain ⟨AL, cL, rfl, hrd, hl1, hl2⟩ := hH.L_.open_ rfl
  unfold maxLen at hl2
  have HON := af hon
  have HYW := af hY
  clear hon hY hH
  by_cases hlt : j < L.length
  ·have HNX := af (lastW_succ (L := L) (k : Int) x hlt)
   obtain ⟨bA, oA, rfl, hA, cA, rA⟩ := hrd.pair hlt
   generalize L.getD j (0, ap) = q at *
   obtain ⟨qn, qb⟩ := q
   have HRA := af rA
   have HTY := af (blk_there HYW.out)
   clear rA hrd
   have hAw : bA ≠ y := by have := HF.out bA (.inr (.inr rfl)); omega
   have hLL : (j : Int) < (L.length : Int) := by omega
   by_cases e : qn = (k : Int)
   ·simp only [e, if_true] at HNX
    subst e
    go_wp2_with (first | (refine al rfl (aS rfl rfl HRA.out) ?_) | (refine aV rfl (aR rfl rfl rfl HTY.out) ?_))
    go_roundw
    case rel => exact ⟨j + 1, by omega, by go_num, HON.out.setCells (.inl rfl) _ _, by rw [HNX.out]; exact blk_laid HYW.out⟩
    case measure => simp [intOf]; omega
   ·rw [if_neg e] at HNX
    go_wp2_with (first | (refine al rfl (aS rfl rfl HRA.out) ?_) | (refine aV rfl (aR rfl rfl rfl HTY.out) ?_))
    go_roundw
    case rel => exact ⟨j + 1, by omega, by go_num, HON.out, by rw [HNX.out]; exact HYW.out⟩
    case measure => simp [intOf]; omega
  ·have hjn : j = L.length := by omega
   subst hjn
   have HR := af (HON.out.keep HK2.out (by omega))
   have HTR := af (blk_there HR.out)
   have HRY := af (blk_range HYW.out)
   rw [List.take_length] at HRY
   generalize lastW L (k : Int) x = z at *
   have hLL : ¬((L.length : Int) < (L.length : Int)) := by omega
   go_wp2_with (first | (refine al rfl (aS rfl rfl HRY.out) ?_) | (refine aV rfl (aR rfl rfl rfl HTR.out) ?_))
   refine bodyPost_ret (bZ rfl _ _ _ rfl (World.rangeAt_setCells_same _ _ _ _ (by rw [aA]; exact HTR.out))) rfl ⟨by rw [HS.out]; rfl, ?_⟩
   exact below_setCells (HA2.out.trans (HON.out.below (fun b hb => by omega) (by rw [HSZ2.out]; omega))) (Nat.le_refl _) _
theorem r_read (p : Nat) (vS vL : Value) (S : List Blk) (L : List (Int × Blk)) (g : Bool) (n : Int) (w : World) (h : RefD w p vS vL S L g) :
  Calls Tryz.prog 74 #[.pointer (some ⟨p, 0, none⟩), .int .i64 n] w fun e w' => e = .returned (.tuple #[blk (eR S L g n), .int .i64 (cR S g n)]) ∧ Below w.heap.size w w' := by
 by_cases he : cR S g n = 0
 ·rcases eD (S := S) (g := g) (n := n) with h1 | h1 | ⟨_, rfl, k, rfl, hk⟩
  ·omega
  ·omega
  ·rw [he]; exact r_read_ok p k vS vL S L w h hk
 ·exact r_read_no p vS vL S L g n w h he
section
variable {w w' : World} {p : Nat} {vS vL : Value} {S : List Blk} {L : List (Int × Blk)} {g : Bool}
theorem RefD.setL (h : RefD w p vS vL S L g) {vL' : Value} {L' : List (Int × Blk)} (h' : aH LooE w 0 vL' L') : RefD (w.setCell ⟨p, 1, none⟩ vL') p vS vL' S L' g := by
 have hO := ez w p 1 vL'
 refine ⟨?_, h.S_.only hO fun b hb e => h.S_.dc h.at_ (by decide) (by rw [hb, e]), h'.only hO fun b hb e => h'.dc h.at_ (by decide) (by rw [hb, e])⟩
 have := heap_setCell_same w p 1 _ _ vL' h.at_
 simpa using this
theorem lay_L (hp : w.heap[p]? = some (.cells #[vS, vL, .bool g] 131)) (hS : aH BlkE w 0 vS S) {vL' : Value} {L' : List (Int × Blk)} (h' : aH LooE w 0 vL' L') : RefD (w.setCell ⟨p, 1, none⟩ vL') p vS vL' S L' g := by
 have hO := ez w p 1 vL'
 refine ⟨?_, hS.only hO fun b hb e => hS.dc hp (by decide) (by rw [hb, e]), h'.only hO fun b hb e => h'.dc hp (by decide) (by rw [hb, e])⟩
 have := heap_setCell_same w p 1 _ _ vL' hp
 simpa using this
theorem faD0 {b : Nat} : (Instr.fieldAt 131 (.pointer (some ⟨b, 0, none⟩)) 0).run Tryz.prog w = .ok (.pointer (some ⟨b, 0, none⟩)) w := by kernel_rfl
theorem faD1 {b : Nat} : (Instr.fieldAt 131 (.pointer (some ⟨b, 0, none⟩)) 1).run Tryz.prog w = .ok (.pointer (some ⟨b, 1, none⟩)) w := by kernel_rfl
theorem ldSl {a : Addr} {A : Option Addr} {n c : Nat} (h : w.cell? a = some (.slice A n c)) : (Instr.loadAt 129 (.pointer (some a))).run Tryz.prog w = .ok (.slice A n c) w := by simp [go_sem, h]
theorem stS {a : Addr} {v : Value} {A : Option Addr} {n c : Nat} (h : w.cell? a = some v) (hf : w.frozen? a = false) : (Instr.storeAt 129 (.pointer (some a)) (.slice A n c)).run Tryz.prog w = .ok () (w.setCell a (.slice A n c)) := by simp [go_sem, h, hf]
theorem run_buildL (k : Int) (b : Blk) : (Instr.build 133 #[(0, .int .i64 k), (1, blk b)]).run Tryz.prog w = .ok (pairV k b) w := by
 have hz := run_zeroE LooE w
 have h1 := fS (place := fun i => (#[(0, 1), (1, 64)] : Array (Nat × Nat))[i]?) (i := 0) (off := 0) (size := 1) (v := .int .i64 k) (pre := []) (mid := [.int .i64 0]) (post := cel ap) (vs := [.int .i64 k]) (rest := [(1, blk b)]) rfl rfl rfl rfl rfl
 have h2 := fS (place := fun i => (#[(0, 1), (1, 64)] : Array (Nat × Nat))[i]?) (i := 1) (off := 1) (size := 64) (v := blk b) (pre := [.int .i64 k]) (mid := cel ap) (post := []) (vs := cel b) (rest := []) rfl rfl (aA b) rfl (aA ap)
 simp only [List.nil_append, List.append_nil, List.singleton_append] at h1 h2
 have h3 := h1.trans h2
 have hz' : (zeroValue 133).run Tryz.prog w = .ok (pairV 0 ap) w := hz
 have hc : (pairV 0 ap).cells = (.int .i64 0 :: cel ap).toArray := rfl
 simp only [Instr.build, Sem.run_bind, hz', run_underlying Tryz.underlying133, Result.andThen_ok, hc]
 refine Eq.trans (congrArg (fun r => Result.andThen r _) (?h : _ = Result.ok #[(0, 1), (1, 64)] w)) ?_
 case h => kernel_rfl
 simp only [Result.andThen_ok]
 have h4 : Instr.fill (fun i => (#[(0, 1), (1, 64)] : Array (Nat × Nat))[i]?) (.int .i64 k :: cel b).toArray [] = some (.int .i64 k :: cel b).toArray := by rw [Instr.fill]
 rw [h3.trans h4]
 rfl
theorem exec_buildL {ρ : Operand → Value} {o : Oper} {x y : Operand} {k : Int} {b : Blk} (ho : o.op = .build 133 #[(0, x), (1, y)]) (hx : ρ x = .int .i64 k) (hy : ρ y = blk b) : (execOp ρ o).run Tryz.prog w = .ok (.value (pairV k b)) w := by
 have h := run_buildL (w := w) k b
 unfold execOp
 simp only [ho, List.map_toArray, List.map_cons, List.map_nil, hx, hy, Sem.run_bind, h, Result.andThen_ok, Sem.run_pure]
theorem pair_cells (k : Int) (b : Blk) : (pairV k b).cells = (LooE.cel (k, b)).toArray := rfl
end
set_option maxHeartbeats 1000000 in
theorem r_write_no (p : Nat) (vS vL : Value) (S : List Blk) (L : List (Int × Blk)) (g : Bool) (n : Int) (b : Blk) (w : World) (h : RefD w p vS vL S L g) (he0 : cR S g n ≠ 0) :
  Calls Tryz.prog 25 #[.pointer (some ⟨p, 0, none⟩), .int .i64 n, blk b] w fun e w' => e = .returned (.int .i64 (cR S g n)) ∧ Below w.heap.size w w' := by
 have hA := (Below.refl w.heap.size w).alloc (Nat.le_refl _) (.cells (cel b).toArray 29)
 have h1 := h.below hA
 have HA := af hA
 clear hA
 have H0 := af he0
 rcases eD (S := S) (g := g) (n := n) with he | he | ⟨he, _⟩
 ·have HE := af he
  clear he he0
  go_enter Tryz.func25, Tryz.ntmps25
  go_wp2_with (first | (refine al rfl (bE rfl rfl) ?_) | fail)
  refine (r_asks p vS vL S L g n _ h1).mono ?_
  rintro e w1 ⟨rfl, rfl⟩
  rw [HE.out]
  go_wp2_with fail
  go_ret
  exact ⟨bD HE.out.symm, HA.out⟩
 ·have HE := af he
  clear he he0
  go_enter Tryz.func25, Tryz.ntmps25
  go_wp2_with (first | (refine al rfl (bE rfl rfl) ?_) | fail)
  refine (r_asks p vS vL S L g n _ h1).mono ?_
  rintro e w1 ⟨rfl, rfl⟩
  rw [HE.out]
  go_wp2_with fail
  go_ret
  exact ⟨bD HE.out.symm, HA.out⟩
 ·exact absurd he he0
set_option maxHeartbeats 1000000 in
theorem r_write_ok (p k : Nat) (vS vL : Value) (S : List Blk) (L : List (Int × Blk)) (b : Blk) (w : World) (h : RefD w p vS vL S L false) (hk : k < S.length) (hL : L.length < 1000000) :
  Calls Tryz.prog 25 #[.pointer (some ⟨p, 0, none⟩), .int .i64 k, blk b] w fun e w' => e = .returned (.int .i64 0) ∧ ∃ vL', RefD w' p vS vL' S (L ++ [((k : Int), b)]) false ∧ Only (foot p vS vL) w w' ∧ (∀ x, vL'.ownBlock = some x → vL.ownBlock = some x ∨ w.heap.size ≤ x) := by
 have hA := (Below.refl w.heap.size w).alloc (Nat.le_refl _) (.cells (cel b).toArray 29)
 have h1 := h.below hA
 have HA := af hA
 have HE := af (fH (S := S) (n := (k : Int)) (by omega))
 have HB := af (new1 w (cel b).toArray 29)
 clear hA
 obtain ⟨AL, cL, rfl, hl1, hl2⟩ := h1.L_.form
 go_enter Tryz.func25, Tryz.ntmps25
 go_wp2_with (first | (refine al rfl (bE rfl rfl) ?_) | fail)
 refine (r_asks p vS _ S L false k _ h1).mono ?_
 rintro e w1 ⟨rfl, rfl⟩
 rw [HE.out]
 go_wp2_with fail
 generalize hy : w.heap.size = y at *
 generalize w.alloc (.cells (cel b).toArray 29) = w1 at *
 refine bH (fun w' => w'.heap[p]? = some (.cells #[vS, .slice AL L.length cL, .bool false] 131) ∧ w'.heap[y]? = some (.cells (cel b).toArray 29)) 12 (by kernel_rfl) ?_
 change cF _ _ _ _ _ _ 13 _ _ w1.drew
 have hS : w1.drew.heap[p]? = some (.cells #[vS, .slice AL L.length cL, .bool false] 131) ∧ w1.drew.heap[y]? = some (.cells (cel b).toArray 29) := ⟨h1.at_, HB.out⟩
 refine gu 0 rfl (fun w' hw => aj rfl (ev rfl)) hS ?_;simp only [aa]
 refine gu 1 rfl (fun w' hw => aj rfl (ev rfl)) hS ?_;simp only [aa]
 refine gu 2 rfl (fun w' hw => aB rfl (ev rfl)) hS ?_;simp only [aa]
 refine gu 3 rfl (fun w' hw => am rfl (ev rfl) faD1) hS ?_;simp only [aa]
 refine gu 4 rfl (fun w' hw => au rfl (ev rfl) (ldSl (cells3 hw.1).2.1)) hS ?_;simp only [aa]
 refine gu 5 rfl (fun w' hw => aj rfl (ev rfl)) hS ?_;simp only [aa]
 refine gu 6 rfl (fun w' hw => aS rfl (ev rfl) (blk_range hw.2)) hS ?_;simp only [aa]
 refine gu 7 rfl (fun w' hw => exec_buildL rfl (ev rfl) (ev rfl)) hS ?_;simp only [aa]
 have hr : RefD w1.drew p vS (.slice AL L.length cL) S L false := ⟨h1.at_, h1.S_, h1.L_⟩
 have hS2 : RefD (w1.drew.alloc (.cells (LooE.cel ((k : Int), b)).toArray LooE.t)) p vS (.slice AL L.length cL) S L false := hr.below ((Below.refl _ _).alloc (Nat.le_refl _) _)
 have hb2 := bU hS.2 (.cells (LooE.cel ((k : Int), b)).toArray LooE.t)
 have hnew : RdE LooE _ _ _ 1 _ := eF (E := LooE) (l := [((k : Int), b)]) w1.drew (LooE.cel ((k : Int), b)).toArray LooE.t (by rw [d5]; simp [bC])
 obtain ⟨v3, w3, hrun, hm3, hg3, ho3⟩ := eW LooE _ 129 0 _ 1 1 _ _ _ _ hS2.L_ hnew (Nat.zero_le _) (by omega)
 have hO2 : Only (foot p vS (.slice AL L.length cL)) w (w1.drew.alloc (.cells (LooE.cel ((k : Int), b)).toArray LooE.t)) := (Only.of_below _ (hy ▸ HA.out)).drew.alloc _
 have hO3 := hO2.grown hg3 (fun x hx => .inl (.inr (.inr hx)))
 have hp3 : w3.heap[p]? = some (.cells #[vS, .slice AL L.length cL, .bool false] 131) := (hg3.block p (aK hS2.at_) (fun e => hS2.L_.dc hS2.at_ (by decide) e.symm)).trans hS2.at_
 have hy3 : w3.heap[y]? = some (.cells (cel b).toArray 29) := (hg3.block y (aK hb2) (fun e => hS2.L_.dc hb2 (by decide) e.symm)).trans hb2
 have hSS3 := hS2.S_.kept hg3 (hS2.S_.other hS2.L_ (by decide))
 refine bl 8 rfl (by kernel_rfl) rfl (du (E := LooE) (a := ((k : Int), b)) rfl (ev rfl) (pair_cells _ _) (by decide)) (fun _ => ⟨hS2.at_, hb2⟩) ?_;simp only [aa]
 refine bl 9 rfl (by kernel_rfl) rfl (fP (E := LooE) rfl (ev rfl) (ev rfl) hrun) (fun _ => ⟨hp3, hy3⟩) ?_;simp only [aa]
 refine bl 10 rfl (by kernel_rfl) rfl (aB rfl (ev rfl)) (fun _ => ⟨hp3, hy3⟩) ?_;simp only [aa]
 refine bl 11 rfl (by kernel_rfl) rfl (am rfl (ev rfl) faD1) (fun _ => ⟨hp3, hy3⟩) ?_;simp only [aa]
 obtain ⟨A3, c3, rfl, _, _⟩ := hm3.form
 refine fy 12 rfl (by kernel_rfl) rfl (fD rfl (ev rfl) (ev rfl) (stS (cells3 hp3).2.1 (frozen_of_row _ _ _ _ _ hp3))) (fun e => absurd rfl e) ?_
 simp only [Act.put]
 refine cm (by kernel_rfl) ?_ _
 go_wp2_with fail
 go_ret
 refine ⟨rfl, _, lay_L hp3 hSS3 hm3, hO3.setCell (.inl (.inl rfl)) _, fun x hx => ?_⟩
 rcases ho3 x hx with e | e
 ·exact .inl e
 ·refine .inr (Nat.le_trans ?_ e)
  have := hO2.size
  omega
theorem r_write (p : Nat) (vS vL : Value) (S : List Blk) (L : List (Int × Blk)) (g : Bool) (n : Int) (b : Blk) (w : World) (h : RefD w p vS vL S L g) (hL : L.length < 1000000) :
  Calls Tryz.prog 25 #[.pointer (some ⟨p, 0, none⟩), .int .i64 n, blk b] w fun e w' => e = .returned (.int .i64 (cR S g n)) ∧ ∃ vL', RefD w' p vS vL' S (wrL S L g n b) g ∧ Only (foot p vS vL) w w' ∧ (∀ x, vL'.ownBlock = some x → vL.ownBlock = some x ∨ w.heap.size ≤ x) := by
 by_cases he : cR S g n = 0
 ·rcases eD (S := S) (g := g) (n := n) with h1 | h1 | ⟨_, rfl, k, rfl, hk⟩
  ·omega
  ·omega
  ·have e : wrL S L false k b = L ++ [((k : Int), b)] := by unfold wrL; rw [if_pos he]
   rw [e, he]
   exact r_write_ok p k vS vL S L b w h hk hL
 ·have e : wrL S L g n b = L := by unfold wrL; rw [if_neg he]
  rw [e]
  exact (r_write_no p vS vL S L g n b w h he).mono fun e w' ⟨h1, h2⟩ => ⟨h1, vL, h.below h2, Only.of_below _ h2, fun x hx => .inl hx⟩
section
variable {w : World} {p b off gg n c k : Nat} {vL : Value} {S : List Blk} {L : List (Int × Blk)} {g : Bool}
theorem faL0 : (Instr.fieldAt 133 (.pointer (some ⟨b, off, none⟩)) 0).run Tryz.prog w = .ok (.pointer (some ⟨b, off, none⟩)) w := by kernel_rfl
theorem faL1 : (Instr.fieldAt 133 (.pointer (some ⟨b, off, none⟩)) 1).run Tryz.prog w = .ok (.pointer (some ⟨b, off + 1, none⟩)) w := by kernel_rfl
theorem RefD.setS (h : RefD w p (.slice (some ⟨gg, 0, none⟩) n c) vL S L g) (hk : k < n) (x : Blk) : RefD (w.setCells gg (k * 64) (cel x)) p (.slice (some ⟨gg, 0, none⟩) n c) vL (S.set k x) L g := by
 have hO : Only (fun b => b = gg) w (w.setCells gg (k * 64) (cel x)) := (Only.refl (fun b => b = gg) w).setCells (.inl rfl) _ _
 refine ⟨hO.keep h.at_ (fun e => h.S_.dc h.at_ (by decide) (by rw [e]; rfl)), h.S_.store hk x, h.L_.only hO fun b hb e => ?_⟩
 rcases h.L_.other h.S_ (by decide) with e' | e'
 ·rw [e'] at hb; cases hb
 ·exact e' (by rw [hb, e]; rfl)
end
theorem r_flush_dead (p : Nat) (vS vL : Value) (S : List Blk) (L : List (Int × Blk)) (w : World) (h : RefD w p vS vL S L true) :
  Calls Tryz.prog 131 #[.pointer (some ⟨p, 0, none⟩)] w fun e w' => e = .returned (.int .i64 9) ∧ w = w' := by
 obtain ⟨c0, c1, c2⟩ := cells3 h.at_
 go_enter Tryz.func131, Tryz.ntmps131
 go_wp2
 go_ret
 exact ⟨rfl, rfl⟩
set_option maxHeartbeats 2000000 in
theorem r_flush_ok (p : Nat) (vS vL : Value) (S : List Blk) (L : List (Int × Blk)) (w : World) (h : RefD w p vS vL S L false) (hF : Fit S L) :
  Calls Tryz.prog 131 #[.pointer (some ⟨p, 0, none⟩)] w fun e w' => e = .returned (.int .i64 0) ∧ RefD w' p vS (.slice none 0 0) (flS S L) [] false ∧ Only (foot p vS vL) w w' := by
 obtain ⟨c0, c1, c2⟩ := cells3 h.at_
 obtain ⟨AL, cL, rfl, hl1, hl2⟩ := h.L_.form
 unfold maxLen at hl2
 have HH := af h
 have HF := af hF
 clear h hF
 go_enter Tryz.func131, Tryz.ntmps131
 go_wp2
 clear c0 c1 c2
 go_loopw [3] (fun i wr => ∃ j : Nat, j ≤ L.length ∧ i = .int .i64 j ∧ RefD wr p vS (.slice AL L.length cL) (flS S (L.take j)) L false ∧ Only (foot p vS (.slice AL L.length cL)) w wr) (fun i _ => L.length - (intOf i).toNat)
 case atStart => exact ⟨0, Nat.zero_le _, rfl, HH.out, Only.refl _ _⟩
 case round =>
  obtain ⟨j, hj, rfl, hr, hon⟩ := hrel
  obtain ⟨c0, c1, c2⟩ := cells3 hr.at_
  by_cases hlt : j < L.length
  ·obtain ⟨k, hqk, hk⟩ := HF.out.at_ hlt
   have hlenS := fC S (L.take j)
   obtain ⟨gS, cS, rfl⟩ := hr.S_.slice hlenS (by omega)
   obtain ⟨bA, oA, hAe, hAl, cA, rA⟩ := hr.L_.rd.pair hlt
   have HS := af (flS_succ (S := S) hlt)
   rw [hqk] at cA HS
   generalize (L.getD j (0, ap)).2 = x at *
   have HRA := af rA
   have HA := af (⟨c0, c1⟩ : _ ∧ _)
   have HRr := af hr
   have HON := af hon
   subst hAe
   have HKT := af (show wr.there gS (k * 64) 64 from by
    have := HRr.out.S_.there hk (j := 0) (m := 64) (Nat.le_refl _)
    rw [Nat.add_zero] at this
    exact this)
   clear hr hon rA hqk hlenS
   have hLL : (j : Int) < (L.length : Int) := by omega
   go_wp2_with fail
   refine wp_region_still_tail 21 (by kernel_rfl) (by kernel_rfl) ?_
   simp only [ae]
   refine aF rfl (aj rfl (ev rfl)) ?_;simp only [aa]
   refine aF rfl (aB rfl (ev rfl)) ?_;simp only [aa]
   refine aF rfl (am rfl (ev rfl) faD0) ?_;simp only [aa]
   refine aF rfl (au rfl (ev rfl) (ldB HA.out.1)) ?_;simp only [aa]
   refine aF rfl (aj rfl (ev rfl)) ?_;simp only [aa]
   refine aF rfl (aB rfl (ev rfl)) ?_;simp only [aa]
   refine aF rfl (am rfl (ev rfl) faD1) ?_;simp only [aa]
   refine aF rfl (au rfl (ev rfl) (ldSl HA.out.2)) ?_;simp only [aa]
   refine aF rfl (aj rfl (ev rfl)) ?_;simp only [aa]
   refine aF rfl (bQ (E := LooE) rfl (ev rfl) (ev rfl) hlt) ?_;simp only [aa]
   refine aF rfl (am rfl (ev rfl) faL0) ?_;simp only [aa]
   refine aF rfl (au rfl (ev rfl) (ldI cA)) ?_;simp only [aa]
   refine aF rfl (aj rfl (ev rfl)) ?_;simp only [aa]
   refine aF rfl (aB rfl (ev rfl)) ?_;simp only [aa]
   refine aF rfl (am rfl (ev rfl) faD1) ?_;simp only [aa]
   refine aF rfl (au rfl (ev rfl) (ldSl HA.out.2)) ?_;simp only [aa]
   refine aF rfl (aj rfl (ev rfl)) ?_;simp only [aa]
   refine aF rfl (bQ (E := LooE) rfl (ev rfl) (ev rfl) hlt) ?_;simp only [aa]
   refine aF rfl (am rfl (ev rfl) faL1) ?_;simp only [aa]
   refine aF rfl (aS rfl (ev rfl) HRA.out) ?_;simp only [aa]
   refine aF rfl (exec_index0 (E := BlkE) rfl (ev rfl) (ev rfl) hk) ?_;simp only [aa]
   refine wpStill_nil ?_
   change wpList _ _ _ _ _ wr.drew
   go_wp2_with (first | (refine aV rfl (aR rfl rfl rfl HKT.out) ?_))
   go_roundw
   case rel =>
    have hd : RefD wr.drew p (.slice (some ⟨gS, 0, none⟩) S.length cS) (.slice (some ⟨bA, oA, none⟩) L.length cL) (flS S (L.take j)) L false := ⟨HRr.out.at_, HRr.out.S_, HRr.out.L_⟩
    exact ⟨j + 1, by omega, by go_num, by rw [HS.out]; exact hd.setS hk x, HON.out.drew.setCells (.inl (.inr (.inl rfl))) _ _⟩
   case measure => simp [intOf]; omega
  ·have hjn : j = L.length := by omega
   subst hjn
   have f1 := frozen_of_row wr p 1 _ _ hr.at_
   have HRr := af hr
   have HON := af hon
   clear hr hon
   have hLL : ¬((L.length : Int) < (L.length : Int)) := by omega
   go_wp2
   go_ret
   have hd := HRr.out.setL (aH.nil _ _)
   rw [List.take_length] at hd
   exact ⟨rfl, hd, HON.out.setCell (.inl (.inl rfl)) _⟩
set_option maxHeartbeats 1000000 in
theorem r_new_ok (k : Nat) (w : World) (h1 : 1 ≤ k) (h2 : k ≤ 512) :
  Calls Tryz.prog 57 #[.int .i64 k] w fun e w' => ∃ p vS, e = .returned (.tuple #[.pointer (some ⟨p, 0, none⟩), .int .i64 0]) ∧ RefD w' p vS (.slice none 0 0) (List.replicate k ap) [] false ∧ Below w.heap.size w w' ∧ ∀ b, foot p vS (.slice none 0 0) b → w.heap.size ≤ b := by
 go_enter Tryz.func57, Tryz.ntmps57
 have HM := af (heap_alloc_new w (.cells (madeCells (cel ap).toArray (k * 64)) 29))
 have HB := af ((Below.refl w.heap.size w).alloc (Nat.le_refl _) (.cells (madeCells (cel ap).toArray (k * 64)) 29))
 have HSZ := af (World.size_alloc w (.cells (madeCells (cel ap).toArray (k * 64)) 29))
 go_wp2_with (first | (refine al rfl (exec_make (n := k) rfl rfl rfl (by omega)) ?_))
 generalize w.alloc (.cells (madeCells (cel ap).toArray (k * 64)) 29) = w1 at *
 go_ret2
 have hS : aH BlkE w1 0 (.slice (some ⟨w.heap.size, 0, none⟩) k k) (List.replicate k ap) := aH.of_block (E := BlkE) HM.out (by rw [← flat_zeros]; rfl) (Nat.zero_le _) (by simp) (by unfold maxLen; omega)
 have hnw := heap_alloc_new w1 (.cells #[.slice (some ⟨w.heap.size, 0, none⟩) k k, .slice none 0 0, .bool false] 131)
 rw [HSZ.out] at hnw
 refine ⟨w.heap.size + 1, _, rfl, ⟨hnw, hS.below ((Below.refl _ _).alloc (Nat.le_refl _) _), aH.nil _ _⟩, HB.out.alloc HB.out.size _, fun b hb => ?_⟩
 rcases hb with rfl | hb | hb
 ·omega
 ·simp [Value.ownBlock] at hb; omega
 ·simp [Value.ownBlock] at hb
theorem r_new_no (n : Int) (w : World) (h : ¬(1 ≤ n ∧ n ≤ 512)) :
  Calls Tryz.prog 57 #[.int .i64 n] w fun e w' => e = .returned (.tuple #[.pointer none, .int .i64 2]) ∧ w = w' := by
 have hor : n < 1 ∨ (1 ≤ n ∧ 512 < n) := by omega
 clear h
 rcases hor with h | ⟨h, h'⟩
 all_goals
  go_enter Tryz.func57, Tryz.ntmps57
  go_wp2
  go_ret2
  exact ⟨rfl, rfl⟩
end Go.Proofs.YtbbcdhkinbmdnaaGreatDoor
