import Derived.Test.YtehefifamaofkaaGreatDoorGlaa
import Derived.Laws.CopyRow
import Derived.RangeFuncNested
import Derived.RangeFuncBound
import Derived.RangeFuncCalls
import Derived.RangeFuncLeaves
import Derived.Shelf.Abstract
import Derived.Shelf.RegionOpen
import Derived.OwnWalkIn
import Derived.TacticsInMore
import Derived.LoopNIn
import Derived.LoopIn
namespace Go.Proofs.YtehefifamaofkaaGreatDoor
set_option maxHeartbeats 8000000
open Go.Proofs.Tryz
open Go.RowKit
set_option maxRecDepth 100000
set_option linter.unusedVariables false
section
variable {P : Program} {ops : Array Oper} {Q : Exit -> Act -> World -> Prop} {md : Region.Mode} {S : World -> Prop} {z : Nat}
def eO (P : Program) (md : Region.Mode) (ops : Array Oper) (Q : Exit -> Act -> World -> Prop) (S : World -> Prop) (z : Nat) : Nat -> Array Bool -> Act -> World -> Prop
 |0, listed, a, w => Region.ready md ops listed = [] /\ Q .normal a w
 |fuel + 1, listed, a, w =>
  (Region.ready md ops listed = [] -> Q .normal a w) /\
  ∀ i ∈ Region.ready md ops listed, wpOp P ops Q i (fun a' w' => (i ≠ z -> S w') /\ eO P md ops Q S z fuel (listed.setIfInBounds i true) a' w') a w
theorem nJ : ∀ (fuel : Nat) (listed : Array Bool) (a : Act) (w : World), eO P md ops Q S z fuel listed a w -> wpAny P md ops Q fuel listed a w
 |0, _, _, _, h => h
 |fuel + 1, _, _, _, h => ⟨h.1, fun i hi => wpOp_mono (fun a' w' h' => nJ fuel _ a' w' h'.2) (h.2 i hi)⟩
def oY (md : Region.Mode) (ops : Array Oper) (z i : Nat) : Bool := match ops[z]? with
 |some o => o.after.any fun e => Region.binds md e && decide (e.on = i)
 |none => false
theorem ti {listed : Array Bool} {i : Nat} (h : oY md ops z i = true) (hi : listed.getD i false = false) : z ∉ Region.ready md ops listed := by
 intro hz;obtain ⟨_, o, ho, hall⟩ := mem_ready.1 hz;unfold oY at h;rw [ho] at h;simp only [Array.any_eq_true, Bool.and_eq_true, decide_eq_true_eq] at h;obtain ⟨k, hk, hb, he⟩ := h;have := hall _ (Array.getElem_mem hk) hb;rw [he, hi] at this;cases this
theorem abq {listed : Array Bool} {i : Nat} (h : listed.getD i true = false) : listed.getD i false = false := by
 rcases Nat.lt_or_ge i listed.size with h' | h'
 ·simpa [h'] using h
 ·simp [Array.getElem?_eq_none h']
theorem px {i : Nat} {oi : Oper} {v : Value} (hi : ops[i]? = some oi) (hsel : ∀ (j : Nat) (o : Oper) cs b, ops[j]? = some o -> o.op ≠ .select cs b)
  (hQ : ∀ c a w, Q (.panic c) (a.put oi.dst v) w -> Q (.panic c) a w) (hiz : i ≠ z) (hwz : oY md ops z i = true) :
  ∀ (fuel : Nat) (listed : Array Bool) (a : Act) (w : World),
   (∀ j oj, ops[j]? = some oj -> j ≠ i -> listed.getD j true = false -> (∀ e ∈ oj.after, Region.binds md e = true -> e.on ≠ i) -> oi.apart ops oj = true) ->
   i ∈ Region.ready md ops listed -> YieldsIf P ops S oi v a -> S w ->
   eO P md ops Q S z fuel (listed.setIfInBounds i true) (a.put oi.dst v) w -> eO P md ops Q S z (fuel + 1) listed a w := by
 intro fuel
 induction fuel with
 |zero =>
  intro listed a w _ hr hy hS H;refine ⟨fun h => (by rw [h] at hr; cases hr), fun j hj => ?_⟩;by_cases hji : j = i
  ·subst hji; exact hy.wpOp hi hS ⟨fun _ => hS, H⟩
  ·have := ready_mono hj hji;rw [H.1] at this;cases this
 |succ fuel ih =>
  intro listed a w hfree hr hy hS H;refine ⟨fun h => (by rw [h] at hr; cases hr), fun j hj => ?_⟩;by_cases hji : j = i
  ·subst hji; exact hy.wpOp hi hS ⟨fun _ => hS, H⟩
  ·have h1 := H.2 j (ready_mono hj hji);obtain ⟨hjun, oj, hoj, hall⟩ := mem_ready.1 hj;have hjz : j ≠ z := fun e => by
    subst e;exact ti hwz (abq (mem_ready.1 hr).1) hj
   have hnot : ∀ e ∈ oj.after, Region.binds md e = true -> e.on ≠ i := fun e he hb heq => by
    have h1 := hall e he hb;rw [heq, abq (mem_ready.1 hr).1] at h1;cases h1
   have h2 := wpOp_putIf hoj (hfree j oj hoj hji hjun hnot) (fun cs b => hsel i oi cs b hi) (fun cs b => hsel j oj cs b hoj) hQ hy h1;have hfree' : ∀ k ok, ops[k]? = some ok -> k ≠ i -> (listed.setIfInBounds j true).getD k true = false ->
     (∀ e ∈ ok.after, Region.binds md e = true -> e.on ≠ i) -> oi.apart ops ok = true := fun k ok hk hki hun hno => by
    refine hfree k ok hk hki ?_ hno;by_cases hjk : j = k
    ·subst hjk; exact hjun
    ·rw [getD_set_ne true hjk] at hun; exact hun
   refine wpOp_mono (fun a' w' h3 => ⟨h3.2.1, ih (listed.setIfInBounds j true) a' w' hfree' (ready_mono hr (Ne.symm hji)) h3.1 (h3.2.1 hjz) ?_⟩) h2;rw [Array.setIfInBounds_comm _ _ hji];exact h3.2.2
theorem nF {rs : List Nat} {fuel : Nat} {listed : Array Bool} {a : Act} {w : World} (hr : Region.ready md ops listed = rs) (hne : rs ≠ [])
  (h : ∀ i ∈ rs, wpOp P ops Q i (fun a' w' => (i ≠ z -> S w') /\ eO P md ops Q S z fuel (listed.setIfInBounds i true) a' w') a w) : eO P md ops Q S z (fuel + 1) listed a w :=
 ⟨fun h0 => absurd (hr ▸ h0) hne, hr ▸ h⟩
theorem lY {listed : Array Bool} {a : Act} {w : World} (hr : Region.ready md ops listed = []) (h : Q .normal a w) :
  ∀ fuel, eO P md ops Q S z fuel listed a w
 |0 => ⟨hr, h⟩
 |_ + 1 => ⟨fun _ => h, by rw [hr]; simp⟩
theorem iZ {id : Nat} {a : Act} {w : World} (S : World -> Prop) (z : Nat) (hm : P.follows .mixedOrders = true)
  (h : eO P .any ops Q S z ops.size (Array.replicate ops.size false) a w.drew) : (Code.region id ops true).wp P Q a w :=
 wp_region_any hm (nJ _ _ _ _ h)
end
section
variable {P : Program} {md : Region.Mode} {l : List Oper} {Q : Exit -> Act -> World -> Prop} {S : World -> Prop} {z fuel : Nat} {listed : Array Bool} {a : Act} {w w' : World} {o : Oper} {v : Value}
theorem dn (i : Nat) (hi : l[i]? = some o) (hs : Region.noSelect l.toArray = true) (hf : Region.free md l.toArray listed i = true) (hr : (Region.ready md l.toArray listed).contains i = true) (hiz : i ≠ z) (hwz : oY md l.toArray z i = true)
  (hw : Region.wanted o (yielded l.toArray a.tmps) = true) (h : ∀ w, S w -> (execOp a.eval o).run P w = .ok (.value v) w) (hQ : ∀ c a w, Q (.panic c) (a.put o.dst v) w -> Q (.panic c) a w) (hS : S w)
  (hk : eO P md l.toArray Q S z fuel (listed.setIfInBounds i true) (a.put o.dst v) w) : eO P md l.toArray Q S z (fuel + 1) listed a w :=
 px (by simpa using hi) (Region.noSelect_spec hs) hQ hiz hwz fuel listed a w (Region.free_spec (by simpa using hi) hf) (by simpa using hr) (.inl ⟨hw, h⟩) hS hk
theorem aem (i : Nat) (hi : l[i]? = some o) (h : ∀ w, S w -> (execOp a.eval o).run P w = .ok (.value v) w) (hS : S w) (hk : eO P md l.toArray Q S z fuel (listed.setIfInBounds i true) (a.put o.dst v) w) (hs : Region.noSelect l.toArray = true := by kernel_rfl) (hf : Region.free md l.toArray listed i = true := by kernel_rfl) (hr : (Region.ready md l.toArray listed).contains i = true := by kernel_rfl) (hiz : i ≠ z := by decide) (hwz : oY md l.toArray z i = true := by kernel_rfl) (hw : Region.wanted o (yielded l.toArray a.tmps) = true := by exact rfl) (hQ : ∀ c a w, Q (.panic c) (a.put o.dst v) w -> Q (.panic c) a w := by exact fun _ _ _ h => h) : eO P md l.toArray Q S z (fuel + 1) listed a w := dn i hi hs hf hr hiz hwz hw h hQ hS hk
theorem aet {l0 l1 : List Value} {ds0 : List Deferred} {i0 : Nat} (i : Nat) (hi : l[i]? = some o) (h : ∀ w, S w -> (execOp (Act.mk l0.toArray ds0).eval o).run P w = .ok (.value v) w) (hS : S w) (hk : eO P md l.toArray Q S z fuel (listed.setIfInBounds i true) ⟨l1.toArray, ds0⟩ w) (hd : o.dst = some i0 := by exact rfl) (hl : l0.set i0 v = l1 := by simp only [ah] <;> rfl) (hs : Region.noSelect l.toArray = true := by kernel_rfl) (hf : Region.free md l.toArray listed i = true := by kernel_rfl) (hr : (Region.ready md l.toArray listed).contains i = true := by kernel_rfl) (hiz : i ≠ z := by decide) (hwz : oY md l.toArray z i = true := by kernel_rfl) (hw : Region.wanted o (yielded l.toArray l0.toArray) = true := by exact rfl) (hQ : ∀ c a w, Q (.panic c) (a.put o.dst v) w -> Q (.panic c) a w := by exact fun _ _ _ h => h) : eO P md l.toArray Q S z (fuel + 1) listed ⟨l0.toArray, ds0⟩ w := aem i hi h hS (by have e : Act.put (Act.mk l0.toArray ds0) o.dst v = ⟨l1.toArray, ds0⟩ := (by rw [hd, <- hl]; show Act.mk (l0.toArray.setIfInBounds i0 v) ds0 = _; rw [List.setIfInBounds_toArray]); rw [e]; exact hk) hs hf hr hiz hwz hw hQ
theorem fh (i : Nat) (hi : l[i]? = some o) (hr : Region.ready md l.toArray listed = [i]) (hw : Region.wanted o (yielded l.toArray a.tmps) = true) (h : (execOp a.eval o).run P w = .ok (.value v) w')
  (hS : i ≠ z -> S w') (hk : eO P md l.toArray Q S z fuel (listed.setIfInBounds i true) (a.put o.dst v) w') : eO P md l.toArray Q S z (fuel + 1) listed a w :=
 nF hr (by simp) fun j hj => by
  obtain rfl : j = i := by simpa using hj
  unfold wpOp;simp only [List.getElem?_toArray, hi, hw, if_true];refine .inl ?_;unfold Oper.wp;rw [h];exact ⟨hS, hk⟩
theorem qq (i : Nat) (hi : l[i]? = some o) (hr : Region.ready md l.toArray listed = [i]) (hw : Region.wanted o (yielded l.toArray a.tmps) = true) (h : (execOp a.eval o).run P w = .ok .skip w')
  (hS : i ≠ z -> S w') (hk : eO P md l.toArray Q S z fuel (listed.setIfInBounds i true) (a.put o.dst undef) w') : eO P md l.toArray Q S z (fuel + 1) listed a w :=
 nF hr (by simp) fun j hj => by
  obtain rfl : j = i := by simpa using hj
  unfold wpOp;simp only [List.getElem?_toArray, hi, hw, if_true];refine .inl ?_;unfold Oper.wp;rw [h];exact ⟨hS, hk⟩
end
def je : Elt Int where
 s := 77
 t := 3
 n := 1
 by_ := 8
 cel x := [.int .i64 x]
 d := 0
 z := .int .i64 0
 pos := by omega
 small := by omega
 len _ := rfl
 one x v hv := by simp at hv; subst hv; rfl
 und := underlying77
 info := by kernel_rfl
 zc := rfl
section
variable {w : World} {B n : Nat} {A : Option Addr} {l : List Int}
theorem RdE.int (h : RdE je w B A n l) {k : Nat} (hk : k < n) : ∃ b off, A = some ⟨b, off, none⟩ /\ b < B /\ w.cell? ⟨b, off + k, none⟩ = some (.int .i64 (l.getD k 0)) := by
 obtain ⟨b, off, e, hb, hc⟩ := h.2 k hk;refine ⟨b, off, e, hb, ?_⟩;have h0 := hc 0 (.int .i64 (l.getD k 0)) rfl;rwa [show off + k * je.n + 0 = off + k from by show off + k * 1 + 0 = _; omega] at h0
end
theorem acu : prog.underlying 95 = some (.slice 29) := underlying95
def flat (l : List Blk) : List Value := l.flatMap cel
theorem og (x : Blk) (l : List Blk) : flat (x :: l) = cel x ++ flat l := rfl
theorem qU (l : List Blk) : (flat l).length = l.length * 64 := by
 induction l with
 |nil => rfl
 |cons x l ih => rw [og, List.length_append, aL, ih, List.length_cons]; omega
theorem zQ (l : List Blk) {k j : Nat} (hk : k < l.length) (hj : j < 64) : (flat l)[k * 64 + j]? = (cel (l.getD k aF))[j]? := by
 induction l generalizing k with
 |nil => simp at hk
 |cons x l ih =>
  rw [og];cases k with
  |zero => rw [Nat.zero_mul, Nat.zero_add, List.getElem?_append_left (by rw [aL]; exact hj)]; rfl
  |succ k =>
   rw [List.getElem?_append_right (by rw [aL]; omega), aL, show (k + 1) * 64 + j - 64 = k * 64 + j from by omega, ih (by simpa using hk)]
   rfl
section
variable {ρ : Operand -> Value} {o : Oper} {x y : Operand} {w : World} {n : Nat}
theorem n8 (ho : o.op = .makeSlice 95 x y) (hx : ρ x = .int .i64 (n : Int)) (hy : ρ y = .int .i64 (n : Int)) (hn : n <= 4398046511104) :
  (execOp ρ o).run prog w = .ok (.value (.slice (some ⟨w.heap.size, 0, none⟩) n n)) (w.alloc (.cells (madeCells (cel aF).toArray (n * 64)) 29)) := by
 obtain ⟨i0, hi, hz0, hz1, hz2⟩ := info_parts yj;have hr := run_make (P := prog) w 95 29 i0 (blk aF) acu hi hz0 .i64 .i64 n n (by omega) (Int.le_refl _) (by rw [hz2]; omega) (by omega);rw [hz1, gT] at hr;simp only [Int.toNat_natCast] at hr;unfold execOp;simp only [ho, hx, hy, Sem.run_bind, hr, Result.andThen_ok, Sem.run_pure]
end
theorem nP (n : Nat) : (flat (List.replicate n aF)).toArray = madeCells (cel aF).toArray (n * 64) := by
 apply Array.ext
 ·rw [size_madeCells, List.size_toArray, qU, List.length_replicate]
 ·intro j h1 h2;rw [size_madeCells] at h2;have hk : j / 64 < (List.replicate n aF).length := by rw [List.length_replicate]; omega
  have := zQ (List.replicate n aF) hk (j := j % 64) (by omega);rw [show j / 64 * 64 + j % 64 = j from by omega] at this;have hz : (List.replicate n aF).getD (j / 64) aF = aF := by
   rw [List.getD, List.getElem?_replicate]
   split <;> rfl
  rw [hz, kg aF (by omega)] at this;have hc := kg aF (j := j % 64) (by omega);have e1 : (flat (List.replicate n aF)).toArray[j] = .int .u8 (byt aF (j % 64)) := by
   rw [List.getElem?_eq_getElem (by simpa using h1)] at this
   simpa using this
  have e2 : (madeCells (cel aF).toArray (n * 64))[j]'(by rw [size_madeCells]; exact h2) = .int .u8 (byt aF (j % 64)) := by
   have hj : j % 64 < (cel aF).length := by rw [aL]; omega
   rw [List.getElem?_eq_getElem hj] at hc;simp only [madeCells, Array.getElem_map, Array.getElem_range, List.size_toArray, aL];rw [getElem!_pos (cel aF).toArray (j % 64) (by simpa using hj)]
   simpa using hc
  rw [e1, e2]
section
variable {α : Type} {E : Elt α} {w w' : World} {B p : Nat} {v : Value} {l : List α} {F : Nat -> Prop}
theorem bF.only (h : bF E w B v l) (k : Only F w w') (hn : ∀ b, v.ownBlock = some b -> ¬ F b) : bF E w' B v l := by
 refine ⟨h.1, ?_⟩;rcases h.2 with hn' | ⟨g, cap, cur, rfl, hbg, hg, rest⟩
 ·exact .inl hn'
 ·exact .inr ⟨g, cap, cur, rfl, hbg, (k.block g (Array.getElem?_eq_some_iff.1 hg).1 (hn g rfl)).trans hg, rest⟩
theorem bF.jY (h : bF E w B v l) : ∀ b, v.ownBlock = some b -> b < w.heap.size := by
 intro b hb;rcases h.2 with ⟨rfl, _⟩ | ⟨g, cap, cur, rfl, _, hg, _⟩
 ·simp [Value.ownBlock] at hb
 ·simp [Value.ownBlock] at hb; subst hb; exact (Array.getElem?_eq_some_iff.1 hg).1
theorem bF.dH (h : bF E w B v l) {cs : Array Value} {t : TypeId} {fr : Nat × Nat} (hp : w.heap[p]? = some (.cells cs t fr)) (ht : E.t ≠ t) : v.ownBlock ≠ some p := by
 intro e;rcases h.2 with ⟨rfl, _⟩ | ⟨g, cap, cur, rfl, _, hg, _⟩
 ·simp [Value.ownBlock] at e
 ·simp [Value.ownBlock] at e;subst e;rw [hp] at hg;simp at hg;exact ht hg.2.1.symm
end
def foot (p : Nat) (vS vL : Value) (k : Nat) : Prop := k = p \/ vS.ownBlock = some k \/ vL.ownBlock = some k
def cT (S : List Blk) (g : Bool) (n : Int) : Int := if 0 <= n /\ n < S.length then (if g = true then 9 else 0) else 2
theorem nj {S : List Blk} {n : Int} (g : Bool) (h : ¬(0 <= n /\ n < S.length)) : cT S g n = 2 := by unfold cT; rw [if_neg h]
theorem lq {S : List Blk} {n : Int} (h : 0 <= n /\ n < S.length) : cT S true n = 9 := by unfold cT; rw [if_pos h]; rfl
theorem fR {S : List Blk} {n : Int} (h : 0 <= n /\ n < S.length) : cT S false n = 0 := by unfold cT; rw [if_pos h]; rfl
def i1 (S : List Blk) (g : Bool) (n : Int) : Blk := if cT S g n = 0 then S.getD n.toNat aF else aF
theorem qt {S : List Blk} {g : Bool} {n : Int} (h : cT S g n ≠ 0) : i1 S g n = aF := by unfold i1; rw [if_neg h]
theorem xK {S : List Blk} {g : Bool} {k : Nat} (h : cT S g (k : Int) = 0) : i1 S g (k : Int) = S.getD k aF := by unfold i1; rw [if_pos h]; rfl
theorem eW {S : List Blk} {g : Bool} {n : Int} : cT S g n = 2 \/ cT S g n = 9 \/ (cT S g n = 0 /\ g = false /\ ∃ k : Nat, n = k /\ k < S.length) := by
 unfold cT
 split
 ·rename_i h
  cases g
  ·exact .inr (.inr ⟨rfl, rfl, n.toNat, by omega, by omega⟩)
  ·exact .inr (.inl rfl)
 ·exact .inl rfl
def jl (L : List (Int × Blk)) (n : Int) (b : Blk) : Blk := L.foldl (fun b q => if q.1 = n then q.2 else b) b
theorem j7 {L : List (Int × Blk)} {i : Nat} (n : Int) (b : Blk) (hi : i < L.length) : jl (L.take (i + 1)) n b = if (L.getD i (0, aF)).1 = n then (L.getD i (0, aF)).2 else jl (L.take i) n b := by
 rw [List.take_add_one, List.getD, List.getElem?_eq_getElem hi];simp only [jl, Option.toList_some, List.foldl_append, List.foldl_cons, List.foldl_nil, Option.getD_some]
def eU (S : List Blk) (L : List (Int × Blk)) (g : Bool) (n : Int) : Blk := if cT S g n = 0 then jl L n (S.getD n.toNat aF) else aF
theorem qJ {S : List Blk} {L : List (Int × Blk)} {g : Bool} {n : Int} (h : cT S g n ≠ 0) : eU S L g n = aF := by unfold eU; rw [if_neg h]
theorem kQ {S : List Blk} {L : List (Int × Blk)} {g : Bool} {k : Nat} (h : cT S g (k : Int) = 0) : eU S L g (k : Int) = jl L k (S.getD k aF) := by unfold eU; rw [if_pos h]; rfl
section
variable {w w' : World} {p : Nat} {vS vL : Value} {S : List Blk} {L : List (Int × Blk)} {g : Bool}
theorem dt (w : World) (p i : Nat) (v : Value) : Only (fun b => b = p) w (w.setCell ⟨p, i, none⟩ v) := (Only.refl (fun b => b = p) w).setCell (p := ⟨p, i, none⟩) (.inl rfl) v
theorem ldB {a : Addr} {A : Option Addr} {n c : Nat} (h : w.cell? a = some (.slice A n c)) : (Instr.loadAt 95 (.pointer (some a))).run prog w = .ok (.slice A n c) w := by simp [go_sem, h]
end
def wrL (S : List Blk) (L : List (Int × Blk)) (g : Bool) (n : Int) (b : Blk) : List (Int × Blk) := if cT S g n = 0 then L ++ [(n, b)] else L
theorem ja {α : Type} {E : Elt α} {ρ : Operand -> Value} {o : Oper} {x y : Operand} {w : World} {b n c j : Nat} (ho : o.op = .indexAddr E.s x y) (hx : ρ x = .slice (some ⟨b, 0, none⟩) n c) (hy : ρ y = .int .i64 (j : Int)) (hj : j < n) : (execOp ρ o).run prog w = .ok (.value (.pointer (some ⟨b, j * E.n, none⟩))) w := by
 have := cK (E := E) (ρ := ρ) (w := w) ho hx hy hj;rwa [Nat.zero_add] at this
theorem bF.slice {α : Type} {E : Elt α} {w : World} {B n : Nat} {v : Value} {l : List α} (h : bF E w B v l) (hn : l.length = n) (hl : 0 < n) : ∃ g c, v = .slice (some ⟨g, 0, none⟩) n c := by
 subst hn;rcases h.2 with ⟨_, h0⟩ | ⟨g, cap, cur, rfl, _⟩
 ·omega
 ·exact ⟨g, cap, rfl⟩
section
variable {w : World} {p b off gg n c k : Nat} {vL : Value} {S : List Blk} {L : List (Int × Blk)} {g : Bool}
theorem ldI {a : Addr} {x : Int} (h : w.cell? a = some (.int .i64 x)) : (Instr.loadAt 3 (.pointer (some a))).run prog w = .ok (.int .i64 x) w := by simp [go_sem, h]
end
def flS (S : List Blk) (L : List (Int × Blk)) : List Blk := L.foldl (fun S q => S.set q.1.toNat q.2) S
theorem mw (S : List Blk) (L : List (Int × Blk)) : (flS S L).length = S.length := by
 unfold flS
 induction L generalizing S with
 |nil => rfl
 |cons q L ih => rw [List.foldl_cons, ih, List.length_set]
theorem rN {S : List Blk} {L : List (Int × Blk)} {i : Nat} (hi : i < L.length) : flS S (L.take (i + 1)) = (flS S (L.take i)).set (L.getD i (0, aF)).1.toNat (L.getD i (0, aF)).2 := by
 rw [List.take_add_one, List.getD, List.getElem?_eq_getElem hi];simp only [flS, Option.toList_some, List.foldl_append, List.foldl_cons, List.foldl_nil, Option.getD_some]
def Fit (S : List Blk) (L : List (Int × Blk)) : Prop := ∀ q ∈ L, 0 <= q.1 /\ q.1 < S.length
theorem Fit.at_ {S : List Blk} {L : List (Int × Blk)} (h : Fit S L) {i : Nat} (hi : i < L.length) : ∃ k : Nat, (L.getD i (0, aF)).1 = k /\ k < S.length := by
 have := h _ (List.getElem_mem hi);refine ⟨(L.getD i (0, aF)).1.toNat, ?_, ?_⟩
 ·simp only [List.getD, List.getElem?_eq_getElem hi, Option.getD_some]; omega
 ·simp only [List.getD, List.getElem?_eq_getElem hi, Option.getD_some]; omega
theorem oc {ρ : Operand -> Value} {o : Oper} {x y : Operand} {w : World} {t r : TypeId} {a b : UInt8} (ho : o.op = .binOp .xor t x y r) (hx : ρ x = .int .u8 (a.toNat : Int)) (hy : ρ y = .int .u8 (b.toNat : Int)) : (execOp ρ o).run prog w = .ok (.value (.int .u8 ((a ^^^ b).toNat : Int))) w := by
 have h : bits .xor .u8 (a.toNat : Int) (b.toNat : Int) = ((a ^^^ b).toNat : Int) := by
  rw [u8_xor_nat _ _ (UInt8.toNat_lt _) (UInt8.toNat_lt _)];simp
 unfold execOp;simp [ho, hx, hy, eqGuard, binOp, Op.intBits]
 simpa [bits] using h
theorem vi {ρ : Operand -> Value} {o : Oper} {x y : Operand} {w : World} {b n c j : Nat} (ho : o.op = .indexAddr 95 x y) (hx : ρ x = .slice (some ⟨b, 0, none⟩) n c) (hy : ρ y = .int .i64 (j : Int)) (hj : j < n) : (execOp ρ o).run prog w = .ok (.value (.pointer (some ⟨b, j * 64, none⟩))) w := ja (E := lw) ho hx hy hj
def Grow (w : World) (F F' : Nat -> Prop) : Prop := ∀ b, F' b -> F b \/ w.heap.size <= b
section
variable {w w' : World} {F G : Nat -> Prop} {p : Nat} {S : List Blk} {L : List (Int × Blk)} {g : Bool}
theorem Grow.same (w : World) (F : Nat -> Prop) : Grow w F F := fun _ h => .inl h
end
theorem Fit.nil (S : List Blk) : Fit S [] := fun q h => by cases h
theorem Fit.wr {S : List Blk} {L : List (Int × Blk)} (g : Bool) (n : Int) (b : Blk) (h : Fit S L) : Fit S (wrL S L g n b) := by
 unfold wrL
 split
 ·rename_i he
  rcases eW (S := S) (g := g) (n := n) with h1 | h1 | ⟨_, rfl, k, rfl, hk⟩
  ·omega
  ·omega
  ·intro q hq;rcases List.mem_append.1 hq with hq | hq
   ·exact h q hq
   ·simp at hq; subst hq; exact ⟨by simp, by simpa using hk⟩
 ·exact h
structure Dev where
 Dv : World -> (Nat -> Prop) -> Nat -> List Blk -> List (Int × Blk) -> Bool -> Prop
 lt : ∀ {w F p S L g}, Dv w F p S L g -> ∀ b, F b -> b < w.heap.size
 only : ∀ {w w' F G p S L g}, Dv w F p S L g -> Only G w w' -> (∀ b, F b -> ¬ G b) -> Dv w' F p S L g
 fit : ∀ {w F p S L g}, Dv w F p S L g -> Fit S L /\ 1 <= S.length
 cap : ∀ {w F p S L g}, Dv w F p S L g -> S.length <= 512
 new_ok : ∀ (k : Nat) (w : World), 1 <= k -> k <= 512 -> Calls prog 72 #[.int .i64 k] w fun e w' => ∃ p F, e = .returned (.tuple #[.pointer (some ⟨p, 0, none⟩), .int .i64 0]) /\ Dv w' F p (List.replicate k aF) [] false /\ Below w.heap.size w w' /\ ∀ b, F b -> w.heap.size <= b
 new_no : ∀ (n : Int) (w : World), ¬(1 <= n /\ n <= 512) -> Calls prog 72 #[.int .i64 n] w fun e w' => e = .returned (.tuple #[.pointer none, .int .i64 2]) /\ Below w.heap.size w w'
 read : ∀ {w F p S L g} (n : Int), Dv w F p S L g -> Calls prog 104 #[.pointer (some ⟨p, 0, none⟩), .int .i64 n] w fun e w' => e = .returned (.tuple #[blk (eU S L g n), .int .i64 (cT S g n)]) /\ Below w.heap.size w w'
 sure : ∀ {w F p S L g} (n : Int), Dv w F p S L g -> Calls prog 38 #[.pointer (some ⟨p, 0, none⟩), .int .i64 n] w fun e w' => e = .returned (.tuple #[blk (i1 S g n), .int .i64 (cT S g n)]) /\ Below w.heap.size w w'
 write : ∀ {w F p S L g} (n : Int) (b : Blk), L.length < 1000000 -> Dv w F p S L g -> Calls prog 41 #[.pointer (some ⟨p, 0, none⟩), .int .i64 n, blk b] w fun e w' => e = .returned (.int .i64 (cT S g n)) /\ ∃ F', Dv w' F' p S (wrL S L g n b) g /\ Only F w w' /\ Grow w F F'
 flush : ∀ {w F p S L g}, Dv w F p S L g -> Calls prog 52 #[.pointer (some ⟨p, 0, none⟩)] w fun e w' => e = .returned (.int .i64 (if g = true then 9 else 0)) /\ ∃ F', Dv w' F' p (if g = true then S else flS S L) (if g = true then L else []) g /\ Only F w w' /\ Grow w F F'
 fail : ∀ {w F p S L g}, Dv w F p S L g -> Calls prog 47 #[.pointer (some ⟨p, 0, none⟩)] w fun e w' => e = .returned (.int .i64 0) /\ ∃ F', Dv w' F' p S [] true /\ Only F w w' /\ Grow w F F'
 dead : ∀ {w F p S L g}, Dv w F p S L g -> Calls prog 51 #[.pointer (some ⟨p, 0, none⟩)] w fun e w' => e = .returned (.bool g) /\ Below w.heap.size w w'
 eh : ∀ {w F p S L g}, Dv w F p S L g -> Calls prog 112 #[.pointer (some ⟨p, 0, none⟩)] w fun e w' => e = .returned (.int .i64 (S.length : Int)) /\ Below w.heap.size w w'
theorem Grow.above {w : World} {F F' : Nat -> Prop} {B : Nat} (h : Grow w F F') (hF : ∀ b, F b -> B <= b) (hB : B <= w.heap.size) : ∀ b, F' b -> B <= b := fun b hb => by
 rcases h b hb with e | e
 ·exact hF b e
 ·omega
structure iN where
 S : List Blk
 L : List (Int × Blk)
 g : Bool
structure aR where
 ds : List iN
 left : Nat
 cf : Bool
 steps : Nat
def cd : iN := ⟨[], [], false⟩
def aR.dev (M : aR) (d : Int) : iN := M.ds.getD d.toNat cd
theorem aR.iG (M : aR) (k : Nat) : M.dev (k : Int) = M.ds.getD k cd := rfl
def mc (M : aR) (d : Int) : Int := if 0 <= d /\ d < M.ds.length then 0 else 2
def dN (M : aR) (d : Int) : Int := if M.cf = true then 8 else mc M d
theorem kS (M : aR) (d : Int) : (mc M d = 2 /\ ¬(0 <= d /\ d < M.ds.length)) \/ (mc M d = 0 /\ ∃ k : Nat, d = k /\ k < M.ds.length) := by
 unfold mc;by_cases h : 0 <= d /\ d < M.ds.length
 ·rw [if_pos h]; exact .inr ⟨rfl, d.toNat, by omega, by omega⟩
 ·rw [if_neg h]; exact .inl ⟨rfl, h⟩
theorem mi {M : aR} {k : Nat} (h : k < M.ds.length) : mc M (k : Int) = 0 := by unfold mc; rw [if_pos (by omega)]
theorem uR {M : aR} {d : Int} (h : M.cf = true) : dN M d = 8 := by unfold dN; rw [if_pos h]
theorem nx {M : aR} {d : Int} (h : M.cf = false) : dN M d = mc M d := by unfold dN; rw [if_neg (by rw [h]; decide)]
theorem dz (M : aR) (d : Int) : (dN M d = 8 /\ M.cf = true) \/ (dN M d = 2 /\ M.cf = false /\ ¬(0 <= d /\ d < M.ds.length)) \/ (dN M d = 0 /\ M.cf = false /\ ∃ k : Nat, d = k /\ k < M.ds.length) := by
 cases h : M.cf
 ·rw [nx h];rcases kS M d with ⟨e, h1⟩ | ⟨e, h1⟩
  ·exact .inr (.inl ⟨e, rfl, h1⟩)
  ·exact .inr (.inr ⟨e, rfl, h1⟩)
 ·exact .inl ⟨uR h, rfl⟩
theorem jz {M : aR} {k : Nat} (hd : M.cf = false) (h : k < M.ds.length) : dN M (k : Int) = 0 := by rw [nx hd, mi h]
def aR.put (M : aR) (k : Nat) (x : iN) : aR := { M with ds := M.ds.set k x }
def aR.dI (M : aR) : Int := if M.left = 1 then 8 else 0
def aR.done (M : aR) : aR := { M with left := M.left - 1, steps := M.steps + 1 }
def aR.night (M : aR) : aR := { M with cf := true }
def ct (M : aR) (d n : Int) : Int := if dN M d = 0 then cT (M.dev d).S (M.dev d).g n else dN M d
def dY (M : aR) (d n : Int) : Blk := if dN M d = 0 then eU (M.dev d).S (M.dev d).L (M.dev d).g n else aF
def jL (M : aR) (d n : Int) : Int := if ct M d n = 0 then M.dI else ct M d n
def eg (M : aR) (d n : Int) (b : Blk) : aR := if ct M d n = 0 then (if M.left = 1 then M.night else M.done.put d.toNat ⟨(M.dev d).S, wrL (M.dev d).S (M.dev d).L (M.dev d).g n b, (M.dev d).g⟩) else M
def fK (M : aR) (d : Int) : Int := if dN M d = 0 then (if (M.dev d).g = true then 9 else 0) else dN M d
def hZ (M : aR) (d : Int) : Int := if fK M d = 0 then M.dI else fK M d
def fk (M : aR) (d : Int) : aR := if fK M d = 0 then (if M.left = 1 then M.night else M.done.put d.toNat ⟨flS (M.dev d).S (M.dev d).L, [], (M.dev d).g⟩) else M
def gv (M : aR) (d : Int) : aR := if mc M d = 0 then M.put d.toNat ⟨(M.dev d).S, [], true⟩ else M
def jN (M : aR) (n : Int) : Int := if M.cf = true then 8 else if n < 0 then 2 else 0
def f8 (M : aR) (n : Int) : aR := if jN M n = 0 then { M with left := n.toNat } else M
def dG (M : aR) (d : Int) : Int := if mc M d = 0 then ((M.dev d).S.length : Int) else 0
def cp (ks : List Int) : aR := ⟨ks.map fun k => ⟨List.replicate k.toNat aF, [], false⟩, 0, false, 0⟩
def gW (ks : List Int) : Prop := 1 <= ks.length /\ ks.length <= 17 /\ ∀ k ∈ ks, 1 <= k /\ k <= 512
def Room (M : aR) (k : Nat) : Prop := M.steps + k <= 1000000 /\ M.left < 9223372036854775808 /\ ∀ d ∈ M.ds, d.L.length + k <= 1000000
theorem jg {α : Type} {l : List α} {k : Nat} {x : α} (h : k < l.length) : l.getD k x ∈ l := by
 rw [List.getD_eq_getElem?_getD, List.getElem?_eq_getElem h]; exact List.getElem_mem h
theorem Room.less {M : aR} {k : Nat} (h : Room M (k + 1)) : Room M k := ⟨by have := h.1; omega, h.2.1, fun d hd => by have := h.2.2 d hd; omega⟩
theorem Room.at_ {M : aR} {k i : Nat} (h : Room M (k + 1)) (hi : i < M.ds.length) : (M.ds.getD i cd).L.length < 1000000 := by have := h.2.2 _ (jg (x := cd) hi); omega
theorem sm {α : Type} {l : List α} {k : Nat} {x y : α} (h : y ∈ l.set k x) : y ∈ l \/ y = x := by
 rcases List.mem_or_eq_of_mem_set h with h | h
 ·exact .inl h
 ·exact .inr h
theorem Room.put {M : aR} {k i : Nat} {x : iN} (h : Room M k) (hx : x.L.length + k <= 1000000) : Room (M.put i x) k :=
 ⟨h.1, h.2.1, fun d hd => by
  rcases sm hd with e | e
  ·exact h.2.2 d e
  ·subst e; exact hx⟩
theorem Room.done {M : aR} {k : Nat} (h : Room M (k + 1)) : Room M.done k := ⟨by have := h.1; show M.steps + 1 + k <= _; omega, by have := h.2.1; show M.left - 1 < _; omega, fun d hd => by have := h.2.2 d hd; omega⟩
theorem qQ {ks : List Int} {k : Nat} (hk : k <= 1000000) : Room (cp ks) k :=
 ⟨by show 0 + k <= _; omega, by show 0 < _; omega, fun d hd => by
  obtain ⟨x, _, rfl⟩ := List.mem_map.1 hd
  show 0 + k <= _
  omega⟩
theorem acq (S : List Blk) (L : List (Int × Blk)) (g : Bool) (n : Int) (b : Blk) : (wrL S L g n b).length <= L.length + 1 := by
 unfold wrL; split
 ·simp
 ·omega
theorem pF {M : aR} {k : Nat} (h : Room M (k + 1)) (d n : Int) (b : Blk) : Room (eg M d n b) k := by
 unfold eg
 split
 ·rename_i he
  split
  ·exact h.less
  ·have hh : ∃ i : Nat, d = i /\ i < M.ds.length := by
    rcases dz M d with ⟨e, _⟩ | ⟨e, _⟩ | ⟨e, _, h⟩
    ·unfold ct at he; rw [if_neg (by omega)] at he; omega
    ·unfold ct at he; rw [if_neg (by omega)] at he; omega
    ·exact h
   obtain ⟨i, rfl, hi⟩ := hh;refine (h.done).put ?_;have h1 := acq (M.dev (i : Int)).S (M.dev (i : Int)).L (M.dev (i : Int)).g n b;have h2 := h.2.2 _ (jg (x := cd) hi);have h3 : (M.dev (i : Int)).L.length + (k + 1) <= 1000000 := h2
   show (wrL _ _ _ _ _).length + k <= _
   omega
 ·exact h.less
theorem aa0 {M : aR} {k : Nat} (h : Room M (k + 1)) (d : Int) : Room (fk M d) k := by
 unfold fk
 split
 ·split
  ·exact h.less
  ·exact (h.done).put (by have := h.1; show 0 + k <= _; omega)
 ·exact h.less
theorem uc {M : aR} {k : Nat} (h : Room M k) (d : Int) : Room (gv M d) k := by
 unfold gv
 split
 ·exact h.put (by have := h.1; show 0 + k <= _; omega)
 ·exact h
structure DvK where
 Dv : World -> (Nat -> Prop) -> Nat -> List Blk -> List (Int × Blk) -> Bool -> Prop
 lt : ∀ {w F p S L g}, Dv w F p S L g -> ∀ b, F b -> b < w.heap.size
 only : ∀ {w w' F G p S L g}, Dv w F p S L g -> Only G w w' -> (∀ b, F b -> ¬ G b) -> Dv w' F p S L g
structure jP (K : DvK) (w : World) (Fs : Nat -> Nat -> Prop) (ps : List Nat) (ds : List iN) : Prop where
 len : ps.length = ds.length
 at_ : ∀ i, i < ds.length -> K.Dv w (Fs i) (ps.getD i 0) (ds.getD i cd).S (ds.getD i cd).L (ds.getD i cd).g
 off : ∀ i j, i < ds.length -> j < ds.length -> i ≠ j -> ∀ b, Fs i b -> ¬ Fs j b
def upF (Fs : Nat -> Nat -> Prop) (k : Nat) (F' : Nat -> Prop) : Nat -> Nat -> Prop := fun i b => (i = k /\ F' b) \/ (i ≠ k /\ Fs i b)
theorem lk (Fs : Nat -> Nat -> Prop) (k : Nat) (F' : Nat -> Prop) : upF Fs k F' k = F' := by
 funext b; simp [upF]
theorem gF (Fs : Nat -> Nat -> Prop) {k i : Nat} (F' : Nat -> Prop) (h : i ≠ k) : upF Fs k F' i = Fs i := by
 funext b; simp [upF, h]
theorem iU {α : Type} {l : List α} {k : Nat} {x d : α} (h : k < l.length) : (l.set k x).getD k d = x := by simp [List.getD, h]
theorem ig {α : Type} {l : List α} {k i : Nat} {x d : α} (h : i ≠ k) : (l.set k x).getD i d = l.getD i d := by simp [List.getD, List.getElem?_set_ne (Ne.symm h)]
section
variable {K : DvK} {w w' : World} {Fs : Nat -> Nat -> Prop} {ps : List Nat} {ds : List iN} {G F' : Nat -> Prop} {k : Nat}
theorem jP.lt (h : jP K w Fs ps ds) : ∀ i, i < ds.length -> ∀ b, Fs i b -> b < w.heap.size := fun i hi b hb => K.lt (h.at_ i hi) b hb
theorem jP.only (h : jP K w Fs ps ds) (k : Only G w w') (hn : ∀ i, i < ds.length -> ∀ b, Fs i b -> ¬ G b) : jP K w' Fs ps ds :=
 ⟨h.len, fun i hi => K.only (h.at_ i hi) k (hn i hi), h.off⟩
theorem jP.set (h : jP K w Fs ps ds) (hk : k < ds.length) (ho : Only G w w') (hG : ∀ i, i < ds.length -> i ≠ k -> ∀ b, Fs i b -> ¬ G b) (hg : Grow w (Fs k) F') {p : Nat} {d : iN} (hd : K.Dv w' F' p d.S d.L d.g) : jP K w' (upF Fs k F') (ps.set k p) (ds.set k d) := by
 have hnew : ∀ i, i < ds.length -> i ≠ k -> ∀ b, F' b -> ¬ Fs i b := fun i hi hik b hb hf => by
  rcases hg b hb with e | e
  ·exact h.off k i hk hi (Ne.symm hik) b e hf
  ·have := h.lt i hi b hf; omega
 refine ⟨by rw [List.length_set, List.length_set]; exact h.len, fun i hi => ?_, fun i j hi hj hij b hb => ?_⟩
 ·rw [List.length_set] at hi;by_cases e : i = k
  ·subst e;rw [lk, iU hk, iU (by rw [h.len]; exact hk)];exact hd
  ·rw [gF _ _ e, ig e, ig e];exact K.only (h.at_ i hi) ho (hG i hi e)
 ·rw [List.length_set] at hi hj;by_cases e : i = k
  ·subst e;rw [lk] at hb;rw [gF _ _ (Ne.symm hij)];exact hnew j hj (Ne.symm hij) b hb
  ·rw [gF _ _ e] at hb;by_cases e' : j = k
   ·subst e';rw [lk];exact fun hf => hnew i hi e b hf hb
   ·rw [gF _ _ e'];exact h.off i j hi hj hij b hb
theorem set_self {α : Type} {l : List α} {k : Nat} {d : α} (h : k < l.length) : l.set k (l.getD k d) = l := by
 rw [List.getD_eq_getElem?_getD, List.getElem?_eq_getElem h];exact List.set_getElem_self h
theorem jP.turn (h : jP K w Fs ps ds) (hk : k < ds.length) (ho : Only (Fs k) w w') (hg : Grow w (Fs k) F') {d : iN} (hd : K.Dv w' F' (ps.getD k 0) d.S d.L d.g) : jP K w' (upF Fs k F') ps (ds.set k d) := by
 have := h.set hk ho (fun i hi hik b hb hf => h.off i k hi hk hik b hb hf) hg hd;rwa [set_self (by rw [h.len]; exact hk)] at this
theorem jP.push (h : jP K w Fs ps ds) (hb : Below w.heap.size w w') {p : Nat} {d : iN} (hF : ∀ b, F' b -> w.heap.size <= b) (hd : K.Dv w' F' p d.S d.L d.g) : jP K w' (upF Fs ds.length F') (ps ++ [p]) (ds ++ [d]) := by
 have hlen := h.len;refine ⟨by simp [h.len], fun i hi => ?_, fun i j hi hj hij b hb' => ?_⟩
 ·rw [List.length_append, List.length_singleton] at hi;by_cases e : i = ds.length
  ·subst e;rw [lk];have e1 : (ps ++ [p]).getD ds.length 0 = p := by simp [List.getD, <- hlen]
   have e2 : (ds ++ [d]).getD ds.length cd = d := by simp [List.getD]
   rw [e1, e2];exact hd
  ·have hi' : i < ds.length := by omega
   rw [gF _ _ e];have e1 : (ps ++ [p]).getD i 0 = ps.getD i 0 := by simp [List.getD, List.getElem?_append_left (show i < ps.length by omega)]
   have e2 : (ds ++ [d]).getD i cd = ds.getD i cd := by simp [List.getD, List.getElem?_append_left hi']
   rw [e1, e2];exact K.only (h.at_ i hi') (Only.of_below (fun _ => False) hb) fun _ _ e => e
 ·rw [List.length_append, List.length_singleton] at hi hj;by_cases e : i = ds.length
  ·subst e;rw [lk] at hb';rw [gF _ _ (Ne.symm hij)];intro hf;have := h.lt j (by omega) b hf;have := hF b hb';omega
  ·rw [gF _ _ e] at hb';have := h.lt i (by omega) b hb';by_cases e' : j = ds.length
   ·subst e';rw [lk];intro hf;have := hF b hf;omega
   ·rw [gF _ _ e'];exact h.off i j (by omega) (by omega) hij b hb'
end
section
variable {α : Type} {E : Elt α} {ρ : Operand -> Value} {o : Oper} {x y : Operand} {w : World} {b off : Nat} {a : α} {d : TypeDesc}
theorem nq (E : Elt α) : (prog.info? E.t).map (·.size) = some E.n := by
 obtain ⟨i0, hi, hz0, hz1, hz2⟩ := info_parts E.info;rw [hi]; simp [hz1]
theorem sS (hu : prog.underlying E.t = some d) (hd : d.isRow = true) (ho : o.op = .load E.t x) (hx : ρ x = .pointer (some ⟨b, off, none⟩)) (hc : w.rangeAt b off (E.cel a)) : (execOp ρ o).run prog w = .ok (.value (.agg (E.cel a).toArray)) w :=
 aE ho hx (run_loadAt_mid w b off E.t (E.cel a) d hc hu hd (by rw [E.len]; exact nq E))
theorem pW (ho : o.op = .alloc E.t) : (execOp ρ o).run prog w = .ok (.value (.pointer (some ⟨w.heap.size, 0, none⟩))) (w.alloc (.cells E.z.cells E.t)) := by
 have hz := jG E w;unfold execOp;simp [ho, Instr.alloc, hz, newVar, newRow]
theorem sZ (ho : o.op = .store E.t x y) (hx : ρ x = .pointer (some ⟨w.heap.size, 0, none⟩)) (hy : ρ y = .agg (E.cel a).toArray) : (execOp ρ o).run prog (w.alloc (.cells E.z.cells E.t)) = .ok .skip (w.alloc (.cells (E.cel a).toArray E.t)) :=
 gB ho hx hy (run_storeAt_new (P := prog) w E.t E.z.cells (E.cel a).toArray (by simpa [E.len] using nq E) (by simpa [E.len] using E.zc) (all_oneCell_toArray (E.one a)))
end
section
variable {w : World} {q : Int × Blk} {t : TypeId}
theorem yH (w : World) (q : Int × Blk) (t : TypeId) : (w.alloc (.cells (eM q).toArray t)).cell? ⟨w.heap.size, 0, none⟩ = some (.int .i64 q.1) /\ (w.alloc (.cells (eM q).toArray t)).rangeAt w.heap.size 1 (cel q.2) := by
 have h := cR w (eM q) t;refine ⟨h 0 _ rfl, fun j v hj => ?_⟩;have := h (j + 1) v hj;rwa [show 0 + (j + 1) = 1 + j from by omega] at this
theorem RdE.pairs {s t : TypeId} {und : prog.underlying s = some (.slice t)} {info : (prog.info? t).map (fun i => (i.zero, i.size, i.bytes)) = some (some (gD 0 aF), 65, 72)} {B n k : Nat} {A : Option Addr} {l : List (Int × Blk)}
  (h : RdE (qZ s t und info) w B A n l) (hk : k < n) : ∃ b off, A = some ⟨b, off, none⟩ /\ b < B /\ w.rangeAt b (off + k * 65) (eM (l.getD k (0, aF))) := h.2 k hk
end
def ptr (x : Nat) : Value := .pointer (some ⟨x, 0, none⟩)
def ab8 (s t : TypeId) (und : prog.underlying s = some (.slice t)) (info : (prog.info? t).map (fun i => (i.zero, i.size, i.bytes)) = some (some (.pointer none), 1, 8)) : Elt Nat where
 s := s
 t := t
 n := 1
 by_ := 8
 cel := fun x => [ptr x]
 d := 0
 z := .pointer none
 pos := by omega
 small := by omega
 len := fun _ => rfl
 one := fun a v hv => by simp only [List.mem_singleton] at hv; subst hv; rfl
 und := und
 info := info
 zc := rfl
section
variable {s t : TypeId} {und : prog.underlying s = some (.slice t)} {info : (prog.info? t).map (fun i => (i.zero, i.size, i.bytes)) = some (some (.pointer none), 1, 8)} {w : World} {B n k : Nat} {A : Option Addr} {l : List Nat}
theorem RdE.ptr (h : RdE (ab8 s t und info) w B A n l) (hk : k < n) : ∃ b off, A = some ⟨b, off, none⟩ /\ b < B /\ w.cell? ⟨b, off + k, none⟩ = some (.pointer (some ⟨l.getD k 0, 0, none⟩)) := by
 obtain ⟨b, off, e, hb, hc⟩ := h.2 k hk;have := hc 0 (Go.Proofs.YtehefifamaofkaaGreatDoor.ptr (l.getD k 0)) rfl;exact ⟨b, off, e, hb, by simpa [ab8, Go.Proofs.YtehefifamaofkaaGreatDoor.ptr] using this⟩
end
structure fM where
 K : DvK
 s : TypeId
 t : TypeId
 und : prog.underlying s = some (.slice t)
 info : (prog.info? t).map (fun i => (i.zero, i.size, i.bytes)) = some (some (.pointer none), 1, 8)
 o : TypeId
 cs : Value -> Nat -> Bool -> Nat -> Array Value
 ne : t ≠ o
def fM.E (k : fM) : Elt Nat := ab8 k.s k.t k.und k.info
structure bL (k : fM) (w : World) (p : Nat) (v : Value) (Fs : Nat -> Nat -> Prop) (ps : List Nat) (M : aR) : Prop where
 at_ : w.heap[p]? = some (.cells (k.cs v M.left M.cf M.steps) k.o)
 row : bF k.E w 0 v ps
 devs : jP k.K w Fs ps M.ds
 apart : ∀ i, i < M.ds.length -> ∀ b, Fs i b -> b ≠ p /\ v.ownBlock ≠ some b
 one : 1 <= M.ds.length
 cap : M.ds.length <= 17
def gx (p : Nat) (v : Value) (Fs : Nat -> Nat -> Prop) (n : Nat) (b : Nat) : Prop := b = p \/ v.ownBlock = some b \/ ∃ i, i < n /\ Fs i b
section
variable {k : fM} {w w' : World} {p : Nat} {v : Value} {Fs : Nat -> Nat -> Prop} {ps : List Nat} {M : aR} {G F' : Nat -> Prop} {i : Nat}
theorem bL.aeb (h : bL k w p v Fs ps M) : v.ownBlock ≠ some p := h.row.dH h.at_ k.ne
theorem bL.lt (h : bL k w p v Fs ps M) : ∀ b, gx p v Fs M.ds.length b -> b < w.heap.size := by
 intro b hb;rcases hb with rfl | hb | ⟨i, hi, hb⟩
 ·exact aY h.at_
 ·exact h.row.jY b hb
 ·exact h.devs.lt i hi b hb
theorem bL.only (h : bL k w p v Fs ps M) (ho : Only G w w') (hn : ∀ b, gx p v Fs M.ds.length b -> ¬ G b) : bL k w' p v Fs ps M :=
 ⟨ho.keep h.at_ (hn p (.inl rfl)), h.row.only ho fun b hb => hn b (.inr (.inl hb)), h.devs.only ho fun i hi b hb => hn b (.inr (.inr ⟨i, hi, hb⟩)), h.apart, h.one, h.cap⟩
theorem bL.below (h : bL k w p v Fs ps M) (hb : Below w.heap.size w w') : bL k w' p v Fs ps M := h.only (Only.of_below (fun _ => False) hb) fun _ _ e => e
theorem bL.len (h : bL k w p v Fs ps M) : ps.length = M.ds.length := h.devs.len
theorem bL.obj (h : bL k w p v Fs ps M) (left : Nat) (cf : Bool) (steps : Nat) (ho : Only (fun b => b = p) w w') (hc : w'.heap[p]? = some (.cells (k.cs v left cf steps) k.o)) : bL k w' p v Fs ps ⟨M.ds, left, cf, steps⟩ :=
 ⟨hc, h.row.only ho fun b hb e => h.aeb (by rw [hb, e]), h.devs.only ho fun i hi b hb e => (h.apart i hi b hb).1 e, h.apart, h.one, h.cap⟩
theorem bL.turn (h : bL k w p v Fs ps M) (hi : i < M.ds.length) (ho : Only (Fs i) w w') (hg : Grow w (Fs i) F') {d : iN} (hd : k.K.Dv w' F' (ps.getD i 0) d.S d.L d.g) :
  bL k w' p v (upF Fs i F') ps (M.put i d) := by
 refine ⟨ho.keep h.at_ (fun e => (h.apart i hi p e).1 rfl), h.row.only ho fun b hb e => (h.apart i hi b e).2 hb, h.devs.turn hi ho hg hd, fun j hj b hb => ?_, by show 1 <= (M.ds.set i d).length; rw [List.length_set]; exact h.one, by show (M.ds.set i d).length <= 17; rw [List.length_set]; exact h.cap⟩;have hj' : j < M.ds.length := by have : j < (M.ds.set i d).length := hj; rwa [List.length_set] at this
 rcases hb with ⟨e, hb⟩ | ⟨e, hb⟩
 ·rcases hg b hb with hb | hb
  ·exact h.apart i hi b hb
  ·have h1 := aY h.at_;exact ⟨fun e => by omega, fun e => by have := h.row.jY b e; omega⟩
 ·exact h.apart j hj' b hb
theorem sg (hi : i < M.ds.length) (ho : Only (Fs i) w w') : Only (gx p v Fs M.ds.length) w w' := ho.widen fun b hb => .inr (.inr ⟨i, hi, hb⟩)
theorem lD (n : Nat) (ho : Only (fun b => b = p) w w') : Only (gx p v Fs n) w w' := ho.widen fun b hb => .inl hb
theorem sH {n : Nat} (hi : i < n) (hg : Grow w (Fs i) F') {n' : Nat} (hn : n' = n) : Grow w (gx p v Fs n) (gx p v (upF Fs i F') n') := by
 subst hn;intro b hb;rcases hb with e | e | ⟨j, hj, hb⟩
 ·exact .inl (.inl e)
 ·exact .inl (.inr (.inl e))
 ·rcases hb with ⟨e, hb⟩ | ⟨e, hb⟩
  ·rcases hg b hb with hb | hb
   ·exact .inl (.inr (.inr ⟨i, hi, hb⟩))
   ·exact .inr hb
  ·exact .inl (.inr (.inr ⟨j, hj, hb⟩))
theorem bL.slice (h : bL k w p v Fs ps M) : ∃ g c, v = .slice (some ⟨g, 0, none⟩) M.ds.length c /\ M.ds.length <= c /\ c <= maxLen := by
 have hl := h.len;have h1 := h.one;rcases h.row.2 with ⟨rfl, h0⟩ | ⟨g, cap, cur, rfl, _, _, hc1, hc2, _⟩
 ·omega
 ·exact ⟨g, cap, by rw [hl], by omega, hc2⟩
theorem bL.cell {g c : Nat} (h : bL k w p (.slice (some ⟨g, 0, none⟩) M.ds.length c) Fs ps M) (hi : i < M.ds.length) : w.cell? ⟨g, i, none⟩ = some (.pointer (some ⟨ps.getD i 0, 0, none⟩)) := by
 have hr : RdE k.E w w.heap.size (some ⟨g, 0, none⟩) M.ds.length ps := h.row.rd;obtain ⟨b, off, e, _, hc⟩ := RdE.ptr (und := k.und) (info := k.info) hr hi;injection e with e;injection e with e1 e2;subst e1 e2;rw [Nat.zero_add] at hc;exact hc
end
theorem aR.my (M : aR) (k : Nat) (d : iN) : (M.put k d).ds.length = M.ds.length := by show (M.ds.set k d).length = _; rw [List.length_set]
section
variable {k : fM} {w w' : World} {p : Nat} {v : Value} {Fs : Nat -> Nat -> Prop} {ps : List Nat} {M : aR}
def Left (k : fM) (w : World) (p : Nat) (v : Value) (Fs : Nat -> Nat -> Prop) (ps : List Nat) (n : Nat) (M' : aR) (w' : World) : Prop :=
 ∃ Fs' ps', bL k w' p v Fs' ps' M' /\ Only (gx p v Fs n) w w' /\ Grow w (gx p v Fs n) (gx p v Fs' M'.ds.length)
theorem Left.same (h : bL k w p v Fs ps M) {M' : aR} (e : M' = M) : Left k w p v Fs ps M.ds.length M' w := by
 subst e; exact ⟨Fs, ps, h, Only.refl _ _, Grow.same _ _⟩
theorem Left.turn (h : bL k w p v Fs ps M) {i : Nat} {F' : Nat -> Prop} {d : iN} (hi : i < M.ds.length) (ho : Only (Fs i) w w') (hg : Grow w (Fs i) F') (hd : k.K.Dv w' F' (ps.getD i 0) d.S d.L d.g) {M' : aR} (e : M' = M.put i d) : Left k w p v Fs ps M.ds.length M' w' := by
 subst e;exact ⟨_, _, h.turn hi ho hg hd, sg hi ho, sH hi hg (M.my i d)⟩
theorem Left.behind {w1 : World} {n : Nat} {M' : aR} (ho : Only (fun b => b = p) w w1) (h : Left k w1 p v Fs ps n M' w') : Left k w p v Fs ps n M' w' := by
 obtain ⟨Fs', ps', h1, h2, h3⟩ := h;refine ⟨Fs', ps', h1, (lD n ho).trans h2 fun b hb => .inl hb, fun b hb => ?_⟩;rcases h3 b hb with e | e
 ·exact .inl e
 ·exact .inr (ap ho.size e)
theorem Left.obj {M' : aR} (h : bL k w' p v Fs ps M') (ho : Only (fun b => b = p) w w') {n : Nat} (hn : M'.ds.length = n) : Left k w p v Fs ps n M' w' := by
 subst hn;exact ⟨Fs, ps, h, lD _ ho, Grow.same _ _⟩
theorem Left.sA (h : bL k w p v Fs ps M) (hb : Below w.heap.size w w') {M' : aR} (e : M' = M) : Left k w p v Fs ps M.ds.length M' w' := by
 subst e;exact ⟨Fs, ps, h.below hb, Only.of_below _ hb, Grow.same _ _⟩
theorem Left.above {w1 : World} {n : Nat} {M' : aR} (hb : Below w.heap.size w w1) (h : Left k w1 p v Fs ps n M' w') : Left k w p v Fs ps n M' w' := by
 obtain ⟨Fs', ps', h1, h2, h3⟩ := h;refine ⟨Fs', ps', h1, (Only.of_below _ hb).trans h2 fun b hb => .inl hb, fun b hb' => ?_⟩;rcases h3 b hb' with e | e
 ·exact .inl e
 ·exact .inr (ap hb.size e)
end
def LwE : Elt (Int × Blk) := qZ 123 127 underlying123 (by kernel_rfl)
theorem dR {w : World} {b : Nat} {t : TypeId} {x y z u : Value} (h : w.heap[b]? = some (.cells #[x, y, z, u] t (0, 0))) : w.cell? ⟨b, 0, none⟩ = some x /\ w.cell? ⟨b, 1, none⟩ = some y /\ w.cell? ⟨b, 2, none⟩ = some z /\ w.cell? ⟨b, 3, none⟩ = some u := by
 refine ⟨?_, ?_, ?_, ?_⟩
 ·rw [cell_of_row w b 0 _ t (0, 0) h]; rfl
 ·rw [cell_of_row w b 1 _ t (0, 0) h]; rfl
 ·rw [cell_of_row w b 2 _ t (0, 0) h]; rfl
 ·rw [cell_of_row w b 3 _ t (0, 0) h]; rfl
structure PD (w : World) (p : Nat) (vS vL : Value) (S : List Blk) (L : List (Int × Blk)) (g : Bool) : Prop where
 at_ : w.heap[p]? = some (.cells #[.int .i64 (S.length : Int), vS, vL, .bool g] 125)
 one : 1 <= S.length
 S_ : bF lw w 0 vS (if g = true then [] else S)
 L_ : bF LwE w 0 vL L
 dead : g = true -> L = []
section
variable {w w' : World} {p : Nat} {vS vL : Value} {S : List Blk} {L : List (Int × Blk)} {g : Bool} {F : Nat -> Prop}
theorem PD.lt (h : PD w p vS vL S L g) : ∀ k, foot p vS vL k -> k < w.heap.size := by
 intro k hk;rcases hk with rfl | hk | hk
 ·exact (Array.getElem?_eq_some_iff.1 h.at_).1
 ·exact h.S_.jY k hk
 ·exact h.L_.jY k hk
theorem PD.only (h : PD w p vS vL S L g) (k : Only F w w') (hn : ∀ b, foot p vS vL b -> ¬ F b) : PD w' p vS vL S L g :=
 ⟨k.keep h.at_ (hn p (.inl rfl)), h.one, h.S_.only k fun b hb => hn b (.inr (.inl hb)), h.L_.only k fun b hb => hn b (.inr (.inr hb)), h.dead⟩
theorem PD.below (h : PD w p vS vL S L g) (k : Below w.heap.size w w') : PD w' p vS vL S L g := h.only (Only.of_below (fun _ => False) k) fun _ _ e => e
theorem PD.alive (h : PD w p vS vL S L false) : bF lw w 0 vS S := h.S_
end
theorem jb (p : Nat) (vS vL : Value) (S : List Blk) (L : List (Int × Blk)) (g : Bool) (w : World) (h : PD w p vS vL S L g) :
  Calls prog 80 #[.pointer (some ⟨p, 0, none⟩)] w fun e w' => e = .returned (.bool true) /\ w = w' := by
 obtain ⟨c0, c1, c2, c3⟩ := dR h.at_;have h1 : 0 < S.length := h.one;go_enter func80, ntmps80;go_wp2;go_ret;exact ⟨rfl, rfl⟩
theorem xF (p : Nat) (vS vL : Value) (S : List Blk) (L : List (Int × Blk)) (g : Bool) (n : Int) (w : World) (h : PD w p vS vL S L g) :
  Calls prog 103 #[.pointer (some ⟨p, 0, none⟩), .int .i64 n] w fun e w' => e = .returned (.bool (decide (0 <= n /\ n < S.length))) /\ w = w' := by
 obtain ⟨c0, c1, c2, c3⟩ := dR h.at_;by_cases h0 : 0 <= n
 ·by_cases h1 : n < S.length
  ·have HD := ae (am (p := 0 <= n /\ n < S.length) ⟨h0, h1⟩);go_enter func103, ntmps103;go_wp2;go_ret;exact ⟨bp HD.out.symm, rfl⟩
  ·have HD := ae (al (p := 0 <= n /\ n < S.length) (fun e => h1 e.2));go_enter func103, ntmps103;go_wp2;go_ret;exact ⟨bp (al (by omega)).symm, rfl⟩
 ·have HD := ae (al (p := 0 <= n /\ n < S.length) (fun e => h0 e.1));go_enter func103, ntmps103;go_wp2;go_ret;exact ⟨bp (by have e : decide (0 <= n) = false := al (by omega); rw [e]; rfl), rfl⟩
theorem fo (p : Nat) (vS vL : Value) (S : List Blk) (L : List (Int × Blk)) (g : Bool) (n : Int) (w : World) (h : PD w p vS vL S L g) :
  Calls prog 79 #[.pointer (some ⟨p, 0, none⟩), .int .i64 n] w fun e w' => e = .returned (.int .i64 (cT S g n)) /\ w = w' := by
 obtain ⟨c0, c1, c2, c3⟩ := dR h.at_;by_cases h1 : 0 <= n /\ n < S.length
 ·have HD := ae (am h1);cases g
  ·have HE := ae (fR h1);clear h1;go_enter func79, ntmps79;go_wp2_with fail;refine (jb p vS vL S L false w h).mono ?_;rintro e w1 ⟨rfl, rfl⟩;go_wp2_with fail;refine (xF p vS vL S L false n w h).mono ?_;rintro e w1 ⟨rfl, rfl⟩;rw [HD.out];go_wp2_with fail;go_ret;exact ⟨bP HE.out.symm, rfl⟩
  ·have HE := ae (lq h1);clear h1;go_enter func79, ntmps79;go_wp2_with fail;refine (jb p vS vL S L true w h).mono ?_;rintro e w1 ⟨rfl, rfl⟩;go_wp2_with fail;refine (xF p vS vL S L true n w h).mono ?_;rintro e w1 ⟨rfl, rfl⟩;rw [HD.out];go_wp2_with fail;go_ret;exact ⟨bP HE.out.symm, rfl⟩
 ·have HD := ae (al h1);have HE := ae (nj g h1);clear h1;go_enter func79, ntmps79;go_wp2_with fail;refine (jb p vS vL S L g w h).mono ?_;rintro e w1 ⟨rfl, rfl⟩;go_wp2_with fail;refine (xF p vS vL S L g n w h).mono ?_;rintro e w1 ⟨rfl, rfl⟩;rw [HD.out];go_wp2_with fail;go_ret;exact ⟨bP HE.out.symm, rfl⟩
theorem wO (p : Nat) (vS vL : Value) (S : List Blk) (L : List (Int × Blk)) (g : Bool) (w : World) (h : PD w p vS vL S L g) :
  Calls prog 112 #[.pointer (some ⟨p, 0, none⟩)] w fun e w' => e = .returned (.int .i64 (S.length : Int)) /\ w = w' := by
 obtain ⟨c0, c1, c2, c3⟩ := dR h.at_;go_enter func112, ntmps112;go_wp2_with fail;refine (jb p vS vL S L g w h).mono ?_;rintro e w1 ⟨rfl, rfl⟩;go_wp2_with fail;go_ret;exact ⟨rfl, rfl⟩
theorem acE (p : Nat) (vS vL : Value) (S : List Blk) (L : List (Int × Blk)) (g : Bool) (w : World) (h : PD w p vS vL S L g) :
  Calls prog 51 #[.pointer (some ⟨p, 0, none⟩)] w fun e w' => e = .returned (.bool g) /\ w = w' := by
 obtain ⟨c0, c1, c2, c3⟩ := dR h.at_;go_enter func51, ntmps51;go_wp2_with fail;refine (jb p vS vL S L g w h).mono ?_;rintro e w1 ⟨rfl, rfl⟩;go_wp2_with fail;go_ret;exact ⟨rfl, rfl⟩
theorem abX (p : Nat) (vS vL : Value) (S : List Blk) (L : List (Int × Blk)) (g : Bool) (n : Int) (w : World) (h : PD w p vS vL S L g) :
  Calls prog 38 #[.pointer (some ⟨p, 0, none⟩), .int .i64 n] w fun e w' => e = .returned (.tuple #[blk (i1 S g n), .int .i64 (cT S g n)]) /\ Below w.heap.size w w' := by
 have hA := (Below.refl w.heap.size w).alloc ai (.cells (cel aF).toArray 29);have h1 := h.below hA;have HT := ae (ec w aF 29);have HA := ae hA;clear hA;rcases eW (S := S) (g := g) (n := n) with he | he | ⟨he, rfl, k, rfl, hk⟩
 ·have HS := ae (qt (S := S) (g := g) (n := n) (by omega));have HE := ae he;clear he;go_enter func38, ntmps38;go_wp2_with (first | (refine av rfl (bw rfl) ?_) | fail);refine (fo p vS vL S L g n _ h1).mono ?_;rintro e w1 ⟨rfl, rfl⟩;rw [HE.out];go_wp2_with (first | (refine av rfl (cQ (c := aF) (parts := []) rfl rfl) ?_) | (refine bj rfl (bD rfl rfl rfl HT.out) ?_));refine bodyPost_ret (cI rfl _ _ _ rfl (World.rangeAt_setCells_same _ _ _ _ (by rw [aL]; exact HT))) rfl ⟨by rw [HS.out, HE.out]; rfl, below_setCells HA ai _⟩
 ·have HS := ae (qt (S := S) (g := g) (n := n) (by omega));have HE := ae he;clear he;go_enter func38, ntmps38;go_wp2_with (first | (refine av rfl (bw rfl) ?_) | fail);refine (fo p vS vL S L g n _ h1).mono ?_;rintro e w1 ⟨rfl, rfl⟩;rw [HE.out];go_wp2_with (first | (refine av rfl (cQ (c := aF) (parts := []) rfl rfl) ?_) | (refine bj rfl (bD rfl rfl rfl HT.out) ?_));refine bodyPost_ret (cI rfl _ _ _ rfl (World.rangeAt_setCells_same _ _ _ _ (by rw [aL]; exact HT))) rfl ⟨by rw [HS.out, HE.out]; rfl, below_setCells HA ai _⟩
 ·have HS := ae (xK he);have HE := ae he;clear he;obtain ⟨A, c, rfl, hrd, hc1, hc2⟩ := h1.alive.open_ rfl;obtain ⟨b, off, rfl, hb, hr⟩ := hrd.blk hk;obtain ⟨c0, c1, c2, c3⟩ := dR h1.at_;generalize S.getD k aF = x at *;have HR := ae hr;clear hr hrd;go_enter func38, ntmps38;go_wp2_with (first | (refine av rfl (bw rfl) ?_) | fail);refine (fo p _ vL S L false k _ h1).mono ?_;rintro e w1 ⟨rfl, rfl⟩;rw [HE.out];go_wp2_with (first | (refine av rfl (bf rfl rfl HR.out) ?_) | (refine bj rfl (bD rfl rfl rfl HT.out) ?_));refine bodyPost_ret (cI rfl _ _ _ rfl (World.rangeAt_setCells_same _ _ _ _ (by rw [aL]; exact HT))) rfl ⟨by rw [HS.out, HE.out]; rfl, below_setCells HA ai _⟩
section
variable {w w' : World} {p : Nat} {vS vL : Value} {S : List Blk} {L : List (Int × Blk)} {g : Bool}
theorem ud (hp : w.heap[p]? = some (.cells #[.int .i64 (S.length : Int), vS, vL, .bool g] 125)) (h1 : 1 <= S.length) (hS : bF lw w 0 vS (if g = true then [] else S)) {vL' : Value} {L' : List (Int × Blk)} (h' : bF LwE w 0 vL' L') (hd : g = true -> L' = []) : PD (w.setCell ⟨p, 2, none⟩ vL') p vS vL' S L' g := by
 have hO := dt w p 2 vL';refine ⟨?_, h1, hS.only hO fun b hb e => hS.dH hp (by decide) (by rw [hb, e]), h'.only hO fun b hb e => h'.dH hp (by decide) (by rw [hb, e]), hd⟩;have := heap_setCell_same w p 2 _ _ vL' hp
 simpa using this
theorem PD.nh (h : PD w p vS vL S L g) {vL' : Value} {L' : List (Int × Blk)} (h' : bF LwE w 0 vL' L') (hd : g = true -> L' = []) : PD (w.setCell ⟨p, 2, none⟩ vL') p vS vL' S L' g := ud h.at_ h.one h.S_ h' hd
theorem ac9 {b : Nat} : (Instr.fieldAt 125 (.pointer (some ⟨b, 0, none⟩)) 1).run prog w = .ok (.pointer (some ⟨b, 1, none⟩)) w := by kernel_rfl
theorem abx {b : Nat} : (Instr.fieldAt 125 (.pointer (some ⟨b, 0, none⟩)) 2).run prog w = .ok (.pointer (some ⟨b, 2, none⟩)) w := by kernel_rfl
theorem ab5 {b off : Nat} : (Instr.fieldAt 127 (.pointer (some ⟨b, off, none⟩)) 0).run prog w = .ok (.pointer (some ⟨b, off, none⟩)) w := by kernel_rfl
theorem acZ {b off : Nat} : (Instr.fieldAt 127 (.pointer (some ⟨b, off, none⟩)) 1).run prog w = .ok (.pointer (some ⟨b, off + 1, none⟩)) w := by kernel_rfl
theorem ldP {a : Addr} {A : Option Addr} {n c : Nat} (h : w.cell? a = some (.slice A n c)) : (Instr.loadAt 123 (.pointer (some a))).run prog w = .ok (.slice A n c) w := by simp [go_sem, h]
theorem stP {a : Addr} {v : Value} {A : Option Addr} {n c : Nat} (h : w.cell? a = some v) (hf : w.frozen? a = false) : (Instr.storeAt 123 (.pointer (some a)) (.slice A n c)).run prog w = .ok () (w.setCell a (.slice A n c)) := by simp [go_sem, h, hf]
theorem tI (k : Int) (b : Blk) : (Instr.build 127 #[(0, .int .i64 k), (1, blk b)]).run prog w = .ok (gD k b) w := by
 have hz := jG LwE w;have h1 := da (place := fun i => (#[(0, 1), (1, 64)] : Array (Nat × Nat))[i]?) (i := 0) (off := 0) (size := 1) (v := .int .i64 k) (pre := []) (mid := [.int .i64 0]) (post := cel aF) (vs := [.int .i64 k]) (rest := [(1, blk b)]) rfl rfl rfl rfl rfl;have h2 := da (place := fun i => (#[(0, 1), (1, 64)] : Array (Nat × Nat))[i]?) (i := 1) (off := 1) (size := 64) (v := blk b) (pre := [.int .i64 k]) (mid := cel aF) (post := []) (vs := cel b) (rest := []) rfl rfl (aL b) rfl (aL aF);simp only [List.nil_append, List.append_nil, List.singleton_append] at h1 h2;have h3 := h1.trans h2;have hz' : (zeroValue 127).run prog w = .ok (gD 0 aF) w := hz;have hc : (gD 0 aF).cells = (.int .i64 0 :: cel aF).toArray := rfl;simp only [Instr.build, Sem.run_bind, hz', run_underlying underlying127, Result.andThen_ok, hc];refine Eq.trans (congrArg (fun r => Result.andThen r _) (?h : _ = Result.ok #[(0, 1), (1, 64)] w)) ?_
 case h => kernel_rfl
 simp only [Result.andThen_ok];have h4 : Instr.fill (fun i => (#[(0, 1), (1, 64)] : Array (Nat × Nat))[i]?) (.int .i64 k :: cel b).toArray [] = some (.int .i64 k :: cel b).toArray := by rw [Instr.fill]
 rw [h3.trans h4]
 rfl
theorem pZ {ρ : Operand -> Value} {o : Oper} {x y : Operand} {k : Int} {b : Blk} (ho : o.op = .build 127 #[(0, x), (1, y)]) (hx : ρ x = .int .i64 k) (hy : ρ y = blk b) : (execOp ρ o).run prog w = .ok (.value (gD k b)) w := by
 have h := tI (w := w) k b;unfold execOp;simp only [ho, List.map_toArray, List.map_cons, List.map_nil, hx, hy, Sem.run_bind, h, Result.andThen_ok, Sem.run_pure]
theorem rB (k : Int) (b : Blk) : (gD k b).cells = (LwE.cel (k, b)).toArray := rfl
end
theorem acg (p : Nat) (vS vL : Value) (S : List Blk) (L : List (Int × Blk)) (g : Bool) (w : World) (h : PD w p vS vL S L g) :
  Calls prog 47 #[.pointer (some ⟨p, 0, none⟩)] w fun e w' => e = .returned (.int .i64 0) /\ PD w' p (.slice none 0 0) (.slice none 0 0) S [] true /\ Only (foot p vS vL) w w' := by
 obtain ⟨c0, c1, c2, c3⟩ := dR h.at_;have f0 := frozen_of_row w p 0 _ _ h.at_;have f1 := frozen_of_row w p 1 _ _ h.at_;have f2 := frozen_of_row w p 2 _ _ h.at_;have f3 := frozen_of_row w p 3 _ _ h.at_;have H := ae h;clear h;go_enter func47, ntmps47;go_wp2_with fail;refine (jb p vS vL S L g w H).mono ?_;rintro e w1 ⟨rfl, rfl⟩;go_wp2_with fail;go_ret;refine ⟨rfl, ⟨?_, H.out.one, bF.nil _ _, bF.nil _ _, fun _ => rfl⟩, ?_⟩
 ·have h0 := H.out.at_;have h1 := heap_setCell_same w p 0 _ _ (.int .i64 (S.length : Int)) h0;have h2 := heap_setCell_same _ p 1 _ _ (.slice none 0 0) h1;have h3 := heap_setCell_same _ p 2 _ _ (.slice none 0 0) h2;have h4 := heap_setCell_same _ p 3 _ _ (.bool true) h3
  simpa using h4
 ·have hO : Only (fun b => b = p) w w := Only.refl _ _;exact ((((hO.setCell (p := ⟨p, 0, none⟩) (.inl rfl) _).setCell (p := ⟨p, 1, none⟩) (.inl rfl) _).setCell (p := ⟨p, 2, none⟩) (.inl rfl) _).setCell (p := ⟨p, 3, none⟩) (.inl rfl) _).widen fun b hb => .inl hb
theorem tH (p : Nat) (vS vL : Value) (S : List Blk) (L : List (Int × Blk)) (g : Bool) (n : Int) (b : Blk) (w : World) (h : PD w p vS vL S L g) (he0 : cT S g n ≠ 0) :
  Calls prog 41 #[.pointer (some ⟨p, 0, none⟩), .int .i64 n, blk b] w fun e w' => e = .returned (.int .i64 (cT S g n)) /\ Below w.heap.size w w' := by
 have hA := (Below.refl w.heap.size w).alloc ai (.cells (cel b).toArray 29);have h1 := h.below hA;have HA := ae hA;clear hA;have H0 := ae he0;rcases eW (S := S) (g := g) (n := n) with he | he | ⟨he, _⟩
 rotate_right 1
 ·exact absurd he he0
 all_goals
  have HE := ae he;clear he he0;go_enter func41, ntmps41;go_wp2_with (first | (refine av rfl (bZ rfl rfl) ?_) | fail);refine (fo p vS vL S L g n _ h1).mono ?_;rintro e w1 ⟨rfl, rfl⟩;rw [HE.out];go_wp2_with fail;go_ret;exact ⟨bP HE.out.symm, HA⟩
theorem sn (p k : Nat) (vS vL : Value) (S : List Blk) (L : List (Int × Blk)) (b : Blk) (w : World) (h : PD w p vS vL S L false) (hk : k < S.length) (hL : L.length < 1000000) :
  Calls prog 41 #[.pointer (some ⟨p, 0, none⟩), .int .i64 k, blk b] w fun e w' => e = .returned (.int .i64 0) /\ ∃ vL', PD w' p vS vL' S (L ++ [((k : Int), b)]) false /\ Only (foot p vS vL) w w' /\ (∀ x, vL'.ownBlock = some x -> vL.ownBlock = some x \/ w.heap.size <= x) := by
 have hA := (Below.refl w.heap.size w).alloc ai (.cells (cel b).toArray 29);have h1 := h.below hA;have HA := ae hA;have HE := ae (fR (S := S) (n := (k : Int)) (by omega));have HB := ae (l9 w (cel b).toArray 29);clear hA;obtain ⟨AL, cL, rfl, hl1, hl2⟩ := h1.L_.form;go_enter func41, ntmps41;go_wp2_with (first | (refine av rfl (bZ rfl rfl) ?_) | fail);refine (fo p vS _ S L false k _ h1).mono ?_;rintro e w1 ⟨rfl, rfl⟩;rw [HE.out];go_wp2_with fail;generalize hy : w.heap.size = y at *;generalize w.alloc (.cells (cel b).toArray 29) = w1 at *;refine iZ (fun w' => w'.heap[p]? = some (.cells #[.int .i64 (S.length : Int), vS, .slice AL L.length cL, .bool false] 125) /\ w'.heap[y]? = some (.cells (cel b).toArray 29)) 12 (by kernel_rfl) ?_;change eO _ _ _ _ _ _ 13 _ _ w1.drew;have hS : w1.drew.heap[p]? = some (.cells #[.int .i64 (S.length : Int), vS, .slice AL L.length cL, .bool false] 125) /\ w1.drew.heap[y]? = some (.cells (cel b).toArray 29) := ⟨h1.at_, HB⟩;refine aet 0 rfl (fun _ hw => aJ rfl aez) hS ?_;refine aet 1 rfl (fun _ hw => aJ rfl aez) hS ?_;refine aet 2 rfl (fun _ hw => cE rfl aez) hS ?_;refine aet 3 rfl (fun _ hw => ax rfl aez abx) hS ?_;refine aet 4 rfl (fun _ hw => aE rfl aez (ldP (dR hw.1).2.2.1)) hS ?_;refine aet 5 rfl (fun _ hw => aJ rfl aez) hS ?_;refine aet 6 rfl (fun _ hw => bf rfl aez (ib hw.2)) hS ?_;refine aet 7 rfl (fun _ hw => pZ rfl aez aez) hS ?_;have hr : PD w1.drew p vS (.slice AL L.length cL) S L false := ⟨h1.at_, h1.one, h1.S_, h1.L_, h1.dead⟩;have hS2 : PD (w1.drew.alloc (.cells (LwE.cel ((k : Int), b)).toArray LwE.t)) p vS (.slice AL L.length cL) S L false := hr.below (aj.alloc ai _);have hb2 := bO hS.2 (.cells (LwE.cel ((k : Int), b)).toArray LwE.t);have hnew : RdE LwE _ _ _ 1 _ := iJ (E := LwE) (l := [((k : Int), b)]) w1.drew (LwE.cel ((k : Int), b)).toArray LwE.t (by rw [ex]; simp [cF]);obtain ⟨v3, w3, hrun, hm3, hg3, ho3⟩ := iE LwE _ 123 0 _ 1 1 _ _ _ _ hS2.L_ hnew (Nat.zero_le _) (by omega);have hO2 : Only (foot p vS (.slice AL L.length cL)) w (w1.drew.alloc (.cells (LwE.cel ((k : Int), b)).toArray LwE.t)) := (Only.of_below _ (hy ▸ HA.out)).drew.alloc _;have hO3 := hO2.grown hg3 (fun x hx => .inl (.inr (.inr hx)));have hp3 : w3.heap[p]? = some (.cells #[.int .i64 (S.length : Int), vS, .slice AL L.length cL, .bool false] 125) := (hg3.block p (aY hS2.at_) (fun e => hS2.L_.dH hS2.at_ (by decide) e.symm)).trans hS2.at_;have hy3 : w3.heap[y]? = some (.cells (cel b).toArray 29) := (hg3.block y (aY hb2) (fun e => hS2.L_.dH hb2 (by decide) e.symm)).trans hb2;have hSS3 := hS2.S_.kept hg3 (hS2.S_.other hS2.L_ (by decide));refine fh 8 rfl (by kernel_rfl) rfl (ft (E := LwE) (a := ((k : Int), b)) rfl aez (rB _ _) (by decide)) (fun _ => ⟨hS2.at_, hb2⟩) ?_;simp only [aa];refine fh 9 rfl (by kernel_rfl) rfl (jK (E := LwE) rfl aez aez hrun) (fun _ => ⟨hp3, hy3⟩) ?_;simp only [aa];refine fh 10 rfl (by kernel_rfl) rfl (cE rfl aez) (fun _ => ⟨hp3, hy3⟩) ?_;simp only [aa];refine fh 11 rfl (by kernel_rfl) rfl (ax rfl aez abx) (fun _ => ⟨hp3, hy3⟩) ?_;simp only [aa];obtain ⟨A3, c3, rfl, _, _⟩ := hm3.form;refine qq 12 rfl (by kernel_rfl) rfl (gB rfl (ev rfl) (ev rfl) (stP (dR hp3).2.2.1 (frozen_of_row _ _ _ _ _ hp3))) (fun e => absurd rfl e) ?_;simp only [Act.put];refine lY (by kernel_rfl) ?_ _;go_wp2_with fail;go_ret;refine ⟨rfl, _, ud hp3 h1.one hSS3 hm3 (fun e => absurd e (by decide)), hO3.setCell (.inl (.inl rfl)) _, fun x hx => ?_⟩;rcases ho3 x hx with e | e
 ·exact .inl e
 ·refine .inr (ap ?_ e);have := hO2.size;omega
theorem zn (p : Nat) (vS vL : Value) (S : List Blk) (L : List (Int × Blk)) (g : Bool) (n : Int) (b : Blk) (w : World) (h : PD w p vS vL S L g) (hL : L.length < 1000000) :
  Calls prog 41 #[.pointer (some ⟨p, 0, none⟩), .int .i64 n, blk b] w fun e w' => e = .returned (.int .i64 (cT S g n)) /\ ∃ vL', PD w' p vS vL' S (wrL S L g n b) g /\ Only (foot p vS vL) w w' /\ (∀ x, vL'.ownBlock = some x -> vL.ownBlock = some x \/ w.heap.size <= x) := by
 by_cases he : cT S g n = 0
 ·rcases eW (S := S) (g := g) (n := n) with h1 | h1 | ⟨_, rfl, k, rfl, hk⟩
  ·omega
  ·omega
  ·have e : wrL S L false k b = L ++ [((k : Int), b)] := by unfold wrL; rw [if_pos he]
   rw [e, he];exact sn p k vS vL S L b w h hk hL
 ·have e : wrL S L g n b = L := by unfold wrL; rw [if_neg he]
  rw [e];exact (tH p vS vL S L g n b w h he).mono fun e w' ⟨h1, h2⟩ => ⟨h1, vL, h.below h2, Only.of_below _ h2, fun x hx => .inl hx⟩
theorem aeg : ∃ d, prog.underlying LwE.t = some d /\ d.isRow = true := ⟨_, underlying127, rfl⟩
section
variable {ρ : Operand -> Value} {o : Oper} {x y : Operand} {w : World} {b off : Nat} {a : Int × Blk}
theorem nd (ho : o.op = .load LwE.t x) (hx : ρ x = .pointer (some ⟨b, off, none⟩)) (hc : w.rangeAt b off (eM a)) : (execOp ρ o).run prog w = .ok (.value (.agg (eM a).toArray)) w := by
 obtain ⟨d, h1, h2⟩ := aeg;exact sS (E := LwE) h1 h2 ho hx hc
theorem lV (ho : o.op = .alloc LwE.t) : (execOp ρ o).run prog w = .ok (.value (.pointer (some ⟨w.heap.size, 0, none⟩))) (w.alloc (.cells LwE.z.cells LwE.t)) := pW (E := LwE) ho
theorem nT (ho : o.op = .store LwE.t x y) (hx : ρ x = .pointer (some ⟨w.heap.size, 0, none⟩)) (hy : ρ y = .agg (eM a).toArray) : (execOp ρ o).run prog (w.alloc (.cells LwE.z.cells LwE.t)) = .ok .skip (w.alloc (.cells (eM a).toArray LwE.t)) := sZ (E := LwE) ho hx hy
end
section
variable {w w' : World} {p gg n c k : Nat} {vL : Value} {S : List Blk} {L : List (Int × Blk)}
theorem PD.eN (h : PD w p (.slice (some ⟨gg, 0, none⟩) n c) vL S L false) (hk : k < n) (x : Blk) : PD (w.setCells gg (k * 64) (cel x)) p (.slice (some ⟨gg, 0, none⟩) n c) vL (S.set k x) L false := by
 have hO : Only (fun b => b = gg) w (w.setCells gg (k * 64) (cel x)) := (Only.refl (fun b => b = gg) w).setCells (.inl rfl) _ _;refine ⟨?_, by rw [List.length_set]; exact h.one, h.alive.store hk x, h.L_.only hO fun b hb e => ?_, fun e => absurd e (by decide)⟩
 ·rw [List.length_set];exact hO.keep h.at_ (fun e => h.S_.dH h.at_ (by decide) (by rw [e]; rfl))
 ·rcases h.L_.other h.S_ (by decide) with e' | e'
  ·rw [e'] at hb; cases hb
  ·exact e' (by rw [hb, e]; rfl)
end
theorem pq (p : Nat) (vS vL : Value) (S : List Blk) (L : List (Int × Blk)) (w : World) (h : PD w p vS vL S L true) :
  Calls prog 52 #[.pointer (some ⟨p, 0, none⟩)] w fun e w' => e = .returned (.int .i64 9) /\ w = w' := by
 obtain ⟨c0, c1, c2, c3⟩ := dR h.at_;go_enter func52, ntmps52;go_wp2_with fail;refine (jb p vS vL S L true w h).mono ?_;rintro e w1 ⟨rfl, rfl⟩;go_wp2_with fail;go_ret;exact ⟨rfl, rfl⟩
theorem sc (p : Nat) (vS vL : Value) (S : List Blk) (L : List (Int × Blk)) (w : World) (h : PD w p vS vL S L false) (hF : Fit S L) :
  Calls prog 52 #[.pointer (some ⟨p, 0, none⟩)] w fun e w' => e = .returned (.int .i64 0) /\ PD w' p vS (.slice none 0 0) (flS S L) [] false /\ Only (foot p vS vL) w w' := by
 obtain ⟨c0, c1, c2, c3⟩ := dR h.at_;obtain ⟨AL, cL, rfl, hl1, hl2⟩ := h.L_.form;unfold maxLen at hl2;have HH := ae h;have HF := ae hF;clear h hF;go_enter func52, ntmps52;go_wp2_with fail;refine (jb p vS _ S L false w HH).mono ?_;rintro e w1 ⟨rfl, rfl⟩;go_wp2_with fail;clear c0 c1 c2 c3
 go_loopw [4, 17] (fun v4 i wr => ∃ j : Nat, j <= L.length /\ i = .int .i64 j /\ PD wr p vS (.slice AL L.length cL) (flS S (L.take j)) L false /\ Only (foot p vS (.slice AL L.length cL)) w wr) (fun _ i _ => L.length - (intOf i).toNat)
 case atStart => exact ⟨0, Nat.zero_le _, rfl, HH, Only.refl _ _⟩
 case round =>
  obtain ⟨j, hj, rfl, hr, hon⟩ := hrel;by_cases hlt : j < L.length
  ·obtain ⟨k, hqk, hk⟩ := HF.out.at_ hlt;have hlenS := mw S (L.take j);obtain ⟨gS, cS, rfl⟩ := hr.alive.slice hlenS (by omega);obtain ⟨bA, oA, hAe, hAl, rA⟩ := hr.L_.rd.pairs hlt;have HS := ae (rN (S := S) hlt);rw [hqk] at HS;generalize hq : L.getD j (0, aF) = q at *;obtain ⟨q1, x⟩ := q;obtain rfl : q1 = (k : Int) := hqk;clear hq;have h1 := hr.below (aj.alloc ai (.cells (eM ((k : Int), x)).toArray LwE.t));have HON := ae (hon.alloc (.cells (eM ((k : Int), x)).toArray LwE.t));have hnw := yH wr ((k : Int), x) LwE.t;have HRA := ae rA;subst hAe;clear rA hr hon;have hLL : (j : Int) < (L.length : Int) := by omega
   go_wp2_with (first | (refine av rfl (cK (E := LwE) rfl rfl rfl hlt) ?_) | (refine av rfl (nd rfl rfl HRA.out) ?_) | (refine av rfl (lV rfl) ?_) | (refine bj rfl (nT rfl rfl rfl) ?_) | fail);generalize hy : wr.heap.size = y at *;generalize wr.alloc (.cells (eM ((k : Int), x)).toArray LwE.t) = w1 at *;obtain ⟨c0, c1, c2, c3⟩ := dR h1.at_;have HA := ae c1;have HN := ae hnw;have H1 := ae h1;have HKT := ae (show w1.there gS (k * 64) 64 from by
    have := H1.out.alive.there hk (j := 0) (m := 64) ai;rw [Nat.add_zero] at this;exact this)
   clear c0 c1 c2 c3 hnw h1 hlenS;refine wp_region_still_tail 9 (by kernel_rfl) (by kernel_rfl) ?_;simp only [ac];refine aM rfl (aJ rfl aez) ?_;simp only [aa];refine aM rfl (cE rfl aez) ?_;simp only [aa];refine aM rfl (ax rfl aez ac9) ?_;simp only [aa];refine aM rfl (aE rfl aez (ldB HA)) ?_;simp only [aa];refine aM rfl (ax rfl aez ab5) ?_;simp only [aa];refine aM rfl (aE rfl aez (ldI HN.out.1)) ?_;simp only [aa];refine aM rfl (ax rfl aez acZ) ?_;simp only [aa];refine aM rfl (bf rfl aez HN.out.2) ?_;simp only [aa];refine aM rfl (ja (E := lw) rfl aez aez hk) ?_;simp only [aa];refine wpStill_nil ?_;change wpList _ _ _ _ _ w1.drew;go_wp2_with (first | (refine bj rfl (bD rfl rfl rfl HKT.out) ?_) | fail);go_roundw
   case rel =>
    have hd : PD w1.drew p (.slice (some ⟨gS, 0, none⟩) S.length cS) (.slice (some ⟨bA, oA, none⟩) L.length cL) (flS S (L.take j)) L false := ⟨H1.out.at_, H1.out.one, H1.out.S_, H1.out.L_, H1.out.dead⟩;exact ⟨j + 1, by omega, by go_num, by rw [HS.out]; exact hd.eN hk x, HON.out.drew.setCells (.inl (.inr (.inl rfl))) _ _⟩
   case measure => simp [intOf]; omega
  ·have hjn : j = L.length := by omega
   subst hjn;obtain ⟨c0, c1, c2, c3⟩ := dR hr.at_;have f2 := frozen_of_row wr p 2 _ _ hr.at_;have HRr := ae hr;have HON := ae hon;clear hr hon;have hLL : ¬((L.length : Int) < (L.length : Int)) := by omega
   go_wp2_with fail;go_ret;have hd := HRr.out.nh (bF.nil _ _) (fun _ => rfl);rw [List.take_length] at hd;exact ⟨rfl, hd, HON.out.setCell (.inl (.inl rfl)) _⟩
theorem yt (k : Nat) (w : World) (h1 : 1 <= k) (h2 : k <= 512) :
  Calls prog 72 #[.int .i64 k] w fun e w' => ∃ p vS, e = .returned (.tuple #[.pointer (some ⟨p, 0, none⟩), .int .i64 0]) /\ PD w' p vS (.slice none 0 0) (List.replicate k aF) [] false /\ Below w.heap.size w w' /\ ∀ b, foot p vS (.slice none 0 0) b -> w.heap.size <= b := by
 go_enter func72, ntmps72;have HM := ae (heap_alloc_new w (.cells (madeCells (cel aF).toArray (k * 64)) 29));have HB := ae ((Below.refl w.heap.size w).alloc ai (.cells (madeCells (cel aF).toArray (k * 64)) 29));have HSZ := ae (World.size_alloc w (.cells (madeCells (cel aF).toArray (k * 64)) 29));go_wp2_with (first | (refine av rfl (n8 (n := k) rfl rfl rfl (by omega)) ?_) | fail);generalize w.alloc (.cells (madeCells (cel aF).toArray (k * 64)) 29) = w1 at *;go_ret2;have hS : bF lw w1 0 (.slice (some ⟨w.heap.size, 0, none⟩) k k) (List.replicate k aF) := bF.of_block (E := lw) HM (by rw [<- nP]; rfl) (Nat.zero_le _) (by simp) (by unfold maxLen; omega);have hnw := heap_alloc_new w1 (.cells #[.int .i64 (k : Int), .slice (some ⟨w.heap.size, 0, none⟩) k k, .slice none 0 0, .bool false] 125);rw [HSZ.out] at hnw;refine ⟨w.heap.size + 1, _, rfl, ⟨by rw [List.length_replicate]; exact hnw, by simpa using h1, hS.below (aj.alloc ai _), bF.nil _ _, fun e => absurd e (by decide)⟩, HB.out.alloc HB.out.size _, fun b hb => ?_⟩;rcases hb with rfl | hb | hb
 ·omega
 ·simp [Value.ownBlock] at hb; omega
 ·simp [Value.ownBlock] at hb
theorem yA (n : Int) (w : World) (h : ¬(1 <= n /\ n <= 512)) :
  Calls prog 72 #[.int .i64 n] w fun e w' => e = .returned (.tuple #[.pointer none, .int .i64 2]) /\ w = w' := by
 have hor : n < 1 \/ (1 <= n /\ 512 < n) := by omega
 clear h;rcases hor with h | ⟨h, h'⟩
 all_goals
  go_enter func72, ntmps72;go_wp2;go_ret2;exact ⟨rfl, rfl⟩
def mA (o : Oper) : Bool := match o.op with
 |.defer _ => false
 |_ => true
theorem kY {o : Oper} (h : mA o = true) : ∀ c, o.op ≠ .defer c := by
 intro c e;unfold mA at h;rw [e] at h;cases h
section
variable {F : Fence} {n : Nat} {P : Program} {ops : Array Oper} {rest : List Oper} {o : Oper} {a : Act} {w w' : World} {Q : Exit -> Act -> World -> Prop} {v : Value}
theorem dB (hg : o.guard = none) (hd : mA o = true) (ha : o.about P w a.eval = none) (h : (execOp a.eval o).run P w = .ok (.value v) w') (hr : wpListIn F n P ops Q rest (a.put o.dst v) w') : wpListIn F n P ops Q (o :: rest) a w := by
 refine wpListIn_plain hg fun K hK => ?_
 unfold Oper.wpIn;refine ⟨fun f hf => (by rw [ha] at hf; cases hf), ?_⟩;rw [Oper.semAt_plain F _ _ (kY hd), h];exact hK _ _ hr
theorem kL (hg : o.guard = none) (hd : mA o = true) (ha : o.about P w a.eval = none) (h : (execOp a.eval o).run P w = .ok .skip w') (hr : wpListIn F n P ops Q rest (a.put o.dst undef) w') : wpListIn F n P ops Q (o :: rest) a w := by
 refine wpListIn_plain hg fun K hK => ?_
 unfold Oper.wpIn;refine ⟨fun f hf => (by rw [ha] at hf; cases hf), ?_⟩;rw [Oper.semAt_plain F _ _ (kY hd), h];exact hK _ _ hr
end
open Go.RowKit Go.Shelf
attribute [local go_sem] Oper.semAt_some
def cmd (L : List (Int × Blk)) : Nat -> List (Nat × (Int × Blk))
 |0 => []
 |d + 1 => cmd L d ++ [(L.length - 1 - d, L.getD (L.length - 1 - d) (0, aF))]
theorem aav (L : List (Int × Blk)) (d : Nat) : (cmd L d).length = d := by
 induction d with
 |zero => rfl
 |succ d ih => rw [cmd, List.length_append, ih]; rfl
theorem uo (L : List (Int × Blk)) (d i : Nat) (h1 : L.length - d <= i) (h2 : i < L.length) : (i, L.getD i (0, aF)) ∈ cmd L d := by
 induction d with
 |zero => omega
 |succ d ih =>
  rw [cmd];by_cases e : L.length - d <= i
  ·exact List.mem_append.2 (.inl (ih e))
  ·have : i = L.length - 1 - d := by omega
   subst this;exact List.mem_append.2 (.inr (by simp))
def zw (x : Nat × (Int × Blk)) : Array Value := #[.int .i64 (x.1 : Int), .agg (eM x.2).toArray]
theorem pR (F : Fence) (n : Nat) (h : F.fn 116) (hro : F.round = none) (a : Option Addr) (len cap : Nat) (w : World) :
  CallsIn F n prog 116 #[.slice a len cap] w fun e w' => e = .returned (.func (.func 123) #[] #[.pointer (some ⟨w.heap.size, 0, none⟩)]) /\ w' = w.alloc (.cells #[.slice a len cap] 123) := by
 refine callsIn_of_wp func116 rfl h ?_ hro;simp only [ntmps116, List.size_toArray, List.length_cons, List.length_nil, Nat.reduceAdd, Nat.reduceSub, Array.replicate_succ, Array.replicate_zero, List.push_toArray, List.append_toArray, List.nil_append, List.cons_append]
 gi_wp2
 go_ret;exact ⟨rfl, rfl⟩
set_option maxRecDepth 100000 in
theorem yK (F : Fence) (n : Nat) (h40 : F.fn 123) (hro : F.round = none) (hn : 1 <= n) (l Bs n₀ : Nat) (A : Option Addr) (cap : Nat) (L : List (Int × Blk)) (hLl : L.length <= 1000000) (J Jx : List (Nat × (Int × Blk)) -> World -> Prop)
  (hY : ∀ pre x W, J pre W -> pre.length < L.length -> YieldAt F (n - 1) prog l (zw x) W fun e W' =>
   (e = .returned (.bool true) /\ J (pre ++ [x]) W' /\ Below n₀ W W') \/ (e = .returned (.bool false) /\ Jx (pre ++ [x]) W'))
  (W : World) (hBn : Bs < n₀) (hBs : W.cell? ⟨Bs, 0, none⟩ = some (.slice A L.length cap)) (hL : RdE LwE W n₀ A L.length L) (h0 : J [] W) :
  CallsIn F n prog 123 #[.func (.yield l) #[] #[], .pointer (some ⟨Bs, 0, none⟩)] W fun e W' => (∃ v, e = .returned v) /\
   ((∃ ys, ys = cmd L L.length /\ J ys W') \/ (∃ pre, (∃ d, d <= L.length /\ pre = cmd L d) /\ Jx pre W')) := by
 refine callsIn_of_wp func123 rfl h40 ?_ hro;simp only [ntmps123, List.size_toArray, List.length_cons, List.length_nil, Nat.reduceAdd, Nat.reduceSub, Array.replicate_succ, Array.replicate_zero, List.push_toArray, List.append_toArray, List.nil_append, List.cons_append]
 gi_wp2
 gi_loopw [3] (fun i wr => ∃ r : Nat, r <= L.length /\ i = .int .i64 ((r : Int) - 1) /\ J (cmd L (L.length - r)) wr /\ Below n₀ W wr)
  (fun i _ => (intOf i + 1).toNat)
 case atStart => exact ⟨L.length, ai, rfl, by rw [Nat.sub_self]; exact h0, aj⟩
 case round =>
  obtain ⟨r, hr, rfl, hJs, hnx⟩ := hrel;have hbx : wr.cell? ⟨Bs, 0, none⟩ = some (.slice A L.length cap) := (hnx.cell (p := ⟨Bs, 0, none⟩) hBn).trans hBs;have hLr := hL.below hnx;cases r with
  |zero =>
   clear hLr hbx;rw [Nat.sub_zero] at hJs;have e : ((0 : Nat) : Int) - 1 = -1 := rfl;rw [e]
   gi_wp2
   go_end0
   exact ⟨⟨_, rfl⟩, .inl ⟨_, rfl, hJs⟩⟩
  |succ m =>
   have e : ((m + 1 : Nat) : Int) - 1 = (m : Int) := by omega
   rw [e];clear e;have hlt : m < L.length := hr;obtain ⟨bA, oA, rfl, hbA, rA⟩ := RdE.pairs hLr hlt;have hnext : cmd L (L.length - m) = cmd L (L.length - (m + 1)) ++ [(m, L.getD m (0, aF))] := by
    have e1 : L.length - m = (L.length - (m + 1)) + 1 := by omega
    rw [e1, cmd];have e2 : L.length - 1 - (L.length - (m + 1)) = m := by omega
    rw [e2]
   have HNX := ae hnext;obtain ⟨fn, tmps, assign, body, hy, hR⟩ := hY _ (m, L.getD m (0, aF)) wr hJs (by rw [aav]; omega);rw [<- hnext] at hR;have HRA := ae rA;generalize L.getD m (0, aF) = q at *;unfold zw at hy;dsimp only at hy;clear hnext rA hLr
   gi_wp2_with (first | (refine dB rfl rfl rfl (cK (E := LwE) rfl rfl rfl hlt) ?_) | (refine dB rfl rfl rfl (nd rfl rfl HRA) ?_) | fail)
   refine hR.mono ?_;rintro e W3 (⟨rfl, hJ3, hk3⟩ | ⟨rfl, hJx3⟩)
   ·gi_wp2
    go_roundw
    case rel => exact ⟨m, by omega, rfl, hJ3, hnx.trans hk3⟩
    case measure => simp [intOf]
   ·gi_wp2
    refine bodyPost_ret (results_none rfl _ _ _) rfl ?_;exact ⟨⟨_, rfl⟩, .inr ⟨_, ⟨L.length - m, by omega, rfl⟩, hJx3⟩⟩
theorem rS (F : Fence) (n : Nat) (h40 : F.fn 123) (hro : F.round = none) (hn : 1 <= n) (Bs : Nat) (A : Option Addr) (cap : Nat) (L : List (Int × Blk)) (hLl : L.length <= 1000000) (w : World) (hBn : Bs < w.heap.size) (hBs : w.cell? ⟨Bs, 0, none⟩ = some (.slice A L.length cap)) (hL : RdE LwE w w.heap.size A L.length L) :
  SeqStopsK F n prog 123 #[.pointer (some ⟨Bs, 0, none⟩)] zw (Below w.heap.size) (fun ys => ys = cmd L L.length) (fun pre => ∃ d, d <= L.length /\ pre = cmd L d) L.length w := fun l J Jx W hW _ _ hY h0 =>
 yK F n h40 hro hn l Bs w.heap.size A cap L hLl J Jx hY W hBn ((hW.cell (p := ⟨Bs, 0, none⟩) hBn).trans hBs) (hL.below hW) h0
attribute [local go_sem] Oper.semAt_some
theorem mP {fn : Func} {p u : Tmp} {c : Blk} {e : Int} (h : fn.results = #[.cell p 29, .cell u 41]) (tmps : Array Value) (w : World) (b b' : Nat) (hp : tmps.getD p undef = .pointer (some ⟨b, 0, none⟩)) (hu : tmps.getD u undef = .pointer (some ⟨b', 0, none⟩)) (hc : w.rangeAt b 0 (cel c)) (he : w.cell? ⟨b', 0, none⟩ = some (.int .i64 e)) :
  (results fn tmps).run prog w = .ok (.tuple #[blk c, .int .i64 e]) w := by
 have hl : (loadVar 29 ⟨b, 0, none⟩).run prog w = .ok (blk c) w := run_loadVar_mid w b 0 29 (cel c) _ hc pi rfl (by rw [aL]; exact oU);have hl2 : (loadVar 41 ⟨b', 0, none⟩).run prog w = .ok (.int .i64 e) w := by simp [go_sem, he]
 have hp' : tmps[p]?.getD undef = .pointer (some ⟨b, 0, none⟩) := by simpa using hp
 have hu' : tmps[u]?.getD undef = .pointer (some ⟨b', 0, none⟩) := by simpa using hu
 simp [results, h, hp', hu', asAddr, hl, hl2]
theorem jj {w : World} {b b' o i : Nat} {cs : List Value} (h : w.rangeAt b o cs) (hne : b ≠ b') (v : Value) : (w.setCell ⟨b', i, none⟩ v).rangeAt b o cs := fun j u hj => by
 rw [World.cell?_of_block (w := w) (a := ⟨b, o + j, none⟩) (heap_setCell_other w ⟨b', i, none⟩ b v hne)];exact h j u hj
def rd3 (w : World) (n : Int) : World := ((w.alloc (.cells #[.int .i64 n] 3)).alloc (.cells (cel aF).toArray 29)).alloc (.cells #[.int .i64 0] 41)
theorem oC (w : World) (n : Int) : Below w.heap.size w (rd3 w n) /\ (rd3 w n).heap[w.heap.size]? = some (.cells #[.int .i64 n] 3) /\ (rd3 w n).heap[w.heap.size + 1]? = some (.cells (cel aF).toArray 29) /\ (rd3 w n).heap[w.heap.size + 1 + 1]? = some (.cells #[.int .i64 0] 41) /\ (rd3 w n).heap.size = w.heap.size + 1 + 1 + 1 := by
 unfold rd3;have e1 := World.size_alloc (w := w) (o := .cells #[.int .i64 n] 3);have e2 := World.size_alloc (w := w.alloc (.cells #[.int .i64 n] 3)) (o := .cells (cel aF).toArray 29);have e3 := World.size_alloc (w := (w.alloc (.cells #[.int .i64 n] 3)).alloc (.cells (cel aF).toArray 29)) (o := .cells #[.int .i64 0] 41);have n1 := l9 w #[.int .i64 n] 3;have n2 := l9 (w.alloc (.cells #[.int .i64 n] 3)) (cel aF).toArray 29;have n3 := l9 ((w.alloc (.cells #[.int .i64 n] 3)).alloc (.cells (cel aF).toArray 29)) #[.int .i64 0] 41;rw [e2, e1] at n3;rw [e1] at n2;refine ⟨(((Below.refl _ w).alloc ai _).alloc (by omega) _).alloc (by omega) _, bO (bO n1 _) _, bO n2 _, n3, by omega⟩
theorem one_cell {w : World} {b : Nat} {v : Value} {t : TypeId} (h : w.heap[b]? = some (.cells #[v] t (0, 0))) : w.cell? ⟨b, 0, none⟩ = some v /\ w.frozen? ⟨b, 0, none⟩ = false := by
 refine ⟨?_, frozen_of_row w b 0 _ t h⟩;rw [cell_of_row w b 0 _ t (0, 0) h]; rfl
theorem vC (p : Nat) (vS vL : Value) (S : List Blk) (L : List (Int × Blk)) (g : Bool) (n : Int) (w : World) (h : PD w p vS vL S L g) (he0 : cT S g n ≠ 0) :
  Calls prog 104 #[.pointer (some ⟨p, 0, none⟩), .int .i64 n] w fun e w' => e = .returned (.tuple #[blk (eU S L g n), .int .i64 (cT S g n)]) /\ Below w.heap.size w w' := by
 obtain ⟨hA, k0, k1, k2, hsz⟩ := oC w n;have h1 := h.below hA;have HA := ae hA;have HT := ae (eF k1);obtain ⟨c0, f0⟩ := one_cell k0;have hO : Only (fun b => b = w.heap.size + 1) (rd3 w n) ((rd3 w n).setCells (w.heap.size + 1) 0 (cel aF)) := (Only.refl (fun b => b = w.heap.size + 1) (rd3 w n)).setCells (.inl rfl) _ _;have k2' := hO.keep k2 (by omega);obtain ⟨c2, f2⟩ := one_cell k2';have HS := ae (qJ (L := L) he0);clear hA k0 k1 k2 hO k2';rcases eW (S := S) (g := g) (n := n) with he | he | ⟨he, _⟩
 rotate_right 1
 ·exact absurd he he0
 all_goals
  have HE := ae he;clear he he0;go_enter func104, ntmps104;unfold rd3 at *;go_wp2_with (first | (refine av rfl (bw rfl) ?_) | fail);generalize ((w.alloc (.cells #[.int .i64 n] 3)).alloc (.cells (cel aF).toArray 29)).alloc (.cells #[.int .i64 0] 41) = w3 at *;refine (fo p vS vL S L g n w3 h1).mono ?_;rintro e w1 ⟨rfl, rfl⟩;rw [HE.out];go_wp2_with (first | (refine av rfl (cQ (c := aF) (parts := []) rfl rfl) ?_) | (refine bj rfl (bD rfl rfl rfl ?ht) ?_; (case ht => exact HT.out)) | fail);have hr1 : (w3.setCells (w.heap.size + 1) 0 (cel aF)).rangeAt (w.heap.size + 1) 0 (cel aF) := World.rangeAt_setCells_same _ _ _ _ (by rw [aL]; exact HT);have hr2 := jj (b' := w.heap.size + 1 + 1) (i := 0) hr1 (by omega);have hb2 := (below_setCells HA (show w.heap.size <= w.heap.size + 1 by omega) (o := 0) (cel aF));refine bodyPost_ret (mP rfl _ _ _ _ rfl rfl (hr2 _) (World.cell?_setCell_same' _ _ _ (by rw [c2]; rfl))) rfl ⟨by rw [HS.out, HE.out], hb2.setCell (p := ⟨w.heap.size + 1 + 1, 0, none⟩) (by show _ <= w.heap.size + 1 + 1; omega) _⟩
attribute [local go_sem] Oper.semAt_some
theorem sd {L : List (Int × Blk)} {n : Int} {b : Blk} (h : ∀ q ∈ L, q.1 ≠ n) : jl L n b = b := by
 unfold jl
 induction L generalizing b with
 |nil => rfl
 |cons q L ih =>
  rw [List.foldl_cons, if_neg (h q (by simp)), ih fun q hq => h q (by simp [hq])]
theorem xD {L : List (Int × Blk)} {n : Int} {b : Blk} {i : Nat} (hi : i < L.length) (h : (L.getD i (0, aF)).1 = n) (hb : ∀ j, i < j -> j < L.length -> (L.getD j (0, aF)).1 ≠ n) : jl L n b = (L.getD i (0, aF)).2 := by
 have key : ∀ m, i + 1 + m <= L.length -> jl (L.take (i + 1 + m)) n b = (L.getD i (0, aF)).2 := by
  intro m
  induction m with
  |zero => intro _; rw [Nat.add_zero, j7 n b hi, if_pos h]
  |succ m ih =>
   intro hm;rw [<- Nat.add_assoc, j7 n b (by omega), if_neg (hb _ (by omega) (by omega))];exact ih (by omega)
 have := key (L.length - (i + 1)) (by omega);rwa [show i + 1 + (L.length - (i + 1)) = L.length from by omega, List.take_length] at this
def NoK (k : Int) (pre : List (Nat × (Int × Blk))) : Prop := ∀ x ∈ pre, x.2.1 ≠ k
def aee (s : Nat) (k : Int) (pre : List (Nat × (Int × Blk))) (W : World) : Prop := ∃ ini last, pre = ini ++ [last] /\ NoK k ini /\ last.2.1 = k /\ W.rangeAt (s + 1) 0 (cel last.2.2) /\ W.cell? ⟨s + 1 + 1, 0, none⟩ = some (.int .i64 0)
theorem z2 {w : World} {b : Nat} {q : Int × Blk} {t : TypeId} (h : w.heap[b]? = some (.cells (eM q).toArray t (0, 0))) : w.cell? ⟨b, 0, none⟩ = some (.int .i64 q.1) /\ w.rangeAt b 1 (cel q.2) := by
 have hr : w.rangeAt b 0 (eM q) := fun j v hj => by
  rw [cell_of_row _ _ (0 + j) (eM q).toArray t (0, 0) h]
  simpa using hj
 refine ⟨hr 0 _ rfl, fun j v hj => ?_⟩;have := hr (j + 1) v hj;rwa [show 0 + (j + 1) = 1 + j from by omega] at this
theorem gu (b : Nat) : ∀ (vs : List Value) (o : Nat) (w : World), KeepsOthers w (w.setCells b o vs)
 |[], _, w => KeepsOthers.refl w
 |v :: r, o, w => (KeepsOthers.setCell w ⟨b, o, none⟩ v).trans (gu b r (o + 1) _)
set_option maxRecDepth 100000 in
theorem vG (p k : Nat) (vS vL : Value) (S : List Blk) (L : List (Int × Blk)) (w : World) (h : PD w p vS vL S L false) (hk : k < S.length) (hLl : L.length <= 1000000) :
  Calls prog 104 #[.pointer (some ⟨p, 0, none⟩), .int .i64 k] w fun e w' => e = .returned (.tuple #[blk (eU S L false k), .int .i64 0]) /\ Below w.heap.size w w' := by
 obtain ⟨gS, cS, rfl⟩ := h.alive.slice rfl (by omega);obtain ⟨hA, k0, k1, k2, hsz⟩ := oC w (k : Int);have h1 := h.below hA;have HA := ae hA;have HE := ae (fR (S := S) (n := (k : Int)) (by omega));have HK0 := ae k0;have HK1 := ae k1;have HK2 := ae k2;obtain ⟨c0, f0⟩ := one_cell k0;obtain ⟨AL, cL, rfl, hl1, hl2⟩ := h1.L_.form;obtain ⟨d0, d1, d2, d3⟩ := dR h1.at_;clear hA k0 k1 k2;refine (callsIn_wide (n := 3)).1 ?_;refine callsIn_of_wp_marks func104 rfl trivial ?_ rfl;refine wpIn_wide.2 ?_;simp only [ntmps104, List.size_toArray, List.length_cons, List.length_nil, Nat.reduceAdd, Nat.reduceSub, Array.replicate_succ, Array.replicate_zero, List.push_toArray, List.append_toArray, List.nil_append, List.cons_append];unfold rd3 at *;go_wp2_with (first | (refine av rfl (bw rfl) ?_) | fail);generalize ((w.alloc (.cells #[.int .i64 (k : Int)] 3)).alloc (.cells (cel aF).toArray 29)).alloc (.cells #[.int .i64 0] 41) = w3 at *;refine (fo p _ _ S L false k w3 h1).mono ?_;rintro e w4 ⟨rfl, rfl⟩;rw [HE.out];go_wp2_with fail;refine (callsIn_wide.1 (pR Fence.wide 3 trivial rfl AL L.length cL w3)).mono ?_;rintro e w4 ⟨rfl, rfl⟩;go_wp2_with fail;have hB0 := HA.out.alloc HA.out.size (.cells #[.slice AL L.length cL] 123);have hbox := l9 w3 #[.slice AL L.length cL] 123;have h2 := h1.below ((Below.refl _ w3).alloc ai (.cells #[.slice AL L.length cL] 123));have k0 := bO HK0 (.cells #[.slice AL L.length cL] 123);have k1 := bO HK1 (.cells #[.slice AL L.length cL] 123);have k2 := bO HK2 (.cells #[.slice AL L.length cL] 123);have hsz0 := World.size_alloc w3 (.cells #[.slice AL L.length cL] 123);rw [hsz] at hbox hsz0;generalize w3.alloc (.cells #[.slice AL L.length cL] 123) = W0 at *;clear c0 f0 d0 d1 d2 d3 h1 HA HK0 HK1 HK2 hsz;have HK0 := ae k0;have HK1 := ae k1;have HK2 := ae k2;have HH2 := ae h2;have HB0 := ae hB0;have hpw : p < w.heap.size := h.lt p (.inl rfl);have HH := ae h;refine (wpIn_wide (n := 3)).1 ?_;refine wpIn_rangeFunc_ownH rfl (by omega) (gf := 123) (lb := #[.pointer (some ⟨w.heap.size + 1 + 1 + 1, 0, none⟩)]) rfl trivial (enters_of func123 (by kernel_rfl) rfl)
  (rS Fence.wide 2 trivial rfl (by omega) (w.heap.size + 1 + 1 + 1) AL cL L hLl W0 (by omega) (one_cell hbox).1 h2.L_.rd) belowK_t (belowK_b ai) aj (fun _ => rfl)
  (fun pre W => NoK (k : Int) pre /\ Below W0.heap.size W0 W)
  (fun c pre W => (c = .ret /\ aee w.heap.size (k : Int) pre W) /\ Below w.heap.size w W)
  (OwnFrom.and (ownFrom_pure _ _) (ownFrom_below ai ai))
  (fun c => OwnFrom.and (Own.from (fun s A B row hs hg hr => by obtain ⟨hc, ini, last, e1, e2, e3, e4, e5⟩ := hs; exact ⟨hc, ini, last, e1, e2, e3, fun j v hj => cell_kept (e4 j v hj) hg hr, cell_kept e5 hg hr⟩) _) (ownFrom_below ai (by omega)))
  ⟨fun x hx => absurd hx (by simp), aj⟩
  (fun x a' W => ∃ Bx, W0.heap.size <= Bx /\ W.heap[Bx]? = some (.cells (eM x.2).toArray LwE.t) /\ a' = { tmps := #[.pointer (some ⟨p, 0, none⟩), .int .i64 (k : Int), undef, .pointer (some ⟨w.heap.size, 0, none⟩), .pointer (some ⟨w.heap.size + 1, 0, none⟩), .pointer (some ⟨w.heap.size + 1 + 1, 0, none⟩), .int .i64 0, undef, .pointer (some ⟨Bx, 0, none⟩), .pointer (some ⟨p, 0, none⟩), .int .i64 (k : Int), .int .i64 0, .int .i64 0, .bool false, undef, undef, .pointer (some ⟨p, 0, none⟩), .pointer (some ⟨p, 0, none⟩), .pointer (some ⟨p, 2, none⟩), .slice AL L.length cL, .func (.func 123) #[] #[.pointer (some ⟨w.heap.size + 1 + 1 + 1, 0, none⟩)], .int .i64 (x.1 : Int), .agg (eM x.2).toArray, undef, undef, undef, undef, undef, undef, undef, undef, undef, undef, undef, undef, undef], defers := [] })
  (fun x a' _ X Y row hs hg hr => by
   obtain ⟨Bx, e1, e2, e3⟩ := hs;exact ⟨Bx, e1, (hg.block Bx (aY e2) (fun e => by obtain ⟨_, o, ho, hc⟩ := hr Bx e.symm; rw [e2] at ho; cases ho; cases hc)).trans e2, e3⟩)
  ?assign ?body ?done ?stop
 case assign =>
  rintro l pre x W K ⟨hne, hb⟩ hK;simp only [zw, List.zip_toArray, List.zip_cons_cons, List.zip_nil_right, List.foldl_toArray, List.foldl_cons, List.foldl_nil, List.setIfInBounds_toArray, List.set_cons_succ, List.set_cons_zero];refine wpIn_region_lit ?_;refine dB rfl rfl rfl (lV rfl) ?_;refine kL rfl rfl rfl (nT (a := x.2) rfl rfl rfl) ?_;refine wpListIn_nil ?_;exact hK _ _ ((KeepsOthers.alloc _ _).from _) ((Below.refl _ W).alloc hb.size _) ⟨hne, hb.alloc hb.size _⟩ ⟨W.heap.size, hb.size, heap_alloc_new W _, rfl⟩
 case body =>
  rintro l pre x a' W hl _ ⟨hne, hb⟩ ⟨Bx, hBx, hbx, rfl⟩ hlt;obtain ⟨i, q1, qb⟩ := x;have hn : W.cell? ⟨w.heap.size, 0, none⟩ = some (.int .i64 (k : Int)) := (one_cell (aB HK0 hb)).1;have hk1 := aB HK1 hb;have hk2 := aB HK2 hb;obtain ⟨hx1, hx2⟩ := z2 hbx;have HX2 := ae hx2;have HT := ae (eF hk1);have hO : Only (fun b => b = w.heap.size + 1) W (W.setCells (w.heap.size + 1) 0 (cel qb)) := (Only.refl (fun b => b = w.heap.size + 1) W).setCells (.inl rfl) _ _;have hk2' := hO.keep hk2 (by omega);obtain ⟨c2, f2⟩ := one_cell hk2';have HB := ae hb;have HNE := ae hne;have HK2' := ae hk2';clear hb hne hbx hx2 hk1 hk2 hO hk2';by_cases hq : q1 = (k : Int)
  ·subst hq
   gi_wp2_with (first | (refine dB rfl rfl rfl (ax rfl rfl ab5) ?_) | (refine dB rfl rfl rfl (ax rfl rfl acZ) ?_) | (refine dB rfl rfl rfl (bf rfl rfl HX2.out) ?_) | (refine kL rfl rfl rfl (bD rfl rfl rfl ?ht) ?_; (case ht => exact HT.out)) | fail)
   have hr1 : (W.setCells (w.heap.size + 1) 0 (cel qb)).rangeAt (w.heap.size + 1) 0 (cel qb) := World.rangeAt_setCells_same _ _ _ _ (by rw [aL]; exact HT);have hr2 := jj (b' := w.heap.size + 1 + 1) (i := 0) hr1 (by omega);have hbw := HB0.out.trans (HB.out.mono (by omega));have hb2 := below_setCells hbw (show w.heap.size <= w.heap.size + 1 by omega) (o := 0) (cel qb);exact ⟨((gu _ _ _ _).trans (KeepsOthers.setCell _ _ _)).from _, ⟨rfl, pre, (i, (k : Int), qb), rfl, HNE, rfl, hr2 _, World.cell?_setCell_same' _ _ _ (by rw [c2]; rfl)⟩, hb2.setCell (p := ⟨w.heap.size + 1 + 1, 0, none⟩) (by show _ <= w.heap.size + 1 + 1; omega) _⟩
  ·have hq' : (q1 == (k : Int)) = false := by simpa using hq
   gi_wp2_with (first | (refine dB rfl rfl rfl (ax rfl rfl ab5) ?_) | (refine dB rfl rfl rfl (ax rfl rfl acZ) ?_) | fail)
   exact ⟨KeepsFrom.refl _ _, aj, fun y hy => (List.mem_append.1 hy).elim (HNE.out y) (fun e => by simp at e; subst e; exact hq), by have := HB.out; rwa [hsz0] at this⟩
 case done =>
  rintro D ys W hD rfl ⟨hne, hb⟩ hK;have hrd : eU S L false (k : Int) = S.getD k aF := by
   rw [kQ HE.out];refine sd fun q hq => ?_
   obtain ⟨j, hj, rfl⟩ := List.getElem_of_mem hq;have := hne _ (uo L L.length j (by omega) hj)
   simpa [List.getD, List.getElem?_eq_getElem hj] using this
  have h3 := HH2.out.below hb;obtain ⟨c0, c1, c2, c3⟩ := dR h3.at_;have hn : W.cell? ⟨w.heap.size, 0, none⟩ = some (.int .i64 (k : Int)) := (one_cell (aB HK0 hb)).1;obtain ⟨b, off, hbe, _, hr⟩ := h3.alive.rd.blk hk;injection hbe with hbe;injection hbe with hb1 hb2;subst hb1 hb2;rw [Nat.zero_add] at hr;have HRD0 := hrd;generalize S.getD k aF = x at *;have HRD := ae HRD0;clear HRD0;have hk1 := aB HK1 hb;have hk2 := aB HK2 hb;have HT := ae (eF hk1);have hO : Only (fun b => b = w.heap.size + 1) W (W.setCells (w.heap.size + 1) 0 (cel x)) := (Only.refl (fun b => b = w.heap.size + 1) W).setCells (.inl rfl) _ _;have hk2' := hO.keep hk2 (by omega);have HK2W := ae hk2;have HA := ae c1;have HN := ae hn;have HR := ae hr;have HB := ae hb;have HKD := ae hK;clear hrd h3 c0 c1 c2 c3 hn hr hk1 hk2 hO hk2' hne hb hK;go_wp2_with fail;refine wp_region_still_tail 7 (by kernel_rfl) (by kernel_rfl) ?_;simp only [ac];refine aM rfl (aJ rfl aez) ?_;simp only [aa];refine aM rfl (cE rfl aez) ?_;simp only [aa];refine aM rfl (ax rfl aez ac9) ?_;simp only [aa];refine aM rfl (aE rfl aez (ldB HA)) ?_;simp only [aa];refine aM rfl (aE rfl aez (ldI HN)) ?_;simp only [aa];refine aM rfl (vi rfl aez aez hk) ?_;simp only [aa];refine aM rfl (bf rfl aez HR) ?_;simp only [aa];refine wpStill_nil ?_;change wpList _ _ _ _ _ W.drew;have HTd : W.drew.there (w.heap.size + 1) 0 64 := HT.out;have HTd' := ae HTd;have hk2d : (W.drew.setCells (w.heap.size + 1) 0 (cel x)).heap[w.heap.size + 1 + 1]? = some (.cells #[.int .i64 0] 41) := (ch _ _ _ W.drew _ (by omega)).trans HK2W;obtain ⟨c2, f2⟩ := one_cell hk2d;have HKd := ((gu (w.heap.size + 1) (cel x) 0 W.drew).trans (KeepsOthers.setCell _ ⟨w.heap.size + 1 + 1, 0, none⟩ (.int .i64 0))).same D _ HKD rfl;have HKH := ae HKd;have hr1 : (W.drew.setCells (w.heap.size + 1) 0 (cel x)).rangeAt (w.heap.size + 1) 0 (cel x) := World.rangeAt_setCells_same _ _ _ _ (by rw [aL]; exact HTd);have HR2 := ae (jj (b' := w.heap.size + 1 + 1) (i := 0) hr1 (by omega) (.int .i64 0));have HE2 := ae (World.cell?_setCell_same' (W.drew.setCells (w.heap.size + 1) 0 (cel x)) ⟨w.heap.size + 1 + 1, 0, none⟩ (.int .i64 0) (by rw [c2]; rfl));have hbw := bd (HB0.out.trans (HB.out.mono (by omega)));have HB2 := ae ((below_setCells hbw (show w.heap.size <= w.heap.size + 1 by omega) (o := 0) (cel x)).setCell (p := ⟨w.heap.size + 1 + 1, 0, none⟩) (by show _ <= w.heap.size + 1 + 1; omega) (.int .i64 0));clear hk2d HKd hr1 hbw HTd;go_wp2_with (first | (refine bj rfl (bD rfl rfl rfl ?ht) ?_; (case ht => exact HTd'.out)) | fail);refine ⟨by simp, .inl ⟨_, _, rfl, run_takeDeferred HKH, ?_⟩⟩;refine ⟨.tuple #[blk x, .int .i64 0], mP rfl _ _ _ _ rfl rfl (fun j v hj => cell_kept (HR2.out j v hj) (grownBy_putObj' _ D (.deferred none)) (fun r e => by cases e; exact ⟨_, HKH, rfl⟩)) (cell_kept HE2 (grownBy_putObj' _ D (.deferred none)) (fun r e => by cases e; exact ⟨_, HKH, rfl⟩)), by rw [HRD.out], HB2.out.trans (belowK_b (w := w) ai _ D _ _ (by omega) HKH rfl rfl)⟩
 case stop =>
  rintro D c pre W hD ⟨d, hd, rfl⟩ ⟨⟨rfl, ini, last, e1, e2, e3, e4, e5⟩, hb⟩ hK;have hrd : eU S L false (k : Int) = last.2.2 := by
   rw [kQ HE.out];cases d with
   |zero => simp [cmd] at e1
   |succ d =>
    rw [cmd] at e1;obtain ⟨e6, e7⟩ := List.append_inj' e1 rfl;subst e6;have e8 : (L.length - 1 - d, L.getD (L.length - 1 - d) (0, aF)) = last := by simpa using e7
    subst e8;refine xD (i := L.length - 1 - d) (by omega) e3 fun j h1 h2 => ?_
    exact e2 _ (uo L d j (by omega) h2)
  gi_wp2
  refine ⟨by simp, .inl ⟨_, _, rfl, run_takeDeferred hK, ?_⟩⟩;refine ⟨.tuple #[blk last.2.2, .int .i64 0], mP rfl _ _ _ _ rfl rfl (fun j v hj => cell_kept (e4 j v hj) (grownBy_putObj' _ D (.deferred none)) (fun r e => by cases e; exact ⟨_, hK, rfl⟩)) (cell_kept e5 (grownBy_putObj' _ D (.deferred none)) (fun r e => by cases e; exact ⟨_, hK, rfl⟩)), by rw [hrd], hb.trans (belowK_b (w := w) ai W D _ _ (by omega) hK rfl rfl)⟩
theorem ack (p : Nat) (vS vL : Value) (S : List Blk) (L : List (Int × Blk)) (g : Bool) (n : Int) (w : World) (h : PD w p vS vL S L g) (hLl : L.length <= 1000000) :
  Calls prog 104 #[.pointer (some ⟨p, 0, none⟩), .int .i64 n] w fun e w' => e = .returned (.tuple #[blk (eU S L g n), .int .i64 (cT S g n)]) /\ Below w.heap.size w w' := by
 by_cases he : cT S g n = 0
 ·rcases eW (S := S) (g := g) (n := n) with h1 | h1 | ⟨_, rfl, k, rfl, hk⟩
  ·omega
  ·omega
  ·rw [he];exact vG p k vS vL S L w h hk hLl
 ·exact vC p vS vL S L g n w h he
def Pv (w : World) (F : Nat -> Prop) (p : Nat) (S : List Blk) (L : List (Int × Blk)) (g : Bool) : Prop := ∃ vS vL, F = foot p vS vL /\ PD w p vS vL S L g /\ Fit S L /\ S.length <= 512 /\ L.length <= 1000000
section
variable {w w' : World} {F G : Nat -> Prop} {p : Nat} {S : List Blk} {L : List (Int × Blk)} {g : Bool}
theorem Pv.lt (h : Pv w F p S L g) : ∀ b, F b -> b < w.heap.size := by
 obtain ⟨vS, vL, rfl, h, _⟩ := h;exact h.lt
theorem Pv.only (h : Pv w F p S L g) (k : Only G w w') (hn : ∀ b, F b -> ¬ G b) : Pv w' F p S L g := by
 obtain ⟨vS, vL, rfl, h, hF⟩ := h;exact ⟨vS, vL, rfl, h.only k hn, hF⟩
theorem fH (h : w = w') : Below w.heap.size w w' := by subst h; exact aj
end
def acS : Dev where
 Dv := Pv
 lt := Pv.lt
 only := Pv.only
 fit := fun ⟨_, _, _, h, hF, _⟩ => ⟨hF, h.one⟩
 cap := fun ⟨_, _, _, _, _, hS, _⟩ => hS
 new_ok := fun k w h1 h2 => by
  refine (yt k w h1 h2).mono ?_;rintro e w' ⟨p, vS, he, hr, hb, hf⟩;exact ⟨p, _, he, ⟨vS, _, rfl, hr, Fit.nil _, by rw [List.length_replicate]; exact h2, Nat.zero_le _⟩, hb, hf⟩
 new_no := fun n w h => (yA n w h).mono fun e w' ⟨h1, h2⟩ => ⟨h1, fH h2⟩
 read := fun n ⟨vS, vL, _, h, _, _, hL⟩ => ack _ vS vL _ _ _ n _ h hL
 sure := fun n ⟨vS, vL, _, h, _⟩ => abX _ vS vL _ _ _ n _ h
 write := fun {w F p S L g} n b hL ⟨vS, vL, e0, h, hF, hS, _⟩ => by
  subst e0;refine (zn p vS vL S L g n b w h hL).mono ?_;rintro e w' ⟨he, vL', h1, h2, h3⟩;refine ⟨he, _, ⟨vS, vL', rfl, h1, hF.wr g n b, hS, ?_⟩, h2, fun k hk => ?_⟩
  ·unfold wrL
   split
   ·rw [List.length_append]; simp; omega
   ·omega
  ·rcases hk with e | e | e
   ·exact .inl (.inl e)
   ·exact .inl (.inr (.inl e))
   ·rcases h3 k e with e | e
    ·exact .inl (.inr (.inr e))
    ·exact .inr e
 flush := fun {w F p S L g} ⟨vS, vL, e0, h, hF, hS, hL⟩ => by
  subst e0;cases g
  ·refine (sc p vS vL S L w h hF).mono ?_;rintro e w' ⟨he, h1, h2⟩;refine ⟨he, _, ⟨vS, _, rfl, h1, Fit.nil _, by rw [if_neg (by simp), mw]; exact hS, Nat.zero_le _⟩, h2, fun k hk => ?_⟩;rcases hk with e | e | e
   ·exact .inl (.inl e)
   ·exact .inl (.inr (.inl e))
   ·simp [Value.ownBlock] at e
  ·refine (pq p vS vL S L w h).mono ?_;rintro e w' ⟨he, rfl⟩;exact ⟨he, _, ⟨vS, vL, rfl, h, hF, hS, hL⟩, Only.refl _ _, Grow.same _ _⟩
 fail := fun {w F p S L g} ⟨vS, vL, e0, h, hF, hS, hL⟩ => by
  subst e0;refine (acg p vS vL S L g w h).mono ?_;rintro e w' ⟨he, h1, h2⟩;refine ⟨he, _, ⟨_, _, rfl, h1, Fit.nil _, hS, Nat.zero_le _⟩, h2, fun k hk => ?_⟩;rcases hk with e | e | e
  ·exact .inl (.inl e)
  ·simp [Value.ownBlock] at e
  ·simp [Value.ownBlock] at e
 dead := fun ⟨vS, vL, _, h, _⟩ => (acE _ vS vL _ _ _ _ h).mono fun e w' ⟨h1, h2⟩ => ⟨h1, fH h2⟩
 eh := fun ⟨vS, vL, _, h, _⟩ => (wO _ vS vL _ _ _ _ h).mono fun e w' ⟨h1, h2⟩ => ⟨h1, fH h2⟩
def adr : Array Value := #[.int .i64 0, .slice none 0 0, .slice none 0 0, .bool false]
def NoP (w : World) (v : Value) : Prop := v = .pointer none \/ ∃ p, v = .pointer (some ⟨p, 0, none⟩) /\ w.heap[p]? = some (.cells adr 125)
theorem abW {w : World} {v : Value} (h : NoP w v) : Calls prog 80 #[v] w fun e w' => e = .returned (.bool false) /\ w = w' := by
 rcases h with rfl | ⟨p, rfl, h⟩
 ·go_enter func80, ntmps80;go_wp2;go_ret;exact ⟨rfl, rfl⟩
 ·obtain ⟨c0, c1, c2, c3⟩ := dR h;go_enter func80, ntmps80;go_wp2;go_ret;exact ⟨rfl, rfl⟩
theorem wG {w : World} {v : Value} (h : NoP w v) : Calls prog 112 #[v] w fun e w' => e = .returned (.int .i64 0) /\ Below w.heap.size w w' := by
 go_enter func112, ntmps112;go_wp2_with fail;refine (abW h).mono ?_;rintro e w1 ⟨rfl, rfl⟩;go_wp2_with fail;go_ret;exact ⟨rfl, aj⟩
end Go.Proofs.YtehefifamaofkaaGreatDoor
