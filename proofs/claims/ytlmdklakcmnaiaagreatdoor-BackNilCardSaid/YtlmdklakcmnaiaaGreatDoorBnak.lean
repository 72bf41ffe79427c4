import Derived.Maps.OwnSet
import Derived.Test.YtlmdklakcmnaiaaGreatDoorBnaj
namespace Go.Proofs.YtlmdklakcmnaiaaGreatDoor
set_option maxHeartbeats 8000000
open Go.Proofs.Tryz
open Go.RowKit
open Go.Maps (Keyed)
set_option linter.unusedVariables false
set_option linter.unusedSimpArgs false
set_option maxRecDepth 100000
def ptO : Option Nat -> Value
 |none => .pointer none
 |some b => .pointer (some ⟨b, 0, none⟩)
def ptD : Option Nat -> DataW Unit
 |none => .nil
 |some b => .lit (.int .i64 (b : Int))
def ptR : Value -> Option (DataW Unit × List MemPlace)
 |.pointer none => some (.nil, [])
 |.pointer (some ⟨b, 0, none⟩) => some (.lit (.int .i64 (b : Int)), [])
 |_ => none
theorem acX (m : Option Nat) : ptR (ptO m) = some (ptD m, []) := by cases m <;> rfl
theorem yo {v : Value} {m : Option Nat} {ps : List MemPlace} (h : ptR v = some (ptD m, ps)) : v = ptO m := by
 unfold ptR at h
 split at h
 ·cases m with
  |none => rfl
  |some b => simp [ptD] at h
 ·rename_i b
  cases m with
  |none => simp [ptD] at h
  |some b' =>
   simp [ptD] at h;have : b = b' := by omega
   subst this; rfl
 ·cases h
theorem fo : Keyed prog 3 := Maps.int_keyed underlying3
theorem qf {k : Int} (hw : (Lit.int .i64 k).wf = true) : keyOf prog 3 (.int .i64 k) = some (.int .i64 k) := Maps.keyOf_int_mk underlying3 hw
theorem aiN (w : World) : (zeroValue 119).run prog w = .ok (.pointer none) w := by kernel_rfl
def dB (w : World) (b N : Nat) (M : Int -> Option Nat) : Prop :=
 ∃ D : DataW Unit, w.ownsMap prog 3 ptR b N D /\ Maps.size D = N /\ ∀ k, (Lit.int .i64 k).wf = true -> D.atKey (.int .i64 k) .nil = ptD (M k) /\ Maps.has D (.int .i64 k) = (M k).isSome
theorem lw {w : World} {b n : Nat} {D : DataW Unit} (h : w.ownsMap prog 3 ptR b n D) : w.ownsMap prog 3 ptR b (Maps.size D) D := by
 obtain ⟨es, clock, hb, F, hs, rfl⟩ := h;exact ⟨es, clock, hb, F, by simp [Maps.size, length_sorted], rfl⟩
section
variable {w w' : World} {b N : Nat} {M : Int -> Option Nat} {k : Int}
theorem dB.kept (h : dB w b N M) (hk : ∀ es c, w.heap[b]? = some (.map es c) -> w'.heap[b]? = some (.map es c)) : dB w' b N M := by
 obtain ⟨D, ⟨es, c, hb, r⟩, h2⟩ := h;exact ⟨D, ⟨es, c, hk es c hb, r⟩, h2⟩
theorem dB.obj (h : dB w b N M) : ∃ es c, w.heap[b]? = some (.map es c) := by
 obtain ⟨D, ⟨es, c, hb, r⟩, h2⟩ := h;exact ⟨es, c, hb⟩
theorem dB.made (w : World) : dB (w.alloc (.map #[] 0)) w.heap.size 0 (fun _ => none) :=
 ⟨.map [], World.ownsMap_made _ _ _ _, rfl, fun k _ => ⟨rfl, rfl⟩⟩
theorem dB.look (h : dB w b N M) (hw : (Lit.int .i64 k).wf = true) : (Instr.lookup 146 (.map (some b)) (.int .i64 k) false).run prog w = .ok (ptO (M k)) w := by
 obtain ⟨D, h1, _, h3⟩ := h;obtain ⟨v, ps, hr, hv⟩ := h1.lookup fo underlying146 (aiN w) (zd := .nil) (zp := []) rfl (qf hw);rw [(h3 k hw).1] at hv;rw [hr, yo hv]
theorem dB.len (h : dB w b N M) (ty : TypeId) : (Builtin.len_ #[146] ty #[.map (some b)]).run prog w = .ok (.int .i64 (N : Int)) w := by
 obtain ⟨D, h1, h2, _⟩ := h;rw [h1.len underlying146 ty, h2]
theorem ju {j k : Int} (h : j ≠ k) : Lit.int .i64 j ≠ Lit.int .i64 k := fun e => h (by injection e)
theorem dB.store (h : dB w b N M) (hw : (Lit.int .i64 k).wf = true) (hn : M k = none) (hN : N < maxLen) (q : Nat) :
  ∃ w', (Instr.mapUpdate 146 (.map (some b)) (.int .i64 k) (.pointer (some ⟨q, 0, none⟩))).run prog w = .ok () w' /\ dB w' b (N + 1) (fun j => if j = k then some q else M j) /\ w.mapTurned w' b := by
 obtain ⟨D, h1, h2, h3⟩ := h;obtain ⟨w', hr, ho, ht⟩ := h1.store fo underlying146 hN (qf hw) (acX (some q));have hT := h1.tidy fo;have hk : WideAt.IsKeyLit (Lit.int .i64 k) := fo.key (qf hw);have hs : Maps.size (D.put (.int .i64 k) (ptD (some q))) = N + 1 := by
  rw [Maps.size_put hT, (h3 k hw).2, hn, h2]; rfl
 refine ⟨w', hr, ⟨_, by rw [<- hs]; exact lw ho, hs, fun j hj => ?_⟩, ht⟩;by_cases e : j = k
 ·subst e;dsimp only;rw [if_pos rfl, Maps.atKey_put_same hT.isMap hk, Maps.has_put_same hT.isMap hk];exact ⟨rfl, rfl⟩
 ·dsimp only;rw [if_neg e, Maps.atKey_put_other (ju e), Maps.has_put_other (ju e)];exact h3 j hj
theorem dB.del (h : dB w b (N + 1) M) (hw : (Lit.int .i64 k).wf = true) (hn : (M k).isSome = true) (ty : TypeId) :
  ∃ w', (Builtin.delete_ #[146, 3] ty #[.map (some b), .int .i64 k]).run prog w = .ok (.tuple #[]) w' /\ dB w' b N (fun j => if j = k then none else M j) /\ w.mapTurned w' b := by
 obtain ⟨D, h1, h2, h3⟩ := h;obtain ⟨w', hr, ho, ht⟩ := h1.drop fo underlying146 (qf hw) ty;have hT := h1.tidy fo;have hs : Maps.size (D.del (.int .i64 k)) = N := by
  have := Maps.size_del (k := .int .i64 k) hT;rw [(h3 k hw).2, hn, h2] at this
  simpa using this
 refine ⟨w', hr, ⟨_, by rw [<- hs]; exact lw ho, hs, fun j hj => ?_⟩, ht⟩;by_cases e : j = k
 ·subst e;dsimp only;rw [if_pos rfl, Maps.atKey_del_same, Maps.has_del_same];exact ⟨rfl, rfl⟩
 ·dsimp only;rw [if_neg e, Maps.atKey_del_other (ju e), Maps.has_del_other (ju e)];exact h3 j hj
end
section
variable {ρ : Operand -> Value} {o : Oper} {x y z : Operand} {w w' : World} {t r te : TypeId} {b N : Nat} {M : Int -> Option Nat} {p q s v : Value} {ad a1 a2 : Addr}
theorem dl (ho : o.op = .lookup t x y false) (hx : ρ x = p) (hy : ρ y = q) (h : (Instr.lookup t p q false).run prog w = .ok v w) : (execOp ρ o).run prog w = .ok (.value v) w := by
 unfold execOp;simp only [ho, hx, hy, Sem.run_bind, h, Result.andThen_ok, Sem.run_pure]
theorem iW (ho : o.op = .mapUpdate t x y z) (hx : ρ x = p) (hy : ρ y = q) (hz : ρ z = s) (h : (Instr.mapUpdate t p q s).run prog w = .ok () w') : (execOp ρ o).run prog w = .ok .skip w' := by
 unfold execOp;simp only [ho, hx, hy, hz, Sem.run_bind, h, Result.andThen_ok, Sem.run_pure]
theorem oo (ho : o.op = .makeMap t none) : (execOp ρ o).run prog w = .ok (.value (.map (some w.heap.size))) (w.alloc (.map #[] 0)) := by
 unfold execOp;simp [ho, run_makeMap, Result.andThen]
theorem mx (ho : o.op = .call { callee := .builtin .len, args := #[x], argTypes := #[146] }) (hx : ρ x = .map (some b)) (h : dB w b N M) : (execOp ρ o).run prog w = .ok (.value (.int .i64 (N : Int))) w := by
 simp [execOp, ho, resolve, invoke, builtin, hx, h.len, Result.andThen]
theorem tk {t1 t2 : TypeId} (ho : o.op = .call { callee := .builtin .delete, args := #[x, y], argTypes := #[t1, t2] }) (hx : ρ x = p) (hy : ρ y = q) (h : (Builtin.delete_ #[t1, t2] o.type #[p, q]).run prog w = .ok v w') : (execOp ρ o).run prog w = .ok (.value v) w' := by
 simp [execOp, ho, resolve, invoke, builtin, hx, hy, h, Result.andThen]
theorem jp {ad : Addr} {a : Option Addr} (h : w.cell? ad = some (.pointer a)) : (Instr.loadAt 119 (.pointer (some ad))).run prog w = .ok (.pointer a) w := by simp [go_sem, h]
theorem pu {ad : Addr} {a : Option Nat} (h : w.cell? ad = some (.map a)) : (Instr.loadAt 146 (.pointer (some ad))).run prog w = .ok (.map a) w := by simp [go_sem, h]
theorem sO {ad : Addr} {a : Bool} (h : w.cell? ad = some (.bool a)) : (Instr.loadAt 4 (.pointer (some ad))).run prog w = .ok (.bool a) w := by simp [go_sem, h]
theorem aan {ad : Addr} {u : Value} {a : Option Addr} (h : w.cell? ad = some u) (hf : w.frozen? ad = false) : (Instr.storeAt 119 (.pointer (some ad)) (.pointer a)).run prog w = .ok () (w.setCell ad (.pointer a)) := by simp [go_sem, h, hf]
theorem aiu {ad : Addr} {u : Value} {a : Bool} (h : w.cell? ad = some u) (hf : w.frozen? ad = false) : (Instr.storeAt 4 (.pointer (some ad)) (.bool a)).run prog w = .ok () (w.setCell ad (.bool a)) := by simp [go_sem, h, hf]
theorem abG : (Instr.fieldAt 123 (.pointer (some ⟨b, 0, none⟩)) 0).run prog w = .ok (.pointer (some ⟨b, 0, none⟩)) w := by kernel_rfl
theorem xX : (Instr.fieldAt 123 (.pointer (some ⟨b, 0, none⟩)) 1).run prog w = .ok (.pointer (some ⟨b, 1, none⟩)) w := by kernel_rfl
theorem m8 : (Instr.fieldAt 123 (.pointer (some ⟨b, 0, none⟩)) 2).run prog w = .ok (.pointer (some ⟨b, 2, none⟩)) w := by kernel_rfl
theorem lZ : (Instr.fieldAt 123 (.pointer (some ⟨b, 0, none⟩)) 3).run prog w = .ok (.pointer (some ⟨b, 3, none⟩)) w := by kernel_rfl
theorem acV : (Instr.fieldAt 148 (.pointer (some ⟨b, 0, none⟩)) 0).run prog w = .ok (.pointer (some ⟨b, 0, none⟩)) w := by kernel_rfl
theorem m0 : (Instr.fieldAt 148 (.pointer (some ⟨b, 0, none⟩)) 1).run prog w = .ok (.pointer (some ⟨b, 1, none⟩)) w := by kernel_rfl
theorem jX : (Instr.fieldAt 148 (.pointer (some ⟨b, 0, none⟩)) 2).run prog w = .ok (.pointer (some ⟨b, 2, none⟩)) w := by kernel_rfl
end
theorem afL : ∃ j, prog.info? 123 = some j /\ j.size ≠ 0 := by
 have h : (prog.info? 123).map (·.size) = some 4 := by kernel_rfl
 cases hq : prog.info? 123 with
 |none => rw [hq] at h; cases h
 |some j => rw [hq] at h; exact ⟨j, rfl, by simp at h; omega⟩
def qe (x : Ky) (u v : Value) : List Value := [.int .i64 x.n, .bool x.pin, u, v]
def dr (w : World) (b : Nat) (x : Ky) (u v : Value) : Prop := w.heap[b]? = some (.cells (qe x u v).toArray 123 (0, 0))
section
variable {w w' : World} {b q : Nat} {x : Ky} {u v : Value}
theorem dr.c0 (h : dr w b x u v) : w.cell? ⟨b, 0, none⟩ = some (.int .i64 x.n) := (aP h) 0 _ rfl
theorem dr.c1 (h : dr w b x u v) : w.cell? ⟨b, 1, none⟩ = some (.bool x.pin) := (aP h) 1 _ rfl
theorem dr.c2 (h : dr w b x u v) : w.cell? ⟨b, 2, none⟩ = some u := (aP h) 2 _ rfl
theorem dr.c3 (h : dr w b x u v) : w.cell? ⟨b, 3, none⟩ = some v := (aP h) 3 _ rfl
theorem dr.fz (h : dr w b x u v) (j : Nat) : w.frozen? ⟨b, j, none⟩ = false := frozen_of_row w b j _ _ h
theorem dr.s1 (h : dr w b x u v) (is : Bool) : dr (w.setCell ⟨b, 1, none⟩ (.bool is)) b ⟨x.n, is⟩ u v := by
 have := heap_setCell_same w b 1 _ _ (.bool is) h
 simpa [dr, qe] using this
theorem dr.s2 (h : dr w b x u v) (s : Value) : dr (w.setCell ⟨b, 2, none⟩ s) b x s v := by
 have := heap_setCell_same w b 2 _ _ s h
 simpa [dr, qe] using this
theorem dr.s3 (h : dr w b x u v) (s : Value) : dr (w.setCell ⟨b, 3, none⟩ s) b x u s := by
 have := heap_setCell_same w b 3 _ _ s h
 simpa [dr, qe] using this
theorem dr.other (h : dr w b x u v) {p : Addr} (hp : b ≠ p.block) (s : Value) : dr (w.setCell p s) b x u v := by
 unfold dr;rw [heap_setCell_other w p b s hp];exact h
end
def ptB (b : Nat) : Value := .pointer (some ⟨b, 0, none⟩)
def Lnk (w : World) (ky : Nat -> Ky) (pv nx : Nat -> Nat) (S : List Nat) : Prop := ∀ b ∈ S, dr w b (ky b) (ptB (pv b)) (ptB (nx b))
section
variable {w w' : World} {ky : Nat -> Ky} {pv nx : Nat -> Nat} {S S' : List Nat} {x y : Nat}
theorem Lnk.sub (h : Lnk w ky pv nx S) (hs : ∀ b ∈ S', b ∈ S) : Lnk w ky pv nx S' := fun b hb => h b (hs b hb)
theorem Lnk.s2 (h : Lnk w ky pv nx S) (y : Nat) (hx : x ∈ S) : Lnk (w.setCell ⟨x, 2, none⟩ (ptB y)) ky (c8 pv x y) nx S := fun b hb => by
 by_cases e : b = x
 ·subst e; rw [cU]; exact (h b hb).s2 _
 ·rw [bZ _ _ e]; exact (h b hb).other e _
theorem Lnk.s3 (h : Lnk w ky pv nx S) (y : Nat) (hx : x ∈ S) : Lnk (w.setCell ⟨x, 3, none⟩ (ptB y)) ky pv (c8 nx x y) S := fun b hb => by
 by_cases e : b = x
 ·subst e; rw [cU]; exact (h b hb).s3 _
 ·rw [bZ _ _ e]; exact (h b hb).other e _
theorem Lnk.s1 (h : Lnk w ky pv nx S) (is : Bool) (hx : x ∈ S) : Lnk (w.setCell ⟨x, 1, none⟩ (.bool is)) (c8 ky x ⟨(ky x).n, is⟩) pv nx S := fun b hb => by
 by_cases e : b = x
 ·subst e; rw [cU]; exact (h b hb).s1 _
 ·rw [bZ _ _ e]; exact (h b hb).other e _
theorem Lnk.add (h : Lnk w ky pv nx S) (hx : dr w x (ky x) (ptB (pv x)) (ptB (nx x))) : Lnk w ky pv nx (x :: S) := fun b hb => by
 rcases List.mem_cons.1 hb with rfl | hb
 ·exact hx
 ·exact h b hb
theorem Lnk.keep (h : Lnk w ky pv nx S) (hk : ∀ (b : Nat) (cs : Array Value), w.heap[b]? = some (Obj.cells cs 123 (0, 0)) -> w'.heap[b]? = some (Obj.cells cs 123 (0, 0))) : Lnk w' ky pv nx S := fun b hb => hk b _ (h b hb)
end
def tm : Obj -> Prop
 |.map _ _ => True
 |.cells _ t _ => t = 123 \/ t = 148
 |_ => False
section
variable {P : Program} {ops : Array Oper} {Q : Exit -> Act -> World -> Prop} {md : Region.Mode} {S T : World -> Prop} {z : Nat}
def gw (S T : World -> Prop) (z : Nat) (listed : Array Bool) (w : World) : Prop := (listed.getD z false = false -> S w) /\ (listed.getD z false = true -> T w)
def eJ (P : Program) (md : Region.Mode) (ops : Array Oper) (Q : Exit -> Act -> World -> Prop) (S T : World -> Prop) (z : Nat) : Nat -> Array Bool -> Act -> World -> Prop
 |0, listed, a, w => Region.ready md ops listed = [] /\ Q .normal a w
 |fuel + 1, listed, a, w =>
  (Region.ready md ops listed = [] -> Q .normal a w) /\
  ∀ i ∈ Region.ready md ops listed, wpOp P ops Q i (fun a' w' => gw S T z (listed.setIfInBounds i true) w' /\ eJ P md ops Q S T z fuel (listed.setIfInBounds i true) a' w') a w
theorem oU : ∀ (fuel : Nat) (listed : Array Bool) (a : Act) (w : World), eJ P md ops Q S T z fuel listed a w -> wpAny P md ops Q fuel listed a w
 |0, _, _, _, h => h
 |fuel + 1, _, _, _, h => ⟨h.1, fun i hi => wpOp_mono (fun a' w' h' => oU fuel _ a' w' h'.2) (h.2 i hi)⟩
theorem iI {l : Array Bool} {i j : Nat} (h : j ≠ i) : (l.setIfInBounds i true).getD j false = l.getD j false := by
 by_cases hj : j < l.size
 ·simp [hj, Array.getElem_setIfInBounds, Ne.symm h]
 ·simp [Array.getElem?_eq_none (Nat.le_of_not_lt hj), hj]
theorem qY {listed : Array Bool} {w : World} {i : Nat} (h : gw S T z listed w) (hi : i ≠ z) : gw S T z (listed.setIfInBounds i true) w := by
 unfold gw at *;rw [iI (Ne.symm hi)];exact h
theorem abX {listed : Array Bool} {w : World} {i : Nat} (h : gw S T z (listed.setIfInBounds i true) w) (hi : i ≠ z) : gw S T z listed w := by
 unfold gw at *;rw [iI (Ne.symm hi)] at h;exact h
theorem lS {i : Nat} {oi : Oper} {v : Value} (hi : ops[i]? = some oi) (hsel : ∀ (j : Nat) (o : Oper) cs b, ops[j]? = some o -> o.op ≠ .select cs b)
  (hQ : ∀ c a w, Q (.panic c) (a.put oi.dst v) w -> Q (.panic c) a w) (hiz : i ≠ z) {U : World -> Prop} (hS : ∀ w, S w -> U w) (hT : iF md ops z i = true \/ ∀ w, T w -> U w) :
  ∀ (fuel : Nat) (listed : Array Bool) (a : Act) (w : World),
   (∀ j oj, ops[j]? = some oj -> j ≠ i -> listed.getD j true = false -> (∀ e ∈ oj.after, Region.binds md e = true -> e.on ≠ i) -> oi.apart ops oj = true) ->
   i ∈ Region.ready md ops listed -> (iF md ops z i = true -> listed.getD z false = false) -> YieldsIf P ops U oi v a -> gw S T z listed w ->
   eJ P md ops Q S T z fuel (listed.setIfInBounds i true) (a.put oi.dst v) w -> eJ P md ops Q S T z (fuel + 1) listed a w := by
 intro fuel;have key : ∀ (listed : Array Bool) (w : World), (iF md ops z i = true -> listed.getD z false = false) -> gw S T z listed w -> U w := fun listed w hz hc => by
  by_cases hl : listed.getD z false = false
  ·exact hS w (hc.1 hl)
  ·rcases hT with h | h
   ·exact absurd (hz h) hl
   ·exact h w (hc.2 (by simpa using hl))
 induction fuel with
 |zero =>
  intro listed a w _ hr hz hy hc H;refine ⟨fun h => (by rw [h] at hr; cases hr), fun j hj => ?_⟩;by_cases hji : j = i
  ·subst hji; exact hy.wpOp hi (key listed w hz hc) ⟨qY hc hiz, H⟩
  ·have := ready_mono hj hji;rw [H.1] at this;cases this
 |succ fuel ih =>
  intro listed a w hfree hr hz hy hc H;refine ⟨fun h => (by rw [h] at hr; cases hr), fun j hj => ?_⟩;by_cases hji : j = i
  ·subst hji; exact hy.wpOp hi (key listed w hz hc) ⟨qY hc hiz, H⟩
  ·have h1 := H.2 j (ready_mono hj hji);obtain ⟨hjun, oj, hoj, hall⟩ := mem_ready.1 hj;have hnot : ∀ e ∈ oj.after, Region.binds md e = true -> e.on ≠ i := fun e he hb heq => by
    have h1 := hall e he hb;rw [heq, xO (mem_ready.1 hr).1] at h1;cases h1
   have h2 := wpOp_putIf hoj (hfree j oj hoj hji hjun hnot) (fun cs b => hsel i oi cs b hi) (fun cs b => hsel j oj cs b hoj) hQ hy h1;have hfree' : ∀ k ok, ops[k]? = some ok -> k ≠ i -> (listed.setIfInBounds j true).getD k true = false ->
     (∀ e ∈ ok.after, Region.binds md e = true -> e.on ≠ i) -> oi.apart ops ok = true := fun k ok hk hki hun hno => by
    refine hfree k ok hk hki ?_ hno;by_cases hjk : j = k
    ·subst hjk; exact hjun
    ·rw [getD_set_ne true hjk] at hun; exact hun
   have hz' : iF md ops z i = true -> (listed.setIfInBounds j true).getD z false = false := fun hw => by
    have hjz : j ≠ z := fun e => by
     subst e;exact o8 hw (xO (mem_ready.1 hr).1) hj
    rw [iI (Ne.symm hjz)];exact hz hw
   refine wpOp_mono (fun a' w' h3 => ?_) h2;have hc' : gw S T z (listed.setIfInBounds j true) w' := by
    have h4 := h3.2.1;rw [Array.setIfInBounds_comm _ _ (Ne.symm hji)] at h4;exact abX h4 hiz
   refine ⟨hc', ih (listed.setIfInBounds j true) a' w' hfree' (ready_mono hr (Ne.symm hji)) hz' h3.1 hc' ?_⟩;rw [Array.setIfInBounds_comm _ _ hji];exact h3.2.2
theorem om {rs : List Nat} {fuel : Nat} {listed : Array Bool} {a : Act} {w : World} (hr : Region.ready md ops listed = rs) (hne : rs ≠ [])
  (h : ∀ i ∈ rs, wpOp P ops Q i (fun a' w' => gw S T z (listed.setIfInBounds i true) w' /\ eJ P md ops Q S T z fuel (listed.setIfInBounds i true) a' w') a w) : eJ P md ops Q S T z (fuel + 1) listed a w :=
 ⟨fun h0 => absurd (hr ▸ h0) hne, hr ▸ h⟩
theorem t7 {listed : Array Bool} {a : Act} {w : World} (hr : Region.ready md ops listed = []) (h : Q .normal a w) :
  ∀ fuel, eJ P md ops Q S T z fuel listed a w
 |0 => ⟨hr, h⟩
 |_ + 1 => ⟨fun _ => h, by rw [hr]; simp⟩
theorem qd {id : Nat} {a : Act} {w : World} (S T : World -> Prop) (z : Nat) (hm : P.follows .mixedOrders = true)
  (h : eJ P .any ops Q S T z ops.size (Array.replicate ops.size false) a w.drew) : (Code.region id ops true).wp P Q a w :=
 wp_region_any hm (oU _ _ _ _ h)
end
section
variable {P : Program} {md : Region.Mode} {l : List Oper} {Q : Exit -> Act -> World -> Prop} {S T : World -> Prop} {z fuel : Nat} {listed : Array Bool} {a : Act} {w w' : World} {o : Oper} {v : Value}
theorem jr (i : Nat) (hi : l[i]? = some o) (hs : Region.noSelect l.toArray = true) (hf : Region.free md l.toArray listed i = true) (hr : (Region.ready md l.toArray listed).contains i = true) (hiz : i ≠ z) (hwz : iF md l.toArray z i = true) (hlz : listed.getD z false = false)
  (hw : Region.wanted o (yielded l.toArray a.tmps) = true) (h : ∀ w, S w -> (execOp a.eval o).run P w = .ok (.value v) w) (hQ : ∀ c a w, Q (.panic c) (a.put o.dst v) w -> Q (.panic c) a w) (hS : S w)
  (hk : eJ P md l.toArray Q S T z fuel (listed.setIfInBounds i true) (a.put o.dst v) w) : eJ P md l.toArray Q S T z (fuel + 1) listed a w :=
 lS (by simpa using hi) (Region.noSelect_spec hs) hQ hiz (U := S) (fun _ h => h) (.inl hwz) fuel listed a w (Region.free_spec (by simpa using hi) hf) (by simpa using hr) (fun _ => hlz) (.inl ⟨hw, h⟩) ⟨fun _ => hS, fun e => absurd (e.symm.trans hlz) (by decide)⟩ hk
theorem ajz (i : Nat) (hi : l[i]? = some o) (h : ∀ w, S w -> (execOp a.eval o).run P w = .ok (.value v) w) (hS : S w) (hk : eJ P md l.toArray Q S T z fuel (listed.setIfInBounds i true) (a.put o.dst v) w) (hs : Region.noSelect l.toArray = true := by kernel_rfl) (hf : Region.free md l.toArray listed i = true := by kernel_rfl) (hr : (Region.ready md l.toArray listed).contains i = true := by kernel_rfl) (hiz : i ≠ z := by decide) (hwz : iF md l.toArray z i = true := by kernel_rfl) (hlz : listed.getD z false = false := by kernel_rfl) (hw : Region.wanted o (yielded l.toArray a.tmps) = true := by exact rfl) (hQ : ∀ c a w, Q (.panic c) (a.put o.dst v) w -> Q (.panic c) a w := by exact fun _ _ _ h => h) : eJ P md l.toArray Q S T z (fuel + 1) listed a w := jr i hi hs hf hr hiz hwz hlz hw h hQ hS hk
theorem ajG {l0 l1 : List Value} {ds0 : List Deferred} {i0 : Nat} (i : Nat) (hi : l[i]? = some o) (h : ∀ w, S w -> (execOp (Act.mk l0.toArray ds0).eval o).run P w = .ok (.value v) w) (hS : S w) (hk : eJ P md l.toArray Q S T z fuel (listed.setIfInBounds i true) ⟨l1.toArray, ds0⟩ w) (hd : o.dst = some i0 := by exact rfl) (hl : l0.set i0 v = l1 := by simp only [ai] <;> rfl) (hs : Region.noSelect l.toArray = true := by kernel_rfl) (hf : Region.free md l.toArray listed i = true := by kernel_rfl) (hr : (Region.ready md l.toArray listed).contains i = true := by kernel_rfl) (hiz : i ≠ z := by decide) (hwz : iF md l.toArray z i = true := by kernel_rfl) (hlz : listed.getD z false = false := by kernel_rfl) (hw : Region.wanted o (yielded l.toArray l0.toArray) = true := by exact rfl) (hQ : ∀ c a w, Q (.panic c) (a.put o.dst v) w -> Q (.panic c) a w := by exact fun _ _ _ h => h) : eJ P md l.toArray Q S T z (fuel + 1) listed ⟨l0.toArray, ds0⟩ w := ajz i hi h hS (by have e : Act.put (Act.mk l0.toArray ds0) o.dst v = ⟨l1.toArray, ds0⟩ := (by rw [hd, <- hl]; show Act.mk (l0.toArray.setIfInBounds i0 v) ds0 = _; rw [List.setIfInBounds_toArray]); rw [e]; exact hk) hs hf hr hiz hwz hlz hw hQ
theorem lD (i : Nat) (hi : l[i]? = some o) (hs : Region.noSelect l.toArray = true) (hf : Region.free md l.toArray listed i = true) (hr : (Region.ready md l.toArray listed).contains i = true) (hiz : i ≠ z) (hwz : iF md l.toArray z i = false)
  (hw : Region.wanted o (yielded l.toArray a.tmps) = true) (h : ∀ w, S w \/ T w -> (execOp a.eval o).run P w = .ok (.value v) w) (hQ : ∀ c a w, Q (.panic c) (a.put o.dst v) w -> Q (.panic c) a w) (hc : gw S T z listed w)
  (hk : eJ P md l.toArray Q S T z fuel (listed.setIfInBounds i true) (a.put o.dst v) w) : eJ P md l.toArray Q S T z (fuel + 1) listed a w :=
 lS (by simpa using hi) (Region.noSelect_spec hs) hQ hiz (U := fun w => S w \/ T w) (fun _ h => .inl h) (.inr fun _ h => .inr h) fuel listed a w (Region.free_spec (by simpa using hi) hf) (by simpa using hr) (fun e => by rw [hwz] at e; cases e) (.inl ⟨hw, h⟩) hc hk
theorem ajA (i : Nat) (hi : l[i]? = some o) (h : ∀ w, S w \/ T w -> (execOp a.eval o).run P w = .ok (.value v) w) (hc : gw S T z listed w) (hk : eJ P md l.toArray Q S T z fuel (listed.setIfInBounds i true) (a.put o.dst v) w) (hs : Region.noSelect l.toArray = true := by kernel_rfl) (hf : Region.free md l.toArray listed i = true := by kernel_rfl) (hr : (Region.ready md l.toArray listed).contains i = true := by kernel_rfl) (hiz : i ≠ z := by decide) (hwz : iF md l.toArray z i = false := by kernel_rfl) (hw : Region.wanted o (yielded l.toArray a.tmps) = true := by exact rfl) (hQ : ∀ c a w, Q (.panic c) (a.put o.dst v) w -> Q (.panic c) a w := by exact fun _ _ _ h => h) : eJ P md l.toArray Q S T z (fuel + 1) listed a w := lD i hi hs hf hr hiz hwz hw h hQ hc hk
theorem ajH {l0 l1 : List Value} {ds0 : List Deferred} {i0 : Nat} (i : Nat) (hi : l[i]? = some o) (h : ∀ w, S w \/ T w -> (execOp (Act.mk l0.toArray ds0).eval o).run P w = .ok (.value v) w) (hc : gw S T z listed w) (hk : eJ P md l.toArray Q S T z fuel (listed.setIfInBounds i true) ⟨l1.toArray, ds0⟩ w) (hd : o.dst = some i0 := by exact rfl) (hl : l0.set i0 v = l1 := by simp only [ai] <;> rfl) (hs : Region.noSelect l.toArray = true := by kernel_rfl) (hf : Region.free md l.toArray listed i = true := by kernel_rfl) (hr : (Region.ready md l.toArray listed).contains i = true := by kernel_rfl) (hiz : i ≠ z := by decide) (hwz : iF md l.toArray z i = false := by kernel_rfl) (hw : Region.wanted o (yielded l.toArray l0.toArray) = true := by exact rfl) (hQ : ∀ c a w, Q (.panic c) (a.put o.dst v) w -> Q (.panic c) a w := by exact fun _ _ _ h => h) : eJ P md l.toArray Q S T z (fuel + 1) listed ⟨l0.toArray, ds0⟩ w := ajA i hi h hc (by have e : Act.put (Act.mk l0.toArray ds0) o.dst v = ⟨l1.toArray, ds0⟩ := (by rw [hd, <- hl]; show Act.mk (l0.toArray.setIfInBounds i0 v) ds0 = _; rw [List.setIfInBounds_toArray]); rw [e]; exact hk) hs hf hr hiz hwz hw hQ
theorem uN (i : Nat) (hi : l[i]? = some o) (hr : Region.ready md l.toArray listed = [i]) (hw : Region.wanted o (yielded l.toArray a.tmps) = true) (h : (execOp a.eval o).run P w = .ok (.value v) w')
  (hc : gw S T z (listed.setIfInBounds i true) w') (hk : eJ P md l.toArray Q S T z fuel (listed.setIfInBounds i true) (a.put o.dst v) w') : eJ P md l.toArray Q S T z (fuel + 1) listed a w :=
 om hr (by simp) fun j hj => by
  obtain rfl : j = i := by simpa using hj
  unfold wpOp;simp only [List.getElem?_toArray, hi, hw, if_true];refine .inl ?_;unfold Oper.wp;rw [h];exact ⟨hc, hk⟩
theorem xt (i : Nat) (hi : l[i]? = some o) (hr : Region.ready md l.toArray listed = [i]) (hw : Region.wanted o (yielded l.toArray a.tmps) = true) (h : (execOp a.eval o).run P w = .ok .skip w')
  (hc : gw S T z (listed.setIfInBounds i true) w') (hk : eJ P md l.toArray Q S T z fuel (listed.setIfInBounds i true) (a.put o.dst undef) w') : eJ P md l.toArray Q S T z (fuel + 1) listed a w :=
 om hr (by simp) fun j hj => by
  obtain rfl : j = i := by simpa using hj
  unfold wpOp;simp only [List.getElem?_toArray, hi, hw, if_true];refine .inl ?_;unfold Oper.wp;rw [h];exact ⟨hc, hk⟩
theorem iP (hl : listed.getD z false = false) (h : S w) : gw S T z listed w := ⟨fun _ => h, fun e => absurd (e.symm.trans hl) (by decide)⟩
theorem jj (hl : listed.getD z false = true) (h : T w) : gw S T z listed w := ⟨fun e => absurd (e.symm.trans hl) (by decide), fun _ => h⟩
end
def ng : Obj -> Prop
 |.cells _ t _ => t = 123
 |_ => False
theorem yd (o : Obj) (h : ng o) : tm o := by
 cases o <;> first | exact h.elim | exact .inl h
def bS (I : Obj -> Prop) (F : Nat -> Prop) (w w' : World) : Prop := Only (fun b => F b /\ ∀ o, w.heap[b]? = some o -> I o) w w'
section
variable {I J : Obj -> Prop} {F : Nat -> Prop} {w w1 w2 : World} {o : Obj} {b : Nat}
theorem bS.refl (I : Obj -> Prop) (F : Nat -> Prop) (w : World) : bS I F w w := Only.refl _ _
theorem bS.size (h : bS I F w w1) : w.heap.size <= w1.heap.size := Only.size h
theorem bS.only (h : bS I F w w1) : Only F w w1 := Only.widen h fun b hb => hb.1
theorem bS.keep (h : bS I F w w1) (hb : w.heap[b]? = some o) (hn : ¬ I o) : w1.heap[b]? = some o := Only.keep h hb fun e => hn (e.2 o hb)
theorem bS.trans (h : bS I F w w1) (k : bS I F w1 w2) : bS I F w w2 := by
 refine Only.trans h k fun b hb => ?_
 by_cases hl : b < w.heap.size
 ·refine .inl ⟨hb.1, fun o ho => ?_⟩;exact Classical.byContradiction fun hn => hn (hb.2 o (h.keep ho hn))
 ·exact .inr (by omega)
theorem bS.of_below (h : Below w.heap.size w w1) : bS I F w w1 := Only.of_below _ h
theorem bS.drew (h : bS I F w w1) : bS I F w w1.drew := Only.drew h
theorem bS.setCell (h : bS I F w w1) {p : Addr} (hB : F p.block) (ho : w1.heap[p.block]? = some o) (hI : I o) (u : Value) : bS I F w (w1.setCell p u) := by
 refine h.trans (Only.setCell (Only.refl _ _) (.inl ⟨hB, fun o' ho' => ?_⟩) u);rw [ho] at ho';cases ho';exact hI
theorem bS.map {k : TypeId} (h : bS I F w w1) (hB : F b) (hI : ∀ es c, I (.map es c)) (k : w1.mapTurned w2 b) : bS I F w w2 := by
 have hg := k.grown;obtain ⟨es, c, es', c', hb, e⟩ := k;refine h.trans (Only.grown (Only.refl _ _) hg fun j hj => ?_);injection hj with hj;subst hj;refine .inl ⟨hB, fun o ho => ?_⟩;rw [hb] at ho;cases ho;exact hI es c
theorem bS.node {x : Ky} {u v : Value} (h : bS ng F w w1) (hB : F b) (hb : dr w1 b x u v) (j : Nat) (s : Value) : bS ng F w (w1.setCell ⟨b, j, none⟩ s) := h.setCell (p := ⟨b, j, none⟩) hB hb rfl s
theorem bS.widen (h : bS I F w w1) (hI : ∀ o, I o -> J o) : bS J F w w1 := Only.widen h fun b hb => ⟨hb.1, fun o ho => hI o (hb.2 o ho)⟩
end
abbrev iJ := bS tm
structure dm (w : World) (B : Nat -> Prop) (p room : Nat) (E bm : Nat) (bs : List Nat) (ky : Nat -> Ky) (pv nx : Nat -> Nat) (M : Int -> Option Nat) : Prop where
 at_ : w.heap[p]? = some (.cells #[.int .i64 (room : Int), ptB E, .map (some bm)] 148 (0, 0))
 lnk : Lnk w ky pv nx (E :: bs)
 seg : Seg pv nx E bs E
 one : (E :: bs).Nodup
 map : dB w bm bs.length M
 hit : ∀ b ∈ bs, M (ky b).n = some b
 who : ∀ k b, (Lit.int .i64 k).wf = true -> M k = some b -> b ∈ bs /\ (ky b).n = k
 low : B p /\ B bm /\ ∀ b ∈ E :: bs, B b
 ok : LOk room (bs.map ky)
 rm : 1 <= room /\ room <= 64
def PLF (w : World) (B : Nat -> Prop) (p room : Nat) (L : List Ky) : Prop := ∃ E bm bs ky pv nx M, dm w B p room E bm bs ky pv nx M /\ bs.map ky = L
section
variable {w w' : World} {B : Nat -> Prop} {p room E bm : Nat} {bs : List Nat} {ky : Nat -> Ky} {pv nx : Nat -> Nat} {M : Int -> Option Nat} {L : List Ky}
theorem dm.keep (h : dm w B p room E bm bs ky pv nx M) (hk : ∀ (b : Nat) (o : Obj), w.heap[b]? = some o -> tm o -> w'.heap[b]? = some o) : dm w' B p room E bm bs ky pv nx M :=
 ⟨hk _ _ h.at_ (.inr rfl), h.lnk.keep fun b cs hb => hk b _ hb (.inl rfl), h.seg, h.one, h.map.kept fun es c hb => hk _ _ hb trivial, h.hit, h.who, h.low, h.ok, h.rm⟩
theorem dm.c0 (h : dm w B p room E bm bs ky pv nx M) : w.cell? ⟨p, 0, none⟩ = some (.int .i64 (room : Int)) := (cells3 h.at_).1
theorem dm.c1 (h : dm w B p room E bm bs ky pv nx M) : w.cell? ⟨p, 1, none⟩ = some (.pointer (some ⟨E, 0, none⟩)) := (cells3 h.at_).2.1
theorem dm.c2 (h : dm w B p room E bm bs ky pv nx M) : w.cell? ⟨p, 2, none⟩ = some (.map (some bm)) := (cells3 h.at_).2.2
theorem PLF.keep (h : PLF w B p room L) (hk : ∀ (b : Nat) (o : Obj), w.heap[b]? = some o -> tm o -> w'.heap[b]? = some o) : PLF w' B p room L := by
 obtain ⟨E, bm, bs, ky, pv, nx, M, h, e⟩ := h;exact ⟨E, bm, bs, ky, pv, nx, M, h.keep hk, e⟩
theorem PLF.below (h : PLF w B p room L) (hb : Below w.heap.size w w') : PLF w' B p room L := h.keep fun b o ho _ => aB ho hb
end
section
variable {w w' : World} {B B' : Nat -> Prop} {p room E bm : Nat} {bs : List Nat} {ky : Nat -> Ky} {pv nx : Nat -> Nat} {M : Int -> Option Nat} {L : List Ky}
theorem dB.lt {b N : Nat} (h : dB w b N M) : b < w.heap.size := by obtain ⟨es, c, hb⟩ := h.obj; exact aT hb
theorem dm.mono (h : dm w B p room E bm bs ky pv nx M) (hB : ∀ b, B b -> b < w.heap.size -> B' b) : dm w B' p room E bm bs ky pv nx M :=
 ⟨h.at_, h.lnk, h.seg, h.one, h.map, h.hit, h.who, ⟨hB _ h.low.1 (aT h.at_), hB _ h.low.2.1 h.map.lt, fun b hb => hB _ (h.low.2.2 b hb) (aT (h.lnk b hb))⟩, h.ok, h.rm⟩
theorem PLF.mono (h : PLF w B p room L) (hB : ∀ b, B b -> b < w.heap.size -> B' b) : PLF w B' p room L := by
 obtain ⟨E, bm, bs, ky, pv, nx, M, h, e⟩ := h;exact ⟨E, bm, bs, ky, pv, nx, M, h.mono hB, e⟩
theorem PLF.only {G : Nat -> Prop} (h : PLF w B p room L) (hk : Only G w w') (hG : ∀ b, B b -> ¬ G b) : PLF w' B p room L := by
 obtain ⟨E, bm, bs, ky, pv, nx, M, h, e⟩ := h;refine ⟨E, bm, bs, ky, pv, nx, M, ⟨Only.keep hk h.at_ (hG _ h.low.1), fun b hb => Only.keep hk (h.lnk b hb) (hG b (h.low.2.2 b hb)), h.seg, h.one, h.map.kept fun es c hb => Only.keep hk hb (hG _ h.low.2.1), h.hit, h.who, h.low, h.ok, h.rm⟩, e⟩
end
section
variable {w : World} {B : Nat -> Prop} {n E : Nat} {ky : Nat -> Ky} {pv nx : Nat -> Nat} {S : List Nat}
theorem sL (w : World) (h : Lnk w ky pv nx S) (hn : n ∈ S) (hp : pv n ∈ S) (hx : nx n ∈ S) (hB : ∀ b ∈ S, B b) :
  Calls prog 122 #[.pointer (some ⟨n, 0, none⟩)] w fun e w' => e = .returned (.tuple #[]) /\ Lnk w' ky (c8 pv (nx n) (pv n)) (c8 nx (pv n) (nx n)) S /\ bS ng B w w' := by
 have HN := ae (h n hn);have HP := ae (h (pv n) hp);have h1 : Lnk (w.drew.setCell ⟨pv n, 3, none⟩ (ptB (nx n))) ky pv (c8 nx (pv n) (nx n)) S := Lnk.s3 (w := w.drew) h (nx n) hp;have HX1 := ae (h1 (nx n) hx);have H2 := ae (Lnk.s2 h1 (pv n) hx);have HT := ae (((bS.refl ng B w).drew.node (hB _ hp) (h (pv n) hp) 3 (ptB (nx n))).node (hB _ hx) (h1 (nx n) hx) 2 (ptB (pv n)));clear h h1 hn hp hx hB;go_enter func122, ntmps122;go_upto_region 0 with fail;refine wp_region_still_tail 16 (by kernel_rfl) (by kernel_rfl) ?_;simp only [ac];refine aN rfl (aL rfl ajL) ?_;simp only [aa];refine aN rfl (bj rfl ajL) ?_;simp only [aa];refine aN rfl (ax rfl ajL m8) ?_;simp only [aa];refine aN rfl (aC rfl ajL (jp (HN.out).c2)) ?_;simp only [aa];refine aN rfl (aL rfl ajL) ?_;simp only [aa];refine aN rfl (bj rfl ajL) ?_;simp only [aa];refine aN rfl (ax rfl ajL lZ) ?_;simp only [aa];refine aN rfl (aC rfl ajL (jp (HN.out).c3)) ?_;simp only [aa];refine aN rfl (aL rfl ajL) ?_;simp only [aa];refine aN rfl (bj rfl ajL) ?_;simp only [aa];refine aN rfl (ax rfl ajL lZ) ?_;simp only [aa];refine aN rfl (aC rfl ajL (jp (HN.out).c3)) ?_;simp only [aa];refine aN rfl (aL rfl ajL) ?_;simp only [aa];refine aN rfl (bj rfl ajL) ?_;simp only [aa];refine aN rfl (ax rfl ajL m8) ?_;simp only [aa];refine aN rfl (aC rfl ajL (jp (HN.out).c2)) ?_;simp only [aa];refine wpStill_nil ?_;change wpList _ _ _ _ _ (World.drew _);refine runs 1 ?_;refine ajB (ax rfl ajL lZ) ?_;refine aG rfl (c7 rfl (ev rfl) (ev rfl) (aan HP.out.c3 (HP.out.fz 3))) ?_;simp only [aa];refine runs 1 ?_;refine ajB (ax rfl ajL m8) ?_;refine aG rfl (c7 rfl (ev rfl) (ev rfl) (aan HX1.out.c2 (HX1.out.fz 2))) ?_;simp only [aa];refine ah ?_
 go_end0
 exact ⟨rfl, H2, HT⟩
theorem qI (w : World) (x : Ky) (u v : Value) (h : Lnk w ky pv nx S) (hn : dr w n x u v) (hnS : n ∉ S) (hE : E ∈ S) (hx : nx E ∈ S) (hB : ∀ b ∈ S, B b) (hBn : B n) :
  Calls prog 123 #[.pointer (some ⟨n, 0, none⟩), .pointer (some ⟨E, 0, none⟩)] w fun e w' => e = .returned (.tuple #[]) /\ Lnk w' (c8 ky n x) (c8 (c8 pv n E) (nx E) n) (c8 (c8 nx n (nx E)) E n) (n :: S) /\ bS ng B w w' := by
 have HN := ae hn;have HE := ae (h E hE);have n1 := hn.s2 (ptB E);have n2 := n1.s3 (ptB (nx E));have HN1 := ae n1;have HN2 := ae n2;have hne : ∀ b ∈ S, b ≠ n := fun b hb e => hnS (by rw [<- e]; exact hb)
 have l2 : Lnk ((w.setCell ⟨n, 2, none⟩ (ptB E)).setCell ⟨n, 3, none⟩ (ptB (nx E))) (c8 ky n x) (c8 pv n E) (c8 nx n (nx E)) S := fun b hb => by
  rw [bZ _ _ (hne b hb), bZ _ _ (hne b hb), bZ _ _ (hne b hb)];exact ((h b hb).other (p := ⟨n, 2, none⟩) (hne b hb) _).other (p := ⟨n, 3, none⟩) (hne b hb) _
 have m2 : Lnk ((w.setCell ⟨n, 2, none⟩ (ptB E)).setCell ⟨n, 3, none⟩ (ptB (nx E))) (c8 ky n x) (c8 pv n E) (c8 nx n (nx E)) (n :: S) := l2.add (by rw [cU, cU, cU]; exact n2);have T2 : bS ng B w ((w.setCell ⟨n, 2, none⟩ (ptB E)).setCell ⟨n, 3, none⟩ (ptB (nx E))) := ((bS.refl ng B w).node hBn hn 2 (ptB E)).node hBn n1 3 (ptB (nx E));have HM2 := ae m2;have HT2 := ae T2;have HI := ae (And.intro hE (And.intro hx (And.intro hB hBn)));clear h hn hnS hE hx hB hBn n1 n2 hne l2 m2 T2;go_enter func123, ntmps123;go_upto_region 0 with fail;refine aH 3 ?_;refine runs 2 ?_;refine ajB (ax rfl ajL lZ) ?_;refine ajB (aC rfl ajL (jp (HE.out).c3)) ?_;refine runs 1 ?_;refine ajB (ax rfl ajL m8) ?_;refine aG rfl (c7 rfl (ev rfl) (ev rfl) (aan HN.out.c2 (HN.out.fz 2))) ?_;simp only [aa];refine runs 1 ?_;refine ajB (ax rfl ajL lZ) ?_;refine aG rfl (c7 rfl (ev rfl) (ev rfl) (aan HN1.out.c3 (HN1.out.fz 3))) ?_;simp only [aa];refine ah ?_;go_upto_region 1 with fail;obtain ⟨w2, hw2⟩ : ∃ w2, (w.setCell ⟨n, 2, none⟩ (ptB E)).setCell ⟨n, 3, none⟩ (ptB (nx E)) = w2 := ⟨_, rfl⟩;unfold ptB at hw2;rw [hw2];unfold ptB at HM2 HT2 HN2;rw [hw2] at HM2 HT2 HN2;clear HN HN1 HE hw2;have HE2 := ae (HM2.out E (List.mem_cons_of_mem _ HI.out.1));have m3 : Lnk (w2.drew.setCell ⟨E, 3, none⟩ (ptB n)) (c8 ky n x) (c8 pv n E) (c8 (c8 nx n (nx E)) E n) (n :: S) := Lnk.s3 (w := w2.drew) HM2 n (List.mem_cons_of_mem _ HI.out.1);have HX3 := ae (m3 (nx E) (List.mem_cons_of_mem _ HI.out.2.1));have HM4 := ae (Lnk.s2 m3 n (List.mem_cons_of_mem _ HI.out.2.1));have HT4 := ae ((HT2.out.drew.node (HI.out.2.2.1 _ HI.out.1) HE2 3 (ptB n)).node (HI.out.2.2.1 _ HI.out.2.1) HX3 2 (ptB n));clear m3;refine qd (fun w' => dr w' n x (ptB E) (ptB (nx E))) (fun _ => True) 12 (by kernel_rfl) ?_;change eJ _ _ _ _ _ _ _ 16 _ _ w2.drew;refine ajG 0 rfl (fun _ hw => aL rfl ajL) HN2 ?_;refine ajG 1 rfl (fun _ hw => bj rfl ajL) HN2 ?_;refine ajG 2 rfl (fun _ hw => ax rfl ajL m8) HN2 ?_;refine ajG 3 rfl (fun _ hw => aC rfl ajL (jp (hw).c2)) HN2 ?_;refine ajH 4 rfl (fun _ hw => aL rfl ajL) (iP (by kernel_rfl) HN2) ?_;refine ajH 5 rfl (fun _ hw => bj rfl ajL) (iP (by kernel_rfl) HN2) ?_;refine ajH 6 rfl (fun _ hw => ax rfl ajL lZ) (iP (by kernel_rfl) HN2) ?_;refine ajG 7 rfl (fun _ hw => aC rfl ajL (jp (hw).c3)) HN2 ?_;refine ajG 8 rfl (fun _ hw => aL rfl ajL) HN2 ?_;refine ajH 9 rfl (fun _ hw => aL rfl ajL) (iP (by kernel_rfl) HN2) ?_;refine ajH 10 rfl (fun _ hw => bj rfl ajL) (iP (by kernel_rfl) HN2) ?_;refine ajG 11 rfl (fun _ hw => ax rfl ajL lZ) HN2 ?_;refine xt 12 rfl (by kernel_rfl) rfl (c7 rfl (ev rfl) (ev rfl) (aan HE2.out.c3 (HE2.out.fz 3))) (jj (by kernel_rfl) trivial) ?_;simp only [Act.put];refine uN 13 rfl (by kernel_rfl) rfl (bj rfl ajL) (jj (by kernel_rfl) trivial) ?_;simp only [aa];refine uN 14 rfl (by kernel_rfl) rfl (ax rfl ajL m8) (jj (by kernel_rfl) trivial) ?_;simp only [aa];refine xt 15 rfl (by kernel_rfl) rfl (c7 rfl (ev rfl) (ev rfl) (aan HX3.out.c2 (HX3.out.fz 2))) (jj (by kernel_rfl) trivial) ?_;simp only [Act.put];refine t7 (by kernel_rfl) ?_ _
 go_end0
 exact ⟨rfl, HM4, HT4⟩
end
section
variable {w w' : World} {B p room E bm i : Nat} {bs : List Nat} {ky : Nat -> Ky} {pv nx : Nat -> Nat} {M : Int -> Option Nat} {L : List Ky} {k : Int}
theorem ix {b : Nat} {o : Obj} (h : w.mapTurned w' bm) (hb : w.heap[b]? = some o) (hn : ∀ es c, o ≠ .map es c) : w'.heap[b]? = some o := by
 have hg := h.grown;obtain ⟨es, c, es', c', hm, e⟩ := h;exact (hg.block b (aT hb) (fun e2 => by injection e2 with e2; subst e2; rw [hm] at hb; cases hb; exact hn _ _ rfl)).trans hb
theorem Lnk.turned {S : List Nat} (h : Lnk w ky pv nx S) (ht : w.mapTurned w' bm) : Lnk w' ky pv nx S := fun b hb => ix ht (h b hb) fun _ _ e => by cases e
def lsB (bs : List Nat) (L : List Ky) : Option Nat := if lu L = 0 then none else some (bs.getD (lu L - 1) 0)
theorem tU {bs : List Nat} {L : List Ky} (h : lu L = 0) : lsB bs L = none := if_pos h
theorem ti {bs : List Nat} {L : List Ky} {j : Nat} (h : lu L = j + 1) : lsB bs L = some (bs.getD j 0) := by unfold lsB; rw [if_neg (by omega), h]; rfl
theorem tB {ops : Array Oper} {rest : List Oper} {o : Oper} {a : Act} {Q : Exit -> Act -> World -> Prop} {x y : Operand} {N b : Nat} (hg : o.guard = none) (ho : o.op = .call { callee := .builtin .delete, args := #[x, y], argTypes := #[146, 3] })
  (hx : a.eval x = .map (some b)) (hy : a.eval y = .int .i64 k) (h : dB w b (N + 1) M) (hw : (Lit.int .i64 k).wf = true) (hn : (M k).isSome = true)
  (hk : ∀ w', dB w' b N (fun j => if j = k then none else M j) -> w.mapTurned w' b -> wpList prog ops Q rest (a.put o.dst (.tuple #[])) w') : wpList prog ops Q (o :: rest) a w := by
 obtain ⟨w', h1, h2, h3⟩ := h.del hw hn o.type;exact av hg (tk ho hx hy h1) (hk w' h2 h3)
end
section
variable {w w' : World} {B : Nat -> Prop} {p room E bm i : Nat} {bs : List Nat} {ky : Nat -> Ky} {pv nx : Nat -> Nat} {M : Int -> Option Nat} {L : List Ky} {k : Int}
theorem ow {w0 : World} (h : iJ B w0 w) (hB : B bm) (ht : w.mapTurned w' bm) : iJ B w0 w' := h.map (k := 0) hB (fun _ _ => trivial) ht
theorem dm.pvm (h : dm w B p room E bm bs ky pv nx M) {b : Nat} (hb : b ∈ E :: bs) : pv b ∈ E :: bs := by
 rcases List.mem_cons.1 hb with rfl | hb
 ·exact rC h.seg
 ·obtain ⟨l, r, e⟩ := List.append_of_mem hb;have hs := h.seg;rw [e] at hs;have := rC (seg_append.1 hs).1;rw [e];rcases List.mem_cons.1 this with e2 | e2
  ·rw [e2]; simp
  ·exact List.mem_cons_of_mem _ (List.mem_append.2 (.inl e2))
theorem dm.nxm (h : dm w B p room E bm bs ky pv nx M) {b : Nat} (hb : b ∈ E :: bs) : nx b ∈ E :: bs := by
 have key : ∀ x, x ∈ bs ++ [E] -> x ∈ E :: bs := fun x hx => by
  rcases List.mem_append.1 hx with e | e
  ·exact List.mem_cons_of_mem _ e
  ·simp at e; rw [e]; simp
 rcases List.mem_cons.1 hb with rfl | hb
 ·exact key _ (ru h.seg)
 ·obtain ⟨l, r, e⟩ := List.append_of_mem hb;have hs := h.seg;rw [e] at hs;have := ru (seg_append.1 hs).2;refine key _ ?_;rw [e];rcases List.mem_append.1 this with e2 | e2
  ·simp [e2]
  ·simp at e2; simp [e2]
theorem dm.acv (h : dm w B p room E bm bs ky pv nx M) (hi : plc k (bs.map ky) < bs.length) : M k = some (bs.getD (plc k (bs.map ky)) 0) := by
 have h1 := oO (k := k) (L := bs.map ky) (by simpa using hi);rw [getD_map ky bs 0 ky0 hi] at h1;have := h.hit _ (cz (d := 0) hi);rwa [h1] at this
theorem dm.mP (h : dm w B p room E bm bs ky pv nx M) (hw : (Lit.int .i64 k).wf = true) (hi : ¬ plc k (bs.map ky) < bs.length) : M k = none := by
 cases e : M k with
 |none => rfl
 |some b =>
  obtain ⟨h1, h2⟩ := h.who k b hw e;have : plc k (bs.map ky) < (bs.map ky).length := lm.2 (by unfold fk; rw [List.map_map]; exact List.mem_map.2 ⟨b, h1, h2⟩);rw [List.length_map] at this;exact absurd this hi
theorem dm.kwf (h : dm w B p room E bm bs ky pv nx M) {b : Nat} (hb : b ∈ bs) : (Lit.int .i64 (ky b).n).wf = true := h.ok.wf _ (List.mem_map.2 ⟨b, hb, rfl⟩)
theorem dm.inj (h : dm w B p room E bm bs ky pv nx M) {b c : Nat} (hb : b ∈ bs) (hc : c ∈ bs) (e : (ky b).n = (ky c).n) : b = c := by
 have h1 := h.hit b hb;have h2 := h.hit c hc;rw [e, h2] at h1;injection h1 with h1;exact h1.symm
theorem fA (w : World) (h : dm w B p room E bm bs ky pv nx M) : Calls prog 89 #[.pointer (some ⟨p, 0, none⟩)] w fun e w' => e = .returned (.bool true) /\ w = w' := by
 have c0 := h.c0;have hr := h.rm;have hd : decide (0 < room) = true := ao (by omega);clear h hr;go_enter func89, ntmps89;go_wp2_with fail;go_ret;exact ⟨rfl, rfl⟩
theorem sV (w : World) (h : dm w B p room E bm bs ky pv nx M) (hw : (Lit.int .i64 k).wf = true) {b : Nat} (hm : M k = some b) :
  Calls prog 59 #[.pointer (some ⟨p, 0, none⟩), .int .i64 k] w fun e w' => e = .returned (.tuple #[.pointer (some ⟨b, 0, none⟩), .int .i64 0]) /\ w = w' := by
 have HL := ae h;have HK : Hid ((Instr.lookup 146 (.map (some bm)) (.int .i64 k) false).run prog w = .ok (.pointer (some ⟨b, 0, none⟩)) w) := ae (by have := h.map.look hw; rw [hm] at this; exact this);clear h hw hm;go_enter func59, ntmps59;go_wp2_with fail;refine (fA _ HL).mono ?_;rintro e w1 ⟨rfl, rfl⟩;go_upto_region 3 with fail;refine aH 2 ?_;refine ajB (ax rfl ajL jX) ?_;refine ajB (aC rfl ajL (pu (HL.out).c2)) ?_;refine runs 1 ?_;refine ajB (dl rfl ajL ajL HK) ?_;refine aF 1 ?_;go_upto_region 4 with fail;refine aH 1 ?_;refine ajB (dc false underlying119 rfl ajL evk rfl) ?_;refine ah ?_;go_wp2_with fail;go_ret2;exact ⟨rfl, rfl⟩
theorem oP (w : World) (h : dm w B p room E bm bs ky pv nx M) (hw : (Lit.int .i64 k).wf = true) (hm : M k = none) :
  Calls prog 59 #[.pointer (some ⟨p, 0, none⟩), .int .i64 k] w fun e w' => e = .returned (.tuple #[.pointer none, .int .i64 7]) /\ w = w' := by
 have HL := ae h;have HK : Hid ((Instr.lookup 146 (.map (some bm)) (.int .i64 k) false).run prog w = .ok (.pointer none) w) := ae (by have := h.map.look hw; rw [hm] at this; exact this);clear h hw hm;go_enter func59, ntmps59;go_wp2_with fail;refine (fA _ HL).mono ?_;rintro e w1 ⟨rfl, rfl⟩;go_upto_region 3 with fail;refine aH 2 ?_;refine ajB (ax rfl ajL jX) ?_;refine ajB (aC rfl ajL (pu (HL.out).c2)) ?_;refine runs 1 ?_;refine ajB (dl rfl ajL ajL HK) ?_;refine aF 1 ?_;go_upto_region 4 with fail;refine aH 1 ?_;refine ajB (dc true underlying119 rfl ajL evk rfl) ?_;refine ah ?_;go_wp2_with fail;go_ret2;exact ⟨rfl, rfl⟩
theorem o5 (w : World) (h : dm w B p room E bm bs ky pv nx M) :
  Calls prog 124 #[.pointer (some ⟨p, 0, none⟩)] w fun e w' => e = .returned (ptO (lsB bs (bs.map ky))) /\ w = w' := by
 have HL := ae h;have HE := ae (h.lnk E (by simp));have HPV : Hid (∀ i, i <= bs.length -> pv ((bs ++ [E]).getD i 0) = (E :: bs).getD i 0) := ae (adD h.seg);have HEV : Hid (pv E = (E :: bs).getD bs.length 0) := ae (by have := HPV.out bs.length aj; rw [<- this]; simp);have HPS : Hid (∀ i, i <= bs.length -> ni ((E :: bs).getD i 0) (E :: bs) = i) := ae fun i hi => kv h.one (by simp; omega)
 have HNO := ae (List.nodup_cons.1 h.one).1;obtain ⟨j0, hj0, hz0⟩ := afL;have HJ := ae hj0;have HZ := ae hz0;have HLK := ae h.lnk;clear h hj0 hz0;go_enter func124, ntmps124;go_upto_region 1 with fail;refine aH 2 ?_;refine ajB (ax rfl ajL m0) ?_;refine ajB (aC rfl ajL (jp (HL.out).c1)) ?_;refine runs 1 ?_;refine ajB (ax rfl ajL m8) ?_;refine ajB (aC rfl ajL (jp (HE.out).c2)) ?_;refine aF 1 ?_;rw [HEV.out];go_wp2_with fail
 go_loop [3] (fun v => ∃ i, i <= bs.length /\ v = .pointer (some ⟨(E :: bs).getD i 0, 0, none⟩) /\ Hid (∀ j, i <= j -> j < bs.length -> ((bs.map ky).getD j ky0).pin = true)) (fun v => ni (afK v) (E :: bs))
 case atStart => exact ⟨bs.length, aj, rfl, ae fun j h1 h2 => absurd h2 (by omega)⟩
 case round =>
  obtain ⟨i, hi, rfl, hpin⟩ := hrel;cases i with
  |zero =>
   have hlu : lu (bs.map ky) = 0 := aeo fun j hj => hpin.out j (Nat.zero_le _) (by simpa using hj)
   have HLU := ae hlu;clear hlu;rw [show (E :: bs).getD 0 0 = E from rfl];go_upto_region 2 with fail;refine aH 3 ?_;refine ajB (ax rfl ajL m0) ?_;refine ajB (aC rfl ajL (jp (HL.out).c1)) ?_;refine ajB (kw false underlying119 HJ.out HZ.out rfl (ev rfl) (ev rfl) HE.out HE.out (by simp)) ?_;refine ah ?_;go_wp2_with fail;go_ret;exact ⟨by rw [tU HLU.out]; rfl, rfl⟩
  |succ i =>
   rw [show (E :: bs).getD (i + 1) 0 = bs.getD i 0 from rfl];obtain ⟨b, hb⟩ : ∃ b, bs.getD i 0 = b := ⟨_, rfl⟩;have hm : b ∈ bs := by rw [<- hb]; exact cz hi
   have HN := ae (HLK.out b (List.mem_cons_of_mem _ hm));have HNE : Hid (b ≠ E) := ae fun e => HNO.out (by rw [<- e]; exact hm)
   have HPB : Hid (pv b = (E :: bs).getD i 0) := ae (by
    have := HPV.out i (by omega);rw [<- this, <- hb];simp [List.getD, List.getElem?_append_left (show i < bs.length from hi)])
   have HKY : Hid ((bs.map ky).getD i ky0 = ky b) := ae (by rw [getD_map ky bs 0 ky0 hi, hb]);have HB := ae hb;have HM := ae hm;clear hb hm;rw [HB.out];go_upto_region 2 with fail;refine aH 3 ?_;refine ajB (ax rfl ajL m0) ?_;refine ajB (aC rfl ajL (jp (HL.out).c1)) ?_;refine ajB (kw true underlying119 HJ.out HZ.out rfl (ev rfl) (ev rfl) HN.out HE.out (by have := HNE.out; simp [this])) ?_;refine ah ?_;cases hp : (ky b).pin
   ·have HPI := ae hp;have HC1 : Hid (w.cell? ⟨b, 1, none⟩ = some (.bool false)) := ae (by have := HN.out.c1; rwa [hp] at this);have hlu : lu (bs.map ky) = i + 1 := ain (by rw [List.length_map]; omega) (by rw [HKY.out]; exact hp) fun j h1 h2 => hpin.out j (by omega) (by simpa using h2)
    have HLU := ae hlu;clear hlu hp;go_upto_region 4 with fail;refine aH 2 ?_;refine ajB (ax rfl ajL xX) ?_;refine ajB (aC rfl ajL (sO HC1)) ?_;refine aF 1 ?_;go_wp2_with fail;go_ret;exact ⟨by rw [ti HLU.out, HB.out]; rfl, rfl⟩
   ·have HPI := ae hp;have HC1 : Hid (w.cell? ⟨b, 1, none⟩ = some (.bool true)) := ae (by have := HN.out.c1; rwa [hp] at this);clear hp;go_upto_region 4 with fail;refine aH 2 ?_;refine ajB (ax rfl ajL xX) ?_;refine ajB (aC rfl ajL (sO HC1)) ?_;refine aF 1 ?_;go_upto_region 3 with fail;refine aH 2 ?_;refine ajB (ax rfl ajL m8) ?_;refine ajB (aC rfl ajL (jp (HN.out).c2)) ?_;refine aF 1 ?_;rw [HPB.out];go_wp2_with fail
    go_round
    case rel =>
     refine ⟨i, by omega, rfl, ae fun j h1 h2 => ?_⟩;by_cases e : j = i
     ·subst e; rw [HKY.out]; exact HPI
     ·exact hpin.out j (by omega) h2
    case measure =>
     show ni ((E :: bs).getD i 0) (E :: bs) < ni b (E :: bs)
     have h1 := HPS.out i (by omega);have h2 := HPS.out (i + 1) hi;rw [show (E :: bs).getD (i + 1) 0 = bs.getD i 0 from rfl, HB.out] at h2;omega
theorem yY (w : World) (h : dm w B p room E bm bs ky pv nx M) {b : Nat} (hi : i < bs.length) (hb : bs.getD i 0 = b) :
  Calls prog 125 #[.pointer (some ⟨p, 0, none⟩), .pointer (some ⟨b, 0, none⟩)] w fun e w' => e = .returned (.tuple #[]) /\ (∃ pv' nx' M', dm w' B p room E bm (wo bs i) ky pv' nx' M') /\ iJ B w w' /\ ∃ u v, dr w' b (ky b) u v := by
 have hbs : b ∈ bs := by rw [<- hb]; exact cz hi
 have hm : b ∈ E :: bs := List.mem_cons_of_mem _ hbs;have HL := ae h;have HLV := ae (sL (B := B) w h.lnk hm (h.pvm hm) (h.nxm hm) h.low.2.2);have HSG := ae (abF h.seg h.one hi);have HI := ae hi;have HB := ae hb;have HBS := ae hbs;clear h hi hb hm hbs;go_enter func125, ntmps125;go_upto_region 0 with fail;refine aH 1 ?_;refine aw rfl (aA call122 rfl (evc ajL evn)) ?_;refine HLV.out.mono ?_;rintro e w1 ⟨rfl, hl1, ht1⟩;refine aQ ?_;refine ah ?_;have hat : w1.heap[p]? = some (.cells #[.int .i64 (room : Int), ptB E, .map (some bm)] 148 (0, 0)) := ht1.keep HL.out.at_ (by show ¬ (148 = 123); decide);have hmp : dB w1 bm bs.length M := HL.out.map.kept fun es c hb => ht1.keep hb fun e => e
 have hlen : bs.length = (wo bs i).length + 1 := (nT HI).symm;rw [hlen] at hmp;have HC2 := ae (cells3 hat).2.2;have HAT := ae hat
 have HMP := ae hmp;have HN := ae (hl1 b (List.mem_cons_of_mem _ HBS));have HLK := ae hl1;have HT := ae (ht1.widen yd);have HWF := ae (HL.out.kwf HBS);have HSM : Hid ((M (ky b).n).isSome = true) := ae (by rw [HL.out.hit b HBS.out]; rfl);clear hat hmp hlen hl1 ht1;go_upto_region 1 with fail;refine wp_region_still_tail 8 (by kernel_rfl) (by kernel_rfl) ?_;simp only [ac];refine aN rfl (aL rfl ajL) ?_;simp only [aa];refine aN rfl (bj rfl ajL) ?_;simp only [aa];refine aN rfl (ax rfl ajL jX) ?_;simp only [aa];refine aN rfl (aC rfl ajL (pu HC2)) ?_;simp only [aa];refine aN rfl (aL rfl ajL) ?_;simp only [aa];refine aN rfl (bj rfl ajL) ?_;simp only [aa];refine aN rfl (ax rfl ajL abG) ?_;simp only [aa];refine aN rfl (aC rfl ajL (bY (HN.out).c0)) ?_;simp only [aa];refine wpStill_nil ?_;change wpList _ _ _ _ _ (World.drew _);refine tB (w := w1.drew) rfl rfl ajL ajL (N := (wo bs i).length) HMP HWF HSM ?_;intro w2 hm2 ht2;simp only [Act.put];refine ah ?_
 go_end0
 refine ⟨rfl, ⟨c8 pv (nx b) (pv b), c8 nx (pv b) (nx b), fun j => if j = (ky b).n then none else M j, ?_⟩, ow HT.out.drew HL.out.low.2.1 ht2, ⟨_, _, ix ht2 HN fun _ _ e => by cases e⟩⟩;have hsub := jx bs i;have hlk : Lnk w2 ky (c8 pv (nx b) (pv b)) (c8 nx (pv b) (nx b)) (E :: bs) := Lnk.turned (w := w1.drew) HLK ht2;refine ⟨ix ht2 HAT (fun _ _ e => by cases e), hlk.sub fun x hx => ?_, by have := HSG.out; rwa [HB.out] at this, HL.out.one.sublist (hsub.cons_cons _), hm2, fun x hx => ?_, fun j x hj hx => ?_, ⟨HL.out.low.1, HL.out.low.2.1, fun x hx => HL.out.low.2.2 x ?_⟩, by rw [pa]; exact HL.out.ok.wo i, HL.out.rm⟩
 ·rcases List.mem_cons.1 hx with rfl | hx
  ·simp
  ·exact List.mem_cons_of_mem _ (hsub.subset hx)
 ·try dsimp only
  rw [if_neg, HL.out.hit x (hsub.subset hx)];intro e;have := HL.out.inj (hsub.subset hx) HBS e;have hn := xc (List.nodup_cons.1 HL.out.one).2 HI;rw [HB.out, <- this] at hn;exact hn hx
 ·try dsimp only at hx
  split at hx
  ·cases hx
  ·rename_i hne
   obtain ⟨h1, h2⟩ := HL.out.who j x hj hx;exact ⟨abj HI h1 (fun e => hne (by rw [<- h2, e, HB.out])), h2⟩
 ·rcases List.mem_cons.1 hx with rfl | hx
  ·simp
  ·exact List.mem_cons_of_mem _ (hsub.subset hx)
theorem aaP (w : World) (hsz : B w.heap.size) (h : dm w B p room E bm bs ky pv nx M) (hk : ¬ plc k (bs.map ky) < bs.length) (hl : bs.length < room) (hw : (Lit.int .i64 k).wf = true) :
  Calls prog 126 #[.pointer (some ⟨p, 0, none⟩), .int .i64 k] w fun e w' => e = .returned (.tuple #[]) /\ (∃ n ky' pv' nx' M', dm w' B p room E bm (n :: bs) ky' pv' nx' M' /\ (n :: bs).map ky' = ⟨k, false⟩ :: bs.map ky) /\ iJ B w w' := by
 have hn0 := h.mP hw hk;have hnS : w.heap.size ∉ E :: bs := fun e => by have := aT (h.lnk _ e); omega
 obtain ⟨w1, hw1⟩ : ∃ w1, w.alloc (.cells (qe ⟨k, false⟩ (.pointer none) (.pointer none)).toArray 123) = w1 := ⟨_, rfl⟩;have hn1 : dr w1 w.heap.size ⟨k, false⟩ (.pointer none) (.pointer none) := by rw [<- hw1]; exact heap_alloc_new w _
 have hb1 : Below w.heap.size w w1 := by rw [<- hw1]; exact ak.alloc aj _
 have h1 := h.keep fun b o ho _ => aB ho hb1
 have HF := ae (qI (B := B) (E := E) w1 ⟨k, false⟩ _ _ h1.lnk hn1 hnS (by simp) (h.nxm (by simp)) h.low.2.2 hsz);have HSG := ae (ph h.seg h.one hnS);have HW1 := ae hw1;have HL := ae h1;have HT1 := ae (bS.of_below (I := tm) (F := B) hb1);have HN0 := ae hn0;have HK := ae hk;have HLT := ae hl;have HWF := ae hw;have HNS := ae hnS;have HSZ := ae hsz;clear h h1 hk hl hw hn0 hsz hnS hw1 hn1 hb1;go_enter func126, ntmps126;go_upto_region 1 with fail;have hw1 := HW1.out;unfold qe at hw1;rw [hw1];clear hw1;refine aH 3 ?_;refine ajB (ax rfl ajL m0) ?_;refine ajB (aC rfl ajL (jp (HL.out).c1)) ?_;refine aw rfl (aA call123 rfl (evc ajL (evc ajL evn))) ?_;refine HF.out.mono ?_;rintro e w2 ⟨rfl, hl2, ht2⟩;refine aQ ?_;refine ah ?_;have hat : w2.heap[p]? = some (.cells #[.int .i64 (room : Int), ptB E, .map (some bm)] 148 (0, 0)) := ht2.keep HL.out.at_ (by show ¬ (148 = 123); decide);have hmp : dB w2 bm bs.length M := HL.out.map.kept fun es c hb => ht2.keep hb fun e => e
 have HC2 := ae (cells3 hat).2.2;have HAT := ae hat
 obtain ⟨w3, hr3, hm3, ht3⟩ := hmp.store HWF HN0 (by unfold maxLen; have := HLT.out; have := HL.out.rm; omega) w.heap.size;have HR3 := ae hr3;have HM3 := ae hm3;have HT3 := ae ht3;have HLK := ae hl2;have HT := ae (HT1.out.trans (ht2.widen yd));clear hat hmp hr3 hm3 ht3 hl2 ht2;go_upto_region 2 with fail;refine aH 2 ?_;refine ajB (ax rfl ajL jX) ?_;refine ajB (aC rfl ajL (pu HC2)) ?_;refine runs 2 ?_;refine aG rfl (iW rfl (ev rfl) (ev rfl) (ev rfl) HR3.out) ?_;simp only [Act.put];refine ah ?_
 go_end0
 have hne : ∀ b ∈ bs, b ≠ w.heap.size := fun b hb e => HNS.out (by rw [<- e]; exact List.mem_cons_of_mem _ hb)
 have hmap : (w.heap.size :: bs).map (c8 ky w.heap.size ⟨k, false⟩) = ⟨k, false⟩ :: bs.map ky := by
  rw [List.map_cons, cU]
  congr 1
  exact List.map_congr_left fun b hb => bZ _ _ (hne b hb)
 have hkn : k ∉ fk (bs.map ky) := fun e => HK.out (by have := lm.2 e; simpa using this)
 refine ⟨rfl, ⟨w.heap.size, c8 ky w.heap.size ⟨k, false⟩, c8 (c8 pv w.heap.size E) (nx E) w.heap.size, c8 (c8 nx w.heap.size (nx E)) E w.heap.size, fun j => if j = k then some w.heap.size else M j, ?_, hmap⟩, ow HT HL.out.low.2.1 HT3⟩;have hlk := Lnk.turned HLK HT3;refine ⟨ix HT3 HAT (fun _ _ e => by cases e), hlk.sub fun x hx => ?_, HSG, ?_, HM3, fun x hx => ?_, fun j x hj hx => ?_, ⟨HL.out.low.1, HL.out.low.2.1, fun x hx => ?_⟩, by rw [hmap]; exact HL.out.ok.cons hkn (by rw [List.length_map]; exact HLT) HWF, HL.out.rm⟩
 ·rcases List.mem_cons.1 hx with rfl | hx
  ·simp
  ·rcases List.mem_cons.1 hx with rfl | hx
   ·simp
   ·simp [hx]
 ·have hd := List.nodup_cons.1 HL.out.one;refine List.nodup_cons.2 ⟨fun e => ?_, List.nodup_cons.2 ⟨fun e => HNS.out (List.mem_cons_of_mem _ e), hd.2⟩⟩;rcases List.mem_cons.1 e with e | e
  ·exact HNS.out (by rw [<- e]; simp)
  ·exact hd.1 e
 ·try dsimp only
  rcases List.mem_cons.1 hx with rfl | hx
  ·rw [cU, if_pos rfl]
  ·rw [bZ _ _ (hne x hx), if_neg (fun e => hkn (by rw [<- e]; exact List.mem_map.2 ⟨ky x, List.mem_map.2 ⟨x, hx, rfl⟩, rfl⟩)), HL.out.hit x hx]
 ·try dsimp only at hx
  split at hx
  ·rename_i e
   injection hx with hx;subst hx e;exact ⟨by simp, by rw [cU]⟩
  ·obtain ⟨h1, h2⟩ := HL.out.who j x hj hx;exact ⟨List.mem_cons_of_mem _ h1, by rw [bZ _ _ (hne x h1)]; exact h2⟩
 ·rcases List.mem_cons.1 hx with rfl | hx
  ·exact HL.out.low.2.2 _ (by simp)
  ·rcases List.mem_cons.1 hx with rfl | hx
   ·exact HSZ
   ·exact HL.out.low.2.2 _ (List.mem_cons_of_mem _ hx)
end
section
variable {w w' : World} {B p room E bm i : Nat} {bs : List Nat} {ky : Nat -> Ky} {pv nx : Nat -> Nat} {M : Int -> Option Nat} {L : List Ky} {k : Int}
theorem iq {x : Nat} (hi : i < bs.length) : x ∈ bs.getD i 0 :: wo bs i ↔ x ∈ bs := by
 constructor
 ·intro h;rcases List.mem_cons.1 h with rfl | h
  ·exact cz hi
  ·exact (jx bs i).subset h
 ·intro h;by_cases e : x = bs.getD i 0
  ·rw [e]; simp
  ·exact List.mem_cons_of_mem _ (abj hi h e)
theorem aby {i : Nat} (hp : plc k L = i) (hi : i < L.length) : wK k L = 0 := by unfold wK; rw [hp, if_pos hi]
theorem aeA (hi : ¬ plc k L < L.length) : wK k L = 7 := if_neg hi
theorem abE {x : Ky} (hd : bs.Nodup) (hi : i < bs.length) : bs.map (c8 ky (bs.getD i 0) x) = (bs.map ky).set i x := by
 apply List.ext_getElem (by simp);intro j h1 h2;have hj : j < bs.length := by simpa using h1
 rw [List.getElem_map, List.getElem_set];by_cases e : i = j
 ·subst e;have e0 : bs.getD i 0 = bs[i] := by simp [List.getD, hi]
  rw [if_pos rfl];exact (congrArg (c8 ky (bs.getD i 0) x) e0.symm).trans (cU _ _ _)
 ·rw [if_neg e, List.getElem_map, bZ];intro e2;have e3 : ni (bs.getD j 0) bs = j := kv hd hj;rw [show bs.getD j 0 = bs[j] from by simp [List.getD, hj], e2, kv hd hi] at e3;exact e e3
end
theorem zo (n : Int) (w : World) (h : ¬ (1 <= n /\ n <= 64)) : Calls prog 48 #[.int .i64 n] w fun e w' => e = .returned (.tuple #[.pointer none, .int .i64 2]) /\ w = w' := by
 by_cases h1 : n < 1
 ·have hd : decide (n < 1) = true := ao h1;go_enter func48, ntmps48;go_wp2_with fail;go_ret2;exact ⟨rfl, rfl⟩
 ·have hd : decide (n < 1) = false := am h1;have hd2 : decide (64 < n) = true := ao (by omega);go_enter func48, ntmps48;go_wp2_with fail;go_ret2;exact ⟨rfl, rfl⟩
section
variable {w w' : World} {B : Nat -> Prop} {p room E bm i : Nat} {bs : List Nat} {ky : Nat -> Ky} {pv nx : Nat -> Nat} {M : Int -> Option Nat} {L : List Ky} {k : Int}
theorem dm.below (h : dm w B p room E bm bs ky pv nx M) (hb : Below w.heap.size w w') : dm w' B p room E bm bs ky pv nx M := h.keep fun b o ho _ => aB ho hb
theorem tL (w : World) (h : dm w B p room E bm bs ky pv nx M) (h0 : lu (bs.map ky) = 0) : Calls prog 124 #[.pointer (some ⟨p, 0, none⟩)] w fun e w' => e = .returned (.pointer none) /\ w = w' :=
 (o5 w h).mono fun e w' hh => by rw [tU h0] at hh; exact hh
theorem uw (w : World) (h : dm w B p room E bm bs ky pv nx M) {j b : Nat} (h0 : lu (bs.map ky) = j + 1) (hb : bs.getD j 0 = b) : Calls prog 124 #[.pointer (some ⟨p, 0, none⟩)] w fun e w' => e = .returned (.pointer (some ⟨b, 0, none⟩)) /\ w = w' :=
 (o5 w h).mono fun e w' hh => by rw [ti h0, hb] at hh; exact hh
theorem dm.front (h : dm w B p room E bm bs ky pv nx M) (hi : i < bs.length) {pv' nx' : Nat -> Nat} (hat : w'.heap[p]? = some (.cells #[.int .i64 (room : Int), ptB E, .map (some bm)] 148 (0, 0)))
  (hl : Lnk w' ky pv' nx' (bs.getD i 0 :: E :: wo bs i)) (hs : Seg pv' nx' E (bs.getD i 0 :: wo bs i) E) (hm : dB w' bm bs.length M) : dm w' B p room E bm (bs.getD i 0 :: wo bs i) ky pv' nx' M := by
 have hd := List.nodup_cons.1 h.one;refine ⟨hat, hl.sub fun x hx => ?_, hs, List.nodup_cons.2 ⟨fun e => hd.1 ((iq hi).1 e), List.nodup_cons.2 ⟨xc hd.2 hi, hd.2.sublist (jx bs i)⟩⟩, by rw [List.length_cons, nT hi]; exact hm, fun x hx => h.hit x ((iq hi).1 hx), fun j x hj hx => ⟨(iq hi).2 (h.who j x hj hx).1, (h.who j x hj hx).2⟩, ⟨h.low.1, h.low.2.1, fun x hx => ?_⟩, ?_, h.rm⟩
 ·rcases List.mem_cons.1 hx with rfl | hx
  ·simp
  ·rcases List.mem_cons.1 hx with rfl | hx
   ·simp
   ·simp [hx]
 ·rcases List.mem_cons.1 hx with rfl | hx
  ·exact h.low.2.2 _ (by simp)
  ·exact h.low.2.2 _ (List.mem_cons_of_mem _ ((iq hi).1 hx))
 ·have hw := h.ok.wf _ (List.mem_map.2 ⟨_, cz (d := 0) hi, rfl⟩);have hi' : i < (bs.map ky).length := by rw [List.length_map]; exact hi
  rw [List.map_cons, pa, <- getD_map ky bs 0 ky0 hi];exact (h.ok.wo i).cons (agQ h.ok.one hi') (h.ok.lt hi') (h.ok.wf _ (cz hi'))
def j7 (B : Nat -> Prop) (p room : Nat) (k : Int) (L : List Ky) (w : World) (e : Ending) (w' : World) : Prop := e = .returned (.tuple #[.int .i64 (tK room k L), .bool (wk room k L), .int .i64 (vm room k L)]) /\ PLF w' B p room (uR room k L) /\ iJ B w w'
theorem vE (w : World) (h : dm w B p room E bm bs ky pv nx M) (hw : (Lit.int .i64 k).wf = true) (hi : plc k (bs.map ky) < bs.length) :
  Calls prog 85 #[.pointer (some ⟨p, 0, none⟩), .int .i64 k] w (j7 B p room k (bs.map ky) w) := by
 obtain ⟨i, hpi⟩ : ∃ i, plc k (bs.map ky) = i := ⟨_, rfl⟩;have hmk := h.acv hi;rw [hpi] at hi hmk;obtain ⟨b, hb⟩ : ∃ b, bs.getD i 0 = b := ⟨_, rfl⟩;rw [hb] at hmk;have hbs : b ∈ bs := by rw [<- hb]; exact cz hi
 have hm : b ∈ E :: bs := List.mem_cons_of_mem _ hbs;have HL := ae h;have HK : Hid ((Instr.lookup 146 (.map (some bm)) (.int .i64 k) false).run prog w = .ok (.pointer (some ⟨b, 0, none⟩)) w) := ae (by have := h.map.look hw; rw [hmk] at this; exact this);have HLV := ae (sL (B := B) w h.lnk hm (h.pvm hm) (h.nxm hm) h.low.2.2);have HSG := ae (abF h.seg h.one hi);have HI := ae hi;have HB := ae hb;have HPI := ae hpi;clear h hi hb hm hbs hmk hpi hw;go_enter func85, ntmps85;go_wp2_with fail;refine (fA _ HL).mono ?_;rintro e w1 ⟨rfl, rfl⟩;go_upto_region 3 with fail;refine aH 2 ?_;refine ajB (ax rfl ajL jX) ?_;refine ajB (aC rfl ajL (pu (HL.out).c2)) ?_;refine runs 1 ?_;refine ajB (dl rfl ajL ajL HK) ?_;refine aF 1 ?_;go_upto_region 4 with fail;refine aH 1 ?_;refine ajB (cY true underlying119 rfl ajL evk rfl) ?_;refine ah ?_;go_upto_region 5 with fail;refine aH 1 ?_;refine aw rfl (aA call122 rfl (evc ajL evn)) ?_;refine HLV.out.mono ?_;rintro e w1 ⟨rfl, hl1, ht1⟩;refine aQ ?_;refine ah ?_;have hat : w1.heap[p]? = some (.cells #[.int .i64 (room : Int), ptB E, .map (some bm)] 148 (0, 0)) := ht1.keep HL.out.at_ (by show ¬ (148 = 123); decide);have hsg := HSG.out;rw [HB.out] at hsg;have hnw : b ∉ E :: wo bs i := fun e => by
  have hd := List.nodup_cons.1 HL.out.one;rcases List.mem_cons.1 e with e | e
  ·exact hd.1 (by rw [<- e, <- HB.out]; exact cz HI)
  ·exact xc hd.2 HI (by rw [HB.out]; exact e)
 have hod : (E :: wo bs i).Nodup := HL.out.one.sublist ((jx bs i).cons_cons _);have hsub : ∀ x, x ∈ E :: wo bs i -> x ∈ E :: bs := fun x hx => by
  rcases List.mem_cons.1 hx with rfl | hx
  ·simp
  ·exact List.mem_cons_of_mem _ ((jx bs i).subset hx)
 have hbs : b ∈ bs := by rw [<- HB.out]; exact cz HI
 have hnxm : c8 nx (pv b) (nx b) E ∈ E :: wo bs i := by
  rcases List.mem_append.1 (ru hsg) with e | e
  ·exact List.mem_cons_of_mem _ e
  ·simp at e; rw [e]; simp
 have HF := ae (qI (B := B) (E := E) w1 (ky b) _ _ (hl1.sub hsub) (hl1 b (List.mem_cons_of_mem _ hbs)) hnw (by simp) hnxm (fun x hx => HL.out.low.2.2 x (hsub x hx)) (HL.out.low.2.2 b (List.mem_cons_of_mem _ hbs)));have HS2 := ae (ph hsg hod hnw);have HC1 := ae (cells3 hat).2.1;have HAT := ae hat
 have HT := ae ht1;clear hat hsg hnw hod hsub hbs hnxm hl1 ht1;go_upto_region 6 with fail;refine aH 3 ?_;refine ajB (ax rfl ajL m0) ?_;refine ajB (aC rfl ajL (jp HC1)) ?_;refine aw rfl (aA call123 rfl (evc ajL (evc ajL evn))) ?_;refine HF.out.mono ?_;rintro e w2 ⟨rfl, hl2, ht2⟩;refine aQ ?_;refine ah ?_;go_wp2_with fail
 go_ret3
 rw [ze] at hl2;have hnd : ∀ es c, ¬ ng (.map es c) := fun _ _ e => e
 have hat2 := ht2.keep HAT (by show ¬ (148 = 123); decide);have hmp : dB w2 bm bs.length M := HL.out.map.kept fun es c hb => ht2.keep (HT.out.keep hb (hnd es c)) (hnd es c)
 have hs2 := HS2.out;rw [<- HB.out] at hl2 hs2;have hp := HL.out.front HI hat2 hl2 hs2 hmp;have hi' : plc k (bs.map ky) < (bs.map ky).length := by rw [HPI.out, List.length_map]; exact HI
 refine ⟨?_, ⟨E, bm, _, ky, _, _, M, hp, ?_⟩, (HT.out.trans ht2).widen yd⟩
 ·unfold tK wk vm;rw [if_pos hi', if_pos hi', if_pos hi']
  rfl
 ·unfold uR;rw [if_pos hi', HPI.out, List.map_cons, pa, getD_map ky bs 0 ky0 HI.out]
theorem tJ (w : World) (hup : ∀ b, w.heap.size <= b -> B b) (h : dm w B p room E bm bs ky pv nx M) (hw : (Lit.int .i64 k).wf = true) (hi : ¬ plc k (bs.map ky) < bs.length) (hl : bs.length < room) :
  Calls prog 85 #[.pointer (some ⟨p, 0, none⟩), .int .i64 k] w (j7 B p room k (bs.map ky) w) := by
 have hmk := h.mP hw hi;have hlen : (bs.map ky).length = bs.length := List.length_map _;have hle := h.ok.len;rw [hlen] at hle;have HI' : Hid (¬ plc k (bs.map ky) < (bs.map ky).length) := ae (by rw [hlen]; exact hi);have HLN := ae hlen;have HL := ae h;have HUP := ae hup;clear hup;have HK : Hid ((Instr.lookup 146 (.map (some bm)) (.int .i64 k) false).run prog w = .ok (.pointer none) w) := ae (by have := h.map.look hw; rw [hmk] at this; exact this);have HI := ae hi;have HW := ae hw;have HLT := ae hl;have HEQ : Hid (((bs.length : Int) == (room : Int)) = false) := ae (by simp; omega);clear hl;clear h hi hmk hw hlen hle;go_enter func85, ntmps85;go_wp2_with fail;refine (fA _ HL).mono ?_;rintro e w1 ⟨rfl, rfl⟩;go_upto_region 3 with fail;refine aH 2 ?_;refine ajB (ax rfl ajL jX) ?_;refine ajB (aC rfl ajL (pu (HL.out).c2)) ?_;refine runs 1 ?_;refine ajB (dl rfl ajL ajL HK) ?_;refine aF 1 ?_;go_upto_region 4 with fail;refine aH 1 ?_;refine ajB (cY false underlying119 rfl ajL evk rfl) ?_;refine ah ?_;go_upto_region 8 with fail;refine aR (B := w.heap.size) (by kernel_rfl) ?_;refine cy 2 ?_;refine ajJ (fun _ hw => ax rfl ajL jX) ?_;refine ajJ (fun _ hw => aC rfl ajL (pu (HL.out.below hw).c2)) ?_;refine ajJ (fun _ hw => mx rfl ajL (HL.out.below hw).map) ?_;refine cy 2 ?_;refine ajJ (fun _ hw => ax rfl ajL acV) ?_;refine ajJ (fun _ hw => aC rfl ajL (bY (HL.out.below hw).c0)) ?_;refine ajJ (fun _ hw => aE false rfl ajL ajL HEQ) ?_;refine wpQuiet_nil ?_;intro w2 hw2;have HL2 := ae (HL.out.below hw2);have HT2 := ae (bS.of_below (I := tm) (F := B) hw2);clear hw2;go_upto_region 14 with fail;refine aH 2 ?_;refine aw rfl (aA call126 rfl (evc ajL (evc ajL evn))) ?_;refine (aaP w2 (HUP.out _ HT2.out.size) HL2 HI HLT HW).mono ?_;rintro e w3 ⟨rfl, ⟨n, ky', pv', nx', M', h3, e3⟩, ht3⟩;refine aQ ?_;refine ah ?_;go_wp2_with fail
 go_ret3
 refine ⟨?_, ⟨E, bm, _, ky', pv', nx', M', h3, ?_⟩, HT2.out.trans ht3⟩
 ·unfold tK wk vm;rw [if_neg HI'.out, if_neg HI'.out, if_neg HI'.out, HLN.out, if_pos HLT.out, if_pos HLT.out, if_pos HLT.out]
  rfl
 ·unfold uR;rw [e3, if_neg HI'.out, HLN.out, if_pos HLT.out]
theorem uv (w : World) (h : dm w B p room E bm bs ky pv nx M) (hw : (Lit.int .i64 k).wf = true) (hi : ¬ plc k (bs.map ky) < bs.length) (hl : ¬ bs.length < room) (hu : lu (bs.map ky) = 0) :
  Calls prog 85 #[.pointer (some ⟨p, 0, none⟩), .int .i64 k] w (j7 B p room k (bs.map ky) w) := by
 have hmk := h.mP hw hi;have hlen : (bs.map ky).length = bs.length := List.length_map _;have hle := h.ok.len;rw [hlen] at hle;have HI' : Hid (¬ plc k (bs.map ky) < (bs.map ky).length) := ae (by rw [hlen]; exact hi);have HLN := ae hlen;have HL := ae h;have HK : Hid ((Instr.lookup 146 (.map (some bm)) (.int .i64 k) false).run prog w = .ok (.pointer none) w) := ae (by have := h.map.look hw; rw [hmk] at this; exact this);have HI := ae hi;have HW := ae hw;have HLT : Hid (¬ bs.length < room) := ae hl;have HEQ : Hid (((bs.length : Int) == (room : Int)) = true) := ae (by simp; omega);have HU := ae hu;clear hl hu;clear h hi hmk hw hlen hle;go_enter func85, ntmps85;go_wp2_with fail;refine (fA _ HL).mono ?_;rintro e w1 ⟨rfl, rfl⟩;go_upto_region 3 with fail;refine aH 2 ?_;refine ajB (ax rfl ajL jX) ?_;refine ajB (aC rfl ajL (pu (HL.out).c2)) ?_;refine runs 1 ?_;refine ajB (dl rfl ajL ajL HK) ?_;refine aF 1 ?_;go_upto_region 4 with fail;refine aH 1 ?_;refine ajB (cY false underlying119 rfl ajL evk rfl) ?_;refine ah ?_;go_upto_region 8 with fail;refine aR (B := w.heap.size) (by kernel_rfl) ?_;refine cy 2 ?_;refine ajJ (fun _ hw => ax rfl ajL jX) ?_;refine ajJ (fun _ hw => aC rfl ajL (pu (HL.out.below hw).c2)) ?_;refine ajJ (fun _ hw => mx rfl ajL (HL.out.below hw).map) ?_;refine cy 2 ?_;refine ajJ (fun _ hw => ax rfl ajL acV) ?_;refine ajJ (fun _ hw => aC rfl ajL (bY (HL.out.below hw).c0)) ?_;refine ajJ (fun _ hw => aE true rfl ajL ajL HEQ) ?_;refine wpQuiet_nil ?_;intro w2 hw2;have HL2 := ae (HL.out.below hw2);have HT2 := ae (bS.of_below (I := tm) (F := B) hw2);clear hw2;go_upto_region 9 with fail;refine aH 1 ?_;refine aw rfl (aA call124 rfl (evc ajL evn)) ?_;refine (tL w2 HL2 HU).mono ?_;rintro e w3 ⟨rfl, rfl⟩;refine aQ ?_;refine aF 1 ?_;go_upto_region 10 with fail;refine aH 1 ?_;refine ajB (dc true underlying119 rfl ajL evk rfl) ?_;refine ah ?_;go_wp2_with fail
 go_ret3
 refine ⟨?_, ⟨E, bm, bs, ky, pv, nx, M, HL2, ?_⟩, HT2⟩
 ·unfold tK wk vm;rw [if_neg HI'.out, if_neg HI'.out, if_neg HI'.out, HLN.out, if_neg HLT.out, if_neg HLT.out, if_neg HLT.out, if_pos HU.out, if_pos HU.out, if_pos HU.out]
  rfl
 ·unfold uR;rw [if_neg HI'.out, HLN.out, if_neg HLT.out, if_pos HU.out]
theorem tO (w : World) (hup : ∀ b, w.heap.size <= b -> B b) (h : dm w B p room E bm bs ky pv nx M) (hw : (Lit.int .i64 k).wf = true) (hi : ¬ plc k (bs.map ky) < bs.length) (hl : ¬ bs.length < room) {j : Nat} (hu : lu (bs.map ky) = j + 1) :
  Calls prog 85 #[.pointer (some ⟨p, 0, none⟩), .int .i64 k] w (j7 B p room k (bs.map ky) w) := by
 have hmk := h.mP hw hi;have hlen : (bs.map ky).length = bs.length := List.length_map _;have hle := h.ok.len;rw [hlen] at hle;have HI' : Hid (¬ plc k (bs.map ky) < (bs.map ky).length) := ae (by rw [hlen]; exact hi);have HLN := ae hlen;have HL := ae h;have HUP := ae hup;clear hup;have HK : Hid ((Instr.lookup 146 (.map (some bm)) (.int .i64 k) false).run prog w = .ok (.pointer none) w) := ae (by have := h.map.look hw; rw [hmk] at this; exact this);have HI := ae hi;have HW := ae hw;have HLT : Hid (¬ bs.length < room) := ae hl;have HEQ : Hid (((bs.length : Int) == (room : Int)) = true) := ae (by simp; omega);have hj : j < bs.length := by have := acp (bs.map ky); omega
 obtain ⟨b, hb⟩ : ∃ b, bs.getD j 0 = b := ⟨_, rfl⟩;have HU := ae hu;have HU0 : Hid (¬ lu (bs.map ky) = 0) := ae (by omega);have HJ := ae hj;have HB := ae hb;have HI3 : Hid (¬ plc k ((wo bs j).map ky) < (wo bs j).length) := ae fun e => by
  have e1 : k ∈ fk ((wo bs j).map ky) := lm.1 (by rw [List.length_map]; exact e);have e2 : plc k (bs.map ky) < (bs.map ky).length := lm.2 ((((jx bs j).map ky).map Ky.n).subset e1);exact HI'.out e2
 have HLT3 : Hid ((wo bs j).length < room) := ae (by have := nT hj; omega);clear hl hu hj hb;clear h hi hmk hw hlen hle;go_enter func85, ntmps85;go_wp2_with fail;refine (fA _ HL).mono ?_;rintro e w1 ⟨rfl, rfl⟩;go_upto_region 3 with fail;refine aH 2 ?_;refine ajB (ax rfl ajL jX) ?_;refine ajB (aC rfl ajL (pu (HL.out).c2)) ?_;refine runs 1 ?_;refine ajB (dl rfl ajL ajL HK) ?_;refine aF 1 ?_;go_upto_region 4 with fail;refine aH 1 ?_;refine ajB (cY false underlying119 rfl ajL evk rfl) ?_;refine ah ?_;go_upto_region 8 with fail;refine aR (B := w.heap.size) (by kernel_rfl) ?_;refine cy 2 ?_;refine ajJ (fun _ hw => ax rfl ajL jX) ?_;refine ajJ (fun _ hw => aC rfl ajL (pu (HL.out.below hw).c2)) ?_;refine ajJ (fun _ hw => mx rfl ajL (HL.out.below hw).map) ?_;refine cy 2 ?_;refine ajJ (fun _ hw => ax rfl ajL acV) ?_;refine ajJ (fun _ hw => aC rfl ajL (bY (HL.out.below hw).c0)) ?_;refine ajJ (fun _ hw => aE true rfl ajL ajL HEQ) ?_;refine wpQuiet_nil ?_;intro w2 hw2;have HL2 := ae (HL.out.below hw2);have HT2 := ae (bS.of_below (I := tm) (F := B) hw2);clear hw2;go_upto_region 9 with fail;refine aH 1 ?_;refine aw rfl (aA call124 rfl (evc ajL evn)) ?_;refine (uw w2 HL2 HU HB).mono ?_;rintro e w3 ⟨rfl, rfl⟩;refine aQ ?_;refine aF 1 ?_;go_upto_region 10 with fail;refine aH 1 ?_;refine ajB (dc false underlying119 rfl ajL evk rfl) ?_;refine ah ?_;go_upto_region 12 with fail;refine aH 2 ?_;refine aw rfl (aA call125 rfl (evc ajL (evc ajL evn))) ?_;refine (yY w2 HL2 HJ HB).mono ?_;rintro e w3 ⟨rfl, ⟨pv', nx', M', h3⟩, ht3, u, v, hn3⟩;refine aQ ?_;refine ah ?_;have HL3 := ae h3;have HN3 := ae hn3;have HT3 := ae (HT2.out.trans ht3);clear h3 hn3 ht3;go_upto_region 13 with fail;refine aH 2 ?_;refine ajB (ax rfl ajL abG) ?_;refine ajB (aC rfl ajL (bY (HN3.out).c0)) ?_;refine aF 2 ?_;go_upto_region 14 with fail;refine aH 2 ?_;refine aw rfl (aA call126 rfl (evc ajL (evc ajL evn))) ?_;refine (aaP w3 (HUP.out _ HT3.out.size) HL3 HI3 HLT3 HW).mono ?_;rintro e w4 ⟨rfl, ⟨n, ky', pv4, nx4, M4, h4, e4⟩, ht4⟩;refine aQ ?_;refine ah ?_;go_wp2_with fail
 go_ret3
 refine ⟨?_, ⟨E, bm, _, ky', pv4, nx4, M4, h4, ?_⟩, HT3.out.trans ht4⟩
 ·unfold tK wk vm;rw [if_neg HI'.out, if_neg HI'.out, if_neg HI'.out, HLN.out, if_neg HLT.out, if_neg HLT.out, if_neg HLT.out, if_neg HU0.out, if_neg HU0.out, if_neg HU0.out, HU.out, Nat.add_sub_cancel, getD_map ky bs 0 ky0 HJ.out, HB.out]
  rfl
 ·unfold uR;rw [e4, if_neg HI'.out, HLN.out, if_neg HLT.out, if_neg HU0.out, HU.out, Nat.add_sub_cancel, pa]
theorem kr (w : World) (hup : ∀ b, w.heap.size <= b -> B b) (h : PLF w B p room L) (hw : (Lit.int .i64 k).wf = true) : Calls prog 85 #[.pointer (some ⟨p, 0, none⟩), .int .i64 k] w (j7 B p room k L w) := by
 obtain ⟨E, bm, bs, ky, pv, nx, M, h, rfl⟩ := h;by_cases hi : plc k (bs.map ky) < bs.length
 ·exact vE w h hw hi
 ·by_cases hl : bs.length < room
  ·exact tJ w hup h hw hi hl
  ·rcases Nat.eq_zero_or_pos (lu (bs.map ky)) with hu | hu
   ·exact uv w h hw hi hl hu
   ·exact tO w hup h hw hi hl (j := lu (bs.map ky) - 1) (by omega)
theorem dm.find (w : World) (h : dm w B p room E bm bs ky pv nx M) (hw : (Lit.int .i64 k).wf = true) {i b : Nat} (hp : plc k (bs.map ky) = i) (hi : i < bs.length) (hb : bs.getD i 0 = b) : Calls prog 59 #[.pointer (some ⟨p, 0, none⟩), .int .i64 k] w fun e w' => e = .returned (.tuple #[.pointer (some ⟨b, 0, none⟩), .int .i64 0]) /\ w = w' :=
 sV w h hw (by have := h.acv (k := k) (by rw [hp]; exact hi); rw [hp, hb] at this; exact this)
theorem adX (w : World) (h : dm w B p room E bm bs ky pv nx M) (hw : (Lit.int .i64 k).wf = true) (is : Bool) (hi : ¬ plc k (bs.map ky) < bs.length) :
  Calls prog 55 #[.pointer (some ⟨p, 0, none⟩), .int .i64 k, .bool is] w fun e w' => e = .returned (.int .i64 (wK k (bs.map ky))) /\ PLF w' B p room (mK k is (bs.map ky)) /\ iJ B w w' := by
 have hi' : ¬ plc k (bs.map ky) < (bs.map ky).length := by rw [List.length_map]; exact hi
 have HI' := ae hi';have HF := ae (oP w h hw (h.mP hw hi));have HL := ae h;clear h hi hi' hw;go_enter func55, ntmps55;go_wp2_with fail;refine HF.out.mono ?_;rintro e w1 ⟨rfl, rfl⟩;go_wp2_with fail;go_ret;refine ⟨by rw [aeA HI'.out]; rfl, ⟨E, bm, bs, ky, pv, nx, M, HL, ?_⟩, bS.refl _ _ _⟩;unfold mK;rw [if_neg HI'.out]
theorem aaY (w : World) (h : dm w B p room E bm bs ky pv nx M) (hw : (Lit.int .i64 k).wf = true) (is : Bool) (hi : plc k (bs.map ky) < bs.length) :
  Calls prog 55 #[.pointer (some ⟨p, 0, none⟩), .int .i64 k, .bool is] w fun e w' => e = .returned (.int .i64 (wK k (bs.map ky))) /\ PLF w' B p room (mK k is (bs.map ky)) /\ iJ B w w' := by
 obtain ⟨i, hpi⟩ : ∃ i, plc k (bs.map ky) = i := ⟨_, rfl⟩;rw [hpi] at hi;obtain ⟨b, hb⟩ : ∃ b, bs.getD i 0 = b := ⟨_, rfl⟩;have hbs : b ∈ bs := by rw [<- hb]; exact cz hi
 have hi' : i < (bs.map ky).length := by rw [List.length_map]; exact hi
 have HL := ae h;have HF := ae (h.find w hw hpi hi hb);have HI := ae hi;have HI' := ae hi';have HB := ae hb;have HBS := ae hbs;have HPI := ae hpi;have hkn : (ky b).n = k := by
  have := oO (k := k) (L := bs.map ky) (by rw [hpi]; exact hi');rw [hpi, getD_map ky bs 0 ky0 hi, hb] at this;exact this
 have HKN := ae hkn;have HN := ae (h.lnk b (List.mem_cons_of_mem _ hbs));clear hkn;clear h hi hb hbs hpi hw hi';go_enter func55, ntmps55;go_wp2_with fail;refine HF.out.mono ?_;rintro e w1 ⟨rfl, rfl⟩;go_upto_region 4 with fail;refine aH 3 ?_;refine ajB (ax rfl ajL xX) ?_;refine aG rfl (c7 rfl (ev rfl) (ev rfl) (aiu HN.out.c1 (HN.out.fz 1))) ?_;simp only [aa];refine ah ?_;go_wp2_with fail;go_ret;have hm : b ∈ E :: bs := List.mem_cons_of_mem _ HBS;have hd := List.nodup_cons.1 HL.out.one;have hmap : bs.map (c8 ky b ⟨(ky b).n, is⟩) = (bs.map ky).set i ⟨k, is⟩ := by
  have := abE (ky := ky) (x := ⟨(ky b).n, is⟩) hd.2 HI;rw [HB.out] at this;rw [this, HKN.out]
 have hpin : mK k is (bs.map ky) = (bs.map ky).set i ⟨k, is⟩ := by unfold mK; rw [HPI.out, if_pos HI'.out]
 have hkk : ∀ x, (c8 ky b ⟨(ky b).n, is⟩ x).n = (ky x).n := fun x => by
  by_cases e : x = b
  ·subst e; rw [cU]
  ·rw [bZ _ _ e]
 have hB := HL.out.low.2.2 b hm;have ht : iJ B w (w.setCell ⟨b, 1, none⟩ (.bool is)) := ((bS.refl ng B w).node hB HN 1 (.bool is)).widen yd;have hoth : ∀ (c : Nat) (o : Obj), w.heap[c]? = some o -> ¬ ng o -> (w.setCell ⟨b, 1, none⟩ (.bool is)).heap[c]? = some o := fun c o ho hn => ((bS.refl ng B w).node hB HN 1 (.bool is)).keep ho hn
 refine ⟨by rw [aby HPI.out HI'.out]; rfl, ⟨E, bm, bs, c8 ky b ⟨(ky b).n, is⟩, pv, nx, M, ⟨hoth _ _ HL.out.at_ (by show ¬ (148 = 123); decide), HL.out.lnk.s1 is hm, HL.out.seg, HL.out.one, HL.out.map.kept fun es c hb => hoth _ _ hb fun e => e, fun x hx => by rw [hkk]; exact HL.out.hit x hx, fun j x hj hx => by rw [hkk]; exact HL.out.who j x hj hx, HL.out.low, ?_, HL.out.rm⟩, by rw [hmap, hpin]⟩, ht⟩;rw [hmap, <- hpin];exact HL.out.ok.pin
theorem wc (w : World) (h : dm w B p room E bm bs ky pv nx M) (hw : (Lit.int .i64 k).wf = true) (hi : ¬ plc k (bs.map ky) < bs.length) :
  Calls prog 25 #[.pointer (some ⟨p, 0, none⟩), .int .i64 k] w fun e w' => e = .returned (.bool (qc k (bs.map ky))) /\ w = w' := by
 have hr : qc k (bs.map ky) = false := by unfold qc; rw [List.length_map, am hi]; rfl
 have HF := ae (oP w h hw (h.mP hw hi));rw [hr];clear h hi hw hr;go_enter func25, ntmps25;go_wp2_with fail;refine HF.out.mono ?_;rintro e w1 ⟨rfl, rfl⟩;go_wp2_with fail;go_ret;exact ⟨rfl, rfl⟩
theorem tj (w : World) (h : dm w B p room E bm bs ky pv nx M) (hw : (Lit.int .i64 k).wf = true) (hi : plc k (bs.map ky) < bs.length) :
  Calls prog 25 #[.pointer (some ⟨p, 0, none⟩), .int .i64 k] w fun e w' => e = .returned (.bool (qc k (bs.map ky))) /\ w = w' := by
 obtain ⟨i, hpi⟩ : ∃ i, plc k (bs.map ky) = i := ⟨_, rfl⟩;rw [hpi] at hi;obtain ⟨b, hb⟩ : ∃ b, bs.getD i 0 = b := ⟨_, rfl⟩;have hbs : b ∈ bs := by rw [<- hb]; exact cz hi
 have hi' : i < (bs.map ky).length := by rw [List.length_map]; exact hi
 have HL := ae h;have HF := ae (h.find w hw hpi hi hb);have HI := ae hi;have HI' := ae hi';have HB := ae hb;have HBS := ae hbs;have HPI := ae hpi;have HN := ae (h.lnk b (List.mem_cons_of_mem _ hbs));have hr : qc k (bs.map ky) = (ky b).pin := by unfold qc; rw [hpi, ao hi', getD_map ky bs 0 ky0 hi, hb]; rfl
 rw [hr];clear hr;clear h hi hb hbs hpi hw hi';go_enter func25, ntmps25;go_wp2_with fail;refine HF.out.mono ?_;rintro e w1 ⟨rfl, rfl⟩;go_upto_region 2 with fail;refine aH 1 ?_;refine ajB (aE true rfl ajL evk rfl) ?_;refine runs 3 ?_;refine ajI (ax rfl ajL xX) ?_;refine ajI (aC rfl ajL (sO (HN.out).c1)) ?_;refine aF 2 ?_;go_wp2_with fail;go_ret;exact ⟨rfl, rfl⟩
theorem xA (w : World) (h : PLF w B p room L) (hw : (Lit.int .i64 k).wf = true) (is : Bool) : Calls prog 55 #[.pointer (some ⟨p, 0, none⟩), .int .i64 k, .bool is] w fun e w' => e = .returned (.int .i64 (wK k L)) /\ PLF w' B p room (mK k is L) /\ iJ B w w' := by
 obtain ⟨E, bm, bs, ky, pv, nx, M, h, rfl⟩ := h;by_cases hi : plc k (bs.map ky) < bs.length
 ·exact aaY w h hw is hi
 ·exact adX w h hw is hi
theorem nS (w : World) (h : PLF w B p room L) (hw : (Lit.int .i64 k).wf = true) : Calls prog 25 #[.pointer (some ⟨p, 0, none⟩), .int .i64 k] w fun e w' => e = .returned (.bool (qc k L)) /\ w = w' := by
 obtain ⟨E, bm, bs, ky, pv, nx, M, h, rfl⟩ := h;by_cases hi : plc k (bs.map ky) < bs.length
 ·exact tj w h hw hi
 ·exact wc w h hw hi
theorem ac3 (w : World) (h : PLF w B p room L) : Calls prog 84 #[.pointer (some ⟨p, 0, none⟩)] w fun e w' => e = .returned (.int .i64 (room : Int)) /\ w = w' := by
 obtain ⟨E, bm, bs, ky, pv, nx, M, h, rfl⟩ := h;have HL := ae h;clear h;go_enter func84, ntmps84;go_wp2_with fail;refine (fA _ HL).mono ?_;rintro e w1 ⟨rfl, rfl⟩;have c0 := HL.out.c0;go_wp2_with fail;go_ret;exact ⟨rfl, rfl⟩
theorem abx (w : World) (h : PLF w B p room L) : Calls prog 58 #[.pointer (some ⟨p, 0, none⟩)] w fun e w' => ∃ v, e = .returned v /\ aO bN w' w.heap.size v (fk L) /\ Below w.heap.size w w' := by
 obtain ⟨E, bm, bs, ky, pv, nx, M, h, rfl⟩ := h;have HL := ae h;have HE := ae (h.lnk E (by simp));have HNV : Hid (∀ i, i <= bs.length -> nx ((E :: bs).getD i 0) = (bs ++ [E]).getD i 0) := ae (aeh h.seg);have HEV : Hid (nx E = (bs ++ [E]).getD 0 0) := ae (HNV.out 0 (Nat.zero_le _));have hd := List.nodup_cons.1 h.one;have hone : (bs ++ [E]).Nodup := List.nodup_append.2 ⟨hd.2, by simp, fun x hx y hy e => by simp at hy; subst hy e; exact hd.1 hx⟩;have HPS : Hid (∀ i, i <= bs.length -> ni ((bs ++ [E]).getD i 0) (bs ++ [E]) = i) := ae fun i hi => kv hone (by simp; omega)
 have HNO := ae hd.1;have HLE : Hid (bs.length <= 64) := ae (by have := h.ok.len; rw [List.length_map] at this; have := h.rm; omega);obtain ⟨j0, hj0, hz0⟩ := afL;have HJ := ae hj0;have HZ := ae hz0;have HLK := ae h.lnk;have HKY : Hid (∀ i, i < bs.length -> fk ((bs.take i).map ky) ++ [(ky (bs.getD i 0)).n] = fk ((bs.take (i + 1)).map ky)) := ae fun i hi => by
  have e0 : bs.getD i 0 = bs[i] := by simp [List.getD, hi]
  rw [List.take_succ_eq_append_getElem hi, e0];unfold fk;rw [List.map_append, List.map_append]
  rfl
 have HKL : Hid (∀ i, i <= bs.length -> (fk ((bs.take i).map ky)).length <= 64) := ae fun i hi => by have := HLE.out; unfold fk; simp; omega
 clear h hj0 hz0 hd hone;go_enter func58, ntmps58;go_wp2_with fail;refine (fA _ HL).mono ?_;rintro e w1 ⟨rfl, rfl⟩;go_upto_region 4 with fail;refine aH 2 ?_;refine ajB (ax rfl ajL m0) ?_;refine ajB (aC rfl ajL (jp (HL.out).c1)) ?_;refine runs 1 ?_;refine ajB (ax rfl ajL lZ) ?_;refine ajB (aC rfl ajL (jp (HE.out).c3)) ?_;refine aF 1 ?_;rw [HEV.out];go_wp2_with fail
 go_loopw [3, 4] (fun u v wr => ∃ i, i <= bs.length /\ v = .pointer (some ⟨(bs ++ [E]).getD i 0, 0, none⟩) /\ aO bN wr w.heap.size u (fk ((bs.take i).map ky)) /\ Below w.heap.size w wr) (fun _ v _ => bs.length - ni (afK v) (bs ++ [E]))
 case atStart => exact ⟨0, Nat.zero_le _, rfl, by rw [List.take_zero]; exact aO.nil _ _, ak⟩
 case round =>
  obtain ⟨i, hi, rfl, hm, hbl⟩ := hrel;have HM := ae hm;have HB := ae hbl;clear hm hbl;by_cases hlt : i < bs.length
  ·obtain ⟨b, hb⟩ : ∃ b, bs.getD i 0 = b := ⟨_, rfl⟩;have hbm : b ∈ bs := by rw [<- hb]; exact cz hlt
   have hga : (bs ++ [E]).getD i 0 = b := by rw [<- hb]; simp [List.getD, List.getElem?_append_left hlt]
   have HN := ae (HL.out.below HB).lnk;have HNB := ae (HN.out b (List.mem_cons_of_mem _ hbm));have HNE : Hid (b ≠ E) := ae fun e => HNO.out (by rw [<- e]; exact hbm)
   have HPB : Hid (nx b = (bs ++ [E]).getD (i + 1) 0) := ae (by
    have := HNV.out (i + 1) (by omega);rw [<- this, <- hb]
    rfl)
   have HGA := ae hga;have HBE := ae hb;have HLT := ae hlt;clear hb hbm hga hlt;rw [HGA.out];go_upto_region 5 with fail;refine aH 3 ?_;refine ajB (ax rfl ajL m0) ?_;refine ajB (aC rfl ajL (jp ((HL.out.below HB)).c1)) ?_;refine ajB (kw true underlying119 HJ.out HZ.out rfl (ev rfl) (ev rfl) HNB.out (HN.out E (by simp)) (by have := HNE.out; simp [this])) ?_;refine ah ?_;go_upto_region 7 with fail;refine aH 3 ?_;refine ajB (ax rfl ajL abG) ?_;refine ajB (aC rfl ajL (bY (HNB.out).c0)) ?_;refine ajB (el (E := bN) (a := (ky b).n) rfl ajL rfl (by decide)) ?_;refine tR bN rfl _ _ rfl w.heap.size (wr.heap.size + 1) 1 1 _ (fk ((bs.take i).map ky)) [(ky b).n] (some ⟨wr.heap.size, 0, none⟩) ajL ajL (HM.out.below ((Below.refl _ wr).alloc aj _)) (fI wr _ _ rfl) (by rw [World.size_alloc]; exact Nat.le_succ_of_le HB.out.size) (by have := HKL.out i hi; omega) ?_;intro v' w2 hm2 hg2;simp only [aa];refine aF 1 ?_;have hky := HKY.out i HLT;rw [HBE.out] at hky;rw [hky] at hm2;have HM2 := ae hm2;have HB2 : Hid (Below w.heap.size w w2) := ae ((HB.out.alloc HB.out.size _).grown hg2 (by have := HB.out.size; simp; omega) fun j hj => HM.out.gW j hj);have HN2 := ae ((HL.out.below HB2).lnk b (List.mem_cons_of_mem _ (by rw [<- HBE.out]; exact cz HLT)));clear hm2 hg2 hky;go_upto_region 6 with fail;refine aH 2 ?_;refine ajB (ax rfl ajL lZ) ?_;refine ajB (aC rfl ajL (jp (HN2.out).c3)) ?_;refine aF 1 ?_;rw [HPB.out];go_wp2_with fail;go_roundw
   case rel => exact ⟨i + 1, HLT, rfl, HM2, HB2⟩
   case measure =>
    show bs.length - ni ((bs ++ [E]).getD (i + 1) 0) (bs ++ [E]) < bs.length - ni b (bs ++ [E])
    have h1 := HPS.out (i + 1) HLT;have h2 := HPS.out i hi;rw [HGA.out] at h2;have := HLT.out;omega
  ·have hie : i = bs.length := by omega
   have HGA : Hid ((bs ++ [E]).getD i 0 = E) := ae (by rw [hie]; simp);have HN := ae ((HL.out.below HB).lnk E (by simp));have HTK : Hid (bs.take i = bs) := ae (by rw [hie, List.take_length]);clear hie hlt;rw [HGA.out];go_upto_region 5 with fail;refine aH 3 ?_;refine ajB (ax rfl ajL m0) ?_;refine ajB (aC rfl ajL (jp ((HL.out.below HB)).c1)) ?_;refine ajB (kw false underlying119 HJ.out HZ.out rfl (ev rfl) (ev rfl) HN.out HN.out (by simp)) ?_;refine ah ?_;have hm := HM.out;rw [HTK.out] at hm;have HM2 := ae hm;clear hm;go_wp2_with fail;go_ret;exact ⟨_, rfl, HM2, HB⟩
end
theorem ad8 (room : Nat) (w : World) (h1 : 1 <= room) (h2 : room <= 64) : Calls prog 48 #[.int .i64 (room : Int)] w fun e w' => ∃ p, e = .returned (.tuple #[.pointer (some ⟨p, 0, none⟩), .int .i64 0]) /\ PLF w' (fun b => w.heap.size <= b) p room [] /\ Below w.heap.size w w' := by
 have hmm := @run_makeMap prog;have hd : decide ((room : Int) < 1) = false := am (by omega);have hd2 : decide (64 < (room : Int)) = false := am (by omega);go_enter func48, ntmps48;go_wp2_with fail;go_ret2;have b1 : Below w.heap.size w (w.alloc (.cells (qe ky0 (ptB w.heap.size) (ptB w.heap.size)).toArray 123)) := ak.alloc aj _;have hb : Below w.heap.size w (((w.alloc (.cells (qe ky0 (ptB w.heap.size) (ptB w.heap.size)).toArray 123)).alloc (.map #[] 0)).alloc (.cells #[.int .i64 (room : Int), ptB w.heap.size, .map (some (w.heap.size + 1))] 148)) :=
  (b1.alloc (by simp) _).alloc (by simp; omega) _
 refine ⟨_, rfl, ⟨w.heap.size, w.heap.size + 1, [], fun _ => ky0, fun _ => w.heap.size, fun _ => w.heap.size, fun _ => none, ⟨?_, fun b hb => ?_, ⟨rfl, rfl⟩, by simp, ?_, by simp, (fun k b _ e => by cases e), ⟨by omega, by omega, fun b hb => by simp at hb; omega⟩, LOk.nil, ⟨h1, h2⟩⟩, rfl⟩, hb⟩
 ·have := heap_alloc_new ((w.alloc (.cells (qe ky0 (ptB w.heap.size) (ptB w.heap.size)).toArray 123)).alloc (.map #[] 0)) (.cells #[.int .i64 (room : Int), ptB w.heap.size, .map (some (w.heap.size + 1))] 148);rw [World.size_alloc, World.size_alloc] at this;exact this
 ·simp at hb;subst hb;exact br (br (heap_alloc_new w _) _) _
 ·have := dB.made (w.alloc (.cells (qe ky0 (ptB w.heap.size) (ptB w.heap.size)).toArray 123));rw [World.size_alloc] at this;exact this.kept fun es c hb => br hb _
open Go.RowKit Go.ChangeShapes Go.WideShapes Go.ChangeAt Go.Deep
structure ajv where
 Do : Int
 Mem : Int
 B : Blk
 Seq : Nat
structure LnI where
 P : World -> Nat -> Nat -> LnS -> Prop
 I : Obj -> Prop
 keep : ∀ {w w' : World} {B p : Nat} {s : LnS}, P w B p s -> (∀ (b : Nat) (o : Obj), w.heap[b]? = some o -> I o -> w'.heap[b]? = some o) -> P w' B p s
 ok : ∀ {w : World} {B p : Nat} {s : LnS}, P w B p s -> dO s /\ B <= p /\ p < w.heap.size
 rn : ∀ o, ajc o -> ¬ I o
 new_ok : ∀ (N : Nat) (w : World), 1 <= N -> N <= 16 -> Calls prog 86 #[.int .i64 (N : Int)] w fun e w' => ∃ p, e = .returned (.tuple #[.pointer (some ⟨p, 0, none⟩), .int .i64 0]) /\ P w' w.heap.size p (dS N) /\ Below w.heap.size w w'
 new_no : ∀ (n : Int) (w : World), ¬ (1 <= n /\ n <= 16) -> Calls prog 86 #[.int .i64 n] w fun e w' => e = .returned (.tuple #[.pointer none, .int .i64 2]) /\ Below w.heap.size w w'
 set_ : ∀ (w : World) (m : Int) (b : Blk) (Q : Nat) {B p : Nat} {s : LnS}, P w B p s -> Q < 18446744073709551616 -> Calls prog 54 #[.pointer (some ⟨p, 0, none⟩), .int .i64 m, blk b, .int .u64 (Q : Int)] w fun e w' => e = .returned (.int .i64 (qh s m Q)) /\ P w' B p (eg s m b Q) /\ agR I B w w'
 forget_ : ∀ (w : World) (m : Int) {B p : Nat} {s : LnS}, P w B p s -> Calls prog 57 #[.pointer (some ⟨p, 0, none⟩), .int .i64 m] w fun e w' => e = .returned (.int .i64 (lnE s m)) /\ P w' B p (fN s m) /\ agR I B w w'
 clean_ : ∀ (w : World)  {B p : Nat} {s : LnS}, P w B p s -> Calls prog 77 #[.pointer (some ⟨p, 0, none⟩)] w fun e w' => e = .returned (.int .i64 0) /\ P w' B p (fL s) /\ agR I B w w'
 get_ : ∀ (w : World) (m : Int) {B p : Nat} {s : LnS}, P w B p s -> Calls prog 32 #[.pointer (some ⟨p, 0, none⟩), .int .i64 m] w fun e w' => e = .returned (.tuple #[blk (lnG s m).b, .bool (lnG s m).kn]) /\ Below w.heap.size w w'
 dirty_ : ∀ (w : World)  {B p : Nat} {s : LnS}, P w B p s -> Calls prog 31 #[.pointer (some ⟨p, 0, none⟩)] w fun e w' => ∃ v, e = .returned v /\ aO bN w' w.heap.size v (lnD s) /\ Below w.heap.size w w'
 members_ : ∀ (w : World)  {B p : Nat} {s : LnS}, P w B p s -> Calls prog 64 #[.pointer (some ⟨p, 0, none⟩)] w fun e w' => e = .returned (.int .i64 (s.l.length : Int)) /\ Below w.heap.size w w'
 No : World -> Value -> Prop
 zc : List Value
 no_nil : ∀ w : World, No w (.pointer none)
 bld0 : ∀ w : World, (Instr.build 134 #[]).run prog w = .ok (.agg zc.toArray) w
 no_zero : ∀ w : World, No (w.alloc (.cells zc.toArray 134)) (.pointer (some ⟨w.heap.size, 0, none⟩))
 no_below : ∀ {w w' : World} {v : Value}, No w v -> Below w.heap.size w w' -> No w' v
 no_set : ∀ (w : World) (v : Value) (m : Int) (b : Blk) (Q : Nat), No w v -> Calls prog 54 #[v, .int .i64 m, blk b, .int .u64 (Q : Int)] w fun e w' => e = .returned (.int .i64 1) /\ Below w.heap.size w w'
 no_forget : ∀ (w : World) (v : Value) (m : Int), No w v -> Calls prog 57 #[v, .int .i64 m] w fun e w' => e = .returned (.int .i64 1) /\ Below w.heap.size w w'
 no_clean : ∀ (w : World) (v : Value) , No w v -> Calls prog 77 #[v] w fun e w' => e = .returned (.int .i64 1) /\ Below w.heap.size w w'
 no_get : ∀ (w : World) (v : Value) (m : Int), No w v -> Calls prog 32 #[v, .int .i64 m] w fun e w' => e = .returned (.tuple #[blk aI, .bool false]) /\ Below w.heap.size w w'
 no_dirty : ∀ (w : World) (v : Value) , No w v -> Calls prog 31 #[v] w fun e w' => e = .returned (.slice none 0 0) /\ Below w.heap.size w w'
 no_members : ∀ (w : World) (v : Value) , No w v -> Calls prog 64 #[v] w fun e w' => e = .returned (.int .i64 0) /\ Below w.heap.size w w'
structure LnF where
 n : Int
 kn : Nat -> Bool
 dt : Nat -> Bool
 bl : Nat -> Blk
 f : Int
def fF (x : LnF) (i : Nat) : Value :=
 if i = 0 then .int .i64 x.n
 else if i < 17 then .bool (x.kn (i - 1))
 else if i < 33 then .bool (x.dt (i - 17))
 else if i < 1057 then .int .u8 (byt (x.bl ((i - 33) / 64)) ((i - 33) % 64))
 else .int .u64 x.f
def gV (x : LnF) : List Value := (List.range 1058).map (fF x)
theorem gP (x : LnF) : (gV x).length = 1058 := by simp [gV]
theorem jm (x : LnF) {i : Nat} (h : i < 1058) : (gV x)[i]? = some (fF x i) := by
 simp only [gV, List.getElem?_map, List.getElem?_range h, Option.map_some]
section
variable {x y : LnF} {k j : Nat}
theorem adk (hk : k < 16) : fF x (1 + k) = .bool (x.kn k) := by
 unfold fF;rw [if_neg (by omega), if_pos (by omega), show 1 + k - 1 = k from by omega]
theorem vz (hk : k < 16) : fF x (17 + k) = .bool (x.dt k) := by
 unfold fF;rw [if_neg (by omega), if_neg (by omega), if_pos (by omega), show 17 + k - 17 = k from by omega]
theorem aaU (hk : k < 16) (hj : j < 64) : fF x (33 + k * 64 + j) = .int .u8 (byt (x.bl k) j) := by
 unfold fF;rw [if_neg (by omega), if_neg (by omega), if_neg (by omega), if_pos (by omega), show (33 + k * 64 + j - 33) / 64 = k from by omega, show (33 + k * 64 + j - 33) % 64 = j from by omega]
def afQ (o m : Nat) (x y : LnF) : Prop := ∀ i, i < 1058 -> ¬ (o <= i /\ i < o + m) -> fF x i = fF y i
theorem acE {o : Nat} {vs : List Value} (h : ∀ j, j < vs.length -> vs[j]? = some (fF y (o + j))) (h2 : afQ o vs.length x y) (hm : o + vs.length <= 1058) : (gV x).take o ++ vs ++ (gV x).drop (o + vs.length) = gV y := by
 have hl : ((gV x).take o).length = o := by rw [List.length_take, gP]; omega
 refine List.ext_getElem? fun i => ?_
 by_cases hi : i < 1058
 ·rw [jm y hi, List.append_assoc];by_cases h1 : i < o
  ·rw [List.getElem?_append_left (by omega), List.getElem?_take_of_lt h1, jm x hi, h2 i hi (by omega)]
  ·rw [List.getElem?_append_right (by omega), hl];by_cases h3 : i < o + vs.length
   ·rw [List.getElem?_append_left (by omega), h (i - o) (by omega), show o + (i - o) = i from by omega]
   ·rw [List.getElem?_append_right (by omega), List.getElem?_drop, show o + vs.length + (i - o - vs.length) = i from by omega, jm x hi, h2 i hi (by omega)]
 ·rw [List.getElem?_eq_none (by simp only [List.length_append, hl, List.length_drop, gP]; omega), List.getElem?_eq_none (by rw [gP]; omega)]
end
def LnA (w : World) (p : Nat) (x : LnF) : Prop := w.heap[p]? = some (.cells (gV x).toArray 134 (0, 0))
section
variable {w w' : World} {p o k : Nat} {x y : LnF} {vs : List Value}
theorem LnA.put (h : LnA w p x) (hv : ∀ j, j < vs.length -> vs[j]? = some (fF y (o + j))) (h2 : afQ o vs.length x y) (hm : o + vs.length <= 1058) : LnA (w.setCells p o vs) p y := by
 have hs : gV x = (gV x).take o ++ ((gV x).drop o).take vs.length ++ (gV x).drop (o + vs.length) := by
  rw [List.append_assoc, <- List.drop_drop, List.take_append_drop, List.take_append_drop]
 have h' := h;unfold LnA at h';rw [hs] at h';have := heap_put p 134 _ vs _ _ w (by rw [List.length_take, List.length_drop, gP]; omega) h';rw [acE hv h2 hm, List.length_take, gP, Nat.min_eq_left (by omega)] at this;exact this
theorem LnA.lt (h : LnA w p x) : p < w.heap.size := aT h
theorem LnA.fz (h : LnA w p x) (j : Nat) : w.frozen? ⟨p, j, none⟩ = false := frozen_of_row w p j _ _ h
theorem LnA.at_ (h : LnA w p x) {i : Nat} (hi : i < 1058) : w.cell? ⟨p, i, none⟩ = some (fF x i) := by
 have := (aP h) i _ (jm x hi);rwa [Nat.zero_add] at this
theorem LnA.there (h : LnA w p x) {o m : Nat} (hm : o + m <= 1058) : w.there p o m := fun i hi => ⟨by rw [h.at_ (by omega)]; rfl, h.fz _⟩
theorem LnA.cN (h : LnA w p x) : w.cell? ⟨p, 0, none⟩ = some (.int .i64 x.n) := h.at_ (i := 0) (by omega)
theorem LnA.cK (h : LnA w p x) (hk : k < 16) : w.cell? ⟨p, 1 + k, none⟩ = some (.bool (x.kn k)) := by rw [h.at_ (by omega), adk hk]
theorem LnA.cD (h : LnA w p x) (hk : k < 16) : w.cell? ⟨p, 17 + k, none⟩ = some (.bool (x.dt k)) := by rw [h.at_ (by omega), vz hk]
theorem LnA.cF (h : LnA w p x) : w.cell? ⟨p, 1057, none⟩ = some (.int .u64 x.f) := h.at_ (i := 1057) (by omega)
theorem LnA.cB (h : LnA w p x) (hk : k < 16) : w.rangeAt p (33 + k * 64) (cel (x.bl k)) := fun j v hj => by
 have hl : j < 64 := by
  have := (List.getElem?_eq_some_iff.1 hj).1;rwa [aM] at this
 rw [mw _ hl] at hj;injection hj with hj;subst hj;rw [h.at_ (by omega), aaU hk hl]
def gB {α : Type} (g : Nat -> α) (k : Nat) (a : α) : Nat -> α := fun j => if j = k then a else g j
theorem LnA.sK (h : LnA w p x) (hk : k < 16) (c : Bool) : LnA (w.setCell ⟨p, 1 + k, none⟩ (.bool c)) p { x with kn := gB x.kn k c } := by
 refine LnA.put (vs := [.bool c]) (o := 1 + k) h (fun j hj => ?_) (fun i hi hn => ?_) (by simp; omega)
 ·have : j = 0 := by simpa using hj
  subst this;rw [Nat.add_zero, adk hk]; simp [gB]
 ·simp at hn;unfold fF
  split
  ·rfl
  ·split
   ·simp only [gB]; rw [if_neg (by omega)]
   ·rfl
theorem LnA.sD (h : LnA w p x) (hk : k < 16) (c : Bool) : LnA (w.setCell ⟨p, 17 + k, none⟩ (.bool c)) p { x with dt := gB x.dt k c } := by
 refine LnA.put (vs := [.bool c]) (o := 17 + k) h (fun j hj => ?_) (fun i hi hn => ?_) (by simp; omega)
 ·have : j = 0 := by simpa using hj
  subst this;rw [Nat.add_zero, vz hk]; simp [gB]
 ·simp at hn;unfold fF
  split
  ·rfl
  ·split
   ·rfl
   ·split
    ·simp only [gB]; rw [if_neg (by omega)]
    ·rfl
theorem LnA.sB (h : LnA w p x) (hk : k < 16) (b : Blk) : LnA (w.setCells p (33 + k * 64) (cel b)) p { x with bl := gB x.bl k b } := by
 refine LnA.put h (fun j hj => ?_) (fun i hi hn => ?_) (by rw [aM]; omega)
 ·rw [aM] at hj;rw [aaU hk hj, mw _ hj]; simp [gB]
 ·rw [aM] at hn;unfold fF
  split
  ·rfl
  ·split
   ·rfl
   ·split
    ·rfl
    ·split
     ·simp only [gB]; rw [if_neg (by omega)]
     ·rfl
theorem LnA.sF (h : LnA w p x) (q : Int) : LnA (w.setCell ⟨p, 1057, none⟩ (.int .u64 q)) p { x with f := q } := by
 refine LnA.put (vs := [.int .u64 q]) (o := 1057) h (fun j hj => ?_) (fun i hi hn => ?_) (by simp)
 ·have : j = 0 := by simpa using hj
  subst this
  rfl
 ·simp at hn;unfold fF
  split
  ·rfl
  ·split
   ·rfl
   ·split
    ·rfl
    ·rw [if_pos (by omega), if_pos (by omega)]
def qi : List Value := List.replicate 16 (.bool false)
theorem LnA.sD0 (h : LnA w p x) : LnA (w.setCells p 17 qi) p { x with dt := fun _ => false } := by
 refine LnA.put h (fun j hj => ?_) (fun i hi hn => ?_) (by simp [qi])
 ·have hj' : j < 16 := by simpa [qi] using hj
  rw [vz hj'];exact List.getElem?_replicate_of_lt hj'
 ·simp [qi] at hn;unfold fF
  split
  ·rfl
  ·split
   ·rfl
   ·split
    ·omega
    ·rfl
end
def lf (s : LnS) : LnF := ⟨(s.l.length : Int), fun k => (cW s k).kn, fun k => (cW s k).dt, fun k => (cW s k).b, (s.f : Int)⟩
def lf0 (n : Int) : LnF := ⟨n, fun _ => false, fun _ => false, fun _ => aI, 0⟩
theorem acZ {s : LnS} {k : Nat} (hk : k < s.l.length) (a : LC) (f : Nat) (j : Nat) : cW ⟨s.l.set k a, f⟩ j = if j = k then a else cW s j := jh _ _ _ _ _ hk
theorem acJ {s : LnS} {k : Nat} (hk : k < s.l.length) (a : LC) (f : Nat) : lf ⟨s.l.set k a, f⟩ = ⟨(s.l.length : Int), gB (lf s).kn k a.kn, gB (lf s).dt k a.dt, gB (lf s).bl k a.b, (f : Int)⟩ := by
 unfold lf;simp only [LnF.mk.injEq, List.length_set, true_and, and_true];refine ⟨funext fun j => ?_, funext fun j => ?_, funext fun j => ?_⟩ <;> (rw [acZ hk]; simp only [gB]; split <;> rfl)
theorem aho (s : LnS) : lf (fL s) = { lf s with dt := fun _ => false, f := 0 } := by
 unfold lf;simp only [LnF.mk.injEq, xZ, true_and];refine ⟨funext fun j => ?_, funext fun j => ?_, funext fun j => ?_, rfl⟩ <;> rw [wZ] <;> rfl
theorem agy (n : Nat) : lf (dS n) = lf0 (n : Int) := by
 have h : ∀ j, cW (dS n) j = lc0 := fun j => by
  simp only [cW, dS, List.getD, List.getElem?_replicate]
  split <;> rfl
 unfold lf lf0;simp only [LnF.mk.injEq];refine ⟨by simp [dS], funext fun j => by rw [h]; rfl, funext fun j => by rw [h]; rfl, funext fun j => by rw [h]; rfl, rfl⟩
end Go.Proofs.YtlmdklakcmnaiaaGreatDoor
