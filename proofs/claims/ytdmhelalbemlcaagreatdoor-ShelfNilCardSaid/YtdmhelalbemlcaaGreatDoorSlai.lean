import Derived.Test.YtdmhelalbemlcaaGreatDoorSlah
namespace Go.Proofs.YtdmhelalbemlcaaGreatDoor
set_option maxHeartbeats 8000000
open Go.Proofs.Tryz
open Go.RowKit
set_option maxRecDepth 100000
set_option linter.unusedVariables false
set_option linter.unusedSimpArgs false
section
variable {P : Program} {ops : Array Oper} {Q : Exit -> Act -> World -> Prop} {md : Region.Mode} {S T : World -> Prop} {z : Nat}
def gK (S T : World -> Prop) (z : Nat) (listed : Array Bool) (w : World) : Prop := (listed.getD z false = false -> S w) /\ (listed.getD z false = true -> T w)
def eS (P : Program) (md : Region.Mode) (ops : Array Oper) (Q : Exit -> Act -> World -> Prop) (S T : World -> Prop) (z : Nat) : Nat -> Array Bool -> Act -> World -> Prop
 |0, listed, a, w => Region.ready md ops listed = [] /\ Q .normal a w
 |fuel + 1, listed, a, w =>
  (Region.ready md ops listed = [] -> Q .normal a w) /\
  ∀ i ∈ Region.ready md ops listed, wpOp P ops Q i (fun a' w' => gK S T z (listed.setIfInBounds i true) w' /\ eS P md ops Q S T z fuel (listed.setIfInBounds i true) a' w') a w
theorem pa : ∀ (fuel : Nat) (listed : Array Bool) (a : Act) (w : World), eS P md ops Q S T z fuel listed a w -> wpAny P md ops Q fuel listed a w
 |0, _, _, _, h => h
 |fuel + 1, _, _, _, h => ⟨h.1, fun i hi => wpOp_mono (fun a' w' h' => pa fuel _ a' w' h'.2) (h.2 i hi)⟩
theorem iU {l : Array Bool} {i j : Nat} (h : j ≠ i) : (l.setIfInBounds i true).getD j false = l.getD j false := by
 by_cases hj : j < l.size
 ·simp [hj, Array.getElem_setIfInBounds, Ne.symm h]
 ·simp [Array.getElem?_eq_none (Nat.le_of_not_lt hj), hj]
theorem rp {listed : Array Bool} {w : World} {i : Nat} (h : gK S T z listed w) (hi : i ≠ z) : gK S T z (listed.setIfInBounds i true) w := by
 unfold gK at *;rw [iU (Ne.symm hi)];exact h
theorem acn {listed : Array Bool} {w : World} {i : Nat} (h : gK S T z (listed.setIfInBounds i true) w) (hi : i ≠ z) : gK S T z listed w := by
 unfold gK at *;rw [iU (Ne.symm hi)] at h;exact h
theorem mn {i : Nat} {oi : Oper} {v : Value} (hi : ops[i]? = some oi) (hsel : ∀ (j : Nat) (o : Oper) cs b, ops[j]? = some o -> o.op ≠ .select cs b)
  (hQ : ∀ c a w, Q (.panic c) (a.put oi.dst v) w -> Q (.panic c) a w) (hiz : i ≠ z) {U : World -> Prop} (hS : ∀ w, S w -> U w) (hT : iS md ops z i = true \/ ∀ w, T w -> U w) :
  ∀ (fuel : Nat) (listed : Array Bool) (a : Act) (w : World),
   (∀ j oj, ops[j]? = some oj -> j ≠ i -> listed.getD j true = false -> (∀ e ∈ oj.after, Region.binds md e = true -> e.on ≠ i) -> oi.apart ops oj = true) ->
   i ∈ Region.ready md ops listed -> (iS md ops z i = true -> listed.getD z false = false) -> YieldsIf P ops U oi v a -> gK S T z listed w ->
   eS P md ops Q S T z fuel (listed.setIfInBounds i true) (a.put oi.dst v) w -> eS P md ops Q S T z (fuel + 1) listed a w := by
 intro fuel;have key : ∀ (listed : Array Bool) (w : World), (iS md ops z i = true -> listed.getD z false = false) -> gK S T z listed w -> U w := fun listed w hz hc => by
  by_cases hl : listed.getD z false = false
  ·exact hS w (hc.1 hl)
  ·rcases hT with h | h
   ·exact absurd (hz h) hl
   ·exact h w (hc.2 (by simpa using hl))
 induction fuel with
 |zero =>
  intro listed a w _ hr hz hy hc H;refine ⟨fun h => (by rw [h] at hr; cases hr), fun j hj => ?_⟩;by_cases hji : j = i
  ·subst hji; exact hy.wpOp hi (key listed w hz hc) ⟨rp hc hiz, H⟩
  ·have := ready_mono hj hji;rw [H.1] at this;cases this
 |succ fuel ih =>
  intro listed a w hfree hr hz hy hc H;refine ⟨fun h => (by rw [h] at hr; cases hr), fun j hj => ?_⟩;by_cases hji : j = i
  ·subst hji; exact hy.wpOp hi (key listed w hz hc) ⟨rp hc hiz, H⟩
  ·have h1 := H.2 j (ready_mono hj hji);obtain ⟨hjun, oj, hoj, hall⟩ := mem_ready.1 hj;have hnot : ∀ e ∈ oj.after, Region.binds md e = true -> e.on ≠ i := fun e he hb heq => by
    have h1 := hall e he hb;rw [heq, ye (mem_ready.1 hr).1] at h1;cases h1
   have h2 := wpOp_putIf hoj (hfree j oj hoj hji hjun hnot) (fun cs b => hsel i oi cs b hi) (fun cs b => hsel j oj cs b hoj) hQ hy h1;have hfree' : ∀ k ok, ops[k]? = some ok -> k ≠ i -> (listed.setIfInBounds j true).getD k true = false ->
     (∀ e ∈ ok.after, Region.binds md e = true -> e.on ≠ i) -> oi.apart ops ok = true := fun k ok hk hki hun hno => by
    refine hfree k ok hk hki ?_ hno;by_cases hjk : j = k
    ·subst hjk; exact hjun
    ·rw [getD_set_ne true hjk] at hun; exact hun
   have hz' : iS md ops z i = true -> (listed.setIfInBounds j true).getD z false = false := fun hw => by
    have hjz : j ≠ z := fun e => by
     subst e;exact px hw (ye (mem_ready.1 hr).1) hj
    rw [iU (Ne.symm hjz)];exact hz hw
   refine wpOp_mono (fun a' w' h3 => ?_) h2;have hc' : gK S T z (listed.setIfInBounds j true) w' := by
    have h4 := h3.2.1;rw [Array.setIfInBounds_comm _ _ (Ne.symm hji)] at h4;exact acn h4 hiz
   refine ⟨hc', ih (listed.setIfInBounds j true) a' w' hfree' (ready_mono hr (Ne.symm hji)) hz' h3.1 hc' ?_⟩;rw [Array.setIfInBounds_comm _ _ hji];exact h3.2.2
theorem oC {rs : List Nat} {fuel : Nat} {listed : Array Bool} {a : Act} {w : World} (hr : Region.ready md ops listed = rs) (hne : rs ≠ [])
  (h : ∀ i ∈ rs, wpOp P ops Q i (fun a' w' => gK S T z (listed.setIfInBounds i true) w' /\ eS P md ops Q S T z fuel (listed.setIfInBounds i true) a' w') a w) : eS P md ops Q S T z (fuel + 1) listed a w :=
 ⟨fun h0 => absurd (hr ▸ h0) hne, hr ▸ h⟩
theorem uk {listed : Array Bool} {a : Act} {w : World} (hr : Region.ready md ops listed = []) (h : Q .normal a w) :
  ∀ fuel, eS P md ops Q S T z fuel listed a w
 |0 => ⟨hr, h⟩
 |_ + 1 => ⟨fun _ => h, by rw [hr]; simp⟩
theorem qo {id : Nat} {a : Act} {w : World} (S T : World -> Prop) (z : Nat) (hm : P.follows .mixedOrders = true)
  (h : eS P .any ops Q S T z ops.size (Array.replicate ops.size false) a w.drew) : (Code.region id ops true).wp P Q a w :=
 wp_region_any hm (pa _ _ _ _ h)
end
section
variable {P : Program} {md : Region.Mode} {l : List Oper} {Q : Exit -> Act -> World -> Prop} {S T : World -> Prop} {z fuel : Nat} {listed : Array Bool} {a : Act} {w w' : World} {o : Oper} {v : Value}
theorem jz (i : Nat) (hi : l[i]? = some o) (hs : Region.noSelect l.toArray = true) (hf : Region.free md l.toArray listed i = true) (hr : (Region.ready md l.toArray listed).contains i = true) (hiz : i ≠ z) (hwz : iS md l.toArray z i = true) (hlz : listed.getD z false = false)
  (hw : Region.wanted o (yielded l.toArray a.tmps) = true) (h : ∀ w, S w -> (execOp a.eval o).run P w = .ok (.value v) w) (hQ : ∀ c a w, Q (.panic c) (a.put o.dst v) w -> Q (.panic c) a w) (hS : S w)
  (hk : eS P md l.toArray Q S T z fuel (listed.setIfInBounds i true) (a.put o.dst v) w) : eS P md l.toArray Q S T z (fuel + 1) listed a w :=
 mn (by simpa using hi) (Region.noSelect_spec hs) hQ hiz (U := S) (fun _ h => h) (.inl hwz) fuel listed a w (Region.free_spec (by simpa using hi) hf) (by simpa using hr) (fun _ => hlz) (.inl ⟨hw, h⟩) ⟨fun _ => hS, fun e => absurd (e.symm.trans hlz) (by decide)⟩ hk
theorem aks (i : Nat) (hi : l[i]? = some o) (h : ∀ w, S w -> (execOp a.eval o).run P w = .ok (.value v) w) (hS : S w) (hk : eS P md l.toArray Q S T z fuel (listed.setIfInBounds i true) (a.put o.dst v) w) (hs : Region.noSelect l.toArray = true := by kernel_rfl) (hf : Region.free md l.toArray listed i = true := by kernel_rfl) (hr : (Region.ready md l.toArray listed).contains i = true := by kernel_rfl) (hiz : i ≠ z := by decide) (hwz : iS md l.toArray z i = true := by kernel_rfl) (hlz : listed.getD z false = false := by kernel_rfl) (hw : Region.wanted o (yielded l.toArray a.tmps) = true := by exact rfl) (hQ : ∀ c a w, Q (.panic c) (a.put o.dst v) w -> Q (.panic c) a w := by exact fun _ _ _ h => h) : eS P md l.toArray Q S T z (fuel + 1) listed a w := jz i hi hs hf hr hiz hwz hlz hw h hQ hS hk
theorem akz {l0 l1 : List Value} {ds0 : List Deferred} {i0 : Nat} (i : Nat) (hi : l[i]? = some o) (h : ∀ w, S w -> (execOp (Act.mk l0.toArray ds0).eval o).run P w = .ok (.value v) w) (hS : S w) (hk : eS P md l.toArray Q S T z fuel (listed.setIfInBounds i true) ⟨l1.toArray, ds0⟩ w) (hd : o.dst = some i0 := by exact rfl) (hl : l0.set i0 v = l1 := by simp only [ai] <;> rfl) (hs : Region.noSelect l.toArray = true := by kernel_rfl) (hf : Region.free md l.toArray listed i = true := by kernel_rfl) (hr : (Region.ready md l.toArray listed).contains i = true := by kernel_rfl) (hiz : i ≠ z := by decide) (hwz : iS md l.toArray z i = true := by kernel_rfl) (hlz : listed.getD z false = false := by kernel_rfl) (hw : Region.wanted o (yielded l.toArray l0.toArray) = true := by exact rfl) (hQ : ∀ c a w, Q (.panic c) (a.put o.dst v) w -> Q (.panic c) a w := by exact fun _ _ _ h => h) : eS P md l.toArray Q S T z (fuel + 1) listed ⟨l0.toArray, ds0⟩ w := aks i hi h hS (by have e : Act.put (Act.mk l0.toArray ds0) o.dst v = ⟨l1.toArray, ds0⟩ := (by rw [hd, <- hl]; show Act.mk (l0.toArray.setIfInBounds i0 v) ds0 = _; rw [List.setIfInBounds_toArray]); rw [e]; exact hk) hs hf hr hiz hwz hlz hw hQ
theorem lZ (i : Nat) (hi : l[i]? = some o) (hs : Region.noSelect l.toArray = true) (hf : Region.free md l.toArray listed i = true) (hr : (Region.ready md l.toArray listed).contains i = true) (hiz : i ≠ z) (hwz : iS md l.toArray z i = false)
  (hw : Region.wanted o (yielded l.toArray a.tmps) = true) (h : ∀ w, S w \/ T w -> (execOp a.eval o).run P w = .ok (.value v) w) (hQ : ∀ c a w, Q (.panic c) (a.put o.dst v) w -> Q (.panic c) a w) (hc : gK S T z listed w)
  (hk : eS P md l.toArray Q S T z fuel (listed.setIfInBounds i true) (a.put o.dst v) w) : eS P md l.toArray Q S T z (fuel + 1) listed a w :=
 mn (by simpa using hi) (Region.noSelect_spec hs) hQ hiz (U := fun w => S w \/ T w) (fun _ h => .inl h) (.inr fun _ h => .inr h) fuel listed a w (Region.free_spec (by simpa using hi) hf) (by simpa using hr) (fun e => by rw [hwz] at e; cases e) (.inl ⟨hw, h⟩) hc hk
theorem akt (i : Nat) (hi : l[i]? = some o) (h : ∀ w, S w \/ T w -> (execOp a.eval o).run P w = .ok (.value v) w) (hc : gK S T z listed w) (hk : eS P md l.toArray Q S T z fuel (listed.setIfInBounds i true) (a.put o.dst v) w) (hs : Region.noSelect l.toArray = true := by kernel_rfl) (hf : Region.free md l.toArray listed i = true := by kernel_rfl) (hr : (Region.ready md l.toArray listed).contains i = true := by kernel_rfl) (hiz : i ≠ z := by decide) (hwz : iS md l.toArray z i = false := by kernel_rfl) (hw : Region.wanted o (yielded l.toArray a.tmps) = true := by exact rfl) (hQ : ∀ c a w, Q (.panic c) (a.put o.dst v) w -> Q (.panic c) a w := by exact fun _ _ _ h => h) : eS P md l.toArray Q S T z (fuel + 1) listed a w := lZ i hi hs hf hr hiz hwz hw h hQ hc hk
theorem akA {l0 l1 : List Value} {ds0 : List Deferred} {i0 : Nat} (i : Nat) (hi : l[i]? = some o) (h : ∀ w, S w \/ T w -> (execOp (Act.mk l0.toArray ds0).eval o).run P w = .ok (.value v) w) (hc : gK S T z listed w) (hk : eS P md l.toArray Q S T z fuel (listed.setIfInBounds i true) ⟨l1.toArray, ds0⟩ w) (hd : o.dst = some i0 := by exact rfl) (hl : l0.set i0 v = l1 := by simp only [ai] <;> rfl) (hs : Region.noSelect l.toArray = true := by kernel_rfl) (hf : Region.free md l.toArray listed i = true := by kernel_rfl) (hr : (Region.ready md l.toArray listed).contains i = true := by kernel_rfl) (hiz : i ≠ z := by decide) (hwz : iS md l.toArray z i = false := by kernel_rfl) (hw : Region.wanted o (yielded l.toArray l0.toArray) = true := by exact rfl) (hQ : ∀ c a w, Q (.panic c) (a.put o.dst v) w -> Q (.panic c) a w := by exact fun _ _ _ h => h) : eS P md l.toArray Q S T z (fuel + 1) listed ⟨l0.toArray, ds0⟩ w := akt i hi h hc (by have e : Act.put (Act.mk l0.toArray ds0) o.dst v = ⟨l1.toArray, ds0⟩ := (by rw [hd, <- hl]; show Act.mk (l0.toArray.setIfInBounds i0 v) ds0 = _; rw [List.setIfInBounds_toArray]); rw [e]; exact hk) hs hf hr hiz hwz hw hQ
theorem va (i : Nat) (hi : l[i]? = some o) (hr : Region.ready md l.toArray listed = [i]) (hw : Region.wanted o (yielded l.toArray a.tmps) = true) (h : (execOp a.eval o).run P w = .ok (.value v) w')
  (hc : gK S T z (listed.setIfInBounds i true) w') (hk : eS P md l.toArray Q S T z fuel (listed.setIfInBounds i true) (a.put o.dst v) w') : eS P md l.toArray Q S T z (fuel + 1) listed a w :=
 oC hr (by simp) fun j hj => by
  obtain rfl : j = i := by simpa using hj
  unfold wpOp;simp only [List.getElem?_toArray, hi, hw, if_true];refine .inl ?_;unfold Oper.wp;rw [h];exact ⟨hc, hk⟩
theorem xP (i : Nat) (hi : l[i]? = some o) (hr : Region.ready md l.toArray listed = [i]) (hw : Region.wanted o (yielded l.toArray a.tmps) = true) (h : (execOp a.eval o).run P w = .ok .skip w')
  (hc : gK S T z (listed.setIfInBounds i true) w') (hk : eS P md l.toArray Q S T z fuel (listed.setIfInBounds i true) (a.put o.dst undef) w') : eS P md l.toArray Q S T z (fuel + 1) listed a w :=
 oC hr (by simp) fun j hj => by
  obtain rfl : j = i := by simpa using hj
  unfold wpOp;simp only [List.getElem?_toArray, hi, hw, if_true];refine .inl ?_;unfold Oper.wp;rw [h];exact ⟨hc, hk⟩
theorem iZ (hl : listed.getD z false = false) (h : S w) : gK S T z listed w := ⟨fun _ => h, fun e => absurd (e.symm.trans hl) (by decide)⟩
theorem jp (hl : listed.getD z false = true) (h : T w) : gK S T z listed w := ⟨fun e => absurd (e.symm.trans hl) (by decide), fun _ => h⟩
end
def nC : Obj -> Prop
 |.cells _ t _ => t = 120
 |_ => False
theorem yw (o : Obj) (h : nC o) : tF o := by
 cases o <;> first | exact h.elim | exact .inl h
open Go.Maps (Keyed)
def bU (I : Obj -> Prop) (F : Nat -> Prop) (w w' : World) : Prop := Only (fun b => F b /\ ∀ o, w.heap[b]? = some o -> I o) w w'
section
variable {I J : Obj -> Prop} {F : Nat -> Prop} {w w1 w2 : World} {o : Obj} {b : Nat}
theorem bU.refl (I : Obj -> Prop) (F : Nat -> Prop) (w : World) : bU I F w w := Only.refl _ _
theorem bU.size (h : bU I F w w1) : w.heap.size <= w1.heap.size := Only.size h
theorem bU.only (h : bU I F w w1) : Only F w w1 := Only.widen h fun b hb => hb.1
theorem bU.keep (h : bU I F w w1) (hb : w.heap[b]? = some o) (hn : ¬ I o) : w1.heap[b]? = some o := Only.keep h hb fun e => hn (e.2 o hb)
theorem bU.trans (h : bU I F w w1) (k : bU I F w1 w2) : bU I F w w2 := by
 refine Only.trans h k fun b hb => ?_
 by_cases hl : b < w.heap.size
 ·refine .inl ⟨hb.1, fun o ho => ?_⟩;exact Classical.byContradiction fun hn => hn (hb.2 o (h.keep ho hn))
 ·exact .inr (by omega)
theorem bU.of_below (h : Below w.heap.size w w1) : bU I F w w1 := Only.of_below _ h
theorem bU.drew (h : bU I F w w1) : bU I F w w1.drew := Only.drew h
theorem bU.setCell (h : bU I F w w1) {p : Addr} (hB : F p.block) (ho : w1.heap[p.block]? = some o) (hI : I o) (u : Value) : bU I F w (w1.setCell p u) := by
 refine h.trans (Only.setCell (Only.refl _ _) (.inl ⟨hB, fun o' ho' => ?_⟩) u);rw [ho] at ho';cases ho';exact hI
theorem bU.map {k : TypeId} (h : bU I F w w1) (hB : F b) (hI : ∀ es c, I (.map es c)) (k : w1.mapTurned w2 b) : bU I F w w2 := by
 have hg := k.grown;obtain ⟨es, c, es', c', hb, e⟩ := k;refine h.trans (Only.grown (Only.refl _ _) hg fun j hj => ?_);injection hj with hj;subst hj;refine .inl ⟨hB, fun o ho => ?_⟩;rw [hb] at ho;cases ho;exact hI es c
theorem bU.node {x : Ky} {u v : Value} (h : bU nC F w w1) (hB : F b) (hb : dz w1 b x u v) (j : Nat) (s : Value) : bU nC F w (w1.setCell ⟨b, j, none⟩ s) := h.setCell (p := ⟨b, j, none⟩) hB hb rfl s
theorem bU.widen (h : bU I F w w1) (hI : ∀ o, I o -> J o) : bU J F w w1 := Only.widen h fun b hb => ⟨hb.1, fun o ho => hI o (hb.2 o ho)⟩
end
abbrev f6 := bU tF
structure dq (w : World) (B : Nat -> Prop) (p room : Nat) (E bm : Nat) (bs : List Nat) (ky : Nat -> Ky) (pv nx : Nat -> Nat) (M : Int -> Option Nat) : Prop where
 at_ : w.heap[p]? = some (.cells #[.int .i64 (room : Int), ptB E, .map (some bm)] 123 (0, 0))
 lnk : Lnk w ky pv nx (E :: bs)
 seg : Seg pv nx E bs E
 one : (E :: bs).Nodup
 map : dG w bm bs.length M
 hit : ∀ b ∈ bs, M (ky b).n = some b
 who : ∀ k b, (Lit.int .i64 k).wf = true -> M k = some b -> b ∈ bs /\ (ky b).n = k
 low : B p /\ B bm /\ ∀ b ∈ E :: bs, B b
 ok : LOk room (bs.map ky)
 rm : 1 <= room /\ room <= 64
def PLF (w : World) (B : Nat -> Prop) (p room : Nat) (L : List Ky) : Prop := ∃ E bm bs ky pv nx M, dq w B p room E bm bs ky pv nx M /\ bs.map ky = L
section
variable {w w' : World} {B : Nat -> Prop} {p room E bm : Nat} {bs : List Nat} {ky : Nat -> Ky} {pv nx : Nat -> Nat} {M : Int -> Option Nat} {L : List Ky}
theorem dq.keep (h : dq w B p room E bm bs ky pv nx M) (hk : ∀ (b : Nat) (o : Obj), w.heap[b]? = some o -> tF o -> w'.heap[b]? = some o) : dq w' B p room E bm bs ky pv nx M :=
 ⟨hk _ _ h.at_ (.inr rfl), h.lnk.keep fun b cs hb => hk b _ hb (.inl rfl), h.seg, h.one, h.map.kept fun es c hb => hk _ _ hb trivial, h.hit, h.who, h.low, h.ok, h.rm⟩
theorem dq.c0 (h : dq w B p room E bm bs ky pv nx M) : w.cell? ⟨p, 0, none⟩ = some (.int .i64 (room : Int)) := (cells3 h.at_).1
theorem dq.c1 (h : dq w B p room E bm bs ky pv nx M) : w.cell? ⟨p, 1, none⟩ = some (.pointer (some ⟨E, 0, none⟩)) := (cells3 h.at_).2.1
theorem dq.c2 (h : dq w B p room E bm bs ky pv nx M) : w.cell? ⟨p, 2, none⟩ = some (.map (some bm)) := (cells3 h.at_).2.2
theorem PLF.keep (h : PLF w B p room L) (hk : ∀ (b : Nat) (o : Obj), w.heap[b]? = some o -> tF o -> w'.heap[b]? = some o) : PLF w' B p room L := by
 obtain ⟨E, bm, bs, ky, pv, nx, M, h, e⟩ := h;exact ⟨E, bm, bs, ky, pv, nx, M, h.keep hk, e⟩
theorem PLF.below (h : PLF w B p room L) (hb : Below w.heap.size w w') : PLF w' B p room L := h.keep fun b o ho _ => aB ho hb
end
section
variable {w w' : World} {B B' : Nat -> Prop} {p room E bm : Nat} {bs : List Nat} {ky : Nat -> Ky} {pv nx : Nat -> Nat} {M : Int -> Option Nat} {L : List Ky}
theorem dG.lt {b N : Nat} (h : dG w b N M) : b < w.heap.size := by obtain ⟨es, c, hb⟩ := h.obj; exact aV hb
theorem dq.mono (h : dq w B p room E bm bs ky pv nx M) (hB : ∀ b, B b -> b < w.heap.size -> B' b) : dq w B' p room E bm bs ky pv nx M :=
 ⟨h.at_, h.lnk, h.seg, h.one, h.map, h.hit, h.who, ⟨hB _ h.low.1 (aV h.at_), hB _ h.low.2.1 h.map.lt, fun b hb => hB _ (h.low.2.2 b hb) (aV (h.lnk b hb))⟩, h.ok, h.rm⟩
theorem PLF.mono (h : PLF w B p room L) (hB : ∀ b, B b -> b < w.heap.size -> B' b) : PLF w B' p room L := by
 obtain ⟨E, bm, bs, ky, pv, nx, M, h, e⟩ := h;exact ⟨E, bm, bs, ky, pv, nx, M, h.mono hB, e⟩
theorem PLF.only {G : Nat -> Prop} (h : PLF w B p room L) (hk : Only G w w') (hG : ∀ b, B b -> ¬ G b) : PLF w' B p room L := by
 obtain ⟨E, bm, bs, ky, pv, nx, M, h, e⟩ := h;refine ⟨E, bm, bs, ky, pv, nx, M, ⟨Only.keep hk h.at_ (hG _ h.low.1), fun b hb => Only.keep hk (h.lnk b hb) (hG b (h.low.2.2 b hb)), h.seg, h.one, h.map.kept fun es c hb => Only.keep hk hb (hG _ h.low.2.1), h.hit, h.who, h.low, h.ok, h.rm⟩, e⟩
end
section
variable {w : World} {B : Nat -> Prop} {n E : Nat} {ky : Nat -> Ky} {pv nx : Nat -> Nat} {S : List Nat}
theorem sS (w : World) (h : Lnk w ky pv nx S) (hn : n ∈ S) (hp : pv n ∈ S) (hx : nx n ∈ S) (hB : ∀ b ∈ S, B b) :
  Calls prog 159 #[.pointer (some ⟨n, 0, none⟩)] w fun e w' => e = .returned (.tuple #[]) /\ Lnk w' ky (dj pv (nx n) (pv n)) (dj nx (pv n) (nx n)) S /\ bU nC B w w' := by
 have HN := ae (h n hn);have HP := ae (h (pv n) hp);have h1 : Lnk (w.drew.setCell ⟨pv n, 3, none⟩ (ptB (nx n))) ky pv (dj nx (pv n) (nx n)) S := Lnk.s3 (w := w.drew) h (nx n) hp;have HX1 := ae (h1 (nx n) hx);have H2 := ae (Lnk.s2 h1 (pv n) hx);have HT := ae (((bU.refl nC B w).drew.node (hB _ hp) (h (pv n) hp) 3 (ptB (nx n))).node (hB _ hx) (h1 (nx n) hx) 2 (ptB (pv n)));clear h h1 hn hp hx hB;go_enter func159, ntmps159;go_upto_region 0 with fail;refine wp_region_still_tail 16 (by kernel_rfl) (by kernel_rfl) ?_;simp only [ac];refine aK rfl (aM rfl akE) ?_;simp only [aa];refine aK rfl (bf rfl akE) ?_;simp only [aa];refine aK rfl (ax rfl akE nw) ?_;simp only [aa];refine aK rfl (aC rfl akE (jw (HN.out).c2)) ?_;simp only [aa];refine aK rfl (aM rfl akE) ?_;simp only [aa];refine aK rfl (bf rfl akE) ?_;simp only [aa];refine aK rfl (ax rfl akE mv) ?_;simp only [aa];refine aK rfl (aC rfl akE (jw (HN.out).c3)) ?_;simp only [aa];refine aK rfl (aM rfl akE) ?_;simp only [aa];refine aK rfl (bf rfl akE) ?_;simp only [aa];refine aK rfl (ax rfl akE mv) ?_;simp only [aa];refine aK rfl (aC rfl akE (jw (HN.out).c3)) ?_;simp only [aa];refine aK rfl (aM rfl akE) ?_;simp only [aa];refine aK rfl (bf rfl akE) ?_;simp only [aa];refine aK rfl (ax rfl akE nw) ?_;simp only [aa];refine aK rfl (aC rfl akE (jw (HN.out).c2)) ?_;simp only [aa];refine wpStill_nil ?_;change wpList _ _ _ _ _ (World.drew _);refine runs 1 ?_;refine aku (ax rfl akE mv) ?_;refine aG rfl (cZ rfl (ev rfl) (ev rfl) (aaN HP.out.c3 (HP.out.fz 3))) ?_;simp only [aa];refine runs 1 ?_;refine aku (ax rfl akE nw) ?_;refine aG rfl (cZ rfl (ev rfl) (ev rfl) (aaN HX1.out.c2 (HX1.out.fz 2))) ?_;simp only [aa];refine ah ?_
 go_end0
 exact ⟨rfl, H2, HT⟩
theorem qX (w : World) (x : Ky) (u v : Value) (h : Lnk w ky pv nx S) (hn : dz w n x u v) (hnS : n ∉ S) (hE : E ∈ S) (hx : nx E ∈ S) (hB : ∀ b ∈ S, B b) (hBn : B n) :
  Calls prog 160 #[.pointer (some ⟨n, 0, none⟩), .pointer (some ⟨E, 0, none⟩)] w fun e w' => e = .returned (.tuple #[]) /\ Lnk w' (dj ky n x) (dj (dj pv n E) (nx E) n) (dj (dj nx n (nx E)) E n) (n :: S) /\ bU nC B w w' := by
 have HN := ae hn;have HE := ae (h E hE);have n1 := hn.s2 (ptB E);have n2 := n1.s3 (ptB (nx E));have HN1 := ae n1;have HN2 := ae n2;have hne : ∀ b ∈ S, b ≠ n := fun b hb e => hnS (by rw [<- e]; exact hb)
 have l2 : Lnk ((w.setCell ⟨n, 2, none⟩ (ptB E)).setCell ⟨n, 3, none⟩ (ptB (nx E))) (dj ky n x) (dj pv n E) (dj nx n (nx E)) S := fun b hb => by
  rw [cj _ _ (hne b hb), cj _ _ (hne b hb), cj _ _ (hne b hb)];exact ((h b hb).other (p := ⟨n, 2, none⟩) (hne b hb) _).other (p := ⟨n, 3, none⟩) (hne b hb) _
 have m2 : Lnk ((w.setCell ⟨n, 2, none⟩ (ptB E)).setCell ⟨n, 3, none⟩ (ptB (nx E))) (dj ky n x) (dj pv n E) (dj nx n (nx E)) (n :: S) := l2.add (by rw [dc, dc, dc]; exact n2);have T2 : bU nC B w ((w.setCell ⟨n, 2, none⟩ (ptB E)).setCell ⟨n, 3, none⟩ (ptB (nx E))) := ((bU.refl nC B w).node hBn hn 2 (ptB E)).node hBn n1 3 (ptB (nx E));have HM2 := ae m2;have HT2 := ae T2;have HI := ae (And.intro hE (And.intro hx (And.intro hB hBn)));clear h hn hnS hE hx hB hBn n1 n2 hne l2 m2 T2;go_enter func160, ntmps160;go_upto_region 0 with fail;refine aI 3 ?_;refine runs 2 ?_;refine aku (ax rfl akE mv) ?_;refine aku (aC rfl akE (jw (HE.out).c3)) ?_;refine runs 1 ?_;refine aku (ax rfl akE nw) ?_;refine aG rfl (cZ rfl (ev rfl) (ev rfl) (aaN HN.out.c2 (HN.out.fz 2))) ?_;simp only [aa];refine runs 1 ?_;refine aku (ax rfl akE mv) ?_;refine aG rfl (cZ rfl (ev rfl) (ev rfl) (aaN HN1.out.c3 (HN1.out.fz 3))) ?_;simp only [aa];refine ah ?_;go_upto_region 1 with fail;obtain ⟨w2, hw2⟩ : ∃ w2, (w.setCell ⟨n, 2, none⟩ (ptB E)).setCell ⟨n, 3, none⟩ (ptB (nx E)) = w2 := ⟨_, rfl⟩;unfold ptB at hw2;rw [hw2];unfold ptB at HM2 HT2 HN2;rw [hw2] at HM2 HT2 HN2;clear HN HN1 HE hw2;have HE2 := ae (HM2.out E (List.mem_cons_of_mem _ HI.out.1));have m3 : Lnk (w2.drew.setCell ⟨E, 3, none⟩ (ptB n)) (dj ky n x) (dj pv n E) (dj (dj nx n (nx E)) E n) (n :: S) := Lnk.s3 (w := w2.drew) HM2 n (List.mem_cons_of_mem _ HI.out.1);have HX3 := ae (m3 (nx E) (List.mem_cons_of_mem _ HI.out.2.1));have HM4 := ae (Lnk.s2 m3 n (List.mem_cons_of_mem _ HI.out.2.1));have HT4 := ae ((HT2.out.drew.node (HI.out.2.2.1 _ HI.out.1) HE2 3 (ptB n)).node (HI.out.2.2.1 _ HI.out.2.1) HX3 2 (ptB n));clear m3;refine qo (fun w' => dz w' n x (ptB E) (ptB (nx E))) (fun _ => True) 12 (by kernel_rfl) ?_;change eS _ _ _ _ _ _ _ 16 _ _ w2.drew;refine akz 0 rfl (fun _ hw => aM rfl akE) HN2 ?_;refine akz 1 rfl (fun _ hw => bf rfl akE) HN2 ?_;refine akz 2 rfl (fun _ hw => ax rfl akE nw) HN2 ?_;refine akz 3 rfl (fun _ hw => aC rfl akE (jw (hw).c2)) HN2 ?_;refine akA 4 rfl (fun _ hw => aM rfl akE) (iZ (by kernel_rfl) HN2) ?_;refine akA 5 rfl (fun _ hw => bf rfl akE) (iZ (by kernel_rfl) HN2) ?_;refine akA 6 rfl (fun _ hw => ax rfl akE mv) (iZ (by kernel_rfl) HN2) ?_;refine akz 7 rfl (fun _ hw => aC rfl akE (jw (hw).c3)) HN2 ?_;refine akz 8 rfl (fun _ hw => aM rfl akE) HN2 ?_;refine akA 9 rfl (fun _ hw => aM rfl akE) (iZ (by kernel_rfl) HN2) ?_;refine akA 10 rfl (fun _ hw => bf rfl akE) (iZ (by kernel_rfl) HN2) ?_;refine akz 11 rfl (fun _ hw => ax rfl akE mv) HN2 ?_;refine xP 12 rfl (by kernel_rfl) rfl (cZ rfl (ev rfl) (ev rfl) (aaN HE2.out.c3 (HE2.out.fz 3))) (jp (by kernel_rfl) trivial) ?_;simp only [Act.put];refine va 13 rfl (by kernel_rfl) rfl (bf rfl akE) (jp (by kernel_rfl) trivial) ?_;simp only [aa];refine va 14 rfl (by kernel_rfl) rfl (ax rfl akE nw) (jp (by kernel_rfl) trivial) ?_;simp only [aa];refine xP 15 rfl (by kernel_rfl) rfl (cZ rfl (ev rfl) (ev rfl) (aaN HX3.out.c2 (HX3.out.fz 2))) (jp (by kernel_rfl) trivial) ?_;simp only [Act.put];refine uk (by kernel_rfl) ?_ _
 go_end0
 exact ⟨rfl, HM4, HT4⟩
end
section
variable {w w' : World} {B p room E bm i : Nat} {bs : List Nat} {ky : Nat -> Ky} {pv nx : Nat -> Nat} {M : Int -> Option Nat} {L : List Ky} {k : Int}
theorem iJ {b : Nat} {o : Obj} (h : w.mapTurned w' bm) (hb : w.heap[b]? = some o) (hn : ∀ es c, o ≠ .map es c) : w'.heap[b]? = some o := by
 have hg := h.grown;obtain ⟨es, c, es', c', hm, e⟩ := h;exact (hg.block b (aV hb) (fun e2 => by injection e2 with e2; subst e2; rw [hm] at hb; cases hb; exact hn _ _ rfl)).trans hb
theorem Lnk.turned {S : List Nat} (h : Lnk w ky pv nx S) (ht : w.mapTurned w' bm) : Lnk w' ky pv nx S := fun b hb => iJ ht (h b hb) fun _ _ e => by cases e
def lsB (bs : List Nat) (L : List Ky) : Option Nat := if lu L = 0 then none else some (bs.getD (lu L - 1) 0)
theorem ud {bs : List Nat} {L : List Ky} (h : lu L = 0) : lsB bs L = none := if_pos h
theorem tx {bs : List Nat} {L : List Ky} {j : Nat} (h : lu L = j + 1) : lsB bs L = some (bs.getD j 0) := by unfold lsB; rw [if_neg (by omega), h]; rfl
theorem tN {ops : Array Oper} {rest : List Oper} {o : Oper} {a : Act} {Q : Exit -> Act -> World -> Prop} {x y : Operand} {N b : Nat} (hg : o.guard = none) (ho : o.op = .call { callee := .builtin .delete, args := #[x, y], argTypes := #[121, 3] })
  (hx : a.eval x = .map (some b)) (hy : a.eval y = .int .i64 k) (h : dG w b (N + 1) M) (hw : (Lit.int .i64 k).wf = true) (hn : (M k).isSome = true)
  (hk : ∀ w', dG w' b N (fun j => if j = k then none else M j) -> w.mapTurned w' b -> wpList prog ops Q rest (a.put o.dst (.tuple #[])) w') : wpList prog ops Q (o :: rest) a w := by
 obtain ⟨w', h1, h2, h3⟩ := h.del hw hn o.type;exact av hg (tA ho hx hy h1) (hk w' h2 h3)
end
section
variable {w w' : World} {B : Nat -> Prop} {p room E bm i : Nat} {bs : List Nat} {ky : Nat -> Ky} {pv nx : Nat -> Nat} {M : Int -> Option Nat} {L : List Ky} {k : Int}
theorem oH {w0 : World} (h : f6 B w0 w) (hB : B bm) (ht : w.mapTurned w' bm) : f6 B w0 w' := h.map (k := 0) hB (fun _ _ => trivial) ht
theorem dq.pvm (h : dq w B p room E bm bs ky pv nx M) {b : Nat} (hb : b ∈ E :: bs) : pv b ∈ E :: bs := by
 rcases List.mem_cons.1 hb with rfl | hb
 ·exact rR h.seg
 ·obtain ⟨l, r, e⟩ := List.append_of_mem hb;have hs := h.seg;rw [e] at hs;have := rR (seg_append.1 hs).1;rw [e];rcases List.mem_cons.1 this with e2 | e2
  ·rw [e2]; simp
  ·exact List.mem_cons_of_mem _ (List.mem_append.2 (.inl e2))
theorem dq.nxm (h : dq w B p room E bm bs ky pv nx M) {b : Nat} (hb : b ∈ E :: bs) : nx b ∈ E :: bs := by
 have key : ∀ x, x ∈ bs ++ [E] -> x ∈ E :: bs := fun x hx => by
  rcases List.mem_append.1 hx with e | e
  ·exact List.mem_cons_of_mem _ e
  ·simp at e; rw [e]; simp
 rcases List.mem_cons.1 hb with rfl | hb
 ·exact key _ (rK h.seg)
 ·obtain ⟨l, r, e⟩ := List.append_of_mem hb;have hs := h.seg;rw [e] at hs;have := rK (seg_append.1 hs).2;refine key _ ?_;rw [e];rcases List.mem_append.1 this with e2 | e2
  ·simp [e2]
  ·simp at e2; simp [e2]
theorem dq.acV (h : dq w B p room E bm bs ky pv nx M) (hi : plc k (bs.map ky) < bs.length) : M k = some (bs.getD (plc k (bs.map ky)) 0) := by
 have h1 := oZ (k := k) (L := bs.map ky) (by simpa using hi);rw [getD_map ky bs 0 ky0 hi] at h1;have := h.hit _ (cz (d := 0) hi);rwa [h1] at this
theorem dq.lK (h : dq w B p room E bm bs ky pv nx M) (hw : (Lit.int .i64 k).wf = true) (hi : ¬ plc k (bs.map ky) < bs.length) : M k = none := by
 cases e : M k with
 |none => rfl
 |some b =>
  obtain ⟨h1, h2⟩ := h.who k b hw e;have : plc k (bs.map ky) < (bs.map ky).length := lO.2 (by unfold fy; rw [List.map_map]; exact List.mem_map.2 ⟨b, h1, h2⟩);rw [List.length_map] at this;exact absurd this hi
theorem dq.kwf (h : dq w B p room E bm bs ky pv nx M) {b : Nat} (hb : b ∈ bs) : (Lit.int .i64 (ky b).n).wf = true := h.ok.wf _ (List.mem_map.2 ⟨b, hb, rfl⟩)
theorem dq.inj (h : dq w B p room E bm bs ky pv nx M) {b c : Nat} (hb : b ∈ bs) (hc : c ∈ bs) (e : (ky b).n = (ky c).n) : b = c := by
 have h1 := h.hit b hb;have h2 := h.hit c hc;rw [e, h2] at h1;injection h1 with h1;exact h1.symm
theorem fL (w : World) (h : dq w B p room E bm bs ky pv nx M) : Calls prog 122 #[.pointer (some ⟨p, 0, none⟩)] w fun e w' => e = .returned (.bool true) /\ w = w' := by
 have c0 := h.c0;have hr := h.rm;have hd : decide (0 < room) = true := ao (by omega);clear h hr;go_enter func122, ntmps122;go_wp2_with fail;go_ret;exact ⟨rfl, rfl⟩
theorem tf (w : World) (h : dq w B p room E bm bs ky pv nx M) (hw : (Lit.int .i64 k).wf = true) {b : Nat} (hm : M k = some b) :
  Calls prog 119 #[.pointer (some ⟨p, 0, none⟩), .int .i64 k] w fun e w' => e = .returned (.tuple #[.pointer (some ⟨b, 0, none⟩), .int .i64 0]) /\ w = w' := by
 have HL := ae h;have HK : Hid ((Instr.lookup 121 (.map (some bm)) (.int .i64 k) false).run prog w = .ok (.pointer (some ⟨b, 0, none⟩)) w) := ae (by have := h.map.look hw; rw [hm] at this; exact this);clear h hw hm;go_enter func119, ntmps119;go_wp2_with fail;refine (fL _ HL).mono ?_;rintro e w1 ⟨rfl, rfl⟩;go_upto_region 3 with fail;refine aI 2 ?_;refine aku (ax rfl akE kz) ?_;refine aku (aC rfl akE (pJ (HL.out).c2)) ?_;refine runs 1 ?_;refine aku (cX rfl akE akE HK) ?_;refine aH 1 ?_;go_upto_region 4 with fail;refine aI 1 ?_;refine aku (cI false underlying118 rfl akE evk rfl) ?_;refine ah ?_;go_wp2_with fail;go_ret2;exact ⟨rfl, rfl⟩
theorem lB (w : World) (h : dq w B p room E bm bs ky pv nx M) (hw : (Lit.int .i64 k).wf = true) (hm : M k = none) :
  Calls prog 119 #[.pointer (some ⟨p, 0, none⟩), .int .i64 k] w fun e w' => e = .returned (.tuple #[.pointer none, .int .i64 7]) /\ w = w' := by
 have HL := ae h;have HK : Hid ((Instr.lookup 121 (.map (some bm)) (.int .i64 k) false).run prog w = .ok (.pointer none) w) := ae (by have := h.map.look hw; rw [hm] at this; exact this);clear h hw hm;go_enter func119, ntmps119;go_wp2_with fail;refine (fL _ HL).mono ?_;rintro e w1 ⟨rfl, rfl⟩;go_upto_region 3 with fail;refine aI 2 ?_;refine aku (ax rfl akE kz) ?_;refine aku (aC rfl akE (pJ (HL.out).c2)) ?_;refine runs 1 ?_;refine aku (cX rfl akE akE HK) ?_;refine aH 1 ?_;go_upto_region 4 with fail;refine aI 1 ?_;refine aku (cI true underlying118 rfl akE evk rfl) ?_;refine ah ?_;go_wp2_with fail;go_ret2;exact ⟨rfl, rfl⟩
theorem pp (w : World) (h : dq w B p room E bm bs ky pv nx M) :
  Calls prog 161 #[.pointer (some ⟨p, 0, none⟩)] w fun e w' => e = .returned (ptO (lsB bs (bs.map ky))) /\ w = w' := by
 have HL := ae h;have HE := ae (h.lnk E (by simp));have HPV : Hid (∀ i, i <= bs.length -> pv ((bs ++ [E]).getD i 0) = (E :: bs).getD i 0) := ae (aec h.seg);have HEV : Hid (pv E = (E :: bs).getD bs.length 0) := ae (by have := HPV.out bs.length aj; rw [<- this]; simp);have HPS : Hid (∀ i, i <= bs.length -> nG ((E :: bs).getD i 0) (E :: bs) = i) := ae fun i hi => kX h.one (by simp; omega)
 have HNO := ae (List.nodup_cons.1 h.one).1;obtain ⟨j0, hj0, hz0⟩ := agt;have HJ := ae hj0;have HZ := ae hz0;have HLK := ae h.lnk;clear h hj0 hz0;go_enter func161, ntmps161;go_upto_region 1 with fail;refine aI 2 ?_;refine aku (ax rfl akE nq) ?_;refine aku (aC rfl akE (jw (HL.out).c1)) ?_;refine runs 1 ?_;refine aku (ax rfl akE nw) ?_;refine aku (aC rfl akE (jw (HE.out).c2)) ?_;refine aH 1 ?_;rw [HEV.out];go_wp2_with fail
 go_loop [3] (fun v => ∃ i, i <= bs.length /\ v = .pointer (some ⟨(E :: bs).getD i 0, 0, none⟩) /\ Hid (∀ j, i <= j -> j < bs.length -> ((bs.map ky).getD j ky0).pin = true)) (fun v => nG (ags v) (E :: bs))
 case atStart => exact ⟨bs.length, aj, rfl, ae fun j h1 h2 => absurd h2 (by omega)⟩
 case round =>
  obtain ⟨i, hi, rfl, hpin⟩ := hrel;cases i with
  |zero =>
   have hlu : lu (bs.map ky) = 0 := ae0 fun j hj => hpin.out j (Nat.zero_le _) (by simpa using hj)
   have HLU := ae hlu;clear hlu;rw [show (E :: bs).getD 0 0 = E from rfl];go_upto_region 2 with fail;refine aI 3 ?_;refine aku (ax rfl akE nq) ?_;refine aku (aC rfl akE (jw (HL.out).c1)) ?_;refine aku (kY false underlying118 HJ.out HZ.out rfl (ev rfl) (ev rfl) HE.out HE.out (by simp)) ?_;refine ah ?_;go_wp2_with fail;go_ret;exact ⟨by rw [ud HLU.out]; rfl, rfl⟩
  |succ i =>
   rw [show (E :: bs).getD (i + 1) 0 = bs.getD i 0 from rfl];obtain ⟨b, hb⟩ : ∃ b, bs.getD i 0 = b := ⟨_, rfl⟩;have hm : b ∈ bs := by rw [<- hb]; exact cz hi
   have HN := ae (HLK.out b (List.mem_cons_of_mem _ hm));have HNE : Hid (b ≠ E) := ae fun e => HNO.out (by rw [<- e]; exact hm)
   have HPB : Hid (pv b = (E :: bs).getD i 0) := ae (by
    have := HPV.out i (by omega);rw [<- this, <- hb];simp [List.getD, List.getElem?_append_left (show i < bs.length from hi)])
   have HKY : Hid ((bs.map ky).getD i ky0 = ky b) := ae (by rw [getD_map ky bs 0 ky0 hi, hb]);have HB := ae hb;have HM := ae hm;clear hb hm;rw [HB.out];go_upto_region 2 with fail;refine aI 3 ?_;refine aku (ax rfl akE nq) ?_;refine aku (aC rfl akE (jw (HL.out).c1)) ?_;refine aku (kY true underlying118 HJ.out HZ.out rfl (ev rfl) (ev rfl) HN.out HE.out (by have := HNE.out; simp [this])) ?_;refine ah ?_;cases hp : (ky b).pin
   ·have HPI := ae hp;have HC1 : Hid (w.cell? ⟨b, 1, none⟩ = some (.bool false)) := ae (by have := HN.out.c1; rwa [hp] at this);have hlu : lu (bs.map ky) = i + 1 := ai6 (by rw [List.length_map]; omega) (by rw [HKY.out]; exact hp) fun j h1 h2 => hpin.out j (by omega) (by simpa using h2)
    have HLU := ae hlu;clear hlu hp;go_upto_region 4 with fail;refine aI 2 ?_;refine aku (ax rfl akE yl) ?_;refine aku (aC rfl akE (sV HC1)) ?_;refine aH 1 ?_;go_wp2_with fail;go_ret;exact ⟨by rw [tx HLU.out, HB.out]; rfl, rfl⟩
   ·have HPI := ae hp;have HC1 : Hid (w.cell? ⟨b, 1, none⟩ = some (.bool true)) := ae (by have := HN.out.c1; rwa [hp] at this);clear hp;go_upto_region 4 with fail;refine aI 2 ?_;refine aku (ax rfl akE yl) ?_;refine aku (aC rfl akE (sV HC1)) ?_;refine aH 1 ?_;go_upto_region 3 with fail;refine aI 2 ?_;refine aku (ax rfl akE nw) ?_;refine aku (aC rfl akE (jw (HN.out).c2)) ?_;refine aH 1 ?_;rw [HPB.out];go_wp2_with fail
    go_round
    case rel =>
     refine ⟨i, by omega, rfl, ae fun j h1 h2 => ?_⟩;by_cases e : j = i
     ·subst e; rw [HKY.out]; exact HPI
     ·exact hpin.out j (by omega) h2
    case measure =>
     show nG ((E :: bs).getD i 0) (E :: bs) < nG b (E :: bs)
     have h1 := HPS.out i (by omega);have h2 := HPS.out (i + 1) hi;rw [show (E :: bs).getD (i + 1) 0 = bs.getD i 0 from rfl, HB.out] at h2;omega
theorem qJ (w : World) (h : dq w B p room E bm bs ky pv nx M) {b : Nat} (hi : i < bs.length) (hb : bs.getD i 0 = b) :
  Calls prog 124 #[.pointer (some ⟨p, 0, none⟩), .pointer (some ⟨b, 0, none⟩)] w fun e w' => e = .returned (.tuple #[]) /\ (∃ pv' nx' M', dq w' B p room E bm (wo bs i) ky pv' nx' M') /\ f6 B w w' /\ ∃ u v, dz w' b (ky b) u v := by
 have hbs : b ∈ bs := by rw [<- hb]; exact cz hi
 have hm : b ∈ E :: bs := List.mem_cons_of_mem _ hbs;have HL := ae h;have HLV := ae (sS (B := B) w h.lnk hm (h.pvm hm) (h.nxm hm) h.low.2.2);have HSG := ae (ab9 h.seg h.one hi);have HI := ae hi;have HB := ae hb;have HBS := ae hbs;clear h hi hb hm hbs;go_enter func124, ntmps124;go_upto_region 0 with fail;refine aI 1 ?_;refine aw rfl (aA call159 rfl (evc akE evn)) ?_;refine HLV.out.mono ?_;rintro e w1 ⟨rfl, hl1, ht1⟩;refine aO ?_;refine ah ?_;have hat : w1.heap[p]? = some (.cells #[.int .i64 (room : Int), ptB E, .map (some bm)] 123 (0, 0)) := ht1.keep HL.out.at_ (by show ¬ (123 = 120); decide);have hmp : dG w1 bm bs.length M := HL.out.map.kept fun es c hb => ht1.keep hb fun e => e
 have hlen : bs.length = (wo bs i).length + 1 := (ol HI).symm;rw [hlen] at hmp;have HC2 := ae (cells3 hat).2.2;have HAT := ae hat
 have HMP := ae hmp;have HN := ae (hl1 b (List.mem_cons_of_mem _ HBS));have HLK := ae hl1;have HT := ae (ht1.widen yw);have HWF := ae (HL.out.kwf HBS);have HSM : Hid ((M (ky b).n).isSome = true) := ae (by rw [HL.out.hit b HBS.out]; rfl);clear hat hmp hlen hl1 ht1;go_upto_region 1 with fail;refine wp_region_still_tail 8 (by kernel_rfl) (by kernel_rfl) ?_;simp only [ac];refine aK rfl (aM rfl akE) ?_;simp only [aa];refine aK rfl (bf rfl akE) ?_;simp only [aa];refine aK rfl (ax rfl akE kz) ?_;simp only [aa];refine aK rfl (aC rfl akE (pJ HC2)) ?_;simp only [aa];refine aK rfl (aM rfl akE) ?_;simp only [aa];refine aK rfl (bf rfl akE) ?_;simp only [aa];refine aK rfl (ax rfl akE aca) ?_;simp only [aa];refine aK rfl (aC rfl akE (bS (HN.out).c0)) ?_;simp only [aa];refine wpStill_nil ?_;change wpList _ _ _ _ _ (World.drew _);refine tN (w := w1.drew) rfl rfl akE akE (N := (wo bs i).length) HMP HWF HSM ?_;intro w2 hm2 ht2;simp only [Act.put];refine ah ?_
 go_end0
 refine ⟨rfl, ⟨dj pv (nx b) (pv b), dj nx (pv b) (nx b), fun j => if j = (ky b).n then none else M j, ?_⟩, oH HT.out.drew HL.out.low.2.1 ht2, ⟨_, _, iJ ht2 HN fun _ _ e => by cases e⟩⟩;have hsub := jH bs i;have hlk : Lnk w2 ky (dj pv (nx b) (pv b)) (dj nx (pv b) (nx b)) (E :: bs) := Lnk.turned (w := w1.drew) HLK ht2;refine ⟨iJ ht2 HAT (fun _ _ e => by cases e), hlk.sub fun x hx => ?_, by have := HSG.out; rwa [HB.out] at this, HL.out.one.sublist (hsub.cons_cons _), hm2, fun x hx => ?_, fun j x hj hx => ?_, ⟨HL.out.low.1, HL.out.low.2.1, fun x hx => HL.out.low.2.2 x ?_⟩, by rw [mP]; exact HL.out.ok.wo i, HL.out.rm⟩
 ·rcases List.mem_cons.1 hx with rfl | hx
  ·simp
  ·exact List.mem_cons_of_mem _ (hsub.subset hx)
 ·try dsimp only
  rw [if_neg, HL.out.hit x (hsub.subset hx)];intro e;have := HL.out.inj (hsub.subset hx) HBS e;have hn := xA (List.nodup_cons.1 HL.out.one).2 HI;rw [HB.out, <- this] at hn;exact hn hx
 ·try dsimp only at hx
  split at hx
  ·cases hx
  ·rename_i hne
   obtain ⟨h1, h2⟩ := HL.out.who j x hj hx;exact ⟨abQ HI h1 (fun e => hne (by rw [<- h2, e, HB.out])), h2⟩
 ·rcases List.mem_cons.1 hx with rfl | hx
  ·simp
  ·exact List.mem_cons_of_mem _ (hsub.subset hx)
theorem abj (w : World) (hsz : B w.heap.size) (h : dq w B p room E bm bs ky pv nx M) (hk : ¬ plc k (bs.map ky) < bs.length) (hl : bs.length < room) (hw : (Lit.int .i64 k).wf = true) :
  Calls prog 162 #[.pointer (some ⟨p, 0, none⟩), .int .i64 k] w fun e w' => e = .returned (.tuple #[]) /\ (∃ n ky' pv' nx' M', dq w' B p room E bm (n :: bs) ky' pv' nx' M' /\ (n :: bs).map ky' = ⟨k, false⟩ :: bs.map ky) /\ f6 B w w' := by
 have hn0 := h.lK hw hk;have hnS : w.heap.size ∉ E :: bs := fun e => by have := aV (h.lnk _ e); omega
 obtain ⟨w1, hw1⟩ : ∃ w1, w.alloc (.cells (qp ⟨k, false⟩ (.pointer none) (.pointer none)).toArray 120) = w1 := ⟨_, rfl⟩;have hn1 : dz w1 w.heap.size ⟨k, false⟩ (.pointer none) (.pointer none) := by rw [<- hw1]; exact heap_alloc_new w _
 have hb1 : Below w.heap.size w w1 := by rw [<- hw1]; exact ak.alloc aj _
 have h1 := h.keep fun b o ho _ => aB ho hb1
 have HF := ae (qX (B := B) (E := E) w1 ⟨k, false⟩ _ _ h1.lnk hn1 hnS (by simp) (h.nxm (by simp)) h.low.2.2 hsz);have HSG := ae (pD h.seg h.one hnS);have HW1 := ae hw1;have HL := ae h1;have HT1 := ae (bU.of_below (I := tF) (F := B) hb1);have HN0 := ae hn0;have HK := ae hk;have HLT := ae hl;have HWF := ae hw;have HNS := ae hnS;have HSZ := ae hsz;clear h h1 hk hl hw hn0 hsz hnS hw1 hn1 hb1;go_enter func162, ntmps162;go_upto_region 1 with fail;have hw1 := HW1.out;unfold qp at hw1;rw [hw1];clear hw1;refine aI 3 ?_;refine aku (ax rfl akE nq) ?_;refine aku (aC rfl akE (jw (HL.out).c1)) ?_;refine aw rfl (aA call160 rfl (evc akE (evc akE evn))) ?_;refine HF.out.mono ?_;rintro e w2 ⟨rfl, hl2, ht2⟩;refine aO ?_;refine ah ?_;have hat : w2.heap[p]? = some (.cells #[.int .i64 (room : Int), ptB E, .map (some bm)] 123 (0, 0)) := ht2.keep HL.out.at_ (by show ¬ (123 = 120); decide);have hmp : dG w2 bm bs.length M := HL.out.map.kept fun es c hb => ht2.keep hb fun e => e
 have HC2 := ae (cells3 hat).2.2;have HAT := ae hat
 obtain ⟨w3, hr3, hm3, ht3⟩ := hmp.store HWF HN0 (by unfold maxLen; have := HLT.out; have := HL.out.rm; omega) w.heap.size;have HR3 := ae hr3;have HM3 := ae hm3;have HT3 := ae ht3;have HLK := ae hl2;have HT := ae (HT1.out.trans (ht2.widen yw));clear hat hmp hr3 hm3 ht3 hl2 ht2;go_upto_region 2 with fail;refine aI 2 ?_;refine aku (ax rfl akE kz) ?_;refine aku (aC rfl akE (pJ HC2)) ?_;refine runs 2 ?_;refine aG rfl (i7 rfl (ev rfl) (ev rfl) (ev rfl) HR3.out) ?_;simp only [Act.put];refine ah ?_
 go_end0
 have hne : ∀ b ∈ bs, b ≠ w.heap.size := fun b hb e => HNS.out (by rw [<- e]; exact List.mem_cons_of_mem _ hb)
 have hmap : (w.heap.size :: bs).map (dj ky w.heap.size ⟨k, false⟩) = ⟨k, false⟩ :: bs.map ky := by
  rw [List.map_cons, dc]
  congr 1
  exact List.map_congr_left fun b hb => cj _ _ (hne b hb)
 have hkn : k ∉ fy (bs.map ky) := fun e => HK.out (by have := lO.2 e; simpa using this)
 refine ⟨rfl, ⟨w.heap.size, dj ky w.heap.size ⟨k, false⟩, dj (dj pv w.heap.size E) (nx E) w.heap.size, dj (dj nx w.heap.size (nx E)) E w.heap.size, fun j => if j = k then some w.heap.size else M j, ?_, hmap⟩, oH HT HL.out.low.2.1 HT3⟩;have hlk := Lnk.turned HLK HT3;refine ⟨iJ HT3 HAT (fun _ _ e => by cases e), hlk.sub fun x hx => ?_, HSG, ?_, HM3, fun x hx => ?_, fun j x hj hx => ?_, ⟨HL.out.low.1, HL.out.low.2.1, fun x hx => ?_⟩, by rw [hmap]; exact HL.out.ok.cons hkn (by rw [List.length_map]; exact HLT) HWF, HL.out.rm⟩
 ·rcases List.mem_cons.1 hx with rfl | hx
  ·simp
  ·rcases List.mem_cons.1 hx with rfl | hx
   ·simp
   ·simp [hx]
 ·have hd := List.nodup_cons.1 HL.out.one;refine List.nodup_cons.2 ⟨fun e => ?_, List.nodup_cons.2 ⟨fun e => HNS.out (List.mem_cons_of_mem _ e), hd.2⟩⟩;rcases List.mem_cons.1 e with e | e
  ·exact HNS.out (by rw [<- e]; simp)
  ·exact hd.1 e
 ·try dsimp only
  rcases List.mem_cons.1 hx with rfl | hx
  ·rw [dc, if_pos rfl]
  ·rw [cj _ _ (hne x hx), if_neg (fun e => hkn (by rw [<- e]; exact List.mem_map.2 ⟨ky x, List.mem_map.2 ⟨x, hx, rfl⟩, rfl⟩)), HL.out.hit x hx]
 ·try dsimp only at hx
  split at hx
  ·rename_i e
   injection hx with hx;subst hx e;exact ⟨by simp, by rw [dc]⟩
  ·obtain ⟨h1, h2⟩ := HL.out.who j x hj hx;exact ⟨List.mem_cons_of_mem _ h1, by rw [cj _ _ (hne x h1)]; exact h2⟩
 ·rcases List.mem_cons.1 hx with rfl | hx
  ·exact HL.out.low.2.2 _ (by simp)
  ·rcases List.mem_cons.1 hx with rfl | hx
   ·exact HSZ
   ·exact HL.out.low.2.2 _ (List.mem_cons_of_mem _ hx)
end
section
variable {w w' : World} {B p room E bm i : Nat} {bs : List Nat} {ky : Nat -> Ky} {pv nx : Nat -> Nat} {M : Int -> Option Nat} {L : List Ky} {k : Int}
theorem iH {x : Nat} (hi : i < bs.length) : x ∈ bs.getD i 0 :: wo bs i ↔ x ∈ bs := by
 constructor
 ·intro h;rcases List.mem_cons.1 h with rfl | h
  ·exact cz hi
  ·exact (jH bs i).subset h
 ·intro h;by_cases e : x = bs.getD i 0
  ·rw [e]; simp
  ·exact List.mem_cons_of_mem _ (abQ hi h e)
theorem tX {i : Nat} (hp : plc k L = i) (hi : i < L.length) : nJ k L = 0 := by unfold nJ; rw [hp, if_pos hi]
theorem yo (hi : ¬ plc k L < L.length) : nJ k L = 7 := if_neg hi
theorem ab8 {x : Ky} (hd : bs.Nodup) (hi : i < bs.length) : bs.map (dj ky (bs.getD i 0) x) = (bs.map ky).set i x := by
 apply List.ext_getElem (by simp);intro j h1 h2;have hj : j < bs.length := by simpa using h1
 rw [List.getElem_map, List.getElem_set];by_cases e : i = j
 ·subst e;have e0 : bs.getD i 0 = bs[i] := by simp [List.getD, hi]
  rw [if_pos rfl];exact (congrArg (dj ky (bs.getD i 0) x) e0.symm).trans (dc _ _ _)
 ·rw [if_neg e, List.getElem_map, cj];intro e2;have e3 : nG (bs.getD j 0) bs = j := kX hd hj;rw [show bs.getD j 0 = bs[j] from by simp [List.getD, hj], e2, kX hd hi] at e3;exact e e3
end
theorem zN (n : Int) (w : World) (h : ¬ (1 <= n /\ n <= 64)) : Calls prog 26 #[.int .i64 n] w fun e w' => e = .returned (.tuple #[.pointer none, .int .i64 2]) /\ w = w' := by
 by_cases h1 : n < 1
 ·have hd : decide (n < 1) = true := ao h1;go_enter func26, ntmps26;go_wp2_with fail;go_ret2;exact ⟨rfl, rfl⟩
 ·have hd : decide (n < 1) = false := am h1;have hd2 : decide (64 < n) = true := ao (by omega);go_enter func26, ntmps26;go_wp2_with fail;go_ret2;exact ⟨rfl, rfl⟩
section
variable {w w' : World} {B : Nat -> Prop} {p room E bm i : Nat} {bs : List Nat} {ky : Nat -> Ky} {pv nx : Nat -> Nat} {M : Int -> Option Nat} {L : List Ky} {k : Int}
theorem dq.below (h : dq w B p room E bm bs ky pv nx M) (hb : Below w.heap.size w w') : dq w' B p room E bm bs ky pv nx M := h.keep fun b o ho _ => aB ho hb
theorem tY (w : World) (h : dq w B p room E bm bs ky pv nx M) (h0 : lu (bs.map ky) = 0) : Calls prog 161 #[.pointer (some ⟨p, 0, none⟩)] w fun e w' => e = .returned (.pointer none) /\ w = w' :=
 (pp w h).mono fun e w' hh => by rw [ud h0] at hh; exact hh
theorem uM (w : World) (h : dq w B p room E bm bs ky pv nx M) {j b : Nat} (h0 : lu (bs.map ky) = j + 1) (hb : bs.getD j 0 = b) : Calls prog 161 #[.pointer (some ⟨p, 0, none⟩)] w fun e w' => e = .returned (.pointer (some ⟨b, 0, none⟩)) /\ w = w' :=
 (pp w h).mono fun e w' hh => by rw [tx h0, hb] at hh; exact hh
theorem dq.front (h : dq w B p room E bm bs ky pv nx M) (hi : i < bs.length) {pv' nx' : Nat -> Nat} (hat : w'.heap[p]? = some (.cells #[.int .i64 (room : Int), ptB E, .map (some bm)] 123 (0, 0)))
  (hl : Lnk w' ky pv' nx' (bs.getD i 0 :: E :: wo bs i)) (hs : Seg pv' nx' E (bs.getD i 0 :: wo bs i) E) (hm : dG w' bm bs.length M) : dq w' B p room E bm (bs.getD i 0 :: wo bs i) ky pv' nx' M := by
 have hd := List.nodup_cons.1 h.one;refine ⟨hat, hl.sub fun x hx => ?_, hs, List.nodup_cons.2 ⟨fun e => hd.1 ((iH hi).1 e), List.nodup_cons.2 ⟨xA hd.2 hi, hd.2.sublist (jH bs i)⟩⟩, by rw [List.length_cons, ol hi]; exact hm, fun x hx => h.hit x ((iH hi).1 hx), fun j x hj hx => ⟨(iH hi).2 (h.who j x hj hx).1, (h.who j x hj hx).2⟩, ⟨h.low.1, h.low.2.1, fun x hx => ?_⟩, ?_, h.rm⟩
 ·rcases List.mem_cons.1 hx with rfl | hx
  ·simp
  ·rcases List.mem_cons.1 hx with rfl | hx
   ·simp
   ·simp [hx]
 ·rcases List.mem_cons.1 hx with rfl | hx
  ·exact h.low.2.2 _ (by simp)
  ·exact h.low.2.2 _ (List.mem_cons_of_mem _ ((iH hi).1 hx))
 ·have hw := h.ok.wf _ (List.mem_map.2 ⟨_, cz (d := 0) hi, rfl⟩);have hi' : i < (bs.map ky).length := by rw [List.length_map]; exact hi
  rw [List.map_cons, mP, <- getD_map ky bs 0 ky0 hi];exact (h.ok.wo i).cons (ahw h.ok.one hi') (h.ok.lt hi') (h.ok.wf _ (cz hi'))
def kG (B : Nat -> Prop) (p room : Nat) (k : Int) (L : List Ky) (w : World) (e : Ending) (w' : World) : Prop := e = .returned (.tuple #[.int .i64 (tW room k L), .bool (wQ room k L), .int .i64 (vG room k L)]) /\ PLF w' B p room (vg room k L) /\ f6 B w w'
theorem wb (w : World) (h : dq w B p room E bm bs ky pv nx M) (hw : (Lit.int .i64 k).wf = true) (hi : plc k (bs.map ky) < bs.length) :
  Calls prog 112 #[.pointer (some ⟨p, 0, none⟩), .int .i64 k] w (kG B p room k (bs.map ky) w) := by
 obtain ⟨i, hpi⟩ : ∃ i, plc k (bs.map ky) = i := ⟨_, rfl⟩;have hmk := h.acV hi;rw [hpi] at hi hmk;obtain ⟨b, hb⟩ : ∃ b, bs.getD i 0 = b := ⟨_, rfl⟩;rw [hb] at hmk;have hbs : b ∈ bs := by rw [<- hb]; exact cz hi
 have hm : b ∈ E :: bs := List.mem_cons_of_mem _ hbs;have HL := ae h;have HK : Hid ((Instr.lookup 121 (.map (some bm)) (.int .i64 k) false).run prog w = .ok (.pointer (some ⟨b, 0, none⟩)) w) := ae (by have := h.map.look hw; rw [hmk] at this; exact this);have HLV := ae (sS (B := B) w h.lnk hm (h.pvm hm) (h.nxm hm) h.low.2.2);have HSG := ae (ab9 h.seg h.one hi);have HI := ae hi;have HB := ae hb;have HPI := ae hpi;clear h hi hb hm hbs hmk hpi hw;go_enter func112, ntmps112;go_wp2_with fail;refine (fL _ HL).mono ?_;rintro e w1 ⟨rfl, rfl⟩;go_upto_region 3 with fail;refine aI 2 ?_;refine aku (ax rfl akE kz) ?_;refine aku (aC rfl akE (pJ (HL.out).c2)) ?_;refine runs 1 ?_;refine aku (cX rfl akE akE HK) ?_;refine aH 1 ?_;go_upto_region 4 with fail;refine aI 1 ?_;refine aku (dh true underlying118 rfl akE evk rfl) ?_;refine ah ?_;go_upto_region 5 with fail;refine aI 1 ?_;refine aw rfl (aA call159 rfl (evc akE evn)) ?_;refine HLV.out.mono ?_;rintro e w1 ⟨rfl, hl1, ht1⟩;refine aO ?_;refine ah ?_;have hat : w1.heap[p]? = some (.cells #[.int .i64 (room : Int), ptB E, .map (some bm)] 123 (0, 0)) := ht1.keep HL.out.at_ (by show ¬ (123 = 120); decide);have hsg := HSG.out;rw [HB.out] at hsg;have hnw : b ∉ E :: wo bs i := fun e => by
  have hd := List.nodup_cons.1 HL.out.one;rcases List.mem_cons.1 e with e | e
  ·exact hd.1 (by rw [<- e, <- HB.out]; exact cz HI)
  ·exact xA hd.2 HI (by rw [HB.out]; exact e)
 have hod : (E :: wo bs i).Nodup := HL.out.one.sublist ((jH bs i).cons_cons _);have hsub : ∀ x, x ∈ E :: wo bs i -> x ∈ E :: bs := fun x hx => by
  rcases List.mem_cons.1 hx with rfl | hx
  ·simp
  ·exact List.mem_cons_of_mem _ ((jH bs i).subset hx)
 have hbs : b ∈ bs := by rw [<- HB.out]; exact cz HI
 have hnxm : dj nx (pv b) (nx b) E ∈ E :: wo bs i := by
  rcases List.mem_append.1 (rK hsg) with e | e
  ·exact List.mem_cons_of_mem _ e
  ·simp at e; rw [e]; simp
 have HF := ae (qX (B := B) (E := E) w1 (ky b) _ _ (hl1.sub hsub) (hl1 b (List.mem_cons_of_mem _ hbs)) hnw (by simp) hnxm (fun x hx => HL.out.low.2.2 x (hsub x hx)) (HL.out.low.2.2 b (List.mem_cons_of_mem _ hbs)));have HS2 := ae (pD hsg hod hnw);have HC1 := ae (cells3 hat).2.1;have HAT := ae hat
 have HT := ae ht1;clear hat hsg hnw hod hsub hbs hnxm hl1 ht1;go_upto_region 6 with fail;refine aI 3 ?_;refine aku (ax rfl akE nq) ?_;refine aku (aC rfl akE (jw HC1)) ?_;refine aw rfl (aA call160 rfl (evc akE (evc akE evn))) ?_;refine HF.out.mono ?_;rintro e w2 ⟨rfl, hl2, ht2⟩;refine aO ?_;refine ah ?_;go_wp2_with fail
 go_ret3
 rw [zD] at hl2;have hnd : ∀ es c, ¬ nC (.map es c) := fun _ _ e => e
 have hat2 := ht2.keep HAT (by show ¬ (123 = 120); decide);have hmp : dG w2 bm bs.length M := HL.out.map.kept fun es c hb => ht2.keep (HT.out.keep hb (hnd es c)) (hnd es c)
 have hs2 := HS2.out;rw [<- HB.out] at hl2 hs2;have hp := HL.out.front HI hat2 hl2 hs2 hmp;have hi' : plc k (bs.map ky) < (bs.map ky).length := by rw [HPI.out, List.length_map]; exact HI
 refine ⟨?_, ⟨E, bm, _, ky, _, _, M, hp, ?_⟩, (HT.out.trans ht2).widen yw⟩
 ·unfold tW wQ vG;rw [if_pos hi', if_pos hi', if_pos hi']
  rfl
 ·unfold vg;rw [if_pos hi', HPI.out, List.map_cons, mP, getD_map ky bs 0 ky0 HI.out]
theorem tV (w : World) (hup : ∀ b, w.heap.size <= b -> B b) (h : dq w B p room E bm bs ky pv nx M) (hw : (Lit.int .i64 k).wf = true) (hi : ¬ plc k (bs.map ky) < bs.length) (hl : bs.length < room) :
  Calls prog 112 #[.pointer (some ⟨p, 0, none⟩), .int .i64 k] w (kG B p room k (bs.map ky) w) := by
 have hmk := h.lK hw hi;have hlen : (bs.map ky).length = bs.length := List.length_map _;have hle := h.ok.len;rw [hlen] at hle;have HI' : Hid (¬ plc k (bs.map ky) < (bs.map ky).length) := ae (by rw [hlen]; exact hi);have HLN := ae hlen;have HL := ae h;have HUP := ae hup;clear hup;have HK : Hid ((Instr.lookup 121 (.map (some bm)) (.int .i64 k) false).run prog w = .ok (.pointer none) w) := ae (by have := h.map.look hw; rw [hmk] at this; exact this);have HI := ae hi;have HW := ae hw;have HLT := ae hl;have HEQ : Hid (((bs.length : Int) == (room : Int)) = false) := ae (by simp; omega);clear hl;clear h hi hmk hw hlen hle;go_enter func112, ntmps112;go_wp2_with fail;refine (fL _ HL).mono ?_;rintro e w1 ⟨rfl, rfl⟩;go_upto_region 3 with fail;refine aI 2 ?_;refine aku (ax rfl akE kz) ?_;refine aku (aC rfl akE (pJ (HL.out).c2)) ?_;refine runs 1 ?_;refine aku (cX rfl akE akE HK) ?_;refine aH 1 ?_;go_upto_region 4 with fail;refine aI 1 ?_;refine aku (dh false underlying118 rfl akE evk rfl) ?_;refine ah ?_;go_upto_region 8 with fail;refine aR (B := w.heap.size) (by kernel_rfl) ?_;refine cE 2 ?_;refine akC (fun _ hw => ax rfl akE kz) ?_;refine akC (fun _ hw => aC rfl akE (pJ (HL.out.below hw).c2)) ?_;refine akC (fun _ hw => mH rfl akE (HL.out.below hw).map) ?_;refine cE 2 ?_;refine akC (fun _ hw => ax rfl akE adr) ?_;refine akC (fun _ hw => aC rfl akE (bS (HL.out.below hw).c0)) ?_;refine akC (fun _ hw => aF false rfl akE akE HEQ) ?_;refine wpQuiet_nil ?_;intro w2 hw2;have HL2 := ae (HL.out.below hw2);have HT2 := ae (bU.of_below (I := tF) (F := B) hw2);clear hw2;go_upto_region 14 with fail;refine aI 2 ?_;refine aw rfl (aA call162 rfl (evc akE (evc akE evn))) ?_;refine (abj w2 (HUP.out _ HT2.out.size) HL2 HI HLT HW).mono ?_;rintro e w3 ⟨rfl, ⟨n, ky', pv', nx', M', h3, e3⟩, ht3⟩;refine aO ?_;refine ah ?_;go_wp2_with fail
 go_ret3
 refine ⟨?_, ⟨E, bm, _, ky', pv', nx', M', h3, ?_⟩, HT2.out.trans ht3⟩
 ·unfold tW wQ vG;rw [if_neg HI'.out, if_neg HI'.out, if_neg HI'.out, HLN.out, if_pos HLT.out, if_pos HLT.out, if_pos HLT.out]
  rfl
 ·unfold vg;rw [e3, if_neg HI'.out, HLN.out, if_pos HLT.out]
theorem uL (w : World) (h : dq w B p room E bm bs ky pv nx M) (hw : (Lit.int .i64 k).wf = true) (hi : ¬ plc k (bs.map ky) < bs.length) (hl : ¬ bs.length < room) (hu : lu (bs.map ky) = 0) :
  Calls prog 112 #[.pointer (some ⟨p, 0, none⟩), .int .i64 k] w (kG B p room k (bs.map ky) w) := by
 have hmk := h.lK hw hi;have hlen : (bs.map ky).length = bs.length := List.length_map _;have hle := h.ok.len;rw [hlen] at hle;have HI' : Hid (¬ plc k (bs.map ky) < (bs.map ky).length) := ae (by rw [hlen]; exact hi);have HLN := ae hlen;have HL := ae h;have HK : Hid ((Instr.lookup 121 (.map (some bm)) (.int .i64 k) false).run prog w = .ok (.pointer none) w) := ae (by have := h.map.look hw; rw [hmk] at this; exact this);have HI := ae hi;have HW := ae hw;have HLT : Hid (¬ bs.length < room) := ae hl;have HEQ : Hid (((bs.length : Int) == (room : Int)) = true) := ae (by simp; omega);have HU := ae hu;clear hl hu;clear h hi hmk hw hlen hle;go_enter func112, ntmps112;go_wp2_with fail;refine (fL _ HL).mono ?_;rintro e w1 ⟨rfl, rfl⟩;go_upto_region 3 with fail;refine aI 2 ?_;refine aku (ax rfl akE kz) ?_;refine aku (aC rfl akE (pJ (HL.out).c2)) ?_;refine runs 1 ?_;refine aku (cX rfl akE akE HK) ?_;refine aH 1 ?_;go_upto_region 4 with fail;refine aI 1 ?_;refine aku (dh false underlying118 rfl akE evk rfl) ?_;refine ah ?_;go_upto_region 8 with fail;refine aR (B := w.heap.size) (by kernel_rfl) ?_;refine cE 2 ?_;refine akC (fun _ hw => ax rfl akE kz) ?_;refine akC (fun _ hw => aC rfl akE (pJ (HL.out.below hw).c2)) ?_;refine akC (fun _ hw => mH rfl akE (HL.out.below hw).map) ?_;refine cE 2 ?_;refine akC (fun _ hw => ax rfl akE adr) ?_;refine akC (fun _ hw => aC rfl akE (bS (HL.out.below hw).c0)) ?_;refine akC (fun _ hw => aF true rfl akE akE HEQ) ?_;refine wpQuiet_nil ?_;intro w2 hw2;have HL2 := ae (HL.out.below hw2);have HT2 := ae (bU.of_below (I := tF) (F := B) hw2);clear hw2;go_upto_region 9 with fail;refine aI 1 ?_;refine aw rfl (aA call161 rfl (evc akE evn)) ?_;refine (tY w2 HL2 HU).mono ?_;rintro e w3 ⟨rfl, rfl⟩;refine aO ?_;refine aH 1 ?_;go_upto_region 10 with fail;refine aI 1 ?_;refine aku (cI true underlying118 rfl akE evk rfl) ?_;refine ah ?_;go_wp2_with fail
 go_ret3
 refine ⟨?_, ⟨E, bm, bs, ky, pv, nx, M, HL2, ?_⟩, HT2⟩
 ·unfold tW wQ vG;rw [if_neg HI'.out, if_neg HI'.out, if_neg HI'.out, HLN.out, if_neg HLT.out, if_neg HLT.out, if_neg HLT.out, if_pos HU.out, if_pos HU.out, if_pos HU.out]
  rfl
 ·unfold vg;rw [if_neg HI'.out, HLN.out, if_neg HLT.out, if_pos HU.out]
theorem t7 (w : World) (hup : ∀ b, w.heap.size <= b -> B b) (h : dq w B p room E bm bs ky pv nx M) (hw : (Lit.int .i64 k).wf = true) (hi : ¬ plc k (bs.map ky) < bs.length) (hl : ¬ bs.length < room) {j : Nat} (hu : lu (bs.map ky) = j + 1) :
  Calls prog 112 #[.pointer (some ⟨p, 0, none⟩), .int .i64 k] w (kG B p room k (bs.map ky) w) := by
 have hmk := h.lK hw hi;have hlen : (bs.map ky).length = bs.length := List.length_map _;have hle := h.ok.len;rw [hlen] at hle;have HI' : Hid (¬ plc k (bs.map ky) < (bs.map ky).length) := ae (by rw [hlen]; exact hi);have HLN := ae hlen;have HL := ae h;have HUP := ae hup;clear hup;have HK : Hid ((Instr.lookup 121 (.map (some bm)) (.int .i64 k) false).run prog w = .ok (.pointer none) w) := ae (by have := h.map.look hw; rw [hmk] at this; exact this);have HI := ae hi;have HW := ae hw;have HLT : Hid (¬ bs.length < room) := ae hl;have HEQ : Hid (((bs.length : Int) == (room : Int)) = true) := ae (by simp; omega);have hj : j < bs.length := by have := acP (bs.map ky); omega
 obtain ⟨b, hb⟩ : ∃ b, bs.getD j 0 = b := ⟨_, rfl⟩;have HU := ae hu;have HU0 : Hid (¬ lu (bs.map ky) = 0) := ae (by omega);have HJ := ae hj;have HB := ae hb;have HI3 : Hid (¬ plc k ((wo bs j).map ky) < (wo bs j).length) := ae fun e => by
  have e1 : k ∈ fy ((wo bs j).map ky) := lO.1 (by rw [List.length_map]; exact e);have e2 : plc k (bs.map ky) < (bs.map ky).length := lO.2 ((((jH bs j).map ky).map Ky.n).subset e1);exact HI'.out e2
 have HLT3 : Hid ((wo bs j).length < room) := ae (by have := ol hj; omega);clear hl hu hj hb;clear h hi hmk hw hlen hle;go_enter func112, ntmps112;go_wp2_with fail;refine (fL _ HL).mono ?_;rintro e w1 ⟨rfl, rfl⟩;go_upto_region 3 with fail;refine aI 2 ?_;refine aku (ax rfl akE kz) ?_;refine aku (aC rfl akE (pJ (HL.out).c2)) ?_;refine runs 1 ?_;refine aku (cX rfl akE akE HK) ?_;refine aH 1 ?_;go_upto_region 4 with fail;refine aI 1 ?_;refine aku (dh false underlying118 rfl akE evk rfl) ?_;refine ah ?_;go_upto_region 8 with fail;refine aR (B := w.heap.size) (by kernel_rfl) ?_;refine cE 2 ?_;refine akC (fun _ hw => ax rfl akE kz) ?_;refine akC (fun _ hw => aC rfl akE (pJ (HL.out.below hw).c2)) ?_;refine akC (fun _ hw => mH rfl akE (HL.out.below hw).map) ?_;refine cE 2 ?_;refine akC (fun _ hw => ax rfl akE adr) ?_;refine akC (fun _ hw => aC rfl akE (bS (HL.out.below hw).c0)) ?_;refine akC (fun _ hw => aF true rfl akE akE HEQ) ?_;refine wpQuiet_nil ?_;intro w2 hw2;have HL2 := ae (HL.out.below hw2);have HT2 := ae (bU.of_below (I := tF) (F := B) hw2);clear hw2;go_upto_region 9 with fail;refine aI 1 ?_;refine aw rfl (aA call161 rfl (evc akE evn)) ?_;refine (uM w2 HL2 HU HB).mono ?_;rintro e w3 ⟨rfl, rfl⟩;refine aO ?_;refine aH 1 ?_;go_upto_region 10 with fail;refine aI 1 ?_;refine aku (cI false underlying118 rfl akE evk rfl) ?_;refine ah ?_;go_upto_region 12 with fail;refine aI 2 ?_;refine aw rfl (aA call124 rfl (evc akE (evc akE evn))) ?_;refine (qJ w2 HL2 HJ HB).mono ?_;rintro e w3 ⟨rfl, ⟨pv', nx', M', h3⟩, ht3, u, v, hn3⟩;refine aO ?_;refine ah ?_;have HL3 := ae h3;have HN3 := ae hn3;have HT3 := ae (HT2.out.trans ht3);clear h3 hn3 ht3;go_upto_region 13 with fail;refine aI 2 ?_;refine aku (ax rfl akE aca) ?_;refine aku (aC rfl akE (bS (HN3.out).c0)) ?_;refine aH 2 ?_;go_upto_region 14 with fail;refine aI 2 ?_;refine aw rfl (aA call162 rfl (evc akE (evc akE evn))) ?_;refine (abj w3 (HUP.out _ HT3.out.size) HL3 HI3 HLT3 HW).mono ?_;rintro e w4 ⟨rfl, ⟨n, ky', pv4, nx4, M4, h4, e4⟩, ht4⟩;refine aO ?_;refine ah ?_;go_wp2_with fail
 go_ret3
 refine ⟨?_, ⟨E, bm, _, ky', pv4, nx4, M4, h4, ?_⟩, HT3.out.trans ht4⟩
 ·unfold tW wQ vG;rw [if_neg HI'.out, if_neg HI'.out, if_neg HI'.out, HLN.out, if_neg HLT.out, if_neg HLT.out, if_neg HLT.out, if_neg HU0.out, if_neg HU0.out, if_neg HU0.out, HU.out, Nat.add_sub_cancel, getD_map ky bs 0 ky0 HJ.out, HB.out]
  rfl
 ·unfold vg;rw [e4, if_neg HI'.out, HLN.out, if_neg HLT.out, if_neg HU0.out, HU.out, Nat.add_sub_cancel, mP]
theorem kV (w : World) (hup : ∀ b, w.heap.size <= b -> B b) (h : PLF w B p room L) (hw : (Lit.int .i64 k).wf = true) : Calls prog 112 #[.pointer (some ⟨p, 0, none⟩), .int .i64 k] w (kG B p room k L w) := by
 obtain ⟨E, bm, bs, ky, pv, nx, M, h, rfl⟩ := h;by_cases hi : plc k (bs.map ky) < bs.length
 ·exact wb w h hw hi
 ·by_cases hl : bs.length < room
  ·exact tV w hup h hw hi hl
  ·rcases Nat.eq_zero_or_pos (lu (bs.map ky)) with hu | hu
   ·exact uL w h hw hi hl hu
   ·exact t7 w hup h hw hi hl (j := lu (bs.map ky) - 1) (by omega)
theorem dq.find (w : World) (h : dq w B p room E bm bs ky pv nx M) (hw : (Lit.int .i64 k).wf = true) {i b : Nat} (hp : plc k (bs.map ky) = i) (hi : i < bs.length) (hb : bs.getD i 0 = b) : Calls prog 119 #[.pointer (some ⟨p, 0, none⟩), .int .i64 k] w fun e w' => e = .returned (.tuple #[.pointer (some ⟨b, 0, none⟩), .int .i64 0]) /\ w = w' :=
 tf w h hw (by have := h.acV (k := k) (by rw [hp]; exact hi); rw [hp, hb] at this; exact this)
theorem aev (w : World) (h : dq w B p room E bm bs ky pv nx M) (hw : (Lit.int .i64 k).wf = true) (is : Bool) (hi : ¬ plc k (bs.map ky) < bs.length) :
  Calls prog 67 #[.pointer (some ⟨p, 0, none⟩), .int .i64 k, .bool is] w fun e w' => e = .returned (.int .i64 (nJ k (bs.map ky))) /\ PLF w' B p room (mW k is (bs.map ky)) /\ f6 B w w' := by
 have hi' : ¬ plc k (bs.map ky) < (bs.map ky).length := by rw [List.length_map]; exact hi
 have HI' := ae hi';have HF := ae (lB w h hw (h.lK hw hi));have HL := ae h;clear h hi hi' hw;go_enter func67, ntmps67;go_wp2_with fail;refine HF.out.mono ?_;rintro e w1 ⟨rfl, rfl⟩;go_wp2_with fail;go_ret;refine ⟨by rw [yo HI'.out]; rfl, ⟨E, bm, bs, ky, pv, nx, M, HL, ?_⟩, bU.refl _ _ _⟩;unfold mW;rw [if_neg HI'.out]
theorem ads (w : World) (h : dq w B p room E bm bs ky pv nx M) (hw : (Lit.int .i64 k).wf = true) (hi : ¬ plc k (bs.map ky) < bs.length) :
  Calls prog 68 #[.pointer (some ⟨p, 0, none⟩), .int .i64 k] w fun e w' => e = .returned (.int .i64 (nJ k (bs.map ky))) /\ PLF w' B p room (xk k (bs.map ky)) /\ f6 B w w' := by
 have hi' : ¬ plc k (bs.map ky) < (bs.map ky).length := by rw [List.length_map]; exact hi
 have HI' := ae hi';have HF := ae (lB w h hw (h.lK hw hi));have HL := ae h;clear h hi hi' hw;go_enter func68, ntmps68;go_wp2_with fail;refine HF.out.mono ?_;rintro e w1 ⟨rfl, rfl⟩;go_wp2_with fail;go_ret;refine ⟨by rw [yo HI'.out]; rfl, ⟨E, bm, bs, ky, pv, nx, M, HL, ?_⟩, bU.refl _ _ _⟩;unfold xk;rw [if_neg HI'.out]
theorem abr (w : World) (h : dq w B p room E bm bs ky pv nx M) (hw : (Lit.int .i64 k).wf = true) (is : Bool) (hi : plc k (bs.map ky) < bs.length) :
  Calls prog 67 #[.pointer (some ⟨p, 0, none⟩), .int .i64 k, .bool is] w fun e w' => e = .returned (.int .i64 (nJ k (bs.map ky))) /\ PLF w' B p room (mW k is (bs.map ky)) /\ f6 B w w' := by
 obtain ⟨i, hpi⟩ : ∃ i, plc k (bs.map ky) = i := ⟨_, rfl⟩;rw [hpi] at hi;obtain ⟨b, hb⟩ : ∃ b, bs.getD i 0 = b := ⟨_, rfl⟩;have hbs : b ∈ bs := by rw [<- hb]; exact cz hi
 have hi' : i < (bs.map ky).length := by rw [List.length_map]; exact hi
 have HL := ae h;have HF := ae (h.find w hw hpi hi hb);have HI := ae hi;have HI' := ae hi';have HB := ae hb;have HBS := ae hbs;have HPI := ae hpi;have hkn : (ky b).n = k := by
  have := oZ (k := k) (L := bs.map ky) (by rw [hpi]; exact hi');rw [hpi, getD_map ky bs 0 ky0 hi, hb] at this;exact this
 have HKN := ae hkn;have HN := ae (h.lnk b (List.mem_cons_of_mem _ hbs));clear hkn;clear h hi hb hbs hpi hw hi';go_enter func67, ntmps67;go_wp2_with fail;refine HF.out.mono ?_;rintro e w1 ⟨rfl, rfl⟩;go_upto_region 4 with fail;refine aI 3 ?_;refine aku (ax rfl akE yl) ?_;refine aG rfl (cZ rfl (ev rfl) (ev rfl) (ajd HN.out.c1 (HN.out.fz 1))) ?_;simp only [aa];refine ah ?_;go_wp2_with fail;go_ret;have hm : b ∈ E :: bs := List.mem_cons_of_mem _ HBS;have hd := List.nodup_cons.1 HL.out.one;have hmap : bs.map (dj ky b ⟨(ky b).n, is⟩) = (bs.map ky).set i ⟨k, is⟩ := by
  have := ab8 (ky := ky) (x := ⟨(ky b).n, is⟩) hd.2 HI;rw [HB.out] at this;rw [this, HKN.out]
 have hpin : mW k is (bs.map ky) = (bs.map ky).set i ⟨k, is⟩ := by unfold mW; rw [HPI.out, if_pos HI'.out]
 have hkk : ∀ x, (dj ky b ⟨(ky b).n, is⟩ x).n = (ky x).n := fun x => by
  by_cases e : x = b
  ·subst e; rw [dc]
  ·rw [cj _ _ e]
 have hB := HL.out.low.2.2 b hm;have ht : f6 B w (w.setCell ⟨b, 1, none⟩ (.bool is)) := ((bU.refl nC B w).node hB HN 1 (.bool is)).widen yw;have hoth : ∀ (c : Nat) (o : Obj), w.heap[c]? = some o -> ¬ nC o -> (w.setCell ⟨b, 1, none⟩ (.bool is)).heap[c]? = some o := fun c o ho hn => ((bU.refl nC B w).node hB HN 1 (.bool is)).keep ho hn
 refine ⟨by rw [tX HPI.out HI'.out]; rfl, ⟨E, bm, bs, dj ky b ⟨(ky b).n, is⟩, pv, nx, M, ⟨hoth _ _ HL.out.at_ (by show ¬ (123 = 120); decide), HL.out.lnk.s1 is hm, HL.out.seg, HL.out.one, HL.out.map.kept fun es c hb => hoth _ _ hb fun e => e, fun x hx => by rw [hkk]; exact HL.out.hit x hx, fun j x hj hx => by rw [hkk]; exact HL.out.who j x hj hx, HL.out.low, ?_, HL.out.rm⟩, by rw [hmap, hpin]⟩, ht⟩;rw [hmap, <- hpin];exact HL.out.ok.pin
theorem aaC (w : World) (h : dq w B p room E bm bs ky pv nx M) (hw : (Lit.int .i64 k).wf = true) (hi : plc k (bs.map ky) < bs.length) :
  Calls prog 68 #[.pointer (some ⟨p, 0, none⟩), .int .i64 k] w fun e w' => e = .returned (.int .i64 (nJ k (bs.map ky))) /\ PLF w' B p room (xk k (bs.map ky)) /\ f6 B w w' := by
 obtain ⟨i, hpi⟩ : ∃ i, plc k (bs.map ky) = i := ⟨_, rfl⟩;rw [hpi] at hi;obtain ⟨b, hb⟩ : ∃ b, bs.getD i 0 = b := ⟨_, rfl⟩;have hbs : b ∈ bs := by rw [<- hb]; exact cz hi
 have hi' : i < (bs.map ky).length := by rw [List.length_map]; exact hi
 have HL := ae h;have HF := ae (h.find w hw hpi hi hb);have HI := ae hi;have HI' := ae hi';have HB := ae hb;have HBS := ae hbs;have HPI := ae hpi;clear h hi hb hbs hpi hw hi';go_enter func68, ntmps68;go_wp2_with fail;refine HF.out.mono ?_;rintro e w1 ⟨rfl, rfl⟩;go_wp2_with fail;refine (qJ w HL HI HB).mono ?_;rintro e w3 ⟨rfl, ⟨pv', nx', M', h3⟩, ht3, _⟩;have H3 := ae h3;have HT3 := ae ht3;clear h3 ht3;go_wp2_with fail;go_ret;refine ⟨by rw [tX HPI.out HI'.out]; rfl, ⟨E, bm, _, ky, pv', nx', M', H3, ?_⟩, HT3⟩;unfold xk;rw [HPI.out, if_pos HI'.out, mP]
theorem wL (w : World) (h : dq w B p room E bm bs ky pv nx M) (hw : (Lit.int .i64 k).wf = true) (hi : ¬ plc k (bs.map ky) < bs.length) :
  Calls prog 62 #[.pointer (some ⟨p, 0, none⟩), .int .i64 k] w fun e w' => e = .returned (.bool (ql k (bs.map ky))) /\ w = w' := by
 have hr : ql k (bs.map ky) = false := by unfold ql; rw [List.length_map, am hi]; rfl
 have HF := ae (lB w h hw (h.lK hw hi));rw [hr];clear h hi hw hr;go_enter func62, ntmps62;go_wp2_with fail;refine HF.out.mono ?_;rintro e w1 ⟨rfl, rfl⟩;go_wp2_with fail;go_ret;exact ⟨rfl, rfl⟩
theorem tz (w : World) (h : dq w B p room E bm bs ky pv nx M) (hw : (Lit.int .i64 k).wf = true) (hi : plc k (bs.map ky) < bs.length) :
  Calls prog 62 #[.pointer (some ⟨p, 0, none⟩), .int .i64 k] w fun e w' => e = .returned (.bool (ql k (bs.map ky))) /\ w = w' := by
 obtain ⟨i, hpi⟩ : ∃ i, plc k (bs.map ky) = i := ⟨_, rfl⟩;rw [hpi] at hi;obtain ⟨b, hb⟩ : ∃ b, bs.getD i 0 = b := ⟨_, rfl⟩;have hbs : b ∈ bs := by rw [<- hb]; exact cz hi
 have hi' : i < (bs.map ky).length := by rw [List.length_map]; exact hi
 have HL := ae h;have HF := ae (h.find w hw hpi hi hb);have HI := ae hi;have HI' := ae hi';have HB := ae hb;have HBS := ae hbs;have HPI := ae hpi;have HN := ae (h.lnk b (List.mem_cons_of_mem _ hbs));have hr : ql k (bs.map ky) = (ky b).pin := by unfold ql; rw [hpi, ao hi', getD_map ky bs 0 ky0 hi, hb]; rfl
 rw [hr];clear hr;clear h hi hb hbs hpi hw hi';go_enter func62, ntmps62;go_wp2_with fail;refine HF.out.mono ?_;rintro e w1 ⟨rfl, rfl⟩;go_upto_region 2 with fail;refine aI 1 ?_;refine aku (aF true rfl akE evk rfl) ?_;refine runs 3 ?_;refine akB (ax rfl akE yl) ?_;refine akB (aC rfl akE (sV (HN.out).c1)) ?_;refine aH 2 ?_;go_wp2_with fail;go_ret;exact ⟨rfl, rfl⟩
theorem xV (w : World) (h : PLF w B p room L) (hw : (Lit.int .i64 k).wf = true) (is : Bool) : Calls prog 67 #[.pointer (some ⟨p, 0, none⟩), .int .i64 k, .bool is] w fun e w' => e = .returned (.int .i64 (nJ k L)) /\ PLF w' B p room (mW k is L) /\ f6 B w w' := by
 obtain ⟨E, bm, bs, ky, pv, nx, M, h, rfl⟩ := h;by_cases hi : plc k (bs.map ky) < bs.length
 ·exact abr w h hw is hi
 ·exact aev w h hw is hi
theorem sP (w : World) (h : PLF w B p room L) (hw : (Lit.int .i64 k).wf = true) : Calls prog 68 #[.pointer (some ⟨p, 0, none⟩), .int .i64 k] w fun e w' => e = .returned (.int .i64 (nJ k L)) /\ PLF w' B p room (xk k L) /\ f6 B w w' := by
 obtain ⟨E, bm, bs, ky, pv, nx, M, h, rfl⟩ := h;by_cases hi : plc k (bs.map ky) < bs.length
 ·exact aaC w h hw hi
 ·exact ads w h hw hi
theorem oh (w : World) (h : PLF w B p room L) (hw : (Lit.int .i64 k).wf = true) : Calls prog 62 #[.pointer (some ⟨p, 0, none⟩), .int .i64 k] w fun e w' => e = .returned (.bool (ql k L)) /\ w = w' := by
 obtain ⟨E, bm, bs, ky, pv, nx, M, h, rfl⟩ := h;by_cases hi : plc k (bs.map ky) < bs.length
 ·exact tz w h hw hi
 ·exact wL w h hw hi
theorem adA (w : World) (h : PLF w B p room L) : Calls prog 71 #[.pointer (some ⟨p, 0, none⟩)] w fun e w' => e = .returned (.int .i64 (room : Int)) /\ w = w' := by
 obtain ⟨E, bm, bs, ky, pv, nx, M, h, rfl⟩ := h;have HL := ae h;clear h;go_enter func71, ntmps71;go_wp2_with fail;refine (fL _ HL).mono ?_;rintro e w1 ⟨rfl, rfl⟩;have c0 := HL.out.c0;go_wp2_with fail;go_ret;exact ⟨rfl, rfl⟩
theorem ab3 (w : World) (h : PLF w B p room L) : Calls prog 64 #[.pointer (some ⟨p, 0, none⟩)] w fun e w' => ∃ v, e = .returned v /\ aP bY w' w.heap.size v (fy L) /\ Below w.heap.size w w' := by
 obtain ⟨E, bm, bs, ky, pv, nx, M, h, rfl⟩ := h;have HL := ae h;have HE := ae (h.lnk E (by simp));have HNV : Hid (∀ i, i <= bs.length -> nx ((E :: bs).getD i 0) = (bs ++ [E]).getD i 0) := ae (aeS h.seg);have HEV : Hid (nx E = (bs ++ [E]).getD 0 0) := ae (HNV.out 0 (Nat.zero_le _));have hd := List.nodup_cons.1 h.one;have hone : (bs ++ [E]).Nodup := List.nodup_append.2 ⟨hd.2, by simp, fun x hx y hy e => by simp at hy; subst hy e; exact hd.1 hx⟩;have HPS : Hid (∀ i, i <= bs.length -> nG ((bs ++ [E]).getD i 0) (bs ++ [E]) = i) := ae fun i hi => kX hone (by simp; omega)
 have HNO := ae hd.1;have HLE : Hid (bs.length <= 64) := ae (by have := h.ok.len; rw [List.length_map] at this; have := h.rm; omega);obtain ⟨j0, hj0, hz0⟩ := agt;have HJ := ae hj0;have HZ := ae hz0;have HLK := ae h.lnk;have HKY : Hid (∀ i, i < bs.length -> fy ((bs.take i).map ky) ++ [(ky (bs.getD i 0)).n] = fy ((bs.take (i + 1)).map ky)) := ae fun i hi => by
  have e0 : bs.getD i 0 = bs[i] := by simp [List.getD, hi]
  rw [List.take_succ_eq_append_getElem hi, e0];unfold fy;rw [List.map_append, List.map_append]
  rfl
 have HKL : Hid (∀ i, i <= bs.length -> (fy ((bs.take i).map ky)).length <= 64) := ae fun i hi => by have := HLE.out; unfold fy; simp; omega
 clear h hj0 hz0 hd hone;go_enter func64, ntmps64;go_wp2_with fail;refine (fL _ HL).mono ?_;rintro e w1 ⟨rfl, rfl⟩;go_upto_region 4 with fail;refine aI 2 ?_;refine aku (ax rfl akE nq) ?_;refine aku (aC rfl akE (jw (HL.out).c1)) ?_;refine runs 1 ?_;refine aku (ax rfl akE mv) ?_;refine aku (aC rfl akE (jw (HE.out).c3)) ?_;refine aH 1 ?_;rw [HEV.out];go_wp2_with fail
 go_loopw [3, 4] (fun u v wr => ∃ i, i <= bs.length /\ v = .pointer (some ⟨(bs ++ [E]).getD i 0, 0, none⟩) /\ aP bY wr w.heap.size u (fy ((bs.take i).map ky)) /\ Below w.heap.size w wr) (fun _ v _ => bs.length - nG (ags v) (bs ++ [E]))
 case atStart => exact ⟨0, Nat.zero_le _, rfl, by rw [List.take_zero]; exact aP.nil _ _, ak⟩
 case round =>
  obtain ⟨i, hi, rfl, hm, hbl⟩ := hrel;have HM := ae hm;have HB := ae hbl;clear hm hbl;by_cases hlt : i < bs.length
  ·obtain ⟨b, hb⟩ : ∃ b, bs.getD i 0 = b := ⟨_, rfl⟩;have hbm : b ∈ bs := by rw [<- hb]; exact cz hlt
   have hga : (bs ++ [E]).getD i 0 = b := by rw [<- hb]; simp [List.getD, List.getElem?_append_left hlt]
   have HN := ae (HL.out.below HB).lnk;have HNB := ae (HN.out b (List.mem_cons_of_mem _ hbm));have HNE : Hid (b ≠ E) := ae fun e => HNO.out (by rw [<- e]; exact hbm)
   have HPB : Hid (nx b = (bs ++ [E]).getD (i + 1) 0) := ae (by
    have := HNV.out (i + 1) (by omega);rw [<- this, <- hb]
    rfl)
   have HGA := ae hga;have HBE := ae hb;have HLT := ae hlt;clear hb hbm hga hlt;rw [HGA.out];go_upto_region 5 with fail;refine aI 3 ?_;refine aku (ax rfl akE nq) ?_;refine aku (aC rfl akE (jw ((HL.out.below HB)).c1)) ?_;refine aku (kY true underlying118 HJ.out HZ.out rfl (ev rfl) (ev rfl) HNB.out (HN.out E (by simp)) (by have := HNE.out; simp [this])) ?_;refine ah ?_;go_upto_region 7 with fail;refine aI 3 ?_;refine aku (ax rfl akE aca) ?_;refine aku (aC rfl akE (bS (HNB.out).c0)) ?_;refine aku (du (E := bY) (a := (ky b).n) rfl akE rfl (by decide)) ?_;refine ub bY rfl _ _ rfl w.heap.size (wr.heap.size + 1) 1 1 _ (fy ((bs.take i).map ky)) [(ky b).n] (some ⟨wr.heap.size, 0, none⟩) akE akE (HM.out.below ((Below.refl _ wr).alloc aj _)) (fg wr _ _ rfl) (by rw [World.size_alloc]; exact Nat.le_succ_of_le HB.out.size) (by have := HKL.out i hi; omega) ?_;intro v' w2 hm2 hg2;simp only [aa];refine aH 1 ?_;have hky := HKY.out i HLT;rw [HBE.out] at hky;rw [hky] at hm2;have HM2 := ae hm2;have HB2 : Hid (Below w.heap.size w w2) := ae ((HB.out.alloc HB.out.size _).grown hg2 (by have := HB.out.size; simp; omega) fun j hj => HM.out.gH j hj);have HN2 := ae ((HL.out.below HB2).lnk b (List.mem_cons_of_mem _ (by rw [<- HBE.out]; exact cz HLT)));clear hm2 hg2 hky;go_upto_region 6 with fail;refine aI 2 ?_;refine aku (ax rfl akE mv) ?_;refine aku (aC rfl akE (jw (HN2.out).c3)) ?_;refine aH 1 ?_;rw [HPB.out];go_wp2_with fail;go_roundw
   case rel => exact ⟨i + 1, HLT, rfl, HM2, HB2⟩
   case measure =>
    show bs.length - nG ((bs ++ [E]).getD (i + 1) 0) (bs ++ [E]) < bs.length - nG b (bs ++ [E])
    have h1 := HPS.out (i + 1) HLT;have h2 := HPS.out i hi;rw [HGA.out] at h2;have := HLT.out;omega
  ·have hie : i = bs.length := by omega
   have HGA : Hid ((bs ++ [E]).getD i 0 = E) := ae (by rw [hie]; simp);have HN := ae ((HL.out.below HB).lnk E (by simp));have HTK : Hid (bs.take i = bs) := ae (by rw [hie, List.take_length]);clear hie hlt;rw [HGA.out];go_upto_region 5 with fail;refine aI 3 ?_;refine aku (ax rfl akE nq) ?_;refine aku (aC rfl akE (jw ((HL.out.below HB)).c1)) ?_;refine aku (kY false underlying118 HJ.out HZ.out rfl (ev rfl) (ev rfl) HN.out HN.out (by simp)) ?_;refine ah ?_;have hm := HM.out;rw [HTK.out] at hm;have HM2 := ae hm;clear hm;go_wp2_with fail;go_ret;exact ⟨_, rfl, HM2, HB⟩
end
theorem aeF (room : Nat) (w : World) (h1 : 1 <= room) (h2 : room <= 64) : Calls prog 26 #[.int .i64 (room : Int)] w fun e w' => ∃ p, e = .returned (.tuple #[.pointer (some ⟨p, 0, none⟩), .int .i64 0]) /\ PLF w' (fun b => w.heap.size <= b) p room [] /\ Below w.heap.size w w' := by
 have hmm := @run_makeMap prog;have hd : decide ((room : Int) < 1) = false := am (by omega);have hd2 : decide (64 < (room : Int)) = false := am (by omega);go_enter func26, ntmps26;go_wp2_with fail;go_ret2;have b1 : Below w.heap.size w (w.alloc (.cells (qp ky0 (ptB w.heap.size) (ptB w.heap.size)).toArray 120)) := ak.alloc aj _;have hb : Below w.heap.size w (((w.alloc (.cells (qp ky0 (ptB w.heap.size) (ptB w.heap.size)).toArray 120)).alloc (.map #[] 0)).alloc (.cells #[.int .i64 (room : Int), ptB w.heap.size, .map (some (w.heap.size + 1))] 123)) :=
  (b1.alloc (by simp) _).alloc (by simp; omega) _
 refine ⟨_, rfl, ⟨w.heap.size, w.heap.size + 1, [], fun _ => ky0, fun _ => w.heap.size, fun _ => w.heap.size, fun _ => none, ⟨?_, fun b hb => ?_, ⟨rfl, rfl⟩, by simp, ?_, by simp, (fun k b _ e => by cases e), ⟨by omega, by omega, fun b hb => by simp at hb; omega⟩, LOk.nil, ⟨h1, h2⟩⟩, rfl⟩, hb⟩
 ·have := heap_alloc_new ((w.alloc (.cells (qp ky0 (ptB w.heap.size) (ptB w.heap.size)).toArray 120)).alloc (.map #[] 0)) (.cells #[.int .i64 (room : Int), ptB w.heap.size, .map (some (w.heap.size + 1))] 123);rw [World.size_alloc, World.size_alloc] at this;exact this
 ·simp at hb;subst hb;exact bz (bz (heap_alloc_new w _) _) _
 ·have := dG.made (w.alloc (.cells (qp ky0 (ptB w.heap.size) (ptB w.heap.size)).toArray 120));rw [World.size_alloc] at this;exact this.kept fun es c hb => bz hb _
open Go.RowKit Go.ChangeShapes Go.WideShapes Go.ChangeAt Go.Deep
structure ako where
 Do : Int
 Mem : Int
 B : Blk
 Seq : Nat
structure LnI where
 P : World -> Nat -> Nat -> LnS -> Prop
 I : Obj -> Prop
 keep : ∀ {w w' : World} {B p : Nat} {s : LnS}, P w B p s -> (∀ (b : Nat) (o : Obj), w.heap[b]? = some o -> I o -> w'.heap[b]? = some o) -> P w' B p s
 ok : ∀ {w : World} {B p : Nat} {s : LnS}, P w B p s -> dI s /\ B <= p /\ p < w.heap.size
 rn : ∀ o, ajX o -> ¬ I o
 new_ok : ∀ (N : Nat) (w : World), 1 <= N -> N <= 16 -> Calls prog 113 #[.int .i64 (N : Int)] w fun e w' => ∃ p, e = .returned (.tuple #[.pointer (some ⟨p, 0, none⟩), .int .i64 0]) /\ P w' w.heap.size p (dQ N) /\ Below w.heap.size w w'
 new_no : ∀ (n : Int) (w : World), ¬ (1 <= n /\ n <= 16) -> Calls prog 113 #[.int .i64 n] w fun e w' => e = .returned (.tuple #[.pointer none, .int .i64 2]) /\ Below w.heap.size w w'
 learn_ : ∀ (w : World) (m : Int) (b : Blk) {B p : Nat} {s : LnS}, P w B p s -> Calls prog 61 #[.pointer (some ⟨p, 0, none⟩), .int .i64 m, blk b] w fun e w' => e = .returned (.int .i64 (lnE s m)) /\ P w' B p (fq s m b) /\ aeW I B w w'
 set_ : ∀ (w : World) (m : Int) (b : Blk) (Q : Nat) {B p : Nat} {s : LnS}, P w B p s -> Q < 18446744073709551616 -> Calls prog 105 #[.pointer (some ⟨p, 0, none⟩), .int .i64 m, blk b, .int .u64 (Q : Int)] w fun e w' => e = .returned (.int .i64 (qu s m Q)) /\ P w' B p (eJ s m b Q) /\ aeW I B w w'
 forget_ : ∀ (w : World) (m : Int) {B p : Nat} {s : LnS}, P w B p s -> Calls prog 107 #[.pointer (some ⟨p, 0, none⟩), .int .i64 m] w fun e w' => e = .returned (.int .i64 (lnE s m)) /\ P w' B p (fX s m) /\ aeW I B w w'
 clean_ : ∀ (w : World)  {B p : Nat} {s : LnS}, P w B p s -> Calls prog 66 #[.pointer (some ⟨p, 0, none⟩)] w fun e w' => e = .returned (.int .i64 0) /\ P w' B p (gu s) /\ aeW I B w w'
 get_ : ∀ (w : World) (m : Int) {B p : Nat} {s : LnS}, P w B p s -> Calls prog 58 #[.pointer (some ⟨p, 0, none⟩), .int .i64 m] w fun e w' => e = .returned (.tuple #[blk (lnG s m).b, .bool (lnG s m).kn]) /\ Below w.heap.size w w'
 dirty_ : ∀ (w : World)  {B p : Nat} {s : LnS}, P w B p s -> Calls prog 69 #[.pointer (some ⟨p, 0, none⟩)] w fun e w' => ∃ v, e = .returned v /\ aP bY w' w.heap.size v (lnD s) /\ Below w.heap.size w w'
 first_ : ∀ (w : World)  {B p : Nat} {s : LnS}, P w B p s -> Calls prog 70 #[.pointer (some ⟨p, 0, none⟩)] w fun e w' => e = .returned (.int .u64 (s.f : Int)) /\ Below w.heap.size w w'
 members_ : ∀ (w : World)  {B p : Nat} {s : LnS}, P w B p s -> Calls prog 125 #[.pointer (some ⟨p, 0, none⟩)] w fun e w' => e = .returned (.int .i64 (s.l.length : Int)) /\ Below w.heap.size w w'
 No : World -> Value -> Prop
 zc : List Value
 no_nil : ∀ w : World, No w (.pointer none)
 bld0 : ∀ w : World, (Instr.build 165 #[]).run prog w = .ok (.agg zc.toArray) w
 no_zero : ∀ w : World, No (w.alloc (.cells zc.toArray 165)) (.pointer (some ⟨w.heap.size, 0, none⟩))
 no_below : ∀ {w w' : World} {v : Value}, No w v -> Below w.heap.size w w' -> No w' v
 no_learn : ∀ (w : World) (v : Value) (m : Int) (b : Blk), No w v -> Calls prog 61 #[v, .int .i64 m, blk b] w fun e w' => e = .returned (.int .i64 1) /\ Below w.heap.size w w'
 no_set : ∀ (w : World) (v : Value) (m : Int) (b : Blk) (Q : Nat), No w v -> Calls prog 105 #[v, .int .i64 m, blk b, .int .u64 (Q : Int)] w fun e w' => e = .returned (.int .i64 1) /\ Below w.heap.size w w'
 no_forget : ∀ (w : World) (v : Value) (m : Int), No w v -> Calls prog 107 #[v, .int .i64 m] w fun e w' => e = .returned (.int .i64 1) /\ Below w.heap.size w w'
 no_clean : ∀ (w : World) (v : Value) , No w v -> Calls prog 66 #[v] w fun e w' => e = .returned (.int .i64 1) /\ Below w.heap.size w w'
 no_get : ∀ (w : World) (v : Value) (m : Int), No w v -> Calls prog 58 #[v, .int .i64 m] w fun e w' => e = .returned (.tuple #[blk aD, .bool false]) /\ Below w.heap.size w w'
 no_dirty : ∀ (w : World) (v : Value) , No w v -> Calls prog 69 #[v] w fun e w' => e = .returned (.slice none 0 0) /\ Below w.heap.size w w'
 no_first : ∀ (w : World) (v : Value) , No w v -> Calls prog 70 #[v] w fun e w' => e = .returned (.int .u64 0) /\ Below w.heap.size w w'
 no_members : ∀ (w : World) (v : Value) , No w v -> Calls prog 125 #[v] w fun e w' => e = .returned (.int .i64 0) /\ Below w.heap.size w w'
structure LnF where
 n : Int
 kn : Nat -> Bool
 dt : Nat -> Bool
 bl : Nat -> Blk
 f : Int
def fQ (x : LnF) (i : Nat) : Value :=
 if i = 0 then .int .i64 x.n
 else if i < 17 then .bool (x.kn (i - 1))
 else if i < 33 then .bool (x.dt (i - 17))
 else if i < 1057 then .int .u8 (byt (x.bl ((i - 33) / 64)) ((i - 33) % 64))
 else .int .u64 x.f
def ip (x : LnF) : List Value := (List.range 1058).map (fQ x)
theorem ik (x : LnF) : (ip x).length = 1058 := by simp [ip]
theorem jt (x : LnF) {i : Nat} (h : i < 1058) : (ip x)[i]? = some (fQ x i) := by
 simp only [ip, List.getElem?_map, List.getElem?_range h, Option.map_some]
section
variable {x y : LnF} {k j : Nat}
theorem adP (hk : k < 16) : fQ x (1 + k) = .bool (x.kn k) := by
 unfold fQ;rw [if_neg (by omega), if_pos (by omega), show 1 + k - 1 = k from by omega]
theorem vU (hk : k < 16) : fQ x (17 + k) = .bool (x.dt k) := by
 unfold fQ;rw [if_neg (by omega), if_neg (by omega), if_pos (by omega), show 17 + k - 17 = k from by omega]
theorem abo (hk : k < 16) (hj : j < 64) : fQ x (33 + k * 64 + j) = .int .u8 (byt (x.bl k) j) := by
 unfold fQ;rw [if_neg (by omega), if_neg (by omega), if_neg (by omega), if_pos (by omega), show (33 + k * 64 + j - 33) / 64 = k from by omega, show (33 + k * 64 + j - 33) % 64 = j from by omega]
def agz (o m : Nat) (x y : LnF) : Prop := ∀ i, i < 1058 -> ¬ (o <= i /\ i < o + m) -> fQ x i = fQ y i
theorem ac8 {o : Nat} {vs : List Value} (h : ∀ j, j < vs.length -> vs[j]? = some (fQ y (o + j))) (h2 : agz o vs.length x y) (hm : o + vs.length <= 1058) : (ip x).take o ++ vs ++ (ip x).drop (o + vs.length) = ip y := by
 have hl : ((ip x).take o).length = o := by rw [List.length_take, ik]; omega
 refine List.ext_getElem? fun i => ?_
 by_cases hi : i < 1058
 ·rw [jt y hi, List.append_assoc];by_cases h1 : i < o
  ·rw [List.getElem?_append_left (by omega), List.getElem?_take_of_lt h1, jt x hi, h2 i hi (by omega)]
  ·rw [List.getElem?_append_right (by omega), hl];by_cases h3 : i < o + vs.length
   ·rw [List.getElem?_append_left (by omega), h (i - o) (by omega), show o + (i - o) = i from by omega]
   ·rw [List.getElem?_append_right (by omega), List.getElem?_drop, show o + vs.length + (i - o - vs.length) = i from by omega, jt x hi, h2 i hi (by omega)]
 ·rw [List.getElem?_eq_none (by simp only [List.length_append, hl, List.length_drop, ik]; omega), List.getElem?_eq_none (by rw [ik]; omega)]
end
def LnA (w : World) (p : Nat) (x : LnF) : Prop := w.heap[p]? = some (.cells (ip x).toArray 165 (0, 0))
section
variable {w w' : World} {p o k : Nat} {x y : LnF} {vs : List Value}
theorem LnA.put (h : LnA w p x) (hv : ∀ j, j < vs.length -> vs[j]? = some (fQ y (o + j))) (h2 : agz o vs.length x y) (hm : o + vs.length <= 1058) : LnA (w.setCells p o vs) p y := by
 have hs : ip x = (ip x).take o ++ ((ip x).drop o).take vs.length ++ (ip x).drop (o + vs.length) := by
  rw [List.append_assoc, <- List.drop_drop, List.take_append_drop, List.take_append_drop]
 have h' := h;unfold LnA at h';rw [hs] at h';have := heap_put p 165 _ vs _ _ w (by rw [List.length_take, List.length_drop, ik]; omega) h';rw [ac8 hv h2 hm, List.length_take, ik, Nat.min_eq_left (by omega)] at this;exact this
theorem LnA.lt (h : LnA w p x) : p < w.heap.size := aV h
theorem LnA.fz (h : LnA w p x) (j : Nat) : w.frozen? ⟨p, j, none⟩ = false := frozen_of_row w p j _ _ h
theorem LnA.at_ (h : LnA w p x) {i : Nat} (hi : i < 1058) : w.cell? ⟨p, i, none⟩ = some (fQ x i) := by
 have := (aQ h) i _ (jt x hi);rwa [Nat.zero_add] at this
theorem LnA.there (h : LnA w p x) {o m : Nat} (hm : o + m <= 1058) : w.there p o m := fun i hi => ⟨by rw [h.at_ (by omega)]; rfl, h.fz _⟩
theorem LnA.cN (h : LnA w p x) : w.cell? ⟨p, 0, none⟩ = some (.int .i64 x.n) := h.at_ (i := 0) (by omega)
theorem LnA.cK (h : LnA w p x) (hk : k < 16) : w.cell? ⟨p, 1 + k, none⟩ = some (.bool (x.kn k)) := by rw [h.at_ (by omega), adP hk]
theorem LnA.cD (h : LnA w p x) (hk : k < 16) : w.cell? ⟨p, 17 + k, none⟩ = some (.bool (x.dt k)) := by rw [h.at_ (by omega), vU hk]
theorem LnA.cF (h : LnA w p x) : w.cell? ⟨p, 1057, none⟩ = some (.int .u64 x.f) := h.at_ (i := 1057) (by omega)
theorem LnA.cB (h : LnA w p x) (hk : k < 16) : w.rangeAt p (33 + k * 64) (cel (x.bl k)) := fun j v hj => by
 have hl : j < 64 := by
  have := (List.getElem?_eq_some_iff.1 hj).1;rwa [aJ] at this
 rw [jB _ hl] at hj;injection hj with hj;subst hj;rw [h.at_ (by omega), abo hk hl]
def fO {α : Type} (g : Nat -> α) (k : Nat) (a : α) : Nat -> α := fun j => if j = k then a else g j
theorem LnA.sK (h : LnA w p x) (hk : k < 16) (c : Bool) : LnA (w.setCell ⟨p, 1 + k, none⟩ (.bool c)) p { x with kn := fO x.kn k c } := by
 refine LnA.put (vs := [.bool c]) (o := 1 + k) h (fun j hj => ?_) (fun i hi hn => ?_) (by simp; omega)
 ·have : j = 0 := by simpa using hj
  subst this;rw [Nat.add_zero, adP hk]; simp [fO]
 ·simp at hn;unfold fQ
  split
  ·rfl
  ·split
   ·simp only [fO]; rw [if_neg (by omega)]
   ·rfl
theorem LnA.sD (h : LnA w p x) (hk : k < 16) (c : Bool) : LnA (w.setCell ⟨p, 17 + k, none⟩ (.bool c)) p { x with dt := fO x.dt k c } := by
 refine LnA.put (vs := [.bool c]) (o := 17 + k) h (fun j hj => ?_) (fun i hi hn => ?_) (by simp; omega)
 ·have : j = 0 := by simpa using hj
  subst this;rw [Nat.add_zero, vU hk]; simp [fO]
 ·simp at hn;unfold fQ
  split
  ·rfl
  ·split
   ·rfl
   ·split
    ·simp only [fO]; rw [if_neg (by omega)]
    ·rfl
theorem LnA.sB (h : LnA w p x) (hk : k < 16) (b : Blk) : LnA (w.setCells p (33 + k * 64) (cel b)) p { x with bl := fO x.bl k b } := by
 refine LnA.put h (fun j hj => ?_) (fun i hi hn => ?_) (by rw [aJ]; omega)
 ·rw [aJ] at hj;rw [abo hk hj, jB _ hj]; simp [fO]
 ·rw [aJ] at hn;unfold fQ
  split
  ·rfl
  ·split
   ·rfl
   ·split
    ·rfl
    ·split
     ·simp only [fO]; rw [if_neg (by omega)]
     ·rfl
theorem LnA.sF (h : LnA w p x) (q : Int) : LnA (w.setCell ⟨p, 1057, none⟩ (.int .u64 q)) p { x with f := q } := by
 refine LnA.put (vs := [.int .u64 q]) (o := 1057) h (fun j hj => ?_) (fun i hi hn => ?_) (by simp)
 ·have : j = 0 := by simpa using hj
  subst this
  rfl
 ·simp at hn;unfold fQ
  split
  ·rfl
  ·split
   ·rfl
   ·split
    ·rfl
    ·rw [if_pos (by omega), if_pos (by omega)]
def qv : List Value := List.replicate 16 (.bool false)
theorem LnA.sD0 (h : LnA w p x) : LnA (w.setCells p 17 qv) p { x with dt := fun _ => false } := by
 refine LnA.put h (fun j hj => ?_) (fun i hi hn => ?_) (by simp [qv])
 ·have hj' : j < 16 := by simpa [qv] using hj
  rw [vU hj'];exact List.getElem?_replicate_of_lt hj'
 ·simp [qv] at hn;unfold fQ
  split
  ·rfl
  ·split
   ·rfl
   ·split
    ·omega
    ·rfl
end
def lf (s : LnS) : LnF := ⟨(s.l.length : Int), fun k => (dd s k).kn, fun k => (dd s k).dt, fun k => (dd s k).b, (s.f : Int)⟩
def lf0 (n : Int) : LnF := ⟨n, fun _ => false, fun _ => false, fun _ => aD, 0⟩
theorem adz {s : LnS} {k : Nat} (hk : k < s.l.length) (a : LC) (f : Nat) (j : Nat) : dd ⟨s.l.set k a, f⟩ j = if j = k then a else dd s j := ia _ _ _ _ _ hk
theorem xp {s : LnS} {k : Nat} (hk : k < s.l.length) (a : LC) (f : Nat) : lf ⟨s.l.set k a, f⟩ = ⟨(s.l.length : Int), fO (lf s).kn k a.kn, fO (lf s).dt k a.dt, fO (lf s).bl k a.b, (f : Int)⟩ := by
 unfold lf;simp only [LnF.mk.injEq, List.length_set, true_and, and_true];refine ⟨funext fun j => ?_, funext fun j => ?_, funext fun j => ?_⟩ <;> (rw [adz hk]; simp only [fO]; split <;> rfl)
theorem ah2 (s : LnS) : lf (gu s) = { lf s with dt := fun _ => false, f := 0 } := by
 unfold lf;simp only [LnF.mk.injEq, yn, true_and];refine ⟨funext fun j => ?_, funext fun j => ?_, funext fun j => ?_, rfl⟩ <;> rw [xy] <;> rfl
theorem ahe (n : Nat) : lf (dQ n) = lf0 (n : Int) := by
 have h : ∀ j, dd (dQ n) j = lc0 := fun j => by
  simp only [dd, dQ, List.getD, List.getElem?_replicate]
  split <;> rfl
 unfold lf lf0;simp only [LnF.mk.injEq];refine ⟨by simp [dQ], funext fun j => by rw [h]; rfl, funext fun j => by rw [h]; rfl, funext fun j => by rw [h]; rfl, rfl⟩
theorem zv {α : Type} {g : Nat -> α} {k : Nat} {a : α} (h : g k = a) : fO g k a = g := funext fun j => by
 unfold fO
 split
 ·rename_i e; subst e; exact h.symm
 ·rfl
end Go.Proofs.YtdmhelalbemlcaaGreatDoor
