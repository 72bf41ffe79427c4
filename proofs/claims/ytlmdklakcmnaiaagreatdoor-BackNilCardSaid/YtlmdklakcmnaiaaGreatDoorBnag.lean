import Derived.Test.YtlmdklakcmnaiaaGreatDoorBnaf
import Derived.Deep.Slices
import Derived.LaidEqlPtr
import Derived.Laws.MakeOwn
namespace Go.Proofs.YtlmdklakcmnaiaaGreatDoor
set_option maxHeartbeats 8000000
open Go.Proofs.Tryz
open Go.RowKit
set_option linter.unusedVariables false
set_option linter.unusedSimpArgs false
set_option maxRecDepth 100000
def gh (s m : Int) : List Value := [.int .i64 s, .int .i64 m]
def plV (s m : Int) : Value := .agg (gh s m).toArray
def cQ (c : Cl) : List Value := .int .i64 c.s :: .int .i64 c.m :: cel c.b
def clV (c : Cl) : Value := .agg (cQ c).toArray
theorem fy (c : Cl) : (cQ c).length = 66 := by simp [cQ, aM]
theorem tc (c : Cl) : ∀ v ∈ cQ c, v.oneCell' = true := by
 intro v hv;simp only [cQ, List.mem_cons] at hv;rcases hv with rfl | rfl | hv
 ·rfl
 ·rfl
 ·exact ku c.b v hv
theorem ac4 (s m : Int) : ∀ v ∈ gh s m, v.oneCell' = true := by
 intro v hv;simp only [gh, List.mem_cons, List.not_mem_nil, or_false] at hv;rcases hv with rfl | rfl <;> rfl
theorem afN : (prog.info? 46).map (·.size) = some 66 := by kernel_rfl
theorem afO : (prog.info? 42).map (·.size) = some 2 := by kernel_rfl
theorem aib : (prog.info? 46).map (fun i => (i.zero, i.size, i.bytes)) = some (some (clV iV), 66, 80) := by kernel_rfl
theorem oY : (prog.info? 46).map (fun i => i.zero) = some (some (.agg (cQ iV).toArray)) := by kernel_rfl
theorem wD : (prog.info? 42).map (fun i => i.zero) = some (some (.agg (gh 0 0).toArray)) := by kernel_rfl
def dw : Elt Cl where
 s := 22
 t := 46
 n := 66
 by_ := 80
 cel := cQ
 d := iV
 z := clV iV
 pos := by omega
 small := by omega
 len := fy
 one := tc
 und := underlying22
 info := aib
 zc := by show (Value.cells (.agg _)).size = 66; simp [Value.cells, fy]
theorem RdE.cl {w : World} {B n k : Nat} {A : Option Addr} {l : List Cl} (h : RdE dw w B A n l) (hk : k < n) : ∃ b off, A = some ⟨b, off, none⟩ /\ b < B /\ w.rangeAt b (off + k * 66) (cQ (l.getD k iV)) := h.2 k hk
section
variable {w : World} {b off : Nat} {c : Cl}
theorem iX (h : w.rangeAt b off (cQ c)) : w.rangeAt b off (gh c.s c.m) := by
 have := eS (ds := []) (es := gh c.s c.m) (fs := cel c.b) (k := 0) h rfl rfl;rwa [Nat.add_zero] at this
theorem abI (h : w.rangeAt b off (cQ c)) : w.rangeAt b (off + 2) (cel c.b) := eS (ds := gh c.s c.m) (es := cel c.b) (fs := []) (k := 2) h (by simp [cQ, gh]) rfl
theorem iU {s m : Int} (h : w.rangeAt b off (gh s m)) : w.cell? ⟨b, off, none⟩ = some (.int .i64 s) /\ w.cell? ⟨b, off + 1, none⟩ = some (.int .i64 m) := by
 have h0 := h 0 _ rfl;rw [Nat.add_zero] at h0;exact ⟨h0, h 1 _ rfl⟩
end
section
variable {ρ : Operand -> Value} {o : Oper} {x y : Operand} {w : World} {b off : Nat} {c d : Cl} {s m s' m' : Int} {t : TypeId}
theorem fT (ho : o.op = .load 46 x) (hx : ρ x = .pointer (some ⟨b, off, none⟩)) (hc : w.rangeAt b off (cQ c)) : (execOp ρ o).run prog w = .ok (.value (clV c)) w :=
 cj underlying46 rfl (by rw [fy]; exact afN) ho hx hc
theorem io (ho : o.op = .load 42 x) (hx : ρ x = .pointer (some ⟨b, off, none⟩)) (hc : w.rangeAt b off (gh s m)) : (execOp ρ o).run prog w = .ok (.value (plV s m)) w :=
 cj underlying42 rfl afO ho hx hc
theorem zq (ho : o.op = .box 46 x) (hx : ρ x = clV c) : (execOp ρ o).run prog w = .ok (.value (.pointer (some ⟨w.heap.size, 0, none⟩))) (w.alloc (.cells (cQ c).toArray 46)) := cw ho hx
theorem gd (ho : o.op = .alloc 46) : (execOp ρ o).run prog w = .ok (.value (.pointer (some ⟨w.heap.size, 0, none⟩))) (w.alloc (.cells (cQ iV).toArray 46)) := c9 oY ho
theorem rG (ho : o.op = .alloc 42) : (execOp ρ o).run prog w = .ok (.value (.pointer (some ⟨w.heap.size, 0, none⟩))) (w.alloc (.cells (gh 0 0).toArray 42)) := c9 wD ho
theorem gY (ho : o.op = .store 46 x y) (hx : ρ x = .pointer (some ⟨w.heap.size, 0, none⟩)) (hy : ρ y = clV c) : (execOp ρ o).run prog (w.alloc (.cells (cQ d).toArray 46)) = .ok .skip (w.alloc (.cells (cQ c).toArray 46)) :=
 fx (by rw [fy]; exact afN) (by rw [fy, fy]) (tc c) ho hx hy
theorem uJ (ho : o.op = .store 42 x y) (hx : ρ x = .pointer (some ⟨w.heap.size, 0, none⟩)) (hy : ρ y = plV s m) : (execOp ρ o).run prog (w.alloc (.cells (gh s' m').toArray 42)) = .ok .skip (w.alloc (.cells (gh s m).toArray 42)) :=
 fx afO rfl (ac4 s m) ho hx hy
theorem rt : (Instr.fieldAt 46 (.pointer (some ⟨b, off, none⟩)) 0).run prog w = .ok (.pointer (some ⟨b, off, none⟩)) w := by kernel_rfl
theorem air : (Instr.fieldAt 46 (.pointer (some ⟨b, off, none⟩)) 1).run prog w = .ok (.pointer (some ⟨b, off + 2, none⟩)) w := by kernel_rfl
theorem oG : (Instr.fieldAt 42 (.pointer (some ⟨b, off, none⟩)) 0).run prog w = .ok (.pointer (some ⟨b, off, none⟩)) w := by kernel_rfl
theorem afJ : (Instr.fieldAt 42 (.pointer (some ⟨b, off, none⟩)) 1).run prog w = .ok (.pointer (some ⟨b, off + 1, none⟩)) w := by kernel_rfl
end
section
variable {ρ : Operand -> Value} {o : Oper} {x y : Operand} {w : World} {s m : Int} {b : Blk}
theorem zO (s m : Int) : (Instr.build 42 #[(0, .int .i64 s), (1, .int .i64 m)]).run prog w = .ok (plV s m) w := by kernel_rfl
theorem wN (ho : o.op = .build 42 #[(0, x), (1, y)]) (hx : ρ x = .int .i64 s) (hy : ρ y = .int .i64 m) : (execOp ρ o).run prog w = .ok (.value (plV s m)) w := by
 have h := zO (w := w) s m;unfold execOp;simp only [ho, List.map_toArray, List.map_cons, List.map_nil, hx, hy, Sem.run_bind, h, Result.andThen_ok, Sem.run_pure]
theorem aax (s m : Int) (b : Blk) : (Instr.build 46 #[(0, plV s m), (1, blk b)]).run prog w = .ok (clV ⟨s, m, b⟩) w := by
 have hz := fQ oY w;have h1 := db (place := fun i => (#[(0, 2), (2, 64)] : Array (Nat × Nat))[i]?) (i := 0) (off := 0) (size := 2) (v := plV s m) (pre := []) (mid := gh 0 0) (post := cel aI) (vs := gh s m) (rest := [(1, blk b)]) rfl rfl rfl rfl rfl;have h2 := db (place := fun i => (#[(0, 2), (2, 64)] : Array (Nat × Nat))[i]?) (i := 1) (off := 2) (size := 64) (v := blk b) (pre := gh s m) (mid := cel aI) (post := []) (vs := cel b) (rest := []) rfl rfl (aM b) rfl (aM aI);simp only [List.nil_append, List.append_nil] at h1 h2;have h3 := h1.trans h2;have hz' : (zeroValue 46).run prog w = .ok (.agg (gh 0 0 ++ cel aI).toArray) w := hz;have hc : (Value.agg (gh 0 0 ++ cel aI).toArray).cells = (gh 0 0 ++ cel aI).toArray := rfl;simp only [Instr.build, Sem.run_bind, hz', run_underlying underlying46, Result.andThen_ok, hc];refine Eq.trans (congrArg (fun r => Result.andThen r _) (?h : _ = Result.ok #[(0, 2), (2, 64)] w)) ?_
 case h => kernel_rfl
 simp only [Result.andThen_ok];have h4 : Instr.fill (fun i => (#[(0, 2), (2, 64)] : Array (Nat × Nat))[i]?) (gh s m ++ cel b).toArray [] = some (gh s m ++ cel b).toArray := by rw [Instr.fill]
 rw [h3.trans h4]
 rfl
theorem zS (ho : o.op = .build 46 #[(0, x), (1, y)]) (hx : ρ x = plV s m) (hy : ρ y = blk b) : (execOp ρ o).run prog w = .ok (.value (clV ⟨s, m, b⟩)) w := by
 have h := aax (w := w) s m b;unfold execOp;simp only [ho, List.map_toArray, List.map_cons, List.map_nil, hx, hy, Sem.run_bind, h, Result.andThen_ok, Sem.run_pure]
end
def bV (p : dh) : Cl := ⟨p.n, p.m, p.b⟩
def gx (N T : Nat) (r : Int) : Ros := ⟨(N : Int), (T : Int), r, Vector.replicate 16 0, 0, false⟩
theorem yI {α : Type} [BEq α] [LawfulBEq α] {a : α} {b : List α} (h : a ∈ b) : (b.erase a).length + 1 = b.length := by
 have := List.length_erase_of_mem h;have h2 : 0 < b.length := List.length_pos_of_mem h;omega
theorem qM {α : Type} [BEq α] [LawfulBEq α] : ∀ (a b : List α), a.Nodup -> (∀ x ∈ a, x ∈ b) -> a.length <= b.length
 |[], b, _, _ => Nat.zero_le _
 |x :: a, b, h, hs => by
  have hx := hs x (List.mem_cons_self ..);obtain ⟨h1, h2⟩ := List.nodup_cons.1 h;have := qM a (b.erase x) h2 fun y hy => (List.mem_erase_of_ne (fun e => h1 (by rw [<- e]; exact hy))).2 (hs y (List.mem_cons_of_mem _ hy))
  have e := yI hx;rw [List.length_cons];omega
theorem jN {y : Int} : ∀ (r l : List Int), y ∈ eQ l r ↔ y ∈ l \/ y ∈ r
 |[], l => by simp [eQ]
 |x :: r, l => by
  rw [eQ, jN r];by_cases h : l.contains x = true
  ·rw [if_pos h];have hm : x ∈ l := by simpa using h
   constructor
   ·rintro (h1 | h1)
    ·exact .inl h1
    ·exact .inr (List.mem_cons_of_mem _ h1)
   ·rintro (h1 | h1)
    ·exact .inl h1
    ·rcases List.mem_cons.1 h1 with e | e
     ·subst e; exact .inl hm
     ·exact .inr e
  ·rw [if_neg h];rw [List.mem_append, List.mem_singleton, List.mem_cons]
   constructor
   ·rintro ((h1 | h1) | h1)
    ·exact .inl h1
    ·exact .inr (.inl h1)
    ·exact .inr (.inr h1)
   ·rintro (h1 | h1 | h1)
    ·exact .inl (.inl h1)
    ·exact .inl (.inr h1)
    ·exact .inr h1
theorem fY {d : Nat -> Bool} {y : Int} : ∀ {k : Nat}, y ∈ pD d k ↔ ∃ j : Nat, y = (j : Int) /\ j < k /\ d j = true
 |0 => by simp [pD]
 |k + 1 => by
  rw [pD, List.mem_append, fY]
  constructor
  ·rintro (⟨j, e, hj, hd⟩ | h)
   ·exact ⟨j, e, by omega, hd⟩
   ·split at h
    ·rename_i hd; exact ⟨k, by simpa using h, by omega, hd⟩
    ·cases h
  ·rintro ⟨j, e, hj, hd⟩;by_cases ek : j = k
   ·subst ek; right; rw [if_pos hd, e]; exact List.mem_singleton.2 rfl
   ·exact .inl ⟨j, e, by omega, hd⟩
theorem uW (d : Nat -> Bool) (k : Nat) : (pD d k).length <= k := by
 induction k with
 |zero => exact aj
 |succ k ih => rw [pD, List.length_append]; split <;> simp <;> omega
section
variable {s : ShS} {n j q : Nat} {x : LnS} {c : List dh} {p : dh}
theorem lF (h : s.ln n = none) : s.dty n = false := by unfold ShS.dty; rw [h]
theorem ji (h : s.ln n = some x) : s.dty n = ka x := by unfold ShS.dty; rw [h]
theorem eL (h : s.dty n = true) : (s.ln n).isSome = true := by
 cases e : s.ln n with
 |none => rw [lF e] at h; cases h
 |some x => rfl
theorem kW {s' : ShS} (h' : s'.ln n = s.ln n) : s'.dty n = s.dty n := by unfold ShS.dty; rw [h']
theorem afi (N : Nat) : ka (dS N) = false := by unfold ka; rw [yr]; rfl
theorem pM (s : ShS) (n : Nat) : ka (s.cf n) = s.dty n := by
 cases e : s.ln n with
 |none => rw [iO e, lF e, afi]
 |some x => rw [eu e, ji e]
theorem ShS.kA : (j : Int) ∈ s.da ↔ j < s.T /\ s.dty j = true := by
 unfold ShS.da;rw [fY]
 constructor
 ·rintro ⟨i, e, h1, h2⟩;have : i = j := by omega
  subst this;exact ⟨h1, h2⟩
 ·rintro ⟨h1, h2⟩;exact ⟨j, rfl, h1, h2⟩
theorem bX.agX (h : bX s) (hd : s.dty j = true) : j < s.T := h.lt j ((h.mem j).2 (eL hd))
theorem bX.x7 (h : bX s) (n j : Nat) : (s.tch n).dty j = s.dty j := by
 unfold ShS.tch
 split
 ·rename_i ht
  have hc : (s.cut n).dty j = s.dty j := by
   unfold ShS.cut
   split
   ·rename_i hg
    have hl : 0 < luD s.dty s.o := by
     unfold ShS.eY at ht;rw [hg] at ht;simp at ht;omega
    show (s.dZ s.gone none).dty j = _
    by_cases e : j = s.gone
    ·subst e;rw [(h.gone hl).2];exact lF (by rw [cZ, if_pos rfl])
    ·exact kW (by rw [cZ, if_neg e])
   ·rfl
  show ((s.cut n).dZ n (some (s.cf n))).dty j = _
  by_cases e : j = n
  ·subst e;rw [ji (x := s.cf j) (by rw [cZ, if_pos rfl]), pM]
  ·rw [kW (s := s.cut n) (by rw [cZ, if_neg e]), hc]
 ·rfl
theorem bX.oy (h : bX s) (hd : s.dty j = true) : (s.tch n).ln j = s.ln j := by
 obtain ⟨x, hx⟩ := Option.isSome_iff_exists.1 (eL hd);unfold ShS.tch
 split
 ·rename_i ht
  have hc : (s.cut n).ln j = s.ln j := by
   unfold ShS.cut
   split
   ·rename_i hg
    have hl : 0 < luD s.dty s.o := by
     unfold ShS.eY at ht;rw [hg] at ht;simp at ht;omega
    show (s.dZ s.gone none).ln j = _
    rw [cZ, if_neg (fun e => by rw [e, (h.gone hl).2] at hd; cases hd)]
   ·rfl
  show ((s.cut n).dZ n (some (s.cf n))).ln j = _
  rw [cZ];by_cases e : j = n
  ·subst e;rw [if_pos rfl, eu hx, hx]
  ·rw [if_neg e, hc]
 ·rfl
theorem pA (ht : s.eY n = true) : (s.tch n).ln n = some (s.cf n) := by
 unfold ShS.tch;rw [if_pos ht]
 show ((s.cut n).dZ n (some (s.cf n))).ln n = _
 rw [cZ, if_pos rfl]
theorem yc {l : List LC} {k : Nat} (h : (l.getD k lc0).dt = true) : ∀ {n : Nat}, k < n -> (k : Int) ∈ gC l n
 |0, hk => absurd hk (by omega)
 |n + 1, hk => by
  rw [gC, List.mem_append];by_cases e : k = n
  ·subst e; right; rw [if_pos h]; exact List.mem_singleton.2 rfl
  ·exact .inl (yc h (by omega))
theorem oX {k : Nat} (h : (cW x k).dt = true) (hk : k < x.l.length) : ka x = true := by
 have := yc (l := x.l) (k := k) h hk;unfold ka lnD;cases e : gC x.l x.l.length with
 |nil => rw [e] at this; cases this
 |cons a r => rfl
theorem yz (hm : lnR x p.m = true) (hq : q ≠ 0) : ka (eg x p.m p.b q) = true := by
 obtain ⟨k, e, hk⟩ := kx hm;rw [e, pQ hk hq];refine oX (k := k) ?_ (by rw [List.length_set]; exact hk);unfold cW;rw [jh _ _ _ _ _ hk, if_pos rfl]
structure rU (s0 : ShS) (U : List Int) (c : List dh) (s : ShS) : Prop where
 ok : bX s
 N : s.N = s0.N
 T : s.T = s0.T
 room : s.room = s0.room
 sub : ∀ j : Nat, s.dty j = true -> (j : Int) ∈ U
 set : ∀ x ∈ c, s.dty x.n.toNat = true
theorem iu {s : ShS} {n m : Int} (h : s.plc n m = true) : ∃ k i : Nat, n = (k : Int) /\ k < s.T /\ m = (i : Int) /\ i < s.N := by
 unfold ShS.plc at h;have := of_decide_eq_true h;exact ⟨n.toNat, m.toNat, by omega, by omega, by omega, by omega⟩
theorem adr {s : ShS} {n m : Int} (h : bX s) (hp : s.plc n m = true) (k : Nat) : lnR (s.cf k) m = true := by
 obtain ⟨_, i, _, _, e, hi⟩ := iu hp;rw [e];exact iA (by rw [(h.line k).2]; exact hi)
theorem bX.ag9 (h : bX s) {U : List Int} (hU : U.length <= s.room) (hs : ∀ j : Nat, s.dty j = true -> (j : Int) ∈ U) (hn : (n : Int) ∈ U) : s.eY n = true := by
 unfold ShS.eY;cases hg : s.goes n with
 |false => rfl
 |true =>
  unfold ShS.goes at hg;simp only [Bool.and_eq_true, Option.isNone_iff_eq_none, decide_eq_true_eq] at hg;by_cases hl : luD s.dty s.o = 0
  ·exfalso
   have hall : ∀ j ∈ s.o, (j : Int) ∈ U := fun j hj => by
    obtain ⟨i, hi, e⟩ := List.getElem_of_mem hj;have := aeb (d := s.dty) (o := s.o) (i := i) (by omega) hi;rw [List.getD, List.getElem?_eq_getElem hi, Option.getD_some, e] at this;exact hs j this
   have hno : n ∉ s.o := fun e => by
    have := (h.mem n).1 e;rw [hg.1] at this;cases this
   have hnd : ((n :: s.o).map fun (j : Nat) => (j : Int)).Nodup := by
    rw [List.nodup_iff_pairwise_ne, List.pairwise_map];exact (List.nodup_iff_pairwise_ne.1 (List.nodup_cons.2 ⟨hno, h.nd⟩)).imp fun h => by omega
   have := qM _ U hnd fun y hy => by
    obtain ⟨j, hj, e⟩ := List.mem_map.1 hy;subst e;rcases List.mem_cons.1 hj with e | e
    ·subst e; exact hn
    ·exact hall j e
   rw [List.length_map, List.length_cons] at this;omega
  ·rw [am hl]; rfl
theorem rU.start (h : bX s) (r : List Int) : rU s (eQ s.da r) [] s :=
 ⟨h, rfl, rfl, rfl, fun j hj => (jN _ _).2 (.inl (ShS.kA.2 ⟨h.agX hj, hj⟩)), fun x hx => by cases hx⟩
theorem rU.plc {s0 : ShS} {U : List Int} (h : rU s0 U c s) (n m : Int) : s.plc n m = s0.plc n m := by unfold ShS.plc; rw [h.N, h.T]
theorem rU.step {s0 : ShS} {U : List Int} (h : rU s0 U c s) (hU : U.length <= s0.room) (hp : s0.plc p.n p.m = true) (hn : p.n ∈ U) (hq : q ≠ 0) (hqb : q < 18446744073709551616) :
  s.eY p.n.toNat = true /\ bX (s.tch p.n.toNat) /\ lnR ((s.tch p.n.toNat).cf p.n.toNat) p.m = true /\ rU s0 U (c ++ [p]) (dE q s p) := by
 obtain ⟨k, i, e1, hk, e2, hi⟩ := iu hp;have ek : p.n.toNat = k := by omega
 have hn' : ((k : Nat) : Int) ∈ U := by rw [<- e1]; exact hn
 have ht := h.ok.ag9 (n := k) (by rw [h.room]; exact hU) h.sub hn';have hto := h.ok.tch (n := k) (by rw [h.T]; exact hk);have hpt : (s.tch k).plc p.n p.m = true := by
  unfold ShS.plc;rw [(s.oW k).1, (s.oW k).2.1];have := h.plc p.n p.m;unfold ShS.plc at this;rw [this];exact hp
 have hr := adr hto hpt k;have hl := hto.line k;rw [ek];refine ⟨ht, hto, hr, ?_⟩;have hmem : k ∈ (s.tch k).o := (hto.mem k).2 (by rw [pA ht]; rfl);have hso : bX (dE q s p) := by
  unfold dE;rw [ek];exact hto.dZ hmem (dO.set hl.1 _ _ hqb) (by rw [yl]; exact hl.2)
 have hd : ∀ j, (dE q s p).dty j = if j = k then true else s.dty j := fun j => by
  unfold dE;rw [ek];by_cases e : j = k
  ·subst e;rw [if_pos rfl, ji (x := _) (by rw [cZ, if_pos rfl])];exact yz hr hq
  ·rw [if_neg e, kW (s := s.tch k) (by rw [cZ, if_neg e]), h.ok.x7]
 obtain ⟨t1, t2, t3⟩ := s.oW k;refine ⟨hso, by unfold dE; rw [ek]; exact t1.trans h.N, by unfold dE; rw [ek]; exact t2.trans h.T, by unfold dE; rw [ek]; exact t3.trans h.room, fun j hj => ?_, fun x hx => ?_⟩
 ·rw [hd j] at hj;by_cases e : j = k
  ·subst e; exact hn'
  ·rw [if_neg e] at hj; exact h.sub j hj
 ·rw [hd];rcases List.mem_append.1 hx with e | e
  ·split
   ·rfl
   ·exact h.set x e
  ·have : x = p := by simpa using e
   subst this;rw [if_pos ek]
theorem nJ (h : js s q c = 0) : (∀ x ∈ c, s.plc x.n x.m = true) /\ q ≠ 0 /\ (eQ s.da (c.map dh.n)).length <= s.room := by
 unfold js at h
 split at h
 ·rename_i h1
  split at h
  ·cases h
  ·rename_i h2
   split at h
   ·rename_i h3
    exact ⟨fun x hx => List.all_eq_true.1 h1 x hx, h2, of_decide_eq_true h3⟩
   ·cases h
 ·cases h
theorem eH {α β : Type} (f : β -> α -> β) (b : β) {l : List α} {d : α} {i : Nat} (h : i < l.length) : (l.take (i + 1)).foldl f b = f ((l.take i).foldl f b) (l.getD i d) := by
 rw [List.take_add_one, List.getElem?_eq_getElem h, List.foldl_append, List.getD, List.getElem?_eq_getElem h]
 rfl
def cT : dh := ⟨0, 0, aI⟩
theorem gJ (h : bX s) (hq : js s q c = 0) (hqb : q < 18446744073709551616) : ∀ i, i <= c.length -> rU s (eQ s.da (c.map dh.n)) (c.take i) ((c.take i).foldl (dE q) s)
 |0, _ => by rw [List.take_zero]; exact rU.start h _
 |i + 1, hi => by
  obtain ⟨h1, h2, h3⟩ := nJ hq;have hi' : i < c.length := by omega
  have ih := gJ h hq hqb i (by omega);have hx : c.getD i cT ∈ c := by rw [List.getD, List.getElem?_eq_getElem hi']; exact List.getElem_mem hi'
  have := (ih.step (p := c.getD i cT) h3 (h1 _ hx) ((jN _ _).2 (.inr (List.mem_map.2 ⟨_, hx, rfl⟩))) h2 hqb).2.2.2;rw [eH _ _ (d := cT) hi', show c.take (i + 1) = c.take i ++ [c.getD i cT] from by rw [List.take_add_one, List.getD, List.getElem?_eq_getElem hi']; rfl];exact this
structure aee (s0 s : ShS) : Prop where
 ok : bX s
 N : s.N = s0.N
 T : s.T = s0.T
 room : s.room = s0.room
 o : s.o = s0.o
 some : ∀ n, (s.ln n).isSome = (s0.ln n).isSome
theorem aee.step {s0 : ShS} (h : aee s0 s) {cs : List dh} (hp : (s0.ln p.n.toNat).isSome = true) : aee s0 (cE cs s p) := by
 unfold cE
 split
 ·exact h
 ·have hl := h.ok.line p.n.toNat
  have hm : p.n.toNat ∈ s.o := (h.ok.mem _).2 (by rw [h.some]; exact hp);refine ⟨h.ok.dZ hm (dO.frg hl.1 _) (by rw [aet]; exact hl.2), h.N, h.T, h.room, h.o, fun n => ?_⟩;rw [cZ];by_cases e : n = p.n.toNat
  ·rw [if_pos e, e, hp]; rfl
  ·rw [if_neg e, h.some]
theorem iY {s0 : ShS} (h : bX s0) (cs : List dh) (hp : ∀ x ∈ c, (s0.ln x.n.toNat).isSome = true) : ∀ i, i <= c.length -> aee s0 ((c.take i).foldl (cE cs) s0)
 |0, _ => by rw [List.take_zero]; exact ⟨h, rfl, rfl, rfl, rfl, fun _ => rfl⟩
 |i + 1, hi => by
  have hi' : i < c.length := by omega
  have hx : c.getD i cT ∈ c := by rw [List.getD, List.getElem?_eq_getElem hi']; exact List.getElem_mem hi'
  rw [eH _ _ (d := cT) hi'];exact (iY h cs hp i (by omega)).step (hp _ hx)
theorem bX.put (h : bX s) (hqb : q < 18446744073709551616) (c : List dh) : bX (nZ s q c) := by
 unfold nZ
 split
 ·rename_i hq
  have h1 := gJ h hq hqb c.length aj;rw [List.take_length] at h1;have h2 := iY h1.ok c (c := c) (fun x hx => eL (h1.set x hx)) c.length aj;rw [List.take_length] at h2;exact h2.ok
 ·exact h
theorem bX.cln (h : bX s) (n : Int) : bX (dF s n) := by
 unfold dF
 split
 ·rename_i e
  have hl := h.line n.toNat
  exact h.dZ ((h.mem _).2 e.2) (dO.cln hl.1) (by rw [xZ]; exact hl.2)
 ·exact h
end
theorem mv {ρ : Operand -> Value} {o : Oper} {x : Operand} {w : World} {t e : TypeId} {A : Option Addr} {n c : Nat} (hu : prog.underlying t = some (.slice e)) (ho : o.op = .call { callee := .builtin .len, args := #[x], argTypes := #[t] }) (hx : ρ x = .slice A n c) : (execOp ρ o).run prog w = .ok (.value (.int .i64 (n : Int))) w := by
 simp [execOp, ho, resolve, invoke, builtin, hx, Builtin.len_, run_underlying hu, Result.andThen]
 rfl
structure ShPr where
 P : World -> (Nat -> Prop) -> Nat -> Nat -> ShS -> Prop
 lt : ∀ {w S p K s}, P w S p K s -> ∀ b, S b -> b < w.heap.size
 only : ∀ {w w' S F p K s}, P w S p K s -> Only F w w' -> (∀ b, S b -> ¬ F b) -> P w' S p K s
 more : ∀ {w S p K K' s}, P w S p K s -> K <= K' -> P w S p K' s
 ok : ∀ {w S p K s}, P w S p K s -> bX s
 new_ok : ∀ {N T room : Nat} {r : Int} (w : World), dA (gx N T r) = true -> 1 <= room -> room <= 64 -> Calls prog 19 #[geo (gx N T r), .int .i64 (room : Int)] w fun e w' => ∃ p S, e = .returned (.tuple #[.pointer (some ⟨p, 0, none⟩), .int .i64 0]) /\ P w' S p 0 (ox N T room) /\ Below w.heap.size w w' /\ ∀ b, S b -> w.heap.size <= b
 new_no : ∀ (x : Ros) (room : Int) (w : World), ¬ (dA x = true /\ 1 <= room /\ room <= 64) -> Calls prog 19 #[geo x, .int .i64 room] w fun e w' => e = .returned (.tuple #[.pointer none, .int .i64 2]) /\ Below w.heap.size w w'
 put : ∀ {w S t K s} {Q nc cc : Nat} {A : Option Addr} {c : List dh}, P w S t K s -> Q < 18446744073709551616 -> K + nc <= 1000000 -> RdE dw w w.heap.size A nc (c.map bV) -> c.length = nc -> nc <= cc -> cc <= maxLen -> (∀ x, A = some x -> 0 < nc -> ¬ S x.block) -> Calls prog 6 #[.pointer (some ⟨t, 0, none⟩), .int .u64 (Q : Int), .slice A nc cc] w fun e w' => e = .returned (.int .i64 (js s Q c)) /\ ∃ S', P w' S' t (K + nc) (nZ s Q c) /\ Only S w w' /\ Grow w S S'
 clean : ∀ {w S t K s} (n : Int), P w S t K s -> Calls prog 37 #[.pointer (some ⟨t, 0, none⟩), .int .i64 n] w fun e w' => e = .returned (.int .i64 (shE s n)) /\ ∃ S', P w' S' t K (dF s n) /\ Only S w w' /\ Grow w S S'
 fits : ∀ {w S t K s A cl} {l : List Int}, P w S t K s -> RdE bN w w.heap.size A l.length l -> (∀ x ∈ l, (Lit.int .i64 x).wf = true) -> l.length <= cl -> cl <= maxLen -> l.length <= 17592186043904 -> Calls prog 52 #[.pointer (some ⟨t, 0, none⟩), .slice A l.length cl] w fun e w' => e = .returned (.bool (s.fits l)) /\ Below w.heap.size w w'
 cells : ∀ {w S t K s} (n : Int), P w S t K s -> Calls prog 10 #[.pointer (some ⟨t, 0, none⟩), .int .i64 n] w fun e w' => ∃ v, e = .returned v /\ aO dw w' w.heap.size v ((dq s n).map bV) /\ Below w.heap.size w w'
 da : ∀ {w S t K s}, P w S t K s -> Calls prog 7 #[.pointer (some ⟨t, 0, none⟩)] w fun e w' => ∃ v, e = .returned v /\ aO bN w' w.heap.size v s.da /\ Below w.heap.size w w'
 stripes : ∀ {w S t K s}, P w S t K s -> Calls prog 24 #[.pointer (some ⟨t, 0, none⟩)] w fun e w' => ∃ v, e = .returned v /\ aO bN w' w.heap.size v s.strs /\ Below w.heap.size w w'
 No : World -> Value -> Prop
 zc : List Value
 no_nil : ∀ w : World, No w (.pointer none)
 bld0 : ∀ w : World, (Instr.build 55 #[]).run prog w = .ok (.agg zc.toArray) w
 no_zero : ∀ w : World, No (w.alloc (.cells zc.toArray 55)) (.pointer (some ⟨w.heap.size, 0, none⟩))
 no_below : ∀ {w w' : World} {v : Value}, No w v -> Below w.heap.size w w' -> No w' v
 no_put : ∀ (w : World) (v : Value) (Q : Nat), No w v -> Calls prog 6 #[v, .int .u64 (Q : Int), .slice none 0 0] w fun e w' => e = .returned (.int .i64 1) /\ Below w.heap.size w w'
 no_clean : ∀ (w : World) (v : Value) (n : Int), No w v -> Calls prog 37 #[v, .int .i64 n] w fun e w' => e = .returned (.int .i64 1) /\ Below w.heap.size w w'
 no_fits : ∀ (w : World) (v : Value), No w v -> Calls prog 52 #[v, .slice none 0 0] w fun e w' => e = .returned (.bool false) /\ Below w.heap.size w w'
 no_cells : ∀ (w : World) (v : Value) (n : Int), No w v -> Calls prog 10 #[v, .int .i64 n] w fun e w' => (∃ A c, e = .returned (.slice A 0 c)) /\ Below w.heap.size w w'
 no_dirty : ∀ (w : World) (v : Value), No w v -> Calls prog 7 #[v] w fun e w' => (∃ A c, e = .returned (.slice A 0 c)) /\ Below w.heap.size w w'
 no_stripes : ∀ (w : World) (v : Value), No w v -> Calls prog 24 #[v] w fun e w' => (∃ A c, e = .returned (.slice A 0 c)) /\ Below w.heap.size w w'
theorem ShPr.below (D : ShPr) {w w' : World} {S : Nat -> Prop} {p K : Nat} {s : ShS} (h : D.P w S p K s) (k : Below w.heap.size w w') : D.P w' S p K s := D.only h (Only.of_below (fun _ => False) k) fun _ _ e => e
def agR (I : Obj -> Prop) (B : Nat) (w w' : World) : Prop := Only (fun b => B <= b /\ ∀ o, w.heap[b]? = some o -> I o) w w'
section
variable {α : Type} {E : Elt α} {ρ : Operand -> Value} {o : Oper} {x y : Operand} {w : World} {A : Option Addr} {n c k B b off : Nat} {l : List α}
theorem et (E : Elt α) (ho : o.op = .call { callee := .builtin .len, args := #[x], argTypes := #[E.s] }) (hx : ρ x = .slice A n c) : (execOp ρ o).run prog w = .ok (.value (.int .i64 (n : Int))) w := by
 simp [execOp, ho, resolve, invoke, builtin, hx, Builtin.len_, run_underlying E.und, Result.andThen]
 rfl
theorem je {t : TypeId} {p v : Value} (ho : o.op = .build t #[(0, x)]) (hx : ρ x = p) (h : (Instr.build t #[(0, p)]).run prog w = .ok v w) : (execOp ρ o).run prog w = .ok (.value v) w := by
 unfold execOp;simp [ho, hx, h, Result.andThen]
end
section
variable {ρ : Operand -> Value} {o : Oper} {x y : Operand} {w : World} {t r : TypeId} {v : Value} {a1 a2 : Addr}
theorem uh (op : BinOp) (t : TypeId) (x y : Operand) (a b : Option Addr) : (eqGuard op t x y (.pointer a) (.pointer b)).run prog w = .ok () w := by
 cases op <;> simp [eqGuard]
theorem mu {op : BinOp} {m n : Option Addr} (ho : o.op = .binOp op t x y r) (hx : ρ x = .pointer m) (hy : ρ y = .pointer n) (h : (binOp op t (.pointer m) (.pointer n)).run prog w = .ok v w) : (execOp ρ o).run prog w = .ok (.value v) w := by
 unfold execOp;simp only [ho, hx, hy, Sem.run_bind, uh, h, Result.andThen_ok, Sem.run_pure]
theorem uE {te : TypeId} (hp : prog.underlying t = some (.pointer te)) {j : TypeInfo} (hte : prog.info? te = some j) (hsz : j.size ≠ 0) {ca cb : Array Value} {ta tb : TypeId} (ha : w.heap[a1.block]? = some (.cells ca ta (0, 0))) (hb : w.heap[a2.block]? = some (.cells cb tb (0, 0))) (d : Nat) :
  (Op.equalIn (d + 1) t (.pointer (some a1)) (.pointer (some a2))).run prog w = .ok (decide (a1 = a2)) w := by
 by_cases h : a1 = a2
 ·subst h;simp [Op.equalIn, run_underlying hp, sizeOf, typeInfo, hte, run_sameAddr_same]
 ·simp [Op.equalIn, run_underlying hp, sizeOf, typeInfo, hte, hsz, run_sameAddr_other w h ha hb, h]
theorem m5 {te : TypeId} (hp : prog.underlying t = some (.pointer te)) (m : Option Addr) (d : Nat) : (Op.equalIn (d + 1) t (.pointer m) (.pointer none)).run prog w = .ok (decide (m = none)) w := by
 cases m <;> simp [Op.equalIn, run_underlying hp]
theorem dc {te : TypeId} {m : Option Addr} (c : Bool) (hp : prog.underlying t = some (.pointer te)) (ho : o.op = .binOp .eql t x y r) (hx : ρ x = .pointer m) (hy : ρ y = .pointer none) (h : decide (m = none) = c) : (execOp ρ o).run prog w = .ok (.value (.bool c)) w := by
 subst h;refine mu ho hx hy ?_;simp only [binOp];simp [Op.equal, Op.maxDepth, m5 hp m 9999]
theorem cY {te : TypeId} {m : Option Addr} (c : Bool) (hp : prog.underlying t = some (.pointer te)) (ho : o.op = .binOp .neq t x y r) (hx : ρ x = .pointer m) (hy : ρ y = .pointer none) (h : (!decide (m = none)) = c) : (execOp ρ o).run prog w = .ok (.value (.bool c)) w := by
 subst h;refine mu ho hx hy ?_;simp only [binOp];simp [Op.equal, Op.maxDepth, m5 hp m 9999]
theorem kw {te : TypeId} (c : Bool) (hp : prog.underlying t = some (.pointer te)) {j : TypeInfo} (hte : prog.info? te = some j) (hsz : j.size ≠ 0) (ho : o.op = .binOp .neq t x y r) (hx : ρ x = .pointer (some a1)) (hy : ρ y = .pointer (some a2))
  {ca cb : Array Value} {ta tb : TypeId} (ha : w.heap[a1.block]? = some (.cells ca ta (0, 0))) (hb : w.heap[a2.block]? = some (.cells cb tb (0, 0))) (h : (!decide (a1 = a2)) = c) : (execOp ρ o).run prog w = .ok (.value (.bool c)) w := by
 subst h;refine mu ho hx hy ?_;simp only [binOp];simp [Op.equal, Op.maxDepth, uE hp hte hsz ha hb 9999]
end
theorem uA {α : Type} (E : Elt α) (hz : E.z.cells.toList = E.cel E.d) (n : Nat) : (cu E (List.replicate n E.d)).toArray = madeCells E.z.cells (n * E.n) := by
 have hp := E.pos;apply Array.ext
 ·rw [size_madeCells, List.size_toArray, ch, List.length_replicate]
 ·intro j h1 h2;rw [size_madeCells] at h2;have hjn : j / E.n < n := Nat.div_lt_of_lt_mul (by rw [Nat.mul_comm]; exact h2);have hr : j % E.n < E.n := Nat.mod_lt _ hp;have hk : j / E.n < (List.replicate n E.d).length := by rw [List.length_replicate]; exact hjn
  have := o7 E (List.replicate n E.d) hk hr;rw [Nat.div_add_mod'] at this;have hd0 : (List.replicate n E.d).getD (j / E.n) E.d = E.d := by
   rw [List.getD, List.getElem?_replicate]
   split <;> rfl
  rw [hd0, List.getElem?_eq_getElem (by simpa using h1), List.getElem?_eq_getElem (by rw [E.len]; exact hr)] at this;injection this with this;have e1 : (cu E (List.replicate n E.d)).toArray[j] = (cu E (List.replicate n E.d))[j]'(by simpa using h1) := by simp
  rw [e1, this];simp only [madeCells, Array.getElem_map, Array.getElem_range, E.zc];have hs : j % E.n < E.z.cells.size := by rw [E.zc]; exact hr
  rw [getElem!_pos E.z.cells (j % E.n) hs];have e2 : E.z.cells[j % E.n] = E.z.cells.toList[j % E.n]'(by simpa using hs) := by simp
  rw [e2];simp only [hz]
theorem pl {α : Type} {E : Elt α} {ρ : Operand -> Value} {o : Oper} {x y : Operand} {w : World} {n : Nat} (ho : o.op = .makeSlice E.s x y) (hx : ρ x = .int .i64 (n : Int)) (hy : ρ y = .int .i64 (n : Int)) (hn : n <= 1000000) :
  (execOp ρ o).run prog w = .ok (.value (.slice (some ⟨w.heap.size, 0, none⟩) n n)) (w.alloc (.cells (madeCells E.z.cells (n * E.n)) E.t)) := by
 obtain ⟨i0, hi, hz0, hz1, hz2⟩ := info_parts E.info;have hb : (i0.bytes : Int) * n <= 281474976710656 := by
  have h1 := Nat.mul_le_mul E.small hn;rw [hz2];have h2 : E.by_ * n <= 4096000000 := by simpa using h1
  have : ((E.by_ * n : Nat) : Int) <= 4096000000 := by omega
  rw [Int.natCast_mul] at this;omega
 have hr := run_make (P := prog) w E.s E.t i0 E.z E.und hi hz0 .i64 .i64 n n (by omega) (Int.le_refl _) hb (by omega);rw [hz1] at hr;simp only [Int.toNat_natCast] at hr;unfold execOp;simp only [ho, hx, hy, Sem.run_bind, hr, Result.andThen_ok, Sem.run_pure]
theorem pS {α : Type} (E : Elt α) (hz : E.z.cells.toList = E.cel E.d) (w : World) (n B : Nat) (hB : B <= w.heap.size) (hn : n <= 1000000) : aO E (w.alloc (.cells (madeCells E.z.cells (n * E.n)) E.t)) B (.slice (some ⟨w.heap.size, 0, none⟩) n n) (List.replicate n E.d) := by
 refine aO.of_block (heap_alloc_new w _) ?_ hB (by simp) (by unfold maxLen; omega);rw [<- uA E hz n]
def yM (c : LC) : List Value := .bool c.kn :: .bool c.dt :: cel c.b
theorem xo (c : LC) : (yM c).length = 66 := by simp [yM, aM]
theorem adT (c : LC) : ∀ v ∈ yM c, v.oneCell' = true := by
 intro v hv;simp only [yM, List.mem_cons] at hv;rcases hv with rfl | rfl | hv
 ·rfl
 ·rfl
 ·exact ku c.b v hv
def lcV (c : LC) : Value := .agg (yM c).toArray
def LcE : Elt LC where
 s := 263
 t := 268
 n := 66
 by_ := 66
 cel := yM
 d := lc0
 z := lcV lc0
 pos := by omega
 small := by omega
 len := xo
 one := adT
 und := underlying263
 info := by kernel_rfl
 zc := by show (Value.cells (.agg _)).size = 66; simp [Value.cells, xo]
def U6E : Elt Int where
 s := 264
 t := 34
 n := 1
 by_ := 8
 cel x := [.int .u64 x]
 d := 0
 z := .int .u64 0
 pos := by omega
 small := by omega
 len _ := rfl
 one x v hv := by simp at hv; subst hv; rfl
 und := underlying264
 info := by kernel_rfl
 zc := rfl
section
variable {ρ : Operand -> Value} {o : Oper} {x y z : Operand} {w : World} {b off : Nat} {c : Blk}
theorem ac7 {ad : Addr} {a : Bool} (h : w.cell? ad = some (.bool a)) : (Instr.loadAt 4 (.pointer (some ad))).run prog w = .ok (.bool a) w := by simp [go_sem, h]
theorem xB {ad : Addr} {u : Value} {a : Bool} (h : w.cell? ad = some u) (hf : w.frozen? ad = false) : (Instr.storeAt 4 (.pointer (some ad)) (.bool a)).run prog w = .ok () (w.setCell ad (.bool a)) := by simp [go_sem, h, hf]
end
def ajc : Obj -> Prop
 |.cells _ t _ => t = 266 \/ t = 268 \/ t = 34
 |_ => False
def rnC (g N : Nat) (v : Value) : List Value := [.slice (some ⟨g, 0, none⟩) N N, v]
structure RNu (w : World) (B q g : Nat) (v : Value) (s : LnS) (L : List Int) : Prop where
 at_ : w.heap[q]? = some (.cells (rnC g s.l.length v).toArray 266 (0, 0))
 row : aO LcE w B (.slice (some ⟨g, 0, none⟩) s.l.length s.l.length) s.l
 sq : aO U6E w B v L
 low : B <= q
 ok : dO s
 fs : s.f = aiP L L.length
 nn : ∀ x ∈ L, 0 <= x
theorem aab {w : World} {b o n b' o' : Nat} {vs : List Value} (h : w.there b o n) : (w.setCells b' o' vs).there b o n := World.there_setCells h b' o' vs
theorem there_drew {w : World} {b o n : Nat} (h : w.there b o n) : (World.drew w).there b o n := h
theorem aiW {a : Int} (h : -9223372036854775808 <= a /\ a <= 9223372036854775807) : IntKind.i64.wrap a = a := IntWalk.i64_in _ ⟨by omega, by omega⟩
def ftR (q g : Nat) (v : Value) (b : Nat) : Prop := b = q \/ b = g \/ v.ownBlock = some b
def RNf (w : World) (F : Nat -> Prop) (B q n : Nat) (s : LnS) : Prop := ∃ g v L, RNu w B q g v s L /\ L.length <= n /\ F = ftR q g v
def lpO : Option Nat -> Value
 |none => .pointer none
 |some b => .pointer (some ⟨b, 0, none⟩)
def LpE : Elt (Option Nat) where
 s := 111
 t := 259
 n := 1
 by_ := 8
 cel x := [lpO x]
 d := none
 z := .pointer none
 pos := by omega
 small := by omega
 len _ := rfl
 one x v hv := by simp only [List.mem_singleton] at hv; subst hv; cases x <;> rfl
 und := underlying111
 info := by kernel_rfl
 zc := rfl
theorem adB : LpE.z.cells.toList = LpE.cel LpE.d := rfl
def rsC (N T : Nat) (r : Int) (room : Nat) (vO : Value) (gl : Nat) : List Value := [.int .i64 (N : Int), .int .i64 (T : Int), .int .i64 r, .int .i64 (room : Int), vO, .slice (some ⟨gl, 0, none⟩) T T]
def ai2 (w : World) (F : Nat -> Prop) (K : Nat) : Option Nat -> Option LnS -> Prop
 |none, none => ∀ b, ¬ F b
 |some q, some x => ∃ m, m <= K /\ RNf w F 0 q m x
 |_, _ => False
structure RSu (w : World) (q : Nat) (vO : Value) (gl : Nat) (ps : List (Option Nat)) (Fl : Nat -> Nat -> Prop) (K : Nat) (r : Int) (s : ShS) : Prop where
 at_ : w.heap[q]? = some (.cells (rsC s.N s.T r s.room vO gl).toArray 113 (0, 0))
 ord : aO bN w 0 vO s.strs
 row : aO LpE w 0 (.slice (some ⟨gl, 0, none⟩) s.T s.T) ps
 ln : ∀ n, n < s.T -> ai2 w (Fl n) K (ps.getD n none) (s.ln n)
 ap : ∀ i j, i < s.T -> j < s.T -> i ≠ j -> ∀ b, Fl i b -> ¬ Fl j b
 kd : ∀ n, n < s.T -> ∀ b, Fl n b -> b ≠ q /\ vO.ownBlock ≠ some b /\ b ≠ gl
 rg : 40 <= r /\ r <= 256
def ftS (q : Nat) (vO : Value) (gl : Nat) (Fl : Nat -> Nat -> Prop) (T : Nat) (b : Nat) : Prop := b = q \/ vO.ownBlock = some b \/ b = gl \/ ∃ n, n < T /\ Fl n b
def RSf (w : World) (F : Nat -> Prop) (q K : Nat) (s : ShS) : Prop := ∃ vO gl ps Fl r, RSu w q vO gl ps Fl K r s /\ bX s /\ F = ftS q vO gl Fl s.T
section
variable {P : Program} {md : Region.Mode} {l : List Oper} {Q : Exit -> Act -> World -> Prop} {S : World -> Prop} {fuel : Nat} {listed : Array Bool} {a : Act} {w w1 : World} {o o' : Oper} {v : Value}
theorem mF (i : Nat) (hi : l[i]? = some o) (hr : Region.ready md l.toArray listed = [i]) (hw : Region.wanted o (yielded l.toArray a.tmps) = true) (h : (execOp a.eval o).run P w = .ok (.value v) w1)
  (hS : S w1) (hk : wpAnyH P md l.toArray Q S fuel (listed.setIfInBounds i true) (a.put o.dst v) w1) : wpAnyH P md l.toArray Q S (fuel + 1) listed a w :=
 wpAnyH_all hr (by simp) fun j hj => by
  obtain rfl : j = i := by simpa using hj
  unfold wpOp;simp only [List.getElem?_toArray, hi, hw, if_true];refine .inl ?_;unfold Oper.wp;rw [h];exact ⟨hS, hk⟩
theorem uz (i j : Nat) {f : FuncId} {vs : Array Value} (hi : l[i]? = some o) (hj : l[j]? = some o') (hr : Region.ready md l.toArray listed = [i, j]) (hwi : Region.wanted o (yielded l.toArray a.tmps) = true) (hwj : Region.wanted o' (yielded l.toArray a.tmps) = true) (h : (execOp a.eval o).run P w = .ok (.enter f vs) w)
  (hc : Calls P f vs w fun e w' => ∃ v, e = .returned v /\ S w' /\ wpAnyH P md l.toArray Q S fuel (listed.setIfInBounds i true) (a.put o.dst v) w') (h' : (execOp a.eval o').run P w = .ok (.value v) w1) (hS : S w1)
  (hk : wpAnyH P md l.toArray Q S fuel (listed.setIfInBounds j true) (a.put o'.dst v) w1) : wpAnyH P md l.toArray Q S (fuel + 1) listed a w :=
 wpAnyH_all hr (by simp) fun z hz => by
  rcases (show z = i \/ z = j by simpa using hz) with rfl | rfl
  ·unfold wpOp;simp only [List.getElem?_toArray, hi, hwi, if_true];refine .inl ?_;unfold Oper.wp;rw [h];exact hc.mono fun e w' ⟨v, he, hk⟩ => by subst he; exact hk
  ·unfold wpOp;simp only [List.getElem?_toArray, hj, hwj, if_true];refine .inl ?_;unfold Oper.wp;rw [h'];exact ⟨hS, hk⟩
theorem af1 {α β : Type} {F : α -> β -> Prop} {G : Prop} {T : α -> β -> Prop} (k : (∀ a b, F a b -> T a b) -> G) (h : ∀ a b, F a b -> T a b) : G := k h
end
theorem aiT (a b c d : Int) (A : Option Addr) (n c' : Nat) (w : World) : (Instr.build 113 #[(0, .agg #[.int .i64 a, .int .i64 b, .int .i64 c]), (1, .int .i64 d), (3, .slice A n c')]).run prog w = .ok (.agg #[.int .i64 a, .int .i64 b, .int .i64 c, .int .i64 d, .slice none 0 0, .slice A n c']) w := by kernel_rfl
theorem wO {ρ : Operand -> Value} {o : Oper} {x y z : Operand} {w : World} {N T room g : Nat} {r : Int} (ho : o.op = .build 113 #[(0, x), (1, y), (3, z)]) (hx : ρ x = geo (gx N T r)) (hy : ρ y = .int .i64 (room : Int)) (hz : ρ z = .slice (some ⟨g, 0, none⟩) T T) : (execOp ρ o).run prog w = .ok (.value (.agg (rsC N T r room (.slice none 0 0) g).toArray)) w := by
 have h := aiT (N : Int) (T : Int) r (room : Int) (some ⟨g, 0, none⟩) T T w;unfold execOp;simp only [ho, hx, hy, hz, List.map_toArray, List.map_cons, List.map_nil, Sem.run_bind]
 show Result.andThen ((Instr.build 113 #[(0, .agg #[.int .i64 (N : Int), .int .i64 (T : Int), .int .i64 r]), (1, .int .i64 (room : Int)), (3, .slice (some ⟨g, 0, none⟩) T T)]).run prog w) _ = _
 rw [h]
 rfl
theorem RSf.fresh {w : World} {q gl N T room : Nat} {r : Int} (hg : dA (gx N T r) = true) (h1 : 1 <= room) (h2 : room <= 64) (ha : w.heap[q]? = some (.cells (rsC N T r room (.slice none 0 0) gl).toArray 113 (0, 0))) (hr : aO LpE w 0 (.slice (some ⟨gl, 0, none⟩) T T) (List.replicate T none)) : RSf w (ftS q (.slice none 0 0) gl (fun _ _ => False) T) q 0 (ox N T room) := by
 have hb := ed hg;unfold gx at hb;simp only at hb;have hps : ∀ n, (List.replicate T (none : Option Nat)).getD n none = none := fun n => by
  rw [List.getD, List.getElem?_replicate]
  split <;> rfl
 refine ⟨.slice none 0 0, gl, List.replicate T none, fun _ _ => False, r, ⟨ha, aO.nil _ _, hr, fun n hn => ?_, fun _ _ _ _ _ _ e => e.elim, fun _ _ _ e => e.elim, ⟨hb.2.2.2.2.1, hb.2.2.2.2.2⟩⟩, bX.new (by omega) (by omega) (by omega) (by omega) h1 h2, rfl⟩;rw [hps];exact fun _ e => e
theorem y7 {N T room : Nat} {r : Int} (w : World) (hg : dA (gx N T r) = true) (h1 : 1 <= room) (h2 : room <= 64) : Calls prog 20 #[geo (gx N T r), .int .i64 (room : Int)] w fun e w' => ∃ q F, e = .returned (.tuple #[.pointer (some ⟨q, 0, none⟩), .int .i64 0]) /\ RSf w' F q 0 (ox N T room) /\ Below w.heap.size w w' /\ ∀ b, F b -> w.heap.size <= b := by
 have hb := ed hg;unfold gx at hb;simp only at hb;have hbx := (Below.refl w.heap.size w).alloc aj (.cells (dR (gx N T r)).toArray 51);have HB1 := ae hbx;have HP1 := ae (heap_alloc_new w (.cells (dR (gx N T r)).toArray 51));have HG := ae hg;have HR1 := ae h1;have HR2 := ae h2;have HT6 : Hid (T <= 1000000) := ae (by omega);have HA : Hid (decide ((room : Int) < 1) = false) := ae (am (by omega));have HC : Hid (decide ((room : Int) > 64) = false) := ae (am (by omega));clear hbx hb hg h1 h2;go_enter func20, ntmps20;go_upto_region 0 with fail;refine af ?_;refine ajB (cw (cs := dR (gx N T r)) rfl ajL) ?_;generalize w.alloc (.cells (dR (gx N T r)).toArray 51) = w1 at *;refine aF 2 ?_;go_upto_region 1 with fail;refine af ?_;refine ajB (dd (c := gx N T r) rfl ajL (aP HP1)) ?_;refine aw rfl (aA call49 rfl (evc ajL evn)) ?_;refine (afG (gx N T r) w1).mono ?_;rintro e w2 ⟨rfl, b2⟩;rw [HG.out];have HB2 := ae (HB1.out.trans (b2.mono HB1.out.size));have HP2 := ae (aB HP1 b2);clear b2;refine aQ ?_;refine runs 3 ?_;refine ajI (aZ false rfl ajL evk HA) ?_;refine runs 3 ?_;refine ajI (dC false rfl ajL evk HC) ?_;refine aF 1 ?_;have HSD : Hid (Below w2.heap.size w2 (World.drew w2)) := ae ((Below.refl w2.heap.size w2).drew);have HS1 : Hid (Below w2.heap.size w2 ((World.drew w2).alloc (.cells (madeCells LpE.z.cells (T * LpE.n)) LpE.t))) := ae (HSD.out.alloc aj _);have HMZ := ae (pS LpE adB (World.drew w2) T (World.drew w2).heap.size aj HT6);have hsz : ((World.drew w2).alloc (.cells (madeCells LpE.z.cells (T * LpE.n)) LpE.t)).heap.size = (World.drew w2).heap.size + 1 := al;go_upto_region 3 with fail;refine wp_region_held (S := fun w' => Below w2.heap.size w2 w') (by kernel_rfl) ?_;change wpAnyH _ _ _ _ _ 9 _ _ w2.drew;refine ajE 0 rfl (fun _ hw => dd (c := gx N T r) rfl ajL (aP (aB HP2 hw))) HSD ?_;refine ajY 1 rfl HSD ?_;refine ajE 2 rfl (fun _ hw => ax rfl ajL abH) HSD ?_;refine ajE 3 rfl (fun _ hw => aC rfl ajL (bY (k := (T : Int)) ((aP (aB HP2 hw)) 1 _ rfl))) HSD ?_;refine mF 4 rfl (by kernel_rfl) rfl (pl (E := LpE) rfl ajL ajL HT6.out) HS1.out ?_;simp only [aa];obtain ⟨gl, hgl⟩ : ∃ gl, (World.drew w2).heap.size = gl := ⟨_, rfl⟩;have HGL : Hid (w2.heap.size <= gl) := ae (Nat.le_of_eq hgl);rw [hgl] at HMZ hsz ⊢;generalize (World.drew w2).alloc (.cells (madeCells LpE.z.cells (T * LpE.n)) LpE.t) = w3 at *;have HS2 : Hid (Below w2.heap.size w2 (w3.alloc (.cells (rsC N T r room (.slice none 0 0) gl).toArray 113))) := ae (HS1.out.alloc HS1.out.size _);refine ajE 5 rfl (fun _ hw => wO (room := room) rfl ajL ajL ajL) HS1 ?_;refine mF 6 rfl (by kernel_rfl) rfl (cw (cs := rsC N T r room (.slice none 0 0) gl) rfl ajL) HS2.out ?_;simp only [aa];refine ajZ 7 rfl HS2 ?_;refine ajE 8 rfl (fun _ hw => eA rfl evk) HS2 ?_;refine wpAnyH_done (by kernel_rfl) ?_ _;have hq := heap_alloc_new w3 (.cells (rsC N T r room (.slice none 0 0) gl).toArray 113);have hrow := (aO.below HMZ ((Below.refl w3.heap.size w3).alloc aj (.cells (rsC N T r room (.slice none 0 0) gl).toArray 113))).base (Nat.zero_le _);have hf := ae (RSf.fresh HG HR1 HR2 hq hrow);have HBB := ae (HB2.out.trans (HS2.out.mono HB2.out.size));have HWQ : Hid (w.heap.size <= w3.heap.size) := ae (by have := HB2.out.size; have := HGL.out; omega);have HWG : Hid (w.heap.size <= gl) := ae (by have := HB2.out.size; have := HGL.out; omega);clear hq hrow hgl hsz;go_wp2_with fail;go_ret2;refine ⟨_, _, rfl, hf.out, HBB, fun b hb => ?_⟩;rcases hb with e | e | e | ⟨_, _, e⟩
 ·subst e; exact HWQ
 ·cases e
 ·subst e; exact HWG
 ·exact e.elim
structure ShI (C : eF) extends ShPr where
def SAt (C : eF) (D : ShI C) (w0 : World) (B : Nat) (O : Nat -> Prop) (w : World) (q p t K : Nat) (h : HuS) (s : ShS) : Prop := ∃ G S, C.J w G q p h /\ D.P w S t K s /\ (∀ b, G b -> ¬ S b) /\ (∀ b, G b \/ S b -> B <= b) /\ Below B w0 w /\ ot w0 B /\ ∀ b, O b -> ¬ G b /\ ¬ S b /\ b < w.heap.size
section
variable {C : eF} {D : ShI C} {w0 w w' : World} {B q p t K K' : Nat} {O O' : Nat -> Prop} {h h' : HuS} {s s' : ShS}
theorem SAt.bel (a : SAt C D w0 B O w q p t K h s) : Below B w0 w := by obtain ⟨G, S, h1, h2, h3, h4, h5, _⟩ := a; exact h5
theorem SAt.guard (a : SAt C D w0 B O w q p t K h s) (k : Below w.heap.size w w') (hO : ∀ b, O' b -> O b \/ (w.heap.size <= b /\ b < w'.heap.size)) : SAt C D w0 B O' w' q p t K h s := by
 obtain ⟨G, S, h1, h2, h3, h4, h5, h6, h7⟩ := a;have hs := k.size;refine ⟨G, S, C.below h1 k, D.below h2 k, h3, h4, h5.trans (k.mono (aq h6.le h5.size)), h6, fun b hb => ?_⟩;rcases hO b hb with e | ⟨e1, e2⟩
 ·obtain ⟨g1, g2, g3⟩ := h7 b e;exact ⟨g1, g2, by omega⟩
 ·exact ⟨fun hg => by have := C.lt h1 b hg; omega, fun hg => by have := D.lt h2 b hg; omega, e2⟩
theorem SAt.below (a : SAt C D w0 B O w q p t K h s) (k : Below w.heap.size w w') : SAt C D w0 B O w' q p t K h s := a.guard k fun b e => .inl e
theorem SAt.turn {G S G' S' : Nat -> Prop} (h4 : ∀ b, G b \/ S b -> B <= b) (h5 : Below B w0 w) (h6 : ot w0 B) (h7 : ∀ b, O b -> ¬ G b /\ ¬ S b /\ b < w.heap.size) (k1 : C.J w' G' q p h') (k2 : D.P w' S' t K' s') (kd : ∀ b, G' b -> ¬ S' b) (k3 : Only (fun b => G b \/ S b) w w') (k4 : Grow w G G') (k5 : Grow w S S') : SAt C D w0 B O w' q p t K' h' s' /\ cq O w w' := by
 have hs := aq h6.le h5.size;have hs2 := k3.size;refine ⟨⟨G', S', k1, k2, kd, fun b hb => ?_, h5.trans (k3.below h4 hs), h6, fun b hb => ?_⟩, fun b hb => k3.block b (h7 b hb).2.2 fun e => e.elim (h7 b hb).1 (h7 b hb).2.1⟩
 ·rcases hb with e | e
  ·rcases k4 b e with y | y
   ·exact h4 b (.inl y)
   ·omega
  ·rcases k5 b e with y | y
   ·exact h4 b (.inr y)
   ·omega
 ·obtain ⟨g1, g2, g3⟩ := h7 b hb;refine ⟨fun hg => ?_, fun hg => ?_, by omega⟩
  ·rcases k4 b hg with e | e
   ·exact g1 e
   ·omega
  ·rcases k5 b hg with e | e
   ·exact g2 e
   ·omega
theorem SAt.shelf {I : FuncId} {vs : Array Value} {v : Value} (a : SAt C D w0 B O w q p t K h s) (hc : ∀ S, D.P w S t K s -> (∀ b, O b -> ¬ S b) -> Calls prog I vs w fun e w' => e = .returned v /\ ∃ S', D.P w' S' t K' s' /\ Only S w w' /\ Grow w S S') : Calls prog I vs w fun e w' => e = .returned v /\ SAt C D w0 B O w' q p t K' h s' /\ cq O w w' := by
 obtain ⟨G, S, h1, h2, h3, h4, h5, h6, h7⟩ := a;refine (hc S h2 fun b hb => (h7 b hb).2.1).mono fun e w' ⟨k0, S', k2, k3, k5⟩ => ⟨k0, SAt.turn h4 h5 h6 h7 (C.only h1 k3 h3) k2 (fun b hg hs => ?_) (k3.widen fun b hb => .inr hb) (Grow.same _ _) k5⟩
 rcases k5 b hs with y | y
 ·exact h3 b hg y
 ·have := C.lt h1 b hg; omega
theorem SAt.look {I : FuncId} {vs : Array Value} {Q : Ending -> World -> Prop} (a : SAt C D w0 B O w q p t K h s) (hc : ∀ S, D.P w S t K s -> Calls prog I vs w Q) : Calls prog I vs w Q := by
 obtain ⟨G, S, h1, h2, _⟩ := a;exact hc S h2
end
theorem vy (a b : Int) (w : World) : (Instr.build 51 #[(0, .int .i64 a), (1, .int .i64 b), (2, .int .i64 40)]).run prog w = .ok (.agg #[.int .i64 a, .int .i64 b, .int .i64 40]) w := by kernel_rfl
theorem sJ {ρ : Operand -> Value} {o : Oper} {x y z : Operand} {w : World} {a b : Int} (ho : o.op = .build 51 #[(0, x), (1, y), (2, z)]) (hx : ρ x = .int .i64 a) (hy : ρ y = .int .i64 b) (hz : ρ z = .int .i64 40) : (execOp ρ o).run prog w = .ok (.value (.agg #[.int .i64 a, .int .i64 b, .int .i64 40])) w := by
 unfold execOp;simp only [ho, hx, hy, hz, List.map_toArray, List.map_cons, List.map_nil, Sem.run_bind, vy, Result.andThen_ok, Sem.run_pure]
theorem agA : (prog.info? 51).map (fun i => i.zero) = some (some (.agg ([.int .i64 0, .int .i64 0, .int .i64 0] : List Value).toArray)) := by kernel_rfl
theorem aaS (A B : Option Addr) (n m c d N : Nat) (a b : List Int) (w : World) (ha : RdE bN w N A n a) (hb : RdE bN w N B m b) (hN : N <= w.heap.size) (hn : n <= maxLen) :
  Calls prog 27 #[.slice A n c, .slice B m d] w fun e w' => e = .returned (.bool (m6 a b)) /\ Below w.heap.size w w' := by
 unfold maxLen at hn;by_cases hnm : n = m
 ·subst hnm;go_enter func27, ntmps27;go_wp2
  go_loopw [5] (fun i wr => ∃ k : Nat, k <= n /\ i = .int .i64 k /\ (∀ j, j < k -> a.getD j 0 = b.getD j 0) /\ Below w.heap.size w wr) (fun i _ => n - (intOf i).toNat)
  case atStart => exact ⟨0, Nat.zero_le _, rfl, fun j hj => absurd hj (by omega), ak⟩
  case round =>
   obtain ⟨k, hk, rfl, hj, hbl⟩ := hrel;by_cases hlt : k < n
   ·obtain ⟨bA, oA, rfl, hA, cA⟩ := (ha.below (hbl.mono hN)).int hlt;obtain ⟨bB, oB, rfl, hB, cB⟩ := (hb.below (hbl.mono hN)).int hlt;have hidj := ae hj;clear hj;generalize hx : a.getD k 0 = x at *;generalize hy : b.getD k 0 = y at *;have HX := ae hx;have HY := ae hy;clear hx hy;go_wp2
    go_quiet (fail)
    go_wp2
    ·have hd : (x != y) = true := by assumption
     go_ret;refine ⟨?_, bdn hbl _⟩;have : m6 a b = false := by
      simp only [m6, beq_eq_false_iff_ne];rintro rfl;have := HX.out.symm.trans HY;simp [this] at hd
     rw [this]; rfl
    ·have hd : (x != y) = false := by assumption
     go_roundw
     case rel =>
      refine ⟨k + 1, by omega, by go_num, ?_, bdn hbl _⟩;intro j hj;by_cases h : j = k
      ·subst h;rw [HX.out, HY.out]
       simpa using hd
      ·exact hidj.out j (by omega)
     case measure => simp [intOf]; omega
   ·go_wp2;go_ret;refine ⟨?_, hbl⟩;have : m6 a b = true := by
     simp only [m6, beq_iff_eq];exact adc (by rw [ha.1, hb.1]) fun j h => hj j (by have := ha.1; omega)
    rw [this]; rfl
 ·have hne : ((n : Int) != (m : Int)) = true := by simp; omega
  go_enter func27, ntmps27;go_wp2;go_ret;refine ⟨?_, ak⟩;have : m6 a b = false := by
   have h1 := ha.1;have h2 := hb.1;simp only [m6, beq_eq_false_iff_ne];rintro rfl;omega
  rw [this]; rfl
section
variable {C : eF} {D : ShI C} {w0 w w' : World} {B q p t K k : Nat} {O O' : Nat -> Prop} {h : HuS} {s : ShS}
theorem SAt.mine {g : Nat} (a : SAt C D w0 B O w q p t K h s) (hg : O g) (hB : B <= g) (ho : Only (fun b => b = g) w w') : SAt C D w0 B O w' q p t K h s := by
 obtain ⟨G, S, h1, h2, h3, h4, h5, h6, h7⟩ := a;have hs := ho.size;obtain ⟨g1, g2, g3⟩ := h7 g hg;refine ⟨G, S, C.only h1 ho fun b hb e => g1 (e ▸ hb), D.only h2 ho fun b hb e => g2 (e ▸ hb), h3, h4, h5.trans (ho.below (fun b e => by subst e; exact hB) (aq h6.le h5.size)), h6, fun b hb => ?_⟩;obtain ⟨g1, g2, g3⟩ := h7 b hb;exact ⟨g1, g2, by omega⟩
theorem SAt.lt (a : SAt C D w0 B O w q p t K h s) {b : Nat} (hb : O b) : b < w.heap.size := by obtain ⟨G, S, h1, h2, h3, h4, h5, h6, h7⟩ := a; exact (h7 b hb).2.2
theorem SAt.start {G S : Nat -> Prop} (hT : Tab w0) (j : C.J w G q p h) (a : D.P w S t K s) (hG : ∀ b, G b -> w0.heap.size <= b) (hS : ∀ b, S b -> w0.heap.size <= b) (hd : ∀ b, G b -> ¬ S b) (hb : Below w0.heap.size w0 w) (hO : ∀ b, O b -> ¬ G b /\ ¬ S b /\ b < w.heap.size) : SAt C D w0 w0.heap.size O w q p t K h s :=
 ⟨G, S, j, a, hd, fun b e => e.elim (hG b) (hS b), hb, ot.start hT, hO⟩
end
structure ail (C : eF) : Prop where
theorem abo {a c n : Nat} (ha : a <= 16) (hc : c <= 16) (hn : a + c = n) : IntKind.i64.wrap ((a : Int) + (c : Int)) = (n : Int) := by
 rw [IntWalk.i64_in _ (by omega)];omega
theorem aa1 {x : Ros} (hf : aU x = false) (w : World) : Calls prog 133 #[ros x] w fun e w' => e = .returned (.int .i64 0) /\ Below w.heap.size w w' := by
 have HT1 := ae (iN.new w x);have HF := ae hf;clear hf;go_enter func133, ntmps133;go_upto_region 1 with (first | (refine av rfl (aY rfl rfl) ?_) | fail);generalize w.alloc (.cells (aX x).toArray 58) = w1 at *;refine af ?_;refine ajB (aW rfl ajL (HT1.out.at0)) ?_;refine aw rfl (aA call42 rfl (evc ajL evn)) ?_;refine (dI w1 HF).mono ?_;rintro e w2 ⟨rfl, hb⟩;have HT2 := ae (HT1.out.call hb);clear hb HT1;refine aQ ?_;refine aF 1 ?_;go_upto_region 2 with fail;refine bU 1 ?_;go_wp2_with fail;go_ret;exact ⟨rfl, HT2.out.bel⟩
theorem zr {x : Ros} {a c n : Nat} (hf : aU x = true) (ha : many x 1 = a) (hc : many x 2 = c) (hn : IntKind.i64.wrap ((a : Int) + (c : Int)) = (n : Int)) (hg : decide ((2 : Int) <= (n : Int)) = true) (w : World) : Calls prog 133 #[ros x] w fun e w' => e = .returned (.int .i64 5) /\ Below w.heap.size w w' := by
 have HT1 := ae (iN.new w x);have HF := ae hf;have HA := ae ha;have HC := ae hc;have HN := ae hn;have HG := ae hg;clear hf ha hc hn hg;go_enter func133, ntmps133;go_upto_region 1 with (first | (refine av rfl (aY rfl rfl) ?_) | fail);generalize w.alloc (.cells (aX x).toArray 58) = w1 at *;refine af ?_;refine ajB (aW rfl ajL (HT1.out.at0)) ?_;refine aw rfl (aA call42 rfl (evc ajL evn)) ?_;refine (dI w1 HF).mono ?_;rintro e w2 ⟨rfl, hb⟩;have HT2 := ae (HT1.out.call hb);clear hb HT1;refine aQ ?_;refine aF 1 ?_;go_upto_region 3 with fail;refine aR (B := w2.heap.size) (by kernel_rfl) ?_;refine ajJ (fun _ hw => aW rfl ajL (HT2.out.above hw)) ?_;refine bO rfl (fun _ => aA call116 rfl (evc ajL (evc evk evn))) (bw aj fun w' hw => fh w' HA) ?_;simp only [aa];refine ajJ (fun _ hw => aW rfl ajL (HT2.out.above hw)) ?_;refine bO rfl (fun _ => aA call116 rfl (evc ajL (evc evk evn))) (bw aj fun w' hw => fh w' HC) ?_;simp only [aa];refine cy 2 ?_;refine wpQuiet_nil ?_;intro w3 hw;have HT3 := ae (HT2.out.call hw);clear hw HT2;go_upto_region 4 with fail;refine aH 2 ?_;refine ajB (bL rfl ajL ajL HN) ?_;refine aF 1 ?_;go_upto_region 5 with fail;refine aH 1 ?_;refine ajB (dv true rfl ajL evk HG) ?_;refine aF 1 ?_;go_upto_region 7 with fail;refine bU 1 ?_;go_wp2_with fail;go_ret;exact ⟨rfl, HT3.out.bel⟩
theorem yC {x : Ros} {a c n : Nat} (hf : aU x = true) (ha : many x 1 = a) (hc : many x 2 = c) (hn : IntKind.i64.wrap ((a : Int) + (c : Int)) = (n : Int)) (hg : decide ((2 : Int) <= (n : Int)) = false) (h1 : ((n : Int) == 1) = true) (ho : x.gone = true) (w : World) : Calls prog 133 #[ros x] w fun e w' => e = .returned (.int .i64 5) /\ Below w.heap.size w w' := by
 have HT1 := ae (iN.new w x);have HF := ae hf;have HA := ae ha;have HC := ae hc;have HN := ae hn;have HG := ae hg;have H1 := ae h1;have HO := ae ho;clear hf ha hc hn hg h1 ho;go_enter func133, ntmps133;go_upto_region 1 with (first | (refine av rfl (aY rfl rfl) ?_) | fail);generalize w.alloc (.cells (aX x).toArray 58) = w1 at *;refine af ?_;refine ajB (aW rfl ajL (HT1.out.at0)) ?_;refine aw rfl (aA call42 rfl (evc ajL evn)) ?_;refine (dI w1 HF).mono ?_;rintro e w2 ⟨rfl, hb⟩;have HT2 := ae (HT1.out.call hb);clear hb HT1;refine aQ ?_;refine aF 1 ?_;go_upto_region 3 with fail;refine aR (B := w2.heap.size) (by kernel_rfl) ?_;refine ajJ (fun _ hw => aW rfl ajL (HT2.out.above hw)) ?_;refine bO rfl (fun _ => aA call116 rfl (evc ajL (evc evk evn))) (bw aj fun w' hw => fh w' HA) ?_;simp only [aa];refine ajJ (fun _ hw => aW rfl ajL (HT2.out.above hw)) ?_;refine bO rfl (fun _ => aA call116 rfl (evc ajL (evc evk evn))) (bw aj fun w' hw => fh w' HC) ?_;simp only [aa];refine cy 2 ?_;refine wpQuiet_nil ?_;intro w3 hw;have HT3 := ae (HT2.out.call hw);clear hw HT2;go_upto_region 4 with fail;refine aH 2 ?_;refine ajB (bL rfl ajL ajL HN) ?_;refine aF 1 ?_;go_upto_region 5 with fail;refine aH 1 ?_;refine ajB (dv false rfl ajL evk HG) ?_;refine aF 1 ?_;go_upto_region 6 with fail;refine aH 1 ?_;refine ajB (aE true rfl ajL evk H1) ?_;refine runs 1 ?_;refine ajI (ax rfl ajL vU) ?_;refine ajI (aC rfl ajL (vA (HO.out ▸ HT3.out.at0.cells.2.2.2.2))) ?_;refine aF 2 ?_;go_upto_region 7 with fail;refine bU 1 ?_;go_wp2_with fail;go_ret;exact ⟨rfl, HT3.out.bel⟩
theorem abP {x : Ros} {a c n : Nat} (hf : aU x = true) (ha : many x 1 = a) (hc : many x 2 = c) (hn : IntKind.i64.wrap ((a : Int) + (c : Int)) = (n : Int)) (hg : decide ((2 : Int) <= (n : Int)) = false) (h1 : ((n : Int) == 1) = false) (ho : x.gone = true) (w : World) : Calls prog 133 #[ros x] w fun e w' => e = .returned (.int .i64 4) /\ Below w.heap.size w w' := by
 have HT1 := ae (iN.new w x);have HF := ae hf;have HA := ae ha;have HC := ae hc;have HN := ae hn;have HG := ae hg;have H1 := ae h1;have HO := ae ho;clear hf ha hc hn hg h1 ho;go_enter func133, ntmps133;go_upto_region 1 with (first | (refine av rfl (aY rfl rfl) ?_) | fail);generalize w.alloc (.cells (aX x).toArray 58) = w1 at *;refine af ?_;refine ajB (aW rfl ajL (HT1.out.at0)) ?_;refine aw rfl (aA call42 rfl (evc ajL evn)) ?_;refine (dI w1 HF).mono ?_;rintro e w2 ⟨rfl, hb⟩;have HT2 := ae (HT1.out.call hb);clear hb HT1;refine aQ ?_;refine aF 1 ?_;go_upto_region 3 with fail;refine aR (B := w2.heap.size) (by kernel_rfl) ?_;refine ajJ (fun _ hw => aW rfl ajL (HT2.out.above hw)) ?_;refine bO rfl (fun _ => aA call116 rfl (evc ajL (evc evk evn))) (bw aj fun w' hw => fh w' HA) ?_;simp only [aa];refine ajJ (fun _ hw => aW rfl ajL (HT2.out.above hw)) ?_;refine bO rfl (fun _ => aA call116 rfl (evc ajL (evc evk evn))) (bw aj fun w' hw => fh w' HC) ?_;simp only [aa];refine cy 2 ?_;refine wpQuiet_nil ?_;intro w3 hw;have HT3 := ae (HT2.out.call hw);clear hw HT2;go_upto_region 4 with fail;refine aH 2 ?_;refine ajB (bL rfl ajL ajL HN) ?_;refine aF 1 ?_;go_upto_region 5 with fail;refine aH 1 ?_;refine ajB (dv false rfl ajL evk HG) ?_;refine aF 1 ?_;go_upto_region 6 with fail;refine aH 1 ?_;refine ajB (aE false rfl ajL evk H1) ?_;refine a6 2 rfl (aL rfl ajL) (by kernel_rfl) ?_;simp only [bH, ac, aa];refine aF 2 ?_;go_upto_region 8 with fail;refine af ?_;refine ajB (ax rfl ajL vU) ?_;refine ajB (aC rfl ajL (vA (HO.out ▸ HT3.out.at0.cells.2.2.2.2))) ?_;refine aF 1 ?_;go_upto_region 9 with fail;refine bU 1 ?_;go_wp2_with fail;go_ret;exact ⟨rfl, HT3.out.bel⟩
theorem aas {x : Ros} {a c n : Nat} (hf : aU x = true) (ha : many x 1 = a) (hc : many x 2 = c) (hn : IntKind.i64.wrap ((a : Int) + (c : Int)) = (n : Int)) (hg : decide ((2 : Int) <= (n : Int)) = false) (h1 : ((n : Int) == 1) = true) (ho : x.gone = false) (h2 : ((c : Int) == 1) = true) (w : World) : Calls prog 133 #[ros x] w fun e w' => e = .returned (.int .i64 3) /\ Below w.heap.size w w' := by
 have HT1 := ae (iN.new w x);have HF := ae hf;have HA := ae ha;have HC := ae hc;have HN := ae hn;have HG := ae hg;have H1 := ae h1;have HO := ae ho;have H2 := ae h2;clear hf ha hc hn hg h1 ho h2;go_enter func133, ntmps133;go_upto_region 1 with (first | (refine av rfl (aY rfl rfl) ?_) | fail);generalize w.alloc (.cells (aX x).toArray 58) = w1 at *;refine af ?_;refine ajB (aW rfl ajL (HT1.out.at0)) ?_;refine aw rfl (aA call42 rfl (evc ajL evn)) ?_;refine (dI w1 HF).mono ?_;rintro e w2 ⟨rfl, hb⟩;have HT2 := ae (HT1.out.call hb);clear hb HT1;refine aQ ?_;refine aF 1 ?_;go_upto_region 3 with fail;refine aR (B := w2.heap.size) (by kernel_rfl) ?_;refine ajJ (fun _ hw => aW rfl ajL (HT2.out.above hw)) ?_;refine bO rfl (fun _ => aA call116 rfl (evc ajL (evc evk evn))) (bw aj fun w' hw => fh w' HA) ?_;simp only [aa];refine ajJ (fun _ hw => aW rfl ajL (HT2.out.above hw)) ?_;refine bO rfl (fun _ => aA call116 rfl (evc ajL (evc evk evn))) (bw aj fun w' hw => fh w' HC) ?_;simp only [aa];refine cy 2 ?_;refine wpQuiet_nil ?_;intro w3 hw;have HT3 := ae (HT2.out.call hw);clear hw HT2;go_upto_region 4 with fail;refine aH 2 ?_;refine ajB (bL rfl ajL ajL HN) ?_;refine aF 1 ?_;go_upto_region 5 with fail;refine aH 1 ?_;refine ajB (dv false rfl ajL evk HG) ?_;refine aF 1 ?_;go_upto_region 6 with fail;refine aH 1 ?_;refine ajB (aE true rfl ajL evk H1) ?_;refine runs 1 ?_;refine ajI (ax rfl ajL vU) ?_;refine ajI (aC rfl ajL (vA (HO.out ▸ HT3.out.at0.cells.2.2.2.2))) ?_;refine aF 2 ?_;go_upto_region 8 with fail;refine af ?_;refine ajB (ax rfl ajL vU) ?_;refine ajB (aC rfl ajL (vA (HO.out ▸ HT3.out.at0.cells.2.2.2.2))) ?_;refine aF 1 ?_;go_upto_region 10 with fail;refine aH 1 ?_;refine ajB (aE true rfl ajL evk H2) ?_;refine aF 1 ?_;go_upto_region 11 with fail;refine bU 1 ?_;go_wp2_with fail;go_ret;exact ⟨rfl, HT3.out.bel⟩
theorem zz {x : Ros} {a c n : Nat} (hf : aU x = true) (ha : many x 1 = a) (hc : many x 2 = c) (hn : IntKind.i64.wrap ((a : Int) + (c : Int)) = (n : Int)) (hg : decide ((2 : Int) <= (n : Int)) = false) (h1 : ((n : Int) == 1) = true) (ho : x.gone = false) (h2 : ((c : Int) == 1) = false) (h3 : ((a : Int) == 1) = true) (w : World) : Calls prog 133 #[ros x] w fun e w' => e = .returned (.int .i64 2) /\ Below w.heap.size w w' := by
 have HT1 := ae (iN.new w x);have HF := ae hf;have HA := ae ha;have HC := ae hc;have HN := ae hn;have HG := ae hg;have H1 := ae h1;have HO := ae ho;have H2 := ae h2;have H3 := ae h3;clear hf ha hc hn hg h1 ho h2 h3;go_enter func133, ntmps133;go_upto_region 1 with (first | (refine av rfl (aY rfl rfl) ?_) | fail);generalize w.alloc (.cells (aX x).toArray 58) = w1 at *;refine af ?_;refine ajB (aW rfl ajL (HT1.out.at0)) ?_;refine aw rfl (aA call42 rfl (evc ajL evn)) ?_;refine (dI w1 HF).mono ?_;rintro e w2 ⟨rfl, hb⟩;have HT2 := ae (HT1.out.call hb);clear hb HT1;refine aQ ?_;refine aF 1 ?_;go_upto_region 3 with fail;refine aR (B := w2.heap.size) (by kernel_rfl) ?_;refine ajJ (fun _ hw => aW rfl ajL (HT2.out.above hw)) ?_;refine bO rfl (fun _ => aA call116 rfl (evc ajL (evc evk evn))) (bw aj fun w' hw => fh w' HA) ?_;simp only [aa];refine ajJ (fun _ hw => aW rfl ajL (HT2.out.above hw)) ?_;refine bO rfl (fun _ => aA call116 rfl (evc ajL (evc evk evn))) (bw aj fun w' hw => fh w' HC) ?_;simp only [aa];refine cy 2 ?_;refine wpQuiet_nil ?_;intro w3 hw;have HT3 := ae (HT2.out.call hw);clear hw HT2;go_upto_region 4 with fail;refine aH 2 ?_;refine ajB (bL rfl ajL ajL HN) ?_;refine aF 1 ?_;go_upto_region 5 with fail;refine aH 1 ?_;refine ajB (dv false rfl ajL evk HG) ?_;refine aF 1 ?_;go_upto_region 6 with fail;refine aH 1 ?_;refine ajB (aE true rfl ajL evk H1) ?_;refine runs 1 ?_;refine ajI (ax rfl ajL vU) ?_;refine ajI (aC rfl ajL (vA (HO.out ▸ HT3.out.at0.cells.2.2.2.2))) ?_;refine aF 2 ?_;go_upto_region 8 with fail;refine af ?_;refine ajB (ax rfl ajL vU) ?_;refine ajB (aC rfl ajL (vA (HO.out ▸ HT3.out.at0.cells.2.2.2.2))) ?_;refine aF 1 ?_;go_upto_region 10 with fail;refine aH 1 ?_;refine ajB (aE false rfl ajL evk H2) ?_;refine aF 1 ?_;go_upto_region 12 with fail;refine aH 1 ?_;refine ajB (aE true rfl ajL evk H3) ?_;refine aF 1 ?_;go_upto_region 13 with fail;refine bU 1 ?_;go_wp2_with fail;go_ret;exact ⟨rfl, HT3.out.bel⟩
theorem aaf {x : Ros} {a c n : Nat} (hf : aU x = true) (ha : many x 1 = a) (hc : many x 2 = c) (hn : IntKind.i64.wrap ((a : Int) + (c : Int)) = (n : Int)) (hg : decide ((2 : Int) <= (n : Int)) = false) (h1 : ((n : Int) == 1) = false) (ho : x.gone = false) (h2 : ((c : Int) == 1) = false) (h3 : ((a : Int) == 1) = false) (w : World) : Calls prog 133 #[ros x] w fun e w' => e = .returned (.int .i64 1) /\ Below w.heap.size w w' := by
 have HT1 := ae (iN.new w x);have HF := ae hf;have HA := ae ha;have HC := ae hc;have HN := ae hn;have HG := ae hg;have H1 := ae h1;have HO := ae ho;have H2 := ae h2;have H3 := ae h3;clear hf ha hc hn hg h1 ho h2 h3;go_enter func133, ntmps133;go_upto_region 1 with (first | (refine av rfl (aY rfl rfl) ?_) | fail);generalize w.alloc (.cells (aX x).toArray 58) = w1 at *;refine af ?_;refine ajB (aW rfl ajL (HT1.out.at0)) ?_;refine aw rfl (aA call42 rfl (evc ajL evn)) ?_;refine (dI w1 HF).mono ?_;rintro e w2 ⟨rfl, hb⟩;have HT2 := ae (HT1.out.call hb);clear hb HT1;refine aQ ?_;refine aF 1 ?_;go_upto_region 3 with fail;refine aR (B := w2.heap.size) (by kernel_rfl) ?_;refine ajJ (fun _ hw => aW rfl ajL (HT2.out.above hw)) ?_;refine bO rfl (fun _ => aA call116 rfl (evc ajL (evc evk evn))) (bw aj fun w' hw => fh w' HA) ?_;simp only [aa];refine ajJ (fun _ hw => aW rfl ajL (HT2.out.above hw)) ?_;refine bO rfl (fun _ => aA call116 rfl (evc ajL (evc evk evn))) (bw aj fun w' hw => fh w' HC) ?_;simp only [aa];refine cy 2 ?_;refine wpQuiet_nil ?_;intro w3 hw;have HT3 := ae (HT2.out.call hw);clear hw HT2;go_upto_region 4 with fail;refine aH 2 ?_;refine ajB (bL rfl ajL ajL HN) ?_;refine aF 1 ?_;go_upto_region 5 with fail;refine aH 1 ?_;refine ajB (dv false rfl ajL evk HG) ?_;refine aF 1 ?_;go_upto_region 6 with fail;refine aH 1 ?_;refine ajB (aE false rfl ajL evk H1) ?_;refine a6 2 rfl (aL rfl ajL) (by kernel_rfl) ?_;simp only [bH, ac, aa];refine aF 2 ?_;go_upto_region 8 with fail;refine af ?_;refine ajB (ax rfl ajL vU) ?_;refine ajB (aC rfl ajL (vA (HO.out ▸ HT3.out.at0.cells.2.2.2.2))) ?_;refine aF 1 ?_;go_upto_region 10 with fail;refine aH 1 ?_;refine ajB (aE false rfl ajL evk H2) ?_;refine aF 1 ?_;go_upto_region 12 with fail;refine aH 1 ?_;refine ajB (aE false rfl ajL evk H3) ?_;refine aF 1 ?_;go_upto_region 14 with fail;refine bU 1 ?_;go_wp2_with fail;go_ret;exact ⟨rfl, HT3.out.bel⟩
theorem aaW {x : Ros} (hf : aU x = true) : stN x = if 2 <= outs x \/ (outs x = 1 /\ x.gone = true) then 5 else if x.gone = true then 4 else if dz x = 1 then 3 else if outs x = 1 then 2 else 1 := by unfold stN; rw [if_pos hf]
theorem agF (x : Ros) (w : World) : Calls prog 133 #[ros x] w fun e w' => e = .returned (.int .i64 (stN x : Nat)) /\ Below w.heap.size w w' := by
 cases hf : aU x
 ·rw [show stN x = 0 from by unfold stN; rw [hf]; rfl]; exact aa1 hf w
 have hn := abo (ny x 1) (ny x 2) (qR (ef hf).2.1).symm;have ho := qR (ef hf).2.1;have hh := gU x;have hm := ny x 1;have hm2 := ny x 2;rw [aaW hf];by_cases c1 : 2 <= outs x
 ·rw [if_pos (.inl c1)]; exact zr hf rfl rfl hn (ao (by omega)) w
 have hg : decide ((2 : Int) <= (outs x : Int)) = false := am (by omega);cases hgo : x.gone
 ·rw [if_neg (by rintro (h | ⟨_, h⟩); exact c1 h; cases h), if_neg (by decide), hh];by_cases n1 : outs x = 1
  ·have e1 : ((outs x : Int) == 1) = true := by rw [n1]; rfl
   by_cases k1 : many x 2 = 1
   ·rw [if_pos k1]; exact aas hf rfl rfl hn hg e1 hgo (by rw [k1]; rfl) w
   ·rw [if_neg k1, if_pos n1]; exact zz hf rfl rfl hn hg e1 hgo (by simp; omega) (by simp; omega) w
  ·have e1 : ((outs x : Int) == 1) = false := by simp; omega
   rw [if_neg (by omega), if_neg n1]; exact aaf hf rfl rfl hn hg e1 hgo (by simp; omega) (by simp; omega) w
 ·by_cases n1 : outs x = 1
  ·rw [if_pos (.inr ⟨n1, rfl⟩)]; exact yC hf rfl rfl hn hg (by rw [n1]; rfl) hgo w
  ·rw [if_neg (by omega), if_pos rfl]; exact abP hf rfl rfl hn hg (by simp; omega) hgo w
theorem td {x : Ros} {n : Nat} (w : World) (h : stN x = n) : Calls prog 133 #[ros x] w fun e w' => e = .returned (.int .i64 (n : Nat)) /\ Below w.heap.size w w' := by subst h; exact agF x w
section
variable (x : Ros) {j : Nat} (hj : j < 16)
include hj
theorem qS : (aX x).set (3 + j) (.int .u8 1) = aX (gR x j 1) := adm x hj 1
end
theorem yn {y : Ros} {b : Bool} (w : World) (h : aU y = b) : Calls prog 40 #[ros y] w fun e w' => e = .returned (.bool b) /\ Below w.heap.size w w' := by subst h; exact afH y w
theorem aeJ {x : Ros} {m : Int} (hf : aU x = false) (w : World) : Calls prog 135 #[ros x, .int .i64 m] w fun e w' => e = .returned (.tuple #[ros (x), .bool false]) /\ Below w.heap.size w w' := by
 have HT1 := ae (kG.new w x);have HF := ae hf;clear hf;go_enter func135, ntmps135;go_upto_region 1 with (first | (refine av rfl (aY rfl rfl) ?_) | (refine av rfl (cJ rfl) ?_) | fail);generalize (w.alloc (.cells (aX x).toArray 58)).alloc (.cells (aX bF).toArray 58) = w1 at *;refine af ?_;refine ajB (aW rfl ajL (HT1.out.at0)) ?_;refine aw rfl (aA call42 rfl (evc ajL evn)) ?_;refine (dI w1 HF).mono ?_;rintro e w2 ⟨rfl, hb⟩;have HT2 := ae (HT1.out.call hb);clear hb HT1;refine aQ ?_;refine runs 1 ?_;refine a6 4 rfl (aL rfl ajL) (by kernel_rfl) ?_;simp only [bH, ac, aa];refine aF 1 ?_;go_upto_region 2 with fail;refine af ?_;refine ajB (aW rfl ajL (HT2.out.at0)) ?_;refine aG rfl (dJ rfl (ev rfl) (ev rfl) HT2.out.at1) ?_;simp only [aa];have HT3 := ae (HT2.out.put (x));generalize iQ w2 (w.heap.size + 1) (x) = w3 at HT3 ⊢;clear HT2;refine aF 1 ?_;go_wp2_with fail;exact bodyPost_ret (kU rfl _ _ _ rfl HT3.out.at1) rfl ⟨rfl, HT3.out.bel⟩
theorem adI {x : Ros} {m : Int} (hf : aU x = true) (hq : eI x m = false) (w : World) : Calls prog 135 #[ros x, .int .i64 m] w fun e w' => e = .returned (.tuple #[ros (x), .bool false]) /\ Below w.heap.size w w' := by
 have HT1 := ae (kG.new w x);have HF := ae hf;have HQ := ae hq;clear hf hq;go_enter func135, ntmps135;go_upto_region 1 with (first | (refine av rfl (aY rfl rfl) ?_) | (refine av rfl (cJ rfl) ?_) | fail);generalize (w.alloc (.cells (aX x).toArray 58)).alloc (.cells (aX bF).toArray 58) = w1 at *;refine af ?_;refine ajB (aW rfl ajL (HT1.out.at0)) ?_;refine aw rfl (aA call42 rfl (evc ajL evn)) ?_;refine (dI w1 HF).mono ?_;rintro e w2 ⟨rfl, hb⟩;have HT2 := ae (HT1.out.call hb);clear hb HT1;refine aQ ?_;refine runs 2 ?_;refine ajI (aW rfl ajL (HT2.out.at0)) ?_;refine runs 1 ?_;refine aw ajw (aA call115 rfl (evc ajL (evc ajL evn))) ?_;refine (er w2 HQ).mono ?_;rintro e w3 ⟨rfl, hb⟩;have HT3 := ae (HT2.out.call hb);clear hb HT2;refine aQ ?_;refine aF 2 ?_;go_upto_region 2 with fail;refine af ?_;refine ajB (aW rfl ajL (HT3.out.at0)) ?_;refine aG rfl (dJ rfl (ev rfl) (ev rfl) HT3.out.at1) ?_;simp only [aa];have HT4 := ae (HT3.out.put (x));generalize iQ w3 (w.heap.size + 1) (x) = w4 at HT4 ⊢;clear HT3;refine aF 1 ?_;go_wp2_with fail;exact bodyPost_ret (kU rfl _ _ _ rfl HT4.out.at1) rfl ⟨rfl, HT4.out.bel⟩
theorem aer {x : Ros} {j : Nat} (hj : j < 16) (hf : aU x = true) (hq : eI x (j : Int) = true) (h1 : (sta x j == 1) = true) (w : World) : Calls prog 135 #[ros x, .int .i64 (j : Int)] w fun e w' => e = .returned (.tuple #[ros (x), .bool false]) /\ Below w.heap.size w w' := by
 have HT1 := ae (kG.new w x);have HF := ae hf;have HQ := ae hq;have H1 := ae h1;clear hf hq h1;go_enter func135, ntmps135;go_upto_region 1 with (first | (refine av rfl (aY rfl rfl) ?_) | (refine av rfl (cJ rfl) ?_) | fail);generalize (w.alloc (.cells (aX x).toArray 58)).alloc (.cells (aX bF).toArray 58) = w1 at *;refine af ?_;refine ajB (aW rfl ajL (HT1.out.at0)) ?_;refine aw rfl (aA call42 rfl (evc ajL evn)) ?_;refine (dI w1 HF).mono ?_;rintro e w2 ⟨rfl, hb⟩;have HT2 := ae (HT1.out.call hb);clear hb HT1;refine aQ ?_;refine runs 2 ?_;refine ajI (aW rfl ajL (HT2.out.at0)) ?_;refine runs 1 ?_;refine aw ajw (aA call115 rfl (evc ajL (evc ajL evn))) ?_;refine (er w2 HQ).mono ?_;rintro e w3 ⟨rfl, hb⟩;have HT3 := ae (HT2.out.call hb);clear hb HT2;refine aQ ?_;refine aF 2 ?_;go_upto_region 3 with fail;refine aH 1 ?_;refine ajB (ax rfl ajL nj) ?_;refine ajB (cO rfl ajL ajL (pX hj)) ?_;refine ajB (aC rfl ajL (qg ((HT3.out.at0).sta hj))) ?_;refine ah ?_;go_upto_region 4 with fail;refine af ?_;refine ajB (aE true rfl ajL evk H1) ?_;refine aF 1 ?_;go_upto_region 5 with fail;refine af ?_;refine ajB (aW rfl ajL (HT3.out.at0)) ?_;refine aG rfl (dJ rfl (ev rfl) (ev rfl) HT3.out.at1) ?_;simp only [aa];have HT4 := ae (HT3.out.put (x));generalize iQ w3 (w.heap.size + 1) (x) = w4 at HT4 ⊢;clear HT3;refine aF 1 ?_;go_wp2_with fail;exact bodyPost_ret (kU rfl _ _ _ rfl HT4.out.at1) rfl ⟨rfl, HT4.out.bel⟩
theorem afr {x : Ros} {j : Nat} (hj : j < 16) (hf : aU x = true) (hq : eI x (j : Int) = true) (h1 : (sta x j == 1) = false) (h2 : (sta x j == 2) = true) (w : World) : Calls prog 135 #[ros x, .int .i64 (j : Int)] w fun e w' => e = .returned (.tuple #[ros (gR (mC x 0) j 1), .bool true]) /\ Below w.heap.size w w' := by
 have HT1 := ae (kG.new w x);have HF := ae hf;have HQ := ae hq;have H1 := ae h1;have H2 := ae h2;clear hf hq h1 h2;go_enter func135, ntmps135;go_upto_region 1 with (first | (refine av rfl (aY rfl rfl) ?_) | (refine av rfl (cJ rfl) ?_) | fail);generalize (w.alloc (.cells (aX x).toArray 58)).alloc (.cells (aX bF).toArray 58) = w1 at *;refine af ?_;refine ajB (aW rfl ajL (HT1.out.at0)) ?_;refine aw rfl (aA call42 rfl (evc ajL evn)) ?_;refine (dI w1 HF).mono ?_;rintro e w2 ⟨rfl, hb⟩;have HT2 := ae (HT1.out.call hb);clear hb HT1;refine aQ ?_;refine runs 2 ?_;refine ajI (aW rfl ajL (HT2.out.at0)) ?_;refine runs 1 ?_;refine aw ajw (aA call115 rfl (evc ajL (evc ajL evn))) ?_;refine (er w2 HQ).mono ?_;rintro e w3 ⟨rfl, hb⟩;have HT3 := ae (HT2.out.call hb);clear hb HT2;refine aQ ?_;refine aF 2 ?_;go_upto_region 3 with fail;refine aH 1 ?_;refine ajB (ax rfl ajL nj) ?_;refine ajB (cO rfl ajL ajL (pX hj)) ?_;refine ajB (aC rfl ajL (qg ((HT3.out.at0).sta hj))) ?_;refine ah ?_;go_upto_region 4 with fail;refine af ?_;refine ajB (aE false rfl ajL evk H1) ?_;refine aF 1 ?_;go_upto_region 6 with fail;refine af ?_;refine ajB (aE true rfl ajL evk H2) ?_;refine aF 1 ?_;go_upto_region 7 with fail;refine af ?_;refine ajB (ax rfl ajL z8) ?_;refine aG rfl (abz rfl (ev rfl) evk (HT3.out.at0.there (by omega))) ?_;simp only [aa];have HT4 := ae (HT3.out.set (acj _ (0)));generalize setW w3 w.heap.size (19) (.int .i64 (0)) = w4 at HT4 ⊢;clear HT3;refine ah ?_;go_upto_region 8 with fail;refine aH 1 ?_;refine ajB (ax rfl ajL nj) ?_;refine ajB (cO rfl ajL ajL (pX hj)) ?_;refine aG rfl (tP rfl (ev rfl) evk (HT4.out.at0.there (by omega))) ?_;simp only [aa];have HT5 := ae (HT4.out.set (qS _ hj));generalize setW w4 w.heap.size (3 + j) (.int .u8 1) = w5 at HT5 ⊢;clear HT4;refine ah ?_;go_upto_region 9 with fail;refine af ?_;refine ajB (aW rfl ajL (HT5.out.at0)) ?_;refine aG rfl (dJ rfl (ev rfl) (ev rfl) HT5.out.at1) ?_;simp only [aa];have HT6 := ae (HT5.out.put (gR (mC x 0) j 1));generalize iQ w5 (w.heap.size + 1) (gR (mC x 0) j 1) = w6 at HT6 ⊢;clear HT5;refine aF 1 ?_;go_wp2_with fail;exact bodyPost_ret (kU rfl _ _ _ rfl HT6.out.at1) rfl ⟨rfl, HT6.out.bel⟩
theorem ad6 {x : Ros} {j : Nat} (hj : j < 16) (hf : aU x = true) (hq : eI x (j : Int) = true) (h1 : (sta x j == 1) = false) (h2 : (sta x j == 2) = false) (w : World) : Calls prog 135 #[ros x, .int .i64 (j : Int)] w fun e w' => e = .returned (.tuple #[ros (gR x j 1), .bool true]) /\ Below w.heap.size w w' := by
 have HT1 := ae (kG.new w x);have HF := ae hf;have HQ := ae hq;have H1 := ae h1;have H2 := ae h2;clear hf hq h1 h2;go_enter func135, ntmps135;go_upto_region 1 with (first | (refine av rfl (aY rfl rfl) ?_) | (refine av rfl (cJ rfl) ?_) | fail);generalize (w.alloc (.cells (aX x).toArray 58)).alloc (.cells (aX bF).toArray 58) = w1 at *;refine af ?_;refine ajB (aW rfl ajL (HT1.out.at0)) ?_;refine aw rfl (aA call42 rfl (evc ajL evn)) ?_;refine (dI w1 HF).mono ?_;rintro e w2 ⟨rfl, hb⟩;have HT2 := ae (HT1.out.call hb);clear hb HT1;refine aQ ?_;refine runs 2 ?_;refine ajI (aW rfl ajL (HT2.out.at0)) ?_;refine runs 1 ?_;refine aw ajw (aA call115 rfl (evc ajL (evc ajL evn))) ?_;refine (er w2 HQ).mono ?_;rintro e w3 ⟨rfl, hb⟩;have HT3 := ae (HT2.out.call hb);clear hb HT2;refine aQ ?_;refine aF 2 ?_;go_upto_region 3 with fail;refine aH 1 ?_;refine ajB (ax rfl ajL nj) ?_;refine ajB (cO rfl ajL ajL (pX hj)) ?_;refine ajB (aC rfl ajL (qg ((HT3.out.at0).sta hj))) ?_;refine ah ?_;go_upto_region 4 with fail;refine af ?_;refine ajB (aE false rfl ajL evk H1) ?_;refine aF 1 ?_;go_upto_region 6 with fail;refine af ?_;refine ajB (aE false rfl ajL evk H2) ?_;refine aF 1 ?_;go_upto_region 8 with fail;refine aH 1 ?_;refine ajB (ax rfl ajL nj) ?_;refine ajB (cO rfl ajL ajL (pX hj)) ?_;refine aG rfl (tP rfl (ev rfl) evk (HT3.out.at0.there (by omega))) ?_;simp only [aa];have HT4 := ae (HT3.out.set (qS _ hj));generalize setW w3 w.heap.size (3 + j) (.int .u8 1) = w4 at HT4 ⊢;clear HT3;refine ah ?_;go_upto_region 9 with fail;refine af ?_;refine ajB (aW rfl ajL (HT4.out.at0)) ?_;refine aG rfl (dJ rfl (ev rfl) (ev rfl) HT4.out.at1) ?_;simp only [aa];have HT5 := ae (HT4.out.put (gR x j 1));generalize iQ w4 (w.heap.size + 1) (gR x j 1) = w5 at HT5 ⊢;clear HT4;refine aF 1 ?_;go_wp2_with fail;exact bodyPost_ret (kU rfl _ _ _ rfl HT5.out.at1) rfl ⟨rfl, HT5.out.bel⟩
theorem aih (x : Ros) (m : Int) (w : World) : Calls prog 135 #[ros x, .int .i64 m] w fun e w' => e = .returned (.tuple #[ros (dG x m), .bool (lK x m)]) /\ Below w.heap.size w w' := by
 unfold dG;cases hf : aU x
 ·rw [show lK x m = false from by unfold lK; rw [hf]; rfl]; exact aeJ hf w
 cases hq : eI x m
 ·rw [show lK x m = false from by unfold lK; rw [hf, hq]; rfl]; exact adI hf hq w
 have hm := nC hq;have hg := ed (ef hf).1;obtain ⟨j, rfl⟩ := Int.eq_ofNat_of_zero_le hm.1;have hj : j < 16 := by omega
 have e : lK x (j : Int) = decide (sta x j ≠ 1) := by unfold lK; rw [hf, hq]; rfl
 rw [e];by_cases h1 : sta x j = 1
 ·rw [am (by simpa using h1)]; exact aer hj hf hq (by simpa using h1) w
 rw [ao (by simpa using h1), if_pos rfl]
 show Calls _ _ _ _ fun e w' => e = .returned (.tuple #[ros (if sta x j = 2 then gR (mC x 0) j 1 else gR x j 1), .bool true]) /\ Below w.heap.size w w'
 by_cases h2 : sta x j = 2
 ·rw [if_pos h2]; exact afr hj hf hq (by simpa using h1) (by simpa using h2) w
 ·rw [if_neg h2]; exact ad6 hj hf hq (by simpa using h1) (by simpa using h2) w
theorem ajn (w : World) (y : Ros) : (w.alloc (.cells (dR y).toArray 51)).heap[w.heap.size]? = some (.cells (dR y).toArray 51 (0, 0)) := heap_alloc_new w _
structure mE (w0 w : World) (y z : Ros) : Prop where
 bel : Below w0.heap.size w0 w
 at0 : w.rangeAt w0.heap.size 0 (dR y)
 lt0 : w0.heap.size < w.heap.size
 at1 : bD w (w0.heap.size + 1) z
theorem mE.new (w : World) (y : Ros) : mE w ((w.alloc (.cells (dR y).toArray 51)).alloc (.cells (aX bF).toArray 58)) y bF := by
 refine ⟨((Below.refl _ w).alloc aj _).alloc (by simp) _, aP (t := 51) (br (ajn w y) _), by simp only [World.size_alloc]; omega, ?_⟩;have := bD.new (w.alloc (.cells (dR y).toArray 51)) bF;rwa [World.size_alloc] at this
section
variable {w0 w w' : World} {y z : Ros}
theorem mE.call (h : mE w0 w y z) (hb : Below w.heap.size w w') : mE w0 w' y z :=
 ⟨h.bel.trans (hb.mono h.bel.size), gp h.at0 h.lt0 hb, ar h.lt0 hb.size, h.at1.below (aT h.at1) hb⟩
theorem mE.put (h : mE w0 w y z) (z' : Ros) : mE w0 (iQ w (w0.heap.size + 1) z') y z' :=
 ⟨gO h.bel (by omega), (fun j v hj => by
  have := World.rangeAt_setCells_apart h.at0 (w0.heap.size + 1) 0 (aX z') (.inl (by omega));exact this j v hj), by rw [qN]; exact h.lt0, jC h.at1⟩
end
section
variable {ρ : Operand -> Value} {o : Oper} {x : Operand} {w : World}
theorem me {y : Ros} (ho : o.op = .box 51 x) (hx : ρ x = geo y) : (execOp ρ o).run prog w = .ok (.value (.pointer (some ⟨w.heap.size, 0, none⟩))) (w.alloc (.cells (dR y).toArray 51)) := cw ho hx
theorem aaH (y : Ros) (w : World) : (Instr.build 58 #[(0, geo y)]).run prog w = .ok (ros (gz y)) w := by
 obtain ⟨m, s, r, st, cur, gone⟩ := y
 kernel_rfl
theorem qD {y : Ros} (ho : o.op = .build 58 #[(0, x)]) (hx : ρ x = geo y) : (execOp ρ o).run prog w = .ok (.value (ros (gz y))) w := by
 unfold execOp;simp only [ho, hx, List.map_toArray, List.map_cons, List.map_nil, Sem.run_bind, aaH, Result.andThen_ok, Sem.run_pure]
end
theorem mE.third {w0 w : World} {y z : Ros} (h : mE w0 w y z) {b : Nat} (x : Ros) (hb : w0.heap.size + 1 < b) : mE w0 (iQ w b x) y z :=
 ⟨gO h.bel (by omega), fun j v hj => World.rangeAt_setCells_apart h.at0 b 0 (aX x) (.inl (by omega)) j v hj, by rw [qN]; exact h.lt0, (uI (by omega)).trans h.at1⟩
theorem ahd {y : Ros} (hg : aU (gz y) = false) (w : World) : Calls prog 16 #[geo y] w fun e w' => e = .returned (.tuple #[ros (bF), .int .i64 2]) /\ Below w.heap.size w w' := by
 have HT1 := ae (mE.new w y);have HG := ae hg;clear hg;go_enter func16, ntmps16;go_upto_region 1 with (first | (refine av rfl (me rfl rfl) ?_) | (refine av rfl (cJ rfl) ?_) | fail);generalize (w.alloc (.cells (dR y).toArray 51)).alloc (.cells (aX bF).toArray 58) = w1 at *;refine af ?_;refine ajB (dd (c := y) rfl ajL HT1.out.at0) ?_;refine ajB (qD (y := y) rfl ajL) ?_;refine ajB (cJ rfl) ?_;have HA := ae (bD.new w1 bF);have HT2 := ae (HT1.out.call (w' := w1.alloc (.cells (aX bF).toArray 58)) (ak.alloc aj _));have HB3 : Hid (w.heap.size + 1 < w1.heap.size) := ae (aT HT1.out.at1);clear HT1;generalize w1.alloc (.cells (aX bF).toArray 58) = w2 at *;generalize w1.heap.size = ba at *;refine aG rfl (dJ rfl (ev rfl) (ev rfl) HA.out) ?_;simp only [aa];have HA2 := ae (jC (x := gz y) HA);have HT3 := ae (HT2.out.third (gz y) HB3);clear HT2 HA;have HA := HA2;clear HA2;generalize iQ w2 ba (gz y) = w3 at *;refine ah ?_;go_upto_region 2 with fail;refine af ?_;refine ajB (aW rfl ajL HA) ?_;refine aw rfl (aA call40 rfl (evc ajL evn)) ?_;refine (yn w3 HG).mono ?_;rintro e w4 ⟨rfl, hb⟩;have HT4 := ae (HT3.out.call hb);have HA2 := ae (HA.out.below (aT HA) hb);clear hb HT3 HA;have HA := HA2;clear HA2;refine aQ ?_;refine aF 1 ?_;go_upto_region 3 with fail;refine af ?_;refine ajB (pe rfl) ?_;refine aG rfl (dJ rfl (ev rfl) (ev rfl) HT4.out.at1) ?_;simp only [aa];have HT5 := ae (HT4.out.put (bF));generalize iQ w4 (w.heap.size + 1) (bF) = w5 at HT5 ⊢;clear HT4;refine aF 1 ?_;go_wp2_with fail;exact bodyPost_ret (kU rfl _ _ _ rfl HT5.out.at1) rfl ⟨rfl, HT5.out.bel⟩
theorem ahn {y : Ros} (hg : aU (gz y) = true) (w : World) : Calls prog 16 #[geo y] w fun e w' => e = .returned (.tuple #[ros (gz y), .int .i64 0]) /\ Below w.heap.size w w' := by
 have HT1 := ae (mE.new w y);have HG := ae hg;clear hg;go_enter func16, ntmps16;go_upto_region 1 with (first | (refine av rfl (me rfl rfl) ?_) | (refine av rfl (cJ rfl) ?_) | fail);generalize (w.alloc (.cells (dR y).toArray 51)).alloc (.cells (aX bF).toArray 58) = w1 at *;refine af ?_;refine ajB (dd (c := y) rfl ajL HT1.out.at0) ?_;refine ajB (qD (y := y) rfl ajL) ?_;refine ajB (cJ rfl) ?_;have HA := ae (bD.new w1 bF);have HT2 := ae (HT1.out.call (w' := w1.alloc (.cells (aX bF).toArray 58)) (ak.alloc aj _));have HB3 : Hid (w.heap.size + 1 < w1.heap.size) := ae (aT HT1.out.at1);clear HT1;generalize w1.alloc (.cells (aX bF).toArray 58) = w2 at *;generalize w1.heap.size = ba at *;refine aG rfl (dJ rfl (ev rfl) (ev rfl) HA.out) ?_;simp only [aa];have HA2 := ae (jC (x := gz y) HA);have HT3 := ae (HT2.out.third (gz y) HB3);clear HT2 HA;have HA := HA2;clear HA2;generalize iQ w2 ba (gz y) = w3 at *;refine ah ?_;go_upto_region 2 with fail;refine af ?_;refine ajB (aW rfl ajL HA) ?_;refine aw rfl (aA call40 rfl (evc ajL evn)) ?_;refine (yn w3 HG).mono ?_;rintro e w4 ⟨rfl, hb⟩;have HT4 := ae (HT3.out.call hb);have HA2 := ae (HA.out.below (aT HA) hb);clear hb HT3 HA;have HA := HA2;clear HA2;refine aQ ?_;refine aF 1 ?_;go_upto_region 4 with fail;refine af ?_;refine ajB (aW rfl ajL HA) ?_;refine aG rfl (dJ rfl (ev rfl) (ev rfl) HT4.out.at1) ?_;simp only [aa];have HT5 := ae (HT4.out.put (gz y));generalize iQ w4 (w.heap.size + 1) (gz y) = w5 at HT5 ⊢;clear HT4;refine aF 1 ?_;go_wp2_with fail;exact bodyPost_ret (kU rfl _ _ _ rfl HT5.out.at1) rfl ⟨rfl, HT5.out.bel⟩
theorem ajp (y : Ros) (w : World) : Calls prog 16 #[geo y] w fun e w' => e = .returned (.tuple #[ros (acS y), .int .i64 (tw y : Nat)]) /\ Below w.heap.size w w' := by
 unfold acS tw;have h := xq y;cases hg : dA y
 ·exact ahd (h.trans hg) w
 ·exact ahn (h.trans hg) w
structure Cel where
 b : Nat
 t : TypeId
 cs : List Value
section
variable {ρ : Operand -> Value} {o : Oper} {x y : Operand} {w : World} {b : Nat} {c d : Ros} {t r : TypeId}
theorem aaC {fn : Func} {p : Tmp} (h : fn.results = #[.cell p 58]) (tmps : Array Value) (w : World) (b : Nat) (hp : tmps.getD p undef = .pointer (some ⟨b, 0, none⟩)) (hc : bD w b c) :
  (results fn tmps).run prog w = .ok (ros c) w := nD h tmps w b hp hc.range underlying58 rfl (by rw [bq]; exact sQ)
end
section
variable {x y : Ros} {g b : Bool} {m : Int} {e : Nat} (w : World)
theorem ag8 (h : acS x = y) (he : tw x = e) : Calls prog 16 #[geo x] w fun r w' => r = .returned (.tuple #[ros y, .int .i64 (e : Nat)]) /\ Below w.heap.size w w' := by subst h he; exact ajp x w
theorem xz (h : dG x m = y) (hb : lK x m = b) : Calls prog 135 #[ros x, .int .i64 m] w fun r w' => r = .returned (.tuple #[ros y, .bool b]) /\ Below w.heap.size w w' := by subst h hb; exact aih x m w
theorem acb {s : Int} (h : hasB x m s = b) : Calls prog 111 #[ros x, .int .i64 m, .int .i64 s] w fun r w' => r = .returned (.bool b) /\ Below w.heap.size w w' := by subst h; exact ai5 x m s w
end
theorem af0 {N : Nat} {s : Int} (hN : N <= 16) (hs : 1 <= s /\ s <= 64) : i8 (szK N s) := by
 refine ⟨by rw [nq]; omega, by rw [nq]; omega, fun k hk => ?_⟩;unfold szK at hk;rcases List.mem_append.1 hk with h | h
 ·have := (List.mem_replicate.1 h).2; omega
 ·simp at h; omega
theorem aek {N : Nat} {s : Int} (h1 : 3 <= N) (h2 : N <= 16) (h3 : 1 <= s /\ s <= 64) {ev : Nat} (hev : ev <= 2305843009213693952) : f9 (fe (szK N s)) 9 ev (neR N s) = true := by
 have hsec : ∀ k, k <= N -> lE (fe (szK N s)) (neR N s) k = true := fun k hk => by
  induction k with
  |zero => rfl
  |succ k ih =>
   refine mf (ih (by omega)) ?_;have e : ia (fe (szK N s)) (k : Int) = ((2 + s).toNat : Int) := by
    unfold ia;rw [if_pos (ns (by rw [lB]; omega))]
    show (((fe (szK N s)).ds.getD k bI).S.length : Int) = _
    rw [lr (by omega)]
    show ((List.replicate (2 + s).toNat aI).length : Int) = _
    rw [List.length_replicate]
   rw [e]
   show ¬ (((2 + s).toNat : Nat) : Int) < 2 + s
   omega
 unfold f9;rw [jO h1 h2 h3.1 h3.2, lB, show (neR N s).m.toNat = N from ac2 N s, hsec N aj, am (show ¬ (9 : Nat) = 0 by decide), am (show ¬ 2305843009213693952 < ev by omega), ao (show ((N + 1 : Nat) : Int) = (neR N s).m + 1 from rfl)]
 rfl
theorem age {N : Nat} {s : Int} (h1 : 3 <= N) (h2 : N <= 16) (h3 : 1 <= s /\ s <= 64) : acS (neR N s) = neR N s /\ tw (neR N s) = 0 := by
 have hg : dA (neR N s) = true := ao ⟨by show 3 <= (N : Int); omega, by show (N : Int) <= 16; omega, h3.1, h3.2, by show (40 : Int) <= 40; omega, by show (40 : Int) <= 256; omega⟩
 constructor
 ·unfold acS; rw [hg]; rfl
 ·unfold tw; rw [hg]; rfl
end Go.Proofs.YtlmdklakcmnaiaaGreatDoor
