import Derived.Test.YtlmdklakcmnaiaaGreatDoorBhaf
import Derived.LaidEqlPtr
import Derived.Laws.MakeOwn
namespace Go.Proofs.YtlmdklakcmnaiaaGreatDoor
set_option maxHeartbeats 8000000
open Go.Proofs.Tryz
open Go.RowKit
set_option linter.unusedVariables false
structure Ky where
 n : Int
 pin : Bool
def ky0 : Ky := ⟨0, false⟩
def plc (k : Int) : List Ky -> Nat
 |[] => 0
 |x :: r => if x.n = k then 0 else plc k r + 1
theorem o8 {k : Int} {L : List Ky} (h : plc k L < L.length) : (L.getD (plc k L) ky0).n = k := by
 induction L with
 |nil => simp at h
 |cons x r ih =>
  unfold plc at h ⊢
  split
  ·rename_i e; simpa using e
  ·rename_i e
   rw [if_neg e] at h
   simpa using ih (by simpa using h)
theorem ah5 {k : Int} {L : List Ky} {j : Nat} (h : j < plc k L) : (L.getD j ky0).n ≠ k := by
 induction L generalizing j with
 |nil => simp [plc] at h
 |cons x r ih =>
  unfold plc at h
  split at h
  ·omega
  ·rename_i e
   cases j with
   |zero => simpa using e
   |succ j => simpa using ih (by omega)
def wo {α : Type} (L : List α) (i : Nat) : List α := L.take i ++ L.drop (i + 1)
theorem oq {α : Type} {L : List α} {i : Nat} (h : i < L.length) : (wo L i).length + 1 = L.length := by
 unfold wo; simp; omega
theorem pG {α β : Type} (f : α -> β) (L : List α) (i : Nat) : (wo L i).map f = wo (L.map f) i := by unfold wo; simp [List.map_take, List.map_drop]
theorem jJ {α : Type} (L : List α) (i : Nat) : (wo L i).Sublist L := by
 unfold wo
 conv => rhs; rw [<- List.take_append_drop i L]
 exact (List.Sublist.refl _).append ((List.drop_sublist_drop_left L (Nat.le_succ i)))
theorem nZ {α : Type} (L : List α) (d : α) {i : Nat} (h : i < L.length) : L = L.take i ++ L.getD i d :: L.drop (i + 1) := by
 conv => lhs; rw [<- List.take_append_drop i L]
 rw [List.drop_eq_getElem_cons h];simp [List.getD, h]
theorem getD_map {α β : Type} (f : α -> β) (L : List α) (d : α) (e : β) {i : Nat} (h : i < L.length) : (L.map f).getD i e = f (L.getD i d) := by simp [List.getD, h]
def lu : List Ky -> Nat
 |[] => 0
 |x :: r => if 0 < lu r then lu r + 1 else if x.pin = true then 0 else 1
theorem acX (L : List Ky) : lu L <= L.length := by
 induction L with
 |nil => exact aj
 |cons x r ih => unfold lu; split <;> (try split) <;> simp <;> omega
theorem ahP {L : List Ky} {j : Nat} (h : lu L <= j) (hj : j < L.length) : (L.getD j ky0).pin = true := by
 induction L generalizing j with
 |nil => simp at hj
 |cons x r ih =>
  unfold lu at h
  split at h
  ·cases j with
   |zero => omega
   |succ j => simpa using ih (by omega) (by simpa using hj)
  ·split at h
   ·rename_i h0 hx
    cases j with
    |zero => simpa using hx
    |succ j => simpa using ih (by omega) (by simpa using hj)
   ·cases j with
    |zero => omega
    |succ j => simpa using ih (by omega) (by simpa using hj)
theorem agj {L : List Ky} (h : 0 < lu L) : (L.getD (lu L - 1) ky0).pin = false := by
 induction L with
 |nil => simp [lu] at h
 |cons x r ih =>
  unfold lu at h ⊢
  split
  ·rename_i h0
   have := ih h0;rw [show lu r + 1 - 1 = (lu r - 1) + 1 from by omega]
   simpa using this
  ·rename_i h0
   rw [if_neg h0] at h
   split
   ·rename_i hx; rw [if_pos hx] at h; omega
   ·rename_i hx; simpa using hx
theorem ai5 {L : List Ky} {i : Nat} (hi : i < L.length) (h : (L.getD i ky0).pin = false) (hn : ∀ j, i < j -> j < L.length -> (L.getD j ky0).pin = true) : lu L = i + 1 := by
 have h1 := acX L;rcases Nat.lt_trichotomy (lu L) (i + 1) with h2 | h2 | h2
 ·have := ahP (L := L) (j := i) (by omega) hi;rw [h] at this; cases this
 ·exact h2
 ·have := agj (L := L) (by omega);rw [hn (lu L - 1) (by omega) (by omega)] at this; cases this
theorem ae1 {L : List Ky} (hn : ∀ j, j < L.length -> (L.getD j ky0).pin = true) : lu L = 0 := by
 have h1 := acX L;rcases Nat.eq_zero_or_pos (lu L) with h2 | h2
 ·exact h2
 ·have := agj h2;rw [hn (lu L - 1) (by omega)] at this; cases this
def vk (room : Nat) (k : Int) (L : List Ky) : List Ky := if plc k L < L.length then L.getD (plc k L) ky0 :: wo L (plc k L) else if L.length < room then ⟨k, false⟩ :: L else if lu L = 0 then L else ⟨k, false⟩ :: wo L (lu L - 1)
def t6 (room : Nat) (k : Int) (L : List Ky) : Int := if plc k L < L.length then 0 else if L.length < room then 0 else if lu L = 0 then 0 else (L.getD (lu L - 1) ky0).n
def wQ (room : Nat) (k : Int) (L : List Ky) : Bool := if plc k L < L.length then false else if L.length < room then false else if lu L = 0 then false else true
def vG (room : Nat) (k : Int) (L : List Ky) : Int := if plc k L < L.length then 0 else if L.length < room then 0 else if lu L = 0 then 10 else 0
def mW (k : Int) (is : Bool) (L : List Ky) : List Ky := if plc k L < L.length then L.set (plc k L) ⟨k, is⟩ else L
def xh (k : Int) (L : List Ky) : Int := if plc k L < L.length then 0 else 7
def qt (k : Int) (L : List Ky) : Bool := decide (plc k L < L.length) && (L.getD (plc k L) ky0).pin
def fw (L : List Ky) : List Int := L.map Ky.n
structure LOk (room : Nat) (L : List Ky) : Prop where
 one : (fw L).Nodup
 len : L.length <= room
 wf : ∀ x ∈ L, (Lit.int .i64 x.n).wf = true
theorem cI {α : Type} {L : List α} {d : α} {i : Nat} (h : i < L.length) : L.getD i d ∈ L := by simp [List.getD, h]
theorem lG {k : Int} {L : List Ky} : plc k L < L.length ↔ k ∈ fw L := by
 constructor
 ·intro h;unfold fw;exact List.mem_map.2 ⟨_, cI h, o8 h⟩
 ·intro h;unfold fw at h;obtain ⟨x, hx, e⟩ := List.mem_map.1 h;rcases Nat.lt_or_ge (plc k L) L.length with h2 | h2
  ·exact h2
  ·obtain ⟨j, hj, e2⟩ := List.getElem_of_mem hx;exact absurd (by simp [List.getD, hj, e2, e]) (ah5 (k := k) (L := L) (j := j) (by omega))
section
variable {room : Nat} {k : Int} {L : List Ky} {is : Bool}
theorem LOk.nil : LOk room [] := ⟨by simp [fw], by simp, by simp⟩
theorem LOk.wo (h : LOk room L) (i : Nat) : LOk room (wo L i) :=
 ⟨h.one.sublist ((jJ L i).map _), aq (jJ L i).length_le h.len, fun x hx => h.wf x ((jJ L i).subset hx)⟩
theorem LOk.lt (h : LOk room L) {i : Nat} (hi : i < L.length) : (Proofs.YtlmdklakcmnaiaaGreatDoor.wo L i).length < room := by have := oq hi; have := h.len; omega
theorem ahy {L : List Ky} (h : (fw L).Nodup) {i : Nat} (hi : i < L.length) : (L.getD i ky0).n ∉ fw (wo L i) := by
 have e := nZ L ky0 hi;unfold fw wo at *;rw [e, List.map_append, List.map_cons] at h;rw [List.map_append];have := List.nodup_append.1 h;intro hm;rcases List.mem_append.1 hm with hm | hm
 ·exact this.2.2 _ hm _ (by simp) rfl
 ·exact (List.nodup_cons.1 this.2.1).1 hm
theorem LOk.cons (h : LOk room L) {x : Ky} (hn : x.n ∉ fw L) (hl : L.length < room) (hw : (Lit.int .i64 x.n).wf = true) : LOk room (x :: L) :=
 ⟨by unfold fw at *; rw [List.map_cons]; exact List.nodup_cons.2 ⟨hn, h.one⟩, by simp; omega, fun y hy => by
  rcases List.mem_cons.1 hy with rfl | hy
  ·exact hw
  ·exact h.wf y hy⟩
theorem abj {i : Nat} {x : Ky} (hx : x.n = (L.getD i ky0).n) : fw (L.set i x) = fw L := by
 unfold fw;rw [List.map_set];rcases Nat.lt_or_ge i L.length with hi | hi
 ·apply List.ext_getElem (by simp);intro j h1 h2;rw [List.getElem_set]
  split
  ·rename_i e; subst e; simp [hx, List.getD, hi]
  ·rfl
 ·rw [List.set_eq_of_length_le (by simpa using hi)]
theorem uo : fw (mW k is L) = fw L := by
 unfold mW
 split
 ·rename_i h; exact abj (o8 h).symm
 ·rfl
theorem LOk.pin (h : LOk room L) : LOk room (mW k is L) := by
 refine ⟨by rw [uo]; exact h.one, by unfold mW; split <;> simp [h.len], fun x hx => ?_⟩;have : x.n ∈ fw (mW k is L) := List.mem_map.2 ⟨x, hx, rfl⟩;rw [uo] at this;obtain ⟨y, hy, e⟩ := List.mem_map.1 this;rw [<- e]; exact h.wf y hy
end
def dh {α : Type} (f : Nat -> α) (i : Nat) (x : α) : Nat -> α := fun j => if j = i then x else f j
theorem c7 {α : Type} (f : Nat -> α) (i : Nat) (x : α) : dh f i x i = x := if_pos rfl
theorem cg {α : Type} (f : Nat -> α) {i j : Nat} (x : α) (h : j ≠ i) : dh f i x j = f j := if_neg h
def Seg (pv nx : Nat -> Nat) : Nat -> List Nat -> Nat -> Prop
 |a, [], b => nx a = b /\ pv b = a
 |a, x :: r, b => nx a = x /\ pv x = a /\ Seg pv nx x r b
section
variable {pv nx pv' nx' : Nat -> Nat} {a b c n : Nat} {l r : List Nat}
theorem seg_append : Seg pv nx a (l ++ c :: r) b ↔ Seg pv nx a l c /\ Seg pv nx c r b := by
 induction l generalizing a with
 |nil => simp [Seg, and_assoc]
 |cons x l ih => simp [Seg, ih, and_assoc]
theorem tY (h : Seg pv nx a l b) (hn : ∀ x, x = a \/ x ∈ l -> nx' x = nx x) (hp : ∀ x, x ∈ l \/ x = b -> pv' x = pv x) : Seg pv' nx' a l b := by
 induction l generalizing a with
 |nil => exact ⟨(hn a (.inl rfl)).trans h.1, (hp b (.inr rfl)).trans h.2⟩
 |cons x l ih =>
  refine ⟨(hn a (.inl rfl)).trans h.1, (hp x (.inl (by simp))).trans h.2.1, ih h.2.2 (fun y hy => hn y (.inr ?_)) fun y hy => hp y ?_⟩
  ·rcases hy with rfl | hy
   ·simp
   ·simp [hy]
  ·rcases hy with hy | hy
   ·exact .inl (by simp [hy])
   ·exact .inr hy
theorem rR (h : Seg pv nx a l b) : pv b ∈ a :: l := by
 induction l generalizing a with
 |nil => rw [h.2]; simp
 |cons x l ih => exact List.mem_cons_of_mem _ (ih h.2.2)
theorem rL (h : Seg pv nx a l b) : nx a ∈ l ++ [b] := by
 cases l with
 |nil => rw [h.1]; simp
 |cons x l => rw [h.1]; simp
theorem ya (h : Seg pv nx a l n) (hd : (a :: l).Nodup) (hn : ∀ x, x ∈ a :: l -> x ≠ pv n -> nx' x = nx x) (hp : ∀ x, x ∈ l -> pv' x = pv x) (h1 : nx' (pv n) = b) (h2 : pv' b = pv n) : Seg pv' nx' a l b := by
 induction l generalizing a with
 |nil => have e := h.2; rw [e] at h1 h2; exact ⟨h1, h2⟩
 |cons x l ih =>
  have hm := rR h.2.2;have hd' := List.nodup_cons.1 hd;refine ⟨(hn a (by simp) fun e => hd'.1 (by rw [e]; exact hm)).trans h.1, (hp x (by simp)).trans h.2.1, ih h.2.2 hd'.2 (fun y hy => hn y (List.mem_cons_of_mem _ hy)) fun y hy => hp y (by simp [hy])⟩
theorem aaT (h : Seg pv nx n l b) (hd : (l ++ [b]).Nodup) (h1 : nx' a = nx n) (h2 : pv' (nx n) = a) (hn : ∀ x, x ∈ l -> nx' x = nx x) (hp : ∀ x, x ∈ l ++ [b] -> x ≠ nx n -> pv' x = pv x) : Seg pv' nx' a l b := by
 cases l with
 |nil => have e := h.1; rw [e] at h1 h2; exact ⟨h1, h2⟩
 |cons y l =>
  have e := h.1;rw [e] at h1 h2;rw [List.cons_append] at hd;have hd' := List.nodup_cons.1 hd;refine ⟨h1, h2, tY h.2.2 (fun x hx => hn x ?_) fun x hx => ?_⟩
  ·rcases hx with rfl | hx
   ·simp
   ·simp [hx]
  ·have hx' : x ∈ l ++ [b] := by
    rcases hx with hx | rfl
    ·simp [hx]
    ·simp
   exact hp x (by rw [List.cons_append]; exact List.mem_cons_of_mem _ hx') fun e2 => hd'.1 (by rw [e] at e2; rw [<- e2]; exact hx')
theorem zT {E : Nat} (h : Seg pv nx E (l ++ n :: r) E) (hd : (E :: (l ++ n :: r)).Nodup) : Seg (dh pv (nx n) (pv n)) (dh nx (pv n) (nx n)) E (l ++ r) E := by
 obtain ⟨h1, h2⟩ := seg_append.1 h;have hdE := List.nodup_cons.1 hd;have hdl := List.nodup_append.1 hdE.2;have hdn := List.nodup_cons.1 hdl.2.1;have hel : (E :: l).Nodup := List.nodup_cons.2 ⟨fun e => hdE.1 (by simp [e]), hdl.1⟩;have hm := rR h1;cases r with
 |nil =>
  have e : nx n = E := h2.1;rw [List.append_nil];refine ya (n := n) h1 hel (fun x _ hx => cg _ _ hx) (fun x hx => cg _ _ ?_) (by rw [c7]; exact e) (by rw [<- e, c7]);rw [e]; rintro rfl; exact hdE.1 (by simp [hx])
 |cons y r =>
  have e : nx n = y := h2.1;refine seg_append.2 ⟨ya (n := n) h1 hel (fun x _ hx => cg _ _ hx) (fun x hx => cg _ _ ?_) (by rw [c7]; exact e) (by rw [<- e, c7]), tY h2.2.2 (fun x hx => cg _ _ ?_) fun x hx => cg _ _ ?_⟩
  ·rw [e]; rintro rfl; exact hdl.2.2 x hx x (by simp) rfl
  ·have hx' : x ∈ y :: r := by
    rcases hx with rfl | hx
    ·simp
    ·simp [hx]
   intro e2;rw [<- e2] at hm;rcases List.mem_cons.1 hm with rfl | hm
   ·exact hdE.1 (by simp [hx'])
   ·exact hdl.2.2 x hm x (List.mem_cons_of_mem _ hx') rfl
  ·rw [e];have hyr := List.nodup_cons.1 hdn.2;rcases hx with hx | rfl
   ·rintro rfl; exact hyr.1 hx
   ·rintro rfl; exact hdE.1 (by simp)
theorem pJ {E : Nat} (h : Seg pv nx E l E) (hd : (E :: l).Nodup) (hn : n ∉ E :: l) : Seg (dh (dh pv n E) (nx E) n) (dh (dh nx n (nx E)) E n) E (n :: l) E := by
 have hm := rL h;have hdE := List.nodup_cons.1 hd;have hmE : nx E ∈ E :: l := by
  rcases List.mem_append.1 hm with e | e
  ·exact List.mem_cons_of_mem _ e
  ·simp at e; rw [e]; simp
 have hne : n ≠ nx E := fun e => hn (by rw [e]; exact hmE)
 have hnE : n ≠ E := fun e => hn (by rw [e]; simp)
 refine ⟨c7 _ _ _, by rw [cg _ _ hne, c7], aaT h ?_ (by rw [cg _ _ hnE, c7]) (c7 _ _ _) (fun x hx => ?_) fun x hx hx2 => ?_⟩
 ·refine List.nodup_append.2 ⟨hdE.2, by simp, fun x hx y hy e => ?_⟩;simp at hy; subst hy e; exact hdE.1 hx
 ·rw [cg _ _ (fun e => hdE.1 (by rw [<- e]; exact hx)), cg _ _ (fun e => hn (by rw [<- e]; exact List.mem_cons_of_mem _ hx))]
 ·rw [cg _ _ hx2, cg _ _ fun e => hn ?_];rw [<- e];rcases List.mem_append.1 hx with e | e
  ·exact List.mem_cons_of_mem _ e
  ·simp at e; rw [e]; simp
theorem aeU (h : Seg pv nx a l b) (i : Nat) (hi : i <= l.length) : nx ((a :: l).getD i 0) = (l ++ [b]).getD i 0 := by
 induction l generalizing a i with
 |nil =>
  obtain rfl : i = 0 := by simpa using hi
  simpa using h.1
 |cons x l ih =>
  cases i with
  |zero => simpa using h.1
  |succ i => simpa using ih h.2.2 i (by simpa using hi)
theorem aed (h : Seg pv nx a l b) (i : Nat) (hi : i <= l.length) : pv ((l ++ [b]).getD i 0) = (a :: l).getD i 0 := by
 induction l generalizing a i with
 |nil =>
  obtain rfl : i = 0 := by simpa using hi
  simpa using h.2
 |cons x l ih =>
  cases i with
  |zero => simpa using h.2.1
  |succ i => simpa using ih h.2.2 i (by simpa using hi)
end
def nH (b : Nat) : List Nat -> Nat
 |[] => 0
 |x :: r => if x = b then 0 else nH b r + 1
theorem kJ {l : List Nat} (hd : l.Nodup) {i : Nat} (h : i < l.length) : nH (l.getD i 0) l = i := by
 induction l generalizing i with
 |nil => simp at h
 |cons x r ih =>
  have hd' := List.nodup_cons.1 hd;unfold nH;cases i with
  |zero => simp
  |succ i =>
   have hi : i < r.length := by simpa using h
   have hm : r.getD i 0 ∈ r := cI hi;rw [show (x :: r).getD (i + 1) 0 = r.getD i 0 from rfl, if_neg (fun e => hd'.1 (by rw [e]; exact hm)), ih hd'.2 hi]
def agq : Value -> Nat
 |.pointer (some a) => a.block
 |_ => 0
theorem abQ {bs : List Nat} {i b : Nat} (hi : i < bs.length) (hb : b ∈ bs) (hn : b ≠ bs.getD i 0) : b ∈ wo bs i := by
 rw [nZ bs 0 hi] at hb;unfold wo;rcases List.mem_append.1 hb with h | h
 ·exact List.mem_append.2 (.inl h)
 ·rcases List.mem_cons.1 h with h | h
  ·exact absurd h hn
  ·exact List.mem_append.2 (.inr h)
theorem xz {bs : List Nat} (hd : bs.Nodup) {i : Nat} (hi : i < bs.length) : bs.getD i 0 ∉ wo bs i := by
 have e := nZ bs 0 hi;rw [e] at hd;have h := List.nodup_append.1 hd;unfold wo;intro hm;rcases List.mem_append.1 hm with hm | hm
 ·exact h.2.2 _ hm _ (by simp) rfl
 ·exact (List.nodup_cons.1 h.2.1).1 hm
theorem acb {pv nx : Nat -> Nat} {E i : Nat} {bs : List Nat} (h : Seg pv nx E bs E) (hd : (E :: bs).Nodup) (hi : i < bs.length) : Seg (dh pv (nx (bs.getD i 0)) (pv (bs.getD i 0))) (dh nx (pv (bs.getD i 0)) (nx (bs.getD i 0))) E (wo bs i) E := by
 have e := nZ bs 0 hi;have h' : Seg pv nx E (bs.take i ++ bs.getD i 0 :: bs.drop (i + 1)) E := by rw [<- e]; exact h
 have hd' : (E :: (bs.take i ++ bs.getD i 0 :: bs.drop (i + 1))).Nodup := by rw [<- e]; exact hd
 exact zT h' hd'
theorem zK {α : Type} (f : Nat -> α) (i : Nat) : dh f i (f i) = f := by
 funext j
 unfold dh
 split
 ·rename_i e; rw [e]
 ·rfl
set_option maxRecDepth 100000
structure ShS where
 N : Nat
 T : Nat
 room : Nat
 o : List Nat
 ln : Nat -> Option LnS
structure c8 where
 n : Int
 m : Int
 b : Blk
section
def ShS.str (s : ShS) (n : Int) : Bool := decide (0 <= n /\ n < (s.T : Int))
def ShS.plc (s : ShS) (n m : Int) : Bool := decide (0 <= n /\ n < (s.T : Int) /\ 0 <= m /\ m < (s.N : Int))
def ShS.ch (s : ShS) (n : Nat) : LnS := (s.ln n).getD (ed s.N)
def kv (x : LnS) : Bool := !decide (lnD x = [])
def ShS.dty (s : ShS) (n : Nat) : Bool := match s.ln n with
 |none => false
 |some x => kv x
def ShS.eu (s : ShS) (n : Nat) (x : Option LnS) : ShS := { s with ln := fun j => if j = n then x else s.ln j }
def eO (o : List Nat) (n : Nat) : List Nat := o.filter fun j => !decide (j = n)
def luD (d : Nat -> Bool) : List Nat -> Nat
 |[] => 0
 |x :: r => if 0 < luD d r then luD d r + 1 else if d x = true then 0 else 1
def ShS.goes (s : ShS) (n : Nat) : Bool := (s.ln n).isNone && decide (s.room <= s.o.length)
def ShS.gone (s : ShS) : Nat := s.o.getD (luD s.dty s.o - 1) 0
def ShS.fj (s : ShS) (n : Nat) : Bool := !(s.goes n && decide (luD s.dty s.o = 0))
def ShS.cut (s : ShS) (n : Nat) : ShS := if s.goes n = true then { s.eu s.gone none with o := eO s.o s.gone } else s
def ShS.tch (s : ShS) (n : Nat) : ShS := if s.fj n = true then { (s.cut n).eu n (some (s.ch n)) with o := n :: eO (s.cut n).o n } else s
def mY (d : Nat -> Bool) : Nat -> List Int
 |0 => []
 |k + 1 => mY d k ++ (if d k = true then [(k : Int)] else [])
def ShS.cX (s : ShS) : List Int := mY s.dty s.T
def eZ : List Int -> List Int -> List Int
 |l, [] => l
 |l, x :: r => eZ (if l.contains x then l else l ++ [x]) r
def ShS.fits (s : ShS) (l : List Int) : Bool := decide ((eZ s.cX l).length <= s.room)
def iV (s : ShS) (q : Nat) (c : List c8) : Int :=
 if c.all (fun x => s.plc x.n x.m) = true then (if q = 0 then 2 else if s.fits (c.map c8.n) = true then 0 else 10) else 2
def dq (q : Nat) (s : ShS) (x : c8) : ShS := (s.tch x.n.toNat).eu x.n.toNat (some (ey ((s.tch x.n.toNat).ch x.n.toNat) x.m x.b q))
def r8 (N : Nat) (c : List c8) (n : Int) : Bool := c.any fun x => decide (x.n = n) && decide (x.m = ((N - 1 - n.toNat % N : Nat) : Int))
def cz (c : List c8) (s : ShS) (x : c8) : ShS := if r8 s.N c x.n = true then s else s.eu x.n.toNat (some (fW (s.ch x.n.toNat) ((s.N - 1 - x.n.toNat % s.N : Nat) : Int)))
def j7 (s : ShS) (q : Nat) (c : List c8) : ShS := if iV s q c = 0 then c.foldl (cz c) (c.foldl (dq q) s) else s
def nC (n : Int) (x : LnS) : Nat -> List c8
 |0 => []
 |k + 1 => nC n x k ++ (if (da x k).dt = true then [⟨n, (k : Int), (da x k).b⟩] else [])
def dj (s : ShS) (n : Int) : List c8 := if s.str n = true then nC n (s.ch n.toNat) s.N else []
def shE (s : ShS) (n : Int) : Int := if s.str n = true then 0 else 2
def dL (s : ShS) (n : Int) : ShS := if s.str n = true /\ (s.ln n.toNat).isSome = true then s.eu n.toNat (some (fV (s.ch n.toNat))) else s
def ShS.strs (s : ShS) : List Int := s.o.map fun (n : Nat) => (n : Int)
def kZ (N T room : Nat) : ShS := ⟨N, T, room, [], fun _ => none⟩
structure bW (s : ShS) : Prop where
 n3 : 3 <= s.N
 n16 : s.N <= 16
 t1 : 1 <= s.T
 t64 : s.T <= 64
 r1 : 1 <= s.room
 r64 : s.room <= 64
 nd : s.o.Nodup
 mem : ∀ n, n ∈ s.o ↔ (s.ln n).isSome = true
 lt : ∀ n ∈ s.o, n < s.T
 len : s.o.length <= s.room
 ok : ∀ n x, s.ln n = some x -> dV x /\ x.l.length = s.N
end
section
variable {o : List Nat} {n j k : Nat} {d : Nat -> Bool}
theorem iu : j ∈ eO o n ↔ j ∈ o /\ j ≠ n := by unfold eO; simp
theorem yd (h : o.Nodup) : (eO o n).Nodup := h.filter _
theorem l7 (h : n ∉ o) : eO o n = o := by
 unfold eO;rw [List.filter_eq_self];intro x hx;have : x ≠ n := fun e => h (by rw [<- e]; exact hx)
 simp [this]
theorem ol : (eO o n).length <= o.length := List.length_filter_le _ _
theorem yS (h : n ∈ o) : (eO o n).length + 1 <= o.length := by
 have := List.length_filter_lt_length_iff_exists (p := fun j => !decide (j = n)) (l := o);have h2 : (eO o n).length < o.length := this.2 ⟨n, h, by simp⟩;omega
theorem xm (o : List Nat) : luD d o <= o.length := by
 induction o with
 |nil => exact aj
 |cons x r ih => unfold luD; split <;> (try split) <;> simp <;> omega
theorem aeN {i : Nat} (h : luD d o <= i) (hi : i < o.length) : d (o.getD i 0) = true := by
 induction o generalizing i with
 |nil => simp at hi
 |cons x r ih =>
  unfold luD at h
  split at h
  ·cases i with
   |zero => omega
   |succ i => simpa using ih (by omega) (by simpa using hi)
  ·split at h
   ·rename_i h0 hx
    cases i with
    |zero => simpa using hx
    |succ i => simpa using ih (by omega) (by simpa using hi)
   ·cases i with
    |zero => omega
    |succ i => simpa using ih (by omega) (by simpa using hi)
theorem agZ (h : 0 < luD d o) : d (o.getD (luD d o - 1) 0) = false := by
 induction o with
 |nil => simp [luD] at h
 |cons x r ih =>
  unfold luD at h ⊢
  split
  ·rename_i h0
   have := ih h0;rw [show luD d r + 1 - 1 = (luD d r - 1) + 1 from by omega]
   simpa using this
  ·rename_i h0
   rw [if_neg h0] at h
   split
   ·rename_i hx; rw [if_pos hx] at h; omega
   ·rename_i hx; simpa using hx
theorem abe : ∀ (L : List Ky) (o : List Nat), L.map Ky.n = o.map (fun (n : Nat) => (n : Int)) -> (∀ k ∈ L, ∀ n : Nat, k.n = (n : Int) -> k.pin = d n) -> lu L = luD d o
 |[], [], _, _ => rfl
 |[], _ :: _, e, _ => by simp at e
 |_ :: _, [], e, _ => by simp at e
 |x :: r, n :: o, e, h => by
  simp only [List.map_cons, List.cons.injEq] at e;have ih := abe r o e.2 fun k hk => h k (List.mem_cons_of_mem _ hk)
  rw [lu, luD, ih, h x (List.mem_cons_self ..) n e.1]
end
section
variable {s : ShS} {n j : Nat}
theorem bW.ajB (h : bW s) {i : Nat} (hi : i < s.o.length) : s.o.getD i 0 ∈ s.o := by
 rw [List.getD, List.getElem?_eq_getElem hi]; exact List.getElem_mem hi
theorem de (s : ShS) (n j : Nat) (x : Option LnS) : (s.eu n x).ln j = if j = n then x else s.ln j := rfl
theorem eE {x : LnS} (h : s.ln n = some x) : s.ch n = x := by unfold ShS.ch; rw [h]; rfl
theorem i1 (h : s.ln n = none) : s.ch n = ed s.N := by unfold ShS.ch; rw [h]; rfl
theorem bW.line (h : bW s) (n : Nat) : dV (s.ch n) /\ (s.ch n).l.length = s.N := by
 cases e : s.ln n with
 |none => rw [i1 e]; exact ⟨dV.new (by have := h.n3; omega) h.n16, by simp [ed]⟩
 |some x => rw [eE e]; exact h.ok n x e
theorem bW.gone (h : bW s) (hl : 0 < luD s.dty s.o) : s.gone ∈ s.o /\ s.dty s.gone = false := by
 have := xm (d := s.dty) s.o;exact ⟨h.ajB (by omega), agZ hl⟩
theorem bW.eu (h : bW s) {x : LnS} (hn : n ∈ s.o) (hx : dV x) (hl : x.l.length = s.N) : bW (s.eu n (some x)) := by
 refine ⟨h.n3, h.n16, h.t1, h.t64, h.r1, h.r64, h.nd, fun j => ?_, h.lt, h.len, fun j y hj => ?_⟩
 ·rw [de];by_cases e : j = n
  ·rw [if_pos e]; subst e; exact ⟨fun _ => rfl, fun _ => hn⟩
  ·rw [if_neg e]; exact h.mem j
 ·rw [de] at hj;by_cases e : j = n
  ·rw [if_pos e] at hj; injection hj with hj; subst hj; exact ⟨hx, hl⟩
  ·rw [if_neg e] at hj; exact h.ok j y hj
theorem bW.drop (h : bW s) (n : Nat) : bW { s.eu n none with o := eO s.o n } := by
 refine ⟨h.n3, h.n16, h.t1, h.t64, h.r1, h.r64, yd h.nd, fun j => ?_, fun j hj => h.lt j (iu.1 hj).1, aq ol h.len, fun j y hj => ?_⟩
 ·show j ∈ eO s.o n ↔ ((s.eu n none).ln j).isSome = true
  rw [iu, de];by_cases e : j = n
  ·rw [if_pos e]; exact ⟨fun h' => absurd e h'.2, fun h' => by cases h'⟩
  ·rw [if_neg e, <- h.mem j]; exact ⟨fun h' => h'.1, fun h' => ⟨h', e⟩⟩
 ·replace hj : (s.eu n none).ln j = some y := hj;rw [de] at hj;by_cases e : j = n
  ·rw [if_pos e] at hj; cases hj
  ·rw [if_neg e] at hj; exact h.ok j y hj
theorem bW.cut (h : bW s) (n : Nat) : bW (s.cut n) := by
 unfold ShS.cut
 split
 ·exact h.drop _
 ·exact h
theorem ShS.agy (s : ShS) (n : Nat) : (s.cut n).N = s.N /\ (s.cut n).T = s.T /\ (s.cut n).room = s.room := by unfold ShS.cut; split <;> exact ⟨rfl, rfl, rfl⟩
theorem ShS.pl (s : ShS) (n : Nat) : (s.tch n).N = s.N /\ (s.tch n).T = s.T /\ (s.tch n).room = s.room := by
 unfold ShS.tch
 split
 ·exact s.agy n
 ·exact ⟨rfl, rfl, rfl⟩
theorem bW.tch (h : bW s) (hn : n < s.T) : bW (s.tch n) := by
 unfold ShS.tch
 split
 ·rename_i ht
  have hc := h.cut n;obtain ⟨e1, e2, e3⟩ := s.agy n;refine ⟨hc.n3, hc.n16, hc.t1, hc.t64, hc.r1, hc.r64, ?_, fun j => ?_, fun j hj => ?_, ?_, fun j y hj => ?_⟩
  ·exact List.nodup_cons.2 ⟨fun e => (iu.1 e).2 rfl, yd hc.nd⟩
  ·show j ∈ n :: eO (s.cut n).o n ↔ (((s.cut n).eu n (some (s.ch n))).ln j).isSome = true
   rw [de, List.mem_cons, iu];by_cases e : j = n
   ·rw [if_pos e]; exact ⟨fun _ => rfl, fun _ => .inl e⟩
   ·rw [if_neg e, <- hc.mem j]; exact ⟨fun h' => by rcases h' with h' | h'; exact absurd h' e; exact h'.1, fun h' => .inr ⟨h', e⟩⟩
  ·rcases List.mem_cons.1 hj with e | e
   ·subst e; show j < (s.cut j).T; rw [e2]; exact hn
   ·exact hc.lt j (iu.1 e).1
  ·show (n :: eO (s.cut n).o n).length <= (s.cut n).room
   rw [List.length_cons, e3];by_cases hg : s.goes n = true
   ·have hl : 0 < luD s.dty s.o := by
     unfold ShS.fj at ht;rw [hg] at ht;simp at ht;omega
    have hm := (h.gone hl).1;have ec : (s.cut n).o = eO s.o s.gone := by unfold ShS.cut; rw [if_pos hg]
    rw [ec];have := yS hm;have := ol (o := eO s.o s.gone) (n := n);have := h.len;omega
   ·have ec : s.cut n = s := by unfold ShS.cut; rw [if_neg hg]
    rw [ec];unfold ShS.goes at hg;have hl := h.len;cases e : s.ln n with
    |none =>
     rw [e] at hg;simp at hg;have := ol (o := s.o) (n := n);omega
    |some x =>
     have hm : n ∈ s.o := (h.mem n).2 (by rw [e]; rfl);have := yS hm;omega
  ·replace hj : ((s.cut n).eu n (some (s.ch n))).ln j = some y := hj;rw [de] at hj
   show dV y /\ y.l.length = (s.cut n).N
   by_cases e : j = n
   ·rw [if_pos e] at hj; injection hj with hj; subst hj; rw [e1]; exact h.line n
   ·rw [if_neg e] at hj; exact hc.ok j y hj
 ·exact h
theorem bW.new {N T room : Nat} (h1 : 3 <= N) (h2 : N <= 16) (h3 : 1 <= T) (h4 : T <= 64) (h5 : 1 <= room) (h6 : room <= 64) : bW (kZ N T room) :=
 ⟨h1, h2, h3, h4, h5, h6, List.nodup_nil, fun n => ⟨fun h => (by cases h), fun h => (by cases h)⟩, fun n h => (by cases h), Nat.zero_le _, fun n x h => (by cases h)⟩
end
def bS (p : c8) : Cl := ⟨p.n, p.m, p.b⟩
def afZ (p : Cl) : c8 := ⟨p.s, p.m, p.b⟩
theorem afx (l : List Cl) : (l.map afZ).map bS = l := by
 rw [List.map_map];exact (List.map_congr_left fun x _ => rfl).trans (List.map_id _)
def gx (N T : Nat) (r : Int) : Ros := ⟨(N : Int), (T : Int), r, Vector.replicate 16 0, 0, false⟩
theorem zl {α : Type} [BEq α] [LawfulBEq α] {a : α} {b : List α} (h : a ∈ b) : (b.erase a).length + 1 = b.length := by
 have := List.length_erase_of_mem h;have h2 : 0 < b.length := List.length_pos_of_mem h;omega
theorem q9 {α : Type} [BEq α] [LawfulBEq α] : ∀ (a b : List α), a.Nodup -> (∀ x ∈ a, x ∈ b) -> a.length <= b.length
 |[], b, _, _ => Nat.zero_le _
 |x :: a, b, h, hs => by
  have hx := hs x (List.mem_cons_self ..);obtain ⟨h1, h2⟩ := List.nodup_cons.1 h;have := q9 a (b.erase x) h2 fun y hy => (List.mem_erase_of_ne (fun e => h1 (by rw [<- e]; exact hy))).2 (hs y (List.mem_cons_of_mem _ hy))
  have e := zl hx;rw [List.length_cons];omega
theorem j5 {y : Int} : ∀ (r l : List Int), y ∈ eZ l r ↔ y ∈ l \/ y ∈ r
 |[], l => by simp [eZ]
 |x :: r, l => by
  rw [eZ, j5 r];by_cases h : l.contains x = true
  ·rw [if_pos h];have hm : x ∈ l := by simpa using h
   constructor
   ·rintro (h1 | h1)
    ·exact .inl h1
    ·exact .inr (List.mem_cons_of_mem _ h1)
   ·rintro (h1 | h1)
    ·exact .inl h1
    ·rcases List.mem_cons.1 h1 with e | e
     ·subst e; exact .inl hm
     ·exact .inr e
  ·rw [if_neg h];rw [List.mem_append, List.mem_singleton, List.mem_cons]
   constructor
   ·rintro ((h1 | h1) | h1)
    ·exact .inl h1
    ·exact .inr (.inl h1)
    ·exact .inr (.inr h1)
   ·rintro (h1 | h1 | h1)
    ·exact .inl (.inl h1)
    ·exact .inl (.inr h1)
    ·exact .inr h1
theorem gp {d : Nat -> Bool} {y : Int} : ∀ {k : Nat}, y ∈ mY d k ↔ ∃ j : Nat, y = (j : Int) /\ j < k /\ d j = true
 |0 => by simp [mY]
 |k + 1 => by
  rw [mY, List.mem_append, gp]
  constructor
  ·rintro (⟨j, e, hj, hd⟩ | h)
   ·exact ⟨j, e, by omega, hd⟩
   ·split at h
    ·rename_i hd; exact ⟨k, by simpa using h, by omega, hd⟩
    ·cases h
  ·rintro ⟨j, e, hj, hd⟩;by_cases ek : j = k
   ·subst ek; right; rw [if_pos hd, e]; exact List.mem_singleton.2 rfl
   ·exact .inl ⟨j, e, by omega, hd⟩
theorem vp (d : Nat -> Bool) (k : Nat) : (mY d k).length <= k := by
 induction k with
 |zero => exact aj
 |succ k ih => rw [mY, List.length_append]; split <;> simp <;> omega
section
variable {s : ShS} {n j q : Nat} {x : LnS} {c : List c8} {p : c8}
theorem lT (h : s.ln n = none) : s.dty n = false := by unfold ShS.dty; rw [h]
theorem jt (h : s.ln n = some x) : s.dty n = kv x := by unfold ShS.dty; rw [h]
theorem eV (h : s.dty n = true) : (s.ln n).isSome = true := by
 cases e : s.ln n with
 |none => rw [lT e] at h; cases h
 |some x => rfl
theorem lv {s' : ShS} (h' : s'.ln n = s.ln n) : s'.dty n = s.dty n := by unfold ShS.dty; rw [h']
theorem afY (N : Nat) : kv (ed N) = false := by unfold kv; rw [yU]; rfl
theorem qc (s : ShS) (n : Nat) : kv (s.ch n) = s.dty n := by
 cases e : s.ln n with
 |none => rw [i1 e, lT e, afY]
 |some x => rw [eE e, jt e]
theorem ShS.kN : (j : Int) ∈ s.cX ↔ j < s.T /\ s.dty j = true := by
 unfold ShS.cX;rw [gp]
 constructor
 ·rintro ⟨i, e, h1, h2⟩;have : i = j := by omega
  subst this;exact ⟨h1, h2⟩
 ·rintro ⟨h1, h2⟩;exact ⟨j, rfl, h1, h2⟩
theorem bW.ahG (h : bW s) (hd : s.dty j = true) : j < s.T := h.lt j ((h.mem j).2 (eV hd))
theorem bW.yw (h : bW s) (n j : Nat) : (s.tch n).dty j = s.dty j := by
 unfold ShS.tch
 split
 ·rename_i ht
  have hc : (s.cut n).dty j = s.dty j := by
   unfold ShS.cut
   split
   ·rename_i hg
    have hl : 0 < luD s.dty s.o := by
     unfold ShS.fj at ht;rw [hg] at ht;simp at ht;omega
    show (s.eu s.gone none).dty j = _
    by_cases e : j = s.gone
    ·subst e;rw [(h.gone hl).2];exact lT (by rw [de, if_pos rfl])
    ·exact lv (by rw [de, if_neg e])
   ·rfl
  show ((s.cut n).eu n (some (s.ch n))).dty j = _
  by_cases e : j = n
  ·subst e;rw [jt (x := s.ch j) (by rw [de, if_pos rfl]), qc]
  ·rw [lv (s := s.cut n) (by rw [de, if_neg e]), hc]
 ·rfl
theorem bW.oR (h : bW s) (hd : s.dty j = true) : (s.tch n).ln j = s.ln j := by
 obtain ⟨x, hx⟩ := Option.isSome_iff_exists.1 (eV hd);unfold ShS.tch
 split
 ·rename_i ht
  have hc : (s.cut n).ln j = s.ln j := by
   unfold ShS.cut
   split
   ·rename_i hg
    have hl : 0 < luD s.dty s.o := by
     unfold ShS.fj at ht;rw [hg] at ht;simp at ht;omega
    show (s.eu s.gone none).ln j = _
    rw [de, if_neg (fun e => by rw [e, (h.gone hl).2] at hd; cases hd)]
   ·rfl
  show ((s.cut n).eu n (some (s.ch n))).ln j = _
  rw [de];by_cases e : j = n
  ·subst e;rw [if_pos rfl, eE hx, hx]
  ·rw [if_neg e, hc]
 ·rfl
theorem pU (ht : s.fj n = true) : (s.tch n).ln n = some (s.ch n) := by
 unfold ShS.tch;rw [if_pos ht]
 show ((s.cut n).eu n (some (s.ch n))).ln n = _
 rw [de, if_pos rfl]
theorem yC {l : List LC} {k : Nat} (h : (l.getD k lc0).dt = true) : ∀ {n : Nat}, k < n -> (k : Int) ∈ gO l n
 |0, hk => absurd hk (by omega)
 |n + 1, hk => by
  rw [gO, List.mem_append];by_cases e : k = n
  ·subst e; right; rw [if_pos h]; exact List.mem_singleton.2 rfl
  ·exact .inl (yC h (by omega))
theorem pm {k : Nat} (h : (da x k).dt = true) (hk : k < x.l.length) : kv x = true := by
 have := yC (l := x.l) (k := k) h hk;unfold kv lnD;cases e : gO x.l x.l.length with
 |nil => rw [e] at this; cases this
 |cons a r => rfl
theorem y8 (hm : lnR x p.m = true) (hq : q ≠ 0) : kv (ey x p.m p.b q) = true := by
 obtain ⟨k, e, hk⟩ := kL hm;rw [e, qg hk hq];refine pm (k := k) ?_ (by rw [List.length_set]; exact hk);unfold da;rw [jr _ _ _ _ _ hk, if_pos rfl]
structure sm (s0 : ShS) (U : List Int) (c : List c8) (s : ShS) : Prop where
 ok : bW s
 N : s.N = s0.N
 T : s.T = s0.T
 room : s.room = s0.room
 sub : ∀ j : Nat, s.dty j = true -> (j : Int) ∈ U
 set : ∀ x ∈ c, s.dty x.n.toNat = true
theorem iF {s : ShS} {n m : Int} (h : s.plc n m = true) : ∃ k i : Nat, n = (k : Int) /\ k < s.T /\ m = (i : Int) /\ i < s.N := by
 unfold ShS.plc at h;have := of_decide_eq_true h;exact ⟨n.toNat, m.toNat, by omega, by omega, by omega, by omega⟩
theorem ad1 {s : ShS} {n m : Int} (h : bW s) (hp : s.plc n m = true) (k : Nat) : lnR (s.ch k) m = true := by
 obtain ⟨_, i, _, _, e, hi⟩ := iF hp;rw [e];exact iM (by rw [(h.line k).2]; exact hi)
theorem bW.ahS (h : bW s) {U : List Int} (hU : U.length <= s.room) (hs : ∀ j : Nat, s.dty j = true -> (j : Int) ∈ U) (hn : (n : Int) ∈ U) : s.fj n = true := by
 unfold ShS.fj;cases hg : s.goes n with
 |false => rfl
 |true =>
  unfold ShS.goes at hg;simp only [Bool.and_eq_true, Option.isNone_iff_eq_none, decide_eq_true_eq] at hg;by_cases hl : luD s.dty s.o = 0
  ·exfalso
   have hall : ∀ j ∈ s.o, (j : Int) ∈ U := fun j hj => by
    obtain ⟨i, hi, e⟩ := List.getElem_of_mem hj;have := aeN (d := s.dty) (o := s.o) (i := i) (by omega) hi;rw [List.getD, List.getElem?_eq_getElem hi, Option.getD_some, e] at this;exact hs j this
   have hno : n ∉ s.o := fun e => by
    have := (h.mem n).1 e;rw [hg.1] at this;cases this
   have hnd : ((n :: s.o).map fun (j : Nat) => (j : Int)).Nodup := by
    rw [List.nodup_iff_pairwise_ne, List.pairwise_map];exact (List.nodup_iff_pairwise_ne.1 (List.nodup_cons.2 ⟨hno, h.nd⟩)).imp fun h => by omega
   have := q9 _ U hnd fun y hy => by
    obtain ⟨j, hj, e⟩ := List.mem_map.1 hy;subst e;rcases List.mem_cons.1 hj with e | e
    ·subst e; exact hn
    ·exact hall j e
   rw [List.length_map, List.length_cons] at this;omega
  ·rw [am hl]; rfl
theorem sm.start (h : bW s) (r : List Int) : sm s (eZ s.cX r) [] s :=
 ⟨h, rfl, rfl, rfl, fun j hj => (j5 _ _).2 (.inl (ShS.kN.2 ⟨h.ahG hj, hj⟩)), fun x hx => by cases hx⟩
theorem sm.plc {s0 : ShS} {U : List Int} (h : sm s0 U c s) (n m : Int) : s.plc n m = s0.plc n m := by unfold ShS.plc; rw [h.N, h.T]
theorem sm.step {s0 : ShS} {U : List Int} (h : sm s0 U c s) (hU : U.length <= s0.room) (hp : s0.plc p.n p.m = true) (hn : p.n ∈ U) (hq : q ≠ 0) (hqb : q < 18446744073709551616) :
  s.fj p.n.toNat = true /\ bW (s.tch p.n.toNat) /\ lnR ((s.tch p.n.toNat).ch p.n.toNat) p.m = true /\ sm s0 U (c ++ [p]) (dq q s p) := by
 obtain ⟨k, i, e1, hk, e2, hi⟩ := iF hp;have ek : p.n.toNat = k := by omega
 have hn' : ((k : Nat) : Int) ∈ U := by rw [<- e1]; exact hn
 have ht := h.ok.ahS (n := k) (by rw [h.room]; exact hU) h.sub hn';have hto := h.ok.tch (n := k) (by rw [h.T]; exact hk);have hpt : (s.tch k).plc p.n p.m = true := by
  unfold ShS.plc;rw [(s.pl k).1, (s.pl k).2.1];have := h.plc p.n p.m;unfold ShS.plc at this;rw [this];exact hp
 have hr := ad1 hto hpt k;have hl := hto.line k;rw [ek];refine ⟨ht, hto, hr, ?_⟩;have hmem : k ∈ (s.tch k).o := (hto.mem k).2 (by rw [pU ht]; rfl);have hso : bW (dq q s p) := by
  unfold dq;rw [ek];exact hto.eu hmem (dV.set hl.1 _ _ hqb) (by rw [yO]; exact hl.2)
 have hd : ∀ j, (dq q s p).dty j = if j = k then true else s.dty j := fun j => by
  unfold dq;rw [ek];by_cases e : j = k
  ·subst e;rw [if_pos rfl, jt (x := _) (by rw [de, if_pos rfl])];exact y8 hr hq
  ·rw [if_neg e, lv (s := s.tch k) (by rw [de, if_neg e]), h.ok.yw]
 obtain ⟨t1, t2, t3⟩ := s.pl k;refine ⟨hso, by unfold dq; rw [ek]; exact t1.trans h.N, by unfold dq; rw [ek]; exact t2.trans h.T, by unfold dq; rw [ek]; exact t3.trans h.room, fun j hj => ?_, fun x hx => ?_⟩
 ·rw [hd j] at hj;by_cases e : j = k
  ·subst e; exact hn'
  ·rw [if_neg e] at hj; exact h.sub j hj
 ·rw [hd];rcases List.mem_append.1 hx with e | e
  ·split
   ·rfl
   ·exact h.set x e
  ·have : x = p := by simpa using e
   subst this;rw [if_pos ek]
theorem n7 (h : iV s q c = 0) : (∀ x ∈ c, s.plc x.n x.m = true) /\ q ≠ 0 /\ (eZ s.cX (c.map c8.n)).length <= s.room := by
 unfold iV at h
 split at h
 ·rename_i h1
  split at h
  ·cases h
  ·rename_i h2
   split at h
   ·rename_i h3
    exact ⟨fun x hx => List.all_eq_true.1 h1 x hx, h2, of_decide_eq_true h3⟩
   ·cases h
 ·cases h
theorem eP {α β : Type} (f : β -> α -> β) (b : β) {l : List α} {d : α} {i : Nat} (h : i < l.length) : (l.take (i + 1)).foldl f b = f ((l.take i).foldl f b) (l.getD i d) := by
 rw [List.take_add_one, List.getElem?_eq_getElem h, List.foldl_append, List.getD, List.getElem?_eq_getElem h]
 rfl
def cP : c8 := ⟨0, 0, aJ⟩
theorem gU (h : bW s) (hq : iV s q c = 0) (hqb : q < 18446744073709551616) : ∀ i, i <= c.length -> sm s (eZ s.cX (c.map c8.n)) (c.take i) ((c.take i).foldl (dq q) s)
 |0, _ => by rw [List.take_zero]; exact sm.start h _
 |i + 1, hi => by
  obtain ⟨h1, h2, h3⟩ := n7 hq;have hi' : i < c.length := by omega
  have ih := gU h hq hqb i (by omega);have hx : c.getD i cP ∈ c := by rw [List.getD, List.getElem?_eq_getElem hi']; exact List.getElem_mem hi'
  have := (ih.step (p := c.getD i cP) h3 (h1 _ hx) ((j5 _ _).2 (.inr (List.mem_map.2 ⟨_, hx, rfl⟩))) h2 hqb).2.2.2;rw [eP _ _ (d := cP) hi', show c.take (i + 1) = c.take i ++ [c.getD i cP] from by rw [List.take_add_one, List.getD, List.getElem?_eq_getElem hi']; rfl];exact this
structure aeQ (s0 s : ShS) : Prop where
 ok : bW s
 N : s.N = s0.N
 T : s.T = s0.T
 room : s.room = s0.room
 o : s.o = s0.o
 some : ∀ n, (s.ln n).isSome = (s0.ln n).isSome
theorem aeQ.step {s0 : ShS} (h : aeQ s0 s) {cs : List c8} (hp : (s0.ln p.n.toNat).isSome = true) : aeQ s0 (cz cs s p) := by
 unfold cz
 split
 ·exact h
 ·have hl := h.ok.line p.n.toNat
  have hm : p.n.toNat ∈ s.o := (h.ok.mem _).2 (by rw [h.some]; exact hp);refine ⟨h.ok.eu hm (dV.frg hl.1 _) (by rw [ae6]; exact hl.2), h.N, h.T, h.room, h.o, fun n => ?_⟩;rw [de];by_cases e : n = p.n.toNat
  ·rw [if_pos e, e, hp]; rfl
  ·rw [if_neg e, h.some]
theorem i8 {s0 : ShS} (h : bW s0) (cs : List c8) (hp : ∀ x ∈ c, (s0.ln x.n.toNat).isSome = true) : ∀ i, i <= c.length -> aeQ s0 ((c.take i).foldl (cz cs) s0)
 |0, _ => by rw [List.take_zero]; exact ⟨h, rfl, rfl, rfl, rfl, fun _ => rfl⟩
 |i + 1, hi => by
  have hi' : i < c.length := by omega
  have hx : c.getD i cP ∈ c := by rw [List.getD, List.getElem?_eq_getElem hi']; exact List.getElem_mem hi'
  rw [eP _ _ (d := cP) hi'];exact (i8 h cs hp i (by omega)).step (hp _ hx)
theorem bW.put (h : bW s) (hqb : q < 18446744073709551616) (c : List c8) : bW (j7 s q c) := by
 unfold j7
 split
 ·rename_i hq
  have h1 := gU h hq hqb c.length aj;rw [List.take_length] at h1;have h2 := i8 h1.ok c (c := c) (fun x hx => eV (h1.set x hx)) c.length aj;rw [List.take_length] at h2;exact h2.ok
 ·exact h
theorem bW.cln (h : bW s) (n : Int) : bW (dL s n) := by
 unfold dL
 split
 ·rename_i e
  have hl := h.line n.toNat
  exact h.eu ((h.mem _).2 e.2) (dV.cln hl.1) (by rw [yu]; exact hl.2)
 ·exact h
end
theorem fE {ρ : Operand -> Value} {o : Oper} {x : Operand} {w : World} {t e : TypeId} {A : Option Addr} {n c : Nat} (hu : prog.underlying t = some (.slice e)) (ho : o.op = .call { callee := .builtin .len, args := #[x], argTypes := #[t] }) (hx : ρ x = .slice A n c) : (execOp ρ o).run prog w = .ok (.value (.int .i64 (n : Int))) w := by
 simp [execOp, ho, resolve, invoke, builtin, hx, Builtin.len_, run_underlying hu, Result.andThen]
 rfl
structure ShPr where
 P : World -> (Nat -> Prop) -> Nat -> Nat -> ShS -> Prop
 lt : ∀ {w S p K s}, P w S p K s -> ∀ b, S b -> b < w.heap.size
 only : ∀ {w w' S F p K s}, P w S p K s -> Only F w w' -> (∀ b, S b -> ¬ F b) -> P w' S p K s
 more : ∀ {w S p K K' s}, P w S p K s -> K <= K' -> P w S p K' s
 ok : ∀ {w S p K s}, P w S p K s -> bW s
 new_ok : ∀ {N T room : Nat} {r : Int} (w : World), dH (gx N T r) = true -> 1 <= room -> room <= 64 -> Calls prog 19 #[geo (gx N T r), .int .i64 (room : Int)] w fun e w' => ∃ p S, e = .returned (.tuple #[.pointer (some ⟨p, 0, none⟩), .int .i64 0]) /\ P w' S p 0 (kZ N T room) /\ Below w.heap.size w w' /\ ∀ b, S b -> w.heap.size <= b
 new_no : ∀ (x : Ros) (room : Int) (w : World), ¬ (dH x = true /\ 1 <= room /\ room <= 64) -> Calls prog 19 #[geo x, .int .i64 room] w fun e w' => e = .returned (.tuple #[.pointer none, .int .i64 2]) /\ Below w.heap.size w w'
 put : ∀ {w S t K s} {Q nc cc : Nat} {A : Option Addr} {c : List c8}, P w S t K s -> Q < 18446744073709551616 -> K + nc <= 1000000 -> RdE cH w w.heap.size A nc (c.map bS) -> c.length = nc -> nc <= cc -> cc <= maxLen -> (∀ x, A = some x -> 0 < nc -> ¬ S x.block) -> Calls prog 6 #[.pointer (some ⟨t, 0, none⟩), .int .u64 (Q : Int), .slice A nc cc] w fun e w' => e = .returned (.int .i64 (iV s Q c)) /\ ∃ S', P w' S' t (K + nc) (j7 s Q c) /\ Only S w w' /\ Grow w S S'
 clean : ∀ {w S t K s} (n : Int), P w S t K s -> Calls prog 37 #[.pointer (some ⟨t, 0, none⟩), .int .i64 n] w fun e w' => e = .returned (.int .i64 (shE s n)) /\ ∃ S', P w' S' t K (dL s n) /\ Only S w w' /\ Grow w S S'
 fits : ∀ {w S t K s A cl} {l : List Int}, P w S t K s -> RdE bP w w.heap.size A l.length l -> (∀ x ∈ l, (Lit.int .i64 x).wf = true) -> l.length <= cl -> cl <= maxLen -> l.length <= 17592186043904 -> Calls prog 52 #[.pointer (some ⟨t, 0, none⟩), .slice A l.length cl] w fun e w' => e = .returned (.bool (s.fits l)) /\ Below w.heap.size w w'
 cells : ∀ {w S t K s} (n : Int), P w S t K s -> Calls prog 10 #[.pointer (some ⟨t, 0, none⟩), .int .i64 n] w fun e w' => ∃ v, e = .returned v /\ aN cH w' w.heap.size v ((dj s n).map bS) /\ Below w.heap.size w w'
 cX : ∀ {w S t K s}, P w S t K s -> Calls prog 7 #[.pointer (some ⟨t, 0, none⟩)] w fun e w' => ∃ v, e = .returned v /\ aN bP w' w.heap.size v s.cX /\ Below w.heap.size w w'
 stripes : ∀ {w S t K s}, P w S t K s -> Calls prog 24 #[.pointer (some ⟨t, 0, none⟩)] w fun e w' => ∃ v, e = .returned v /\ aN bP w' w.heap.size v s.strs /\ Below w.heap.size w w'
 No : World -> Value -> Prop
 zc : List Value
 no_nil : ∀ w : World, No w (.pointer none)
 bld0 : ∀ w : World, (Instr.build 55 #[]).run prog w = .ok (.agg zc.toArray) w
 no_zero : ∀ w : World, No (w.alloc (.cells zc.toArray 55)) (.pointer (some ⟨w.heap.size, 0, none⟩))
 no_below : ∀ {w w' : World} {v : Value}, No w v -> Below w.heap.size w w' -> No w' v
 no_put : ∀ (w : World) (v : Value) (Q : Nat), No w v -> Calls prog 6 #[v, .int .u64 (Q : Int), .slice none 0 0] w fun e w' => e = .returned (.int .i64 1) /\ Below w.heap.size w w'
 no_clean : ∀ (w : World) (v : Value) (n : Int), No w v -> Calls prog 37 #[v, .int .i64 n] w fun e w' => e = .returned (.int .i64 1) /\ Below w.heap.size w w'
 no_fits : ∀ (w : World) (v : Value), No w v -> Calls prog 52 #[v, .slice none 0 0] w fun e w' => e = .returned (.bool false) /\ Below w.heap.size w w'
 no_cells : ∀ (w : World) (v : Value) (n : Int), No w v -> Calls prog 10 #[v, .int .i64 n] w fun e w' => (∃ A c, e = .returned (.slice A 0 c)) /\ Below w.heap.size w w'
 no_dirty : ∀ (w : World) (v : Value), No w v -> Calls prog 7 #[v] w fun e w' => (∃ A c, e = .returned (.slice A 0 c)) /\ Below w.heap.size w w'
 no_stripes : ∀ (w : World) (v : Value), No w v -> Calls prog 24 #[v] w fun e w' => (∃ A c, e = .returned (.slice A 0 c)) /\ Below w.heap.size w w'
theorem ShPr.below (D : ShPr) {w w' : World} {S : Nat -> Prop} {p K : Nat} {s : ShS} (h : D.P w S p K s) (k : Below w.heap.size w w') : D.P w' S p K s := D.only h (Only.of_below (fun _ => False) k) fun _ _ e => e
set_option linter.unusedSimpArgs false
def ahz (I : Obj -> Prop) (B : Nat) (w w' : World) : Prop := Only (fun b => B <= b /\ ∀ o, w.heap[b]? = some o -> I o) w w'
section
variable {α : Type} {E : Elt α} {ρ : Operand -> Value} {o : Oper} {x y : Operand} {w : World} {A : Option Addr} {n c k B b off : Nat} {l : List α}
theorem zk (A : Option Addr) : A.map (fun x => x.add 0) = A := by
 cases A with
 |none => rfl
 |some a =>
  obtain ⟨b, off, s⟩ := a;cases s <;> simp [Addr.add]
theorem vV (ho : o.op = .slice E.s x none (some y) none) (hx : ρ x = .slice A n c) (hy : ρ y = .int .i64 (k : Int)) (hk : k <= c) : (execOp ρ o).run prog w = .ok (.value (.slice A k c)) w := by
 have hs := mQ E w;unfold execOp;simp [ho, hx, hy, Instr.sliceAt, Instr.slice, Instr.sliceBounds, Instr.sliceBound, asIntOf, run_underlying E.und, hs];have := zk A
 split <;> simp_all
theorem RdE.ajn (h : RdE E w B A n l) (hk : k <= n) : RdE E w B A k (l.take k) :=
 ⟨by rw [List.length_take, h.1]; omega, fun j hj => by
  obtain ⟨b, off, e, hb, hc⟩ := h.2 j (by omega);refine ⟨b, off, e, hb, ?_⟩;rw [List.getD, List.getElem?_take_of_lt hj];exact hc⟩
theorem eD (E : Elt α) (ho : o.op = .call { callee := .builtin .len, args := #[x], argTypes := #[E.s] }) (hx : ρ x = .slice A n c) : (execOp ρ o).run prog w = .ok (.value (.int .i64 (n : Int))) w := by
 simp [execOp, ho, resolve, invoke, builtin, hx, Builtin.len_, run_underlying E.und, Result.andThen]
 rfl
theorem jn {t : TypeId} {p v : Value} (ho : o.op = .build t #[(0, x)]) (hx : ρ x = p) (h : (Instr.build t #[(0, p)]).run prog w = .ok v w) : (execOp ρ o).run prog w = .ok (.value v) w := by
 unfold execOp;simp [ho, hx, h, Result.andThen]
end
section
variable {ρ : Operand -> Value} {o : Oper} {x y : Operand} {w : World} {t r : TypeId} {v : Value} {a1 a2 : Addr}
theorem uz (op : BinOp) (t : TypeId) (x y : Operand) (a b : Option Addr) : (eqGuard op t x y (.pointer a) (.pointer b)).run prog w = .ok () w := by
 cases op <;> simp [eqGuard]
theorem mG {op : BinOp} {m n : Option Addr} (ho : o.op = .binOp op t x y r) (hx : ρ x = .pointer m) (hy : ρ y = .pointer n) (h : (binOp op t (.pointer m) (.pointer n)).run prog w = .ok v w) : (execOp ρ o).run prog w = .ok (.value v) w := by
 unfold execOp;simp only [ho, hx, hy, Sem.run_bind, uz, h, Result.andThen_ok, Sem.run_pure]
theorem uW {te : TypeId} (hp : prog.underlying t = some (.pointer te)) {j : TypeInfo} (hte : prog.info? te = some j) (hsz : j.size ≠ 0) {ca cb : Array Value} {ta tb : TypeId} (ha : w.heap[a1.block]? = some (.cells ca ta (0, 0))) (hb : w.heap[a2.block]? = some (.cells cb tb (0, 0))) (d : Nat) :
  (Op.equalIn (d + 1) t (.pointer (some a1)) (.pointer (some a2))).run prog w = .ok (decide (a1 = a2)) w := by
 by_cases h : a1 = a2
 ·subst h;simp [Op.equalIn, run_underlying hp, sizeOf, typeInfo, hte, run_sameAddr_same]
 ·simp [Op.equalIn, run_underlying hp, sizeOf, typeInfo, hte, hsz, run_sameAddr_other w h ha hb, h]
theorem nu {te : TypeId} (hp : prog.underlying t = some (.pointer te)) (m : Option Addr) (d : Nat) : (Op.equalIn (d + 1) t (.pointer m) (.pointer none)).run prog w = .ok (decide (m = none)) w := by
 cases m <;> simp [Op.equalIn, run_underlying hp]
theorem dl {te : TypeId} {m : Option Addr} (c : Bool) (hp : prog.underlying t = some (.pointer te)) (ho : o.op = .binOp .eql t x y r) (hx : ρ x = .pointer m) (hy : ρ y = .pointer none) (h : decide (m = none) = c) : (execOp ρ o).run prog w = .ok (.value (.bool c)) w := by
 subst h;refine mG ho hx hy ?_;simp only [binOp];simp [Op.equal, Op.maxDepth, nu hp m 9999]
theorem dc {te : TypeId} {m : Option Addr} (c : Bool) (hp : prog.underlying t = some (.pointer te)) (ho : o.op = .binOp .neq t x y r) (hx : ρ x = .pointer m) (hy : ρ y = .pointer none) (h : (!decide (m = none)) = c) : (execOp ρ o).run prog w = .ok (.value (.bool c)) w := by
 subst h;refine mG ho hx hy ?_;simp only [binOp];simp [Op.equal, Op.maxDepth, nu hp m 9999]
theorem kK {te : TypeId} (c : Bool) (hp : prog.underlying t = some (.pointer te)) {j : TypeInfo} (hte : prog.info? te = some j) (hsz : j.size ≠ 0) (ho : o.op = .binOp .neq t x y r) (hx : ρ x = .pointer (some a1)) (hy : ρ y = .pointer (some a2))
  {ca cb : Array Value} {ta tb : TypeId} (ha : w.heap[a1.block]? = some (.cells ca ta (0, 0))) (hb : w.heap[a2.block]? = some (.cells cb tb (0, 0))) (h : (!decide (a1 = a2)) = c) : (execOp ρ o).run prog w = .ok (.value (.bool c)) w := by
 subst h;refine mG ho hx hy ?_;simp only [binOp];simp [Op.equal, Op.maxDepth, uW hp hte hsz ha hb 9999]
end
theorem uS {α : Type} (E : Elt α) (hz : E.z.cells.toList = E.cel E.d) (n : Nat) : (cE E (List.replicate n E.d)).toArray = madeCells E.z.cells (n * E.n) := by
 have hp := E.pos;apply Array.ext
 ·rw [size_madeCells, List.size_toArray, ct, List.length_replicate]
 ·intro j h1 h2;rw [size_madeCells] at h2;have hjn : j / E.n < n := Nat.div_lt_of_lt_mul (by rw [Nat.mul_comm]; exact h2);have hr : j % E.n < E.n := Nat.mod_lt _ hp;have hk : j / E.n < (List.replicate n E.d).length := by rw [List.length_replicate]; exact hjn
  have := pC E (List.replicate n E.d) hk hr;rw [Nat.div_add_mod'] at this;have hd0 : (List.replicate n E.d).getD (j / E.n) E.d = E.d := by
   rw [List.getD, List.getElem?_replicate]
   split <;> rfl
  rw [hd0, List.getElem?_eq_getElem (by simpa using h1), List.getElem?_eq_getElem (by rw [E.len]; exact hr)] at this;injection this with this;have e1 : (cE E (List.replicate n E.d)).toArray[j] = (cE E (List.replicate n E.d))[j]'(by simpa using h1) := by simp
  rw [e1, this];simp only [madeCells, Array.getElem_map, Array.getElem_range, E.zc];have hs : j % E.n < E.z.cells.size := by rw [E.zc]; exact hr
  rw [getElem!_pos E.z.cells (j % E.n) hs];have e2 : E.z.cells[j % E.n] = E.z.cells.toList[j % E.n]'(by simpa using hs) := by simp
  rw [e2];simp only [hz]
theorem pM {α : Type} {E : Elt α} {ρ : Operand -> Value} {o : Oper} {x y : Operand} {w : World} {n : Nat} (ho : o.op = .makeSlice E.s x y) (hx : ρ x = .int .i64 (n : Int)) (hy : ρ y = .int .i64 (n : Int)) (hn : n <= 1000000) :
  (execOp ρ o).run prog w = .ok (.value (.slice (some ⟨w.heap.size, 0, none⟩) n n)) (w.alloc (.cells (madeCells E.z.cells (n * E.n)) E.t)) := by
 obtain ⟨i0, hi, hz0, hz1, hz2⟩ := info_parts E.info;have hb : (i0.bytes : Int) * n <= 281474976710656 := by
  have h1 := Nat.mul_le_mul E.small hn;rw [hz2];have h2 : E.by_ * n <= 4096000000 := by simpa using h1
  have : ((E.by_ * n : Nat) : Int) <= 4096000000 := by omega
  rw [Int.natCast_mul] at this;omega
 have hr := run_make (P := prog) w E.s E.t i0 E.z E.und hi hz0 .i64 .i64 n n (by omega) (Int.le_refl _) hb (by omega);rw [hz1] at hr;simp only [Int.toNat_natCast] at hr;unfold execOp;simp only [ho, hx, hy, Sem.run_bind, hr, Result.andThen_ok, Sem.run_pure]
theorem qi {α : Type} (E : Elt α) (hz : E.z.cells.toList = E.cel E.d) (w : World) (n B : Nat) (hB : B <= w.heap.size) (hn : n <= 1000000) : aN E (w.alloc (.cells (madeCells E.z.cells (n * E.n)) E.t)) B (.slice (some ⟨w.heap.size, 0, none⟩) n n) (List.replicate n E.d) := by
 refine aN.of_block (heap_alloc_new w _) ?_ hB (by simp) (by unfold maxLen; omega);rw [<- uS E hz n]
def zq (c : LC) : List Value := .bool c.kn :: .bool c.dt :: cel c.b
theorem xL (c : LC) : (zq c).length = 66 := by simp [zq, aO]
theorem aev (c : LC) : ∀ v ∈ zq c, v.oneCell' = true := by
 intro v hv;simp only [zq, List.mem_cons] at hv;rcases hv with rfl | rfl | hv
 ·rfl
 ·rfl
 ·exact kI c.b v hv
def lcV (c : LC) : Value := .agg (zq c).toArray
def LcE : Elt LC where
 s := 263
 t := 268
 n := 66
 by_ := 66
 cel := zq
 d := lc0
 z := lcV lc0
 pos := by omega
 small := by omega
 len := xL
 one := aev
 und := underlying263
 info := by kernel_rfl
 zc := by show (Value.cells (.agg _)).size = 66; simp [Value.cells, xL]
def U6E : Elt Int where
 s := 264
 t := 34
 n := 1
 by_ := 8
 cel x := [.int .u64 x]
 d := 0
 z := .int .u64 0
 pos := by omega
 small := by omega
 len _ := rfl
 one x v hv := by simp at hv; subst hv; rfl
 und := underlying264
 info := by kernel_rfl
 zc := rfl
section
variable {ρ : Operand -> Value} {o : Oper} {x y z : Operand} {w : World} {b off : Nat} {c : Blk}
theorem adH {ad : Addr} {a : Bool} (h : w.cell? ad = some (.bool a)) : (Instr.loadAt 4 (.pointer (some ad))).run prog w = .ok (.bool a) w := by simp [go_sem, h]
theorem xY {ad : Addr} {u : Value} {a : Bool} (h : w.cell? ad = some u) (hf : w.frozen? ad = false) : (Instr.storeAt 4 (.pointer (some ad)) (.bool a)).run prog w = .ok () (w.setCell ad (.bool a)) := by simp [go_sem, h, hf]
end
def ajU : Obj -> Prop
 |.cells _ t _ => t = 266 \/ t = 268 \/ t = 34
 |_ => False
def rnC (g N : Nat) (v : Value) : List Value := [.slice (some ⟨g, 0, none⟩) N N, v]
structure RNu (w : World) (B q g : Nat) (v : Value) (s : LnS) (L : List Int) : Prop where
 at_ : w.heap[q]? = some (.cells (rnC g s.l.length v).toArray 266 (0, 0))
 row : aN LcE w B (.slice (some ⟨g, 0, none⟩) s.l.length s.l.length) s.l
 sq : aN U6E w B v L
 low : B <= q
 ok : dV s
 fs : s.f = ajw L L.length
 nn : ∀ x ∈ L, 0 <= x
theorem aaH {w : World} {b o n b' o' : Nat} {vs : List Value} (h : w.there b o n) : (w.setCells b' o' vs).there b o n := World.there_setCells h b' o' vs
theorem there_drew {w : World} {b o n : Nat} (h : w.there b o n) : (World.drew w).there b o n := h
theorem ajD {a : Int} (h : -9223372036854775808 <= a /\ a <= 9223372036854775807) : IntKind.i64.wrap a = a := IntWalk.i64_in _ ⟨by omega, by omega⟩
def ftR (q g : Nat) (v : Value) (b : Nat) : Prop := b = q \/ b = g \/ v.ownBlock = some b
def RNf (w : World) (F : Nat -> Prop) (B q n : Nat) (s : LnS) : Prop := ∃ g v L, RNu w B q g v s L /\ L.length <= n /\ F = ftR q g v
def lpO : Option Nat -> Value
 |none => .pointer none
 |some b => .pointer (some ⟨b, 0, none⟩)
def LpE : Elt (Option Nat) where
 s := 111
 t := 259
 n := 1
 by_ := 8
 cel x := [lpO x]
 d := none
 z := .pointer none
 pos := by omega
 small := by omega
 len _ := rfl
 one x v hv := by simp only [List.mem_singleton] at hv; subst hv; cases x <;> rfl
 und := underlying111
 info := by kernel_rfl
 zc := rfl
theorem aeb : LpE.z.cells.toList = LpE.cel LpE.d := rfl
def rsC (N T : Nat) (r : Int) (room : Nat) (vO : Value) (gl : Nat) : List Value := [.int .i64 (N : Int), .int .i64 (T : Int), .int .i64 r, .int .i64 (room : Int), vO, .slice (some ⟨gl, 0, none⟩) T T]
def ajJ (w : World) (F : Nat -> Prop) (K : Nat) : Option Nat -> Option LnS -> Prop
 |none, none => ∀ b, ¬ F b
 |some q, some x => ∃ m, m <= K /\ RNf w F 0 q m x
 |_, _ => False
structure RSu (w : World) (q : Nat) (vO : Value) (gl : Nat) (ps : List (Option Nat)) (Fl : Nat -> Nat -> Prop) (K : Nat) (r : Int) (s : ShS) : Prop where
 at_ : w.heap[q]? = some (.cells (rsC s.N s.T r s.room vO gl).toArray 113 (0, 0))
 ord : aN bP w 0 vO s.strs
 row : aN LpE w 0 (.slice (some ⟨gl, 0, none⟩) s.T s.T) ps
 ln : ∀ n, n < s.T -> ajJ w (Fl n) K (ps.getD n none) (s.ln n)
 ap : ∀ i j, i < s.T -> j < s.T -> i ≠ j -> ∀ b, Fl i b -> ¬ Fl j b
 kd : ∀ n, n < s.T -> ∀ b, Fl n b -> b ≠ q /\ vO.ownBlock ≠ some b /\ b ≠ gl
 rg : 40 <= r /\ r <= 256
def ftS (q : Nat) (vO : Value) (gl : Nat) (Fl : Nat -> Nat -> Prop) (T : Nat) (b : Nat) : Prop := b = q \/ vO.ownBlock = some b \/ b = gl \/ ∃ n, n < T /\ Fl n b
def RSf (w : World) (F : Nat -> Prop) (q K : Nat) (s : ShS) : Prop := ∃ vO gl ps Fl r, RSu w q vO gl ps Fl K r s /\ bW s /\ F = ftS q vO gl Fl s.T
section
variable {P : Program} {md : Region.Mode} {l : List Oper} {Q : Exit -> Act -> World -> Prop} {S : World -> Prop} {fuel : Nat} {listed : Array Bool} {a : Act} {w w1 : World} {o o' : Oper} {v : Value}
theorem kP (i : Nat) (hi : l[i]? = some o) (hr : Region.ready md l.toArray listed = [i]) (hw : Region.wanted o (yielded l.toArray a.tmps) = true) (h : (execOp a.eval o).run P w = .ok (.value v) w1)
  (hS : S w1) (hk : wpAnyH P md l.toArray Q S fuel (listed.setIfInBounds i true) (a.put o.dst v) w1) : wpAnyH P md l.toArray Q S (fuel + 1) listed a w :=
 wpAnyH_all hr (by simp) fun j hj => by
  obtain rfl : j = i := by simpa using hj
  unfold wpOp;simp only [List.getElem?_toArray, hi, hw, if_true];refine .inl ?_;unfold Oper.wp;rw [h];exact ⟨hS, hk⟩
theorem ny (i j : Nat) {f : FuncId} {vs : Array Value} (hi : l[i]? = some o) (hj : l[j]? = some o') (hr : Region.ready md l.toArray listed = [i, j]) (hwi : Region.wanted o (yielded l.toArray a.tmps) = true) (hwj : Region.wanted o' (yielded l.toArray a.tmps) = true) (h : (execOp a.eval o).run P w = .ok (.enter f vs) w)
  (hc : Calls P f vs w fun e w' => ∃ v, e = .returned v /\ S w' /\ wpAnyH P md l.toArray Q S fuel (listed.setIfInBounds i true) (a.put o.dst v) w') (h' : (execOp a.eval o').run P w = .ok (.value v) w1) (hS : S w1)
  (hk : wpAnyH P md l.toArray Q S fuel (listed.setIfInBounds j true) (a.put o'.dst v) w1) : wpAnyH P md l.toArray Q S (fuel + 1) listed a w :=
 wpAnyH_all hr (by simp) fun z hz => by
  rcases (show z = i \/ z = j by simpa using hz) with rfl | rfl
  ·unfold wpOp;simp only [List.getElem?_toArray, hi, hwi, if_true];refine .inl ?_;unfold Oper.wp;rw [h];exact hc.mono fun e w' ⟨v, he, hk⟩ => by subst he; exact hk
  ·unfold wpOp;simp only [List.getElem?_toArray, hj, hwj, if_true];refine .inl ?_;unfold Oper.wp;rw [h'];exact ⟨hS, hk⟩
theorem aa8 {α β : Type} {F : α -> β -> Prop} {G : Prop} {T : α -> β -> Prop} (k : (∀ a b, F a b -> T a b) -> G) (h : ∀ a b, F a b -> T a b) : G := k h
end
theorem ajA (a b c d : Int) (A : Option Addr) (n c' : Nat) (w : World) : (Instr.build 113 #[(0, .agg #[.int .i64 a, .int .i64 b, .int .i64 c]), (1, .int .i64 d), (3, .slice A n c')]).run prog w = .ok (.agg #[.int .i64 a, .int .i64 b, .int .i64 c, .int .i64 d, .slice none 0 0, .slice A n c']) w := by kernel_rfl
theorem xl {ρ : Operand -> Value} {o : Oper} {x y z : Operand} {w : World} {N T room g : Nat} {r : Int} (ho : o.op = .build 113 #[(0, x), (1, y), (3, z)]) (hx : ρ x = geo (gx N T r)) (hy : ρ y = .int .i64 (room : Int)) (hz : ρ z = .slice (some ⟨g, 0, none⟩) T T) : (execOp ρ o).run prog w = .ok (.value (.agg (rsC N T r room (.slice none 0 0) g).toArray)) w := by
 have h := ajA (N : Int) (T : Int) r (room : Int) (some ⟨g, 0, none⟩) T T w;unfold execOp;simp only [ho, hx, hy, hz, List.map_toArray, List.map_cons, List.map_nil, Sem.run_bind]
 show Result.andThen ((Instr.build 113 #[(0, .agg #[.int .i64 (N : Int), .int .i64 (T : Int), .int .i64 r]), (1, .int .i64 (room : Int)), (3, .slice (some ⟨g, 0, none⟩) T T)]).run prog w) _ = _
 rw [h]
 rfl
theorem RSf.fresh {w : World} {q gl N T room : Nat} {r : Int} (hg : dH (gx N T r) = true) (h1 : 1 <= room) (h2 : room <= 64) (ha : w.heap[q]? = some (.cells (rsC N T r room (.slice none 0 0) gl).toArray 113 (0, 0))) (hr : aN LpE w 0 (.slice (some ⟨gl, 0, none⟩) T T) (List.replicate T none)) : RSf w (ftS q (.slice none 0 0) gl (fun _ _ => False) T) q 0 (kZ N T room) := by
 have hb := ew hg;unfold gx at hb;simp only at hb;have hps : ∀ n, (List.replicate T (none : Option Nat)).getD n none = none := fun n => by
  rw [List.getD, List.getElem?_replicate]
  split <;> rfl
 refine ⟨.slice none 0 0, gl, List.replicate T none, fun _ _ => False, r, ⟨ha, aN.nil _ _, hr, fun n hn => ?_, fun _ _ _ _ _ _ e => e.elim, fun _ _ _ e => e.elim, ⟨hb.2.2.2.2.1, hb.2.2.2.2.2⟩⟩, bW.new (by omega) (by omega) (by omega) (by omega) h1 h2, rfl⟩;rw [hps];exact fun _ e => e
theorem zG {N T room : Nat} {r : Int} (w : World) (hg : dH (gx N T r) = true) (h1 : 1 <= room) (h2 : room <= 64) : Calls prog 20 #[geo (gx N T r), .int .i64 (room : Int)] w fun e w' => ∃ q F, e = .returned (.tuple #[.pointer (some ⟨q, 0, none⟩), .int .i64 0]) /\ RSf w' F q 0 (kZ N T room) /\ Below w.heap.size w w' /\ ∀ b, F b -> w.heap.size <= b := by
 have hb := ew hg;unfold gx at hb;simp only at hb;have hbx := (Below.refl w.heap.size w).alloc aj (.cells (dZ (gx N T r)).toArray 51);have HB1 := ae hbx;have HP1 := ae (heap_alloc_new w (.cells (dZ (gx N T r)).toArray 51));have HG := ae hg;have HR1 := ae h1;have HR2 := ae h2;have HT6 : Hid (T <= 1000000) := ae (by omega);have HA : Hid (decide ((room : Int) < 1) = false) := ae (am (by omega));have HC : Hid (decide ((room : Int) > 64) = false) := ae (am (by omega));clear hbx hb hg h1 h2;go_enter func20, ntmps20;go_upto_region 0 with fail;refine af ?_;refine akj (cO (cs := dZ (gx N T r)) rfl akt) ?_;generalize w.alloc (.cells (dZ (gx N T r)).toArray 51) = w1 at *;refine aF 2 ?_;go_upto_region 1 with fail;refine af ?_;refine akj (dm (c := gx N T r) rfl akt (aQ HP1)) ?_;refine ay rfl (aB call49 rfl (evc akt evn)) ?_;refine (agn (gx N T r) w1).mono ?_;rintro e w2 ⟨rfl, b2⟩;rw [HG.out];have HB2 := ae (HB1.out.trans (b2.mono HB1.out.size));have HP2 := ae (aC HP1 b2);clear b2;refine aR ?_;refine runs 3 ?_;refine akq (aY false rfl akt evk HA) ?_;refine runs 3 ?_;refine akq (dA false rfl akt evk HC) ?_;refine aF 1 ?_;have HSD : Hid (Below w2.heap.size w2 (World.drew w2)) := ae ((Below.refl w2.heap.size w2).drew);have HS1 : Hid (Below w2.heap.size w2 ((World.drew w2).alloc (.cells (madeCells LpE.z.cells (T * LpE.n)) LpE.t))) := ae (HSD.out.alloc aj _);have HMZ := ae (qi LpE aeb (World.drew w2) T (World.drew w2).heap.size aj HT6);have hsz : ((World.drew w2).alloc (.cells (madeCells LpE.z.cells (T * LpE.n)) LpE.t)).heap.size = (World.drew w2).heap.size + 1 := al;go_upto_region 3 with fail;refine wp_region_held (S := fun w' => Below w2.heap.size w2 w') (by kernel_rfl) ?_;change wpAnyH _ _ _ _ _ 9 _ _ w2.drew;refine akm 0 rfl (fun _ hw => dm (c := gx N T r) rfl akt (aQ (aC HP2 hw))) HSD ?_;refine akG 1 rfl HSD ?_;refine akm 2 rfl (fun _ hw => ax rfl akt acd) HSD ?_;refine akm 3 rfl (fun _ hw => aD rfl akt (cd (k := (T : Int)) ((aQ (aC HP2 hw)) 1 _ rfl))) HSD ?_;refine kP 4 rfl (by kernel_rfl) rfl (pM (E := LpE) rfl akt akt HT6.out) HS1.out ?_;simp only [aa];obtain ⟨gl, hgl⟩ : ∃ gl, (World.drew w2).heap.size = gl := ⟨_, rfl⟩;have HGL : Hid (w2.heap.size <= gl) := ae (Nat.le_of_eq hgl);rw [hgl] at HMZ hsz ⊢;generalize (World.drew w2).alloc (.cells (madeCells LpE.z.cells (T * LpE.n)) LpE.t) = w3 at *;have HS2 : Hid (Below w2.heap.size w2 (w3.alloc (.cells (rsC N T r room (.slice none 0 0) gl).toArray 113))) := ae (HS1.out.alloc HS1.out.size _);refine akm 5 rfl (fun _ hw => xl (room := room) rfl akt akt akt) HS1 ?_;refine kP 6 rfl (by kernel_rfl) rfl (cO (cs := rsC N T r room (.slice none 0 0) gl) rfl akt) HS2.out ?_;simp only [aa];refine akH 7 rfl HS2 ?_;refine akm 8 rfl (fun _ hw => dX rfl evk) HS2 ?_;refine wpAnyH_done (by kernel_rfl) ?_ _;have hq := heap_alloc_new w3 (.cells (rsC N T r room (.slice none 0 0) gl).toArray 113);have hrow := (aN.below HMZ ((Below.refl w3.heap.size w3).alloc aj (.cells (rsC N T r room (.slice none 0 0) gl).toArray 113))).base (Nat.zero_le _);have hf := ae (RSf.fresh HG HR1 HR2 hq hrow);have HBB := ae (HB2.out.trans (HS2.out.mono HB2.out.size));have HWQ : Hid (w.heap.size <= w3.heap.size) := ae (by have := HB2.out.size; have := HGL.out; omega);have HWG : Hid (w.heap.size <= gl) := ae (by have := HB2.out.size; have := HGL.out; omega);clear hq hrow hgl hsz;go_wp2_with fail;go_ret2;refine ⟨_, _, rfl, hf.out, HBB, fun b hb => ?_⟩;rcases hb with e | e | e | ⟨_, _, e⟩
 ·subst e; exact HWQ
 ·cases e
 ·subst e; exact HWG
 ·exact e.elim
structure ShI (C : eN) extends ShPr where
def SAt (C : eN) (D : ShI C) (w0 : World) (B : Nat) (O : Nat -> Prop) (w : World) (q p t K : Nat) (h : HuS) (s : ShS) : Prop := ∃ G S, C.J w G q p h /\ D.P w S t K s /\ (∀ b, G b -> ¬ S b) /\ (∀ b, G b \/ S b -> B <= b) /\ Below B w0 w /\ oN w0 B /\ ∀ b, O b -> ¬ G b /\ ¬ S b /\ b < w.heap.size
section
variable {C : eN} {D : ShI C} {w0 w w' : World} {B q p t K K' : Nat} {O O' : Nat -> Prop} {h h' : HuS} {s s' : ShS}
theorem SAt.bel (a : SAt C D w0 B O w q p t K h s) : Below B w0 w := by obtain ⟨G, S, h1, h2, h3, h4, h5, _⟩ := a; exact h5
theorem SAt.guard (a : SAt C D w0 B O w q p t K h s) (k : Below w.heap.size w w') (hO : ∀ b, O' b -> O b \/ (w.heap.size <= b /\ b < w'.heap.size)) : SAt C D w0 B O' w' q p t K h s := by
 obtain ⟨G, S, h1, h2, h3, h4, h5, h6, h7⟩ := a;have hs := k.size;refine ⟨G, S, C.below h1 k, D.below h2 k, h3, h4, h5.trans (k.mono (aq h6.le h5.size)), h6, fun b hb => ?_⟩;rcases hO b hb with e | ⟨e1, e2⟩
 ·obtain ⟨g1, g2, g3⟩ := h7 b e;exact ⟨g1, g2, by omega⟩
 ·exact ⟨fun hg => by have := C.lt h1 b hg; omega, fun hg => by have := D.lt h2 b hg; omega, e2⟩
theorem SAt.below (a : SAt C D w0 B O w q p t K h s) (k : Below w.heap.size w w') : SAt C D w0 B O w' q p t K h s := a.guard k fun b e => .inl e
theorem SAt.turn {G S G' S' : Nat -> Prop} (h4 : ∀ b, G b \/ S b -> B <= b) (h5 : Below B w0 w) (h6 : oN w0 B) (h7 : ∀ b, O b -> ¬ G b /\ ¬ S b /\ b < w.heap.size) (k1 : C.J w' G' q p h') (k2 : D.P w' S' t K' s') (kd : ∀ b, G' b -> ¬ S' b) (k3 : Only (fun b => G b \/ S b) w w') (k4 : Grow w G G') (k5 : Grow w S S') : SAt C D w0 B O w' q p t K' h' s' /\ cj O w w' := by
 have hs := aq h6.le h5.size;have hs2 := k3.size;refine ⟨⟨G', S', k1, k2, kd, fun b hb => ?_, h5.trans (k3.below h4 hs), h6, fun b hb => ?_⟩, fun b hb => k3.block b (h7 b hb).2.2 fun e => e.elim (h7 b hb).1 (h7 b hb).2.1⟩
 ·rcases hb with e | e
  ·rcases k4 b e with y | y
   ·exact h4 b (.inl y)
   ·omega
  ·rcases k5 b e with y | y
   ·exact h4 b (.inr y)
   ·omega
 ·obtain ⟨g1, g2, g3⟩ := h7 b hb;refine ⟨fun hg => ?_, fun hg => ?_, by omega⟩
  ·rcases k4 b hg with e | e
   ·exact g1 e
   ·omega
  ·rcases k5 b hg with e | e
   ·exact g2 e
   ·omega
theorem SAt.shelf {I : FuncId} {vs : Array Value} {v : Value} (a : SAt C D w0 B O w q p t K h s) (hc : ∀ S, D.P w S t K s -> (∀ b, O b -> ¬ S b) -> Calls prog I vs w fun e w' => e = .returned v /\ ∃ S', D.P w' S' t K' s' /\ Only S w w' /\ Grow w S S') : Calls prog I vs w fun e w' => e = .returned v /\ SAt C D w0 B O w' q p t K' h s' /\ cj O w w' := by
 obtain ⟨G, S, h1, h2, h3, h4, h5, h6, h7⟩ := a;refine (hc S h2 fun b hb => (h7 b hb).2.1).mono fun e w' ⟨k0, S', k2, k3, k5⟩ => ⟨k0, SAt.turn h4 h5 h6 h7 (C.only h1 k3 h3) k2 (fun b hg hs => ?_) (k3.widen fun b hb => .inr hb) (Grow.same _ _) k5⟩
 rcases k5 b hs with y | y
 ·exact h3 b hg y
 ·have := C.lt h1 b hg; omega
theorem SAt.afS {I : FuncId} {vs : Array Value} {v : Value} (a : SAt C D w0 B O w q p t K h s) (hc : ∀ G, C.J w G q p h -> CrG w G -> Calls prog I vs w fun e w' => e = .returned v /\ ∃ G', C.J w' G' q p h' /\ Only G w w' /\ Grow w G G') : Calls prog I vs w fun e w' => e = .returned v /\ SAt C D w0 B O w' q p t K h' s /\ cj O w w' := by
 obtain ⟨G, S, h1, h2, h3, h4, h5, h6, h7⟩ := a;refine (hc G h1 (h6.crg h5 fun b e => h4 b (.inl e))).mono fun e w' ⟨k0, G', k1, k3, k4⟩ => ⟨k0, SAt.turn h4 h5 h6 h7 k1 (D.only h2 k3 fun b hb hg => h3 b hg hb) (fun b hg hs => ?_) (k3.widen fun b hb => .inl hb) k4 (Grow.same _ _)⟩
 rcases k4 b hg with y | y
 ·exact h3 b y hs
 ·have := D.lt h2 b hs; omega
theorem SAt.look {I : FuncId} {vs : Array Value} {Q : Ending -> World -> Prop} (a : SAt C D w0 B O w q p t K h s) (hc : ∀ S, D.P w S t K s -> Calls prog I vs w Q) : Calls prog I vs w Q := by
 obtain ⟨G, S, h1, h2, _⟩ := a;exact hc S h2
end
theorem vT (a b : Int) (w : World) : (Instr.build 51 #[(0, .int .i64 a), (1, .int .i64 b), (2, .int .i64 40)]).run prog w = .ok (.agg #[.int .i64 a, .int .i64 b, .int .i64 40]) w := by kernel_rfl
theorem sZ {ρ : Operand -> Value} {o : Oper} {x y z : Operand} {w : World} {a b : Int} (ho : o.op = .build 51 #[(0, x), (1, y), (2, z)]) (hx : ρ x = .int .i64 a) (hy : ρ y = .int .i64 b) (hz : ρ z = .int .i64 40) : (execOp ρ o).run prog w = .ok (.value (.agg #[.int .i64 a, .int .i64 b, .int .i64 40])) w := by
 unfold execOp;simp only [ho, hx, hy, hz, List.map_toArray, List.map_cons, List.map_nil, Sem.run_bind, vT, Result.andThen_ok, Sem.run_pure]
theorem ahi : (prog.info? 51).map (fun i => i.zero) = some (some (.agg ([.int .i64 0, .int .i64 0, .int .i64 0] : List Value).toArray)) := by kernel_rfl
theorem abo (A B : Option Addr) (n m c d N : Nat) (a b : List Int) (w : World) (ha : RdE bP w N A n a) (hb : RdE bP w N B m b) (hN : N <= w.heap.size) (hn : n <= maxLen) :
  Calls prog 27 #[.slice A n c, .slice B m d] w fun e w' => e = .returned (.bool (nv a b)) /\ Below w.heap.size w w' := by
 unfold maxLen at hn;by_cases hnm : n = m
 ·subst hnm;go_enter func27, ntmps27;go_wp2
  go_loopw [5] (fun i wr => ∃ k : Nat, k <= n /\ i = .int .i64 k /\ (∀ j, j < k -> a.getD j 0 = b.getD j 0) /\ Below w.heap.size w wr) (fun i _ => n - (intOf i).toNat)
  case atStart => exact ⟨0, Nat.zero_le _, rfl, fun j hj => absurd hj (by omega), ak⟩
  case round =>
   obtain ⟨k, hk, rfl, hj, hbl⟩ := hrel;by_cases hlt : k < n
   ·obtain ⟨bA, oA, rfl, hA, cA⟩ := (ha.below (hbl.mono hN)).int hlt;obtain ⟨bB, oB, rfl, hB, cB⟩ := (hb.below (hbl.mono hN)).int hlt;have hidj := ae hj;clear hj;generalize hx : a.getD k 0 = x at *;generalize hy : b.getD k 0 = y at *;have HX := ae hx;have HY := ae hy;clear hx hy;go_wp2
    go_quiet (fail)
    go_wp2
    ·have hd : (x != y) = true := by assumption
     go_ret;refine ⟨?_, bdn hbl _⟩;have : nv a b = false := by
      simp only [nv, beq_eq_false_iff_ne];rintro rfl;have := HX.out.symm.trans HY;simp [this] at hd
     rw [this]; rfl
    ·have hd : (x != y) = false := by assumption
     go_roundw
     case rel =>
      refine ⟨k + 1, by omega, by go_num, ?_, bdn hbl _⟩;intro j hj;by_cases h : j = k
      ·subst h;rw [HX.out, HY.out]
       simpa using hd
      ·exact hidj.out j (by omega)
     case measure => simp [intOf]; omega
   ·go_wp2;go_ret;refine ⟨?_, hbl⟩;have : nv a b = true := by
     simp only [nv, beq_iff_eq];exact adM (by rw [ha.1, hb.1]) fun j h => hj j (by have := ha.1; omega)
    rw [this]; rfl
 ·have hne : ((n : Int) != (m : Int)) = true := by simp; omega
  go_enter func27, ntmps27;go_wp2;go_ret;refine ⟨?_, ak⟩;have : nv a b = false := by
   have h1 := ha.1;have h2 := hb.1;simp only [nv, beq_eq_false_iff_ne];rintro rfl;omega
  rw [this]; rfl
section
variable {C : eN} {D : ShI C} {w0 w w' : World} {B q p t K k : Nat} {O O' : Nat -> Prop} {h : HuS} {s : ShS}
theorem SAt.mine {g : Nat} (a : SAt C D w0 B O w q p t K h s) (hg : O g) (hB : B <= g) (ho : Only (fun b => b = g) w w') : SAt C D w0 B O w' q p t K h s := by
 obtain ⟨G, S, h1, h2, h3, h4, h5, h6, h7⟩ := a;have hs := ho.size;obtain ⟨g1, g2, g3⟩ := h7 g hg;refine ⟨G, S, C.only h1 ho fun b hb e => g1 (e ▸ hb), D.only h2 ho fun b hb e => g2 (e ▸ hb), h3, h4, h5.trans (ho.below (fun b e => by subst e; exact hB) (aq h6.le h5.size)), h6, fun b hb => ?_⟩;obtain ⟨g1, g2, g3⟩ := h7 b hb;exact ⟨g1, g2, by omega⟩
theorem SAt.lt (a : SAt C D w0 B O w q p t K h s) {b : Nat} (hb : O b) : b < w.heap.size := by obtain ⟨G, S, h1, h2, h3, h4, h5, h6, h7⟩ := a; exact (h7 b hb).2.2
theorem SAt.start {G S : Nat -> Prop} (hT : Tab w0) (j : C.J w G q p h) (a : D.P w S t K s) (hG : ∀ b, G b -> w0.heap.size <= b) (hS : ∀ b, S b -> w0.heap.size <= b) (hd : ∀ b, G b -> ¬ S b) (hb : Below w0.heap.size w0 w) (hO : ∀ b, O b -> ¬ G b /\ ¬ S b /\ b < w.heap.size) : SAt C D w0 w0.heap.size O w q p t K h s :=
 ⟨G, S, j, a, hd, fun b e => e.elim (hG b) (hS b), hb, oN.start hT, hO⟩
end
structure ai3 (C : eN) : Prop where
theorem abV {a c n : Nat} (ha : a <= 16) (hc : c <= 16) (hn : a + c = n) : IntKind.i64.wrap ((a : Int) + (c : Int)) = (n : Int) := by
 rw [IntWalk.i64_in _ (by omega)];omega
theorem aby {x : Ros} (hf : aW x = false) (w : World) : Calls prog 133 #[ros x] w fun e w' => e = .returned (.int .i64 0) /\ Below w.heap.size w w' := by
 have HT1 := ae (iZ.new w x);have HF := ae hf;clear hf;go_enter func133, ntmps133;go_upto_region 1 with (first | (refine aw rfl (a6 rfl rfl) ?_) | fail);generalize w.alloc (.cells (aZ x).toArray 58) = w1 at *;refine af ?_;refine akj (aX rfl akt (HT1.out.at0)) ?_;refine ay rfl (aB call42 rfl (evc akt evn)) ?_;refine (dO w1 HF).mono ?_;rintro e w2 ⟨rfl, hb⟩;have HT2 := ae (HT1.out.call hb);clear hb HT1;refine aR ?_;refine aF 1 ?_;go_upto_region 2 with fail;refine cf 1 ?_;go_wp2_with fail;go_ret;exact ⟨rfl, HT2.out.bel⟩
theorem zW {x : Ros} {a c n : Nat} (hf : aW x = true) (ha : many x 1 = a) (hc : many x 2 = c) (hn : IntKind.i64.wrap ((a : Int) + (c : Int)) = (n : Int)) (hg : decide ((2 : Int) <= (n : Int)) = true) (w : World) : Calls prog 133 #[ros x] w fun e w' => e = .returned (.int .i64 5) /\ Below w.heap.size w w' := by
 have HT1 := ae (iZ.new w x);have HF := ae hf;have HA := ae ha;have HC := ae hc;have HN := ae hn;have HG := ae hg;clear hf ha hc hn hg;go_enter func133, ntmps133;go_upto_region 1 with (first | (refine aw rfl (a6 rfl rfl) ?_) | fail);generalize w.alloc (.cells (aZ x).toArray 58) = w1 at *;refine af ?_;refine akj (aX rfl akt (HT1.out.at0)) ?_;refine ay rfl (aB call42 rfl (evc akt evn)) ?_;refine (dO w1 HF).mono ?_;rintro e w2 ⟨rfl, hb⟩;have HT2 := ae (HT1.out.call hb);clear hb HT1;refine aR ?_;refine aF 1 ?_;go_upto_region 3 with fail;refine aS (B := w2.heap.size) (by kernel_rfl) ?_;refine akr (fun _ hw => aX rfl akt (HT2.out.above hw)) ?_;refine bQ rfl (fun _ => aB call116 rfl (evc akt (evc evk evn))) (bz aj fun w' hw => fu w' HA) ?_;simp only [aa];refine akr (fun _ hw => aX rfl akt (HT2.out.above hw)) ?_;refine bQ rfl (fun _ => aB call116 rfl (evc akt (evc evk evn))) (bz aj fun w' hw => fu w' HC) ?_;simp only [aa];refine cC 2 ?_;refine wpQuiet_nil ?_;intro w3 hw;have HT3 := ae (HT2.out.call hw);clear hw HT2;go_upto_region 4 with fail;refine aI 2 ?_;refine akj (bH rfl akt akt HN) ?_;refine aF 1 ?_;go_upto_region 5 with fail;refine aI 1 ?_;refine akj (dD true rfl akt evk HG) ?_;refine aF 1 ?_;go_upto_region 7 with fail;refine cf 1 ?_;go_wp2_with fail;go_ret;exact ⟨rfl, HT3.out.bel⟩
theorem ze {x : Ros} {a c n : Nat} (hf : aW x = true) (ha : many x 1 = a) (hc : many x 2 = c) (hn : IntKind.i64.wrap ((a : Int) + (c : Int)) = (n : Int)) (hg : decide ((2 : Int) <= (n : Int)) = false) (h1 : ((n : Int) == 1) = true) (ho : x.gone = true) (w : World) : Calls prog 133 #[ros x] w fun e w' => e = .returned (.int .i64 5) /\ Below w.heap.size w w' := by
 have HT1 := ae (iZ.new w x);have HF := ae hf;have HA := ae ha;have HC := ae hc;have HN := ae hn;have HG := ae hg;have H1 := ae h1;have HO := ae ho;clear hf ha hc hn hg h1 ho;go_enter func133, ntmps133;go_upto_region 1 with (first | (refine aw rfl (a6 rfl rfl) ?_) | fail);generalize w.alloc (.cells (aZ x).toArray 58) = w1 at *;refine af ?_;refine akj (aX rfl akt (HT1.out.at0)) ?_;refine ay rfl (aB call42 rfl (evc akt evn)) ?_;refine (dO w1 HF).mono ?_;rintro e w2 ⟨rfl, hb⟩;have HT2 := ae (HT1.out.call hb);clear hb HT1;refine aR ?_;refine aF 1 ?_;go_upto_region 3 with fail;refine aS (B := w2.heap.size) (by kernel_rfl) ?_;refine akr (fun _ hw => aX rfl akt (HT2.out.above hw)) ?_;refine bQ rfl (fun _ => aB call116 rfl (evc akt (evc evk evn))) (bz aj fun w' hw => fu w' HA) ?_;simp only [aa];refine akr (fun _ hw => aX rfl akt (HT2.out.above hw)) ?_;refine bQ rfl (fun _ => aB call116 rfl (evc akt (evc evk evn))) (bz aj fun w' hw => fu w' HC) ?_;simp only [aa];refine cC 2 ?_;refine wpQuiet_nil ?_;intro w3 hw;have HT3 := ae (HT2.out.call hw);clear hw HT2;go_upto_region 4 with fail;refine aI 2 ?_;refine akj (bH rfl akt akt HN) ?_;refine aF 1 ?_;go_upto_region 5 with fail;refine aI 1 ?_;refine akj (dD false rfl akt evk HG) ?_;refine aF 1 ?_;go_upto_region 6 with fail;refine aI 1 ?_;refine akj (aH true rfl akt evk H1) ?_;refine runs 1 ?_;refine akq (ax rfl akt wv) ?_;refine akq (aD rfl akt (vW (HO.out ▸ HT3.out.at0.cells.2.2.2.2))) ?_;refine aF 2 ?_;go_upto_region 7 with fail;refine cf 1 ?_;go_wp2_with fail;go_ret;exact ⟨rfl, HT3.out.bel⟩
theorem acl {x : Ros} {a c n : Nat} (hf : aW x = true) (ha : many x 1 = a) (hc : many x 2 = c) (hn : IntKind.i64.wrap ((a : Int) + (c : Int)) = (n : Int)) (hg : decide ((2 : Int) <= (n : Int)) = false) (h1 : ((n : Int) == 1) = false) (ho : x.gone = true) (w : World) : Calls prog 133 #[ros x] w fun e w' => e = .returned (.int .i64 4) /\ Below w.heap.size w w' := by
 have HT1 := ae (iZ.new w x);have HF := ae hf;have HA := ae ha;have HC := ae hc;have HN := ae hn;have HG := ae hg;have H1 := ae h1;have HO := ae ho;clear hf ha hc hn hg h1 ho;go_enter func133, ntmps133;go_upto_region 1 with (first | (refine aw rfl (a6 rfl rfl) ?_) | fail);generalize w.alloc (.cells (aZ x).toArray 58) = w1 at *;refine af ?_;refine akj (aX rfl akt (HT1.out.at0)) ?_;refine ay rfl (aB call42 rfl (evc akt evn)) ?_;refine (dO w1 HF).mono ?_;rintro e w2 ⟨rfl, hb⟩;have HT2 := ae (HT1.out.call hb);clear hb HT1;refine aR ?_;refine aF 1 ?_;go_upto_region 3 with fail;refine aS (B := w2.heap.size) (by kernel_rfl) ?_;refine akr (fun _ hw => aX rfl akt (HT2.out.above hw)) ?_;refine bQ rfl (fun _ => aB call116 rfl (evc akt (evc evk evn))) (bz aj fun w' hw => fu w' HA) ?_;simp only [aa];refine akr (fun _ hw => aX rfl akt (HT2.out.above hw)) ?_;refine bQ rfl (fun _ => aB call116 rfl (evc akt (evc evk evn))) (bz aj fun w' hw => fu w' HC) ?_;simp only [aa];refine cC 2 ?_;refine wpQuiet_nil ?_;intro w3 hw;have HT3 := ae (HT2.out.call hw);clear hw HT2;go_upto_region 4 with fail;refine aI 2 ?_;refine akj (bH rfl akt akt HN) ?_;refine aF 1 ?_;go_upto_region 5 with fail;refine aI 1 ?_;refine akj (dD false rfl akt evk HG) ?_;refine aF 1 ?_;go_upto_region 6 with fail;refine aI 1 ?_;refine akj (aH false rfl akt evk H1) ?_;refine a7 2 rfl (aM rfl akt) (by kernel_rfl) ?_;simp only [bL, ac, aa];refine aF 2 ?_;go_upto_region 8 with fail;refine af ?_;refine akj (ax rfl akt wv) ?_;refine akj (aD rfl akt (vW (HO.out ▸ HT3.out.at0.cells.2.2.2.2))) ?_;refine aF 1 ?_;go_upto_region 9 with fail;refine cf 1 ?_;go_wp2_with fail;go_ret;exact ⟨rfl, HT3.out.bel⟩
theorem aaX {x : Ros} {a c n : Nat} (hf : aW x = true) (ha : many x 1 = a) (hc : many x 2 = c) (hn : IntKind.i64.wrap ((a : Int) + (c : Int)) = (n : Int)) (hg : decide ((2 : Int) <= (n : Int)) = false) (h1 : ((n : Int) == 1) = true) (ho : x.gone = false) (h2 : ((c : Int) == 1) = true) (w : World) : Calls prog 133 #[ros x] w fun e w' => e = .returned (.int .i64 3) /\ Below w.heap.size w w' := by
 have HT1 := ae (iZ.new w x);have HF := ae hf;have HA := ae ha;have HC := ae hc;have HN := ae hn;have HG := ae hg;have H1 := ae h1;have HO := ae ho;have H2 := ae h2;clear hf ha hc hn hg h1 ho h2;go_enter func133, ntmps133;go_upto_region 1 with (first | (refine aw rfl (a6 rfl rfl) ?_) | fail);generalize w.alloc (.cells (aZ x).toArray 58) = w1 at *;refine af ?_;refine akj (aX rfl akt (HT1.out.at0)) ?_;refine ay rfl (aB call42 rfl (evc akt evn)) ?_;refine (dO w1 HF).mono ?_;rintro e w2 ⟨rfl, hb⟩;have HT2 := ae (HT1.out.call hb);clear hb HT1;refine aR ?_;refine aF 1 ?_;go_upto_region 3 with fail;refine aS (B := w2.heap.size) (by kernel_rfl) ?_;refine akr (fun _ hw => aX rfl akt (HT2.out.above hw)) ?_;refine bQ rfl (fun _ => aB call116 rfl (evc akt (evc evk evn))) (bz aj fun w' hw => fu w' HA) ?_;simp only [aa];refine akr (fun _ hw => aX rfl akt (HT2.out.above hw)) ?_;refine bQ rfl (fun _ => aB call116 rfl (evc akt (evc evk evn))) (bz aj fun w' hw => fu w' HC) ?_;simp only [aa];refine cC 2 ?_;refine wpQuiet_nil ?_;intro w3 hw;have HT3 := ae (HT2.out.call hw);clear hw HT2;go_upto_region 4 with fail;refine aI 2 ?_;refine akj (bH rfl akt akt HN) ?_;refine aF 1 ?_;go_upto_region 5 with fail;refine aI 1 ?_;refine akj (dD false rfl akt evk HG) ?_;refine aF 1 ?_;go_upto_region 6 with fail;refine aI 1 ?_;refine akj (aH true rfl akt evk H1) ?_;refine runs 1 ?_;refine akq (ax rfl akt wv) ?_;refine akq (aD rfl akt (vW (HO.out ▸ HT3.out.at0.cells.2.2.2.2))) ?_;refine aF 2 ?_;go_upto_region 8 with fail;refine af ?_;refine akj (ax rfl akt wv) ?_;refine akj (aD rfl akt (vW (HO.out ▸ HT3.out.at0.cells.2.2.2.2))) ?_;refine aF 1 ?_;go_upto_region 10 with fail;refine aI 1 ?_;refine akj (aH true rfl akt evk H2) ?_;refine aF 1 ?_;go_upto_region 11 with fail;refine cf 1 ?_;go_wp2_with fail;go_ret;exact ⟨rfl, HT3.out.bel⟩
theorem aab {x : Ros} {a c n : Nat} (hf : aW x = true) (ha : many x 1 = a) (hc : many x 2 = c) (hn : IntKind.i64.wrap ((a : Int) + (c : Int)) = (n : Int)) (hg : decide ((2 : Int) <= (n : Int)) = false) (h1 : ((n : Int) == 1) = true) (ho : x.gone = false) (h2 : ((c : Int) == 1) = false) (h3 : ((a : Int) == 1) = true) (w : World) : Calls prog 133 #[ros x] w fun e w' => e = .returned (.int .i64 2) /\ Below w.heap.size w w' := by
 have HT1 := ae (iZ.new w x);have HF := ae hf;have HA := ae ha;have HC := ae hc;have HN := ae hn;have HG := ae hg;have H1 := ae h1;have HO := ae ho;have H2 := ae h2;have H3 := ae h3;clear hf ha hc hn hg h1 ho h2 h3;go_enter func133, ntmps133;go_upto_region 1 with (first | (refine aw rfl (a6 rfl rfl) ?_) | fail);generalize w.alloc (.cells (aZ x).toArray 58) = w1 at *;refine af ?_;refine akj (aX rfl akt (HT1.out.at0)) ?_;refine ay rfl (aB call42 rfl (evc akt evn)) ?_;refine (dO w1 HF).mono ?_;rintro e w2 ⟨rfl, hb⟩;have HT2 := ae (HT1.out.call hb);clear hb HT1;refine aR ?_;refine aF 1 ?_;go_upto_region 3 with fail;refine aS (B := w2.heap.size) (by kernel_rfl) ?_;refine akr (fun _ hw => aX rfl akt (HT2.out.above hw)) ?_;refine bQ rfl (fun _ => aB call116 rfl (evc akt (evc evk evn))) (bz aj fun w' hw => fu w' HA) ?_;simp only [aa];refine akr (fun _ hw => aX rfl akt (HT2.out.above hw)) ?_;refine bQ rfl (fun _ => aB call116 rfl (evc akt (evc evk evn))) (bz aj fun w' hw => fu w' HC) ?_;simp only [aa];refine cC 2 ?_;refine wpQuiet_nil ?_;intro w3 hw;have HT3 := ae (HT2.out.call hw);clear hw HT2;go_upto_region 4 with fail;refine aI 2 ?_;refine akj (bH rfl akt akt HN) ?_;refine aF 1 ?_;go_upto_region 5 with fail;refine aI 1 ?_;refine akj (dD false rfl akt evk HG) ?_;refine aF 1 ?_;go_upto_region 6 with fail;refine aI 1 ?_;refine akj (aH true rfl akt evk H1) ?_;refine runs 1 ?_;refine akq (ax rfl akt wv) ?_;refine akq (aD rfl akt (vW (HO.out ▸ HT3.out.at0.cells.2.2.2.2))) ?_;refine aF 2 ?_;go_upto_region 8 with fail;refine af ?_;refine akj (ax rfl akt wv) ?_;refine akj (aD rfl akt (vW (HO.out ▸ HT3.out.at0.cells.2.2.2.2))) ?_;refine aF 1 ?_;go_upto_region 10 with fail;refine aI 1 ?_;refine akj (aH false rfl akt evk H2) ?_;refine aF 1 ?_;go_upto_region 12 with fail;refine aI 1 ?_;refine akj (aH true rfl akt evk H3) ?_;refine aF 1 ?_;go_upto_region 13 with fail;refine cf 1 ?_;go_wp2_with fail;go_ret;exact ⟨rfl, HT3.out.bel⟩
theorem aaL {x : Ros} {a c n : Nat} (hf : aW x = true) (ha : many x 1 = a) (hc : many x 2 = c) (hn : IntKind.i64.wrap ((a : Int) + (c : Int)) = (n : Int)) (hg : decide ((2 : Int) <= (n : Int)) = false) (h1 : ((n : Int) == 1) = false) (ho : x.gone = false) (h2 : ((c : Int) == 1) = false) (h3 : ((a : Int) == 1) = false) (w : World) : Calls prog 133 #[ros x] w fun e w' => e = .returned (.int .i64 1) /\ Below w.heap.size w w' := by
 have HT1 := ae (iZ.new w x);have HF := ae hf;have HA := ae ha;have HC := ae hc;have HN := ae hn;have HG := ae hg;have H1 := ae h1;have HO := ae ho;have H2 := ae h2;have H3 := ae h3;clear hf ha hc hn hg h1 ho h2 h3;go_enter func133, ntmps133;go_upto_region 1 with (first | (refine aw rfl (a6 rfl rfl) ?_) | fail);generalize w.alloc (.cells (aZ x).toArray 58) = w1 at *;refine af ?_;refine akj (aX rfl akt (HT1.out.at0)) ?_;refine ay rfl (aB call42 rfl (evc akt evn)) ?_;refine (dO w1 HF).mono ?_;rintro e w2 ⟨rfl, hb⟩;have HT2 := ae (HT1.out.call hb);clear hb HT1;refine aR ?_;refine aF 1 ?_;go_upto_region 3 with fail;refine aS (B := w2.heap.size) (by kernel_rfl) ?_;refine akr (fun _ hw => aX rfl akt (HT2.out.above hw)) ?_;refine bQ rfl (fun _ => aB call116 rfl (evc akt (evc evk evn))) (bz aj fun w' hw => fu w' HA) ?_;simp only [aa];refine akr (fun _ hw => aX rfl akt (HT2.out.above hw)) ?_;refine bQ rfl (fun _ => aB call116 rfl (evc akt (evc evk evn))) (bz aj fun w' hw => fu w' HC) ?_;simp only [aa];refine cC 2 ?_;refine wpQuiet_nil ?_;intro w3 hw;have HT3 := ae (HT2.out.call hw);clear hw HT2;go_upto_region 4 with fail;refine aI 2 ?_;refine akj (bH rfl akt akt HN) ?_;refine aF 1 ?_;go_upto_region 5 with fail;refine aI 1 ?_;refine akj (dD false rfl akt evk HG) ?_;refine aF 1 ?_;go_upto_region 6 with fail;refine aI 1 ?_;refine akj (aH false rfl akt evk H1) ?_;refine a7 2 rfl (aM rfl akt) (by kernel_rfl) ?_;simp only [bL, ac, aa];refine aF 2 ?_;go_upto_region 8 with fail;refine af ?_;refine akj (ax rfl akt wv) ?_;refine akj (aD rfl akt (vW (HO.out ▸ HT3.out.at0.cells.2.2.2.2))) ?_;refine aF 1 ?_;go_upto_region 10 with fail;refine aI 1 ?_;refine akj (aH false rfl akt evk H2) ?_;refine aF 1 ?_;go_upto_region 12 with fail;refine aI 1 ?_;refine akj (aH false rfl akt evk H3) ?_;refine aF 1 ?_;go_upto_region 14 with fail;refine cf 1 ?_;go_wp2_with fail;go_ret;exact ⟨rfl, HT3.out.bel⟩
theorem abt {x : Ros} (hf : aW x = true) : stN x = if 2 <= outs x \/ (outs x = 1 /\ x.gone = true) then 5 else if x.gone = true then 4 else if dG x = 1 then 3 else if outs x = 1 then 2 else 1 := by unfold stN; rw [if_pos hf]
theorem ahn (x : Ros) (w : World) : Calls prog 133 #[ros x] w fun e w' => e = .returned (.int .i64 (stN x : Nat)) /\ Below w.heap.size w w' := by
 cases hf : aW x
 ·rw [show stN x = 0 from by unfold stN; rw [hf]; rfl]; exact aby hf w
 have hn := abV (nR x 1) (nR x 2) (rh (ex hf).2.1).symm;have ho := rh (ex hf).2.1;have hh := ig x;have hm := nR x 1;have hm2 := nR x 2;rw [abt hf];by_cases c1 : 2 <= outs x
 ·rw [if_pos (.inl c1)]; exact zW hf rfl rfl hn (ao (by omega)) w
 have hg : decide ((2 : Int) <= (outs x : Int)) = false := am (by omega);cases hgo : x.gone
 ·rw [if_neg (by rintro (h | ⟨_, h⟩); exact c1 h; cases h), if_neg (by decide), hh];by_cases n1 : outs x = 1
  ·have e1 : ((outs x : Int) == 1) = true := by rw [n1]; rfl
   by_cases k1 : many x 2 = 1
   ·rw [if_pos k1]; exact aaX hf rfl rfl hn hg e1 hgo (by rw [k1]; rfl) w
   ·rw [if_neg k1, if_pos n1]; exact aab hf rfl rfl hn hg e1 hgo (by simp; omega) (by simp; omega) w
  ·have e1 : ((outs x : Int) == 1) = false := by simp; omega
   rw [if_neg (by omega), if_neg n1]; exact aaL hf rfl rfl hn hg e1 hgo (by simp; omega) (by simp; omega) w
 ·by_cases n1 : outs x = 1
  ·rw [if_pos (.inr ⟨n1, rfl⟩)]; exact ze hf rfl rfl hn hg (by rw [n1]; rfl) hgo w
  ·rw [if_neg (by omega), if_pos rfl]; exact acl hf rfl rfl hn hg (by simp; omega) hgo w
theorem tB {x : Ros} {n : Nat} (w : World) (h : stN x = n) : Calls prog 133 #[ros x] w fun e w' => e = .returned (.int .i64 (n : Nat)) /\ Below w.heap.size w w' := by subst h; exact ahn x w
end Go.Proofs.YtlmdklakcmnaiaaGreatDoor
