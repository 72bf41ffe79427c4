import Derived.Test.YtbbcdhkinbmdnaaGreatDoorLoam
import Derived.Test.YtbbcdhkinbmdnaaGreatDoorLoZ
namespace Go.Proofs.YtbbcdhkinbmdnaaGreatDoor
open Go.RowKit
set_option maxRecDepth 100000
set_option linter.unusedVariables false
structure OnD (S : List Blk) (x : LgS) (A : Nat → List Cl) (N : Nat) : Prop where
 len : S.length = 10 + x.size
 siz : 40 ≤ x.size ∧ x.size ≤ 256
 own : x.own ≠ 0 ∧ x.own < 18446744073709551616
 dev : x.d = 0
 lim : N ≤ 1000000
 cnt : 1 ≤ x.cnt ∧ x.cnt ≤ N
 fst : 1 ≤ x.fst ∧ x.next ≤ N
 pos : x.head ≤ 34 * N
 mrk : S.getD (x.cnt % 2) ap = aN.pB ⟨x.cnt, ⟨x.own, (x.size : Int), x.fst, x.pos⟩⟩
 oth : aN.gN (S.getD ((x.cnt + 1) % 2) ap) < x.cnt
 eig : x.nts.length ≤ 8
 use : x.used ≤ x.size
 nts : ∀ i, i < x.nts.length → (x.nts.getD i aM).seq = x.fst + i ∧ (x.nts.getD i aM).pos = x.pos + usd (x.nts.take i) ∧ S.getD (2 + (x.fst + i) % 8) ap = aL.pB (x.nts.getD i aM)
 old : ∀ j, j < 8 → aL.gN (S.getD (2 + j) ap) < x.next
 rcd : ∀ i, i < x.nts.length → recE (A (x.fst + i)) = 0 ∧ (x.nts.getD i aM).cells = ((A (x.fst + i)).length : Int) ∧ (x.nts.getD i aM).sum = sumB (bS (A (x.fst + i))) ∧
  ∀ j, j < (bS (A (x.fst + i))).length → S.getD (10 + ((x.nts.getD i aM).pos + j) % x.size) ap = (bS (A (x.fst + i))).getD j ap
structure Twn (S : List Blk) (x : LgS) : Prop where
 mkk : cH (S.getD ((x.cnt + 1) % 2) ap).toList = agO (S.getD ((x.cnt + 1) % 2) ap).toList ∧ cH (S.getD ((x.cnt + 1) % 2) ap).toList < x.cnt
 nt : ∀ j, j < 8 → cH (S.getD (2 + j) ap).toList = agO (S.getD (2 + j) ap).toList ∧ cH (S.getD (2 + j) ap).toList < x.next
section
variable {S S' : List Blk} {x : LgS} {A : Nat → List Cl} {N left st : Nat}
theorem OnD.tak (h : OnD S x A N) {i : Nat} (hi : i < x.nts.length) : bc (x.nts.getD i aM) = (bS (A (x.fst + i))).length ∧ 1 ≤ (A (x.fst + i)).length ∧ (A (x.fst + i)).length ≤ 32 := by
 obtain ⟨h1, h2, _⟩ := h.rcd i hi
 obtain ⟨h3, h4, _⟩ := of_recE h1
 refine ⟨?_, h3, h4⟩
 unfold bc
 rw [h2, ca, Int.toNat_natCast]
theorem OnD.end_ (h : OnD S x A N) {i : Nat} (hi : i < x.nts.length) : usd (x.nts.take i) + bc (x.nts.getD i aM) ≤ x.used := by
 have h1 := fu hi
 have h2 := fL x.nts (i + 1)
 unfold LgS.used
 omega
theorem OnD.mark_fit (h : OnD S x A N) {c f a : Nat} (hc : 1 ≤ c ∧ c ≤ 2000000) (hf : 1 ≤ f ∧ f ≤ 2000000) (ha : a ≤ 100000000) : aN.pE ⟨c, ⟨x.own, (x.size : Int), f, a⟩⟩ = 0 ∧ aN.fits ⟨c, ⟨x.own, (x.size : Int), f, a⟩⟩ := by
 obtain ⟨s1, s2⟩ := h.siz
 obtain ⟨o1, o2⟩ := h.own
 refine ⟨aN.pE_ok ?_, by show c < _; omega, by show x.own < _; omega, by show f < _; omega, by show a < _; omega⟩
 rw [dM, Bool.and_eq_true]
 exact ⟨decide_eq_true ⟨by omega, by omega⟩, decide_eq_true ⟨o1, by show (40 : Int) ≤ (x.size : Int); omega, by show (x.size : Int) ≤ 256; omega, by show 1 ≤ f; omega, by show f ≤ _; omega, by show a ≤ _; omega⟩⟩
theorem OnD.mark_got (h : OnD S x A N) : aN.gE (S.getD (x.cnt % 2) ap) = 0 ∧ aN.gX (S.getD (x.cnt % 2) ap) = ⟨x.cnt, ⟨x.own, (x.size : Int), x.fst, x.pos⟩⟩ := by
 have hl := h.lim
 have hc := h.cnt
 have hf := h.fst
 have hp := h.pos
 have hn : x.next = x.fst + x.nts.length := rfl
 have hh : x.head = x.pos + x.used := rfl
 obtain ⟨h1, h2⟩ := h.mark_fit (c := x.cnt) (f := x.fst) (a := x.pos) (by omega) (by omega) (by omega)
 rw [h.mrk]
 exact aN.put_get h2 h1
theorem OnD.record (h : OnD S x A N) {q : Nat} (hq : livQ x q = true) : rcdE (solo S [] left false st) x q = 0 ∧ rcdC (solo S [] left false st) x q = A q := by
 obtain ⟨h1, h2⟩ : x.fst ≤ q ∧ q < x.next := of_decide_eq_true hq
 have hn : x.next = x.fst + x.nts.length := rfl
 obtain ⟨i, rfl⟩ : ∃ i, q = x.fst + i := ⟨q - x.fst, by omega⟩
 have hi : i < x.nts.length := by omega
 obtain ⟨c1, c2, c3, c4⟩ := h.rcd i hi
 obtain ⟨t1, t2, t3⟩ := h.tak hi
 have hnote : x.note (x.fst + i) = x.nts.getD i aM := by unfold LgS.note; rw [show x.fst + i - x.fst = i from by omega]
 obtain ⟨s1, s2⟩ := h.siz
 have hlen := h.len
 have hsec : ∀ p, 10 + p % x.size < S.length := fun p => by have := Nat.mod_lt p (show 0 < x.size by omega); omega
 have hL : rcdL (solo S [] left false st) x (x.nts.getD i aM) = bS (A (x.fst + i)) := by
  unfold rcdL
  apply List.ext_getElem
  ·rw [List.length_map, List.length_range, t1]
  ·intro j hj1 hj2
   rw [List.getElem_map, List.getElem_range, h.dev, bK, show ((0 : Nat) : Int) = 0 from rfl, solo_rdB (hsec _), c4 j hj2, List.getD, List.getElem?_eq_getElem hj2]
   rfl
 have hr : bT (solo S [] left false st) (x.d : Int) (bK x.size (x.nts.getD i aM).pos) = 0 := by
  rw [h.dev]
  have := hsec (x.nts.getD i aM).pos
  exact solo_rdE ⟨by unfold bK; omega, by unfold bK; omega⟩
 obtain ⟨g1, g2⟩ := rec_got c1
 have hE : rcdE (solo S [] left false st) x (x.fst + i) = 0 := by
  unfold rcdE
  rw [if_pos hq, hnote, if_pos hr, hL]
  unfold rcdF
  rw [if_pos c3.symm, c2, g1]
  rfl
 refine ⟨hE, ?_⟩
 unfold rcdC
 rw [if_pos hE, hnote, hL, c2, g2]
theorem OnD.keep (h : OnD S x A N) (hl : S'.length = S.length) (hm : S'.getD (x.cnt % 2) ap = S.getD (x.cnt % 2) ap) (ho : aN.gN (S'.getD ((x.cnt + 1) % 2) ap) < x.cnt)
  (hn : ∀ j, j < 8 → S'.getD (2 + j) ap = S.getD (2 + j) ap ∨ (aL.gN (S'.getD (2 + j) ap) < x.next ∧ ∀ i, i < x.nts.length → (x.fst + i) % 8 ≠ j))
  (hr : ∀ p, x.pos ≤ p → p < x.head → S'.getD (10 + p % x.size) ap = S.getD (10 + p % x.size) ap) : OnD S' x A N where
 len := hl.trans h.len
 siz := h.siz
 own := h.own
 dev := h.dev
 lim := h.lim
 cnt := h.cnt
 fst := h.fst
 pos := h.pos
 mrk := hm.trans h.mrk
 oth := ho
 eig := h.eig
 use := h.use
 nts := fun i hi => by
  obtain ⟨h1, h2, h3⟩ := h.nts i hi
  refine ⟨h1, h2, ?_⟩
  rcases hn ((x.fst + i) % 8) (Nat.mod_lt _ (by omega)) with e | ⟨_, e⟩
  ·rw [e]; exact h3
  ·exact absurd rfl (e i hi)
 old := fun j hj => by
  rcases hn j hj with e | ⟨e, _⟩
  ·rw [e]; exact h.old j hj
  ·exact e
 rcd := fun i hi => by
  obtain ⟨h1, h2, h3, h4⟩ := h.rcd i hi
  refine ⟨h1, h2, h3, fun j hj => ?_⟩
  obtain ⟨n1, n2, n3⟩ := h.nts i hi
  have he := h.end_ hi
  have ht := (h.tak hi).1
  rw [hr _ (by omega) (by unfold LgS.head; omega)]
  exact h4 j hj
end
section
variable {S S' : List Blk} {x : LgS} {A : Nat → List Cl} {N left st : Nat} {cs : List Cl} {f : Nat}
theorem of_appQ (h : appQ x cs = 0) : recE cs = 0 ∧ x.nts.length < 8 ∧ (bS cs).length ≤ x.free := by
 unfold appQ at h
 by_cases h1 : recE cs = 0
 ·rw [if_neg (by omega)] at h
  by_cases h2 : 8 ≤ x.nts.length ∨ x.free < (bS cs).length
  ·rw [if_pos h2] at h; cases h
  ·exact ⟨h1, by omega, by omega⟩
 ·rw [if_pos h1] at h; omega
def upA (A : Nat → List Cl) (q : Nat) (cs : List Cl) : Nat → List Cl := fun p => if p = q then cs else A p
theorem upA_at : upA A f cs f = cs := if_pos rfl
theorem upA_off {q : Nat} (h : q ≠ f) : upA A f cs q = A q := if_neg h
theorem fB : bc (dh x cs) = (bS cs).length := by unfold bc dh; rw [ca]; simp
theorem getD_app_lt {α : Type} {l : List α} {a d : α} {i : Nat} (h : i < l.length) : (l ++ [a]).getD i d = l.getD i d := by simp [List.getD, List.getElem?_append_left h]
theorem getD_app_at {α : Type} {l : List α} {a d : α} : (l ++ [a]).getD l.length d = a := by simp [List.getD]
theorem lgNt_fit (h : OnD S x A N) (hq : appQ x cs = 0) (hN : N + 1 ≤ 1000000) : aL.pE (dh x cs) = 0 ∧ (dh x cs).fit := by
 obtain ⟨q1, q2, q3⟩ := of_appQ hq
 obtain ⟨r1, r2, _⟩ := of_recE q1
 have hf := h.fst
 have hp := h.pos
 have hs := sumB_lt (bS cs)
 refine ⟨aL.pE_ok (decide_eq_true ⟨?_, ?_, ?_, ?_, ?_⟩), ?_, ?_, ?_⟩
 ·show 1 ≤ x.next; unfold LgS.next; omega
 ·show x.next ≤ _; omega
 ·show x.head ≤ _; omega
 ·show (1 : Int) ≤ (cs.length : Int); omega
 ·show (cs.length : Int) ≤ 32; omega
 ·show x.next < _; omega
 ·show x.head < _; omega
 ·exact hs
theorem OnD.app (h : OnD S x A N) (hq : appQ x cs = 0) (hN : N + 1 ≤ 1000000) (hl : S'.length = S.length) (h0 : ∀ j, j < 2 → S'.getD j ap = S.getD j ap)
  (hn : ∀ j, j < 8 → j ≠ x.next % 8 → S'.getD (2 + j) ap = S.getD (2 + j) ap) (hb : S'.getD (2 + x.next % 8) ap = aL.pB (dh x cs))
  (hr : ∀ p, x.pos ≤ p → p < x.head → S'.getD (10 + p % x.size) ap = S.getD (10 + p % x.size) ap)
  (hw : ∀ i, i < (bS cs).length → S'.getD (10 + (x.head + i) % x.size) ap = (bS cs).getD i ap) : OnD S' (x.with_ (dh x cs)) (upA A x.next cs) (N + 1) := by
 obtain ⟨q1, q2, q3⟩ := of_appQ hq
 obtain ⟨r1, r2, _⟩ := of_recE q1
 obtain ⟨p1, p2⟩ := lgNt_fit h hq hN
 have hnx : x.next = x.fst + x.nts.length := rfl
 have hhd : x.head = x.pos + x.used := rfl
 have huse := h.use
 have hfr : x.free = x.size - x.used := rfl
 have hrl := ca cs
 have hhd2 : hd cs.length ≤ 2 := by unfold hd; omega
 have hc := h.cnt
 have hf := h.fst
 have hp := h.pos
 have hsz := h.siz
 refine ⟨hl.trans h.len, h.siz, h.own, h.dev, hN, ⟨hc.1, by show x.cnt ≤ _; omega⟩, ⟨hf.1, by rw [with_next]; omega⟩, ?_, (h0 _ (Nat.mod_lt _ (by omega))).trans h.mrk, ?_, ?_, ?_, ?_, ?_, ?_⟩
 ·rw [with_head, fB]; omega
 ·show aN.gN (S'.getD ((x.cnt + 1) % 2) ap) < x.cnt
  rw [h0 _ (Nat.mod_lt _ (by omega))]; exact h.oth
 ·show (x.nts ++ [dh x cs]).length ≤ 8
  rw [List.length_append, List.length_singleton]; omega
 ·rw [with_used, fB]; show _ ≤ x.size; omega
 ·intro i hi
  have hi' : i < x.nts.length + 1 := by have : i < (x.nts ++ [dh x cs]).length := hi; rwa [List.length_append, List.length_singleton] at this
  show ((x.nts ++ [dh x cs]).getD i aM).seq = x.fst + i ∧ ((x.nts ++ [dh x cs]).getD i aM).pos = x.pos + usd ((x.nts ++ [dh x cs]).take i) ∧ S'.getD (2 + (x.fst + i) % 8) ap = aL.pB ((x.nts ++ [dh x cs]).getD i aM)
  by_cases e : i = x.nts.length
  ·subst e
   rw [getD_app_at, List.take_append_of_le_length (Nat.le_refl _), List.take_length]
   exact ⟨rfl, rfl, hb⟩
  ·have hlt : i < x.nts.length := by omega
   obtain ⟨n1, n2, n3⟩ := h.nts i hlt
   rw [getD_app_lt hlt, List.take_append_of_le_length (by omega), hn _ (Nat.mod_lt _ (by omega)) (by omega)]
   exact ⟨n1, n2, n3⟩
 ·intro j hj
  rw [with_next]
  by_cases e : j = x.next % 8
  ·subst e
   rw [hb, aL.put_gN p2 p1]
   show x.next < _
   omega
  ·rw [hn j hj e]
   have := h.old j hj
   omega
 ·intro i hi
  have hi' : i < x.nts.length + 1 := by have : i < (x.nts ++ [dh x cs]).length := hi; rwa [List.length_append, List.length_singleton] at this
  show recE (upA A x.next cs (x.fst + i)) = 0 ∧ ((x.nts ++ [dh x cs]).getD i aM).cells = ((upA A x.next cs (x.fst + i)).length : Int) ∧ ((x.nts ++ [dh x cs]).getD i aM).sum = sumB (bS (upA A x.next cs (x.fst + i))) ∧
   ∀ j, j < (bS (upA A x.next cs (x.fst + i))).length → S'.getD (10 + (((x.nts ++ [dh x cs]).getD i aM).pos + j) % x.size) ap = (bS (upA A x.next cs (x.fst + i))).getD j ap
  by_cases e : i = x.nts.length
  ·subst e
   rw [getD_app_at, ← hnx, upA_at]
   exact ⟨q1, rfl, rfl, hw⟩
  ·have hlt : i < x.nts.length := by omega
   obtain ⟨n1, n2, n3⟩ := h.nts i hlt
   obtain ⟨c1, c2, c3, c4⟩ := h.rcd i hlt
   have he := h.end_ hlt
   have ht := (h.tak hlt).1
   rw [getD_app_lt hlt, upA_off (by omega)]
   refine ⟨c1, c2, c3, fun j hj => ?_⟩
   rw [hr _ (by omega) (by omega)]
   exact c4 j hj
theorem Twn.app (h : OnD S x A N) (t : Twn S x) (hq : appQ x cs = 0) (hN : N + 1 ≤ 1000000) (h0 : ∀ j, j < 2 → S'.getD j ap = S.getD j ap)
  (hn : ∀ j, j < 8 → j ≠ x.next % 8 → S'.getD (2 + j) ap = S.getD (2 + j) ap) (hb : S'.getD (2 + x.next % 8) ap = aL.pB (dh x cs)) : Twn S' (x.with_ (dh x cs)) := by
 obtain ⟨p1, p2⟩ := lgNt_fit h hq hN
 refine ⟨?_, fun j hj => ?_⟩
 ·show cH (S'.getD ((x.cnt + 1) % 2) ap).toList = agO (S'.getD ((x.cnt + 1) % 2) ap).toList ∧ cH (S'.getD ((x.cnt + 1) % 2) ap).toList < x.cnt
  rw [h0 _ (Nat.mod_lt _ (by omega))]
  exact t.mkk
 ·rw [with_next]
  by_cases e : j = x.next % 8
  ·subst e
   rw [hb]
   obtain ⟨e1, e2⟩ := aL.pB_num p1
   refine ⟨e2, ?_⟩
   rw [e1]
   show x.next < _
   omega
  ·rw [hn j hj e]
   obtain ⟨e1, e2⟩ := t.nt j hj
   exact ⟨e1, by omega⟩
theorem drop_getD {α : Type} (l : List α) (g i : Nat) (d : α) : (l.drop g).getD i d = l.getD (g + i) d := by simp [List.getD, List.getElem?_drop]
theorem OnD.clr (h : OnD S x A N) (hq : clrQ x f = true) (hN : N + 1 ≤ 1000000) (hl : S'.length = S.length) (hm : S'.getD ((x.cnt + 1) % 2) ap = aN.pB ⟨x.cnt + 1, ⟨x.own, (x.size : Int), f, x.at_ f⟩⟩)
  (ho : S'.getD (x.cnt % 2) ap = S.getD (x.cnt % 2) ap) (hr : ∀ j, 2 ≤ j → S'.getD j ap = S.getD j ap) : OnD S' (x.cut f) A (N + 1) := by
 obtain ⟨f1, f2⟩ := of_clrQ hq
 have hnx : x.next = x.fst + x.nts.length := rfl
 obtain ⟨g, rfl⟩ : ∃ g, f = x.fst + g := ⟨f - x.fst, by omega⟩
 have hg : x.fst + g - x.fst = g := by omega
 have hc := h.cnt
 have hf := h.fst
 have hp := h.pos
 have heig := h.eig
 have hcl : (x.cut (x.fst + g)).nts = x.nts.drop g := by unfold LgS.cut; simp only [hg]
 have hat : x.at_ (x.fst + g) = x.pos + usd (x.nts.take g) := by unfold LgS.at_; rw [hg]
 have husd : ∀ i, usd (x.nts.take (g + i)) = usd (x.nts.take g) + usd ((x.nts.drop g).take i) := fun i => by rw [List.take_add, fW]
 refine ⟨hl.trans h.len, h.siz, h.own, h.dev, hN, ⟨by show 1 ≤ x.cnt + 1; omega, by show x.cnt + 1 ≤ _; omega⟩, ⟨by show 1 ≤ x.fst + g; omega, by rw [cut_next hq]; omega⟩, by rw [cut_head hq]; omega, hm, ?_, ?_, Nat.le_trans (cut_used hq) h.use, ?_, ?_, ?_⟩
 ·show aN.gN (S'.getD ((x.cnt + 1 + 1) % 2) ap) < x.cnt + 1
  rw [show (x.cnt + 1 + 1) % 2 = x.cnt % 2 from by omega, ho]
  unfold Cod.gN
  rw [h.mark_got.2]
  show x.cnt < _
  omega
 ·rw [hcl, List.length_drop]; omega
 ·rw [hcl]
  intro i hi
  rw [List.length_drop] at hi
  have hlt : g + i < x.nts.length := by omega
  obtain ⟨n1, n2, n3⟩ := h.nts (g + i) hlt
  rw [drop_getD]
  refine ⟨by show _ = x.fst + g + i; omega, ?_, ?_⟩
  ·show _ = x.at_ (x.fst + g) + _
   rw [n2, hat, husd]; omega
  ·show S'.getD (2 + (x.fst + g + i) % 8) ap = _
   rw [hr _ (by omega), show x.fst + g + i = x.fst + (g + i) from by omega]
   exact n3
 ·intro j hj
  rw [hr _ (by omega), cut_next hq]
  exact h.old j hj
 ·rw [hcl]
  intro i hi
  rw [List.length_drop] at hi
  have hlt : g + i < x.nts.length := by omega
  obtain ⟨c1, c2, c3, c4⟩ := h.rcd (g + i) hlt
  rw [drop_getD]
  show recE (A (x.fst + g + i)) = 0 ∧ _ = ((A (x.fst + g + i)).length : Int) ∧ _ = sumB (bS (A (x.fst + g + i))) ∧ ∀ j, j < (bS (A (x.fst + g + i))).length → S'.getD (10 + (_ + j) % x.size) ap = (bS (A (x.fst + g + i))).getD j ap
  rw [show x.fst + g + i = x.fst + (g + i) from by omega]
  refine ⟨c1, c2, c3, fun j hj => ?_⟩
  rw [hr _ (by omega)]
  exact c4 j hj
theorem Twn.clr (h : OnD S x A N) (t : Twn S x) (hq : clrQ x f = true) (hr : ∀ j, 2 ≤ j → S'.getD j ap = S.getD j ap) (ho : S'.getD (x.cnt % 2) ap = S.getD (x.cnt % 2) ap) : Twn S' (x.cut f) := by
 refine ⟨?_, fun j hj => ?_⟩
 ·show cH (S'.getD ((x.cnt + 1 + 1) % 2) ap).toList = agO (S'.getD ((x.cnt + 1 + 1) % 2) ap).toList ∧ cH (S'.getD ((x.cnt + 1 + 1) % 2) ap).toList < x.cnt + 1
  rw [show (x.cnt + 1 + 1) % 2 = x.cnt % 2 from by omega, ho, h.mrk]
  have hl := h.lim
  have hc := h.cnt
  have hf := h.fst
  have hp := h.pos
  have hn : x.next = x.fst + x.nts.length := rfl
  have hh : x.head = x.pos + x.used := rfl
  obtain ⟨e1, e2⟩ := aN.pB_num (h.mark_fit (c := x.cnt) (f := x.fst) (a := x.pos) (by omega) (by omega) (by omega)).1
  refine ⟨e2, ?_⟩
  rw [e1]
  show x.cnt < _
  omega
 ·rw [hr _ (by omega), cut_next hq]
  exact t.nt j hj
end
section
variable {S : List Blk} {x : LgS} {A : Nat → List Cl} {N left st : Nat} {cs : List Cl} {f : Nat}
def appF (x : LgS) (cs : List Cl) (i : Nat) : Int × Blk := (bK x.size (x.head + i), (bS cs).getD i ap)
theorem recT_eq : recT x.size x.head (bS cs) = (List.range (bS cs).length).map fun i => Stp.wr (appF x cs i).1 (appF x cs i).2 := rfl
theorem appT_len : (appT x cs).length = (bS cs).length + 3 := by unfold appT; rw [recT_eq]; simp
theorem appT_ok (h : OnD S x A N) : ∀ s ∈ appT x cs, s.okn S.length := by
 have hlen := h.len
 have hsz := h.siz
 intro s hs
 unfold appT at hs
 rcases List.mem_append.1 hs with hs | hs
 ·obtain ⟨i, hi, rfl⟩ := fq hs
  have := Nat.mod_lt (x.head + i) (show 0 < x.size by omega)
  exact ⟨by unfold bK; omega, by unfold bK; omega⟩
 ·simp only [List.mem_cons, List.not_mem_nil, or_false] at hs
  rcases hs with rfl | rfl | rfl
  ·trivial
  ·have := Nat.mod_lt x.next (show 0 < 8 by omega)
   exact ⟨by unfold cp; omega, by unfold cp; omega⟩
  ·trivial
theorem app_off (h : OnD S x A N) (hq : appQ x cs = 0) {V : List (Int × Blk)} (hV : ∀ q ∈ V, ∃ i, i < (bS cs).length ∧ q.1 = bK x.size (x.head + i)) :
  (∀ j, j < 10 → ∀ q ∈ V, q.1.toNat ≠ j) ∧ ∀ p, x.pos ≤ p → p < x.head → ∀ q ∈ V, q.1.toNat ≠ 10 + p % x.size := by
 obtain ⟨_, _, q3⟩ := of_appQ hq
 have huse := h.use
 have hfr : x.free = x.size - x.used := rfl
 have hhd : x.head = x.pos + x.used := rfl
 constructor
 ·intro j hj q hm
  obtain ⟨i, _, e⟩ := hV q hm
  rw [e, eS]
  omega
 ·intro p h1 h2 q hm
  obtain ⟨i, hi, e⟩ := hV q hm
  rw [e, eS]
  have := mod_ne (r := x.size) (p := p) (q := x.head + i) (by omega) (by omega)
  omega
theorem app_in {k : Nat} (hk : k ≤ (bS cs).length) : ∀ q ∈ (List.range k).map (appF x cs), ∃ i, i < (bS cs).length ∧ q.1 = bK x.size (x.head + i) := by
 intro q hm
 obtain ⟨i, hi, rfl⟩ := fq hm
 exact ⟨i, by omega, rfl⟩
def appR (S : List Blk) (x : LgS) (cs : List Cl) : List Blk := flS S ((List.range (bS cs).length).map (appF x cs))
theorem appR_is (h : OnD S x A N) (hq : appQ x cs = 0) : (appR S x cs).length = S.length ∧ (∀ j, j < 10 → (appR S x cs).getD j ap = S.getD j ap) ∧
  (∀ p, x.pos ≤ p → p < x.head → (appR S x cs).getD (10 + p % x.size) ap = S.getD (10 + p % x.size) ap) ∧ ∀ i, i < (bS cs).length → (appR S x cs).getD (10 + (x.head + i) % x.size) ap = (bS cs).getD i ap := by
 obtain ⟨o1, o2⟩ := app_off h hq (app_in (x := x) (cs := cs) (Nat.le_refl _))
 obtain ⟨_, _, q3⟩ := of_appQ hq
 have huse := h.use
 have hfr : x.free = x.size - x.used := rfl
 have hsz := h.siz
 have hlen := h.len
 refine ⟨fC _ _, fun j hj => flS_off (o1 j hj) S, fun p h1 h2 => flS_off (o2 p h1 h2) S, fun i hi => ?_⟩
 have := flS_rng (appF x cs) S (bS cs).length (fun i hi => by
   show (bK x.size (x.head + i)).toNat < _
   rw [eS]
   have := Nat.mod_lt (x.head + i) (show 0 < x.size by omega)
   omega) (fun i j hi hj hne => by
   show (bK x.size (x.head + i)).toNat ≠ (bK x.size (x.head + j)).toNat
   rw [eS, eS]
   rcases Nat.lt_or_ge i j with hlt | hge
   ·have := mod_ne (r := x.size) (p := x.head + i) (q := x.head + j) (by omega) (by omega)
    omega
   ·have := mod_ne (r := x.size) (p := x.head + j) (q := x.head + i) (by omega) (by omega)
    omega) i hi
 rw [show (appF x cs i).1.toNat = 10 + (x.head + i) % x.size from eS _ _] at this
 exact this
theorem app_aft (h : OnD S x A N) : aft (appT x cs) (S, []) = ((appR S x cs).set (2 + x.next % 8) (aL.pB (dh x cs)), []) := by
 unfold appT
 rw [aft_app, recT_eq, aft_wr, List.nil_append]
 show (flS (appR S x cs) [(cp x.next, aL.pB (dh x cs))], []) = _
 rfl
theorem app_done (h : OnD S x A N) (t : Twn S x) (hq : appQ x cs = 0) (hN : N + 1 ≤ 1000000) {S' : List Blk} (hl : S'.length = S.length) (hr : ∀ j, j ≠ 2 + x.next % 8 → S'.getD j ap = (appR S x cs).getD j ap) (hb : S'.getD (2 + x.next % 8) ap = aL.pB (dh x cs)) :
  OnD S' (x.with_ (dh x cs)) (upA A x.next cs) (N + 1) ∧ Twn S' (x.with_ (dh x cs)) := by
 obtain ⟨_, r1, r2, r3⟩ := appR_is h hq
 have hm := Nat.mod_lt x.next (show 0 < 8 by omega)
 have a0 : ∀ j, j < 2 → S'.getD j ap = S.getD j ap := fun j hj => by rw [hr j (by omega), r1 j (by omega)]
 have a1 : ∀ j, j < 8 → j ≠ x.next % 8 → S'.getD (2 + j) ap = S.getD (2 + j) ap := fun j hj hne => by rw [hr _ (by omega), r1 _ (by omega)]
 exact ⟨h.app hq hN hl a0 a1 hb (fun p h1 h2 => by rw [hr _ (by omega), r2 p h1 h2]) (fun i hi => by rw [hr _ (by omega), r3 i hi]), Twn.app h t hq hN a0 a1 hb⟩
theorem app_same (h : OnD S x A N) (hq : appQ x cs = 0) {S' : List Blk} (hl : S'.length = S.length) (h0 : ∀ j, j < 10 → j ≠ 2 + x.next % 8 → S'.getD j ap = S.getD j ap) (hb : S'.getD (2 + x.next % 8) ap = S.getD (2 + x.next % 8) ap ∨ aL.gN (S'.getD (2 + x.next % 8) ap) < x.next)
  (hr : ∀ p, x.pos ≤ p → p < x.head → S'.getD (10 + p % x.size) ap = S.getD (10 + p % x.size) ap) : OnD S' x A N := by
 obtain ⟨_, q2, _⟩ := of_appQ hq
 have hnx : x.next = x.fst + x.nts.length := rfl
 have h2 : ∀ a : Nat, a % 2 < 2 := fun a => Nat.mod_lt _ (by omega)
 refine h.keep hl (h0 _ (by have := h2 x.cnt; omega) (by have := h2 x.cnt; omega)) ?_ (fun j hj => ?_) hr
 ·rw [h0 _ (by have := h2 (x.cnt + 1); omega) (by have := h2 (x.cnt + 1); omega)]
  exact h.oth
 ·by_cases e : j = x.next % 8
  ·subst e
   rcases hb with e | e
   ·exact .inl e
   ·exact .inr ⟨e, fun i hi => by omega⟩
  ·exact .inl (h0 _ (by omega) (by omega))
theorem app_go (h : OnD S x A N) (t : Twn S x) (hq : appQ x cs = 0) (hN : N + 1 ≤ 1000000) :
  ((left = 0 ∨ (bS cs).length + 3 < left) ∧ appE (solo S [] left false st) x cs = 0 ∧ ∃ S', appB (solo S [] left false st) x cs = solo S' [] (left - ((bS cs).length + 3)) false (st + ((bS cs).length + 3)) ∧ OnD S' (x.with_ (dh x cs)) (upA A x.next cs) (N + 1) ∧ Twn S' (x.with_ (dh x cs))) ∨
  (1 ≤ left ∧ appE (solo S [] left false st) x cs = 8 ∧ ∃ S1 L1 st', appB (solo S [] left false st) x cs = solo S1 L1 1 true st' ∧ st' ≤ st + ((bS cs).length + 3) ∧ L1.length ≤ 40 ∧ ∀ P, OnD (crI S1 L1 P L1.length) x A N ∨ OnD (crI S1 L1 P L1.length) (x.with_ (dh x cs)) (upA A x.next cs) (N + 1)) := by
 obtain ⟨rl, r1, r2, r3⟩ := appR_is h hq
 obtain ⟨e0, _, _⟩ := of_appQ hq
 obtain ⟨c1, c2, _⟩ := of_recE e0
 have hrl := ca cs
 have hhd2 : hd cs.length ≤ 2 := by unfold hd; omega
 have hm := Nat.mod_lt x.next (show 0 < 8 by omega)
 have hlen := h.len
 have hsz := h.siz
 unfold appE appB
 rw [if_pos hq, if_pos hq, h.dev]
 rcases solo_go (appT x cs) S [] left st (appT_ok h) with ⟨g1, g2, g3⟩ | ⟨g1, g2, g3, g4⟩
 ·left
  rw [appT_len] at g1 g3
  refine ⟨g1, g2, _, by rw [show ((0 : Nat) : Int) = 0 from rfl, g3, app_aft h], ?_⟩
  exact app_done h t hq hN (by rw [List.length_set, rl]) (fun j hj => bN hj) (dd (by rw [rl]; omega))
 ·right
  rw [appT_len] at g2
  refine ⟨g1, g3, _, _, _, g4, by omega, ?_, ?_⟩
  ·have hlw : ∀ (l : List Stp) (z : List Blk × List (Int × Blk)), (aft l z).2.length ≤ z.2.length + l.length := by
    intro l
    induction l with
    | nil => intro z; exact Nat.le_refl _
    | cons s l ih =>
     intro z
     cases s with
     | wr n b => have := ih (z.1, z.2 ++ [(n, b)]); rw [List.length_append] at this; rw [List.length_cons]; show (aft l _).2.length ≤ _; simp only [List.length_singleton] at this; omega
     | fl => have := ih (flS z.1 z.2, []); rw [List.length_cons]; show (aft l _).2.length ≤ _; simp only [List.length_nil] at this; omega
   have := hlw ((appT x cs).take (left - 1)) (S, [])
   rw [List.length_take] at this
   simp only [List.length_nil] at this
   have hal := appT_len (x := x) (cs := cs)
   omega
  ·intro P
   have hn := ca cs
   by_cases k1 : left - 1 ≤ (bS cs).length
   ·
    have e : aft ((appT x cs).take (left - 1)) (S, []) = (S, (List.range (left - 1)).map (appF x cs)) := by
     unfold appT
     rw [List.take_append_of_le_length (by rw [recT_eq, List.length_map, List.length_range]; exact k1), recT_eq, ← List.map_take, List.take_range, Nat.min_eq_left k1, aft_wr, List.nil_append]
    rw [e]
    obtain ⟨o1, o2⟩ := app_off h hq (app_in (x := x) (cs := cs) k1)
    exact .inl (app_same h hq (crI_len _ _ _ _) (fun j hj _ => crI_keep (o1 j hj) _ (Nat.le_refl _)) (.inl (crI_keep (o1 _ (by omega)) _ (Nat.le_refl _))) (fun p h1 h2 => crI_keep (o2 p h1 h2) _ (Nat.le_refl _)))
   ·by_cases k2 : left - 1 = (bS cs).length + 1
    ·have e : aft ((appT x cs).take (left - 1)) (S, []) = (appR S x cs, []) := by
      unfold appT
      rw [List.take_append, k2, recT_eq, List.length_map, List.length_range, List.take_of_length_le (by rw [List.length_map, List.length_range]; omega), show (bS cs).length + 1 - (bS cs).length = 1 from by omega, aft_app, aft_wr, List.nil_append]
      rfl
     rw [e]
     exact .inl (app_same h hq rl (fun j hj _ => r1 j hj) (.inl (r1 _ (by omega))) r2)
    ·have k3 : left - 1 = (bS cs).length + 2 := by omega
     have e : aft ((appT x cs).take (left - 1)) (S, []) = (appR S x cs, [(cp x.next, aL.pB (dh x cs))]) := by
      unfold appT
      rw [List.take_append, k3, recT_eq, List.length_map, List.length_range, List.take_of_length_le (by rw [List.length_map, List.length_range]; omega), show (bS cs).length + 2 - (bS cs).length = 2 from by omega, aft_app, aft_wr, List.nil_append]
      rfl
     rw [e]
     show OnD (crI (appR S x cs) [(cp x.next, aL.pB (dh x cs))] P 1) x A N ∨ OnD (crI (appR S x cs) [(cp x.next, aL.pB (dh x cs))] P 1) _ _ _
     rw [crI_one, show (cp x.next).toNat = 2 + x.next % 8 from by unfold cp; omega]
     obtain ⟨d, hd⟩ : ∃ d, torn ((appR S x cs).getD (2 + x.next % 8) ap) (aL.pB (dh x cs)) (P.getD 0 0) = d := ⟨_, rfl⟩
     rw [hd]
     have hlt : 2 + x.next % 8 < (appR S x cs).length := by rw [rl]; omega
     have hat : ((appR S x cs).set (2 + x.next % 8) d).getD (2 + x.next % 8) ap = d := dd hlt
     have hoff : ∀ j, j ≠ 2 + x.next % 8 → ((appR S x cs).set (2 + x.next % 8) d).getD j ap = (appR S x cs).getD j ap := fun j hj => bN hj
     obtain ⟨u1, u2⟩ := t.nt _ hm
     rw [r1 _ (by omega)] at hd
     rcases aL.torn_two (lgNt_fit h hq hN).1 u1 (by show _ ≠ x.next; omega) hd with e | e | e
     ·right
      exact (app_done h t hq hN (by rw [List.length_set, rl]) hoff (by rw [hat, e])).1
     ·left
      exact app_same h hq (by rw [List.length_set, rl]) (fun j hj hne => by rw [hoff j hne, r1 j hj]) (.inl (by rw [hat, e])) (fun p h1 h2 => by rw [hoff _ (by omega), r2 p h1 h2])
     ·left
      exact app_same h hq (by rw [List.length_set, rl]) (fun j hj hne => by rw [hoff j hne, r1 j hj]) (.inr (by rw [hat, aL.gN_no e]; have := h.fst; unfold LgS.next; omega)) (fun p h1 h2 => by rw [hoff _ (by omega), r2 p h1 h2])
end
section
variable {S : List Blk} {x : LgS} {A : Nat → List Cl} {N left st : Nat} {f : Nat}
theorem clr_go (h : OnD S x A N) (t : Twn S x) (hq : clrQ x f = true) (hN : N + 1 ≤ 1000000) :
  ((left = 0 ∨ 2 < left) ∧ clrE (solo S [] left false st) x f = 0 ∧ ∃ S', clrB (solo S [] left false st) x f = solo S' [] (left - 2) false (st + 2) ∧ OnD S' (x.cut f) A (N + 1) ∧ Twn S' (x.cut f)) ∨
  (1 ≤ left ∧ clrE (solo S [] left false st) x f = 8 ∧ ∃ S1 L1 st', clrB (solo S [] left false st) x f = solo S1 L1 1 true st' ∧ st' ≤ st + 2 ∧ L1.length ≤ 40 ∧ ∀ P, OnD (crI S1 L1 P L1.length) x A N ∨ OnD (crI S1 L1 P L1.length) (x.cut f) A (N + 1)) := by
 obtain ⟨f1, f2⟩ := of_clrQ hq
 have hlen := h.len
 have hsz := h.siz
 have hl := h.lim
 have hc := h.cnt
 have hf := h.fst
 have hp := h.pos
 have hat : x.at_ f ≤ x.head := by
  unfold LgS.at_ LgS.head LgS.used
  have := fL x.nts (f - x.fst)
  omega
 have h2 : (x.cnt + 1) % 2 < 2 := Nat.mod_lt _ (by omega)
 have hne : x.cnt % 2 ≠ (x.cnt + 1) % 2 := by omega
 obtain ⟨p1, p2⟩ := h.mark_fit (c := x.cnt + 1) (f := f) (a := x.at_ f) (by omega) (by omega) (by omega)
 obtain ⟨mb, hmb⟩ : ∃ mb, aN.pB ⟨x.cnt + 1, ⟨x.own, (x.size : Int), f, x.at_ f⟩⟩ = mb := ⟨_, rfl⟩
 have hok : ∀ s ∈ mkT x.own x.size (x.cnt + 1) f (x.at_ f), s.okn S.length := by
  intro s hs
  unfold mkT at hs
  simp only [List.mem_cons, List.not_mem_nil, or_false] at hs
  rcases hs with rfl | rfl
  ·exact ⟨by unfold eJ; omega, by unfold eJ; omega⟩
  ·trivial
 unfold clrE clrB
 rw [if_pos hq, if_pos hq, h.dev, show ((0 : Nat) : Int) = 0 from rfl]
 have hlt : (x.cnt + 1) % 2 < S.length := by omega
 have hto : (eJ (x.cnt + 1)).toNat = (x.cnt + 1) % 2 := by unfold eJ; omega
 have done : ∀ d, d = mb → OnD (S.set ((x.cnt + 1) % 2) d) (x.cut f) A (N + 1) ∧ Twn (S.set ((x.cnt + 1) % 2) d) (x.cut f) := fun d e => by
  subst e
  exact ⟨h.clr hq hN (List.length_set ..) (by rw [dd hlt, hmb]) (bN hne) (fun j hj => bN (by omega)), Twn.clr h t hq (fun j hj => bN (by omega)) (bN hne)⟩
 rcases solo_go (mkT x.own x.size (x.cnt + 1) f (x.at_ f)) S [] left st hok with ⟨g1, g2, g3⟩ | ⟨g1, g2, g3, g4⟩
 ·left
  refine ⟨g1, g2, S.set ((x.cnt + 1) % 2) mb, ?_, done mb rfl⟩
  rw [g3]
  show solo (flS S [(eJ (x.cnt + 1), aN.pB _)]) [] _ _ _ = _
  rw [hmb]
  show solo (S.set (eJ (x.cnt + 1)).toNat mb) [] _ _ _ = _
  rw [hto]
  rfl
 ·right
  have g2' : left ≤ 2 := g2
  refine ⟨g1, g3, _, _, _, g4, by omega, ?_, ?_⟩
  ·have : left - 1 = 0 ∨ left - 1 = 1 := by omega
   rcases this with e | e
   ·rw [e]; exact Nat.zero_le _
   ·rw [e]; show 1 ≤ 40; omega
  ·intro P
   have : left - 1 = 0 ∨ left - 1 = 1 := by omega
   rcases this with e | e
   ·rw [e]; exact .inl h
   ·rw [e]
    show OnD (crI S [(eJ (x.cnt + 1), aN.pB ⟨x.cnt + 1, ⟨x.own, (x.size : Int), f, x.at_ f⟩⟩)] P 1) x A N ∨ OnD (crI S [(eJ (x.cnt + 1), aN.pB ⟨x.cnt + 1, ⟨x.own, (x.size : Int), f, x.at_ f⟩⟩)] P 1) _ _ _
    rw [crI_one, hto]
    obtain ⟨d, hd⟩ : ∃ d, torn (S.getD ((x.cnt + 1) % 2) ap) (aN.pB ⟨x.cnt + 1, ⟨x.own, (x.size : Int), f, x.at_ f⟩⟩) (P.getD 0 0) = d := ⟨_, rfl⟩
    rw [hd]
    obtain ⟨u1, u2⟩ := t.mkk
    have same : aN.gN d < x.cnt → OnD (S.set ((x.cnt + 1) % 2) d) x A N := fun hg =>
     h.keep (List.length_set ..) (bN hne) (by rw [dd hlt]; exact hg) (fun j hj => .inl (bN (by omega))) (fun p _ _ => bN (by omega))
    rcases aN.torn_two p1 u1 (by show _ ≠ x.cnt + 1; omega) hd with e | e | e
    ·exact .inr (done d (e.trans hmb)).1
    ·left; refine same ?_; rw [e]; exact h.oth
    ·left; refine same ?_; rw [aN.gN_no e]; omega
end
theorem zeroB_num : cH ap.toList = agO ap.toList ∧ cH ap.toList = 0 := by decide
theorem lay_go (id r : Nat) (st : Nat) (hid : id ≠ 0 ∧ id < 18446744073709551616) (hr : 40 ≤ r ∧ r ≤ 256) (A : Nat → List Cl) :
  layE (solo (List.replicate (10 + r) ap) [] 0 false st) 0 id (r : Int) = 0 ∧ ∃ S, layB (solo (List.replicate (10 + r) ap) [] 0 false st) 0 id (r : Int) = solo S [] 0 false (st + 13) ∧ OnD S (layX 0 id (r : Int)) A 1 ∧ Twn S (layX 0 id (r : Int)) := by
 have hQ : layQ (solo (List.replicate (10 + r) ap) [] 0 false st) 0 id (r : Int) = true := decide_eq_true ⟨solo_has _, hid.1, by omega, by omega, by rw [solo_se, List.length_replicate]; omega⟩
 have hok : ∀ s ∈ layT id (r : Int), s.okn (List.replicate (10 + r) ap).length := by
  rw [List.length_replicate]
  intro s hs
  unfold layT at hs
  rcases List.mem_append.1 hs with hs | hs
  ·obtain ⟨i, hi, rfl⟩ := fq hs
   exact ⟨by omega, by omega⟩
  ·unfold mkT at hs
   simp only [List.mem_cons, List.not_mem_nil, or_false] at hs
   rcases hs with rfl | rfl | rfl
   ·trivial
   ·exact ⟨by unfold eJ; omega, by unfold eJ; omega⟩
   ·trivial
 unfold layE layB
 rw [if_pos hQ, if_pos hQ]
 rcases solo_go (layT id (r : Int)) _ [] 0 st hok with ⟨g1, g2, g3⟩ | ⟨g1, _⟩
 ·refine ⟨g2, ?_⟩
  obtain ⟨Z, hZ⟩ : ∃ Z, flS (List.replicate (10 + r) ap) ((List.range 10).map fun (i : Nat) => ((i : Int), ap)) = Z := ⟨_, rfl⟩
  have hZl : Z.length = 10 + r := by rw [← hZ, fC, List.length_replicate]
  have hZz : ∀ j, Z.getD j ap = ap := fun j => by
   rw [← hZ]
   refine flS_zero (fun q hq => ?_) _ (by simp [List.getD, List.getElem?_replicate]; split <;> rfl)
   obtain ⟨i, _, rfl⟩ := fq hq
   rfl
  obtain ⟨mb, hmb⟩ : ∃ mb, aN.pB ⟨1, ⟨id, (r : Int), 1, 0⟩⟩ = mb := ⟨_, rfl⟩
  have ha : aft (layT id (r : Int)) (List.replicate (10 + r) ap, []) = (Z.set 1 mb, []) := by
   unfold layT
   rw [aft_app]
   have : aft zerT (List.replicate (10 + r) ap, []) = (List.replicate (10 + r) ap, (List.range 10).map fun (i : Nat) => ((i : Int), ap)) := by
    have := aft_wr (fun (i : Nat) => ((i : Int), ap)) 10 (List.replicate (10 + r) ap, [])
    rw [List.nil_append] at this
    exact this
   rw [this]
   show (flS (flS _ _) [(eJ 1, aN.pB ⟨1, ⟨id, (((r : Int).toNat : Nat) : Int), 1, 0⟩⟩)], []) = _
   rw [hZ, Int.toNat_natCast, hmb]
   rfl
  rw [ha] at g3
  have hat : (Z.set 1 mb).getD 1 ap = mb := dd (by omega)
  have hoff : ∀ j, j ≠ 1 → (Z.set 1 mb).getD j ap = ap := fun j hj => (bN hj).trans (hZz j)
  have gz : aN.gN ap = 0 := aN.gN_no (by rw [aN.g_zero]; omega)
  have gz2 : aL.gN ap = 0 := aL.gN_no (by rw [aL.g_zero]; omega)
  refine ⟨Z.set 1 mb, g3, ?_, ?_⟩
  ·refine ⟨by rw [List.length_set, hZl]; rfl, by show 40 ≤ (r : Int).toNat ∧ _; rw [Int.toNat_natCast]; exact hr, hid, rfl, by omega, ⟨Nat.le_refl _, Nat.le_refl _⟩, ⟨Nat.le_refl _, Nat.le_refl _⟩, ?_, ?_, ?_, by show 0 ≤ 8; omega, ?_, fun i hi => absurd hi (by show ¬ i < 0; omega), fun j hj => ?_, fun i hi => absurd hi (by show ¬ i < 0; omega)⟩
   ·show 0 + 0 ≤ _; omega
   ·show (Z.set 1 mb).getD 1 ap = aN.pB ⟨1, ⟨id, (((r : Int).toNat : Nat) : Int), 1, 0⟩⟩
    rw [hat, Int.toNat_natCast, hmb]
   ·rw [show ((layX 0 id (r : Int)).cnt + 1) % 2 = 0 from (by show (1 + 1) % 2 = 0; decide), hoff 0 (by omega), gz]
    exact Nat.zero_lt_one
   ·show 0 ≤ _; omega
   ·rw [hoff _ (by omega), gz2]; show 0 < 1; omega
  ·obtain ⟨z1, z2⟩ := zeroB_num
   refine ⟨?_, fun j hj => ?_⟩
   ·rw [show ((layX 0 id (r : Int)).cnt + 1) % 2 = 0 from (by show (1 + 1) % 2 = 0; decide), hoff 0 (by omega)]
    exact ⟨z1, by rw [z2]; exact Nat.zero_lt_one⟩
   ·rw [hoff _ (by omega)]
    exact ⟨z1, by show _ < 1; omega⟩
 ·omega
theorem room_stp {d : Int} {M : BenS} {k : Nat} (h : Room M (k + 1)) (s : Stp) : Room (stpS d M s) k := by
 cases s with
 | wr n b => exact room_wr h d n b
 | fl => exact room_fl h d
end Go.Proofs.YtbbcdhkinbmdnaaGreatDoor
