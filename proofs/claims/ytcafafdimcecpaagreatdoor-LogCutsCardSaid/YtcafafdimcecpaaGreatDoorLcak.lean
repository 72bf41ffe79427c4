import Derived.Test.YtcafafdimcecpaaGreatDoorLcaj
import Derived.Test.YtcafafdimcecpaaGreatDoorLcah
import Derived.Deep.DeepCutAuto
import Derived.Test.YtcafafdimcecpaaGreatDoorLcac
import Derived.Test.YtcafafdimcecpaaGreatDoorLcZ
namespace Go.Proofs.YtcafafdimcecpaaGreatDoor
open Go.RowKit
set_option maxRecDepth 100000
set_option linter.unusedVariables false
section
variable {S S' : List Blk} {x : LgS} {A : Nat → List Cl} {N left st : Nat} {cs : List Cl} {f : Nat}
theorem of_appQ (h : appQ x cs = 0) : recE cs = 0 ∧ x.nts.length < 8 ∧ (bE cs).length ≤ x.free := by
  unfold appQ at h
  by_cases h1 : recE cs = 0
  · rw [if_neg (by omega)] at h
    by_cases h2 : 8 ≤ x.nts.length ∨ x.free < (bE cs).length
    · rw [if_pos h2] at h; cases h
    · exact ⟨h1, by omega, by omega⟩
  · rw [if_pos h1] at h; omega
def upA (A : Nat → List Cl) (q : Nat) (cs : List Cl) : Nat → List Cl := fun p => if p = q then cs else A p
theorem upA_at : upA A f cs f = cs := if_pos rfl
theorem upA_off {q : Nat} (h : q ≠ f) : upA A f cs q = A q := if_neg h
theorem fg : bf (cD x cs) = (bE cs).length := by unfold bf cD; rw [bL]; simp
theorem eX {α : Type} {l : List α} {a d : α} {i : Nat} (h : i < l.length) : (l ++ [a]).getD i d = l.getD i d := by simp [List.getD, List.getElem?_append_left h]
theorem fh {α : Type} {l : List α} {a d : α} : (l ++ [a]).getD l.length d = a := by simp [List.getD]
theorem lgNt_fit (h : OnD S x A N) (hq : appQ x cs = 0) (hN : N + 1 ≤ 1000000) : aT.pE (cD x cs) = 0 ∧ (cD x cs).fit := by
  obtain ⟨q1, q2, q3⟩ := of_appQ hq
  obtain ⟨r1, r2, _⟩ := of_recE q1
  have hf := h.fst
  have hp := h.pos
  have hs := sumB_lt (bE cs)
  refine ⟨aT.pE_ok (decide_eq_true ⟨?_, ?_, ?_, ?_, ?_⟩), ?_, ?_, ?_⟩
  · show 1 ≤ x.next; unfold LgS.next; omega
  · show x.next ≤ _; omega
  · show x.head ≤ _; omega
  · show (1 : Int) ≤ (cs.length : Int); omega
  · show (cs.length : Int) ≤ 32; omega
  · show x.next < _; omega
  · show x.head < _; omega
  · exact hs
theorem OnD.app (h : OnD S x A N) (hq : appQ x cs = 0) (hN : N + 1 ≤ 1000000) (hl : S'.length = S.length) (h0 : ∀ j, j < 2 → S'.getD j al = S.getD j al)
    (hn : ∀ j, j < 8 → j ≠ x.next % 8 → S'.getD (2 + j) al = S.getD (2 + j) al) (hb : S'.getD (2 + x.next % 8) al = aT.pB (cD x cs))
    (hr : ∀ p, x.pos ≤ p → p < x.head → S'.getD (10 + p % x.size) al = S.getD (10 + p % x.size) al)
    (hw : ∀ i, i < (bE cs).length → S'.getD (10 + (x.head + i) % x.size) al = (bE cs).getD i al) : OnD S' (x.with_ (cD x cs)) (upA A x.next cs) (N + 1) := by
  obtain ⟨q1, q2, q3⟩ := of_appQ hq
  obtain ⟨r1, r2, _⟩ := of_recE q1
  obtain ⟨p1, p2⟩ := lgNt_fit h hq hN
  have hnx : x.next = x.fst + x.nts.length := rfl
  have hhd : x.head = x.pos + x.used := rfl
  have huse := h.use
  have hfr : x.free = x.size - x.used := rfl
  have hrl := bL cs
  have hhd2 : hd cs.length ≤ 2 := by unfold hd; omega
  have hc := h.cnt
  have hf := h.fst
  have hp := h.pos
  have hsz := h.siz
  refine ⟨hl.trans h.len, h.siz, h.own, h.dev, hN, ⟨hc.1, by show x.cnt ≤ _; omega⟩, ⟨hf.1, by rw [eq]; omega⟩, ?_, (h0 _ (Nat.mod_lt _ (by omega))).trans h.mrk, ?_, ?_, ?_, ?_, ?_, ?_⟩
  · rw [with_head, fg]; omega
  · show aR.gN (S'.getD ((x.cnt + 1) % 2) al) < x.cnt
    rw [h0 _ (Nat.mod_lt _ (by omega))]; exact h.oth
  · show (x.nts ++ [cD x cs]).length ≤ 8
    rw [List.length_append, List.length_singleton]; omega
  · rw [with_used, fg]; show _ ≤ x.size; omega
  · intro i hi
    have hi' : i < x.nts.length + 1 := by have : i < (x.nts ++ [cD x cs]).length := hi; rwa [List.length_append, List.length_singleton] at this
    show ((x.nts ++ [cD x cs]).getD i aG).seq = x.fst + i ∧ ((x.nts ++ [cD x cs]).getD i aG).pos = x.pos + usd ((x.nts ++ [cD x cs]).take i) ∧ S'.getD (2 + (x.fst + i) % 8) al = aT.pB ((x.nts ++ [cD x cs]).getD i aG)
    by_cases e : i = x.nts.length
    · subst e
      rw [fh, List.take_append_of_le_length (Nat.le_refl _), List.take_length]
      exact ⟨rfl, rfl, hb⟩
    · have hlt : i < x.nts.length := by omega
      obtain ⟨n1, n2, n3⟩ := h.nts i hlt
      rw [eX hlt, List.take_append_of_le_length (by omega), hn _ (Nat.mod_lt _ (by omega)) (by omega)]
      exact ⟨n1, n2, n3⟩
  · intro j hj
    rw [eq]
    by_cases e : j = x.next % 8
    · subst e
      rw [hb, aT.put_gN p2 p1]
      show x.next < _
      omega
    · rw [hn j hj e]
      have := h.old j hj
      omega
  · intro i hi
    have hi' : i < x.nts.length + 1 := by have : i < (x.nts ++ [cD x cs]).length := hi; rwa [List.length_append, List.length_singleton] at this
    show recE (upA A x.next cs (x.fst + i)) = 0 ∧ ((x.nts ++ [cD x cs]).getD i aG).cells = ((upA A x.next cs (x.fst + i)).length : Int) ∧ ((x.nts ++ [cD x cs]).getD i aG).sum = sumB (bE (upA A x.next cs (x.fst + i))) ∧
      ∀ j, j < (bE (upA A x.next cs (x.fst + i))).length → S'.getD (10 + (((x.nts ++ [cD x cs]).getD i aG).pos + j) % x.size) al = (bE (upA A x.next cs (x.fst + i))).getD j al
    by_cases e : i = x.nts.length
    · subst e
      rw [fh, ← hnx, upA_at]
      exact ⟨q1, rfl, rfl, hw⟩
    · have hlt : i < x.nts.length := by omega
      obtain ⟨n1, n2, n3⟩ := h.nts i hlt
      obtain ⟨c1, c2, c3, c4⟩ := h.rcd i hlt
      have he := h.end_ hlt
      have ht := (h.tak hlt).1
      rw [eX hlt, upA_off (by omega)]
      refine ⟨c1, c2, c3, fun j hj => ?_⟩
      rw [hr _ (by omega) (by omega)]
      exact c4 j hj
theorem Twn.app (h : OnD S x A N) (t : Twn S x) (hq : appQ x cs = 0) (hN : N + 1 ≤ 1000000) (h0 : ∀ j, j < 2 → S'.getD j al = S.getD j al)
    (hn : ∀ j, j < 8 → j ≠ x.next % 8 → S'.getD (2 + j) al = S.getD (2 + j) al) (hb : S'.getD (2 + x.next % 8) al = aT.pB (cD x cs)) : Twn S' (x.with_ (cD x cs)) := by
  obtain ⟨p1, p2⟩ := lgNt_fit h hq hN
  refine ⟨?_, fun j hj => ?_⟩
  · show cF (S'.getD ((x.cnt + 1) % 2) al).toList = agO (S'.getD ((x.cnt + 1) % 2) al).toList ∧ cF (S'.getD ((x.cnt + 1) % 2) al).toList < x.cnt
    rw [h0 _ (Nat.mod_lt _ (by omega))]
    exact t.mkk
  · rw [eq]
    by_cases e : j = x.next % 8
    · subst e
      rw [hb]
      obtain ⟨e1, e2⟩ := aT.pB_num p1
      refine ⟨e2, ?_⟩
      rw [e1]
      show x.next < _
      omega
    · rw [hn j hj e]
      obtain ⟨e1, e2⟩ := t.nt j hj
      exact ⟨e1, by omega⟩
theorem drop_getD {α : Type} (l : List α) (g i : Nat) (d : α) : (l.drop g).getD i d = l.getD (g + i) d := by simp [List.getD, List.getElem?_drop]
theorem OnD.clr (h : OnD S x A N) (hq : clrQ x f = true) (hN : N + 1 ≤ 1000000) (hl : S'.length = S.length) (hm : S'.getD ((x.cnt + 1) % 2) al = aR.pB ⟨x.cnt + 1, ⟨x.own, (x.size : Int), f, x.at_ f⟩⟩)
    (ho : S'.getD (x.cnt % 2) al = S.getD (x.cnt % 2) al) (hr : ∀ j, 2 ≤ j → S'.getD j al = S.getD j al) : OnD S' (x.cut f) A (N + 1) := by
  obtain ⟨f1, f2⟩ := of_clrQ hq
  have hnx : x.next = x.fst + x.nts.length := rfl
  obtain ⟨g, rfl⟩ : ∃ g, f = x.fst + g := ⟨f - x.fst, by omega⟩
  have hg : x.fst + g - x.fst = g := by omega
  have hc := h.cnt
  have hf := h.fst
  have hp := h.pos
  have heig := h.eig
  have hcl : (x.cut (x.fst + g)).nts = x.nts.drop g := by unfold LgS.cut; simp only [hg]
  have hat : x.at_ (x.fst + g) = x.pos + usd (x.nts.take g) := by unfold LgS.at_; rw [hg]
  have husd : ∀ i, usd (x.nts.take (g + i)) = usd (x.nts.take g) + usd ((x.nts.drop g).take i) := fun i => by rw [List.take_add, fG]
  refine ⟨hl.trans h.len, h.siz, h.own, h.dev, hN, ⟨by show 1 ≤ x.cnt + 1; omega, by show x.cnt + 1 ≤ _; omega⟩, ⟨by show 1 ≤ x.fst + g; omega, by rw [fe hq]; omega⟩, by rw [cut_head hq]; omega, hm, ?_, ?_, Nat.le_trans (cut_used hq) h.use, ?_, ?_, ?_⟩
  · show aR.gN (S'.getD ((x.cnt + 1 + 1) % 2) al) < x.cnt + 1
    rw [show (x.cnt + 1 + 1) % 2 = x.cnt % 2 from by omega, ho]
    unfold Cod.gN
    rw [h.mark_got.2]
    show x.cnt < _
    omega
  · rw [hcl, List.length_drop]; omega
  · rw [hcl]
    intro i hi
    rw [List.length_drop] at hi
    have hlt : g + i < x.nts.length := by omega
    obtain ⟨n1, n2, n3⟩ := h.nts (g + i) hlt
    rw [drop_getD]
    refine ⟨by show _ = x.fst + g + i; omega, ?_, ?_⟩
    · show _ = x.at_ (x.fst + g) + _
      rw [n2, hat, husd]; omega
    · show S'.getD (2 + (x.fst + g + i) % 8) al = _
      rw [hr _ (by omega), show x.fst + g + i = x.fst + (g + i) from by omega]
      exact n3
  · intro j hj
    rw [hr _ (by omega), fe hq]
    exact h.old j hj
  · rw [hcl]
    intro i hi
    rw [List.length_drop] at hi
    have hlt : g + i < x.nts.length := by omega
    obtain ⟨c1, c2, c3, c4⟩ := h.rcd (g + i) hlt
    rw [drop_getD]
    show recE (A (x.fst + g + i)) = 0 ∧ _ = ((A (x.fst + g + i)).length : Int) ∧ _ = sumB (bE (A (x.fst + g + i))) ∧ ∀ j, j < (bE (A (x.fst + g + i))).length → S'.getD (10 + (_ + j) % x.size) al = (bE (A (x.fst + g + i))).getD j al
    rw [show x.fst + g + i = x.fst + (g + i) from by omega]
    refine ⟨c1, c2, c3, fun j hj => ?_⟩
    rw [hr _ (by omega)]
    exact c4 j hj
theorem Twn.clr (h : OnD S x A N) (t : Twn S x) (hq : clrQ x f = true) (hr : ∀ j, 2 ≤ j → S'.getD j al = S.getD j al) (ho : S'.getD (x.cnt % 2) al = S.getD (x.cnt % 2) al) : Twn S' (x.cut f) := by
  refine ⟨?_, fun j hj => ?_⟩
  · show cF (S'.getD ((x.cnt + 1 + 1) % 2) al).toList = agO (S'.getD ((x.cnt + 1 + 1) % 2) al).toList ∧ cF (S'.getD ((x.cnt + 1 + 1) % 2) al).toList < x.cnt + 1
    rw [show (x.cnt + 1 + 1) % 2 = x.cnt % 2 from by omega, ho, h.mrk]
    have hl := h.lim
    have hc := h.cnt
    have hf := h.fst
    have hp := h.pos
    have hn : x.next = x.fst + x.nts.length := rfl
    have hh : x.head = x.pos + x.used := rfl
    obtain ⟨e1, e2⟩ := aR.pB_num (h.mark_fit (c := x.cnt) (f := x.fst) (a := x.pos) (by omega) (by omega) (by omega)).1
    refine ⟨e2, ?_⟩
    rw [e1]
    show x.cnt < _
    omega
  · rw [hr _ (by omega), fe hq]
    exact t.nt j hj
end
section
variable {S : List Blk} {x : LgS} {A : Nat → List Cl} {N left st : Nat} {cs : List Cl} {f : Nat}
def appF (x : LgS) (cs : List Cl) (i : Nat) : Int × Blk := (bV x.size (x.head + i), (bE cs).getD i al)
theorem recT_eq : recT x.size x.head (bE cs) = (List.range (bE cs).length).map fun i => Stp.wr (appF x cs i).1 (appF x cs i).2 := rfl
theorem appT_len : (appT x cs).length = (bE cs).length + 3 := by unfold appT; rw [recT_eq]; simp
theorem appT_ok (h : OnD S x A N) : ∀ s ∈ appT x cs, s.okn S.length := by
  have hlen := h.len
  have hsz := h.siz
  intro s hs
  unfold appT at hs
  rcases List.mem_append.1 hs with hs | hs
  · obtain ⟨i, hi, rfl⟩ := eQ hs
    have := Nat.mod_lt (x.head + i) (show 0 < x.size by omega)
    exact ⟨by unfold bV; omega, by unfold bV; omega⟩
  · simp only [List.mem_cons, List.not_mem_nil, or_false] at hs
    rcases hs with rfl | rfl | rfl
    · trivial
    · have := Nat.mod_lt x.next (show 0 < 8 by omega)
      exact ⟨by unfold cz; omega, by unfold cz; omega⟩
    · trivial
theorem app_off (h : OnD S x A N) (hq : appQ x cs = 0) {V : List (Int × Blk)} (hV : ∀ q ∈ V, ∃ i, i < (bE cs).length ∧ q.1 = bV x.size (x.head + i)) :
    (∀ j, j < 10 → ∀ q ∈ V, q.1.toNat ≠ j) ∧ ∀ p, x.pos ≤ p → p < x.head → ∀ q ∈ V, q.1.toNat ≠ 10 + p % x.size := by
  obtain ⟨_, _, q3⟩ := of_appQ hq
  have huse := h.use
  have hfr : x.free = x.size - x.used := rfl
  have hhd : x.head = x.pos + x.used := rfl
  constructor
  · intro j hj q hm
    obtain ⟨i, _, e⟩ := hV q hm
    rw [e, ee]
    omega
  · intro p h1 h2 q hm
    obtain ⟨i, hi, e⟩ := hV q hm
    rw [e, ee]
    have := mod_ne (r := x.size) (p := p) (q := x.head + i) (by omega) (by omega)
    omega
theorem app_in {k : Nat} (hk : k ≤ (bE cs).length) : ∀ q ∈ (List.range k).map (appF x cs), ∃ i, i < (bE cs).length ∧ q.1 = bV x.size (x.head + i) := by
  intro q hm
  obtain ⟨i, hi, rfl⟩ := eQ hm
  exact ⟨i, by omega, rfl⟩
def appR (S : List Blk) (x : LgS) (cs : List Cl) : List Blk := flS S ((List.range (bE cs).length).map (appF x cs))
theorem appR_is (h : OnD S x A N) (hq : appQ x cs = 0) : (appR S x cs).length = S.length ∧ (∀ j, j < 10 → (appR S x cs).getD j al = S.getD j al) ∧
    (∀ p, x.pos ≤ p → p < x.head → (appR S x cs).getD (10 + p % x.size) al = S.getD (10 + p % x.size) al) ∧ ∀ i, i < (bE cs).length → (appR S x cs).getD (10 + (x.head + i) % x.size) al = (bE cs).getD i al := by
  obtain ⟨o1, o2⟩ := app_off h hq (app_in (x := x) (cs := cs) (Nat.le_refl _))
  obtain ⟨_, _, q3⟩ := of_appQ hq
  have huse := h.use
  have hfr : x.free = x.size - x.used := rfl
  have hsz := h.siz
  have hlen := h.len
  refine ⟨fu _ _, fun j hj => flS_off (o1 j hj) S, fun p h1 h2 => flS_off (o2 p h1 h2) S, fun i hi => ?_⟩
  have := flS_rng (appF x cs) S (bE cs).length (fun i hi => by
      show (bV x.size (x.head + i)).toNat < _
      rw [ee]
      have := Nat.mod_lt (x.head + i) (show 0 < x.size by omega)
      omega) (fun i j hi hj hne => by
      show (bV x.size (x.head + i)).toNat ≠ (bV x.size (x.head + j)).toNat
      rw [ee, ee]
      rcases Nat.lt_or_ge i j with hlt | hge
      · have := mod_ne (r := x.size) (p := x.head + i) (q := x.head + j) (by omega) (by omega)
        omega
      · have := mod_ne (r := x.size) (p := x.head + j) (q := x.head + i) (by omega) (by omega)
        omega) i hi
  rw [show (appF x cs i).1.toNat = 10 + (x.head + i) % x.size from ee _ _] at this
  exact this
theorem app_aft (h : OnD S x A N) : aft (appT x cs) (S, []) = ((appR S x cs).set (2 + x.next % 8) (aT.pB (cD x cs)), []) := by
  unfold appT
  rw [aft_app, recT_eq, aft_wr, List.nil_append]
  show (flS (appR S x cs) [(cz x.next, aT.pB (cD x cs))], []) = _
  rfl
theorem app_done (h : OnD S x A N) (t : Twn S x) (hq : appQ x cs = 0) (hN : N + 1 ≤ 1000000) {S' : List Blk} (hl : S'.length = S.length) (hr : ∀ j, j ≠ 2 + x.next % 8 → S'.getD j al = (appR S x cs).getD j al) (hb : S'.getD (2 + x.next % 8) al = aT.pB (cD x cs)) :
    OnD S' (x.with_ (cD x cs)) (upA A x.next cs) (N + 1) ∧ Twn S' (x.with_ (cD x cs)) := by
  obtain ⟨_, r1, r2, r3⟩ := appR_is h hq
  have hm := Nat.mod_lt x.next (show 0 < 8 by omega)
  have a0 : ∀ j, j < 2 → S'.getD j al = S.getD j al := fun j hj => by rw [hr j (by omega), r1 j (by omega)]
  have a1 : ∀ j, j < 8 → j ≠ x.next % 8 → S'.getD (2 + j) al = S.getD (2 + j) al := fun j hj hne => by rw [hr _ (by omega), r1 _ (by omega)]
  exact ⟨h.app hq hN hl a0 a1 hb (fun p h1 h2 => by rw [hr _ (by omega), r2 p h1 h2]) (fun i hi => by rw [hr _ (by omega), r3 i hi]), Twn.app h t hq hN a0 a1 hb⟩
theorem app_same (h : OnD S x A N) (hq : appQ x cs = 0) {S' : List Blk} (hl : S'.length = S.length) (h0 : ∀ j, j < 10 → j ≠ 2 + x.next % 8 → S'.getD j al = S.getD j al) (hb : S'.getD (2 + x.next % 8) al = S.getD (2 + x.next % 8) al ∨ aT.gN (S'.getD (2 + x.next % 8) al) < x.next)
    (hr : ∀ p, x.pos ≤ p → p < x.head → S'.getD (10 + p % x.size) al = S.getD (10 + p % x.size) al) : OnD S' x A N := by
  obtain ⟨_, q2, _⟩ := of_appQ hq
  have hnx : x.next = x.fst + x.nts.length := rfl
  have h2 : ∀ a : Nat, a % 2 < 2 := fun a => Nat.mod_lt _ (by omega)
  refine h.keep hl (h0 _ (by have := h2 x.cnt; omega) (by have := h2 x.cnt; omega)) ?_ (fun j hj => ?_) hr
  · rw [h0 _ (by have := h2 (x.cnt + 1); omega) (by have := h2 (x.cnt + 1); omega)]
    exact h.oth
  · by_cases e : j = x.next % 8
    · subst e
      rcases hb with e | e
      · exact .inl e
      · exact .inr ⟨e, fun i hi => by omega⟩
    · exact .inl (h0 _ (by omega) (by omega))
theorem app_go (h : OnD S x A N) (t : Twn S x) (hq : appQ x cs = 0) (hN : N + 1 ≤ 1000000) :
    ((left = 0 ∨ (bE cs).length + 3 < left) ∧ appE (solo S [] left false st) x cs = 0 ∧ ∃ S', appB (solo S [] left false st) x cs = solo S' [] (left - ((bE cs).length + 3)) false (st + ((bE cs).length + 3)) ∧ OnD S' (x.with_ (cD x cs)) (upA A x.next cs) (N + 1) ∧ Twn S' (x.with_ (cD x cs))) ∨
    (1 ≤ left ∧ appE (solo S [] left false st) x cs = 8 ∧ ∃ S1 L1 st', appB (solo S [] left false st) x cs = solo S1 L1 1 true st' ∧ st' ≤ st + ((bE cs).length + 3) ∧ L1.length ≤ 40 ∧ ∀ P, OnD (crI S1 L1 P L1.length) x A N ∨ OnD (crI S1 L1 P L1.length) (x.with_ (cD x cs)) (upA A x.next cs) (N + 1)) := by
  obtain ⟨rl, r1, r2, r3⟩ := appR_is h hq
  obtain ⟨e0, _, _⟩ := of_appQ hq
  obtain ⟨c1, c2, _⟩ := of_recE e0
  have hrl := bL cs
  have hhd2 : hd cs.length ≤ 2 := by unfold hd; omega
  have hm := Nat.mod_lt x.next (show 0 < 8 by omega)
  have hlen := h.len
  have hsz := h.siz
  unfold appE appB
  rw [if_pos hq, if_pos hq, h.dev]
  rcases solo_go (appT x cs) S [] left st (appT_ok h) with ⟨g1, g2, g3⟩ | ⟨g1, g2, g3, g4⟩
  · left
    rw [appT_len] at g1 g3
    refine ⟨g1, g2, _, by rw [show ((0 : Nat) : Int) = 0 from rfl, g3, app_aft h], ?_⟩
    exact app_done h t hq hN (by rw [List.length_set, rl]) (fun j hj => bu hj) (cE (by rw [rl]; omega))
  · right
    rw [appT_len] at g2
    refine ⟨g1, g3, _, _, _, g4, by omega, ?_, ?_⟩
    · have hlw : ∀ (l : List Stp) (z : List Blk × List (Int × Blk)), (aft l z).2.length ≤ z.2.length + l.length := by
        intro l
        induction l with
        | nil => intro z; exact Nat.le_refl _
        | cons s l ih =>
          intro z
          cases s with
          | wr n b => have := ih (z.1, z.2 ++ [(n, b)]); rw [List.length_append] at this; rw [List.length_cons]; show (aft l _).2.length ≤ _; simp only [List.length_singleton] at this; omega
          | fl => have := ih (flS z.1 z.2, []); rw [List.length_cons]; show (aft l _).2.length ≤ _; simp only [List.length_nil] at this; omega
      have := hlw ((appT x cs).take (left - 1)) (S, [])
      rw [List.length_take] at this
      simp only [List.length_nil] at this
      have hal := appT_len (x := x) (cs := cs)
      omega
    · intro P
      have hn := bL cs
      by_cases k1 : left - 1 ≤ (bE cs).length
      ·
        have e : aft ((appT x cs).take (left - 1)) (S, []) = (S, (List.range (left - 1)).map (appF x cs)) := by
          unfold appT
          rw [List.take_append_of_le_length (by rw [recT_eq, List.length_map, List.length_range]; exact k1), recT_eq, ← List.map_take, List.take_range, Nat.min_eq_left k1, aft_wr, List.nil_append]
        rw [e]
        obtain ⟨o1, o2⟩ := app_off h hq (app_in (x := x) (cs := cs) k1)
        exact .inl (app_same h hq (crI_len _ _ _ _) (fun j hj _ => crI_keep (o1 j hj) _ (Nat.le_refl _)) (.inl (crI_keep (o1 _ (by omega)) _ (Nat.le_refl _))) (fun p h1 h2 => crI_keep (o2 p h1 h2) _ (Nat.le_refl _)))
      · by_cases k2 : left - 1 = (bE cs).length + 1
        · have e : aft ((appT x cs).take (left - 1)) (S, []) = (appR S x cs, []) := by
            unfold appT
            rw [List.take_append, k2, recT_eq, List.length_map, List.length_range, List.take_of_length_le (by rw [List.length_map, List.length_range]; omega), show (bE cs).length + 1 - (bE cs).length = 1 from by omega, aft_app, aft_wr, List.nil_append]
            rfl
          rw [e]
          exact .inl (app_same h hq rl (fun j hj _ => r1 j hj) (.inl (r1 _ (by omega))) r2)
        · have k3 : left - 1 = (bE cs).length + 2 := by omega
          have e : aft ((appT x cs).take (left - 1)) (S, []) = (appR S x cs, [(cz x.next, aT.pB (cD x cs))]) := by
            unfold appT
            rw [List.take_append, k3, recT_eq, List.length_map, List.length_range, List.take_of_length_le (by rw [List.length_map, List.length_range]; omega), show (bE cs).length + 2 - (bE cs).length = 2 from by omega, aft_app, aft_wr, List.nil_append]
            rfl
          rw [e]
          show OnD (crI (appR S x cs) [(cz x.next, aT.pB (cD x cs))] P 1) x A N ∨ OnD (crI (appR S x cs) [(cz x.next, aT.pB (cD x cs))] P 1) _ _ _
          rw [crI_one, show (cz x.next).toNat = 2 + x.next % 8 from by unfold cz; omega]
          obtain ⟨d, hd⟩ : ∃ d, torn ((appR S x cs).getD (2 + x.next % 8) al) (aT.pB (cD x cs)) (P.getD 0 0) = d := ⟨_, rfl⟩
          rw [hd]
          have hlt : 2 + x.next % 8 < (appR S x cs).length := by rw [rl]; omega
          have hat : ((appR S x cs).set (2 + x.next % 8) d).getD (2 + x.next % 8) al = d := cE hlt
          have hoff : ∀ j, j ≠ 2 + x.next % 8 → ((appR S x cs).set (2 + x.next % 8) d).getD j al = (appR S x cs).getD j al := fun j hj => bu hj
          obtain ⟨u1, u2⟩ := t.nt _ hm
          rw [r1 _ (by omega)] at hd
          rcases aT.torn_two (lgNt_fit h hq hN).1 u1 (by show _ ≠ x.next; omega) hd with e | e | e
          · right
            exact (app_done h t hq hN (by rw [List.length_set, rl]) hoff (by rw [hat, e])).1
          · left
            exact app_same h hq (by rw [List.length_set, rl]) (fun j hj hne => by rw [hoff j hne, r1 j hj]) (.inl (by rw [hat, e])) (fun p h1 h2 => by rw [hoff _ (by omega), r2 p h1 h2])
          · left
            exact app_same h hq (by rw [List.length_set, rl]) (fun j hj hne => by rw [hoff j hne, r1 j hj]) (.inr (by rw [hat, aT.gN_no e]; have := h.fst; unfold LgS.next; omega)) (fun p h1 h2 => by rw [hoff _ (by omega), r2 p h1 h2])
end
section
variable {S : List Blk} {x : LgS} {A : Nat → List Cl} {N left st : Nat} {f : Nat}
theorem clr_go (h : OnD S x A N) (t : Twn S x) (hq : clrQ x f = true) (hN : N + 1 ≤ 1000000) :
    ((left = 0 ∨ 2 < left) ∧ clrE (solo S [] left false st) x f = 0 ∧ ∃ S', clrB (solo S [] left false st) x f = solo S' [] (left - 2) false (st + 2) ∧ OnD S' (x.cut f) A (N + 1) ∧ Twn S' (x.cut f)) ∨
    (1 ≤ left ∧ clrE (solo S [] left false st) x f = 8 ∧ ∃ S1 L1 st', clrB (solo S [] left false st) x f = solo S1 L1 1 true st' ∧ st' ≤ st + 2 ∧ L1.length ≤ 40 ∧ ∀ P, OnD (crI S1 L1 P L1.length) x A N ∨ OnD (crI S1 L1 P L1.length) (x.cut f) A (N + 1)) := by
  obtain ⟨f1, f2⟩ := of_clrQ hq
  have hlen := h.len
  have hsz := h.siz
  have hl := h.lim
  have hc := h.cnt
  have hf := h.fst
  have hp := h.pos
  have hat : x.at_ f ≤ x.head := by
    unfold LgS.at_ LgS.head LgS.used
    have := fw x.nts (f - x.fst)
    omega
  have h2 : (x.cnt + 1) % 2 < 2 := Nat.mod_lt _ (by omega)
  have hne : x.cnt % 2 ≠ (x.cnt + 1) % 2 := by omega
  obtain ⟨p1, p2⟩ := h.mark_fit (c := x.cnt + 1) (f := f) (a := x.at_ f) (by omega) (by omega) (by omega)
  obtain ⟨mb, hmb⟩ : ∃ mb, aR.pB ⟨x.cnt + 1, ⟨x.own, (x.size : Int), f, x.at_ f⟩⟩ = mb := ⟨_, rfl⟩
  have hok : ∀ s ∈ mkT x.own x.size (x.cnt + 1) f (x.at_ f), s.okn S.length := by
    intro s hs
    unfold mkT at hs
    simp only [List.mem_cons, List.not_mem_nil, or_false] at hs
    rcases hs with rfl | rfl
    · exact ⟨by unfold ef; omega, by unfold ef; omega⟩
    · trivial
  unfold clrE clrB
  rw [if_pos hq, if_pos hq, h.dev, show ((0 : Nat) : Int) = 0 from rfl]
  have hlt : (x.cnt + 1) % 2 < S.length := by omega
  have hto : (ef (x.cnt + 1)).toNat = (x.cnt + 1) % 2 := by unfold ef; omega
  have done : ∀ d, d = mb → OnD (S.set ((x.cnt + 1) % 2) d) (x.cut f) A (N + 1) ∧ Twn (S.set ((x.cnt + 1) % 2) d) (x.cut f) := fun d e => by
    subst e
    exact ⟨h.clr hq hN (List.length_set ..) (by rw [cE hlt, hmb]) (bu hne) (fun j hj => bu (by omega)), Twn.clr h t hq (fun j hj => bu (by omega)) (bu hne)⟩
  rcases solo_go (mkT x.own x.size (x.cnt + 1) f (x.at_ f)) S [] left st hok with ⟨g1, g2, g3⟩ | ⟨g1, g2, g3, g4⟩
  · left
    refine ⟨g1, g2, S.set ((x.cnt + 1) % 2) mb, ?_, done mb rfl⟩
    rw [g3]
    show solo (flS S [(ef (x.cnt + 1), aR.pB _)]) [] _ _ _ = _
    rw [hmb]
    show solo (S.set (ef (x.cnt + 1)).toNat mb) [] _ _ _ = _
    rw [hto]
    rfl
  · right
    have g2' : left ≤ 2 := g2
    refine ⟨g1, g3, _, _, _, g4, by omega, ?_, ?_⟩
    · have : left - 1 = 0 ∨ left - 1 = 1 := by omega
      rcases this with e | e
      · rw [e]; exact Nat.zero_le _
      · rw [e]; show 1 ≤ 40; omega
    · intro P
      have : left - 1 = 0 ∨ left - 1 = 1 := by omega
      rcases this with e | e
      · rw [e]; exact .inl h
      · rw [e]
        show OnD (crI S [(ef (x.cnt + 1), aR.pB ⟨x.cnt + 1, ⟨x.own, (x.size : Int), f, x.at_ f⟩⟩)] P 1) x A N ∨ OnD (crI S [(ef (x.cnt + 1), aR.pB ⟨x.cnt + 1, ⟨x.own, (x.size : Int), f, x.at_ f⟩⟩)] P 1) _ _ _
        rw [crI_one, hto]
        obtain ⟨d, hd⟩ : ∃ d, torn (S.getD ((x.cnt + 1) % 2) al) (aR.pB ⟨x.cnt + 1, ⟨x.own, (x.size : Int), f, x.at_ f⟩⟩) (P.getD 0 0) = d := ⟨_, rfl⟩
        rw [hd]
        obtain ⟨u1, u2⟩ := t.mkk
        have same : aR.gN d < x.cnt → OnD (S.set ((x.cnt + 1) % 2) d) x A N := fun hg =>
          h.keep (List.length_set ..) (bu hne) (by rw [cE hlt]; exact hg) (fun j hj => .inl (bu (by omega))) (fun p _ _ => bu (by omega))
        rcases aR.torn_two p1 u1 (by show _ ≠ x.cnt + 1; omega) hd with e | e | e
        · exact .inr (done d (e.trans hmb)).1
        · left; refine same ?_; rw [e]; exact h.oth
        · left; refine same ?_; rw [aR.gN_no e]; omega
end
theorem zeroB_num : cF al.toList = agO al.toList ∧ cF al.toList = 0 := by decide
theorem lay_go (id r : Nat) (st : Nat) (hid : id ≠ 0 ∧ id < 18446744073709551616) (hr : 40 ≤ r ∧ r ≤ 256) (A : Nat → List Cl) :
    layE (solo (List.replicate (10 + r) al) [] 0 false st) 0 id (r : Int) = 0 ∧ ∃ S, layB (solo (List.replicate (10 + r) al) [] 0 false st) 0 id (r : Int) = solo S [] 0 false (st + 13) ∧ OnD S (layX 0 id (r : Int)) A 1 ∧ Twn S (layX 0 id (r : Int)) := by
  have hQ : layQ (solo (List.replicate (10 + r) al) [] 0 false st) 0 id (r : Int) = true := decide_eq_true ⟨solo_has _, hid.1, by omega, by omega, by rw [solo_se, List.length_replicate]; omega⟩
  have hok : ∀ s ∈ layT id (r : Int), s.okn (List.replicate (10 + r) al).length := by
    rw [List.length_replicate]
    intro s hs
    unfold layT at hs
    rcases List.mem_append.1 hs with hs | hs
    · obtain ⟨i, hi, rfl⟩ := eQ hs
      exact ⟨by omega, by omega⟩
    · unfold mkT at hs
      simp only [List.mem_cons, List.not_mem_nil, or_false] at hs
      rcases hs with rfl | rfl | rfl
      · trivial
      · exact ⟨by unfold ef; omega, by unfold ef; omega⟩
      · trivial
  unfold layE layB
  rw [if_pos hQ, if_pos hQ]
  rcases solo_go (layT id (r : Int)) _ [] 0 st hok with ⟨g1, g2, g3⟩ | ⟨g1, _⟩
  · refine ⟨g2, ?_⟩
    obtain ⟨Z, hZ⟩ : ∃ Z, flS (List.replicate (10 + r) al) ((List.range 10).map fun (i : Nat) => ((i : Int), al)) = Z := ⟨_, rfl⟩
    have hZl : Z.length = 10 + r := by rw [← hZ, fu, List.length_replicate]
    have hZz : ∀ j, Z.getD j al = al := fun j => by
      rw [← hZ]
      refine flS_zero (fun q hq => ?_) _ (by simp [List.getD, List.getElem?_replicate]; split <;> rfl)
      obtain ⟨i, _, rfl⟩ := eQ hq
      rfl
    obtain ⟨mb, hmb⟩ : ∃ mb, aR.pB ⟨1, ⟨id, (r : Int), 1, 0⟩⟩ = mb := ⟨_, rfl⟩
    have ha : aft (layT id (r : Int)) (List.replicate (10 + r) al, []) = (Z.set 1 mb, []) := by
      unfold layT
      rw [aft_app]
      have : aft zerT (List.replicate (10 + r) al, []) = (List.replicate (10 + r) al, (List.range 10).map fun (i : Nat) => ((i : Int), al)) := by
        have := aft_wr (fun (i : Nat) => ((i : Int), al)) 10 (List.replicate (10 + r) al, [])
        rw [List.nil_append] at this
        exact this
      rw [this]
      show (flS (flS _ _) [(ef 1, aR.pB ⟨1, ⟨id, (((r : Int).toNat : Nat) : Int), 1, 0⟩⟩)], []) = _
      rw [hZ, Int.toNat_natCast, hmb]
      rfl
    rw [ha] at g3
    have hat : (Z.set 1 mb).getD 1 al = mb := cE (by omega)
    have hoff : ∀ j, j ≠ 1 → (Z.set 1 mb).getD j al = al := fun j hj => (bu hj).trans (hZz j)
    have gz : aR.gN al = 0 := aR.gN_no (by rw [aR.g_zero]; omega)
    have gz2 : aT.gN al = 0 := aT.gN_no (by rw [aT.g_zero]; omega)
    refine ⟨Z.set 1 mb, g3, ?_, ?_⟩
    · refine ⟨by rw [List.length_set, hZl]; rfl, by show 40 ≤ (r : Int).toNat ∧ _; rw [Int.toNat_natCast]; exact hr, hid, rfl, by omega, ⟨Nat.le_refl _, Nat.le_refl _⟩, ⟨Nat.le_refl _, Nat.le_refl _⟩, ?_, ?_, ?_, by show 0 ≤ 8; omega, ?_, fun i hi => absurd hi (by show ¬ i < 0; omega), fun j hj => ?_, fun i hi => absurd hi (by show ¬ i < 0; omega)⟩
      · show 0 + 0 ≤ _; omega
      · show (Z.set 1 mb).getD 1 al = aR.pB ⟨1, ⟨id, (((r : Int).toNat : Nat) : Int), 1, 0⟩⟩
        rw [hat, Int.toNat_natCast, hmb]
      · rw [show ((layX 0 id (r : Int)).cnt + 1) % 2 = 0 from (by show (1 + 1) % 2 = 0; decide), hoff 0 (by omega), gz]
        exact Nat.zero_lt_one
      · show 0 ≤ _; omega
      · rw [hoff _ (by omega), gz2]; show 0 < 1; omega
    · obtain ⟨z1, z2⟩ := zeroB_num
      refine ⟨?_, fun j hj => ?_⟩
      · rw [show ((layX 0 id (r : Int)).cnt + 1) % 2 = 0 from (by show (1 + 1) % 2 = 0; decide), hoff 0 (by omega)]
        exact ⟨z1, by rw [z2]; exact Nat.zero_lt_one⟩
      · rw [hoff _ (by omega)]
        exact ⟨z1, by show _ < 1; omega⟩
  · omega
theorem room_stp {d : Int} {M : BenS} {k : Nat} (h : Room M (k + 1)) (s : Stp) : Room (stpS d M s) k := by
  cases s with
  | wr n b => exact room_wr h d n b
  | fl => exact room_fl h d
section
variable {P : Program} {ops : Array Oper} {C : World → Prop} {Q : Act → Prop} {a : Act} {o : Oper} {rest l : List Oper} {v : Value}
theorem wpQuiet_unw : ∀ (rs : List Oper) (a : Act), unw ops rs a = true → wpQuiet P ops C Q rest (bc rs a) → wpQuiet P ops C Q (rs ++ rest) a
  | [], _, _, h => h
  | r :: rs, a, hu, h => by
    simp only [unw, Bool.and_eq_true, Bool.not_eq_true'] at hu
    exact qv_skip hu.1 (wpQuiet_unw rs _ hu.2 h)
theorem fp (n : Nat) (hw : Region.wanted o (yielded ops a.tmps) = true) (h : ∀ w, C w → (execOp a.eval o).run P w = .ok (.value v) w) (hu : unw ops (l.take n) (a.put o.dst v) = true) (hr : wpQuiet P ops C Q (l.drop n) (bc (l.take n) (a.put o.dst v))) : wpQuiet P ops C Q (o :: l) a :=
  am hw h (by have := wpQuiet_unw (P := P) (C := C) (Q := Q) (l.take n) _ hu hr; rwa [List.take_append_drop] at this)
end
set_option linter.unusedSimpArgs false
theorem newS_solo (k : Nat) : newS6 [(k : Int)] = solo (List.replicate k al) [] 0 false 0 := by
  unfold newS6 solo
  simp
theorem solo_room {S : List Blk} {st k : Nat} (h : st + k ≤ 1000000) : Room (solo S [] 0 false st) k := by
  refine ⟨h, by show 0 < _; omega, fun d hd => ?_⟩
  rw [show (solo S [] 0 false st).ds = [⟨S, [], false⟩] from rfl, List.mem_singleton] at hd
  subst hd
  show 0 + k ≤ _
  omega
def Laid (C : LogI) (w : World) (r : Nat) (e : Ending) (w' : World) : Prop :=
  ∃ q p S, e = .returned (.tuple #[.pointer (some ⟨q, 0, none⟩), .pointer (some ⟨p, 0, none⟩), .bool true]) ∧ LAt C w w.heap.size (fun _ => False) w' q p (solo S [] 0 false 13) (layX 0 7 (r : Int)) ∧ (∀ A, OnD S (layX 0 7 (r : Int)) A 1) ∧ Twn S (layX 0 7 (r : Int)) ∧ LgOk (solo S [] 0 false 13) (layX 0 7 (r : Int)) 0
theorem laid_all {r : Nat} (hr : 40 ≤ r ∧ r ≤ 256) : layE (solo (List.replicate (10 + r) al) [] 0 false 0) 0 7 (r : Int) = 0 ∧ ∃ S, layB (solo (List.replicate (10 + r) al) [] 0 false 0) 0 7 (r : Int) = solo S [] 0 false 13 ∧ (∀ A, OnD S (layX 0 7 (r : Int)) A 1) ∧ Twn S (layX 0 7 (r : Int)) ∧ LgOk (solo S [] 0 false 13) (layX 0 7 (r : Int)) 0 := by
  obtain ⟨h1, S, h2, h3, h4⟩ := lay_go 7 r 0 (by omega) hr (fun _ => [])
  have hq : layQ (solo (List.replicate (10 + r) al) [] 0 false 0) 0 7 (r : Int) = true := decide_eq_true ⟨solo_has _, by omega, by omega, by omega, by rw [solo_se, List.length_replicate]; omega⟩
  have hs : Shp (solo (List.replicate (10 + r) al) [] 0 false 0) (solo S [] 0 false 13) := by
    have := shp_go 0 (layT 7 (r : Int)) (solo (List.replicate (10 + r) al) [] 0 false 0)
    have e : layB (solo (List.replicate (10 + r) al) [] 0 false 0) 0 7 (r : Int) = goB 0 (solo (List.replicate (10 + r) al) [] 0 false 0) (layT 7 (r : Int)) := if_pos hq
    rw [← e, h2] at this
    exact this
  refine ⟨h1, S, h2, fun A => ?_, h4, (lay_ok (by omega) hq).shp hs⟩
  obtain ⟨_, S', k2, k3, _⟩ := lay_go 7 r 0 (by omega) hr A
  rw [h2] at k2
  have e : S = S' := by
    unfold solo at k2
    injection k2 with k2
    injection k2 with k2
    injection k2
  rw [e]
  exact k3
set_option maxHeartbeats 1000000 in
theorem plaid (C : LogI) (m : Nat) (w : World) (T : Tbs w) (hm : m < 256) : Calls Tryz.prog 14 #[.int .u8 (m : Nat)] w (Laid C w (40 + m % 216)) := by
  have HTB := Lib.hid T
  clear T
  obtain ⟨r, hr⟩ : ∃ r, 40 + m % 216 = r := ⟨_, rfl⟩
  have hr2 : 40 ≤ r ∧ r ≤ 256 := by have := Nat.mod_lt m (show 0 < 216 by omega); omega
  obtain ⟨g1, S, g2, g3, g4, g5⟩ := laid_all hr2
  have HR := Lib.hid hr
  have HR2 := Lib.hid hr2
  have HG1 := Lib.hid g1
  have HG2 := Lib.hid g2
  have HG3 := Lib.hid g3
  have HG4 := Lib.hid g4
  have HG5 := Lib.hid g5
  have HM := Lib.hid hm
  have HE : Hid (wrap64 (40 + (wrap64 (m : Int)).tmod 216) = (r : Int)) := Lib.hid (by
    have e1 : wrap64 (m : Int) = (m : Int) := IntWalk.wrap64_in _ ⟨by omega, by omega⟩
    rw [e1, Int.tmod_eq_emod_of_nonneg (by omega)]
    refine (IntWalk.wrap64_in _ ⟨by omega, by omega⟩).trans ?_
    omega)
  have HE2 : Hid (IntKind.i64.wrap (10 + (r : Int)) = ((10 + r : Nat) : Int)) := Lib.hid (by rw [IntWalk.i64_in _ ⟨by omega, by omega⟩]; omega)
  have HOK : Hid (newOk [((10 + r : Nat) : Int)]) := Lib.hid ⟨by simp, by simp, fun n hn => by
    rw [List.mem_singleton] at hn
    subst hn
    omega⟩
  rw [hr]
  clear hr hr2 g1 g2 g3 g4 g5 hm
  go_enter Tryz.func14, Tryz.ntmps14
  go_upto_region 2 with fail
  rw [HE.out]
  refine wp_region_lit ?_
  refine ag rfl (ah rfl (ev rfl)) ?_
  simp only [Act.put, aa, ae, af]
  refine ag rfl (fb rfl evk (ev rfl) HE2.out) ?_
  simp only [Act.put, aa, ae, af]
  refine ag rfl (dc (E := dq) (a := ((10 + r : Nat) : Int)) rfl (ev rfl) rfl (by show 1 ≤ _; omega)) ?_
  simp only [Act.put, aa, ae, af]
  have HRD := Lib.hid (dZ (E := dq) (l := [((10 + r : Nat) : Int)]) w #[.int .i64 ((10 + r : Nat) : Int)] 3 rfl)
  have HBA := Lib.hid ((Below.refl w.heap.size w).alloc (Nat.le_refl _) (.cells #[.int .i64 ((10 + r : Nat) : Int)] 3))
  have HSZ : Hid ((w.alloc (.cells #[.int .i64 ((10 + r : Nat) : Int)] 3)).heap.size = w.heap.size + 1) := Lib.hid (World.size_alloc ..)
  change wpList _ _ _ _ _ (w.alloc (.cells #[.int .i64 ((10 + r : Nat) : Int)] 3))
  generalize w.alloc (.cells #[.int .i64 ((10 + r : Nat) : Int)] 3) = w1 at *
  refine ao rfl (au Tryz.call37 rfl (evc (ev rfl) evn)) ?_
  refine (C.R.new (A := some ⟨w.heap.size, 0, none⟩) (n := 1) (c := 1) (ks := [((10 + r : Nat) : Int)]) (by rw [HSZ.out]; exact HRD.out) (by omega) (by unfold maxLen; omega)).mono ?_
  rintro e w2 ⟨hb1, ⟨_, q, F, rfl, hB, hF⟩ | ⟨hno, rfl⟩⟩
  rotate_left 1
  · exact absurd HOK.out hno
  rw [newS_solo] at hB
  have HA := Lib.hid (show BAt C w w.heap.size (fun _ => False) w2 q _ from ⟨F, hB, fun b e => by have := hF b e; rw [HSZ.out] at this; omega, HBA.out.trans (hb1.mono (by rw [HSZ.out]; omega)), Bas.start HTB.out, fun _ e => e.elim⟩)
  clear hb1 hB hF HRD HBA HSZ
  refine ⟨_, rfl, ?_⟩
  simp only [Act.put, aa, ae, af]
  refine ag rfl (ah rfl (ev rfl)) ?_
  simp only [Act.put, aa, ae, af]
  refine ag rfl (aC rfl (ev rfl) rfl) ?_
  simp only [Act.put, aa, ae, af]
  refine ag rfl (aC rfl (ev rfl) rfl) ?_
  simp only [Act.put, aa, ae, af]
  refine ag rfl (aq rfl (ev rfl)) ?_
  simp only [Act.put, aa, ae, af]
  refine ag rfl (aq rfl (ev rfl)) ?_
  simp only [Act.put, aa, ae, af]
  refine wpList_nil ?_
  go_upto_region 5 with fail
  refine wp_region_lit ?_
  refine ag rfl (ah rfl (ev rfl)) ?_
  simp only [Act.put, aa, ae, af]
  refine ag rfl (ah rfl (ev rfl)) ?_
  simp only [Act.put, aa, ae, af]
  refine ao rfl (au Tryz.call35 rfl (evc (ev rfl) (evc evk (evc evk (evc (ev rfl) evn))))) ?_
  refine (BAt.lay 0 7 (r : Int) HA.out (solo_room (by omega)) (by omega)).mono ?_
  rintro e w3 hq
  obtain ⟨p, rfl, hq, _⟩ := hq.yes HG1.out
  rw [HG2.out] at hq
  have HL := Lib.hid hq
  clear hq HA
  refine ⟨_, rfl, ?_⟩
  simp only [Act.put, aa, ae, af]
  refine ag rfl (ah rfl (ev rfl)) ?_
  simp only [Act.put, aa, ae, af]
  refine ag rfl (aC rfl (ev rfl) rfl) ?_
  simp only [Act.put, aa, ae, af]
  refine ag rfl (aC rfl (ev rfl) rfl) ?_
  simp only [Act.put, aa, ae, af]
  refine ag rfl (aq rfl (ev rfl)) ?_
  simp only [Act.put, aa, ae, af]
  refine ag rfl (aq rfl (ev rfl)) ?_
  simp only [Act.put, aa, ae, af]
  refine wpList_nil ?_
  go_wp2_with fail
  (try simp only [Exit.inBlock, Exit.then])
  exact bodyPost_ret (results_tmp3 rfl _ _ _) rfl ⟨q, p, S, rfl, HL.out, HG3.out, HG4.out, HG5.out⟩
def Wd (R : List DevS) (M M' : BenS) : Prop := ∃ a l k s, M = ⟨[a], l, k, s⟩ ∧ M' = ⟨a :: R, l, k, s⟩
section
variable {R : List DevS} {M M' : BenS}
theorem Wd.has (h : Wd R M M') : dx M 0 = 0 ∧ dx M' 0 = 0 := by
  obtain ⟨a, l, k, s, rfl, rfl⟩ := h
  constructor <;> simp [dx]
theorem Wd.dev (h : Wd R M M') : M'.dev 0 = M.dev 0 := by
  obtain ⟨a, l, k, s, rfl, rfl⟩ := h
  rfl
theorem Wd.lit (h : Wd R M M') : cN M' 0 = cN M 0 := by
  obtain ⟨h1, h2⟩ := h.has
  obtain ⟨a, l, k, s, rfl, rfl⟩ := h
  unfold cN
  rw [h1, h2]
theorem Wd.se (h : Wd R M M') : ca M' 0 = ca M 0 := by
  obtain ⟨h1, h2⟩ := h.has
  unfold ca
  rw [h1, h2, h.dev]
theorem Wd.rdE (h : Wd R M M') (n : Int) : bX M' 0 n = bX M 0 n := by
  unfold bX
  rw [h.lit, h.dev]
theorem Wd.rdB (h : Wd R M M') (n : Int) : cC M' 0 n = cC M 0 n := by
  unfold cC
  rw [h.lit, h.dev]
theorem Wd.stp (h : Wd R M M') (t : Stp) : stpE 0 M' t = stpE 0 M t ∧ Wd R (stpS 0 M t) (stpS 0 M' t) := by
  cases t with
  | wr n b =>
    have e1 := h.rdE n
    have e2 := h.dev
    obtain ⟨a, l, k, s, rfl, rfl⟩ := h
    refine ⟨?_, ?_⟩
    · show wrE6 _ 0 n = wrE6 _ 0 n
      unfold wrE6
      rw [e1]
      rfl
    · show Wd R (wrS6 _ 0 n b) (wrS6 _ 0 n b)
      unfold wrS6
      rw [e1]
      by_cases h0 : bX ⟨[a], l, k, s⟩ 0 n = 0
      · rw [if_pos h0, if_pos h0]
        by_cases h1 : l = 1
        · subst h1
          exact ⟨a, 1, true, s, rfl, rfl⟩
        · rw [if_neg h1, if_neg h1]
          exact ⟨_, _, _, _, rfl, rfl⟩
      · rw [if_neg h0, if_neg h0]
        exact ⟨_, _, _, _, rfl, rfl⟩
  | fl =>
    have e1 : flA6 M' 0 = flA6 M 0 := by unfold flA6; rw [h.lit, h.dev]
    obtain ⟨a, l, k, s, rfl, rfl⟩ := h
    refine ⟨?_, ?_⟩
    · show flE6 _ 0 = flE6 _ 0
      unfold flE6
      rw [e1]
      rfl
    · show Wd R (flS6 _ 0) (flS6 _ 0)
      unfold flS6
      rw [e1]
      by_cases h0 : flA6 ⟨[a], l, k, s⟩ 0 = 0
      · rw [if_pos h0, if_pos h0]
        by_cases h1 : l = 1
        · subst h1
          exact ⟨a, 1, true, s, rfl, rfl⟩
        · rw [if_neg h1, if_neg h1]
          exact ⟨_, _, _, _, rfl, rfl⟩
      · rw [if_neg h0, if_neg h0]
        exact ⟨_, _, _, _, rfl, rfl⟩
theorem Wd.go (T : List Stp) : ∀ {M M' : BenS}, Wd R M M' → goE 0 M' T = goE 0 M T ∧ Wd R (goB 0 M T) (goB 0 M' T) := by
  induction T with
  | nil => intro M M' h; exact ⟨rfl, h⟩
  | cons t T ih =>
    intro M M' h
    obtain ⟨h1, h2⟩ := h.stp t
    by_cases e : stpE 0 M t = 0
    · have e' : stpE 0 M' t = 0 := h1.trans e
      rw [(go_ok e).1, (go_ok e).2, (go_ok e').1, (go_ok e').2]
      exact ih h2
    · have e' : ¬ stpE 0 M' t = 0 := by rw [h1]; exact e
      rw [(go_no e).1, (go_no e).2, (go_no e').1, (go_no e').2]
      exact ⟨h1, h2⟩
variable {x : LgS} {cs : List Cl} {f q : Nat}
theorem Wd.lay (h : Wd R M M') (id : Nat) (r : Int) : layE M' 0 id r = layE M 0 id r ∧ Wd R (layB M 0 id r) (layB M' 0 id r) := by
  have e : layQ M' 0 id r = layQ M 0 id r := by
    unfold layQ
    rw [h.se, h.has.1, h.has.2]
  unfold layE layB
  rw [e]
  split
  · exact h.go _
  · exact ⟨rfl, h⟩
theorem Wd.app (h : Wd R M M') (hx : x.d = 0) : appE M' x cs = appE M x cs ∧ Wd R (appB M x cs) (appB M' x cs) := by
  unfold appE appB
  rw [hx]
  split
  · exact h.go _
  · exact ⟨rfl, h⟩
theorem Wd.clr (h : Wd R M M') (hx : x.d = 0) : clrE M' x f = clrE M x f ∧ Wd R (clrB M x f) (clrB M' x f) := by
  unfold clrE clrB
  rw [hx]
  split
  · exact h.go _
  · exact ⟨rfl, h⟩
theorem Wd.rcd (h : Wd R M M') (hx : x.d = 0) : rcdE M' x q = rcdE M x q ∧ rcdC M' x q = rcdC M x q := by
  have e1 : ∀ n, rcdL M' x n = rcdL M x n := fun n => by
    unfold rcdL
    rw [hx]
    exact List.map_congr_left fun i _ => h.rdB _
  have e2 : rcdE M' x q = rcdE M x q := by
    unfold rcdE
    rw [e1, hx]
    rw [show bX M' ((0 : Nat) : Int) (bV x.size (x.note q).pos) = bX M ((0 : Nat) : Int) (bV x.size (x.note q).pos) from h.rdE _]
  exact ⟨e2, by unfold rcdC; rw [e2, e1]⟩
end
def lvC : Cl := ⟨0, 0, al.set 0 5⟩
def lvR : List DevS := [⟨List.replicate 12 al, [], false⟩]
def lvM : BenS := newS6 [50, 12]
def lvX1 : LgS := ⟨0, 7, 40, 1, 1, 0, []⟩
def lvM1 : BenS := layB lvM 0 7 40
def lvX2 : LgS := lvX1.with_ (cD lvX1 [lvC])
def lvM2 : BenS := appB lvM1 lvX1 [lvC]
def lvX3 : LgS := lvX2.cut 2
def lvM3 : BenS := clrB lvM2 lvX2 2
theorem lv_wd : Wd lvR (solo (List.replicate 50 al) [] 0 false 0) lvM := ⟨_, _, _, _, rfl, rfl⟩
theorem Wd.is {R : List DevS} {S : List Blk} {L : List (Int × Blk)} {left st : Nat} {bY : Bool} {M' : BenS} (h : Wd R (solo S L left bY st) M') : M' = ⟨⟨S, L, false⟩ :: R, left, bY, st⟩ := by
  obtain ⟨a, l, k, s, h1, rfl⟩ := h
  unfold solo at h1
  injection h1 with e1 e2 e3 e4
  injection e1 with e1 _
  subst e1 e2 e3 e4
  rfl
theorem Wd.room {R : List DevS} {S : List Blk} {st k : Nat} {M' : BenS} (h : Wd R (solo S [] 0 false st) M') (hs : st + k ≤ 1000000) (hR : ∀ d ∈ R, d.L.length + k ≤ 1000000) : Room M' k := by
  rw [h.is]
  refine ⟨hs, by show 0 < _; omega, fun d hd => ?_⟩
  rcases List.mem_cons.1 hd with rfl | hd
  · show 0 + k ≤ _; omega
  · exact hR d hd
theorem lvR_room {k : Nat} (hk : k ≤ 1000000) : ∀ d ∈ lvR, d.L.length + k ≤ 1000000 := by
  intro d hd
  unfold lvR at hd
  rw [List.mem_singleton] at hd
  subst hd
  show 0 + k ≤ _
  omega
theorem shp_lay (M : BenS) (d : Int) (id : Nat) (r : Int) : Shp M (layB M d id r) := by
  unfold layB
  split
  · exact shp_go d _ M
  · exact Shp.refl M
theorem shp_app (M : BenS) (x : LgS) (cs : List Cl) : Shp M (appB M x cs) := by
  unfold appB
  split
  · exact shp_go _ _ M
  · exact Shp.refl M
theorem shp_clr (M : BenS) (x : LgS) (f : Nat) : Shp M (clrB M x f) := by
  unfold clrB
  split
  · exact shp_go _ _ M
  · exact Shp.refl M
theorem zeroB_gN : aR.gN al = 0 := by
  have := aR.gN_le_num al
  rw [zeroB_num.2] at this
  omega
theorem lv_open : opnE lvM 0 = 5 := by
  have hw := lv_wd
  have h0 : dx lvM 0 = 0 ∧ 50 ≤ ca lvM 0 := ⟨hw.has.2, by rw [hw.se, solo_se]; decide⟩
  have h1 : bX lvM 0 0 = 0 := by rw [hw.rdE]; exact solo_rdE ⟨by omega, by rw [List.length_replicate]; omega⟩
  have b0 : cC lvM 0 0 = al := by rw [hw.rdB]; exact (fH (k := 0) (by rw [List.length_replicate]; omega)).trans (by simp)
  have b1 : cC lvM 0 1 = al := by rw [hw.rdB]; exact (fH (k := 1) (by rw [List.length_replicate]; omega)).trans (by simp)
  have hF : ¬ opnF lvM 0 = true := fun e => by
    obtain ⟨e1, _⟩ := of_decide_eq_true e
    rw [b0, b1] at e1
    unfold Cod.nE at e1
    rw [zeroB_gN] at e1
    simp at e1
  exact (if_pos (show opnQ lvM 0 = true from decide_eq_true h0)).trans ((if_pos h1).trans (if_neg hF))
theorem lv_lay : layE lvM 0 7 40 = 0 ∧ ∃ S, Wd lvR (solo S [] 0 false 13) lvM1 ∧ OnD S lvX1 (fun _ => []) 1 ∧ Twn S lvX1 := by
  obtain ⟨h1, S, h2, h3, h4⟩ := lay_go 7 40 0 (by omega) (by omega) (fun _ => [])
  obtain ⟨g1, g2⟩ := lv_wd.lay 7 ((40 : Nat) : Int)
  have e2 : layB (solo (List.replicate 50 al) [] 0 false 0) 0 7 ((40 : Nat) : Int) = solo S [] 0 false 13 := h2
  rw [e2] at g2
  exact ⟨g1.trans h1, S, g2, h3, h4⟩
theorem lv_recE : recE [lvC] = 0 := by decide
theorem lv_len : (bE [lvC]).length = 2 := by rw [bL]; rfl
theorem lv_appQ : appQ lvX1 [lvC] = 0 := by
  unfold appQ
  rw [lv_recE, if_neg (by omega), if_neg]
  rw [lv_len]
  show ¬ (8 ≤ 0 ∨ 40 - usd [] < 2)
  rw [usd_nil]
  omega
theorem lv_app : appE lvM1 lvX1 [lvC] = 0 ∧ ∃ S, Wd lvR (solo S [] 0 false 18) lvM2 ∧ OnD S lvX2 (upA (fun _ => []) 1 [lvC]) 2 ∧ Twn S lvX2 := by
  obtain ⟨_, S, h1, h2, h3⟩ := lv_lay
  obtain ⟨g1, g2⟩ := h1.app (cs := [lvC]) (x := lvX1) rfl
  rcases app_go (left := 0) (st := 13) h2 h3 lv_appQ (by omega) with ⟨_, k1, S', k2, k3, k4⟩ | ⟨k, _⟩
  · rw [k2, lv_len] at g2
    exact ⟨g1.trans k1, S', g2, k3, k4⟩
  · omega
theorem lv_free2 : lvX2.free = 38 := by
  show 40 - usd ([] ++ [cD lvX1 [lvC]]) = 38
  rw [List.nil_append, usd_cons, usd_nil, fg, lv_len]
theorem lv_rcd : rcdE lvM2 lvX2 1 = 0 ∧ rcdC lvM2 lvX2 1 = [lvC] := by
  obtain ⟨_, S, h1, h2, h3⟩ := lv_app
  obtain ⟨g1, g2⟩ := h1.rcd (x := lvX2) (q := 1) rfl
  obtain ⟨k1, k2⟩ := h2.record (left := 0) (st := 18) (q := 1) (decide_eq_true ⟨by show 1 ≤ 1; omega, by show 1 < 2; omega⟩)
  exact ⟨g1.trans k1, g2.trans (k2.trans upA_at)⟩
theorem lv_clrQ : clrQ lvX2 2 = true := decide_eq_true ⟨by show 1 ≤ 2; omega, by show 2 ≤ 2; omega⟩
theorem lv_clr : clrE lvM2 lvX2 2 = 0 ∧ ∃ S, Wd lvR (solo S [] 0 false 20) lvM3 := by
  obtain ⟨_, S, h1, h2, h3⟩ := lv_app
  obtain ⟨g1, g2⟩ := h1.clr (x := lvX2) (f := 2) rfl
  rcases clr_go (left := 0) (st := 18) h2 h3 lv_clrQ (by omega) with ⟨_, k1, S', k2, k3, k4⟩ | ⟨k, _⟩
  · rw [k2] at g2
    exact ⟨g1.trans k1, S', g2⟩
  · omega
theorem lv_free3 : lvX3.free = 40 := by
  show 40 - usd (([] ++ [cD lvX1 [lvC]]).drop (2 - 1)) = 40
  rfl
theorem lv_dead : rcdE lvM3 lvX3 1 = 7 := if_neg fun e => by
  obtain ⟨e1, _⟩ := of_decide_eq_true e
  exact absurd e1 (by show ¬ 2 ≤ 1; omega)
theorem lv_small : layE lvM3 1 7 40 = 2 := by
  obtain ⟨_, S, h⟩ := lv_clr
  have he := h.is
  refine if_neg fun e => ?_
  obtain ⟨_, _, _, _, e5⟩ := of_decide_eq_true e
  rw [he] at e5
  have : ca ⟨⟨S, [], false⟩ :: lvR, 0, false, 20⟩ 1 = 12 := by
    unfold ca
    rw [if_pos (by simp [dx, lvR])]
    rfl
  omega
theorem lv_ok1 : LgOk lvM1 lvX1 0 := (lay_ok (M := lvM) (d := 0) (id := 7) (r := 40) (by omega) (decide_eq_true ⟨lv_wd.has.2, by omega, by omega, by omega, by rw [lv_wd.se, solo_se]; decide⟩)).shp (shp_lay _ _ _ _)
theorem lv_ok2 : LgOk lvM2 lvX2 1 := (lv_ok1.app lv_appQ (by omega)).shp (shp_app _ _ _)
theorem lv_ok3 : LgOk lvM3 lvX3 2 := (lv_ok2.cut lv_clrQ (by omega)).shp (shp_clr _ _ _)
theorem lv_room : Room lvM 13 ∧ Room lvM1 40 ∧ Room lvM2 2 := by
  obtain ⟨_, S1, h1, _⟩ := lv_lay
  obtain ⟨_, S2, h2, _⟩ := lv_app
  exact ⟨lv_wd.room (by omega) (lvR_room (by omega)), h1.room (by omega) (lvR_room (by omega)), h2.room (by omega) (lvR_room (by omega))⟩
theorem lv_room3 : Room lvM3 13 := by
  obtain ⟨_, S, h⟩ := lv_clr
  exact h.room (by omega) (lvR_room (by omega))
def LooE : Elt (Int × Blk) := pairE 152 177 Tryz.underlying152 (by kernel_rfl)
structure RefD (w : World) (p : Nat) (vS vL : Value) (S : List Blk) (L : List (Int × Blk)) (g : Bool) : Prop where
  at_ : w.heap[p]? = some (.cells #[vS, vL, .bool g] 154)
  S_ : aA BlkE w 0 vS S
  L_ : aA LooE w 0 vL L
section
variable {w w' : World} {p : Nat} {vS vL : Value} {S : List Blk} {L : List (Int × Blk)} {g : Bool} {F : Nat → Prop}
theorem RefD.lt (h : RefD w p vS vL S L g) : ∀ k, foot p vS vL k → k < w.heap.size := by
  intro k hk
  rcases hk with rfl | hk | hk
  · exact (Array.getElem?_eq_some_iff.1 h.at_).1
  · exact h.S_.own_lt k hk
  · exact h.L_.own_lt k hk
theorem RefD.only (h : RefD w p vS vL S L g) (k : Only F w w') (hn : ∀ b, foot p vS vL b → ¬ F b) : RefD w' p vS vL S L g :=
  ⟨k.keep h.at_ (hn p (.inl rfl)), h.S_.only k fun b hb => hn b (.inr (.inl hb)), h.L_.only k fun b hb => hn b (.inr (.inr hb))⟩
theorem RefD.below (h : RefD w p vS vL S L g) (k : Below w.heap.size w w') : RefD w' p vS vL S L g := h.only (Only.of_below (fun _ => False) k) fun _ _ e => e
end
theorem r_asks (p : Nat) (vS vL : Value) (S : List Blk) (L : List (Int × Blk)) (g : Bool) (n : Int) (w : World) (h : RefD w p vS vL S L g) :
    Calls Tryz.prog 84 #[.pointer (some ⟨p, 0, none⟩), .int .i64 n] w fun e w' => e = .returned (.int .i64 (ce S g n)) ∧ w = w' := by
  obtain ⟨c0, c1, c2⟩ := cells3 h.at_
  obtain ⟨A, c, rfl, hc1, hc2⟩ := h.S_.form
  by_cases h0 : n < 0
  · have HE := Lib.hid (askE_out (S := S) (n := n) g (by omega))
    go_enter Tryz.func84, Tryz.ntmps84
    go_wp2
    go_ret
    exact ⟨aQ HE.out.symm, rfl⟩
  · by_cases h1 : n < S.length
    · cases g
      · have HE := Lib.hid (fq (S := S) (n := n) (by omega))
        go_enter Tryz.func84, Tryz.ntmps84
        go_wp2
        go_ret
        exact ⟨aQ HE.out.symm, rfl⟩
      · have HE := Lib.hid (askE_dead (S := S) (n := n) (by omega))
        go_enter Tryz.func84, Tryz.ntmps84
        go_wp2
        go_ret
        exact ⟨aQ HE.out.symm, rfl⟩
    · have HE := Lib.hid (askE_out (S := S) (n := n) g (by omega))
      go_enter Tryz.func84, Tryz.ntmps84
      go_wp2
      go_ret
      exact ⟨aQ HE.out.symm, rfl⟩
set_option maxHeartbeats 1000000 in
theorem r_sure (p : Nat) (vS vL : Value) (S : List Blk) (L : List (Int × Blk)) (g : Bool) (n : Int) (w : World) (h : RefD w p vS vL S L g) :
    Calls Tryz.prog 113 #[.pointer (some ⟨p, 0, none⟩), .int .i64 n] w fun e w' => e = .returned (.tuple #[blk (sureB S g n), .int .i64 (ce S g n)]) ∧ Below w.heap.size w w' := by
  have hA := (Below.refl w.heap.size w).alloc (Nat.le_refl _) (.cells (cel al).toArray 65)
  have h1 := h.below hA
  have HT := Lib.hid (db w al 65)
  have HA := Lib.hid hA
  clear hA
  rcases dU (S := S) (g := g) (n := n) with he | he | ⟨he, rfl, k, rfl, hk⟩
  · have HS := Lib.hid (sureB_no (S := S) (g := g) (n := n) (by omega))
    have HE := Lib.hid he
    clear he
    go_enter Tryz.func113, Tryz.ntmps113
    go_wp2_with (first | (refine ai rfl (aK rfl) ?_) | fail)
    refine (r_asks p vS vL S L g n _ h1).mono ?_
    rintro e w1 ⟨rfl, rfl⟩
    rw [HE.out]
    go_wp2_with (first | (refine ai rfl (bU (c := al) (parts := []) rfl rfl) ?_) | (refine aF rfl (aH rfl rfl rfl HT.out) ?_))
    refine bodyPost_ret (bN rfl _ _ _ rfl (World.rangeAt_setCells_same _ _ _ _ (by rw [ax]; exact HT.out))) rfl ⟨by rw [HS.out, HE.out]; rfl, below_setCells HA.out (Nat.le_refl _) _⟩
  · have HS := Lib.hid (sureB_no (S := S) (g := g) (n := n) (by omega))
    have HE := Lib.hid he
    clear he
    go_enter Tryz.func113, Tryz.ntmps113
    go_wp2_with (first | (refine ai rfl (aK rfl) ?_) | fail)
    refine (r_asks p vS vL S L g n _ h1).mono ?_
    rintro e w1 ⟨rfl, rfl⟩
    rw [HE.out]
    go_wp2_with (first | (refine ai rfl (bU (c := al) (parts := []) rfl rfl) ?_) | (refine aF rfl (aH rfl rfl rfl HT.out) ?_))
    refine bodyPost_ret (bN rfl _ _ _ rfl (World.rangeAt_setCells_same _ _ _ _ (by rw [ax]; exact HT.out))) rfl ⟨by rw [HS.out, HE.out]; rfl, below_setCells HA.out (Nat.le_refl _) _⟩
  · have HS := Lib.hid (sureB_ok he)
    have HE := Lib.hid he
    clear he
    obtain ⟨A, c, rfl, hrd, hc1, hc2⟩ := h1.S_.open_ rfl
    obtain ⟨b, off, rfl, hb, hr⟩ := hrd.blk hk
    obtain ⟨c0, c1, c2⟩ := cells3 h1.at_
    generalize S.getD k al = x at *
    have HR := Lib.hid hr
    clear hr hrd
    go_enter Tryz.func113, Tryz.ntmps113
    go_wp2_with (first | (refine ai rfl (aK rfl) ?_) | fail)
    refine (r_asks p _ vL S L false k _ h1).mono ?_
    rintro e w1 ⟨rfl, rfl⟩
    rw [HE.out]
    go_wp2_with (first | (refine ai rfl (aJ rfl rfl HR.out) ?_) | (refine aF rfl (aH rfl rfl rfl HT.out) ?_))
    refine bodyPost_ret (bN rfl _ _ _ rfl (World.rangeAt_setCells_same _ _ _ _ (by rw [ax]; exact HT.out))) rfl ⟨by rw [HS.out, HE.out]; rfl, below_setCells HA.out (Nat.le_refl _) _⟩
theorem r_read_no (p : Nat) (vS vL : Value) (S : List Blk) (L : List (Int × Blk)) (g : Bool) (n : Int) (w : World) (h : RefD w p vS vL S L g) (he0 : ce S g n ≠ 0) :
    Calls Tryz.prog 145 #[.pointer (some ⟨p, 0, none⟩), .int .i64 n] w fun e w' => e = .returned (.tuple #[blk (ed S L g n), .int .i64 (ce S g n)]) ∧ Below w.heap.size w w' := by
  have hA := (Below.refl w.heap.size w).alloc (Nat.le_refl _) (.cells (cel al).toArray 65)
  have h1 := h.below hA
  have HT := Lib.hid (db w al 65)
  have HA := Lib.hid hA
  have HS := Lib.hid (readB_no (L := L) he0)
  clear hA
  rcases dU (S := S) (g := g) (n := n) with he | he | ⟨he, _⟩
  · have HE := Lib.hid he
    clear he he0
    go_enter Tryz.func145, Tryz.ntmps145
    go_wp2_with (first | (refine ai rfl (aK rfl) ?_) | fail)
    refine (r_asks p vS vL S L g n _ h1).mono ?_
    rintro e w1 ⟨rfl, rfl⟩
    rw [HE.out]
    go_wp2_with (first | (refine ai rfl (bU (c := al) (parts := []) rfl rfl) ?_) | (refine aF rfl (aH rfl rfl rfl HT.out) ?_))
    refine bodyPost_ret (bN rfl _ _ _ rfl (World.rangeAt_setCells_same _ _ _ _ (by rw [ax]; exact HT.out))) rfl ⟨by rw [HS.out, HE.out]; rfl, below_setCells HA.out (Nat.le_refl _) _⟩
  · have HE := Lib.hid he
    clear he he0
    go_enter Tryz.func145, Tryz.ntmps145
    go_wp2_with (first | (refine ai rfl (aK rfl) ?_) | fail)
    refine (r_asks p vS vL S L g n _ h1).mono ?_
    rintro e w1 ⟨rfl, rfl⟩
    rw [HE.out]
    go_wp2_with (first | (refine ai rfl (bU (c := al) (parts := []) rfl rfl) ?_) | (refine aF rfl (aH rfl rfl rfl HT.out) ?_))
    refine bodyPost_ret (bN rfl _ _ _ rfl (World.rangeAt_setCells_same _ _ _ _ (by rw [ax]; exact HT.out))) rfl ⟨by rw [HS.out, HE.out]; rfl, below_setCells HA.out (Nat.le_refl _) _⟩
  · exact absurd he he0
set_option maxHeartbeats 2000000 in
theorem r_read_ok (p k : Nat) (vS vL : Value) (S : List Blk) (L : List (Int × Blk)) (w : World) (h : RefD w p vS vL S L false) (hk : k < S.length) :
    Calls Tryz.prog 145 #[.pointer (some ⟨p, 0, none⟩), .int .i64 k] w fun e w' => e = .returned (.tuple #[blk (ed S L false k), .int .i64 0]) ∧ Below w.heap.size w w' := by
  have hA := (Below.refl w.heap.size w).alloc (Nat.le_refl _) (.cells (cel al).toArray 65)
  have h1 := h.below hA
  have he : ce S false k = 0 := fq (by omega)
  have HE := Lib.hid he
  have HS := Lib.hid (readB_ok (L := L) he)
  have HN1 := new1 w (cel al).toArray 65
  clear he
  obtain ⟨A, c, rfl, hrd, hc1, hc2⟩ := h1.S_.open_ rfl
  obtain ⟨b, off, rfl, hb, hr⟩ := hrd.blk hk
  obtain ⟨c0, c1, c2⟩ := cells3 h1.at_
  generalize S.getD k al = x at *
  have HR := Lib.hid hr
  have HH := Lib.hid h1
  have HA := Lib.hid hA
  have HN := Lib.hid HN1
  have HSZ := Lib.hid (World.size_alloc w (.cells (cel al).toArray 65))
  clear hr hrd h1 hA h HN1
  go_enter Tryz.func145, Tryz.ntmps145
  go_wp2_with (first | (refine ai rfl (aK rfl) ?_) | fail)
  generalize w.alloc (.cells (cel al).toArray 65) = w1 at *
  refine (r_asks p _ vL S L false k _ HH.out).mono ?_
  rintro e w2 ⟨rfl, rfl⟩
  rw [HE.out]
  go_wp2_with (first | (refine ai rfl (aJ rfl rfl HR.out) ?_) | (refine ai rfl (aK rfl) ?_) | (refine aF rfl (exec_fill rfl rfl rfl) ?_) | fail)
  have HY := Lib.hid (new1 w1 (cel x).toArray 65)
  have HH2 := Lib.hid (HH.out.below ((Below.refl _ _).alloc (Nat.le_refl _) (.cells (cel x).toArray 65)))
  have HK2 := Lib.hid (bM HN.out (.cells (cel x).toArray 65))
  have HA2 := Lib.hid (HA.out.alloc HA.out.size (.cells (cel x).toArray 65))
  have HF := Lib.hid HH.out.lt
  have hyw : w.heap.size < w1.heap.size := by rw [HSZ.out]; omega
  have HSZ2 := Lib.hid (World.size_alloc w1 (.cells (cel x).toArray 65))
  clear HH HN HA c0 c1 c2 HR
  generalize hy : w1.heap.size = y at *
  generalize w1.alloc (.cells (cel x).toArray 65) = w2 at *
  clear hy
  go_wp2_with fail
  go_loopw [8] (fun i wr => ∃ j : Nat, j ≤ L.length ∧ i = .int .i64 j ∧ Only (fun b => b = y) w2 wr ∧ wr.heap[y]? = some (.cells (cel (lastW (L.take j) k x)).toArray 65)) (fun i _ => L.length - (intOf i).toNat)
  case atStart => exact ⟨0, Nat.zero_le _, rfl, Only.refl _ _, HY.out⟩
  case round =>
    obtain ⟨j, hj, rfl, hon, hY⟩ := hrel
    have hH := HH2.out.only hon (fun b hb e => by have := HF.out b hb; omega)
    obtain ⟨c0, c1, c2⟩ := cells3 hH.at_
    obtain ⟨AL, cL, rfl, hrd, hl1, hl2⟩ := hH.L_.open_ rfl
    unfold maxLen at hl2
    have HON := Lib.hid hon
    have HYW := Lib.hid hY
    clear hon hY hH
    by_cases hlt : j < L.length
    · have HNX := Lib.hid (lastW_succ (L := L) (k : Int) x hlt)
      obtain ⟨bA, oA, rfl, hA, cA, rA⟩ := hrd.pair hlt
      generalize L.getD j (0, al) = q at *
      obtain ⟨qn, qb⟩ := q
      have HRA := Lib.hid rA
      have HTY := Lib.hid (blk_there HYW.out)
      clear rA hrd
      have hAw : bA ≠ y := by have := HF.out bA (.inr (.inr rfl)); omega
      have hLL : (j : Int) < (L.length : Int) := by omega
      by_cases e : qn = (k : Int)
      · simp only [e, if_true] at HNX
        subst e
        go_wp2_with (first | (refine ai rfl (aJ rfl rfl HRA.out) ?_) | (refine aF rfl (aH rfl rfl rfl HTY.out) ?_))
        go_roundw
        case rel => exact ⟨j + 1, by omega, by go_num, HON.out.setCells (.inl rfl) _ _, by rw [HNX.out]; exact blk_laid HYW.out⟩
        case measure => simp [intOf]; omega
      · rw [if_neg e] at HNX
        go_wp2_with (first | (refine ai rfl (aJ rfl rfl HRA.out) ?_) | (refine aF rfl (aH rfl rfl rfl HTY.out) ?_))
        go_roundw
        case rel => exact ⟨j + 1, by omega, by go_num, HON.out, by rw [HNX.out]; exact HYW.out⟩
        case measure => simp [intOf]; omega
    · have hjn : j = L.length := by omega
      subst hjn
      have HR := Lib.hid (HON.out.keep HK2.out (by omega))
      have HTR := Lib.hid (blk_there HR.out)
      have HRY := Lib.hid (blk_range HYW.out)
      rw [List.take_length] at HRY
      generalize lastW L (k : Int) x = z at *
      have hLL : ¬((L.length : Int) < (L.length : Int)) := by omega
      go_wp2_with (first | (refine ai rfl (aJ rfl rfl HRY.out) ?_) | (refine aF rfl (aH rfl rfl rfl HTR.out) ?_))
      refine bodyPost_ret (bN rfl _ _ _ rfl (World.rangeAt_setCells_same _ _ _ _ (by rw [ax]; exact HTR.out))) rfl ⟨by rw [HS.out]; rfl, ?_⟩
      exact below_setCells (HA2.out.trans (HON.out.below (fun b hb => by omega) (by rw [HSZ2.out]; omega))) (Nat.le_refl _) _
theorem r_read (p : Nat) (vS vL : Value) (S : List Blk) (L : List (Int × Blk)) (g : Bool) (n : Int) (w : World) (h : RefD w p vS vL S L g) :
    Calls Tryz.prog 145 #[.pointer (some ⟨p, 0, none⟩), .int .i64 n] w fun e w' => e = .returned (.tuple #[blk (ed S L g n), .int .i64 (ce S g n)]) ∧ Below w.heap.size w w' := by
  by_cases he : ce S g n = 0
  · rcases dU (S := S) (g := g) (n := n) with h1 | h1 | ⟨_, rfl, k, rfl, hk⟩
    · omega
    · omega
    · rw [he]; exact r_read_ok p k vS vL S L w h hk
  · exact r_read_no p vS vL S L g n w h he
end Go.Proofs.YtcafafdimcecpaaGreatDoor
