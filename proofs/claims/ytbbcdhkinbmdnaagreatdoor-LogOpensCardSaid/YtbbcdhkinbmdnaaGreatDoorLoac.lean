import Derived.Test.YtbbcdhkinbmdnaaGreatDoorLoab
import Derived.Laws.AppendOwn
import Derived.Laws.OwnMore
import Derived.Test.YtbbcdhkinbmdnaaGreatDoorLoZ
namespace Go.Proofs.YtbbcdhkinbmdnaaGreatDoor
open Go.RowKit
set_option maxRecDepth 100000
set_option linter.unusedVariables false
def flat (l : List Blk) : List Value := l.flatMap cel
theorem fO (x : Blk) (l : List Blk) : flat (x :: l) = cel x ++ flat l := rfl
theorem flat_append (a b : List Blk) : flat (a ++ b) = flat a ++ flat b := by simp [flat]
theorem dO (l : List Blk) : (flat l).length = l.length * 64 := by
 induction l with
 | nil => rfl
 | cons x l ih => rw [fO, List.length_append, aA, ih, List.length_cons]; omega
theorem flat_at (l : List Blk) {k j : Nat} (hk : k < l.length) (hj : j < 64) : (flat l)[k * 64 + j]? = (cel (l.getD k ap))[j]? := by
 induction l generalizing k with
 | nil => simp at hk
 | cons x l ih =>
  rw [fO]
  cases k with
  | zero => rw [Nat.zero_mul, Nat.zero_add, List.getElem?_append_left (by rw [aA]; exact hj)]; rfl
  | succ k =>
   rw [List.getElem?_append_right (by rw [aA]; omega), aA, show (k + 1) * 64 + j - 64 = k * 64 + j from by omega, ih (by simpa using hk)]
   rfl
theorem flat_one (l : List Blk) : ∀ v ∈ flat l, v.oneCell' = true := by
 intro v hv
 simp only [flat, List.mem_flatMap] at hv
 obtain ⟨b, _, hb⟩ := hv
 exact cel_one b v hb
theorem rdB_of {w : World} {g o B : Nat} {l : List Blk} (hg : g < B) (h : ∀ j v, (flat l)[j]? = some v → w.cell? ⟨g, o + j, none⟩ = some v) : RdB w B (some ⟨g, o, none⟩) l.length l :=
 ⟨rfl, fun k hk => ⟨g, o, rfl, hg, fun j v hj => by
  have hlt : j < 64 := by have := (List.getElem?_eq_some_iff.1 hj).1; rwa [aA] at this
  rw [show o + k * 64 + j = o + (k * 64 + j) from by omega]
  exact h _ v (by rw [flat_at l hk hlt]; exact hj)⟩⟩
theorem rdB_new (w : World) (l : List Blk) (t : TypeId) : RdB (w.alloc (.cells (flat l).toArray t)) (w.heap.size + 1) (some ⟨w.heap.size, 0, none⟩) l.length l :=
 rdB_of (by omega) fun j v hj => by
  rw [cell_of_row _ _ (0 + j) (flat l).toArray t (0, 0) (heap_alloc_new w _)]
  simpa using hj
theorem cells_of_rdB {w : World} {N n : Nat} {ad : Addr} {l : List Blk} (h : RdB w N (some ad) n l) : ∀ (j : Nat) (u : Value), (flat l)[j]? = some u → w.cell? (ad.add j) = some u := by
 intro j u hu
 have hj : j < l.length * 64 := by have := (List.getElem?_eq_some_iff.1 hu).1; rwa [dO] at this
 have hk : j / 64 < l.length := by omega
 obtain ⟨b, off, e, _, hc⟩ := h.2 (j / 64) (by have := h.1; omega)
 injection e with e
 subst e
 rw [Addr.add_mid]
 have h2 := flat_at l hk (j := j % 64) (by omega)
 rw [show j / 64 * 64 + j % 64 = j from by omega, hu] at h2
 have h3 := hc (j % 64) u h2.symm
 rwa [show off + j / 64 * 64 + j % 64 = off + j from by omega] at h3
def dr (w : World) (base : Nat) (v : Value) (l : List Blk) : Prop := w.ownsRow base 29 64 v l.length (flat l)
section
variable {w w' : World} {B B' n : Nat} {v : Value} {l : List Blk}
theorem dr.nil (w : World) (B : Nat) : dr w B (.slice none 0 0) [] := ⟨rfl, .inl ⟨rfl, rfl⟩⟩
theorem dr.form (h : dr w B v l) : ∃ A c, v = .slice A l.length c ∧ l.length ≤ c ∧ c ≤ maxLen := by
 rcases h.2 with ⟨rfl, h0⟩ | ⟨g, cap, cur, rfl, _, _, h1, h2, _⟩
 ·exact ⟨none, 0, by rw [h0], by omega, by simp [maxLen]⟩
 ·exact ⟨_, cap, rfl, h1, h2⟩
theorem dr.rd {A : Option Addr} {c : Nat} (h : dr w B (.slice A n c) l) : RdB w w.heap.size A n l := by
 rcases h.2 with ⟨hv, h0⟩ | ⟨g, cap, cur, hv, _, hg, _, _, _, ht⟩
 ·have hl : l = [] := List.eq_nil_of_length_eq_zero h0
  subst hl
  injection hv with h1 h2 h3
  subst h2
  exact RdB.nil _ _ _
 ·injection hv with h1 h2 h3
  subst h1 h2 h3
  refine rdB_of (Array.getElem?_eq_some_iff.1 hg).1 fun j u hu => ?_
  rw [cell_of_row w g (0 + j) cur 29 (0, 0) hg, Nat.zero_add]
  have hj : j < l.length * 64 := by have := (List.getElem?_eq_some_iff.1 hu).1; rwa [dO] at this
  rw [← ht, List.getElem?_take_of_lt hj] at hu
  simpa using hu
theorem dr.below (h : dr w B v l) (hb : Below w.heap.size w w') : dr w' B v l := by
 refine ⟨h.1, ?_⟩
 rcases h.2 with hn | ⟨g, cap, cur, rfl, hbg, hg, rest⟩
 ·exact .inl hn
 ·exact .inr ⟨g, cap, cur, rfl, hbg, by rw [hb.block g (Array.getElem?_eq_some_iff.1 hg).1]; exact hg, rest⟩
theorem dr.base (h : dr w B v l) (hb : B' ≤ B) : dr w B' v l := by
 refine ⟨h.1, ?_⟩
 rcases h.2 with hn | ⟨g, cap, cur, rfl, hbg, rest⟩
 ·exact .inl hn
 ·exact .inr ⟨g, cap, cur, rfl, Nat.le_trans hb hbg, rest⟩
theorem dr.open_ (h : dr w B v l) (hn : l.length = n) : ∃ A c, v = .slice A n c ∧ RdB w w.heap.size A n l ∧ n ≤ c ∧ c ≤ maxLen := by
 subst hn
 obtain ⟨A, c, rfl, h1, h2⟩ := h.form
 exact ⟨A, c, rfl, h.rd, h1, h2⟩
end
theorem run_appB (w : World) (ty B N m c : Nat) (v : Value) (l l' : List Blk) (A : Option Addr) (hm : dr w B v l) (hr : RdB w N A m l') (hB : B ≤ w.heap.size) (hsum : l.length + m ≤ 2199023255552) :
  ∃ v' w', (Builtin.append_ #[123, 123] ty #[v, .slice A m c]).run Tryz.prog w = .ok v' w' ∧ dr w' B v' (l ++ l') ∧ w.grownBy w' v.ownBlock := by
 obtain ⟨i0, hi, hz0, hz1, hz2⟩ := info_parts infoB
 rcases A with _ | ad
 ·have h0 : m = 0 := by
   rcases Nat.eq_zero_or_pos m with h | h
   ·exact h
   ·obtain ⟨b, off, e, _⟩ := hr.2 0 h
    cases e
  subst h0
  have hn : l' = [] := List.eq_nil_of_length_eq_zero hr.1
  subst hn
  refine ⟨v, w, ?_, by rw [List.append_nil]; exact hm, World.grownBy.refl w _⟩
  rcases hm.2 with ⟨rfl, _⟩ | ⟨g, cap, cur, rfl, _, _, hnc, _⟩
  ·simp [Builtin.append_, run_underlying underS, sizeOf, typeInfo, hi, Builtin.lenOf, Builtin.firstCells]
  ·simp [Builtin.append_, run_underlying underS, sizeOf, typeInfo, hi, Builtin.lenOf, Builtin.firstCells, hnc, storeCells]
 ·obtain ⟨v', w', h1, h2, h3, _⟩ := run_append_own (P := Tryz.prog) w B 123 ty 29 i0 (blk ap) 64 64 underS hi hz0 hz1 hz2 (by rw [er]; simp [aA]) (by decide) v l.length _ hm ad m c (flat l')
   (by rw [dO, hr.1]) (cells_of_rdB hr) (flat_one l') (by unfold maxLen; omega) (by omega) hB
  refine ⟨v', w', h1, ?_, h3⟩
  unfold dr
  rw [flat_append, List.length_append, hr.1]
  exact h2
theorem wpList_appB {w : World} {ops : Array Oper} {rest : List Oper} {o : Oper} {a : Act} {Q : Exit → Act → World → Prop} (hgd : o.guard = none) (s x : Operand)
  (ho : o.op = .call { callee := .builtin .append, args := #[s, x], argTypes := #[123, 123] })
  (B N m c : Nat) (v : Value) (l l' : List Blk) (A : Option Addr) (hs : a.eval s = v) (hx : a.eval x = .slice A m c) (hm : dr w B v l) (hr : RdB w N A m l') (hB : B ≤ w.heap.size) (hsum : l.length + m ≤ 2199023255552)
  (h : ∀ v' w', dr w' B v' (l ++ l') → w.grownBy w' v.ownBlock → wpList Tryz.prog ops Q rest (a.put o.dst v') w') : wpList Tryz.prog ops Q (o :: rest) a w := by
 refine wpList_plain hgd fun K hK => ?_
 obtain ⟨v', w', hrun, h1, h2⟩ := run_appB w o.type B N m c v l l' A hm hr hB hsum
 unfold Oper.wp
 simp [execOp, ho, resolve, invoke, builtin, hs, hx, hrun, Result.andThen]
 exact hK _ _ (h v' w' h1 h2)
theorem write_at (pre post : List Value) : ∀ (vs mid done : List Value), mid.length = vs.length →
  (vs.zipIdx done.length).foldl (fun cs (p : Value × Nat) => cs.setIfInBounds (pre.length + p.2) p.1) (pre ++ done ++ mid ++ post).toArray = (pre ++ done ++ vs ++ post).toArray
 | [], mid, done, h => by
  have : mid = [] := List.eq_nil_of_length_eq_zero h
  subst this
  simp
 | v :: vs, mid, done, h => by
  match mid, h with
  | m :: ms, h =>
   rw [List.zipIdx_cons, List.foldl_cons]
   have hset : (pre ++ done ++ m :: ms ++ post).toArray.setIfInBounds (pre.length + done.length) v = (pre ++ (done ++ [v]) ++ ms ++ post).toArray := by
    rw [List.setIfInBounds_toArray]
    congr 1
    rw [List.append_assoc (pre ++ done), List.set_append_right _ _ (by simp), List.length_append, Nat.sub_self]
    simp
   have := write_at pre post vs ms (done ++ [v]) (by simpa using h)
   rw [List.length_append, List.length_singleton] at this
   show (vs.zipIdx (done.length + 1)).foldl (fun cs (p : Value × Nat) => cs.setIfInBounds (pre.length + p.2) p.1) ((pre ++ done ++ m :: ms ++ post).toArray.setIfInBounds (pre.length + done.length) v) = _
   rw [hset, this]
   simp
theorem fill_blocks : ∀ (bs : List Blk) (k : Nat) (pre rest : List Value), pre.length = k * 64 → rest.length = bs.length * 64 →
  Instr.fill (fun i => some (i * 64, 64)) (pre ++ rest).toArray ((bs.zipIdx k).map fun p => (p.2, blk p.1)) = some (pre ++ flat bs).toArray
 | [], k, pre, rest, hp, hr => by
  have : rest = [] := List.eq_nil_of_length_eq_zero (by simpa using hr)
  subst this
  simp [Instr.fill, flat]
 | b :: bs, k, pre, rest, hp, hr => by
  have hw := write_at pre (rest.drop 64) (cel b) (rest.take 64) [] (by rw [List.length_take, aA, hr, List.length_cons]; omega)
  simp only [List.append_nil, List.length_nil, List.append_assoc, List.take_append_drop] at hw
  have ih := fill_blocks bs (k + 1) (pre ++ cel b) (rest.drop 64) (by rw [List.length_append, hp, aA]; omega) (by rw [List.length_drop, hr, List.length_cons]; omega)
  rw [List.zipIdx_cons, List.map_cons, Instr.fill]
  have hc : (decide ((blk b).cells.size ≠ 64) || decide (k * 64 + (blk b).cells.size > (pre ++ rest).toArray.size)) = false := by
   rw [er]
   simp [aA, hp, hr]
   omega
  show (if (decide ((blk b).cells.size ≠ 64) || decide (k * 64 + (blk b).cells.size > (pre ++ rest).toArray.size)) = true then none else _) = _
  rw [hc, if_neg (by simp), er, ← Array.foldl_toList, Array.toList_zipIdx]
  rw [hp] at hw
  simp only [List.append_assoc] at ih
  rw [hw, ih, fO]
section
variable {ρ : Operand → Value} {o : Oper} {w : World} {n : Nat}
theorem exec_buildS {parts : List (Nat × Operand)} (bs : List Blk) (ho : o.op = .buildSlice 123 n parts.toArray) (h : parts.map (fun (i, x) => (i, ρ x)) = (bs.zipIdx 0).map fun p => (p.2, blk p.1)) (hn : bs.length = n) (h0 : 0 < n) (h1 : n ≤ 1000) :
  (execOp ρ o).run Tryz.prog w = .ok (.value (.slice (some ⟨w.heap.size, 0, none⟩) n n)) (w.alloc (.cells (flat bs).toArray 29)) := by
 subst hn
 have hz : ((Array.range (bs.length * 64)).map fun j => (blk ap).cells[j % (blk ap).cells.size]!).toList.length = bs.length * 64 := by simp
 have hf := fill_blocks bs 0 [] _ (by simp) hz
 simp only [List.nil_append, Array.toArray_toList] at hf
 have hs : (sizeOf 29).run Tryz.prog w = .ok 64 w := Tryz.sizeOf29 w
 unfold execOp
 simp only [ho, List.map_toArray, Instr.buildSlice, Sem.run_bind, run_underlying underS, Result.andThen_ok, hs]
 rw [if_neg (by omega), if_neg (by omega)]
 simp only [Sem.run_bind, run_zeroB, Result.andThen_ok, Sem.run_pure, h]
 rw [hf]
 simp [newRow]
end
def hd (n : Nat) : Nat := (n + 15) / 16
theorem hd_le (n : Nat) : 4 * n ≤ 64 * hd n := by unfold hd; omega
def dZ (n : Int) : Nat := if n < 1 ∨ 32 < n then 0 else hd n.toNat + n.toNat
theorem sizN_no {n : Int} (h : n < 1 ∨ 32 < n) : dZ n = 0 := if_pos h
theorem fv {n : Nat} (h1 : 1 ≤ n) (h2 : n ≤ 32) : dZ (n : Int) = hd n + n := by unfold dZ; rw [if_neg (by omega), Int.toNat_natCast]
theorem of_sizN {n : Int} (h : dZ n ≠ 0) : ∃ k : Nat, n = (k : Int) ∧ 1 ≤ k ∧ k ≤ 32 := by
 by_cases h1 : n < 1 ∨ 32 < n
 ·exact absurd (sizN_no h1) h
 ·exact ⟨n.toNat, by omega, by omega, by omega⟩
theorem bt_beyond {l : List UInt8} {j : Nat} (h : l.length ≤ j) : bt l j = 0 := by
 unfold bt
 rw [List.getD, List.getElem?_eq_none h]
 rfl
def bJ (l : List Blk) : List UInt8 := l.flatMap fun b => b.toList
theorem fN (b : Blk) (l : List Blk) : bJ (b :: l) = b.toList ++ bJ l := rfl
theorem eU (a b : List Blk) : bJ (a ++ b) = bJ a ++ bJ b := by simp [bJ]
theorem cx (l : List Blk) : (bJ l).length = 64 * l.length := by
 induction l with
 | nil => rfl
 | cons x l ih => rw [fN, List.length_append, ih, List.length_cons, bz]; omega
theorem byts_flat (l : List Blk) : (bJ l).map (fun u => Value.int .u8 (u.toNat : Int)) = flat l := by
 induction l with
 | nil => rfl
 | cons x l ih => rw [fN, List.map_append, ih, fO]; rfl
theorem bt_byts {l : List Blk} {k j : Nat} (hk : k < l.length) (hj : j < 64) : bt (bJ l) (64 * k + j) = byt (l.getD k ap) j := by
 induction l generalizing k with
 | nil => simp at hk
 | cons x l ih =>
  rw [fN]
  cases k with
  | zero => rw [Nat.mul_zero, Nat.zero_add, bX (by rw [bz]; exact hj)]; rfl
  | succ k =>
   rw [ct (by rw [bz]; omega), bz, show 64 * (k + 1) + j - 64 = 64 * k + j from by omega, ih (by simpa using hk)]
   rfl
theorem byts_inj {a b : List Blk} (hl : a.length = b.length) (h : ∀ j, j < 64 * a.length → bt (bJ a) j = bt (bJ b) j) : a = b := by
 apply List.ext_getElem hl
 intro k h1 h2
 apply blk_ext
 intro j hj
 have e := h (64 * k + j) (by omega)
 rw [bt_byts h1 hj, bt_byts h2 hj] at e
 simpa [List.getD, h1, h2] using e
theorem byts_take (l : List Blk) (k : Nat) : bJ (l.take k) = (bJ l).take (64 * k) := by
 induction l generalizing k with
 | nil => simp [bJ]
 | cons x l ih =>
  cases k with
  | zero => simp [bJ]
  | succ k =>
   rw [List.take_succ_cons, fN, fN, List.take_append, bz, ih, List.take_of_length_le (l := x.toList) (by rw [bz]; omega), show 64 * (k + 1) - 64 = 64 * k from by omega]
theorem bt_take {l : List UInt8} {k j : Nat} (h : j < k) : bt (l.take k) j = bt l j := by
 unfold bt
 simp [List.getD, List.getElem?_take_of_lt h]
def secs (k : Nat) (x : List UInt8) : List Blk := (List.range k).map fun i => ofL (x.drop (64 * i))
theorem dv (k : Nat) (x : List UInt8) : (secs k x).length = k := by simp [secs]
theorem bt_secs {k j : Nat} {x : List UInt8} (h : j < 64 * k) : bt (bJ (secs k x)) j = bt x j := by
 have e : j = 64 * (j / 64) + j % 64 := by omega
 have hk : j / 64 < (secs k x).length := by rw [dv]; omega
 rw [e, bt_byts hk (by omega)]
 have e2 : (secs k x).getD (j / 64) ap = ofL (x.drop (64 * (j / 64))) := by
  unfold secs
  rw [List.getD, List.getElem?_map, List.getElem?_range (by omega)]
  rfl
 rw [e2, ofL_byt _ (by omega)]
 unfold bt
 simp [List.getD, List.getElem?_drop]
theorem byts_secs {k : Nat} {x : List UInt8} (h : x.length ≤ 64 * k) : bJ (secs k x) = x ++ List.replicate (64 * k - x.length) 0 := by
 refine eC (by rw [cx, dv, List.length_append, List.length_replicate]; omega) fun j hj => ?_
 rw [cx, dv] at hj
 rw [bt_secs hj]
 by_cases hx : j < x.length
 ·rw [bX hx]
 ·rw [ct (by omega), bt_noughts, bt_beyond (by omega)]
structure Cl where
 s : Int
 m : Int
 b : Blk
deriving DecidableEq
def cC : Cl := ⟨0, 0, ap⟩
def okP (s m : Int) : Bool := decide (0 ≤ s ∧ s < 64 ∧ 0 ≤ m ∧ m < 16)
def okC (c : Cl) : Bool := okP c.s c.m
theorem of_okC {c : Cl} (h : okC c = true) : 0 ≤ c.s ∧ c.s < 64 ∧ 0 ≤ c.m ∧ c.m < 16 := of_decide_eq_true h
def badC (l : List Cl) : Bool := l.any fun c => !okC c
theorem badC_of {l : List Cl} {k : Nat} (hk : k < l.length) (h : okC (l.getD k cC) = false) : badC l = true := by
 rw [List.getD, List.getElem?_eq_getElem hk, Option.getD_some] at h
 exact List.any_eq_true.2 ⟨l[k], List.getElem_mem hk, by rw [h]; rfl⟩
theorem badC_no {l : List Cl} (h : ∀ k, k < l.length → okC (l.getD k cC) = true) : badC l = false := by
 refine Bool.eq_false_iff.2 fun hb => ?_
 obtain ⟨c, hc, h2⟩ := List.any_eq_true.1 hb
 obtain ⟨k, hk, rfl⟩ := List.getElem_of_mem hc
 have := h k hk
 rw [List.getD, List.getElem?_eq_getElem hk, Option.getD_some] at this
 rw [this] at h2
 cases h2
theorem of_badC {l : List Cl} (h : badC l = false) {k : Nat} (hk : k < l.length) : okC (l.getD k cC) = true := by
 cases e : okC (l.getD k cC)
 ·rw [badC_of hk e] at h; cases h
 ·rfl
def pl4 (c : Cl) : List UInt8 := aX 8 2 c.s.toNat ++ (aX 8 1 c.m.toNat ++ [0])
theorem pl4_length (c : Cl) : (pl4 c).length = 4 := by simp [pl4, ay]
def rowC (l : List Cl) : List UInt8 := l.flatMap pl4
theorem rowC_cons (c : Cl) (l : List Cl) : rowC (c :: l) = pl4 c ++ rowC l := rfl
theorem rowC_append (a b : List Cl) : rowC (a ++ b) = rowC a ++ rowC b := by simp [rowC]
theorem ee (l : List Cl) : (rowC l).length = 4 * l.length := by
 induction l with
 | nil => rfl
 | cons x l ih => rw [rowC_cons, List.length_append, ih, List.length_cons, pl4_length]; omega
theorem bt_rowC {l : List Cl} {k j : Nat} (hk : k < l.length) (hj : j < 4) : bt (rowC l) (4 * k + j) = bt (pl4 (l.getD k cC)) j := by
 induction l generalizing k with
 | nil => simp at hk
 | cons x l ih =>
  rw [rowC_cons]
  cases k with
  | zero => rw [Nat.mul_zero, Nat.zero_add, bX (by rw [pl4_length]; exact hj)]; rfl
  | succ k =>
   rw [ct (by rw [pl4_length]; omega), pl4_length, show 4 * (k + 1) + j - 4 = 4 * k + j from by omega, ih (by simpa using hk)]
   rfl
def blks (l : List Cl) : List Blk := l.map fun c => c.b
theorem eL (l : List Cl) : (blks l).length = l.length := by simp [blks]
def bS (l : List Cl) : List Blk := secs (hd l.length) (rowC l) ++ blks l
theorem ca (l : List Cl) : (bS l).length = hd l.length + l.length := by unfold bS; rw [List.length_append, dv, eL]
theorem byts_recL (l : List Cl) : bJ (bS l) = (rowC l ++ List.replicate (64 * hd l.length - 4 * l.length) 0) ++ bJ (blks l) := by
 unfold bS
 rw [eU, byts_secs (by rw [ee]; exact hd_le _), ee]
def recE (l : List Cl) : Nat := if l.length = 0 ∨ badC l = true then 2 else if 32 < l.length then 3 else 0
def recP (l : List Cl) : List Blk := if recE l = 0 then bS l else []
theorem recE_bad {l : List Cl} (h : l.length = 0 ∨ badC l = true) : recE l = 2 := if_pos h
theorem recE_long {l : List Cl} (h0 : l.length ≠ 0) (hb : badC l = false) (h : 32 < l.length) : recE l = 3 := by unfold recE; rw [if_neg (by rw [hb]; simp; simpa using h0), if_pos h]
theorem recE_ok {l : List Cl} (h0 : l.length ≠ 0) (hb : badC l = false) (h : l.length ≤ 32) : recE l = 0 := by unfold recE; rw [if_neg (by rw [hb]; simp; simpa using h0), if_neg (by omega)]
theorem of_recE {l : List Cl} (h : recE l = 0) : 1 ≤ l.length ∧ l.length ≤ 32 ∧ badC l = false := by
 unfold recE at h
 split at h
 ·omega
 ·rename_i h1
  split at h
  ·omega
  ·exact ⟨by omega, by omega, by cases e : badC l; rfl; exact absurd (.inr e) h1⟩
theorem recP_ok {l : List Cl} (h : recE l = 0) : recP l = bS l := if_pos h
theorem recP_no {l : List Cl} (h : recE l ≠ 0) : recP l = [] := if_neg h
theorem val_pc1 {b : List UInt8} {p : Nat} (h : p < b.length) : (val 8 (piece b p 1) : Int) = bt b p := by
 have := fU (b := b) (p := p) (k := 0) h
 rw [this]
 simp [piece, val]
theorem val_pc2 {b : List UInt8} {p : Nat} (h : p + 1 < b.length) : (val 8 (piece b p 2) : Int) = bt b p + 256 * bt b (p + 1) := by
 rw [fU (b := b) (p := p) (k := 1) (by omega), val_pc1 h]
 omega
def tolC (l : List Blk) (k i : Nat) : Cl := ⟨val 8 (piece (bJ l) (4 * i) 2), val 8 (piece (bJ l) (4 * i + 2) 1), l.getD (k + i) ap⟩
def tol (l : List Blk) (n : Nat) : List Cl := (List.range n).map fun i => tolC l (hd n) i
theorem b9 (l : List Blk) (n : Nat) : (tol l n).length = n := by simp [tol]
theorem tol_at {l : List Blk} {n i : Nat} (h : i < n) : (tol l n).getD i cC = tolC l (hd n) i := by
 unfold tol
 rw [List.getD, List.getElem?_map, List.getElem?_range h]
 rfl
section
variable {l : List Blk} {n : Nat} (hl : l.length = hd n + n)
include hl
theorem tol_len64 : 4 * n ≤ (bJ l).length := by rw [cx, hl]; have := hd_le n; omega
theorem pl4_tol {i : Nat} (h : i < n) : pl4 (tolC l (hd n) i) = piece (bJ l) (4 * i) 2 ++ (piece (bJ l) (4 * i + 2) 1 ++ [0]) := by
 have h64 := tol_len64 hl
 have l2 := bi (b := bJ l) (p := 4 * i) (k := 2) (by omega)
 have l1 := bi (b := bJ l) (p := 4 * i + 2) (k := 1) (by omega)
 unfold pl4 tolC
 rw [Int.toNat_natCast, Int.toNat_natCast]
 have e2 := digL_val (all_256 (piece (bJ l) (4 * i) 2))
 have e1 := digL_val (all_256 (piece (bJ l) (4 * i + 2) 1))
 rw [l2] at e2
 rw [l1] at e1
 rw [e2, e1]
theorem bt_pl4_tol {i j : Nat} (h : i < n) (hj : j < 4) : bt (pl4 (tolC l (hd n) i)) j = if j = 3 then 0 else bt (bJ l) (4 * i + j) := by
 have h64 := tol_len64 hl
 have l2 := bi (b := bJ l) (p := 4 * i) (k := 2) (by omega)
 have l1 := bi (b := bJ l) (p := 4 * i + 2) (k := 1) (by omega)
 rw [pl4_tol hl h]
 by_cases h2 : j < 2
 ·rw [bX (by omega), dy h2, if_neg (by omega)]
 ·rw [ct (by omega), l2]
  by_cases h3 : j = 3
  ·subst h3
   rw [ct (by omega), l1, if_pos rfl]
   rfl
  ·rw [bX (by omega), dy (by omega), if_neg h3, show 4 * i + 2 + (j - 2) = 4 * i + j from by omega]
theorem blks_tol : blks (tol l n) = l.drop (hd n) := by
 apply List.ext_getElem
 ·rw [eL, b9, List.length_drop]; omega
 ·intro i h1 h2
  rw [eL, b9] at h1
  have e : (blks (tol l n))[i]? = some (l.getD (hd n + i) ap) := by
   unfold blks tol tolC
   rw [List.getElem?_map, List.getElem?_map, List.getElem?_range h1]
   rfl
  rw [List.getElem?_eq_getElem (by rw [eL, b9]; exact h1)] at e
  injection e with e
  rw [e, List.getElem_drop, List.getD, List.getElem?_eq_getElem (by omega)]
  rfl
theorem recL_tol : bS (tol l n) = l ↔ (∀ i, i < n → bt (bJ l) (4 * i + 3) = 0) ∧ (∀ j, 4 * n ≤ j → j < 64 * hd n → bt (bJ l) j = 0) := by
 have hle := hd_le n
 have hb := blks_tol hl
 have hlen : (bS (tol l n)).length = l.length := by rw [ca, b9, hl]
 have key : ∀ j, j < 64 * hd n → bt (bJ (bS (tol l n))) j = bt (rowC (tol l n)) j := fun j hj => by
  unfold bS
  rw [b9, eU, bX (by rw [cx, dv]; exact hj), bt_secs hj]
 have keyi : ∀ i r, i < n → r < 4 → bt (rowC (tol l n)) (4 * i + r) = if r = 3 then 0 else bt (bJ l) (4 * i + r) := fun i r hi hr => by
  rw [bt_rowC (by rw [b9]; exact hi) hr, tol_at hi, bt_pl4_tol hl hi hr]
 constructor
 ·intro e
  refine ⟨fun i hi => ?_, fun j h1 h2 => ?_⟩
  ·have h1 := key (4 * i + 3) (by omega)
   rw [e, keyi i 3 hi (by omega), if_pos rfl] at h1
   exact h1
  ·have h3 := key j h2
   rw [e, bt_beyond (l := rowC (tol l n)) (by rw [ee, b9]; exact h1)] at h3
   exact h3
 ·rintro ⟨h3, hz⟩
  refine byts_inj hlen fun j hj => ?_
  rw [hlen, hl] at hj
  by_cases h1 : j < 64 * hd n
  ·rw [key j h1]
   by_cases h2 : j < 4 * n
   ·have e : j = 4 * (j / 4) + j % 4 := by omega
    have h4 := keyi (j / 4) (j % 4) (by omega) (by omega)
    rw [← e] at h4
    rw [h4]
    split
    ·rename_i e3
     have h5 := h3 (j / 4) (by omega)
     rw [← e3, ← e] at h5
     exact h5.symm
    ·rfl
   ·rw [bt_beyond (l := rowC (tol l n)) (by rw [ee, b9]; omega), hz j (by omega) h1]
  ·unfold bS
   rw [b9, eU, ct (by rw [cx, dv]; omega), cx, dv, hb]
   have e : bJ l = bJ (l.take (hd n)) ++ bJ (l.drop (hd n)) := by rw [← eU, List.take_append_drop]
   rw [e, ct (by rw [cx, List.length_take]; omega), cx, List.length_take, Nat.min_eq_left (by omega)]
end
def rgE (l : List Blk) (n : Int) : Nat := if dZ n = 0 then 2 else if l.length < dZ n then 4 else if dZ n < l.length then 5 else if badC (tol l n.toNat) = true ∨ bS (tol l n.toNat) ≠ l then 5 else 0
def rgC (l : List Blk) (n : Int) : List Cl := if rgE l n = 0 then tol l n.toNat else []
theorem rgC_no {l : List Blk} {n : Int} (h : rgE l n ≠ 0) : rgC l n = [] := if_neg h
theorem rgC_ok {l : List Blk} {n : Int} (h : rgE l n = 0) : rgC l n = tol l n.toNat := if_pos h
theorem rgE_arg {l : List Blk} {n : Int} (h : dZ n = 0) : rgE l n = 2 := if_pos h
theorem rgE_short {l : List Blk} {n : Int} (h : dZ n ≠ 0) (h2 : l.length < dZ n) : rgE l n = 4 := by unfold rgE; rw [if_neg h, if_pos h2]
theorem rgE_more {l : List Blk} {n : Int} (h : dZ n ≠ 0) (h2 : dZ n < l.length) : rgE l n = 5 := by unfold rgE; rw [if_neg h, if_neg (by omega), if_pos h2]
section
variable {l : List Blk} {n : Nat} (h1 : 1 ≤ n) (h32 : n ≤ 32) (hl : l.length = hd n + n)
include h1 h32 hl
theorem rgE_as : rgE l (n : Int) = if badC (tol l n) = true ∨ bS (tol l n) ≠ l then 5 else 0 := by
 unfold rgE
 rw [fv h1 h32, hl, if_neg (by omega), if_neg (by omega), if_neg (by omega), Int.toNat_natCast]
theorem rgE_form (h : badC (tol l n) = true ∨ bS (tol l n) ≠ l) : rgE l (n : Int) = 5 := by rw [rgE_as h1 h32 hl, if_pos h]
theorem rgE_ok (hb : badC (tol l n) = false) (h : bS (tol l n) = l) : rgE l (n : Int) = 0 := by rw [rgE_as h1 h32 hl, if_neg (by rw [hb]; simp [h])]
theorem rgE_place {i : Nat} (hi : i < n) (h : okC (tolC l (hd n) i) = false ∨ bt (bJ l) (4 * i + 3) ≠ 0) : rgE l (n : Int) = 5 := by
 refine rgE_form h1 h32 hl ?_
 rcases h with h | h
 ·exact .inl (badC_of (k := i) (by rw [b9]; exact hi) (by rw [tol_at hi]; exact h))
 ·exact .inr fun e => h (((recL_tol hl).1 e).1 i hi)
theorem rgE_rest {j : Nat} (ha : 4 * n ≤ j) (hb : j < 64 * hd n) (h : bt (bJ l) j ≠ 0) : rgE l (n : Int) = 5 :=
 rgE_form h1 h32 hl (.inr fun e => h (((recL_tol hl).1 e).2 j ha hb))
theorem rgE_fine (hp : ∀ i, i < n → okC (tolC l (hd n) i) = true ∧ bt (bJ l) (4 * i + 3) = 0) (hz : ∀ j, 4 * n ≤ j → j < 64 * hd n → bt (bJ l) j = 0) : rgE l (n : Int) = 0 :=
 rgE_ok h1 h32 hl (badC_no fun k hk => by rw [b9] at hk; rw [tol_at hk]; exact (hp k hk).1) ((recL_tol hl).2 ⟨fun i hi => (hp i hi).2, hz⟩)
end
theorem tol_recL {l : List Cl} (h : badC l = false) : tol (bS l) l.length = l := by
 apply List.ext_getElem (by rw [b9])
 intro i h1 h2
 have hi : i < l.length := h2
 have hok := of_okC (of_badC h hi)
 rw [List.getD, List.getElem?_eq_getElem hi, Option.getD_some] at hok
 have hle := hd_le l.length
 have key : ∀ r, r < 4 → bt (bJ (bS l)) (4 * i + r) = bt (pl4 l[i]) r := fun r hr => by
  rw [byts_recL, bX (by rw [List.length_append, List.length_replicate, ee]; omega), bX (by rw [ee]; omega), bt_rowC hi hr, List.getD, List.getElem?_eq_getElem hi]
  rfl
 have hlen : (bJ (bS l)).length = 64 * (hd l.length + l.length) := by rw [cx, ca]
 have e2 : piece (bJ (bS l)) (4 * i) 2 = aX 8 2 l[i].s.toNat := by
  refine eC (by rw [bi (by omega), ay]) fun j hj => ?_
  rw [bi (by omega)] at hj
  rw [dy hj, key j (by omega)]
  exact bX (by rw [ay]; exact hj)
 have e1 : piece (bJ (bS l)) (4 * i + 2) 1 = aX 8 1 l[i].m.toNat := by
  refine eC (by rw [bi (by omega), ay]) fun j hj => ?_
  rw [bi (by omega)] at hj
  have hj0 : j = 0 := by omega
  subst hj0
  rw [dy (by omega), Nat.add_assoc, key (2 + 0) (by omega)]
  unfold pl4
  rw [ct (by rw [ay]; omega), ay, bX (by rw [ay]; omega)]
 have eT := tol_at (l := bS l) hi
 rw [List.getD, List.getElem?_eq_getElem h1, Option.getD_some] at eT
 rw [eT]
 unfold tolC
 rw [e2, e1, val_digL (by omega), val_digL (by omega), Nat.mod_eq_of_lt (by omega), Nat.mod_eq_of_lt (by omega)]
 have eb : (bS l).getD (hd l.length + i) ap = l[i].b := by
  unfold bS
  rw [List.getD, List.getElem?_append_right (by rw [dv]; omega), dv, Nat.add_sub_cancel_left]
  unfold blks
  rw [List.getElem?_map, List.getElem?_eq_getElem hi]
  rfl
 rw [eb]
 have es : ((l[i].s.toNat : Nat) : Int) = l[i].s := by omega
 have em : ((l[i].m.toNat : Nat) : Int) = l[i].m := by omega
 rw [es, em]
theorem rec_got {l : List Cl} (h : recE l = 0) : rgE (bS l) (l.length : Int) = 0 ∧ rgC (bS l) (l.length : Int) = l := by
 obtain ⟨h1, h2, hb⟩ := of_recE h
 have ht := tol_recL hb
 have he : rgE (bS l) (l.length : Int) = 0 := rgE_ok h1 h2 (ca l) (by rw [ht]; exact hb) (by rw [ht])
 exact ⟨he, by rw [rgC_ok he, Int.toNat_natCast, ht]⟩
structure Elt (α : Type) where
 s : TypeId
 t : TypeId
 n : Nat
 by_ : Nat
 cel : α → List Value
 d : α
 z : Value
 pos : 0 < n
 small : by_ ≤ 4096
 len : ∀ a, (cel a).length = n
 one : ∀ a, ∀ v ∈ cel a, v.oneCell' = true
 und : Tryz.prog.underlying s = some (.slice t)
 info : (Tryz.prog.info? t).map (fun i => (i.zero, i.size, i.bytes)) = some (some z, n, by_)
 zc : z.cells.size = n
section
variable {α : Type} (E : Elt α)
def bC (l : List α) : List Value := l.flatMap E.cel
theorem d5 (x : α) (l : List α) : bC E (x :: l) = E.cel x ++ bC E l := rfl
theorem fI (a b : List α) : bC E (a ++ b) = bC E a ++ bC E b := by simp [bC]
theorem bM (l : List α) : (bC E l).length = l.length * E.n := by
 induction l with
 | nil => simp [bC]
 | cons x l ih => rw [d5, List.length_append, E.len, ih, List.length_cons, Nat.add_mul]; omega
theorem flatE_at (l : List α) {k j : Nat} (hk : k < l.length) (hj : j < E.n) : (bC E l)[k * E.n + j]? = (E.cel (l.getD k E.d))[j]? := by
 induction l generalizing k with
 | nil => simp at hk
 | cons x l ih =>
  rw [d5]
  cases k with
  | zero => rw [Nat.zero_mul, Nat.zero_add, List.getElem?_append_left (by rw [E.len]; exact hj)]; rfl
  | succ k =>
   have e : (k + 1) * E.n + j - E.n = k * E.n + j := by rw [Nat.add_mul]; omega
   rw [List.getElem?_append_right (by rw [E.len, Nat.add_mul]; omega), E.len, e, ih (by simpa using hk)]
   rfl
theorem flatE_one (l : List α) : ∀ v ∈ bC E l, v.oneCell' = true := by
 intro v hv
 simp only [bC, List.mem_flatMap] at hv
 obtain ⟨b, _, hb⟩ := hv
 exact E.one b v hb
def RdE (w : World) (B : Nat) (A : Option Addr) (n : Nat) (l : List α) : Prop :=
 l.length = n ∧ ∀ k, k < n → ∃ b off, A = some ⟨b, off, none⟩ ∧ b < B ∧ w.rangeAt b (off + k * E.n) (E.cel (l.getD k E.d))
def aH (w : World) (base : Nat) (v : Value) (l : List α) : Prop := w.ownsRow base E.t E.n v l.length (bC E l)
end
section
variable {w w' : World} {b o B : Nat} {cs : List Value}
theorem rng_below (h : w.rangeAt b o cs) (hb : b < B) (hw : Below B w w') : w'.rangeAt b o cs := fun j v hj => by
 rw [hw.cell (p := ⟨b, o + j, none⟩) hb]; exact h j v hj
end
section
variable {α : Type} {E : Elt α} {w w' : World} {B B' n : Nat} {A : Option Addr} {l : List α} {v : Value}
theorem RdE.nil (w : World) (B : Nat) (A : Option Addr) : RdE E w B A 0 [] := ⟨rfl, fun k hk => absurd hk (by omega)⟩
theorem RdE.more (h : RdE E w B A n l) (hB : B ≤ B') : RdE E w B' A n l :=
 ⟨h.1, fun k hn => by
  obtain ⟨b, off, e, hb, hc⟩ := h.2 k hn
  exact ⟨b, off, e, by omega, hc⟩⟩
theorem RdE.below (h : RdE E w B A n l) (hb : Below B w w') : RdE E w' B A n l :=
 ⟨h.1, fun k hn => by
  obtain ⟨b, off, e, hlt, hc⟩ := h.2 k hn
  exact ⟨b, off, e, hlt, rng_below hc hlt hb⟩⟩
theorem RdE.step (h : RdE E w w.heap.size A n l) (hb : Below w.heap.size w w') : RdE E w' w'.heap.size A n l := (h.below hb).more hb.size
theorem rdE_of {g o : Nat} (hg : g < B) (h : ∀ j v, (bC E l)[j]? = some v → w.cell? ⟨g, o + j, none⟩ = some v) : RdE E w B (some ⟨g, o, none⟩) l.length l :=
 ⟨rfl, fun k hk => ⟨g, o, rfl, hg, fun j v hj => by
  have hlt : j < E.n := by have := (List.getElem?_eq_some_iff.1 hj).1; rwa [E.len] at this
  rw [show o + k * E.n + j = o + (k * E.n + j) from by omega]
  exact h _ v (by rw [flatE_at E l hk hlt]; exact hj)⟩⟩
theorem rdE_block {g : Nat} {cs : Array Value} {t : TypeId} (hg : w.heap[g]? = some (.cells cs t (0, 0))) (h : cs.toList = bC E l) (hB : g < B) : RdE E w B (some ⟨g, 0, none⟩) l.length l :=
 rdE_of hB fun j v hj => by
  rw [cell_of_row _ _ (0 + j) cs t (0, 0) hg, Nat.zero_add, ← Array.getElem?_toList, h]
  exact hj
theorem eF (w : World) (cs : Array Value) (t : TypeId) (h : cs.toList = bC E l) : RdE E (w.alloc (.cells cs t)) (w.heap.size + 1) (some ⟨w.heap.size, 0, none⟩) l.length l :=
 rdE_block (heap_alloc_new w _) h (by omega)
theorem cells_of_rdE {N : Nat} {ad : Addr} (h : RdE E w N (some ad) n l) : ∀ (j : Nat) (u : Value), (bC E l)[j]? = some u → w.cell? (ad.add j) = some u := by
 intro j u hu
 have hj : j < l.length * E.n := by have := (List.getElem?_eq_some_iff.1 hu).1; rwa [bM] at this
 have hk : j / E.n < l.length := Nat.div_lt_of_lt_mul (by rw [Nat.mul_comm]; exact hj)
 have hr : j % E.n < E.n := Nat.mod_lt _ E.pos
 have hd : j / E.n * E.n + j % E.n = j := Nat.div_add_mod' j E.n
 obtain ⟨b, off, e, _, hc⟩ := h.2 (j / E.n) (by have := h.1; omega)
 injection e with e
 subst e
 have hadd : (⟨b, off, none⟩ : Addr).add j = ⟨b, off + j, none⟩ := by unfold Addr.add; split <;> simp_all
 rw [hadd]
 have h2 := flatE_at E l hk (j := j % E.n) hr
 rw [hd, hu] at h2
 have h3 := hc (j % E.n) u h2.symm
 rwa [Nat.add_assoc, hd] at h3
theorem aH.nil (w : World) (B : Nat) : aH E w B (.slice none 0 0) [] := ⟨by simp [bC], .inl ⟨rfl, rfl⟩⟩
theorem aH.form (h : aH E w B v l) : ∃ A c, v = .slice A l.length c ∧ l.length ≤ c ∧ c ≤ maxLen := by
 rcases h.2 with ⟨rfl, h0⟩ | ⟨g, cap, cur, rfl, _, _, h1, h2, _⟩
 ·exact ⟨none, 0, by rw [h0], by omega, by simp [maxLen]⟩
 ·exact ⟨_, cap, rfl, h1, h2⟩
theorem aH.rd {c : Nat} (h : aH E w B (.slice A n c) l) : RdE E w w.heap.size A n l := by
 rcases h.2 with ⟨hv, h0⟩ | ⟨g, cap, cur, hv, _, hg, _, _, _, ht⟩
 ·have hl : l = [] := List.eq_nil_of_length_eq_zero h0
  subst hl
  injection hv with h1 h2 h3
  subst h2
  exact RdE.nil _ _ _
 ·injection hv with h1 h2 h3
  subst h1 h2 h3
  refine rdE_of (Array.getElem?_eq_some_iff.1 hg).1 fun j u hu => ?_
  rw [cell_of_row w g (0 + j) cur E.t (0, 0) hg, Nat.zero_add]
  have hj : j < l.length * E.n := by have := (List.getElem?_eq_some_iff.1 hu).1; rwa [bM] at this
  rw [← ht, List.getElem?_take_of_lt hj] at hu
  simpa using hu
theorem aH.below (h : aH E w B v l) (hb : Below w.heap.size w w') : aH E w' B v l := by
 refine ⟨h.1, ?_⟩
 rcases h.2 with hn | ⟨g, cap, cur, rfl, hbg, hg, rest⟩
 ·exact .inl hn
 ·exact .inr ⟨g, cap, cur, rfl, hbg, by rw [hb.block g (Array.getElem?_eq_some_iff.1 hg).1]; exact hg, rest⟩
theorem aH.base (h : aH E w B v l) (hb : B' ≤ B) : aH E w B' v l := by
 refine ⟨h.1, ?_⟩
 rcases h.2 with hn | ⟨g, cap, cur, rfl, hbg, rest⟩
 ·exact .inl hn
 ·exact .inr ⟨g, cap, cur, rfl, Nat.le_trans hb hbg, rest⟩
theorem aH.open_ (h : aH E w B v l) (hn : l.length = n) : ∃ A c, v = .slice A n c ∧ RdE E w w.heap.size A n l ∧ n ≤ c ∧ c ≤ maxLen := by
 subst hn
 obtain ⟨A, c, rfl, h1, h2⟩ := h.form
 exact ⟨A, c, rfl, h.rd, h1, h2⟩
theorem aH.lt_own (h : aH E w B v l) : ∀ k, v.ownBlock = some k → B ≤ k := by
 intro k hk
 rcases h.2 with ⟨rfl, _⟩ | ⟨g, cap, cur, rfl, hbg, _⟩
 ·simp [Value.ownBlock] at hk
 ·simp [Value.ownBlock] at hk; omega
theorem aH.of_block {g : Nat} {cs : Array Value} (hg : w.heap[g]? = some (.cells cs E.t (0, 0))) (h : cs.toList = bC E l) (hB : B ≤ g) (hl : l.length = n) (hm : n ≤ maxLen) : aH E w B (.slice (some ⟨g, 0, none⟩) n n) l := by
 subst hl
 have hsz : cs.size = l.length * E.n := by rw [← Array.length_toList, h, bM]
 refine ⟨bM E l, .inr ⟨g, l.length, cs, rfl, hB, hg, Nat.le_refl _, hm, hsz, ?_⟩⟩
 rw [h, List.take_of_length_le (by rw [bM]; exact Nat.le_refl _)]
end
theorem aH.other {α β : Type} {E : Elt α} {E' : Elt β} {w : World} {B B' : Nat} {v v' : Value} {l : List α} {l' : List β} (h : aH E w B v l) (h' : aH E' w B' v' l') (hne : E.t ≠ E'.t) : v.ownBlock = none ∨ v.ownBlock ≠ v'.ownBlock := by
 rcases h.2 with ⟨rfl, _⟩ | ⟨g, cap, cur, rfl, _, hg, _⟩
 ·exact .inl rfl
 ·rcases h'.2 with ⟨rfl, _⟩ | ⟨g', cap', cur', rfl, _, hg', _⟩
  ·exact .inr (by simp [Value.ownBlock])
  ·refine .inr fun e => ?_
   simp [Value.ownBlock] at e
   subst e
   rw [hg] at hg'
   simp at hg'
   exact hne hg'.2
theorem aH.kept {α : Type} {E : Elt α} {w w' : World} {B : Nat} {v : Value} {l : List α} {row : Option Nat} (h : aH E w B v l) (hg : w.grownBy w' row) (hne : v.ownBlock = none ∨ v.ownBlock ≠ row) : aH E w' B v l := World.ownsRow.kept h hg hne
theorem run_appEw {α : Type} (E : Elt α) (w : World) (ty B N m c : Nat) (v : Value) (l l' : List α) (A : Option Addr) (hm : aH E w B v l) (hr : RdE E w N A m l') (hB : B ≤ w.heap.size) (hml : l.length + m ≤ maxLen) (hby : (l.length + m) * E.by_ ≤ 140737488355328) :
  ∃ v' w', (Builtin.append_ #[E.s, E.s] ty #[v, .slice A m c]).run Tryz.prog w = .ok v' w' ∧ aH E w' B v' (l ++ l') ∧ w.grownBy w' v.ownBlock := by
 obtain ⟨i0, hi, hz0, hz1, hz2⟩ := info_parts E.info
 rcases A with _ | ad
 ·have h0 : m = 0 := by
   rcases Nat.eq_zero_or_pos m with h | h
   ·exact h
   ·obtain ⟨b, off, e, _⟩ := hr.2 0 h
    cases e
  subst h0
  have hn : l' = [] := List.eq_nil_of_length_eq_zero hr.1
  subst hn
  refine ⟨v, w, ?_, by rw [List.append_nil]; exact hm, World.grownBy.refl w _⟩
  rcases hm.2 with ⟨rfl, _⟩ | ⟨g, cap, cur, rfl, _, _, hnc, _⟩
  ·simp [Builtin.append_, run_underlying E.und, sizeOf, typeInfo, hi, Builtin.lenOf, Builtin.firstCells]
  ·simp [Builtin.append_, run_underlying E.und, sizeOf, typeInfo, hi, Builtin.lenOf, Builtin.firstCells, hnc, storeCells]
 ·obtain ⟨v', w', h1, h2, h3, _⟩ := run_append_own (P := Tryz.prog) w B E.s ty E.t i0 E.z E.n E.by_ E.und hi hz0 hz1 hz2 E.zc E.pos v l.length _ hm ad m c (bC E l')
   (by rw [bM, hr.1]) (cells_of_rdE hr) (flatE_one E l') hml hby hB
  refine ⟨v', w', h1, ?_, h3⟩
  unfold aH
  rw [fI, List.length_append, hr.1]
  exact h2
theorem run_appE {α : Type} (E : Elt α) (w : World) (ty B N m c : Nat) (v : Value) (l l' : List α) (A : Option Addr) (hm : aH E w B v l) (hr : RdE E w N A m l') (hB : B ≤ w.heap.size) (hsum : l.length + m ≤ 34359738368) :
  ∃ v' w', (Builtin.append_ #[E.s, E.s] ty #[v, .slice A m c]).run Tryz.prog w = .ok v' w' ∧ aH E w' B v' (l ++ l') ∧ w.grownBy w' v.ownBlock :=
 run_appEw E w ty B N m c v l l' A hm hr hB (by unfold maxLen; omega) (Nat.le_trans (Nat.mul_le_mul hsum E.small) (by omega))
theorem wpList_appE {α : Type} (E : Elt α) {w : World} {ops : Array Oper} {rest : List Oper} {o : Oper} {a : Act} {Q : Exit → Act → World → Prop} (hgd : o.guard = none) (s x : Operand)
  (ho : o.op = .call { callee := .builtin .append, args := #[s, x], argTypes := #[E.s, E.s] })
  (B N m c : Nat) (v : Value) (l l' : List α) (A : Option Addr) (hs : a.eval s = v) (hx : a.eval x = .slice A m c) (hm : aH E w B v l) (hr : RdE E w N A m l') (hB : B ≤ w.heap.size) (hsum : l.length + m ≤ 34359738368)
  (h : ∀ v' w', aH E w' B v' (l ++ l') → w.grownBy w' v.ownBlock → wpList Tryz.prog ops Q rest (a.put o.dst v') w') : wpList Tryz.prog ops Q (o :: rest) a w := by
 refine wpList_plain hgd fun K hK => ?_
 obtain ⟨v', w', hrun, h1, h2⟩ := run_appE E w o.type B N m c v l l' A hm hr hB hsum
 unfold Oper.wp
 simp [execOp, ho, resolve, invoke, builtin, hs, hx, hrun, Result.andThen]
 exact hK _ _ (h v' w' h1 h2)
end Go.Proofs.YtbbcdhkinbmdnaaGreatDoor
