/-
  Records as plain values, no program: a place's bytes, a record's sectors, what is read of sectors; what is put is got, what is got is put.
-/
import Derived.Test.YtfemlaombdeebaaDoorNum
import Derived.Test.YtfemlaombdeebaaDoorBlkA
namespace Go.Proofs.YtfemlaombdeebaaDoor
open Go.RowKit
set_option linter.unusedVariables false

/-! ### Sectors as one row of bytes -/
theorem bt_beyond {l : List UInt8} {j : Nat} (h : l.length ≤ j) : bt l j = 0 := by
  unfold bt
  rw [List.getD, List.getElem?_eq_none h]
  rfl
def byts (l : List Blk) : List UInt8 := l.flatMap fun b => b.toList
theorem byts_cons (b : Blk) (l : List Blk) : byts (b :: l) = b.toList ++ byts l := rfl
theorem byts_append (a b : List Blk) : byts (a ++ b) = byts a ++ byts b := by simp [byts]
theorem byts_length (l : List Blk) : (byts l).length = 64 * l.length := by
  induction l with
  | nil => rfl
  | cons x l ih => rw [byts_cons, List.length_append, ih, List.length_cons, toList_len]; omega
theorem byts_flat (l : List Blk) : (byts l).map (fun u => Value.int .u8 (u.toNat : Int)) = flat l := by
  induction l with
  | nil => rfl
  | cons x l ih => rw [byts_cons, List.map_append, ih, flat_cons]; rfl
theorem bt_byts {l : List Blk} {k j : Nat} (hk : k < l.length) (hj : j < 64) : bt (byts l) (64 * k + j) = byt (l.getD k zeroB) j := by
  induction l generalizing k with
  | nil => simp at hk
  | cons x l ih =>
    rw [byts_cons]
    cases k with
    | zero => rw [Nat.mul_zero, Nat.zero_add, bt_append_lo (by rw [toList_len]; exact hj)]; rfl
    | succ k =>
      rw [bt_append_hi (by rw [toList_len]; omega), toList_len, show 64 * (k + 1) + j - 64 = 64 * k + j from by omega, ih (by simpa using hk)]
      rfl
theorem byts_inj {a b : List Blk} (hl : a.length = b.length) (h : ∀ j, j < 64 * a.length → bt (byts a) j = bt (byts b) j) : a = b := by
  apply List.ext_getElem hl
  intro k h1 h2
  apply blk_ext
  intro j hj
  have e := h (64 * k + j) (by omega)
  rw [bt_byts h1 hj, bt_byts h2 hj] at e
  simpa [List.getD, h1, h2] using e
theorem byts_take (l : List Blk) (k : Nat) : byts (l.take k) = (byts l).take (64 * k) := by
  induction l generalizing k with
  | nil => simp [byts]
  | cons x l ih =>
    cases k with
    | zero => simp [byts]
    | succ k =>
      rw [List.take_succ_cons, byts_cons, byts_cons, List.take_append, toList_len, ih, List.take_of_length_le (l := x.toList) (by rw [toList_len]; omega), show 64 * (k + 1) - 64 = 64 * k from by omega]
theorem bt_take {l : List UInt8} {k j : Nat} (h : j < k) : bt (l.take k) j = bt l j := by
  unfold bt
  simp [List.getD, List.getElem?_take_of_lt h]
/-- Bytes as so many sectors, 0s behind them. -/
def secs (k : Nat) (x : List UInt8) : List Blk := (List.range k).map fun i => ofL (x.drop (64 * i))
theorem secs_length (k : Nat) (x : List UInt8) : (secs k x).length = k := by simp [secs]
theorem bt_secs {k j : Nat} {x : List UInt8} (h : j < 64 * k) : bt (byts (secs k x)) j = bt x j := by
  have e : j = 64 * (j / 64) + j % 64 := by omega
  have hk : j / 64 < (secs k x).length := by rw [secs_length]; omega
  rw [e, bt_byts hk (by omega)]
  have e2 : (secs k x).getD (j / 64) zeroB = ofL (x.drop (64 * (j / 64))) := by
    unfold secs
    rw [List.getD, List.getElem?_map, List.getElem?_range (by omega)]
    rfl
  rw [e2, ofL_byt _ (by omega)]
  unfold bt
  simp [List.getD, List.getElem?_drop]
theorem byts_secs {k : Nat} {x : List UInt8} (h : x.length ≤ 64 * k) : byts (secs k x) = x ++ List.replicate (64 * k - x.length) 0 := by
  refine eq_of_bt (by rw [byts_length, secs_length, List.length_append, List.length_replicate]; omega) fun j hj => ?_
  rw [byts_length, secs_length] at hj
  rw [bt_secs hj]
  by_cases hx : j < x.length
  · rw [bt_append_lo hx]
  · rw [bt_append_hi (by omega), bt_noughts, bt_beyond (by omega)]
theorem secs_succ (k : Nat) (x : List UInt8) : secs (k + 1) x = secs k x ++ [ofL (x.drop (64 * k))] := by
  unfold secs
  rw [List.range_succ, List.map_append]
  rfl

/-! ### Cells -/
structure Cl where
  s : Int
  m : Int
  b : Blk
deriving DecidableEq
def zeroC : Cl := ⟨0, 0, zeroB⟩
/-- May a place be? -/
def okP (s m : Int) : Bool := decide (0 ≤ s ∧ s < 64 ∧ 0 ≤ m ∧ m < 16)
def okC (c : Cl) : Bool := okP c.s c.m
theorem of_okC {c : Cl} (h : okC c = true) : 0 ≤ c.s ∧ c.s < 64 ∧ 0 ≤ c.m ∧ c.m < 16 := of_decide_eq_true h
/-- Has a list a cell that may not be? -/
def badC (l : List Cl) : Bool := l.any fun c => !okC c
theorem badC_of {l : List Cl} {k : Nat} (hk : k < l.length) (h : okC (l.getD k zeroC) = false) : badC l = true := by
  rw [List.getD, List.getElem?_eq_getElem hk, Option.getD_some] at h
  exact List.any_eq_true.2 ⟨l[k], List.getElem_mem hk, by rw [h]; rfl⟩
theorem badC_no {l : List Cl} (h : ∀ k, k < l.length → okC (l.getD k zeroC) = true) : badC l = false := by
  refine Bool.eq_false_iff.2 fun hb => ?_
  obtain ⟨c, hc, h2⟩ := List.any_eq_true.1 hb
  obtain ⟨k, hk, rfl⟩ := List.getElem_of_mem hc
  have := h k hk
  rw [List.getD, List.getElem?_eq_getElem hk, Option.getD_some] at this
  rw [this] at h2
  cases h2
theorem of_badC {l : List Cl} (h : badC l = false) {k : Nat} (hk : k < l.length) : okC (l.getD k zeroC) = true := by
  cases e : okC (l.getD k zeroC)
  · rw [badC_of hk e] at h; cases h
  · rfl
/-- How many sectors the places of so many cells take. -/
def hd (n : Nat) : Nat := (n + 15) / 16
theorem hd_le (n : Nat) : 4 * n ≤ 64 * hd n := by unfold hd; omega
theorem hd_sec (n : Nat) : (4 * n + 63) / 64 = hd n := by unfold hd; omega
/-- How many sectors a record has. -/
def sizN (n : Int) : Nat := if n < 1 ∨ 32 < n then 0 else hd n.toNat + n.toNat
theorem sizN_no {n : Int} (h : n < 1 ∨ 32 < n) : sizN n = 0 := if_pos h
theorem sizN_of {n : Nat} (h1 : 1 ≤ n) (h2 : n ≤ 32) : sizN (n : Int) = hd n + n := by unfold sizN; rw [if_neg (by omega), Int.toNat_natCast]
theorem of_sizN {n : Int} (h : sizN n ≠ 0) : ∃ k : Nat, n = (k : Int) ∧ 1 ≤ k ∧ k ≤ 32 := by
  by_cases h1 : n < 1 ∨ 32 < n
  · exact absurd (sizN_no h1) h
  · exact ⟨n.toNat, by omega, by omega, by omega⟩
/-- A place's bytes. -/
def pl4 (c : Cl) : List UInt8 := digL 8 2 c.s.toNat ++ (digL 8 1 c.m.toNat ++ [0])
theorem pl4_length (c : Cl) : (pl4 c).length = 4 := by simp [pl4, length_digL]
def rowC (l : List Cl) : List UInt8 := l.flatMap pl4
theorem rowC_cons (c : Cl) (l : List Cl) : rowC (c :: l) = pl4 c ++ rowC l := rfl
theorem rowC_append (a b : List Cl) : rowC (a ++ b) = rowC a ++ rowC b := by simp [rowC]
theorem rowC_length (l : List Cl) : (rowC l).length = 4 * l.length := by
  induction l with
  | nil => rfl
  | cons x l ih => rw [rowC_cons, List.length_append, ih, List.length_cons, pl4_length]; omega
theorem bt_rowC {l : List Cl} {k j : Nat} (hk : k < l.length) (hj : j < 4) : bt (rowC l) (4 * k + j) = bt (pl4 (l.getD k zeroC)) j := by
  induction l generalizing k with
  | nil => simp at hk
  | cons x l ih =>
    rw [rowC_cons]
    cases k with
    | zero => rw [Nat.mul_zero, Nat.zero_add, bt_append_lo (by rw [pl4_length]; exact hj)]; rfl
    | succ k =>
      rw [bt_append_hi (by rw [pl4_length]; omega), pl4_length, show 4 * (k + 1) + j - 4 = 4 * k + j from by omega, ih (by simpa using hk)]
      rfl
/-- The blocks of cells. -/
def blks (l : List Cl) : List Blk := l.map fun c => c.b
theorem blks_length (l : List Cl) : (blks l).length = l.length := by simp [blks]
/-- A record's sectors. -/
def recL (l : List Cl) : List Blk := secs (hd l.length) (rowC l) ++ blks l
theorem recL_length (l : List Cl) : (recL l).length = hd l.length + l.length := by unfold recL; rw [List.length_append, secs_length, blks_length]
theorem byts_recL (l : List Cl) : byts (recL l) = (rowC l ++ List.replicate (64 * hd l.length - 4 * l.length) 0) ++ byts (blks l) := by
  unfold recL
  rw [byts_append, byts_secs (by rw [rowC_length]; exact hd_le _), rowC_length]
/-- What Put answers. -/
def recE (l : List Cl) : Nat := if l.length = 0 ∨ badC l = true then 2 else if 32 < l.length then 3 else 0
def recP (l : List Cl) : List Blk := if recE l = 0 then recL l else []
theorem recE_bad {l : List Cl} (h : l.length = 0 ∨ badC l = true) : recE l = 2 := if_pos h
theorem recE_long {l : List Cl} (h0 : l.length ≠ 0) (hb : badC l = false) (h : 32 < l.length) : recE l = 3 := by unfold recE; rw [if_neg (by rw [hb]; simp; simpa using h0), if_pos h]
theorem recE_ok {l : List Cl} (h0 : l.length ≠ 0) (hb : badC l = false) (h : l.length ≤ 32) : recE l = 0 := by unfold recE; rw [if_neg (by rw [hb]; simp; simpa using h0), if_neg (by omega)]
theorem of_recE {l : List Cl} (h : recE l = 0) : 1 ≤ l.length ∧ l.length ≤ 32 ∧ badC l = false := by
  unfold recE at h
  split at h
  · omega
  · rename_i h1
    split at h
    · omega
    · exact ⟨by omega, by omega, by cases e : badC l; rfl; exact absurd (.inr e) h1⟩
theorem recP_ok {l : List Cl} (h : recE l = 0) : recP l = recL l := if_pos h
theorem recP_no {l : List Cl} (h : recE l ≠ 0) : recP l = [] := if_neg h

/-! ### What is read -/
theorem val_pc1 {b : List UInt8} {p : Nat} (h : p < b.length) : (val 8 (piece b p 1) : Int) = bt b p := by
  have := val_piece_head (b := b) (p := p) (k := 0) h
  rw [this]
  simp [piece, val]
theorem val_pc2 {b : List UInt8} {p : Nat} (h : p + 1 < b.length) : (val 8 (piece b p 2) : Int) = bt b p + 256 * bt b (p + 1) := by
  rw [val_piece_head (b := b) (p := p) (k := 1) (by omega), val_pc1 h]
  omega
/-- A cell of sectors: its number, behind so many sectors of places. -/
def tolC (l : List Blk) (k i : Nat) : Cl := ⟨val 8 (piece (byts l) (4 * i) 2), val 8 (piece (byts l) (4 * i + 2) 1), l.getD (k + i) zeroB⟩
def tol (l : List Blk) (n : Nat) : List Cl := (List.range n).map fun i => tolC l (hd n) i
theorem tol_length (l : List Blk) (n : Nat) : (tol l n).length = n := by simp [tol]
theorem tol_at {l : List Blk} {n i : Nat} (h : i < n) : (tol l n).getD i zeroC = tolC l (hd n) i := by
  unfold tol
  rw [List.getD, List.getElem?_map, List.getElem?_range h]
  rfl
section
variable {l : List Blk} {n : Nat} (hl : l.length = hd n + n)
include hl
theorem tol_len64 : 4 * n ≤ (byts l).length := by rw [byts_length, hl]; have := hd_le n; omega
theorem pl4_tol {i : Nat} (h : i < n) : pl4 (tolC l (hd n) i) = piece (byts l) (4 * i) 2 ++ (piece (byts l) (4 * i + 2) 1 ++ [0]) := by
  have h64 := tol_len64 hl
  have l2 := length_piece (b := byts l) (p := 4 * i) (k := 2) (by omega)
  have l1 := length_piece (b := byts l) (p := 4 * i + 2) (k := 1) (by omega)
  unfold pl4 tolC
  rw [Int.toNat_natCast, Int.toNat_natCast]
  have e2 := digL_val (all_256 (piece (byts l) (4 * i) 2))
  have e1 := digL_val (all_256 (piece (byts l) (4 * i + 2) 1))
  rw [l2] at e2
  rw [l1] at e1
  rw [e2, e1]
theorem bt_pl4_tol {i j : Nat} (h : i < n) (hj : j < 4) : bt (pl4 (tolC l (hd n) i)) j = if j = 3 then 0 else bt (byts l) (4 * i + j) := by
  have h64 := tol_len64 hl
  have l2 := length_piece (b := byts l) (p := 4 * i) (k := 2) (by omega)
  have l1 := length_piece (b := byts l) (p := 4 * i + 2) (k := 1) (by omega)
  rw [pl4_tol hl h]
  by_cases h2 : j < 2
  · rw [bt_append_lo (by omega), bt_piece h2, if_neg (by omega)]
  · rw [bt_append_hi (by omega), l2]
    by_cases h3 : j = 3
    · subst h3
      rw [bt_append_hi (by omega), l1, if_pos rfl]
      rfl
    · rw [bt_append_lo (by omega), bt_piece (by omega), if_neg h3, show 4 * i + 2 + (j - 2) = 4 * i + j from by omega]
theorem blks_tol : blks (tol l n) = l.drop (hd n) := by
  apply List.ext_getElem
  · rw [blks_length, tol_length, List.length_drop]; omega
  · intro i h1 h2
    rw [blks_length, tol_length] at h1
    have e : (blks (tol l n))[i]? = some (l.getD (hd n + i) zeroB) := by
      unfold blks tol tolC
      rw [List.getElem?_map, List.getElem?_map, List.getElem?_range h1]
      rfl
    rw [List.getElem?_eq_getElem (by rw [blks_length, tol_length]; exact h1)] at e
    injection e with e
    rw [e, List.getElem_drop, List.getD, List.getElem?_eq_getElem (by omega)]
    rfl
/-- What is read is the record just if what is to be 0 is. -/
theorem recL_tol : recL (tol l n) = l ↔ (∀ i, i < n → bt (byts l) (4 * i + 3) = 0) ∧ (∀ j, 4 * n ≤ j → j < 64 * hd n → bt (byts l) j = 0) := by
  have hle := hd_le n
  have hb := blks_tol hl
  have hlen : (recL (tol l n)).length = l.length := by rw [recL_length, tol_length, hl]
  have key : ∀ j, j < 64 * hd n → bt (byts (recL (tol l n))) j = bt (rowC (tol l n)) j := fun j hj => by
    unfold recL
    rw [tol_length, byts_append, bt_append_lo (by rw [byts_length, secs_length]; exact hj), bt_secs hj]
  have keyi : ∀ i r, i < n → r < 4 → bt (rowC (tol l n)) (4 * i + r) = if r = 3 then 0 else bt (byts l) (4 * i + r) := fun i r hi hr => by
    rw [bt_rowC (by rw [tol_length]; exact hi) hr, tol_at hi, bt_pl4_tol hl hi hr]
  constructor
  · intro e
    refine ⟨fun i hi => ?_, fun j h1 h2 => ?_⟩
    · have h1 := key (4 * i + 3) (by omega)
      rw [e, keyi i 3 hi (by omega), if_pos rfl] at h1
      exact h1
    · have h3 := key j h2
      rw [e, bt_beyond (l := rowC (tol l n)) (by rw [rowC_length, tol_length]; exact h1)] at h3
      exact h3
  · rintro ⟨h3, hz⟩
    refine byts_inj hlen fun j hj => ?_
    rw [hlen, hl] at hj
    by_cases h1 : j < 64 * hd n
    · rw [key j h1]
      by_cases h2 : j < 4 * n
      · have e : j = 4 * (j / 4) + j % 4 := by omega
        have h4 := keyi (j / 4) (j % 4) (by omega) (by omega)
        rw [← e] at h4
        rw [h4]
        split
        · rename_i e3
          have h5 := h3 (j / 4) (by omega)
          rw [← e3, ← e] at h5
          exact h5.symm
        · rfl
      · rw [bt_beyond (l := rowC (tol l n)) (by rw [rowC_length, tol_length]; omega), hz j (by omega) h1]
    · unfold recL
      rw [tol_length, byts_append, bt_append_hi (by rw [byts_length, secs_length]; omega), byts_length, secs_length, hb]
      have e : byts l = byts (l.take (hd n)) ++ byts (l.drop (hd n)) := by rw [← byts_append, List.take_append_drop]
      rw [e, bt_append_hi (by rw [byts_length, List.length_take]; omega), byts_length, List.length_take, Nat.min_eq_left (by omega)]
end
/-- What Get answers. -/
def rgE (l : List Blk) (n : Int) : Nat := if sizN n = 0 then 2 else if l.length < sizN n then 4 else if sizN n < l.length then 5 else if badC (tol l n.toNat) = true ∨ recL (tol l n.toNat) ≠ l then 5 else 0
def rgC (l : List Blk) (n : Int) : List Cl := if rgE l n = 0 then tol l n.toNat else []
theorem rgC_no {l : List Blk} {n : Int} (h : rgE l n ≠ 0) : rgC l n = [] := if_neg h
theorem rgC_ok {l : List Blk} {n : Int} (h : rgE l n = 0) : rgC l n = tol l n.toNat := if_pos h
theorem rgE_arg {l : List Blk} {n : Int} (h : sizN n = 0) : rgE l n = 2 := if_pos h
theorem rgE_short {l : List Blk} {n : Int} (h : sizN n ≠ 0) (h2 : l.length < sizN n) : rgE l n = 4 := by unfold rgE; rw [if_neg h, if_pos h2]
theorem rgE_more {l : List Blk} {n : Int} (h : sizN n ≠ 0) (h2 : sizN n < l.length) : rgE l n = 5 := by unfold rgE; rw [if_neg h, if_neg (by omega), if_pos h2]
section
variable {l : List Blk} {n : Nat} (h1 : 1 ≤ n) (h32 : n ≤ 32) (hl : l.length = hd n + n)
include h1 h32 hl
theorem rgE_as : rgE l (n : Int) = if badC (tol l n) = true ∨ recL (tol l n) ≠ l then 5 else 0 := by
  unfold rgE
  rw [sizN_of h1 h32, hl, if_neg (by omega), if_neg (by omega), if_neg (by omega), Int.toNat_natCast]
theorem rgE_form (h : badC (tol l n) = true ∨ recL (tol l n) ≠ l) : rgE l (n : Int) = 5 := by rw [rgE_as h1 h32 hl, if_pos h]
theorem rgE_ok (hb : badC (tol l n) = false) (h : recL (tol l n) = l) : rgE l (n : Int) = 0 := by rw [rgE_as h1 h32 hl, if_neg (by rw [hb]; simp [h])]
/-- A place that may not be, or with a byte that is not 0. -/
theorem rgE_place {i : Nat} (hi : i < n) (h : okC (tolC l (hd n) i) = false ∨ bt (byts l) (4 * i + 3) ≠ 0) : rgE l (n : Int) = 5 := by
  refine rgE_form h1 h32 hl ?_
  rcases h with h | h
  · exact .inl (badC_of (k := i) (by rw [tol_length]; exact hi) (by rw [tol_at hi]; exact h))
  · exact .inr fun e => h (((recL_tol hl).1 e).1 i hi)
theorem rgE_rest {j : Nat} (ha : 4 * n ≤ j) (hb : j < 64 * hd n) (h : bt (byts l) j ≠ 0) : rgE l (n : Int) = 5 :=
  rgE_form h1 h32 hl (.inr fun e => h (((recL_tol hl).1 e).2 j ha hb))
theorem rgE_fine (hp : ∀ i, i < n → okC (tolC l (hd n) i) = true ∧ bt (byts l) (4 * i + 3) = 0) (hz : ∀ j, 4 * n ≤ j → j < 64 * hd n → bt (byts l) j = 0) : rgE l (n : Int) = 0 :=
  rgE_ok h1 h32 hl (badC_no fun k hk => by rw [tol_length] at hk; rw [tol_at hk]; exact (hp k hk).1) ((recL_tol hl).2 ⟨fun i hi => (hp i hi).2, hz⟩)
end
theorem of_rgE {l : List Blk} {n : Int} (h : rgE l n = 0) : ∃ k : Nat, n = (k : Int) ∧ 1 ≤ k ∧ k ≤ 32 ∧ l.length = hd k + k ∧ badC (tol l k) = false ∧ recL (tol l k) = l := by
  have h0 : sizN n ≠ 0 := fun e => by rw [rgE_arg e] at h; omega
  obtain ⟨k, rfl, h1, h2⟩ := of_sizN h0
  have hs := sizN_of h1 h2
  have hlen : l.length = hd k + k := by
    rcases Nat.lt_trichotomy l.length (sizN (k : Int)) with e | e | e
    · rw [rgE_short h0 e] at h; omega
    · rw [e, hs]
    · rw [rgE_more h0 e] at h; omega
  refine ⟨k, rfl, h1, h2, hlen, ?_⟩
  rw [rgE_as h1 h2 hlen] at h
  split at h
  · omega
  · rename_i hn
    exact ⟨by cases e : badC (tol l k); rfl; exact absurd (.inl e) hn, Classical.byContradiction fun e => hn (.inr e)⟩

/-! ### What is put is got; what is got is put -/
theorem tol_recL {l : List Cl} (h : badC l = false) : tol (recL l) l.length = l := by
  apply List.ext_getElem (by rw [tol_length])
  intro i h1 h2
  have hi : i < l.length := h2
  have hok := of_okC (of_badC h hi)
  rw [List.getD, List.getElem?_eq_getElem hi, Option.getD_some] at hok
  have hle := hd_le l.length
  have key : ∀ r, r < 4 → bt (byts (recL l)) (4 * i + r) = bt (pl4 l[i]) r := fun r hr => by
    rw [byts_recL, bt_append_lo (by rw [List.length_append, List.length_replicate, rowC_length]; omega), bt_append_lo (by rw [rowC_length]; omega), bt_rowC hi hr, List.getD, List.getElem?_eq_getElem hi]
    rfl
  have hlen : (byts (recL l)).length = 64 * (hd l.length + l.length) := by rw [byts_length, recL_length]
  have e2 : piece (byts (recL l)) (4 * i) 2 = digL 8 2 l[i].s.toNat := by
    refine eq_of_bt (by rw [length_piece (by omega), length_digL]) fun j hj => ?_
    rw [length_piece (by omega)] at hj
    rw [bt_piece hj, key j (by omega)]
    exact bt_append_lo (by rw [length_digL]; exact hj)
  have e1 : piece (byts (recL l)) (4 * i + 2) 1 = digL 8 1 l[i].m.toNat := by
    refine eq_of_bt (by rw [length_piece (by omega), length_digL]) fun j hj => ?_
    rw [length_piece (by omega)] at hj
    have hj0 : j = 0 := by omega
    subst hj0
    rw [bt_piece (by omega), Nat.add_assoc, key (2 + 0) (by omega)]
    unfold pl4
    rw [bt_append_hi (by rw [length_digL]; omega), length_digL, bt_append_lo (by rw [length_digL]; omega)]
  have eT := tol_at (l := recL l) hi
  rw [List.getD, List.getElem?_eq_getElem h1, Option.getD_some] at eT
  rw [eT]
  unfold tolC
  rw [e2, e1, val_digL (by omega), val_digL (by omega), Nat.mod_eq_of_lt (by omega), Nat.mod_eq_of_lt (by omega)]
  have eb : (recL l).getD (hd l.length + i) zeroB = l[i].b := by
    unfold recL
    rw [List.getD, List.getElem?_append_right (by rw [secs_length]; omega), secs_length, Nat.add_sub_cancel_left]
    unfold blks
    rw [List.getElem?_map, List.getElem?_eq_getElem hi]
    rfl
  rw [eb]
  have es : ((l[i].s.toNat : Nat) : Int) = l[i].s := by omega
  have em : ((l[i].m.toNat : Nat) : Int) = l[i].m := by omega
  rw [es, em]
theorem rec_got {l : List Cl} (h : recE l = 0) : rgE (recL l) (l.length : Int) = 0 ∧ rgC (recL l) (l.length : Int) = l := by
  obtain ⟨h1, h2, hb⟩ := of_recE h
  have ht := tol_recL hb
  have he : rgE (recL l) (l.length : Int) = 0 := rgE_ok h1 h2 (recL_length l) (by rw [ht]; exact hb) (by rw [ht])
  exact ⟨he, by rw [rgC_ok he, Int.toNat_natCast, ht]⟩
theorem got_put {l : List Blk} {n : Int} (h : rgE l n = 0) : recE (rgC l n) = 0 ∧ recL (rgC l n) = l ∧ ((rgC l n).length : Int) = n := by
  have hc := rgC_ok h
  obtain ⟨k, rfl, h1, h2, hl, hb, hr⟩ := of_rgE h
  rw [Int.toNat_natCast] at hc
  rw [hc, tol_length]
  exact ⟨recE_ok (by rw [tol_length]; omega) hb (by rw [tol_length]; exact h2), hr, rfl⟩
end Go.Proofs.YtfemlaombdeebaaDoor
