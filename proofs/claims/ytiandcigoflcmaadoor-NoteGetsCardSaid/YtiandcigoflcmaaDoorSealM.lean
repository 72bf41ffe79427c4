/-
  Sealed sectors as lists of bytes, no program: what Put lays, what Get reads, what a torn one, and one with a byte changed, comes to.
-/
import Derived.Test.YtiandcigoflcmaaDoorNum
import Derived.Test.YtiandcigoflcmaaDoorCrcMath
import Derived.Test.YtiandcigoflcmaaDoorTornM
namespace Go.Proofs.YtiandcigoflcmaaDoor
open Go.RowKit
set_option linter.unusedVariables false

/-- A body with 0s behind it. -/
def padL (b : List UInt8) : List UInt8 := b ++ List.replicate (44 - b.length) 0
/-- All ahead of the sum. -/
def headL (n : Nat) (b : List UInt8) : List UInt8 := digL 8 8 n ++ padL b
/-- A sealed sector's bytes. -/
def sealL (n : Nat) (b : List UInt8) : List UInt8 := headL n b ++ (digL 8 4 (more 0 (headL n b)) ++ digL 8 8 n)
theorem padL_length {b : List UInt8} (h : b.length ≤ 44) : (padL b).length = 44 := by simp [padL]; omega
theorem headL_length {b : List UInt8} (n : Nat) (h : b.length ≤ 44) : (headL n b).length = 52 := by simp [headL, length_digL, padL_length h]
theorem sealL_length {b : List UInt8} (n : Nat) (h : b.length ≤ 44) : (sealL n b).length = 64 := by simp [sealL, length_digL, headL_length n h]

/-! A list of 64 bytes as a block. -/
/-! Pieces. -/
theorem val_piece_inj {a b : List UInt8} {p q k : Nat} (ha : p + k ≤ a.length) (hb : q + k ≤ b.length) (h : val 8 (piece a p k) = val 8 (piece b q k)) : piece a p k = piece b q k :=
  val8_inj (by rw [length_piece ha, length_piece hb]) h

/-! What Get reads. -/
def numO (l : List UInt8) : Nat := val 8 (piece l 0 8)
def agO (l : List UInt8) : Nat := val 8 (piece l 56 8)
def sumO (l : List UInt8) : Nat := val 8 (piece l 52 4)
def crcO (l : List UInt8) : Nat := more 0 (piece l 0 52)
def getE (l : List UInt8) : Nat := if numO l = 0 ∨ numO l ≠ agO l then 5 else if sumO l ≠ crcO l then 6 else 0
def getN (l : List UInt8) : Nat := if getE l = 0 then numO l else 0
def getB (l : List UInt8) : List UInt8 := if getE l = 0 then piece l 8 44 else []
theorem getE_form {l : List UInt8} (h : numO l = 0 ∨ numO l ≠ agO l) : getE l = 5 := by unfold getE; rw [if_pos h]
theorem getE_sum {l : List UInt8} (h0 : numO l ≠ 0) (h1 : numO l = agO l) (h : sumO l ≠ crcO l) : getE l = 6 := by
  unfold getE
  rw [if_neg (by omega), if_pos h]
theorem getE_ok {l : List UInt8} (h0 : numO l ≠ 0) (h1 : numO l = agO l) (h : sumO l = crcO l) : getE l = 0 := by
  unfold getE
  rw [if_neg (by omega), if_neg (by omega)]
theorem of_getE {l : List UInt8} (h : getE l = 0) : numO l ≠ 0 ∧ numO l = agO l ∧ sumO l = crcO l := by
  unfold getE at h
  split at h
  · omega
  · split at h
    · omega
    · omega
theorem getE_three (l : List UInt8) : getE l = 0 ∨ getE l = 5 ∨ getE l = 6 := by
  unfold getE
  split
  · omega
  · split <;> omega
theorem getN_of {l : List UInt8} (h : getE l = 0) : getN l = numO l := if_pos h
theorem getN_no {l : List UInt8} (h : getE l ≠ 0) : getN l = 0 := if_neg h
theorem getB_of {l : List UInt8} (h : getE l = 0) : getB l = piece l 8 44 := if_pos h
theorem getB_no {l : List UInt8} (h : getE l ≠ 0) : getB l = [] := if_neg h
theorem getN_zero {l : List UInt8} : getN l = 0 ↔ getE l ≠ 0 := by
  constructor
  · intro h e
    rw [getN_of e] at h
    exact (of_getE e).1 h
  · exact getN_no
theorem numO_lt {l : List UInt8} (h : l.length = 64) : numO l < 18446744073709551616 := val_piece_lt (b := l) (p := 0) (k := 8) (by omega)
theorem agO_lt {l : List UInt8} (h : l.length = 64) : agO l < 18446744073709551616 := val_piece_lt (b := l) (p := 56) (k := 8) (by omega)
theorem sumO_lt {l : List UInt8} (h : l.length = 64) : sumO l < 4294967296 := val_piece_lt (b := l) (p := 52) (k := 4) (by omega)
theorem crcO_lt (l : List UInt8) : crcO l < 4294967296 := more_lt (by omega) _
theorem getN_lt {l : List UInt8} (h : l.length = 64) : getN l < 18446744073709551616 := by
  have := numO_lt h
  unfold getN
  split <;> omega
/-- Which of two is the newest. -/
def newW (a b : List UInt8) : Nat := if getN a < getN b then 1 else 0
def newE (a b : List UInt8) : Nat := if getN a = 0 ∧ getN b = 0 then 7 else 0

/-! What Put lays is got. -/
theorem seal_first (n : Nat) (b : List UInt8) : piece (sealL n b) 0 8 = digL 8 8 n := by
  rw [show sealL n b = digL 8 8 n ++ (padL b ++ (digL 8 4 (more 0 (headL n b)) ++ digL 8 8 n)) from by simp [sealL, headL]]
  exact piece_head _ _ (length_digL _ _ _)
theorem seal_num {n : Nat} {b : List UInt8} (hn : n < 18446744073709551616) : numO (sealL n b) = n := by
  unfold numO
  rw [seal_first, val_digL (by omega)]
  exact Nat.mod_eq_of_lt hn
section
variable {n : Nat} {b : List UInt8} (hb : b.length ≤ 44)
include hb
theorem seal_last : piece (sealL n b) 56 8 = digL 8 8 n := by
  rw [show sealL n b = (headL n b ++ digL 8 4 (more 0 (headL n b))) ++ (digL 8 8 n ++ []) from by simp [sealL]]
  exact piece_mid _ _ _ (by simp [headL_length n hb, length_digL]) (length_digL _ _ _)
theorem seal_sum : piece (sealL n b) 52 4 = digL 8 4 (more 0 (headL n b)) := piece_mid _ _ _ (headL_length n hb) (length_digL _ _ _)
theorem seal_head : piece (sealL n b) 0 52 = headL n b := piece_head _ _ (headL_length n hb)
theorem seal_body : piece (sealL n b) 8 44 = padL b := by
  rw [show sealL n b = digL 8 8 n ++ (padL b ++ (digL 8 4 (more 0 (headL n b)) ++ digL 8 8 n)) from by simp [sealL, headL]]
  exact piece_mid _ _ _ (length_digL _ _ _) (padL_length hb)
theorem seal_ag (hn : n < 18446744073709551616) : agO (sealL n b) = n := by
  unfold agO
  rw [seal_last hb, val_digL (by omega)]
  exact Nat.mod_eq_of_lt hn
theorem seal_ok (hn : n < 18446744073709551616) (h0 : n ≠ 0) : getE (sealL n b) = 0 := by
  refine getE_ok (by rw [seal_num hn]; exact h0) (by rw [seal_num hn, seal_ag hb hn]) ?_
  unfold sumO crcO
  rw [seal_sum hb, seal_head hb, val_digL (by omega)]
  exact Nat.mod_eq_of_lt (more_lt (by omega) _)
theorem seal_getN (hn : n < 18446744073709551616) (h0 : n ≠ 0) : getN (sealL n b) = n := by rw [getN_of (seal_ok hb hn h0), seal_num hn]
theorem seal_getB (hn : n < 18446744073709551616) (h0 : n ≠ 0) : getB (sealL n b) = padL b := by rw [getB_of (seal_ok hb hn h0), seal_body hb]
end

/-! What Put answers. -/
def putE (n : Nat) (b : List UInt8) : Nat := if n = 0 then 2 else if 44 < b.length then 3 else 0
def putB (n : Nat) (b : List UInt8) : Blk := if putE n b = 0 then ofL (sealL n b) else zeroB
theorem putE_ok {n : Nat} {b : List UInt8} (h0 : n ≠ 0) (hb : b.length ≤ 44) : putE n b = 0 := by unfold putE; rw [if_neg h0, if_neg (by omega)]
theorem of_putE {n : Nat} {b : List UInt8} (h : putE n b = 0) : n ≠ 0 ∧ b.length ≤ 44 := by
  unfold putE at h
  split at h
  · omega
  · split at h <;> omega
theorem putB_ok {n : Nat} {b : List UInt8} (h : putE n b = 0) : putB n b = ofL (sealL n b) := if_pos h
theorem putB_list {n : Nat} {b : List UInt8} (h : putE n b = 0) : (putB n b).toList = sealL n b := by
  rw [putB_ok h, toList_ofL (sealL_length n (of_putE h).2)]
theorem put_getE {n : Nat} {b : List UInt8} (hn : n < 18446744073709551616) (h : putE n b = 0) : getE (putB n b).toList = 0 := by
  rw [putB_list h]; exact seal_ok (of_putE h).2 hn (of_putE h).1
theorem put_getN {n : Nat} {b : List UInt8} (hn : n < 18446744073709551616) (h : putE n b = 0) : getN (putB n b).toList = n := by
  rw [putB_list h]; exact seal_getN (of_putE h).2 hn (of_putE h).1
theorem put_getB {n : Nat} {b : List UInt8} (hn : n < 18446744073709551616) (h : putE n b = 0) : getB (putB n b).toList = padL b := by
  rw [putB_list h]; exact seal_getB (of_putE h).2 hn (of_putE h).1
theorem zero_getE : getE zeroB.toList = 5 := getE_form (.inl (by decide +kernel))

/-! What is refused. -/
theorem ends_of {b : Blk} (h : numO b.toList = agO b.toList) {j : Nat} (hj : j < 8) : byt b j = byt b (56 + j) := by
  have := of_piece_eq (val_piece_inj (by simp) (by simp) h) hj
  rwa [Nat.zero_add] at this
theorem num_of_ends {a b : Blk} (h : ∀ j, j < 8 → byt a j = byt b j) : numO a.toList = numO b.toList := by
  unfold numO
  rw [piece_eq (a := a.toList) (b := b.toList) (p := 0) (q := 0) (k := 8) (by simp) (by simp) fun j hj => by rw [Nat.zero_add]; exact h j hj]
/-- A torn sector whose numbers are alike is the old one, or the new one. -/
theorem torn_whole {old now : Blk} {n : Int} (hn : numO now.toList = agO now.toList) (ho : numO old.toList = agO old.toList) (hne : numO now.toList ≠ numO old.toList) (h : numO (torn old now n).toList = agO (torn old now n).toList) :
    torn old now n = now ∨ torn old now n = old := by
  by_cases hk : 56 < n
  · left
    apply blk_ext
    intro j hj
    rw [torn_byt _ _ _ hj]
    split
    · rfl
    · rename_i hlt
      have e := ends_of h (j := j - 56) (by omega)
      rw [torn_byt _ _ _ (by omega), torn_byt _ _ _ (by omega), if_pos (by omega), if_neg (by omega), ends_of hn (by omega)] at e
      rw [show 56 + (j - 56) = j from by omega] at e
      exact e.symm
  · by_cases h8 : 8 ≤ n
    · exfalso
      apply hne
      apply num_of_ends
      intro j hj
      have e := ends_of h hj
      rw [torn_byt _ _ _ (by omega), torn_byt _ _ _ (by omega), if_pos (by omega), if_neg (by omega), ← ends_of ho hj] at e
      exact e
    · right
      apply blk_ext
      intro j hj
      rw [torn_byt _ _ _ hj]
      split
      · rename_i hlt
        have hj8 : j < 8 := by omega
        have e := ends_of h hj8
        rw [torn_byt _ _ _ (by omega), torn_byt _ _ _ (by omega), if_pos (by omega), if_neg (by omega), ← ends_of ho hj8] at e
        exact e
      · rfl
theorem piece_split {l : List UInt8} {k : Nat} (hk : k < 52) (hl : l.length = 64) : piece l 0 52 = l.take k ++ [l.getD k 0] ++ (l.drop (k + 1)).take (51 - k) := by
  have hlt : k < l.length := by omega
  have e : l = l.take k ++ ([l.getD k 0] ++ l.drop (k + 1)) := by
    rw [List.getD, List.getElem?_eq_getElem hlt]
    simp [List.take_append_drop]
  unfold piece
  rw [List.drop_zero]
  conv => lhs; rw [e]
  rw [List.take_append, List.take_append, List.length_take, Nat.min_eq_left (by omega), List.take_take, Nat.min_eq_right (by omega)]
  rw [show 52 - k = (51 - k) + 1 from by omega]
  simp
/-- A sealed sector with one byte changed is refused. -/
theorem byte_no {b c : Blk} {k : Nat} (hk : k < 64) (h : getE b.toList = 0) (hother : ∀ j, j < 64 → j ≠ k → byt c j = byt b j) (hne : byt c k ≠ byt b k) : getE c.toList ≠ 0 := by
  intro hc
  obtain ⟨_, hb1, hb2⟩ := of_getE h
  obtain ⟨_, hc1, hc2⟩ := of_getE hc
  by_cases h8 : k < 8
  · have e1 := ends_of hb1 h8
    have e2 := ends_of hc1 h8
    rw [hother (56 + k) (by omega) (by omega)] at e2
    exact hne (by rw [e2, e1])
  · by_cases h56 : 56 ≤ k
    · have e1 := ends_of hb1 (j := k - 56) (by omega)
      have e2 := ends_of hc1 (j := k - 56) (by omega)
      rw [hother (k - 56) (by omega) (by omega)] at e2
      rw [show 56 + (k - 56) = k from by omega] at e1 e2
      exact hne (by rw [← e2, e1])
    · by_cases h52 : 52 ≤ k
      · have e : crcO c.toList = crcO b.toList := by
          unfold crcO
          rw [piece_eq (a := c.toList) (b := b.toList) (p := 0) (q := 0) (k := 52) (by simp) (by simp) fun j hj => by rw [Nat.zero_add]; exact hother j (by omega) (by omega)]
        have e2 : val 8 (piece c.toList 52 4) = val 8 (piece b.toList 52 4) := by
          have : sumO c.toList = sumO b.toList := by rw [hc2, hb2, e]
          exact this
        have e3 := of_piece_eq (val_piece_inj (by simp) (by simp) e2) (j := k - 52) (by omega)
        rw [show 52 + (k - 52) = k from by omega] at e3
        exact hne e3
      · have e : sumO c.toList = sumO b.toList := by
          unfold sumO
          rw [piece_eq (a := c.toList) (b := b.toList) (p := 52) (q := 52) (k := 4) (by simp) (by simp) fun j hj => hother (52 + j) (by omega) (by omega)]
        have e2 : more 0 (piece c.toList 0 52) = more 0 (piece b.toList 0 52) := by
          have : crcO c.toList = crcO b.toList := by rw [← hc2, ← hb2, e]
          exact this
        rw [piece_split (k := k) (by omega) (by simp), piece_split (l := b.toList) (k := k) (by omega) (by simp)] at e2
        have hp : c.toList.take k = b.toList.take k := by
          apply eq_of_bt (by simp)
          intro j hj
          have hj' : j < k := by simp at hj; omega
          have e4 := hother j (by omega) (by omega)
          unfold byt bt at e4
          unfold bt
          simpa [List.getD, List.getElem?_take_of_lt hj'] using e4
        have hs : (c.toList.drop (k + 1)).take (51 - k) = (b.toList.drop (k + 1)).take (51 - k) := by
          apply piece_eq (a := c.toList) (b := b.toList) (p := k + 1) (q := k + 1) (k := 51 - k) (by simp; omega) (by simp; omega)
          intro j hj
          exact hother (k + 1 + j) (by omega) (by omega)
        rw [hp, hs] at e2
        unfold more at e2
        have e5 := run_row (neg_lt (by omega)) _ [c.toList.getD k 0] [b.toList.getD k 0] _ rfl (by simp) (neg_inj e2)
        apply hne
        unfold byt bt
        rw [List.cons_eq_cons.1 e5 |>.1]
end Go.Proofs.YtiandcigoflcmaaDoor
