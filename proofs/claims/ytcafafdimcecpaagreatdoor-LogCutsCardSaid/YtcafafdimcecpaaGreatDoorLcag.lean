import Derived.Test.YtcafafdimcecpaaGreatDoorLcaf
import Derived.Test.YtcafafdimcecpaaGreatDoorLcaa
import Derived.Test.YtcafafdimcecpaaGreatDoorLcac
import Derived.Test.YtcafafdimcecpaaGreatDoorLcab
import Derived.Laws.CopyOwn
import Derived.Test.YtcafafdimcecpaaGreatDoorLcZ
namespace Go.Proofs.YtcafafdimcecpaaGreatDoor
open Go.RowKit
set_option maxRecDepth 100000
set_option linter.unusedVariables false
def b9 (b : List UInt8) : List UInt8 := b ++ List.replicate (44 - b.length) 0
def dE (n : Nat) (b : List UInt8) : List UInt8 := aY 8 8 n ++ b9 b
def cZ (n : Nat) (b : List UInt8) : List UInt8 := dE n b ++ (aY 8 4 (more 0 (dE n b)) ++ aY 8 8 n)
theorem dw {b : List UInt8} (h : b.length ≤ 44) : (b9 b).length = 44 := by simp [b9]; omega
theorem dQ {b : List UInt8} (n : Nat) (h : b.length ≤ 44) : (dE n b).length = 52 := by simp [dE, ay, dw h]
theorem sealL_length {b : List UInt8} (n : Nat) (h : b.length ≤ 44) : (cZ n b).length = 64 := by simp [cZ, ay, dQ n h]
theorem val_piece_inj {a b : List UInt8} {p q k : Nat} (ha : p + k ≤ a.length) (hb : q + k ≤ b.length) (h : val 8 (piece a p k) = val 8 (piece b q k)) : piece a p k = piece b q k :=
  val8_inj (by rw [bz ha, bz hb]) h
def cF (l : List UInt8) : Nat := val 8 (piece l 0 8)
def agO (l : List UInt8) : Nat := val 8 (piece l 56 8)
def sumO (l : List UInt8) : Nat := val 8 (piece l 52 4)
def crcO (l : List UInt8) : Nat := more 0 (piece l 0 52)
def da (l : List UInt8) : Nat := if cF l = 0 ∨ cF l ≠ agO l then 5 else if sumO l ≠ crcO l then 6 else 0
def dt (l : List UInt8) : Nat := if da l = 0 then cF l else 0
def cR (l : List UInt8) : List UInt8 := if da l = 0 then piece l 8 44 else []
theorem getE_form {l : List UInt8} (h : cF l = 0 ∨ cF l ≠ agO l) : da l = 5 := by unfold da; rw [if_pos h]
theorem getE_sum {l : List UInt8} (h0 : cF l ≠ 0) (h1 : cF l = agO l) (h : sumO l ≠ crcO l) : da l = 6 := by
  unfold da
  rw [if_neg (by omega), if_pos h]
theorem getE_ok {l : List UInt8} (h0 : cF l ≠ 0) (h1 : cF l = agO l) (h : sumO l = crcO l) : da l = 0 := by
  unfold da
  rw [if_neg (by omega), if_neg (by omega)]
theorem of_getE {l : List UInt8} (h : da l = 0) : cF l ≠ 0 ∧ cF l = agO l ∧ sumO l = crcO l := by
  unfold da at h
  split at h
  · omega
  · split at h
    · omega
    · omega
theorem getN_of {l : List UInt8} (h : da l = 0) : dt l = cF l := if_pos h
theorem getN_no {l : List UInt8} (h : da l ≠ 0) : dt l = 0 := if_neg h
theorem getB_of {l : List UInt8} (h : da l = 0) : cR l = piece l 8 44 := if_pos h
theorem getB_no {l : List UInt8} (h : da l ≠ 0) : cR l = [] := if_neg h
theorem numO_lt {l : List UInt8} (h : l.length = 64) : cF l < 18446744073709551616 := cu (b := l) (p := 0) (k := 8) (by omega)
theorem sumO_lt {l : List UInt8} (h : l.length = 64) : sumO l < 4294967296 := cu (b := l) (p := 52) (k := 4) (by omega)
theorem crcO_lt (l : List UInt8) : crcO l < 4294967296 := more_lt (by omega) _
theorem getN_lt {l : List UInt8} (h : l.length = 64) : dt l < 18446744073709551616 := by
  have := numO_lt h
  unfold dt
  split <;> omega
theorem seal_first (n : Nat) (b : List UInt8) : piece (cZ n b) 0 8 = aY 8 8 n := by
  rw [show cZ n b = aY 8 8 n ++ (b9 b ++ (aY 8 4 (more 0 (dE n b)) ++ aY 8 8 n)) from by simp [cZ, dE]]
  exact piece_head _ _ (ay _ _ _)
theorem seal_num {n : Nat} {b : List UInt8} (hn : n < 18446744073709551616) : cF (cZ n b) = n := by
  unfold cF
  rw [seal_first, val_digL (by omega)]
  exact Nat.mod_eq_of_lt hn
section
variable {n : Nat} {b : List UInt8} (hb : b.length ≤ 44)
include hb
theorem seal_last : piece (cZ n b) 56 8 = aY 8 8 n := by
  rw [show cZ n b = (dE n b ++ aY 8 4 (more 0 (dE n b))) ++ (aY 8 8 n ++ []) from by simp [cZ]]
  exact piece_mid _ _ _ (by simp [dQ n hb, ay]) (ay _ _ _)
theorem seal_sum : piece (cZ n b) 52 4 = aY 8 4 (more 0 (dE n b)) := piece_mid _ _ _ (dQ n hb) (ay _ _ _)
theorem seal_head : piece (cZ n b) 0 52 = dE n b := piece_head _ _ (dQ n hb)
theorem seal_body : piece (cZ n b) 8 44 = b9 b := by
  rw [show cZ n b = aY 8 8 n ++ (b9 b ++ (aY 8 4 (more 0 (dE n b)) ++ aY 8 8 n)) from by simp [cZ, dE]]
  exact piece_mid _ _ _ (ay _ _ _) (dw hb)
theorem seal_ag (hn : n < 18446744073709551616) : agO (cZ n b) = n := by
  unfold agO
  rw [seal_last hb, val_digL (by omega)]
  exact Nat.mod_eq_of_lt hn
theorem seal_ok (hn : n < 18446744073709551616) (h0 : n ≠ 0) : da (cZ n b) = 0 := by
  refine getE_ok (by rw [seal_num hn]; exact h0) (by rw [seal_num hn, seal_ag hb hn]) ?_
  unfold sumO crcO
  rw [seal_sum hb, seal_head hb, val_digL (by omega)]
  exact Nat.mod_eq_of_lt (more_lt (by omega) _)
theorem seal_getN (hn : n < 18446744073709551616) (h0 : n ≠ 0) : dt (cZ n b) = n := by rw [getN_of (seal_ok hb hn h0), seal_num hn]
theorem seal_getB (hn : n < 18446744073709551616) (h0 : n ≠ 0) : cR (cZ n b) = b9 b := by rw [getB_of (seal_ok hb hn h0), seal_body hb]
end
def putE (n : Nat) (b : List UInt8) : Nat := if n = 0 then 2 else if 44 < b.length then 3 else 0
def putB (n : Nat) (b : List UInt8) : Blk := if putE n b = 0 then ofL (cZ n b) else al
theorem putE_ok {n : Nat} {b : List UInt8} (h0 : n ≠ 0) (hb : b.length ≤ 44) : putE n b = 0 := by unfold putE; rw [if_neg h0, if_neg (by omega)]
theorem of_putE {n : Nat} {b : List UInt8} (h : putE n b = 0) : n ≠ 0 ∧ b.length ≤ 44 := by
  unfold putE at h
  split at h
  · omega
  · split at h <;> omega
theorem putB_ok {n : Nat} {b : List UInt8} (h : putE n b = 0) : putB n b = ofL (cZ n b) := if_pos h
theorem putB_list {n : Nat} {b : List UInt8} (h : putE n b = 0) : (putB n b).toList = cZ n b := by
  rw [putB_ok h, toList_ofL (sealL_length n (of_putE h).2)]
theorem put_getE {n : Nat} {b : List UInt8} (hn : n < 18446744073709551616) (h : putE n b = 0) : da (putB n b).toList = 0 := by
  rw [putB_list h]; exact seal_ok (of_putE h).2 hn (of_putE h).1
theorem put_getN {n : Nat} {b : List UInt8} (hn : n < 18446744073709551616) (h : putE n b = 0) : dt (putB n b).toList = n := by
  rw [putB_list h]; exact seal_getN (of_putE h).2 hn (of_putE h).1
theorem put_getB {n : Nat} {b : List UInt8} (hn : n < 18446744073709551616) (h : putE n b = 0) : cR (putB n b).toList = b9 b := by
  rw [putB_list h]; exact seal_getB (of_putE h).2 hn (of_putE h).1
theorem zero_getE : da al.toList = 5 := getE_form (.inl (by decide +kernel))
theorem ends_of {b : Blk} (h : cF b.toList = agO b.toList) {j : Nat} (hj : j < 8) : byt b j = byt b (56 + j) := by
  have := of_piece_eq (val_piece_inj (by simp) (by simp) h) hj
  rwa [Nat.zero_add] at this
theorem num_of_ends {a b : Blk} (h : ∀ j, j < 8 → byt a j = byt b j) : cF a.toList = cF b.toList := by
  unfold cF
  rw [piece_eq (a := a.toList) (b := b.toList) (p := 0) (q := 0) (k := 8) (by simp) (by simp) fun j hj => by rw [Nat.zero_add]; exact h j hj]
theorem torn_whole {old now : Blk} {n : Int} (hn : cF now.toList = agO now.toList) (ho : cF old.toList = agO old.toList) (hne : cF now.toList ≠ cF old.toList) (h : cF (torn old now n).toList = agO (torn old now n).toList) :
    torn old now n = now ∨ torn old now n = old := by
  by_cases hk : 56 < n
  · left
    apply blk_ext
    intro j hj
    rw [dY _ _ _ hj]
    split
    · rfl
    · rename_i hlt
      have e := ends_of h (j := j - 56) (by omega)
      rw [dY _ _ _ (by omega), dY _ _ _ (by omega), if_pos (by omega), if_neg (by omega), ends_of hn (by omega)] at e
      rw [show 56 + (j - 56) = j from by omega] at e
      exact e.symm
  · by_cases h8 : 8 ≤ n
    · exfalso
      apply hne
      apply num_of_ends
      intro j hj
      have e := ends_of h hj
      rw [dY _ _ _ (by omega), dY _ _ _ (by omega), if_pos (by omega), if_neg (by omega), ← ends_of ho hj] at e
      exact e
    · right
      apply blk_ext
      intro j hj
      rw [dY _ _ _ hj]
      split
      · rename_i hlt
        have hj8 : j < 8 := by omega
        have e := ends_of h hj8
        rw [dY _ _ _ (by omega), dY _ _ _ (by omega), if_pos (by omega), if_neg (by omega), ← ends_of ho hj8] at e
        exact e
      · rfl
def evB (n : Nat) : Bool := decide (1 ≤ n ∧ n ≤ 4611686018427387904)
theorem of_evB {n : Nat} (h : evB n = true) : 1 ≤ n ∧ n ≤ 4611686018427387904 := of_decide_eq_true h
theorem padL_full {b : List UInt8} (h : b.length = 44) : b9 b = b := by simp [b9, h]
theorem headL_pad {b : List UInt8} (n : Nat) (h : b.length ≤ 44) : dE n (b9 b) = dE n b := by unfold dE; rw [padL_full (dw h)]
theorem sealL_pad {b : List UInt8} (n : Nat) (h : b.length ≤ 44) : cZ n (b9 b) = cZ n b := by unfold cZ; rw [headL_pad n h]
theorem val_dig {k n : Nat} (h : n < 2 ^ (8 * k)) : val 8 (aY 8 k n) = n := by rw [val_digL (by omega), Nat.mod_eq_of_lt h]
theorem getN_lt64 (b : Blk) : dt b.toList < 18446744073709551616 := getN_lt (by simp)
theorem fi {b : Blk} (h : da b.toList = 0) : (cR b.toList).length = 44 := by rw [getB_of h]; exact bz (by simp)
structure Cod (Y : Type) where
  zero : Y
  may : Y → Bool
  num : Y → Nat
  body : Y → List UInt8
  told : Nat → List UInt8 → Y
  fits : Y → Prop
  may_num : ∀ y, may y = true → 1 ≤ num y ∧ num y ≤ 4611686018427387904
  len : ∀ y, (body y).length ≤ 44
  back : ∀ y, fits y → may y = true → told (num y) (b9 (body y)) = y
  num_told : ∀ n l, num (told n l) = n
  fits_told : ∀ n l, l.length = 44 → n < 18446744073709551616 → fits (told n l)
  zero_no : may zero = false
  zero_num : num zero = 0
  zero_fits : fits zero
namespace Cod
variable {Y : Type} (C : Cod Y)
def full (y : Y) : List UInt8 := b9 (C.body y)
theorem full_length (y : Y) : (C.full y).length = 44 := dw (C.len y)
def pE (y : Y) : Nat := if C.may y = true then 0 else 2
def pB (y : Y) : Blk := if C.may y = true then putB (C.num y) (C.body y) else al
theorem pE_ok {y : Y} (h : C.may y = true) : C.pE y = 0 := if_pos h
theorem pB_ok {y : Y} (h : C.may y = true) : C.pB y = putB (C.num y) (C.body y) := if_pos h
theorem pE_no {y : Y} (h : ¬ C.may y = true) : C.pE y = 2 := if_neg h
theorem pB_no {y : Y} (h : ¬ C.may y = true) : C.pB y = al := if_neg h
theorem of_pE {y : Y} (h : C.pE y = 0) : C.may y = true := by
  unfold pE at h
  split at h
  · assumption
  · omega
theorem putE_full (n : Nat) (y : Y) : putE n (C.full y) = putE n (C.body y) := by
  have h1 := C.full_length y
  have h2 := C.len y
  unfold putE
  rw [if_neg (show ¬ 44 < (C.full y).length by omega), if_neg (show ¬ 44 < (C.body y).length by omega)]
theorem putB_full (n : Nat) (y : Y) : putB n (C.full y) = putB n (C.body y) := by
  unfold putB; rw [C.putE_full]; unfold full; rw [sealL_pad n (C.len y)]
theorem body_putE {n : Nat} (y : Y) (h : n ≠ 0) : putE n (C.body y) = 0 := putE_ok h (C.len y)
theorem may_putE {y : Y} (h : C.may y = true) : putE (C.num y) (C.body y) = 0 := C.body_putE y (by have := C.may_num y h; omega)
def raw (b : Blk) : Y := C.told (dt b.toList) (cR b.toList)
def good (b : Blk) : Bool := C.may (C.raw b) && decide (C.full (C.raw b) = cR b.toList)
theorem ex {b : Blk} : C.good b = true ↔ C.may (C.raw b) = true ∧ C.full (C.raw b) = cR b.toList := by
  unfold good; simp
def gE (b : Blk) : Nat := if da b.toList ≠ 0 then da b.toList else if C.good b = true then 0 else 5
def gX (b : Blk) : Y := if C.gE b = 0 then C.raw b else C.zero
def gN (b : Blk) : Nat := C.num (C.gX b)
theorem gE_seal {b : Blk} (h : da b.toList ≠ 0) : C.gE b = da b.toList := if_pos h
theorem gE_form {b : Blk} (h : da b.toList = 0) (h' : ¬ C.good b = true) : C.gE b = 5 := by
  unfold gE; rw [if_neg (by omega), if_neg h']
theorem gE_ok {b : Blk} (h : da b.toList = 0) (h' : C.good b = true) : C.gE b = 0 := by
  unfold gE; rw [if_neg (by omega), if_pos h']
theorem of_gE {b : Blk} (h : C.gE b = 0) : da b.toList = 0 ∧ C.may (C.raw b) = true ∧ C.full (C.raw b) = cR b.toList := by
  unfold gE at h
  split at h
  · omega
  · rename_i h0
    split at h
    · rename_i h1; exact ⟨by omega, C.ex.1 h1⟩
    · omega
theorem gX_of {b : Blk} (h : C.gE b = 0) : C.gX b = C.raw b := if_pos h
theorem gX_no {b : Blk} (h : C.gE b ≠ 0) : C.gX b = C.zero := if_neg h
theorem gN_of {b : Blk} (h : C.gE b = 0) : C.gN b = dt b.toList := by unfold gN; rw [C.gX_of h]; exact C.num_told _ _
theorem gN_no {b : Blk} (h : C.gE b ≠ 0) : C.gN b = 0 := by unfold gN; rw [C.gX_no h]; exact C.zero_num
theorem gX_may {b : Blk} (h : C.gE b = 0) : C.may (C.gX b) = true := by rw [C.gX_of h]; exact (C.of_gE h).2.1
theorem gN_pos {b : Blk} (h : C.gE b = 0) : 1 ≤ C.gN b := (C.may_num _ (C.gX_may h)).1
theorem gN_zero {b : Blk} : C.gN b = 0 ↔ C.gE b ≠ 0 := by
  constructor
  · intro h e
    have := C.gN_pos e
    omega
  · exact C.gN_no
theorem gX_fits (b : Blk) : C.fits (C.gX b) := by
  by_cases h : C.gE b = 0
  · rw [C.gX_of h]
    exact C.fits_told _ _ (fi (C.of_gE h).1) (getN_lt64 b)
  · rw [C.gX_no h]; exact C.zero_fits
theorem put_get {y : Y} (hf : C.fits y) (h : C.pE y = 0) : C.gE (C.pB y) = 0 ∧ C.gX (C.pB y) = y := by
  have h1 := C.of_pE h
  have h2 := C.may_num y h1
  have hn : C.num y < 18446744073709551616 := by omega
  have hp := C.may_putE h1
  have e1 := put_getE hn hp
  have e2 := put_getN hn hp
  have e3 := put_getB hn hp
  rw [C.pB_ok h1]
  have e4 : C.raw (putB (C.num y) (C.body y)) = y := by unfold raw; rw [e2, e3]; exact C.back y hf h1
  have hE : C.gE (putB (C.num y) (C.body y)) = 0 := C.gE_ok e1 (C.ex.2 ⟨by rw [e4]; exact h1, by rw [e4, e3]; rfl⟩)
  exact ⟨hE, by rw [C.gX_of hE, e4]⟩
theorem put_gN {y : Y} (hf : C.fits y) (h : C.pE y = 0) : C.gN (C.pB y) = C.num y := by unfold gN; rw [(C.put_get hf h).2]
theorem g_zero : C.gE al = 5 := by rw [C.gE_seal (by rw [zero_getE]; omega), zero_getE]
def nE (a b : Blk) : Nat := if C.gN a = 0 ∧ C.gN b = 0 then 7 else 0
def nX (a b : Blk) : Y := if C.gN a < C.gN b then C.gX b else C.gX a
end Cod
open Go.RowKit
set_option maxRecDepth 100000
set_option linter.unusedVariables false
structure Mrk where
  id : Nat
  ring : Int
  first : Nat
  pos : Nat
deriving DecidableEq
structure Mk where
  n : Nat
  m : Mrk
deriving DecidableEq
def bI : Mrk := ⟨0, 0, 0, 0⟩
def Mrk.fit (x : Mrk) : Prop := x.id < 18446744073709551616 ∧ x.first < 18446744073709551616 ∧ x.pos < 18446744073709551616
def mrkB (x : Mrk) : Bool := decide (x.id ≠ 0 ∧ 40 ≤ x.ring ∧ x.ring ≤ 256 ∧ 1 ≤ x.first ∧ x.first ≤ 4611686018427387904 ∧ x.pos ≤ 4611686018427387904)
theorem of_mrkB {x : Mrk} (h : mrkB x = true) : x.id ≠ 0 ∧ 40 ≤ x.ring ∧ x.ring ≤ 256 ∧ 1 ≤ x.first ∧ x.first ≤ 4611686018427387904 ∧ x.pos ≤ 4611686018427387904 := of_decide_eq_true h
def bodyM (x : Mrk) : List UInt8 := aY 8 8 x.id ++ (aY 8 2 x.ring.toNat ++ (aY 8 8 x.first ++ aY 8 8 x.pos))
theorem bodyM_length (x : Mrk) : (bodyM x).length = 26 := by simp [bodyM, ay]
def co (l : List UInt8) : Mrk := ⟨val 8 (piece l 0 8), (val 8 (piece l 8 2) : Nat), val 8 (piece l 10 8), val 8 (piece l 18 8)⟩
def cH (x : Mrk) : List UInt8 := b9 (bodyM x)
theorem de (x : Mrk) : (cH x).length = 44 := dw (by rw [bodyM_length]; omega)
section
variable (x : Mrk)
private theorem pcM (a b c : List UInt8) {p k : Nat} (h : cH x = a ++ (b ++ c)) (hp : a.length = p) (hk : b.length = k) : piece (cH x) p k = b := by rw [h]; exact piece_mid _ _ _ hp hk
theorem fullM_0 : piece (cH x) 0 8 = aY 8 8 x.id := by
  unfold cH b9 bodyM
  rw [List.append_assoc]
  exact piece_head _ _ (ay _ _ _)
theorem fullM_8 : piece (cH x) 8 2 = aY 8 2 x.ring.toNat :=
  pcM x (aY 8 8 x.id) _ _ (by unfold cH b9 bodyM; simp only [List.append_assoc]; rfl) (by simp [ay]) (by simp [ay])
theorem fullM_10 : piece (cH x) 10 8 = aY 8 8 x.first :=
  pcM x (aY 8 8 x.id ++ aY 8 2 x.ring.toNat) _ _ (by unfold cH b9 bodyM; simp only [List.append_assoc]; rfl) (by simp [ay]) (by simp [ay])
theorem fullM_18 : piece (cH x) 18 8 = aY 8 8 x.pos :=
  pcM x (aY 8 8 x.id ++ aY 8 2 x.ring.toNat ++ aY 8 8 x.first) _ _ (by unfold cH b9 bodyM; simp only [List.append_assoc]; rfl) (by simp [ay]) (by simp [ay])
end
theorem told_fullM {x : Mrk} (hf : x.fit) (h : mrkB x = true) : co (cH x) = x := by
  obtain ⟨_, h1, h2, _, _, _⟩ := of_mrkB h
  obtain ⟨f1, f2, f3⟩ := hf
  obtain ⟨id, ring, first, pos⟩ := x
  simp only at *
  unfold co
  rw [fullM_0, fullM_8, fullM_10, fullM_18]
  simp only
  rw [val_dig (k := 8) (n := id) (by omega), val_dig (k := 2) (n := ring.toNat) (by omega), val_dig (k := 8) (n := first) (by omega), val_dig (k := 8) (n := pos) (by omega)]
  have e1 : ((ring.toNat : Nat) : Int) = ring := by omega
  rw [e1]
theorem told_fitM {l : List UInt8} (h : l.length = 44) : (co l).fit :=
  ⟨cu (b := l) (p := 0) (k := 8) (by omega), cu (b := l) (p := 10) (k := 8) (by omega), cu (b := l) (p := 18) (k := 8) (by omega)⟩
def aR : Cod Mk where
  zero := ⟨0, bI⟩
  may y := evB y.n && mrkB y.m
  num y := y.n
  body y := bodyM y.m
  told n l := ⟨n, co l⟩
  fits y := y.n < 18446744073709551616 ∧ y.m.fit
  may_num y h := by
    rw [Bool.and_eq_true] at h
    exact of_evB h.1
  len y := by rw [bodyM_length]; omega
  back y hf h := by
    rw [Bool.and_eq_true] at h
    obtain ⟨n, m⟩ := y
    have := told_fullM hf.2 h.2
    simp only at this ⊢
    unfold cH at this
    rw [this]
  num_told _ _ := rfl
  fits_told n l h hn := ⟨hn, told_fitM h⟩
  zero_no := by decide
  zero_num := rfl
  zero_fits := ⟨by decide, by decide, by decide, by decide⟩
theorem eB {n : Nat} {m : Mrk} : aR.may ⟨n, m⟩ = (evB n && mrkB m) := rfl
open Go.RowKit
set_option maxRecDepth 100000
set_option linter.unusedVariables false
def hd (n : Nat) : Nat := (n + 15) / 16
theorem hd_le (n : Nat) : 4 * n ≤ 64 * hd n := by unfold hd; omega
def sizN (n : Int) : Nat := if n < 1 ∨ 32 < n then 0 else hd n.toNat + n.toNat
theorem sizN_no {n : Int} (h : n < 1 ∨ 32 < n) : sizN n = 0 := if_pos h
theorem sizN_of {n : Nat} (h1 : 1 ≤ n) (h2 : n ≤ 32) : sizN (n : Int) = hd n + n := by unfold sizN; rw [if_neg (by omega), Int.toNat_natCast]
theorem of_sizN {n : Int} (h : sizN n ≠ 0) : ∃ k : Nat, n = (k : Int) ∧ 1 ≤ k ∧ k ≤ 32 := by
  by_cases h1 : n < 1 ∨ 32 < n
  · exact absurd (sizN_no h1) h
  · exact ⟨n.toNat, by omega, by omega, by omega⟩
open Go.RowKit
set_option maxRecDepth 100000
set_option linter.unusedVariables false
structure Nte where
  seq : Nat
  pos : Nat
  cells : Int
  sum : Nat
deriving DecidableEq
def aG : Nte := ⟨0, 0, 0, 0⟩
def Nte.fit (x : Nte) : Prop := x.seq < 18446744073709551616 ∧ x.pos < 18446744073709551616 ∧ x.sum < 4294967296
def nteB (x : Nte) : Bool := decide (1 ≤ x.seq ∧ x.seq ≤ 4611686018427387904 ∧ x.pos ≤ 4611686018427387904 ∧ 1 ≤ x.cells ∧ x.cells ≤ 32)
theorem of_nteB {x : Nte} (h : nteB x = true) : 1 ≤ x.seq ∧ x.seq ≤ 4611686018427387904 ∧ x.pos ≤ 4611686018427387904 ∧ 1 ≤ x.cells ∧ x.cells ≤ 32 := of_decide_eq_true h
def eG (x : Nte) : List UInt8 := aY 8 8 x.pos ++ (aY 8 2 x.cells.toNat ++ aY 8 4 x.sum)
theorem bodyNt_length (x : Nte) : (eG x).length = 14 := by simp [eG, ay]
def cd (n : Nat) (l : List UInt8) : Nte := ⟨n, val 8 (piece l 0 8), (val 8 (piece l 8 2) : Nat), val 8 (piece l 10 4)⟩
def cg (x : Nte) : List UInt8 := b9 (eG x)
theorem dl (x : Nte) : (cg x).length = 44 := dw (by rw [bodyNt_length]; omega)
section
variable (x : Nte)
private theorem pcNt (a b c : List UInt8) {p k : Nat} (h : cg x = a ++ (b ++ c)) (hp : a.length = p) (hk : b.length = k) : piece (cg x) p k = b := by rw [h]; exact piece_mid _ _ _ hp hk
theorem fullNt_0 : piece (cg x) 0 8 = aY 8 8 x.pos := by
  unfold cg b9 eG
  rw [List.append_assoc]
  exact piece_head _ _ (ay _ _ _)
theorem fullNt_8 : piece (cg x) 8 2 = aY 8 2 x.cells.toNat :=
  pcNt x (aY 8 8 x.pos) _ _ (by unfold cg b9 eG; simp only [List.append_assoc]; rfl) (by simp [ay]) (by simp [ay])
theorem fullNt_10 : piece (cg x) 10 4 = aY 8 4 x.sum :=
  pcNt x (aY 8 8 x.pos ++ aY 8 2 x.cells.toNat) _ _ (by unfold cg b9 eG; simp only [List.append_assoc]; rfl) (by simp [ay]) (by simp [ay])
end
theorem told_fullNt {x : Nte} (hf : x.fit) (h : nteB x = true) : cd x.seq (cg x) = x := by
  obtain ⟨_, _, _, h1, h2⟩ := of_nteB h
  obtain ⟨f1, f2, f3⟩ := hf
  obtain ⟨seq, pos, cells, sum⟩ := x
  simp only at *
  unfold cd
  rw [fullNt_0, fullNt_8, fullNt_10]
  simp only
  rw [val_dig (k := 8) (n := pos) (by omega), val_dig (k := 2) (n := cells.toNat) (by omega), val_dig (k := 4) (n := sum) (by omega)]
  have e1 : ((cells.toNat : Nat) : Int) = cells := by omega
  rw [e1]
theorem told_fitNt {n : Nat} {l : List UInt8} (hn : n < 18446744073709551616) (h : l.length = 44) : (cd n l).fit :=
  ⟨hn, cu (b := l) (p := 0) (k := 8) (by omega), cu (b := l) (p := 10) (k := 4) (by omega)⟩
def aT : Cod Nte where
  zero := aG
  may := nteB
  num y := y.seq
  body := eG
  told := cd
  fits := Nte.fit
  may_num y h := ⟨(of_nteB h).1, (of_nteB h).2.1⟩
  len y := by rw [bodyNt_length]; omega
  back y hf h := told_fullNt hf h
  num_told _ _ := rfl
  fits_told n l h hn := told_fitNt hn h
  zero_no := by decide
  zero_num := rfl
  zero_fits := ⟨by decide, by decide, by decide⟩
def bf (x : Nte) : Nat := hd x.cells.toNat + x.cells.toNat
open Go.RowKit
set_option maxRecDepth 100000
set_option linter.unusedVariables false
theorem bt_beyond {l : List UInt8} {j : Nat} (h : l.length ≤ j) : bt l j = 0 := by
  unfold bt
  rw [List.getD, List.getElem?_eq_none h]
  rfl
def cT (l : List Blk) : List UInt8 := l.flatMap fun b => b.toList
theorem byts_cons (b : Blk) (l : List Blk) : cT (b :: l) = b.toList ++ cT l := rfl
theorem byts_append (a b : List Blk) : cT (a ++ b) = cT a ++ cT b := by simp [cT]
theorem el (l : List Blk) : (cT l).length = 64 * l.length := by
  induction l with
  | nil => rfl
  | cons x l ih => rw [byts_cons, List.length_append, ih, List.length_cons, cx]; omega
theorem byts_flat (l : List Blk) : (cT l).map (fun u => Value.int .u8 (u.toNat : Int)) = flat l := by
  induction l with
  | nil => rfl
  | cons x l ih => rw [byts_cons, List.map_append, ih, fy]; rfl
theorem bt_byts {l : List Blk} {k j : Nat} (hk : k < l.length) (hj : j < 64) : bt (cT l) (64 * k + j) = byt (l.getD k al) j := by
  induction l generalizing k with
  | nil => simp at hk
  | cons x l ih =>
    rw [byts_cons]
    cases k with
    | zero => rw [Nat.mul_zero, Nat.zero_add, bZ (by rw [cx]; exact hj)]; rfl
    | succ k =>
      rw [cy (by rw [cx]; omega), cx, show 64 * (k + 1) + j - 64 = 64 * k + j from by omega, ih (by simpa using hk)]
      rfl
def secs (k : Nat) (x : List UInt8) : List Blk := (List.range k).map fun i => ofL (x.drop (64 * i))
theorem ec (k : Nat) (x : List UInt8) : (secs k x).length = k := by simp [secs]
theorem bt_secs {k j : Nat} {x : List UInt8} (h : j < 64 * k) : bt (cT (secs k x)) j = bt x j := by
  have e : j = 64 * (j / 64) + j % 64 := by omega
  have hk : j / 64 < (secs k x).length := by rw [ec]; omega
  rw [e, bt_byts hk (by omega)]
  have e2 : (secs k x).getD (j / 64) al = ofL (x.drop (64 * (j / 64))) := by
    unfold secs
    rw [List.getD, List.getElem?_map, List.getElem?_range (by omega)]
    rfl
  rw [e2, ofL_byt _ (by omega)]
  unfold bt
  simp [List.getD, List.getElem?_drop]
theorem byts_secs {k : Nat} {x : List UInt8} (h : x.length ≤ 64 * k) : cT (secs k x) = x ++ List.replicate (64 * k - x.length) 0 := by
  refine e9 (by rw [el, ec, List.length_append, List.length_replicate]; omega) fun j hj => ?_
  rw [el, ec] at hj
  rw [bt_secs hj]
  by_cases hx : j < x.length
  · rw [bZ hx]
  · rw [cy (by omega), bt_noughts, bt_beyond (by omega)]
structure Cl where
  s : Int
  m : Int
  b : Blk
deriving DecidableEq
def cf : Cl := ⟨0, 0, al⟩
def okP (s m : Int) : Bool := decide (0 ≤ s ∧ s < 64 ∧ 0 ≤ m ∧ m < 16)
def okC (c : Cl) : Bool := okP c.s c.m
theorem of_okC {c : Cl} (h : okC c = true) : 0 ≤ c.s ∧ c.s < 64 ∧ 0 ≤ c.m ∧ c.m < 16 := of_decide_eq_true h
def badC (l : List Cl) : Bool := l.any fun c => !okC c
theorem badC_of {l : List Cl} {k : Nat} (hk : k < l.length) (h : okC (l.getD k cf) = false) : badC l = true := by
  rw [List.getD, List.getElem?_eq_getElem hk, Option.getD_some] at h
  exact List.any_eq_true.2 ⟨l[k], List.getElem_mem hk, by rw [h]; rfl⟩
theorem badC_no {l : List Cl} (h : ∀ k, k < l.length → okC (l.getD k cf) = true) : badC l = false := by
  refine Bool.eq_false_iff.2 fun hb => ?_
  obtain ⟨c, hc, h2⟩ := List.any_eq_true.1 hb
  obtain ⟨k, hk, rfl⟩ := List.getElem_of_mem hc
  have := h k hk
  rw [List.getD, List.getElem?_eq_getElem hk, Option.getD_some] at this
  rw [this] at h2
  cases h2
theorem of_badC {l : List Cl} (h : badC l = false) {k : Nat} (hk : k < l.length) : okC (l.getD k cf) = true := by
  cases e : okC (l.getD k cf)
  · rw [badC_of hk e] at h; cases h
  · rfl
def pl4 (c : Cl) : List UInt8 := aY 8 2 c.s.toNat ++ (aY 8 1 c.m.toNat ++ [0])
theorem pl4_length (c : Cl) : (pl4 c).length = 4 := by simp [pl4, ay]
def rowC (l : List Cl) : List UInt8 := l.flatMap pl4
theorem rowC_cons (c : Cl) (l : List Cl) : rowC (c :: l) = pl4 c ++ rowC l := rfl
theorem rowC_append (a b : List Cl) : rowC (a ++ b) = rowC a ++ rowC b := by simp [rowC]
theorem eU (l : List Cl) : (rowC l).length = 4 * l.length := by
  induction l with
  | nil => rfl
  | cons x l ih => rw [rowC_cons, List.length_append, ih, List.length_cons, pl4_length]; omega
theorem bt_rowC {l : List Cl} {k j : Nat} (hk : k < l.length) (hj : j < 4) : bt (rowC l) (4 * k + j) = bt (pl4 (l.getD k cf)) j := by
  induction l generalizing k with
  | nil => simp at hk
  | cons x l ih =>
    rw [rowC_cons]
    cases k with
    | zero => rw [Nat.mul_zero, Nat.zero_add, bZ (by rw [pl4_length]; exact hj)]; rfl
    | succ k =>
      rw [cy (by rw [pl4_length]; omega), pl4_length, show 4 * (k + 1) + j - 4 = 4 * k + j from by omega, ih (by simpa using hk)]
      rfl
def blks (l : List Cl) : List Blk := l.map fun c => c.b
theorem blks_length (l : List Cl) : (blks l).length = l.length := by simp [blks]
def bE (l : List Cl) : List Blk := secs (hd l.length) (rowC l) ++ blks l
theorem bL (l : List Cl) : (bE l).length = hd l.length + l.length := by unfold bE; rw [List.length_append, ec, blks_length]
theorem byts_recL (l : List Cl) : cT (bE l) = (rowC l ++ List.replicate (64 * hd l.length - 4 * l.length) 0) ++ cT (blks l) := by
  unfold bE
  rw [byts_append, byts_secs (by rw [eU]; exact hd_le _), eU]
def recE (l : List Cl) : Nat := if l.length = 0 ∨ badC l = true then 2 else if 32 < l.length then 3 else 0
def recP (l : List Cl) : List Blk := if recE l = 0 then bE l else []
theorem recE_bad {l : List Cl} (h : l.length = 0 ∨ badC l = true) : recE l = 2 := if_pos h
theorem recE_long {l : List Cl} (h0 : l.length ≠ 0) (hb : badC l = false) (h : 32 < l.length) : recE l = 3 := by unfold recE; rw [if_neg (by rw [hb]; simp; simpa using h0), if_pos h]
theorem recE_ok {l : List Cl} (h0 : l.length ≠ 0) (hb : badC l = false) (h : l.length ≤ 32) : recE l = 0 := by unfold recE; rw [if_neg (by rw [hb]; simp; simpa using h0), if_neg (by omega)]
theorem of_recE {l : List Cl} (h : recE l = 0) : 1 ≤ l.length ∧ l.length ≤ 32 ∧ badC l = false := by
  unfold recE at h
  split at h
  · omega
  · rename_i h1
    split at h
    · omega
    · exact ⟨by omega, by omega, by cases e : badC l; rfl; exact absurd (.inr e) h1⟩
theorem recP_ok {l : List Cl} (h : recE l = 0) : recP l = bE l := if_pos h
theorem recP_no {l : List Cl} (h : recE l ≠ 0) : recP l = [] := if_neg h
def tolC (l : List Blk) (k i : Nat) : Cl := ⟨val 8 (piece (cT l) (4 * i) 2), val 8 (piece (cT l) (4 * i + 2) 1), l.getD (k + i) al⟩
def tol (l : List Blk) (n : Nat) : List Cl := (List.range n).map fun i => tolC l (hd n) i
theorem dN (l : List Blk) (n : Nat) : (tol l n).length = n := by simp [tol]
theorem tol_at {l : List Blk} {n i : Nat} (h : i < n) : (tol l n).getD i cf = tolC l (hd n) i := by
  unfold tol
  rw [List.getD, List.getElem?_map, List.getElem?_range h]
  rfl
section
variable {l : List Blk} {n : Nat} (hl : l.length = hd n + n)
include hl
end
def rgE (l : List Blk) (n : Int) : Nat := if sizN n = 0 then 2 else if l.length < sizN n then 4 else if sizN n < l.length then 5 else if badC (tol l n.toNat) = true ∨ bE (tol l n.toNat) ≠ l then 5 else 0
def rgC (l : List Blk) (n : Int) : List Cl := if rgE l n = 0 then tol l n.toNat else []
theorem rgC_no {l : List Blk} {n : Int} (h : rgE l n ≠ 0) : rgC l n = [] := if_neg h
theorem rgC_ok {l : List Blk} {n : Int} (h : rgE l n = 0) : rgC l n = tol l n.toNat := if_pos h
theorem rgE_arg {l : List Blk} {n : Int} (h : sizN n = 0) : rgE l n = 2 := if_pos h
theorem rgE_short {l : List Blk} {n : Int} (h : sizN n ≠ 0) (h2 : l.length < sizN n) : rgE l n = 4 := by unfold rgE; rw [if_neg h, if_pos h2]
theorem rgE_more {l : List Blk} {n : Int} (h : sizN n ≠ 0) (h2 : sizN n < l.length) : rgE l n = 5 := by unfold rgE; rw [if_neg h, if_neg (by omega), if_pos h2]
section
variable {l : List Blk} {n : Nat} (h1 : 1 ≤ n) (h32 : n ≤ 32) (hl : l.length = hd n + n)
include h1 h32 hl
theorem rgE_as : rgE l (n : Int) = if badC (tol l n) = true ∨ bE (tol l n) ≠ l then 5 else 0 := by
  unfold rgE
  rw [sizN_of h1 h32, hl, if_neg (by omega), if_neg (by omega), if_neg (by omega), Int.toNat_natCast]
theorem rgE_form (h : badC (tol l n) = true ∨ bE (tol l n) ≠ l) : rgE l (n : Int) = 5 := by rw [rgE_as h1 h32 hl, if_pos h]
theorem rgE_ok (hb : badC (tol l n) = false) (h : bE (tol l n) = l) : rgE l (n : Int) = 0 := by rw [rgE_as h1 h32 hl, if_neg (by rw [hb]; simp [h])]
end
theorem tol_recL {l : List Cl} (h : badC l = false) : tol (bE l) l.length = l := by
  apply List.ext_getElem (by rw [dN])
  intro i h1 h2
  have hi : i < l.length := h2
  have hok := of_okC (of_badC h hi)
  rw [List.getD, List.getElem?_eq_getElem hi, Option.getD_some] at hok
  have hle := hd_le l.length
  have key : ∀ r, r < 4 → bt (cT (bE l)) (4 * i + r) = bt (pl4 l[i]) r := fun r hr => by
    rw [byts_recL, bZ (by rw [List.length_append, List.length_replicate, eU]; omega), bZ (by rw [eU]; omega), bt_rowC hi hr, List.getD, List.getElem?_eq_getElem hi]
    rfl
  have hlen : (cT (bE l)).length = 64 * (hd l.length + l.length) := by rw [el, bL]
  have e2 : piece (cT (bE l)) (4 * i) 2 = aY 8 2 l[i].s.toNat := by
    refine e9 (by rw [bz (by omega), ay]) fun j hj => ?_
    rw [bz (by omega)] at hj
    rw [ez hj, key j (by omega)]
    exact bZ (by rw [ay]; exact hj)
  have e1 : piece (cT (bE l)) (4 * i + 2) 1 = aY 8 1 l[i].m.toNat := by
    refine e9 (by rw [bz (by omega), ay]) fun j hj => ?_
    rw [bz (by omega)] at hj
    have hj0 : j = 0 := by omega
    subst hj0
    rw [ez (by omega), Nat.add_assoc, key (2 + 0) (by omega)]
    unfold pl4
    rw [cy (by rw [ay]; omega), ay, bZ (by rw [ay]; omega)]
  have eT := tol_at (l := bE l) hi
  rw [List.getD, List.getElem?_eq_getElem h1, Option.getD_some] at eT
  rw [eT]
  unfold tolC
  rw [e2, e1, val_digL (by omega), val_digL (by omega), Nat.mod_eq_of_lt (by omega), Nat.mod_eq_of_lt (by omega)]
  have eb : (bE l).getD (hd l.length + i) al = l[i].b := by
    unfold bE
    rw [List.getD, List.getElem?_append_right (by rw [ec]; omega), ec, Nat.add_sub_cancel_left]
    unfold blks
    rw [List.getElem?_map, List.getElem?_eq_getElem hi]
    rfl
  rw [eb]
  have es : ((l[i].s.toNat : Nat) : Int) = l[i].s := by omega
  have em : ((l[i].m.toNat : Nat) : Int) = l[i].m := by omega
  rw [es, em]
theorem rec_got {l : List Cl} (h : recE l = 0) : rgE (bE l) (l.length : Int) = 0 ∧ rgC (bE l) (l.length : Int) = l := by
  obtain ⟨h1, h2, hb⟩ := of_recE h
  have ht := tol_recL hb
  have he : rgE (bE l) (l.length : Int) = 0 := rgE_ok h1 h2 (bL l) (by rw [ht]; exact hb) (by rw [ht])
  exact ⟨he, by rw [rgC_ok he, Int.toNat_natCast, ht]⟩
open Go.RowKit
set_option maxRecDepth 100000
set_option linter.unusedVariables false
theorem byts_succ {l : List Blk} {k : Nat} (h : k < l.length) : cT (l.take (k + 1)) = cT (l.take k) ++ (l.getD k al).toList := by
  rw [List.take_succ_eq_append_getElem h, byts_append, List.getD, List.getElem?_eq_getElem h]
  simp [cT]
def sumB (l : List Blk) : Nat := more 0 (cT l)
theorem sumB_lt (l : List Blk) : sumB l < 4294967296 := more_lt (by omega) _
theorem sumB_succ {l : List Blk} {k : Nat} (h : k < l.length) : sumB (l.take (k + 1)) = more (sumB (l.take k)) (l.getD k al).toList := by
  unfold sumB
  rw [byts_succ h, more_append]
open Go.RowKit
set_option maxRecDepth 100000
set_option linter.unusedVariables false
inductive Stp where
  | wr (n : Int) (b : Blk)
  | fl
def stpE (d : Int) (M : BenS) : Stp → Int
  | .wr n _ => wrE6 M d n
  | .fl => flE6 M d
def stpS (d : Int) (M : BenS) : Stp → BenS
  | .wr n b => wrS6 M d n b
  | .fl => flS6 M d
def goE (d : Int) : BenS → List Stp → Int
  | _, [] => 0
  | M, s :: l => if stpE d M s = 0 then goE d (stpS d M s) l else stpE d M s
def goB (d : Int) : BenS → List Stp → BenS
  | M, [] => M
  | M, s :: l => if stpE d M s = 0 then goB d (stpS d M s) l else stpS d M s
theorem go_ok {d : Int} {M : BenS} {s : Stp} {l : List Stp} (h : stpE d M s = 0) : goE d M (s :: l) = goE d (stpS d M s) l ∧ goB d M (s :: l) = goB d (stpS d M s) l := ⟨if_pos h, if_pos h⟩
theorem go_no {d : Int} {M : BenS} {s : Stp} {l : List Stp} (h : stpE d M s ≠ 0) : goE d M (s :: l) = stpE d M s ∧ goB d M (s :: l) = stpS d M s := ⟨if_neg h, if_neg h⟩
structure LgS where
  d : Nat
  own : Nat
  size : Nat
  cnt : Nat
  fst : Nat
  pos : Nat
  nts : List Nte
def usd (l : List Nte) : Nat := (l.map bf).sum
theorem usd_nil : usd [] = 0 := rfl
theorem usd_cons (n : Nte) (l : List Nte) : usd (n :: l) = bf n + usd l := by simp [usd]
theorem fG (a b : List Nte) : usd (a ++ b) = usd a + usd b := by simp [usd]
theorem fw (l : List Nte) (k : Nat) : usd l = usd (l.take k) + usd (l.drop k) := by rw [← fG, List.take_append_drop]
theorem fL {l : List Nte} {i : Nat} (h : i < l.length) : usd (l.take (i + 1)) = usd (l.take i) + bf (l.getD i aG) := by
  rw [List.take_add_one, List.getElem?_eq_getElem h, List.getD, List.getElem?_eq_getElem h, fG]
  simp [usd]
def LgS.used (x : LgS) : Nat := usd x.nts
def LgS.next (x : LgS) : Nat := x.fst + x.nts.length
def LgS.head (x : LgS) : Nat := x.pos + x.used
def LgS.free (x : LgS) : Nat := x.size - x.used
def bV (r p : Nat) : Int := ((10 + p % r : Nat) : Int)
def cz (q : Nat) : Int := ((2 + q % 8 : Nat) : Int)
def ef (c : Nat) : Int := ((c % 2 : Nat) : Int)
def mkT (own size c f a : Nat) : List Stp := [.wr (ef c) (aR.pB ⟨c, ⟨own, (size : Int), f, a⟩⟩), .fl]
def layQ (M : BenS) (d : Int) (id : Nat) (r : Int) : Bool := decide (dx M d = 0 ∧ id ≠ 0 ∧ 40 ≤ r ∧ r ≤ 256 ∧ 10 + r ≤ ca M d)
def zerT : List Stp := (List.range 10).map fun i => .wr (i : Nat) al
def layT (id : Nat) (r : Int) : List Stp := zerT ++ (.fl :: mkT id r.toNat 1 1 0)
def layE (M : BenS) (d : Int) (id : Nat) (r : Int) : Int := if layQ M d id r = true then goE d M (layT id r) else 2
def layB (M : BenS) (d : Int) (id : Nat) (r : Int) : BenS := if layQ M d id r = true then goB d M (layT id r) else M
def layX (d : Int) (id : Nat) (r : Int) : LgS := ⟨d.toNat, id, r.toNat, 1, 1, 0, []⟩
def opnQ (M : BenS) (d : Int) : Bool := decide (dx M d = 0 ∧ 50 ≤ ca M d)
def dp (M : BenS) (d : Int) : Mk := aR.nX (cC M d 0) (cC M d 1)
def opnX (M : BenS) (d : Int) : LgS := ⟨d.toNat, (dp M d).m.id, (dp M d).m.ring.toNat, (dp M d).n, (dp M d).m.first, (dp M d).m.pos, []⟩
def opnF (M : BenS) (d : Int) : Bool := decide (aR.nE (cC M d 0) (cC M d 1) = 0 ∧ (dp M d).m.ring ≤ ca M d - 10 ∧ (dp M d).n ≤ 2305843009213693952 ∧ (dp M d).m.first ≤ 2305843009213693952 ∧ (dp M d).m.pos ≤ 2305843009213693952)
def nxtQ (x : LgS) (z : Blk) : Bool := decide (aT.gE z = 0 ∧ (aT.gX z).seq = x.next ∧ (aT.gX z).pos = x.head ∧ bf (aT.gX z) ≤ x.free)
def LgS.with_ (x : LgS) (n : Nte) : LgS := { x with nts := x.nts ++ [n] }
def opnN (M : BenS) : Nat → LgS → LgS
  | 0, x => x
  | k + 1, x => if nxtQ x (cC M x.d (cz x.next)) = true then opnN M k (x.with_ (aT.gX (cC M x.d (cz x.next)))) else x
def opnE (M : BenS) (d : Int) : Int := if opnQ M d = true then (if bX M d 0 = 0 then (if opnF M d = true then 0 else 5) else bX M d 0) else 2
def opnL (M : BenS) (d : Int) : LgS := opnN M 8 (opnX M d)
def cD (x : LgS) (cs : List Cl) : Nte := ⟨x.next, x.head, (cs.length : Int), sumB (bE cs)⟩
def appQ (x : LgS) (cs : List Cl) : Int := if recE cs ≠ 0 then recE cs else if 8 ≤ x.nts.length ∨ x.free < (bE cs).length then 10 else 0
def recT (r p : Nat) (l : List Blk) : List Stp := (List.range l.length).map fun i => .wr (bV r (p + i)) (l.getD i al)
def appT (x : LgS) (cs : List Cl) : List Stp := recT x.size x.head (bE cs) ++ [.fl, .wr (cz x.next) (aT.pB (cD x cs)), .fl]
def appE (M : BenS) (x : LgS) (cs : List Cl) : Int := if appQ x cs = 0 then goE x.d M (appT x cs) else appQ x cs
def appB (M : BenS) (x : LgS) (cs : List Cl) : BenS := if appQ x cs = 0 then goB x.d M (appT x cs) else M
def appN (M : BenS) (x : LgS) (cs : List Cl) : Nat := if appE M x cs = 0 then x.next else 0
def appX (M : BenS) (x : LgS) (cs : List Cl) : LgS := if appE M x cs = 0 then x.with_ (cD x cs) else x
def livQ (x : LgS) (q : Nat) : Bool := decide (x.fst ≤ q ∧ q < x.next)
def LgS.note (x : LgS) (q : Nat) : Nte := x.nts.getD (q - x.fst) aG
def rcdL (M : BenS) (x : LgS) (n : Nte) : List Blk := (List.range (bf n)).map fun i => cC M x.d (bV x.size (n.pos + i))
def rcdF (l : List Blk) (n : Nte) : Int := if sumB l = n.sum then rgE l n.cells else 6
def rcdE (M : BenS) (x : LgS) (q : Nat) : Int := if livQ x q = true then (if bX M x.d (bV x.size (x.note q).pos) = 0 then rcdF (rcdL M x (x.note q)) (x.note q) else bX M x.d (bV x.size (x.note q).pos)) else 7
def rcdC (M : BenS) (x : LgS) (q : Nat) : List Cl := if rcdE M x q = 0 then rgC (rcdL M x (x.note q)) (x.note q).cells else []
def clrQ (x : LgS) (f : Nat) : Bool := decide (x.fst ≤ f ∧ f ≤ x.next)
def LgS.at_ (x : LgS) (f : Nat) : Nat := x.pos + usd (x.nts.take (f - x.fst))
def clrE (M : BenS) (x : LgS) (f : Nat) : Int := if clrQ x f = true then goE x.d M (mkT x.own x.size (x.cnt + 1) f (x.at_ f)) else 2
def clrB (M : BenS) (x : LgS) (f : Nat) : BenS := if clrQ x f = true then goB x.d M (mkT x.own x.size (x.cnt + 1) f (x.at_ f)) else M
def LgS.cut (x : LgS) (f : Nat) : LgS := ⟨x.d, x.own, x.size, x.cnt + 1, f, x.at_ f, x.nts.drop (f - x.fst)⟩
def clrX (M : BenS) (x : LgS) (f : Nat) : LgS := if clrE M x f = 0 then x.cut f else x
section
variable {x : LgS} {f : Nat} {n : Nte}
theorem eq : (x.with_ n).next = x.next + 1 := by unfold LgS.with_ LgS.next; simp; omega
theorem with_used : (x.with_ n).used = x.used + bf n := by unfold LgS.with_ LgS.used; simp [fG, usd_cons, usd_nil]
theorem with_head : (x.with_ n).head = x.head + bf n := by unfold LgS.head; rw [with_used]; show x.pos + _ = _; omega
theorem of_clrQ (h : clrQ x f = true) : x.fst ≤ f ∧ f ≤ x.next := of_decide_eq_true h
theorem fe (h : clrQ x f = true) : (x.cut f).next = x.next := by
  have := of_clrQ h
  unfold LgS.next at *
  unfold LgS.cut
  simp only [List.length_drop]
  omega
theorem cut_head (h : clrQ x f = true) : (x.cut f).head = x.head := by
  unfold LgS.head LgS.used LgS.cut LgS.at_
  simp only
  have := fw x.nts (f - x.fst)
  omega
theorem cut_used (h : clrQ x f = true) : (x.cut f).used ≤ x.used := by
  unfold LgS.used LgS.cut
  simp only
  have := fw x.nts (f - x.fst)
  omega
end
open Go.RowKit
set_option maxRecDepth 100000
set_option linter.unusedVariables false
theorem splice_vals (l x : List UInt8) (off : Nat) : splice (vals l) off (vals x) = vals (splice l off x) := by
  unfold splice vals
  simp [List.map_take, List.map_drop]
def bF (w : World) (g : Nat) (t : TypeId) (l : List UInt8) : Prop := w.heap[g]? = some (.cells (vals l).toArray t (0, 0))
section
variable {w w' : World} {g : Nat} {t : TypeId} {l : List UInt8}
theorem bF.lt (h : bF w g t l) : g < w.heap.size := (Array.getElem?_eq_some_iff.1 h).1
theorem bF.below {B : Nat} (h : bF w g t l) (hB : g < B) (hb : Below B w w') : bF w' g t l := (hb.block g hB).trans h
theorem bF.grown {k : Nat} (h : bF w g t l) (hk : g ≠ k) (hb : w.grownBy w' (some k)) : bF w' g t l := (hb.block g h.lt (fun e => hk (by injection e))).trans h
theorem bF.past (h : bF w g t l) (o : Obj) : bF (w.alloc o) g t l := bM h o
theorem bF.cell (h : bF w g t l) {j : Nat} (hj : j < l.length) : w.cell? ⟨g, j, none⟩ = some (.int .u8 (bt l j)) := by
  rw [cell_of_row w g j _ t (0, 0) h, List.getElem?_toArray, vals_at hj]
theorem bF.rd (h : bF w g t l) {p k : Nat} (hp : p + k ≤ l.length) : Rd w w.heap.size (some ⟨g, p, none⟩) k (piece l p k) :=
  ⟨bz hp, fun j hj => ⟨g, p, rfl, h.lt, by rw [h.cell (by omega), ez hj]⟩⟩
theorem bF.range (h : bF w g t l) (hl : l.length = 64) : w.rangeAt g 0 (cel (ofL l)) := fun j v hj => by
  have hlt : j < 64 := by have := (List.getElem?_eq_some_iff.1 hj).1; rwa [ax] at this
  rw [Nat.zero_add, h.cell (by omega), ← hj, dX _ hlt, ofL_byt _ hlt]
theorem bF.new (w : World) (l : List UInt8) (t : TypeId) : bF (w.alloc (.cells (vals l).toArray t)) w.heap.size t l := heap_alloc_new w _
theorem bF.blk (w : World) (b : Blk) (t : TypeId) : bF (w.alloc (.cells (cel b).toArray t)) w.heap.size t b.toList := heap_alloc_new w _
theorem bF.row (h : bF w g t l) : w.rowIs g t l.length (fun j => .int .u8 (bt l j)) :=
  ⟨_, h, by simp [bh], fun j hj => by rw [List.getElem?_toArray, vals_at hj]⟩
end
theorem cw {w : World} {ops : Array Oper} {rest : List Oper} {o : Oper} {a : Act} {Q : Exit → Act → World → Prop} (hgd : o.guard = none) (d s : Operand)
    (ho : o.op = .call { callee := .builtin .copy, args := #[d, s], argTypes := #[160, 160] }) (g off n c m c' N : Nat) (A : Option Addr) (t : TypeId) (l x : List UInt8)
    (hd : a.eval d = .slice (some ⟨g, off, none⟩) n c) (hs : a.eval s = .slice A m c') (hS : bF w g t l) (hr : Rd w N A m x) (hmn : m ≤ n) (hfit : off + m ≤ l.length)
    (h : ∀ w', bF w' g t (splice l off x) → w.grownBy w' (some g) → wpList Tryz.prog ops Q rest (a.put o.dst (goInt m)) w') : wpList Tryz.prog ops Q (o :: rest) a w := by
  have hx := hr.1
  rcases A with _ | ad
  · have h0 : m = 0 := by
      rcases Nat.eq_zero_or_pos m with h | h
      · exact h
      · obtain ⟨b, off, e, _⟩ := hr.2 0 h
        cases e
    subst h0
    obtain rfl : x = [] := List.eq_nil_of_length_eq_zero hx
    refine wpList_copy_nothing hgd d s _ _ ho 5 Tryz.underlying160 (by kernel_rfl) _ _ _ _ _ _ hd hs (Nat.zero_min _) ?_
    exact h w (by simpa [splice] using hS) (World.grownBy.refl w _)
  · have hcl : (vals x).length = m := by rw [bh, hx]
    refine wpList_copy_own hgd d s _ _ ho 5 Tryz.underlying160 (by kernel_rfl) g off n c ad m c' hd hs _ t hS (vals x) (by rw [hcl]; exact (Nat.min_eq_left hmn).symm) (fun j v hj => ?_) (by simp [hcl, bh]; omega) (vals_one x) ?_
    · have hlt : j < m := by have := (List.getElem?_eq_some_iff.1 hj).1; omega
      obtain ⟨b, o2, e, _, hc⟩ := hr.2 j hlt
      injection e with e
      subst e
      rw [Addr.add_mid, hc, ← hj, vals_at (by omega)]
    · have hrow := setRow_heap w g (vals l).toArray ((vals l).toArray.toList.take off ++ (vals x ++ (vals l).toArray.toList.drop (off + (vals x).length))).toArray t (0, 0) hS
      have e : (vals l).toArray.toList.take off ++ (vals x ++ (vals l).toArray.toList.drop (off + (vals x).length)) = vals (splice l off x) := by
        rw [← splice_vals]
        rfl
      rw [hcl]
      rw [hcl] at hrow e
      refine h _ ?_ ⟨rfl, rfl, rfl, by simp [World.setRow], fun k hk hne => setRow_other w g k _ (fun e => hne (by rw [e]))⟩
      unfold bF
      rw [e] at hrow ⊢
      exact hrow
open Go.RowKit
set_option linter.unusedVariables false
set_option maxRecDepth 100000
section
variable {ρ : Operand → Value} {o : Oper} {x y : Operand} {w : World} {t : TypeId} {old cs : Array Value}
theorem exec_fillT (hz : (Tryz.prog.info? t).map (·.size) = some cs.size) (he : old.size = cs.size) (h1 : cs.toList.all Value.oneCell' = true) (ho : o.op = .store t x y) (hx : ρ x = .pointer (some ⟨w.heap.size, 0, none⟩)) (hy : ρ y = .agg cs) :
    (execOp ρ o).run Tryz.prog (w.alloc (.cells old t)) = .ok .skip (w.alloc (.cells cs t)) := by
  have h := run_storeAt_new (P := Tryz.prog) w t old cs hz he (by simpa using h1)
  unfold execOp
  simp only [ho, hx, hy, Sem.run_bind, h, Result.andThen_ok, Sem.run_pure]
end
def arr (l : List UInt8) : Value := .agg (vals l).toArray
section
variable {ρ : Operand → Value} {o : Oper} {x y : Operand} {w : World} {b off : Nat} {t : TypeId} {cs ds : List Value} {d : TypeDesc}
theorem dy (hu : Tryz.prog.underlying t = some d) (hd : d.isRow = true) (hz : (Tryz.prog.info? t).map (·.size) = some cs.length) (ho : o.op = .load t x) (hx : ρ x = .pointer (some ⟨b, off, none⟩)) (hc : w.rangeAt b off cs) :
    (execOp ρ o).run Tryz.prog w = .ok (.value (.agg cs.toArray)) w := av ho hx (run_loadAt_mid w b off t cs d hc hu hd hz)
theorem exec_boxT (ho : o.op = .box t x) (hx : ρ x = .agg cs.toArray) : (execOp ρ o).run Tryz.prog w = .ok (.value (.pointer (some ⟨w.heap.size, 0, none⟩))) (w.alloc (.cells cs.toArray t)) := by
  unfold execOp
  simp [ho, hx, Instr.box, newVar, newRow, Value.cells]
theorem run_zeroT {v : Value} (h : (Tryz.prog.info? t).map (fun i => i.zero) = some (some v)) (w : World) : (zeroValue t).run Tryz.prog w = .ok v w := by
  cases hq : Tryz.prog.info? t with
  | none => rw [hq] at h; cases h
  | some i =>
    rw [hq] at h
    simp only [Option.map_some, Option.some.injEq] at h
    simp [zeroValue, typeInfo, hq, h]
theorem df (h : (Tryz.prog.info? t).map (fun i => i.zero) = some (some (.agg cs.toArray))) (ho : o.op = .alloc t) : (execOp ρ o).run Tryz.prog w = .ok (.value (.pointer (some ⟨w.heap.size, 0, none⟩))) (w.alloc (.cells cs.toArray t)) := by
  have hz := run_zeroT h w
  unfold execOp
  simp [ho, Instr.alloc, hz, newVar, newRow, Value.cells]
theorem exec_putT (hz : (Tryz.prog.info? t).map (·.size) = some cs.length) (h1 : ∀ v ∈ cs, v.oneCell' = true) (ho : o.op = .store t x y) (hx : ρ x = .pointer (some ⟨b, off, none⟩)) (hy : ρ y = .agg cs.toArray) (ht : w.there b off cs.length) :
    (execOp ρ o).run Tryz.prog w = .ok .skip (w.setCells b off cs) := by
  have h := run_storeAt_mid (P := Tryz.prog) w b off t cs.toArray (by simpa using ht) (by simpa using hz) (all_oneCell_toArray h1)
  refine exec_st ho hx hy ?_
  simpa using h
theorem dP (hz : (Tryz.prog.info? t).map (·.size) = some cs.length) (he : ds.length = cs.length) (h1 : ∀ v ∈ cs, v.oneCell' = true) (ho : o.op = .store t x y) (hx : ρ x = .pointer (some ⟨w.heap.size, 0, none⟩)) (hy : ρ y = .agg cs.toArray) :
    (execOp ρ o).run Tryz.prog (w.alloc (.cells ds.toArray t)) = .ok .skip (w.alloc (.cells cs.toArray t)) :=
  exec_fillT (by simpa using hz) (by simpa using he) (by simpa using h1) ho hx hy
theorem exec_bld0 {v : Value} (ho : o.op = .build t #[]) (h : (Instr.build t #[]).run Tryz.prog w = .ok v w) : (execOp ρ o).run Tryz.prog w = .ok (.value v) w := by
  unfold execOp
  simp only [ho, List.map_toArray, List.map_nil, Sem.run_bind, h, Result.andThen_ok, Sem.run_pure]
theorem exec_neT {r : TypeId} {xs ys : Array Value} {c : Bool} (hg : Tryz.prog.eqGuardType Tryz.prog.depth t = false) (he : (Op.equalIn 10000 t (.agg xs) (.agg ys)).run Tryz.prog w = .ok c w) (ho : o.op = .binOp .neq t x y r) (hx : ρ x = .agg xs) (hy : ρ y = .agg ys) :
    (execOp ρ o).run Tryz.prog w = .ok (.value (.bool (!c))) w := by
  have h := run_neq_struct (P := Tryz.prog) w t xs ys
  rw [he] at h
  unfold execOp
  simp only [ho, hx, hy, Sem.run_bind, run_eqGuard_agg w .neq t x y xs ys hg, Result.andThen_ok]
  rw [h]
  simp
end
section
variable {ρ : Operand → Value} {o : Oper} {x y : Operand} {w : World} {t r : TypeId} {k : IntKind} {a b : Int}
theorem cY (c : Bool) (ho : o.op = .binOp .gtr t x y r) (hx : ρ x = .int k a) (hy : ρ y = .int k b) (h : decide (b < a) = c) : (execOp ρ o).run Tryz.prog w = .ok (.value (.bool c)) w := by
  unfold execOp
  simp [ho, hx, hy, eqGuard, binOp, Op.intCmp, h]
theorem fc (c : Bool) (ho : o.op = .binOp .geq t x y r) (hx : ρ x = .int k a) (hy : ρ y = .int k b) (h : decide (b ≤ a) = c) : (execOp ρ o).run Tryz.prog w = .ok (.value (.bool c)) w := by
  unfold execOp
  simp [ho, hx, hy, eqGuard, binOp, Op.intCmp, h]
theorem exec_leq (c : Bool) (ho : o.op = .binOp .leq t x y r) (hx : ρ x = .int k a) (hy : ρ y = .int k b) (h : decide (a ≤ b) = c) : (execOp ρ o).run Tryz.prog w = .ok (.value (.bool c)) w := by
  unfold execOp
  simp [ho, hx, hy, eqGuard, binOp, Op.intCmp, h]
theorem br (c : Bool) (ho : o.op = .binOp .lss t x y r) (hx : ρ x = .int k a) (hy : ρ y = .int k b) (h : decide (a < b) = c) : (execOp ρ o).run Tryz.prog w = .ok (.value (.bool c)) w := by
  unfold execOp
  simp [ho, hx, hy, eqGuard, binOp, Op.intCmp, h]
theorem ldU8 {ad : Addr} {n : Int} (h : w.cell? ad = some (.int .u8 n)) : (Instr.loadAt 5 (.pointer (some ad))).run Tryz.prog w = .ok (.int .u8 n) w := by simp [go_sem, h]
end
theorem bW {w : World} {ad : Addr} {k : Int} (h : w.cell? ad = some (.int .i64 k)) : (Instr.loadAt 3 (.pointer (some ad))).run Tryz.prog w = .ok (.int .i64 k) w := by simp [go_sem, h]
theorem bR {w : World} {ad : Addr} {k : Int} (h : w.cell? ad = some (.int .u64 k)) : (Instr.loadAt 35 (.pointer (some ad))).run Tryz.prog w = .ok (.int .u64 k) w := by simp [go_sem, h]
theorem run_eqArr {t : TypeId} {n : Nat} (hu : Tryz.prog.underlying t = some (.array n 5)) (w : World) (a b : List UInt8) (ha : a.length = n) (hb : b.length = n) (d : Nat) : (Op.equalIn (d + 2) t (arr a) (arr b)).run Tryz.prog w = .ok (decide (a = b)) w := by
  have he : ∀ x y : Int, (Op.equalIn (d + 1) 5 (.int .u8 x) (.int .u8 y)).run Tryz.prog w = .ok (x == y) w := fun x y => run_equalIn_int w d 5 .u8 .u8 x y Tryz.underlying5
  have hp : ∀ (c : List UInt8) (i : Nat), i < c.length → (part 5 (vals c).toArray (i * 1)).run Tryz.prog w = .ok (.int .u8 (bt c i)) w := fun c i hi => by
    have := vals_at hi
    simp [part, this]
  show (Op.equalIn ((d + 1) + 1) t (arr a) (arr b)).run Tryz.prog w = .ok (decide (a = b)) w
  generalize d + 1 = e at *
  have key : ∀ (l : List Nat), (∀ i ∈ l, i < n) →
      ((forIn l ((none : Option Bool), ()) fun i r => do
        let x ← part 5 (vals a).toArray (i * 1)
        let y ← part 5 (vals b).toArray (i * 1)
        let z ← Op.equalIn e 5 x y
        if (!z) = true then pure (ForInStep.done (some false, ())) else pure (ForInStep.yield (none, ())) : Sem _)).run Tryz.prog w =
      .ok (if l.all (fun i => bt a i == bt b i) then (none, ()) else (some false, ())) w := by
    intro l
    induction l with
    | nil => intro _; simp
    | cons i l ih =>
      intro hl
      have hi := hl i (by simp)
      simp only [List.forIn_cons, Sem.run_bind, hp a i (by omega), hp b i (by omega), Result.andThen_ok, he]
      by_cases h : bt a i = bt b i
      · have hb : (bt a i == bt b i) = true := by simpa using h
        simp only [hb, Bool.not_true, Bool.false_eq_true, if_false, Sem.run_pure, Result.andThen_ok, List.all_cons, Bool.true_and]
        exact ih fun j hj => hl j (by simp [hj])
      · have hb : (bt a i == bt b i) = false := by simpa using h
        simp [hb]
  have hall : ((List.range' 0 n).all fun i => bt a i == bt b i) = decide (a = b) := by
    rw [Bool.eq_iff_iff, List.all_eq_true, decide_eq_true_iff]
    constructor
    · intro h
      exact e9 (by omega) fun j hj => by simpa using h j (by simp [List.mem_range']; omega)
    · rintro rfl i _
      simp
  have hk := key (List.range' 0 n) (fun i hi => by simp [List.mem_range'] at hi; omega)
  rw [hall] at hk
  simp only [Op.equalIn, arr, Sem.run_bind, run_underlying hu, Result.andThen_ok, Tryz.sizeOf5, Std.Legacy.Range.forIn_eq_forIn_range']
  simp only [Std.Legacy.Range.size, Nat.sub_zero, Nat.add_sub_cancel, Nat.div_one]
  rw [hk]
  by_cases h : a = b
  · simp [h]
  · simp [h]
theorem eqF_step {d : Nat} {xs ys : Array Value} {nm tg pk : String} {t : TypeId} {off bo : Nat} {em : Bool} {fs : List Field} {w : World} {u v : Value} {r : Bool} (hn : nm ≠ "_") (h1 : (part t xs off).run Tryz.prog w = .ok u w) (h2 : (part t ys off).run Tryz.prog w = .ok v w)
    (h3 : (Op.equalIn d t u v).run Tryz.prog w = .ok r w) : (Op.eqFields d xs ys (⟨nm, t, off, em, tg, pk, bo⟩ :: fs)).run Tryz.prog w = if r then (Op.eqFields d xs ys fs).run Tryz.prog w else .ok false w := by
  cases r
  · simp only [Op.eqFields, hn, ne_eq, not_false_eq_true, if_true, Sem.run_bind, h1, h2, h3, Result.andThen_ok, Bool.not_false, Sem.run_pure, Bool.false_eq_true, if_false]
  · simp only [Op.eqFields, hn, ne_eq, not_false_eq_true, if_true, Sem.run_bind, h1, h2, h3, Result.andThen_ok, Bool.not_true, Bool.false_eq_true, if_false]
theorem eqF_nil {d : Nat} {xs ys : Array Value} {w : World} : (Op.eqFields d xs ys []).run Tryz.prog w = .ok true w := by simp [Op.eqFields]
theorem d7 {w : World} {b : Nat} {t : TypeId} {cs : List Value} (h : w.heap[b]? = some (.cells cs.toArray t (0, 0))) : w.rangeAt b 0 cs := fun j v hj => by
  rw [cell_of_row w b (0 + j) _ t (0, 0) h, Nat.zero_add]
  simpa using hj
theorem rng_sub {w : World} {b o k : Nat} {cs ds es fs : List Value} (h : w.rangeAt b o cs) (e : cs = ds ++ (es ++ fs)) (hk : ds.length = k) : w.rangeAt b (o + k) es := fun j v hj => by
  subst e hk
  have := h (ds.length + j) v (by
    rw [List.getElem?_append_right (by omega), Nat.add_sub_cancel_left, List.getElem?_append_left (List.getElem?_eq_some_iff.1 hj).1]
    exact hj)
  rwa [← Nat.add_assoc] at this
theorem dI {w : World} {b : Nat} {t : TypeId} {cs : List Value} (h : w.heap[b]? = some (.cells cs.toArray t (0, 0))) {o n : Nat} (hn : o + n ≤ cs.length) : w.there b o n := fun j hj => by
  rw [cell_of_row w b (o + j) _ t (0, 0) h, frozen_of_row w b (o + j) _ t h]
  exact ⟨by simp; omega, rfl⟩
theorem eS {fn : Func} {p q u : Tmp} {t : TypeId} {cs : List Value} {d : TypeDesc} (h : fn.results = #[.tmp p, .cell q t, .tmp u]) (tmps : Array Value) (w : World) (b : Nat) (hq : tmps.getD q undef = .pointer (some ⟨b, 0, none⟩)) (hr : w.rangeAt b 0 cs) (hu : Tryz.prog.underlying t = some d) (hd : d.isRow = true) (hz : (Tryz.prog.info? t).map (·.size) = some cs.length) :
    (results fn tmps).run Tryz.prog w = .ok (.tuple #[tmps.getD p undef, .agg cs.toArray, tmps.getD u undef]) w := by
  have hl : (loadVar t ⟨b, 0, none⟩).run Tryz.prog w = .ok (.agg cs.toArray) w := run_loadVar_mid (P := Tryz.prog) w b 0 t cs d hr hu hd hz
  have hq' : tmps[q]?.getD undef = .pointer (some ⟨b, 0, none⟩) := by simpa using hq
  simp [results, h, hq', asAddr, hl]
theorem res_rng {fn : Func} {p : Tmp} {t : TypeId} {cs : List Value} {d : TypeDesc} (h0 : fn.results = #[.cell p t]) (tmps : Array Value) (w : World) (b : Nat) (hp : tmps.getD p undef = .pointer (some ⟨b, 0, none⟩)) (hr : w.rangeAt b 0 cs) (hu : Tryz.prog.underlying t = some d) (hd : d.isRow = true) (hz : (Tryz.prog.info? t).map (·.size) = some cs.length) :
    (results fn tmps).run Tryz.prog w = .ok (.agg cs.toArray) w := by
  have hl : (loadVar t ⟨b, 0, none⟩).run Tryz.prog w = .ok (.agg cs.toArray) w := run_loadVar_mid (P := Tryz.prog) w b 0 t cs d hr hu hd hz
  have hp' : tmps[p]?.getD undef = .pointer (some ⟨b, 0, none⟩) := by simpa using hp
  simp [results, h0, hp', asAddr, hl]
theorem grown_set (w : World) (b o : Nat) (y : Value) : w.grownBy (w.setCell ⟨b, o, none⟩ y) (some b) :=
  ⟨rfl, rfl, rfl, by simp [World.setCell], fun k hk hne => heap_setCell_other w ⟨b, o, none⟩ k y (fun e => hne (by rw [e]))⟩
theorem eJ {w w' : World} {b k : Nat} {o : Obj} (h : w.heap[b]? = some o) (hg : w.grownBy w' (some k)) (hne : b ≠ k) : w'.heap[b]? = some o := (hg.block b (aV h) (fun e => hne (by injection e))).trans h
open Go.RowKit
set_option maxRecDepth 100000
set_option linter.unusedVariables false
theorem max_u32 : IntKind.u32.max = 4294967295 := by decide
theorem neg_bits (r : Nat) (h : r < 4294967296) : bits .xor .u32 IntKind.u32.max (r : Int) = ((neg r : Nat) : Int) := by
  rw [max_u32]
  exact u32_xor_nat 4294967295 r (by omega) h
theorem run_snoc (r : Nat) (l : List UInt8) {k : Nat} (h : k < l.length) : tak (run r (l.take k)) l[k].toNat = run r (l.take (k + 1)) := by
  rw [List.take_succ_eq_append_getElem h, run_append]
  rfl
set_option maxHeartbeats 400000 in
theorem more_any (s : Nat) (A : Option Addr) (n c N : Nat) (b : List UInt8) (w : World) (T : Tab w) (hs : s < 4294967296) (hb : Rd w N A n b) (hn : n ≤ maxLen) :
    Calls Tryz.prog 124 #[.int .u32 s, .slice A n c] w fun e w' => e = .returned (.int .u32 (more s b)) ∧ w = w' := by
  have hnb := neg_bits s hs
  have hnl := neg_lt hs
  have hlen := hb.1
  unfold maxLen at hn
  have HL := Lib.hid hlen
  clear hlen
  go_enter Tryz.func124, Tryz.ntmps124
  go_wp2
  clear hnb
  have HM : Hid (more s b = neg (run (neg s) b)) := Lib.hid rfl
  generalize neg s = r0 at *
  go_loop [5, 12] (fun x i => ∃ j : Nat, j ≤ n ∧ i = .int .i64 j ∧ x = .int .u32 (run r0 (b.take j))) (fun _ i => n - (intOf i).toNat)
  case atStart => exact ⟨0, by omega, rfl, rfl⟩
  case round =>
    obtain ⟨j, hj, rfl, rfl⟩ := hrel
    by_cases hlt : j < n
    · obtain ⟨bA, oA, rfl, hA, cA⟩ := hb.2 j hlt
      have hjl : j < b.length := by have := HL.out; omega
      rw [bt_get hjl] at cA
      have HS := Lib.hid (run_snoc r0 b hjl)
      have hu := UInt8.toNat_lt b[j]
      generalize b[j].toNat = u at *
      have hrl := run_lt hnl (b.take j)
      go_wp2_with fail
      refine (take_any (run r0 (b.take j)) u _ T hrl hu).mono ?_
      rintro e w' ⟨rfl, rfl⟩
      go_wp2
      go_round
      case rel => exact ⟨j + 1, by omega, by go_num, by rw [HS.out]⟩
      case measure => simp [intOf]; omega
    · have h : j = n := by omega
      subst h
      have ht : b.take j = b := List.take_of_length_le (Nat.le_of_eq HL.out)
      rw [ht]
      have hrl := run_lt hnl b
      have hnb := neg_bits (run r0 b) hrl
      clear ht
      go_wp2
      go_ret
      exact ⟨aQ (by first | rw [HM.out] | rw [HM.out, hnb]), rfl⟩
theorem of_any (A : Option Addr) (n c N : Nat) (b : List UInt8) (w : World) (T : Tab w) (hb : Rd w N A n b) (hn : n ≤ maxLen) :
    Calls Tryz.prog 123 #[.slice A n c] w fun e w' => e = .returned (.int .u32 (more 0 b)) ∧ w = w' := by
  go_enter Tryz.func123, Tryz.ntmps123
  go_wp2_with fail
  refine (more_any 0 A n c N b _ T (by omega) hb hn).mono ?_
  rintro e w' ⟨rfl, rfl⟩
  go_wp2
  go_ret
  exact ⟨rfl, rfl⟩
end Go.Proofs.YtcafafdimcecpaaGreatDoor
