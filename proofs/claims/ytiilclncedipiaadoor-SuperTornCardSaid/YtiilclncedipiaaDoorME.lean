/-
  Superblocks as plain values, no program: which may be, their bytes, what is read of a sector, which one is the newest, what a torn one comes to.
  Rosters, superblocks, geometries and arrays of bytes by value: their cells; how they are read, laid, boxed, compared, answered.
  Rosters and superblocks compared; in memory.
  Rosters and superblocks compared, by one operation; in memory.
  Superblocks that came in.
  The program's: which geometry, which states, which roster, which superblock, which event may be.
  The program's: mayStates, mayRoster, May.
  The program's: bytes that are cut piece by piece (onward), numbers laid into them, numbers told of them.
-/
import Derived.Test.YtiilclncedipiaaDoorMB
import Derived.Test.YtiilclncedipiaaDoorMD
import Derived.Deep.DeepCutAuto
import Derived.Test.YtiilclncedipiaaDoorMC
namespace Go.Proofs.YtiilclncedipiaaDoor
open Go.RowKit
set_option linter.unusedVariables false

/-- A roster. -/
structure Ros where
  m : Int
  s : Int
  r : Int
  st : Vector UInt8 16
  cur : Int
  gone : Bool
deriving DecidableEq
/-- A superblock. -/
structure Sup where
  id : Nat
  self : Int
  ros : Ros
deriving DecidableEq
def zeroR : Ros := ⟨0, 0, 0, Vector.replicate 16 0, 0, false⟩
def zeroS : Sup := ⟨0, 0, zeroR⟩
/-- State number j. -/
def sta (x : Ros) (j : Nat) : Int := bt x.st.toList j
theorem sta_lo (x : Ros) (j : Nat) : 0 ≤ sta x j := bt_lo _ _
theorem sta_hi (x : Ros) (j : Nat) : sta x j ≤ 255 := bt_hi _ _
/-- How many of the first k heal. -/
def healK (l : List UInt8) : Nat → Nat
  | 0 => 0
  | k + 1 => healK l k + (if bt l k = 2 then 1 else 0)
def heals (x : Ros) : Nat := healK x.st.toList 16
theorem healK_le (l : List UInt8) (k : Nat) : healK l k ≤ k := by
  induction k with
  | zero => exact Nat.le_refl _
  | succ k ih => unfold healK; split <;> omega
/-- May a geometry be? -/
def geoB (x : Ros) : Bool := decide (3 ≤ x.m ∧ x.m ≤ 16 ∧ 1 ≤ x.s ∧ x.s ≤ 64 ∧ 40 ≤ x.r ∧ x.r ≤ 256)
/-- May the states be? -/
def staB (x : Ros) : Bool := (List.range 16).all fun j => decide (sta x j ≤ 2) && (!decide (x.m ≤ (j : Int)) || decide (sta x j = 0))
theorem staB_iff {x : Ros} : staB x = true ↔ ((∀ j, j < 16 → sta x j ≤ 2) ∧ (∀ j : Nat, j < 16 → x.m ≤ (j : Int) → sta x j = 0)) := by
  unfold staB
  simp only [List.all_eq_true, List.mem_range, Bool.and_eq_true, decide_eq_true_eq, Bool.or_eq_true, Bool.not_eq_true', decide_eq_false_iff_not]
  constructor
  · exact fun h => ⟨fun j hj => (h j hj).1, fun j hj hm => (h j hj).2.elim (fun h2 => absurd hm h2) id⟩
  · rintro ⟨h1, h2⟩ j hj
    refine ⟨h1 j hj, ?_⟩
    by_cases hm : x.m ≤ (j : Int)
    · exact .inr (h2 j hj hm)
    · exact .inl hm
/-- May a roster be? -/
def fineB (x : Ros) : Bool := geoB x && staB x && decide (heals x ≤ 1) && decide (0 ≤ x.cur ∧ x.cur < x.s ∧ (heals x = 1 ∨ x.cur = 0))
/-- May a superblock be? -/
def supB (x : Sup) : Bool := decide (x.id ≠ 0) && fineB x.ros && decide (0 ≤ x.self ∧ x.self < x.ros.m)
/-- May an event be? -/
def evB (n : Nat) : Bool := decide (1 ≤ n ∧ n ≤ 4611686018427387904)
theorem of_evB {n : Nat} (h : evB n = true) : 1 ≤ n ∧ n ≤ 4611686018427387904 := of_decide_eq_true h
theorem of_geoB {x : Ros} (h : geoB x = true) : 3 ≤ x.m ∧ x.m ≤ 16 ∧ 1 ≤ x.s ∧ x.s ≤ 64 ∧ 40 ≤ x.r ∧ x.r ≤ 256 := of_decide_eq_true h
theorem of_staB {x : Ros} (h : staB x = true) : (∀ j, j < 16 → sta x j ≤ 2) ∧ (∀ j : Nat, j < 16 → x.m ≤ (j : Int) → sta x j = 0) := staB_iff.1 h
theorem of_fineB {x : Ros} (h : fineB x = true) : geoB x = true ∧ staB x = true ∧ heals x ≤ 1 ∧ 0 ≤ x.cur ∧ x.cur < x.s ∧ (heals x = 1 ∨ x.cur = 0) := by
  unfold fineB at h
  simp only [Bool.and_eq_true, decide_eq_true_eq] at h
  exact ⟨h.1.1.1, h.1.1.2, h.1.2, h.2⟩
theorem of_supB {x : Sup} (h : supB x = true) : x.id ≠ 0 ∧ fineB x.ros = true ∧ 0 ≤ x.self ∧ x.self < x.ros.m := by
  unfold supB at h
  simp only [Bool.and_eq_true, decide_eq_true_eq] at h
  exact ⟨h.1.1, h.1.2, h.2⟩
theorem sup_zero_no : supB zeroS = false := by decide +kernel

/-! Bytes. -/
def goneN (b : Bool) : Nat := if b then 1 else 0
/-- A superblock's bytes. -/
def bodyL (x : Sup) : List UInt8 :=
  digL 8 8 x.id ++ (digL 8 1 x.ros.m.toNat ++ (digL 8 2 x.ros.s.toNat ++ (digL 8 2 x.ros.r.toNat ++ (digL 8 1 x.self.toNat ++ (digL 8 4 (val 2 x.ros.st.toList) ++ (digL 8 2 x.ros.cur.toNat ++ digL 8 1 (goneN x.ros.gone)))))))
theorem bodyL_length (x : Sup) : (bodyL x).length = 21 := by simp [bodyL, length_digL]
/-- Its bytes with 0s behind them. -/
def fullL (x : Sup) : List UInt8 := padL (bodyL x)
theorem fullL_length (x : Sup) : (fullL x).length = 44 := padL_length (by rw [bodyL_length]; omega)
theorem padL_full {b : List UInt8} (h : b.length = 44) : padL b = b := by simp [padL, h]
theorem headL_pad {b : List UInt8} (n : Nat) (h : b.length ≤ 44) : headL n (padL b) = headL n b := by unfold headL; rw [padL_full (padL_length h)]
theorem sealL_pad {b : List UInt8} (n : Nat) (h : b.length ≤ 44) : sealL n (padL b) = sealL n b := by unfold sealL; rw [headL_pad n h]
theorem putE_full (n : Nat) (x : Sup) : putE n (fullL x) = putE n (bodyL x) := by
  unfold putE; rw [fullL_length, bodyL_length]; simp
theorem putB_full (n : Nat) (x : Sup) : putB n (fullL x) = putB n (bodyL x) := by
  unfold putB; rw [putE_full]; unfold fullL; rw [sealL_pad n (by rw [bodyL_length]; omega)]

/-! 16 states as a list. -/
def ofSt (l : List UInt8) : Vector UInt8 16 := Vector.ofFn fun i => l.getD i.val 0
theorem toList_ofSt {l : List UInt8} (h : l.length = 16) : (ofSt l).toList = l := by
  refine eq_of_bt (by simp [h]) fun k hk => ?_
  have hk' : k < 16 := by simpa using hk
  rw [bt_get hk, bt_get (l := l) (by omega)]
  simp [ofSt, List.getD, List.getElem?_eq_getElem (show k < l.length by omega)]
theorem ofSt_toList (v : Vector UInt8 16) : ofSt v.toList = v := by
  apply Vector.ext
  intro i hi
  simp [ofSt, List.getD]
theorem stL_length (v : Vector UInt8 16) : v.toList.length = 16 := by simp
/-- What is told of a body. -/
def toldS (l : List UInt8) : Sup :=
  ⟨val 8 (piece l 0 8), (val 8 (piece l 13 1) : Nat), ⟨(val 8 (piece l 8 1) : Nat), (val 8 (piece l 9 2) : Nat), (val 8 (piece l 11 2) : Nat), ofSt (digL 2 16 (val 8 (piece l 14 4))), (val 8 (piece l 18 2) : Nat), decide (val 8 (piece l 20 1) = 1)⟩⟩
theorem val_dig {k n : Nat} (h : n < 2 ^ (8 * k)) : val 8 (digL 8 k n) = n := by rw [val_digL (by omega), Nat.mod_eq_of_lt h]
theorem st_small {x : Ros} (h : staB x = true) : ∀ u ∈ x.st.toList, u.toNat < 2 ^ 2 := by
  intro u hu
  obtain ⟨j, hj, rfl⟩ := List.getElem_of_mem hu
  have h2 := (of_staB h).1 j (by simpa using hj)
  unfold sta at h2
  rw [bt_get hj] at h2
  omega
theorem sta_val {x : Ros} (h : staB x = true) : val 2 x.st.toList < 2 ^ 32 := by
  have := val_lt (st_small h)
  simpa using this
section
variable (x : Sup)
private theorem pc (a b c : List UInt8) {p k : Nat} (h : fullL x = a ++ (b ++ c)) (hp : a.length = p) (hk : b.length = k) : piece (fullL x) p k = b := by rw [h]; exact piece_mid _ _ _ hp hk
theorem full_0 : piece (fullL x) 0 8 = digL 8 8 x.id := by
  unfold fullL padL bodyL
  rw [List.append_assoc]
  exact piece_head _ _ (length_digL _ _ _)
theorem full_8 : piece (fullL x) 8 1 = digL 8 1 x.ros.m.toNat :=
  pc x (digL 8 8 x.id) _ _ (by unfold fullL padL bodyL; simp only [List.append_assoc]; rfl) (by simp [length_digL]) (by simp [length_digL])
theorem full_9 : piece (fullL x) 9 2 = digL 8 2 x.ros.s.toNat :=
  pc x (digL 8 8 x.id ++ digL 8 1 x.ros.m.toNat) _ _ (by unfold fullL padL bodyL; simp only [List.append_assoc]; rfl) (by simp [length_digL]) (by simp [length_digL])
theorem full_11 : piece (fullL x) 11 2 = digL 8 2 x.ros.r.toNat :=
  pc x (digL 8 8 x.id ++ digL 8 1 x.ros.m.toNat ++ digL 8 2 x.ros.s.toNat) _ _ (by unfold fullL padL bodyL; simp only [List.append_assoc]; rfl) (by simp [length_digL]) (by simp [length_digL])
theorem full_13 : piece (fullL x) 13 1 = digL 8 1 x.self.toNat :=
  pc x (digL 8 8 x.id ++ digL 8 1 x.ros.m.toNat ++ digL 8 2 x.ros.s.toNat ++ digL 8 2 x.ros.r.toNat) _ _ (by unfold fullL padL bodyL; simp only [List.append_assoc]; rfl) (by simp [length_digL]) (by simp [length_digL])
theorem full_14 : piece (fullL x) 14 4 = digL 8 4 (val 2 x.ros.st.toList) :=
  pc x (digL 8 8 x.id ++ digL 8 1 x.ros.m.toNat ++ digL 8 2 x.ros.s.toNat ++ digL 8 2 x.ros.r.toNat ++ digL 8 1 x.self.toNat) _ _ (by unfold fullL padL bodyL; simp only [List.append_assoc]; rfl) (by simp [length_digL]) (by simp [length_digL])
theorem full_18 : piece (fullL x) 18 2 = digL 8 2 x.ros.cur.toNat :=
  pc x (digL 8 8 x.id ++ digL 8 1 x.ros.m.toNat ++ digL 8 2 x.ros.s.toNat ++ digL 8 2 x.ros.r.toNat ++ digL 8 1 x.self.toNat ++ digL 8 4 (val 2 x.ros.st.toList)) _ _ (by unfold fullL padL bodyL; simp only [List.append_assoc]; rfl) (by simp [length_digL]) (by simp [length_digL])
theorem full_20 : piece (fullL x) 20 1 = digL 8 1 (goneN x.ros.gone) :=
  pc x (digL 8 8 x.id ++ digL 8 1 x.ros.m.toNat ++ digL 8 2 x.ros.s.toNat ++ digL 8 2 x.ros.r.toNat ++ digL 8 1 x.self.toNat ++ digL 8 4 (val 2 x.ros.st.toList) ++ digL 8 2 x.ros.cur.toNat) _ _ (by unfold fullL padL bodyL; simp only [List.append_assoc]; rfl) (by simp [length_digL]) (by simp [length_digL])
end
/-- What is laid is told. -/
theorem told_full {x : Sup} (hid : x.id < 18446744073709551616) (h : supB x = true) : toldS (fullL x) = x := by
  obtain ⟨_, hf, h1, h2⟩ := of_supB h
  obtain ⟨hg, hs, _, h3, h4, _⟩ := of_fineB hf
  obtain ⟨g1, g2, g3, g4, g5, g6⟩ := of_geoB hg
  obtain ⟨id, self, m, s, r, st, cur, gone⟩ := x
  simp only at *
  unfold toldS
  rw [full_0, full_8, full_9, full_11, full_13, full_14, full_18, full_20]
  simp only
  have hv := sta_val hs
  simp only at hv
  rw [val_dig (k := 8) (by omega), val_dig (k := 1) (n := self.toNat) (by omega), val_dig (k := 1) (n := m.toNat) (by omega), val_dig (k := 2) (n := s.toNat) (by omega), val_dig (k := 2) (n := r.toNat) (by omega), val_dig (k := 4) (by omega), val_dig (k := 2) (n := cur.toNat) (by omega), val_dig (k := 1) (n := goneN gone) (by unfold goneN; split <;> omega)]
  have hd : digL 2 16 (val 2 st.toList) = st.toList := by
    have := digL_val (st_small hs)
    simpa using this
  rw [hd, ofSt_toList]
  have e1 : ((self.toNat : Nat) : Int) = self := by omega
  have e2 : ((m.toNat : Nat) : Int) = m := by omega
  have e3 : ((s.toNat : Nat) : Int) = s := by omega
  have e4 : ((r.toNat : Nat) : Int) = r := by omega
  have e5 : ((cur.toNat : Nat) : Int) = cur := by omega
  have e6 : decide (goneN gone = 1) = gone := by cases gone <;> rfl
  rw [e1, e2, e3, e4, e5, e6]

/-! A sealed sector is that of its number and its body. -/
theorem piece_cat (l : List UInt8) (p a b : Nat) : piece l p a ++ piece l (p + a) b = piece l p (a + b) := by
  unfold piece
  rw [List.take_add, List.drop_drop]
theorem dig_piece {l : List UInt8} {p k : Nat} (h : p + k ≤ l.length) : digL 8 k (val 8 (piece l p k)) = piece l p k := by
  have := digL_val (all_256 (piece l p k))
  rwa [length_piece h] at this
theorem seal_back {l : List UInt8} (hl : l.length = 64) (h : getE l = 0) : sealL (numO l) (piece l 8 44) = l := by
  obtain ⟨_, h1, h2⟩ := of_getE h
  have e1 : digL 8 8 (numO l) = piece l 0 8 := dig_piece (by omega)
  have e2 : headL (numO l) (piece l 8 44) = piece l 0 52 := by
    unfold headL
    rw [e1, padL_full (length_piece (by omega))]
    exact piece_cat l 0 8 44
  have e3 : digL 8 4 (more 0 (piece l 0 52)) = piece l 52 4 := by
    have : more 0 (piece l 0 52) = val 8 (piece l 52 4) := h2.symm
    rw [this]
    exact dig_piece (by omega)
  have e4 : digL 8 8 (numO l) = piece l 56 8 := by rw [h1]; exact dig_piece (by omega)
  unfold sealL
  rw [e2, e3, e4, piece_cat l 52 4 8, piece_cat l 0 52 12]
  unfold piece
  rw [List.drop_zero, List.take_of_length_le (by omega)]

/-! Put. -/
def sputE (n : Nat) (x : Sup) : Nat := if evB n = true ∧ supB x = true then 0 else 2
def sputB (n : Nat) (x : Sup) : Blk := if evB n = true ∧ supB x = true then putB n (bodyL x) else zeroB
theorem sputE_ok {n : Nat} {x : Sup} (h : evB n = true) (h' : supB x = true) : sputE n x = 0 := if_pos ⟨h, h'⟩
theorem sputB_ok {n : Nat} {x : Sup} (h : evB n = true) (h' : supB x = true) : sputB n x = putB n (bodyL x) := if_pos ⟨h, h'⟩
theorem sputE_no {n : Nat} {x : Sup} (h : ¬ (evB n = true ∧ supB x = true)) : sputE n x = 2 := if_neg h
theorem sputB_no {n : Nat} {x : Sup} (h : ¬ (evB n = true ∧ supB x = true)) : sputB n x = zeroB := if_neg h
theorem of_sputE {n : Nat} {x : Sup} (h : sputE n x = 0) : evB n = true ∧ supB x = true := by
  unfold sputE at h
  split at h
  · assumption
  · omega
theorem body_putE {n : Nat} (x : Sup) (h : evB n = true) : putE n (bodyL x) = 0 := putE_ok (by have := of_evB h; omega) (by rw [bodyL_length]; omega)

/-! Get. -/
def gsE (b : Blk) : Nat := if getE b.toList ≠ 0 then getE b.toList else if evB (getN b.toList) = true ∧ supB (toldS (getB b.toList)) = true ∧ fullL (toldS (getB b.toList)) = getB b.toList then 0 else 5
def gsN (b : Blk) : Nat := if gsE b = 0 then getN b.toList else 0
def gsS (b : Blk) : Sup := if gsE b = 0 then toldS (getB b.toList) else zeroS
theorem gsE_seal {b : Blk} (h : getE b.toList ≠ 0) : gsE b = getE b.toList := if_pos h
theorem gsE_form {b : Blk} (h : getE b.toList = 0) (h' : ¬ (evB (getN b.toList) = true ∧ supB (toldS (getB b.toList)) = true ∧ fullL (toldS (getB b.toList)) = getB b.toList)) : gsE b = 5 := by
  unfold gsE; rw [if_neg (by omega), if_neg h']
theorem gsE_ok {b : Blk} (h : getE b.toList = 0) (h' : evB (getN b.toList) = true ∧ supB (toldS (getB b.toList)) = true ∧ fullL (toldS (getB b.toList)) = getB b.toList) : gsE b = 0 := by
  unfold gsE; rw [if_neg (by omega), if_pos h']
theorem of_gsE {b : Blk} (h : gsE b = 0) : getE b.toList = 0 ∧ evB (getN b.toList) = true ∧ supB (toldS (getB b.toList)) = true ∧ fullL (toldS (getB b.toList)) = getB b.toList := by
  unfold gsE at h
  split at h
  · omega
  · rename_i h0
    split at h
    · rename_i h1; exact ⟨by omega, h1⟩
    · omega
theorem gsN_of {b : Blk} (h : gsE b = 0) : gsN b = getN b.toList := if_pos h
theorem gsN_no {b : Blk} (h : gsE b ≠ 0) : gsN b = 0 := if_neg h
theorem gsS_of {b : Blk} (h : gsE b = 0) : gsS b = toldS (getB b.toList) := if_pos h
theorem gsS_no {b : Blk} (h : gsE b ≠ 0) : gsS b = zeroS := if_neg h
theorem gsN_zero {b : Blk} : gsN b = 0 ↔ gsE b ≠ 0 := by
  constructor
  · intro h e
    have := of_evB (of_gsE e).2.1
    rw [gsN_of e] at h
    omega
  · exact gsN_no
theorem gsN_le (b : Blk) : gsN b ≤ 4611686018427387904 := by
  unfold gsN
  split
  · rename_i h; exact (of_evB (of_gsE h).2.1).2
  · omega
theorem getN_lt64 (b : Blk) : getN b.toList < 18446744073709551616 := getN_lt (by simp)
theorem getB_len {b : Blk} (h : getE b.toList = 0) : (getB b.toList).length = 44 := by rw [getB_of h]; exact length_piece (by simp)
theorem told_id_lt {l : List UInt8} (h : 8 ≤ l.length) : (toldS l).id < 18446744073709551616 := val_piece_lt (b := l) (p := 0) (k := 8) (by omega)
/-- A sector is that of its number and body. -/
theorem blk_back {b : Blk} (h : getE b.toList = 0) : ofL (sealL (getN b.toList) (getB b.toList)) = b := by
  rw [getN_of h, getB_of h, seal_back (by simp) h, ofL_toList]
/-- It is the sector of what it tells, just if the bytes are those. -/
theorem put_same {b : Blk} (h : getE b.toList = 0) (hn : evB (getN b.toList) = true) (x : Sup) : putB (getN b.toList) (bodyL x) = b ↔ fullL x = getB b.toList := by
  have hp := body_putE (n := getN b.toList) x hn
  constructor
  · intro e
    have h2 := put_getB (getN_lt64 b) hp
    rw [e] at h2
    exact h2.symm
  · intro e
    rw [putB_ok hp, ← sealL_pad _ (by rw [bodyL_length]; omega)]
    have : padL (bodyL x) = getB b.toList := e
    rw [this]
    exact blk_back h
/-- What is put is got. -/
theorem sput_get {n : Nat} {x : Sup} (hid : x.id < 18446744073709551616) (h : sputE n x = 0) : gsE (sputB n x) = 0 ∧ gsN (sputB n x) = n ∧ gsS (sputB n x) = x := by
  obtain ⟨h1, h2⟩ := of_sputE h
  have hn : n < 18446744073709551616 := by have := of_evB h1; omega
  have hp := body_putE x h1
  have e1 := put_getE hn hp
  have e2 := put_getN hn hp
  have e3 := put_getB hn hp
  rw [sputB_ok h1 h2]
  have e4 : toldS (getB (putB n (bodyL x)).toList) = x := by rw [e3]; exact told_full hid h2
  have hE : gsE (putB n (bodyL x)) = 0 := gsE_ok e1 ⟨by rw [e2]; exact h1, by rw [e4]; exact h2, by rw [e4, e3]; rfl⟩
  exact ⟨hE, by rw [gsN_of hE, e2], by rw [gsS_of hE, e4]⟩
/-- What is got is put as the same sector. -/
theorem sget_put {b : Blk} (h : gsE b = 0) : sputE (gsN b) (gsS b) = 0 ∧ sputB (gsN b) (gsS b) = b ∧ supB (gsS b) = true ∧ (gsS b).id < 18446744073709551616 := by
  obtain ⟨h1, h2, h3, h4⟩ := of_gsE h
  rw [gsN_of h, gsS_of h]
  exact ⟨sputE_ok h2 h3, by rw [sputB_ok h2 h3]; exact (put_same h1 h2 _).2 h4, h3, told_id_lt (by rw [getB_len h1]; omega)⟩
theorem gsS_id_lt (b : Blk) : (gsS b).id < 18446744073709551616 := by
  by_cases h : gsE b = 0
  · exact (sget_put h).2.2.2
  · rw [gsS_no h]; decide
theorem gs_zero : gsE zeroB = 5 := by rw [gsE_seal (by rw [zero_getE]; omega), zero_getE]

/-! Which one is the newest. -/
def nwE (a b : Blk) : Nat := if gsN a = 0 ∧ gsN b = 0 then 7 else 0
def nwN (a b : Blk) : Nat := if gsN a < gsN b then gsN b else gsN a
def nwS (a b : Blk) : Sup := if gsN a < gsN b then gsS b else gsS a
def sloT (a b : Blk) : Nat := if gsN a ≠ 0 ∧ ¬ gsN a < gsN b then 1 else 0
/-- What a torn superblock's sector comes to. -/
theorem storn_law {n o : Nat} {x y : Sup} (hx : x.id < 18446744073709551616) (hy : y.id < 18446744073709551616) (hn : sputE n x = 0) (ho : sputE o y = 0) (hne : n ≠ o) (t : Int) {d : Blk} (hd : torn (sputB o y) (sputB n x) t = d) :
    (d = sputB n x ∧ 0 < t) ∨ (d = sputB o y ∧ t < 64) ∨ (gsE d ≠ 0 ∧ t < 64) := by
  obtain ⟨a1, a2⟩ := of_sputE hn
  obtain ⟨b1, b2⟩ := of_sputE ho
  have hnl : n < 18446744073709551616 := by have := of_evB a1; omega
  have hol : o < 18446744073709551616 := by have := of_evB b1; omega
  have pn := body_putE x a1
  have po := body_putE y b1
  rw [sputB_ok a1 a2, sputB_ok b1 b2] at *
  have en := of_getE (put_getE hnl pn)
  have eo := of_getE (put_getE hol po)
  have nn : numO (putB n (bodyL x)).toList = n := by rw [← getN_of (put_getE hnl pn)]; exact put_getN hnl pn
  have no : numO (putB o (bodyL y)).toList = o := by rw [← getN_of (put_getE hol po)]; exact put_getN hol po
  have hdiff : putB n (bodyL x) ≠ putB o (bodyL y) := fun e => by rw [e, no] at nn; omega
  by_cases ht : 64 ≤ t
  · left
    refine ⟨?_, by omega⟩
    rw [← hd]
    apply blk_ext
    intro j hj
    rw [torn_byt _ _ _ hj, if_pos (by omega)]
  · by_cases ht0 : t ≤ 0
    · right; left
      refine ⟨?_, by omega⟩
      rw [← hd]
      apply blk_ext
      intro j hj
      rw [torn_byt _ _ _ hj, if_neg (by omega)]
    · by_cases hg : gsE d = 0
      · have hdd := (of_getE (of_gsE hg).1).2.1
        rw [← hd] at hdd
        rcases torn_whole (n := t) en.2.1 eo.2.1 (by rw [nn, no]; exact hne) hdd with h | h
        · exact .inl ⟨by rw [← hd, h], by omega⟩
        · exact .inr (.inl ⟨by rw [← hd, h], by omega⟩)
      · exact .inr (.inr ⟨hg, by omega⟩)
end Go.Proofs.YtiilclncedipiaaDoor
namespace Go.Proofs.YtiilclncedipiaaDoor
open Go.RowKit
set_option linter.unusedVariables false
set_option maxRecDepth 100000

def celG (x : Ros) : List Value := [.int .i64 x.m, .int .i64 x.s, .int .i64 x.r]
def celR (x : Ros) : List Value := .int .i64 x.m :: .int .i64 x.s :: .int .i64 x.r :: (vals x.st.toList ++ [.int .i64 x.cur, .bool x.gone])
def celS (x : Sup) : List Value := .int .u64 x.id :: .int .i64 x.self :: celR x.ros
def ros (x : Ros) : Value := .agg (celR x).toArray
def sup (x : Sup) : Value := .agg (celS x).toArray
def geo (x : Ros) : Value := .agg (celG x).toArray
/-- Bytes as an array's value. -/
def arr (l : List UInt8) : Value := .agg (vals l).toArray
/-- A body that is all 0. -/
def z44 : List UInt8 := List.replicate 44 0
theorem z44_pad : z44 = padL [] := rfl
theorem z44_length : z44.length = 44 := rfl
theorem celR_length (x : Ros) : (celR x).length = 21 := by simp [celR, vals_length]
theorem celS_length (x : Sup) : (celS x).length = 23 := by simp [celS, celR_length]
theorem celR_one (x : Ros) : ∀ v ∈ celR x, v.oneCell' = true := by
  intro v hv
  simp only [celR, List.mem_cons, List.mem_append, List.not_mem_nil, or_false] at hv
  rcases hv with rfl | rfl | rfl | hv | rfl | rfl
  · rfl
  · rfl
  · rfl
  · exact vals_one _ v hv
  · rfl
  · rfl
theorem celS_one (x : Sup) : ∀ v ∈ celS x, v.oneCell' = true := by
  intro v hv
  simp only [celS, List.mem_cons] at hv
  rcases hv with rfl | rfl | hv
  · rfl
  · rfl
  · exact celR_one _ v hv

theorem undS : ∃ fs, Tryd.prog.underlying 29 = some (.struct fs) := ⟨_, Tryd.underlying29⟩
theorem sizeS : (Tryd.prog.info? 29).map (·.size) = some 23 := by kernel_rfl
theorem sizeR : (Tryd.prog.info? 27).map (·.size) = some 21 := by kernel_rfl
theorem sizeG : (Tryd.prog.info? 24).map (·.size) = some 3 := by kernel_rfl
theorem size16 : (Tryd.prog.info? 25).map (·.size) = some 16 := by kernel_rfl
theorem size44 : (Tryd.prog.info? 52).map (·.size) = some 44 := by kernel_rfl
theorem zeroS_info : (Tryd.prog.info? 29).map (fun i => i.zero) = some (some (sup zeroS)) := by kernel_rfl
theorem zeroR_info : (Tryd.prog.info? 27).map (fun i => i.zero) = some (some (ros zeroR)) := by kernel_rfl
theorem zero16_info : (Tryd.prog.info? 25).map (fun i => i.zero) = some (some (arr (List.replicate 16 0))) := by kernel_rfl
theorem zero44_info : (Tryd.prog.info? 52).map (fun i => i.zero) = some (some (arr z44)) := by kernel_rfl

/-! ### What one operation does, whatever the type -/
section
variable {ρ : Operand → Value} {o : Oper} {x y : Operand} {w : World} {b off : Nat} {t : TypeId} {cs ds : List Value} {d : TypeDesc}
theorem exec_loadT (hu : Tryd.prog.underlying t = some d) (hd : d.isRow = true) (hz : (Tryd.prog.info? t).map (·.size) = some cs.length) (ho : o.op = .load t x) (hx : ρ x = .pointer (some ⟨b, off, none⟩)) (hc : w.rangeAt b off cs) :
    (execOp ρ o).run Tryd.prog w = .ok (.value (.agg cs.toArray)) w := exec_ld ho hx (run_loadAt_mid w b off t cs d hc hu hd hz)
theorem exec_boxT (ho : o.op = .box t x) (hx : ρ x = .agg cs.toArray) : (execOp ρ o).run Tryd.prog w = .ok (.value (.pointer (some ⟨w.heap.size, 0, none⟩))) (w.alloc (.cells cs.toArray t)) := by
  unfold execOp
  simp [ho, hx, Instr.box, newVar, newRow, Value.cells]
theorem run_zeroT {v : Value} (h : (Tryd.prog.info? t).map (fun i => i.zero) = some (some v)) (w : World) : (zeroValue t).run Tryd.prog w = .ok v w := by
  cases hq : Tryd.prog.info? t with
  | none => rw [hq] at h; cases h
  | some i =>
    rw [hq] at h
    simp only [Option.map_some, Option.some.injEq] at h
    simp [zeroValue, typeInfo, hq, h]
theorem exec_allocT (h : (Tryd.prog.info? t).map (fun i => i.zero) = some (some (.agg cs.toArray))) (ho : o.op = .alloc t) : (execOp ρ o).run Tryd.prog w = .ok (.value (.pointer (some ⟨w.heap.size, 0, none⟩))) (w.alloc (.cells cs.toArray t)) := by
  have hz := run_zeroT h w
  unfold execOp
  simp [ho, Instr.alloc, hz, newVar, newRow, Value.cells]
theorem exec_putT (hz : (Tryd.prog.info? t).map (·.size) = some cs.length) (h1 : ∀ v ∈ cs, v.oneCell' = true) (ho : o.op = .store t x y) (hx : ρ x = .pointer (some ⟨b, off, none⟩)) (hy : ρ y = .agg cs.toArray) (ht : w.there b off cs.length) :
    (execOp ρ o).run Tryd.prog w = .ok .skip (w.setCells b off cs) := by
  have h := run_storeAt_mid (P := Tryd.prog) w b off t cs.toArray (by simpa using ht) (by simpa using hz) (all_oneCell_toArray h1)
  refine exec_st ho hx hy ?_
  simpa using h
theorem exec_filT (hz : (Tryd.prog.info? t).map (·.size) = some cs.length) (he : ds.length = cs.length) (h1 : ∀ v ∈ cs, v.oneCell' = true) (ho : o.op = .store t x y) (hx : ρ x = .pointer (some ⟨w.heap.size, 0, none⟩)) (hy : ρ y = .agg cs.toArray) :
    (execOp ρ o).run Tryd.prog (w.alloc (.cells ds.toArray t)) = .ok .skip (w.alloc (.cells cs.toArray t)) :=
  exec_fillT (by simpa using hz) (by simpa using he) (by simpa using h1) ho hx hy
theorem exec_bld0 {v : Value} (ho : o.op = .build t #[]) (h : (Instr.build t #[]).run Tryd.prog w = .ok v w) : (execOp ρ o).run Tryd.prog w = .ok (.value v) w := by
  unfold execOp
  simp only [ho, List.map_toArray, List.map_nil, Sem.run_bind, h, Result.andThen_ok, Sem.run_pure]
theorem exec_eqT {r : TypeId} {xs ys : Array Value} {c : Bool} (hg : Tryd.prog.eqGuardType Tryd.prog.depth t = false) (he : (Op.equalIn 10000 t (.agg xs) (.agg ys)).run Tryd.prog w = .ok c w) (ho : o.op = .binOp .eql t x y r) (hx : ρ x = .agg xs) (hy : ρ y = .agg ys) :
    (execOp ρ o).run Tryd.prog w = .ok (.value (.bool c)) w := by
  have h := run_eql_struct (P := Tryd.prog) w t xs ys
  rw [he] at h
  unfold execOp
  simp only [ho, hx, hy, Sem.run_bind, run_eqGuard_agg w .eql t x y xs ys hg, Result.andThen_ok]
  rw [h]
  simp
theorem exec_neT {r : TypeId} {xs ys : Array Value} {c : Bool} (hg : Tryd.prog.eqGuardType Tryd.prog.depth t = false) (he : (Op.equalIn 10000 t (.agg xs) (.agg ys)).run Tryd.prog w = .ok c w) (ho : o.op = .binOp .neq t x y r) (hx : ρ x = .agg xs) (hy : ρ y = .agg ys) :
    (execOp ρ o).run Tryd.prog w = .ok (.value (.bool (!c))) w := by
  have h := run_neq_struct (P := Tryd.prog) w t xs ys
  rw [he] at h
  unfold execOp
  simp only [ho, hx, hy, Sem.run_bind, run_eqGuard_agg w .neq t x y xs ys hg, Result.andThen_ok]
  rw [h]
  simp
end

/-! ### The same, type by type -/
section
variable {ρ : Operand → Value} {o : Oper} {x y : Operand} {w : World} {b off : Nat}
theorem exec_loadS {c : Sup} (ho : o.op = .load 29 x) (hx : ρ x = .pointer (some ⟨b, off, none⟩)) (hc : w.rangeAt b off (celS c)) : (execOp ρ o).run Tryd.prog w = .ok (.value (sup c)) w :=
  exec_loadT Tryd.underlying29 rfl (by rw [celS_length]; exact sizeS) ho hx hc
theorem exec_loadR {c : Ros} (ho : o.op = .load 27 x) (hx : ρ x = .pointer (some ⟨b, off, none⟩)) (hc : w.rangeAt b off (celR c)) : (execOp ρ o).run Tryd.prog w = .ok (.value (ros c)) w :=
  exec_loadT Tryd.underlying27 rfl (by rw [celR_length]; exact sizeR) ho hx hc
theorem exec_loadG {c : Ros} (ho : o.op = .load 24 x) (hx : ρ x = .pointer (some ⟨b, off, none⟩)) (hc : w.rangeAt b off (celG c)) : (execOp ρ o).run Tryd.prog w = .ok (.value (geo c)) w :=
  exec_loadT Tryd.underlying24 rfl sizeG ho hx hc
theorem exec_load16 {l : List UInt8} (hl : l.length = 16) (ho : o.op = .load 25 x) (hx : ρ x = .pointer (some ⟨b, off, none⟩)) (hc : w.rangeAt b off (vals l)) : (execOp ρ o).run Tryd.prog w = .ok (.value (arr l)) w :=
  exec_loadT Tryd.underlying25 rfl (by rw [vals_length, hl]; exact size16) ho hx hc
theorem exec_load44 {l : List UInt8} (hl : l.length = 44) (ho : o.op = .load 52 x) (hx : ρ x = .pointer (some ⟨b, off, none⟩)) (hc : w.rangeAt b off (vals l)) : (execOp ρ o).run Tryd.prog w = .ok (.value (arr l)) w :=
  exec_loadT Tryd.underlying52 rfl (by rw [vals_length, hl]; exact size44) ho hx hc
theorem exec_boxS {c : Sup} (ho : o.op = .box 29 x) (hx : ρ x = sup c) : (execOp ρ o).run Tryd.prog w = .ok (.value (.pointer (some ⟨w.heap.size, 0, none⟩))) (w.alloc (.cells (celS c).toArray 29)) := exec_boxT ho hx
theorem exec_boxR {c : Ros} (ho : o.op = .box 27 x) (hx : ρ x = ros c) : (execOp ρ o).run Tryd.prog w = .ok (.value (.pointer (some ⟨w.heap.size, 0, none⟩))) (w.alloc (.cells (celR c).toArray 27)) := exec_boxT ho hx
theorem exec_allocS (ho : o.op = .alloc 29) : (execOp ρ o).run Tryd.prog w = .ok (.value (.pointer (some ⟨w.heap.size, 0, none⟩))) (w.alloc (.cells (celS zeroS).toArray 29)) := exec_allocT zeroS_info ho
theorem exec_allocR (ho : o.op = .alloc 27) : (execOp ρ o).run Tryd.prog w = .ok (.value (.pointer (some ⟨w.heap.size, 0, none⟩))) (w.alloc (.cells (celR zeroR).toArray 27)) := exec_allocT zeroR_info ho
theorem exec_alloc16 (ho : o.op = .alloc 25) : (execOp ρ o).run Tryd.prog w = .ok (.value (.pointer (some ⟨w.heap.size, 0, none⟩))) (w.alloc (.cells (vals (List.replicate 16 0)).toArray 25)) := exec_allocT zero16_info ho
theorem exec_alloc44 (ho : o.op = .alloc 52) : (execOp ρ o).run Tryd.prog w = .ok (.value (.pointer (some ⟨w.heap.size, 0, none⟩))) (w.alloc (.cells (vals z44).toArray 52)) := exec_allocT zero44_info ho
theorem exec_fillS {c d : Sup} (ho : o.op = .store 29 x y) (hx : ρ x = .pointer (some ⟨w.heap.size, 0, none⟩)) (hy : ρ y = sup c) : (execOp ρ o).run Tryd.prog (w.alloc (.cells (celS d).toArray 29)) = .ok .skip (w.alloc (.cells (celS c).toArray 29)) :=
  exec_filT (by rw [celS_length]; exact sizeS) (by rw [celS_length, celS_length]) (celS_one c) ho hx hy
theorem exec_fillR {c d : Ros} (ho : o.op = .store 27 x y) (hx : ρ x = .pointer (some ⟨w.heap.size, 0, none⟩)) (hy : ρ y = ros c) : (execOp ρ o).run Tryd.prog (w.alloc (.cells (celR d).toArray 27)) = .ok .skip (w.alloc (.cells (celR c).toArray 27)) :=
  exec_filT (by rw [celR_length]; exact sizeR) (by rw [celR_length, celR_length]) (celR_one c) ho hx hy
theorem exec_putS {c : Sup} (ho : o.op = .store 29 x y) (hx : ρ x = .pointer (some ⟨b, off, none⟩)) (hy : ρ y = sup c) (ht : w.there b off 23) : (execOp ρ o).run Tryd.prog w = .ok .skip (w.setCells b off (celS c)) :=
  exec_putT (by rw [celS_length]; exact sizeS) (celS_one c) ho hx hy (by rw [celS_length]; exact ht)
theorem exec_putG {c : Ros} (ho : o.op = .store 24 x y) (hx : ρ x = .pointer (some ⟨b, off, none⟩)) (hy : ρ y = geo c) (ht : w.there b off 3) : (execOp ρ o).run Tryd.prog w = .ok .skip (w.setCells b off (celG c)) :=
  exec_putT sizeG (by intro v hv; simp only [celG, List.mem_cons, List.not_mem_nil, or_false] at hv; rcases hv with rfl | rfl | rfl <;> rfl) ho hx hy ht
theorem run_bldS (w : World) : (Instr.build 29 #[]).run Tryd.prog w = .ok (sup zeroS) w := by kernel_rfl
theorem exec_bldS (ho : o.op = .build 29 #[]) : (execOp ρ o).run Tryd.prog w = .ok (.value (sup zeroS)) w := exec_bld0 ho (run_bldS w)
end

/-! ### Comparing -/
theorem run_eqArr {t : TypeId} {n : Nat} (hu : Tryd.prog.underlying t = some (.array n 5)) (w : World) (a b : List UInt8) (ha : a.length = n) (hb : b.length = n) (d : Nat) : (Op.equalIn (d + 2) t (arr a) (arr b)).run Tryd.prog w = .ok (decide (a = b)) w := by
  have he : ∀ x y : Int, (Op.equalIn (d + 1) 5 (.int .u8 x) (.int .u8 y)).run Tryd.prog w = .ok (x == y) w := fun x y => run_equalIn_int w d 5 .u8 .u8 x y Tryd.underlying5
  have hp : ∀ (c : List UInt8) (i : Nat), i < c.length → (part 5 (vals c).toArray (i * 1)).run Tryd.prog w = .ok (.int .u8 (bt c i)) w := fun c i hi => by
    have := vals_at hi
    simp [part, this]
  show (Op.equalIn ((d + 1) + 1) t (arr a) (arr b)).run Tryd.prog w = .ok (decide (a = b)) w
  generalize d + 1 = e at *
  have key : ∀ (l : List Nat), (∀ i ∈ l, i < n) →
      ((forIn l ((none : Option Bool), ()) fun i r => do
        let x ← part 5 (vals a).toArray (i * 1)
        let y ← part 5 (vals b).toArray (i * 1)
        let z ← Op.equalIn e 5 x y
        if (!z) = true then pure (ForInStep.done (some false, ())) else pure (ForInStep.yield (none, ())) : Sem _)).run Tryd.prog w =
      .ok (if l.all (fun i => bt a i == bt b i) then (none, ()) else (some false, ())) w := by
    intro l
    induction l with
    | nil => intro _; simp
    | cons i l ih =>
      intro hl
      have hi := hl i (by simp)
      simp only [List.forIn_cons, Sem.run_bind, hp a i (by omega), hp b i (by omega), Result.andThen_ok, he]
      by_cases h : bt a i = bt b i
      · have hb : (bt a i == bt b i) = true := by simpa using h
        simp only [hb, Bool.not_true, Bool.false_eq_true, if_false, Sem.run_pure, Result.andThen_ok, List.all_cons, Bool.true_and]
        exact ih fun j hj => hl j (by simp [hj])
      · have hb : (bt a i == bt b i) = false := by simpa using h
        simp [hb]
  have hall : ((List.range' 0 n).all fun i => bt a i == bt b i) = decide (a = b) := by
    rw [Bool.eq_iff_iff, List.all_eq_true, decide_eq_true_iff]
    constructor
    · intro h
      exact eq_of_bt (by omega) fun j hj => by simpa using h j (by simp [List.mem_range']; omega)
    · rintro rfl i _
      simp
  have hk := key (List.range' 0 n) (fun i hi => by simp [List.mem_range'] at hi; omega)
  rw [hall] at hk
  simp only [Op.equalIn, arr, Sem.run_bind, run_underlying hu, Result.andThen_ok, Tryd.sizeOf5, Std.Legacy.Range.forIn_eq_forIn_range']
  simp only [Std.Legacy.Range.size, Nat.sub_zero, Nat.add_sub_cancel, Nat.div_one]
  rw [hk]
  by_cases h : a = b
  · simp [h]
  · simp [h]
theorem run_eqG (w : World) (a b : Ros) (d : Nat) : (Op.equalIn (d + 2) 24 (geo a) (geo b)).run Tryd.prog w = .ok (decide (a.m = b.m ∧ a.s = b.s ∧ a.r = b.r)) w := by
  have he : ∀ x y : Int, (Op.equalIn (d + 1) 3 (.int .i64 x) (.int .i64 y)).run Tryd.prog w = .ok (x == y) w := fun x y => run_equalIn_int w d 3 .i64 .i64 x y Tryd.underlying3
  unfold geo
  rw [show d + 2 = (d + 1) + 1 from rfl, run_equalIn_struct w (d + 1) 24 _ _ (by kernel_rfl) (by kernel_rfl)]
  simp only [Program.fieldsOf, Tryd.underlying24, Op.eqFields, celG]
  simp [part, he]
  by_cases h1 : a.m = b.m <;> by_cases h2 : a.s = b.s <;> by_cases h3 : a.r = b.r <;> simp [h1, h2, h3]
theorem celR_eq (x : Ros) : celR x = celG x ++ (vals x.st.toList ++ [.int .i64 x.cur, .bool x.gone]) := rfl
theorem celS_eq (x : Sup) : celS x = [.int .u64 x.id, .int .i64 x.self] ++ celR x.ros := rfl
theorem partR_0 (w : World) (x : Ros) : (part 24 (celR x).toArray 0).run Tryd.prog w = .ok (geo x) w := by
  simp [part, geo, celR, celG]
theorem partR_1 (w : World) (x : Ros) : (part 25 (celR x).toArray 3).run Tryd.prog w = .ok (arr x.st.toList) w := by
  have h : ((celR x).drop 3).take 16 = vals x.st.toList := by
    show (vals x.st.toList ++ [Value.int .i64 x.cur, Value.bool x.gone]).take 16 = _
    rw [List.take_append_of_le_length (by simp [vals_length]), List.take_of_length_le (by simp [vals_length])]
  simp [part, arr, h]
theorem partR_2 (w : World) (x : Ros) : (part 3 (celR x).toArray 19).run Tryd.prog w = .ok (.int .i64 x.cur) w := by
  have h : (celR x)[19]? = some (.int .i64 x.cur) := by
    show (vals x.st.toList ++ [Value.int .i64 x.cur, Value.bool x.gone])[16]? = _
    rw [List.getElem?_append_right (by simp [vals_length])]
    simp [vals_length]
  simp [part, h]
theorem partR_3 (w : World) (x : Ros) : (part 4 (celR x).toArray 20).run Tryd.prog w = .ok (.bool x.gone) w := by
  have h : (celR x)[20]? = some (.bool x.gone) := by
    show (vals x.st.toList ++ [Value.int .i64 x.cur, Value.bool x.gone])[17]? = _
    rw [List.getElem?_append_right (by simp [vals_length])]
    simp [vals_length]
  simp [part, h]
theorem partS_0 (w : World) (x : Sup) : (part 22 (celS x).toArray 0).run Tryd.prog w = .ok (.int .u64 x.id) w := by simp [part, celS]
theorem partS_1 (w : World) (x : Sup) : (part 3 (celS x).toArray 1).run Tryd.prog w = .ok (.int .i64 x.self) w := by simp [part, celS]
theorem partS_2 (w : World) (x : Sup) : (part 27 (celS x).toArray 2).run Tryd.prog w = .ok (ros x.ros) w := by
  have h : ((celS x).drop 2).take 21 = celR x.ros := by
    show (celR x.ros).take 21 = _
    rw [List.take_of_length_le (by rw [celR_length]; omega)]
  simp [part, ros, h]
theorem ros_ext {a b : Ros} (h1 : a.m = b.m ∧ a.s = b.s ∧ a.r = b.r) (h2 : a.st.toList = b.st.toList) (h3 : a.cur = b.cur) (h4 : a.gone = b.gone) : a = b := by
  obtain ⟨m, s, r, st, cur, gone⟩ := a
  obtain ⟨m', s', r', st', cur', gone'⟩ := b
  simp only at *
  obtain ⟨rfl, rfl, rfl⟩ := h1
  subst h3 h4
  have : st = st' := by rw [← ofSt_toList st, h2, ofSt_toList]
  rw [this]
end Go.Proofs.YtiilclncedipiaaDoor
namespace Go.Proofs.YtiilclncedipiaaDoor
open Go.RowKit
set_option linter.unusedVariables false
set_option maxRecDepth 100000

theorem eqF_step {d : Nat} {xs ys : Array Value} {nm tg pk : String} {t : TypeId} {off bo : Nat} {em : Bool} {fs : List Field} {w : World} {u v : Value} {r : Bool} (hn : nm ≠ "_") (h1 : (part t xs off).run Tryd.prog w = .ok u w) (h2 : (part t ys off).run Tryd.prog w = .ok v w)
    (h3 : (Op.equalIn d t u v).run Tryd.prog w = .ok r w) : (Op.eqFields d xs ys (⟨nm, t, off, em, tg, pk, bo⟩ :: fs)).run Tryd.prog w = if r then (Op.eqFields d xs ys fs).run Tryd.prog w else .ok false w := by
  cases r
  · simp only [Op.eqFields, hn, ne_eq, not_false_eq_true, if_true, Sem.run_bind, h1, h2, h3, Result.andThen_ok, Bool.not_false, Sem.run_pure, Bool.false_eq_true, if_false]
  · simp only [Op.eqFields, hn, ne_eq, not_false_eq_true, if_true, Sem.run_bind, h1, h2, h3, Result.andThen_ok, Bool.not_true, Bool.false_eq_true, if_false]
theorem eqF_nil {d : Nat} {xs ys : Array Value} {w : World} : (Op.eqFields d xs ys []).run Tryd.prog w = .ok true w := by simp [Op.eqFields]
theorem run_eqR (w : World) (a b : Ros) (d : Nat) : (Op.equalIn (d + 3) 27 (ros a) (ros b)).run Tryd.prog w = .ok (decide (a = b)) w := by
  have he := run_equalIn_int (P := Tryd.prog) w (d + 1) 3 .i64 .i64 a.cur b.cur Tryd.underlying3
  have hb := run_equalIn_bool' (P := Tryd.prog) w (d + 1) 4 a.gone b.gone Tryd.underlying4
  have ha := run_eqArr Tryd.underlying25 w a.st.toList b.st.toList (by simp) (by simp) d
  have hg := run_eqG w a b d
  unfold ros
  rw [show d + 3 = (d + 2) + 1 from rfl, run_equalIn_struct w (d + 2) 27 _ _ (by kernel_rfl) (by kernel_rfl)]
  simp only [Program.fieldsOf, Tryd.underlying27]
  rw [eqF_step ?_ (partR_0 w a) (partR_0 w b) hg]
  rotate_left
  · simp
  rw [eqF_step ?_ (partR_1 w a) (partR_1 w b) ha]
  rotate_left
  · simp
  rw [eqF_step ?_ (partR_2 w a) (partR_2 w b) he]
  rotate_left
  · simp
  rw [eqF_step ?_ (partR_3 w a) (partR_3 w b) hb]
  rotate_left
  · simp
  rw [eqF_nil]
  clear he hb ha hg
  by_cases k1 : a.m = b.m ∧ a.s = b.s ∧ a.r = b.r
  · by_cases k2 : a.st.toList = b.st.toList
    · by_cases k3 : a.cur = b.cur
      · by_cases k4 : a.gone = b.gone
        · rw [decide_eq_true k1, decide_eq_true k2, decide_eq_true (ros_ext k1 k2 k3 k4), k3, k4]
          simp
        · rw [decide_eq_true k1, decide_eq_true k2, decide_eq_false (fun e : a = b => k4 (by rw [e])), k3, beq_eq_false_iff_ne.2 k4]
          simp
      · rw [decide_eq_true k1, decide_eq_true k2, decide_eq_false (fun e : a = b => k3 (by rw [e])), beq_eq_false_iff_ne.2 k3]
        simp
    · rw [decide_eq_true k1, decide_eq_false k2, decide_eq_false (fun e : a = b => k2 (by rw [e]))]
      simp
  · rw [decide_eq_false k1, decide_eq_false (fun e : a = b => k1 (by rw [e]; exact ⟨rfl, rfl, rfl⟩))]
    simp
theorem run_eqS (w : World) (a b : Sup) (d : Nat) : (Op.equalIn (d + 4) 29 (sup a) (sup b)).run Tryd.prog w = .ok (decide (a = b)) w := by
  have hu := run_equalIn_int (P := Tryd.prog) w (d + 2) 22 .u64 .u64 a.id b.id Tryd.underlying22
  have hi := run_equalIn_int (P := Tryd.prog) w (d + 2) 3 .i64 .i64 a.self b.self Tryd.underlying3
  have hr := run_eqR w a.ros b.ros d
  unfold sup
  rw [show d + 4 = (d + 3) + 1 from rfl, run_equalIn_struct w (d + 3) 29 _ _ (by kernel_rfl) (by kernel_rfl)]
  simp only [Program.fieldsOf, Tryd.underlying29]
  rw [eqF_step ?_ (partS_0 w a) (partS_0 w b) hu]
  rotate_left
  · simp
  rw [eqF_step ?_ (partS_1 w a) (partS_1 w b) hi]
  rotate_left
  · simp
  rw [eqF_step ?_ (partS_2 w a) (partS_2 w b) hr]
  rotate_left
  · simp
  rw [eqF_nil]
  clear hu hi hr
  obtain ⟨id, self, r⟩ := a
  obtain ⟨id', self', r'⟩ := b
  by_cases k1 : id = id'
  · by_cases k2 : self = self'
    · by_cases k3 : r = r'
      · simp [k1, k2, k3]
      · simp [k1, k2, k3]
    · simp [k1, k2]
  · have : ¬ ((id : Int) = (id' : Int)) := by omega
    simp [k1, this]
end Go.Proofs.YtiilclncedipiaaDoor
namespace Go.Proofs.YtiilclncedipiaaDoor
open Go.RowKit
set_option linter.unusedVariables false
set_option maxRecDepth 100000

section
variable {ρ : Operand → Value} {o : Oper} {x y : Operand} {w : World} {t : TypeId}
theorem guardS : Tryd.prog.eqGuardType Tryd.prog.depth 29 = false := by kernel_rfl
theorem guardR : Tryd.prog.eqGuardType Tryd.prog.depth 27 = false := by kernel_rfl
theorem guard16 : Tryd.prog.eqGuardType Tryd.prog.depth 25 = false := by kernel_rfl
theorem guard44 : Tryd.prog.eqGuardType Tryd.prog.depth 52 = false := by kernel_rfl
theorem exec_eqS {a b : Sup} (c : Bool) (ho : o.op = .binOp .eql 29 x y t) (hx : ρ x = sup a) (hy : ρ y = sup b) (h : decide (a = b) = c) : (execOp ρ o).run Tryd.prog w = .ok (.value (.bool c)) w := by
  subst h; exact exec_eqT guardS (run_eqS w a b 9996) ho hx hy
theorem exec_neS {a b : Sup} (c : Bool) (ho : o.op = .binOp .neq 29 x y t) (hx : ρ x = sup a) (hy : ρ y = sup b) (h : decide (a = b) = c) : (execOp ρ o).run Tryd.prog w = .ok (.value (.bool (!c))) w := by
  subst h; exact exec_neT guardS (run_eqS w a b 9996) ho hx hy
theorem exec_eqR {a b : Ros} (c : Bool) (ho : o.op = .binOp .eql 27 x y t) (hx : ρ x = ros a) (hy : ρ y = ros b) (h : decide (a = b) = c) : (execOp ρ o).run Tryd.prog w = .ok (.value (.bool c)) w := by
  subst h; exact exec_eqT guardR (run_eqR w a b 9997) ho hx hy
theorem exec_eq16 {a b : List UInt8} (c : Bool) (ha : a.length = 16) (hb : b.length = 16) (ho : o.op = .binOp .eql 25 x y t) (hx : ρ x = arr a) (hy : ρ y = arr b) (h : decide (a = b) = c) : (execOp ρ o).run Tryd.prog w = .ok (.value (.bool c)) w := by
  subst h; exact exec_eqT guard16 (run_eqArr Tryd.underlying25 w a b ha hb 9998) ho hx hy
theorem exec_ne44 {a b : List UInt8} (c : Bool) (ha : a.length = 44) (hb : b.length = 44) (ho : o.op = .binOp .neq 52 x y t) (hx : ρ x = arr a) (hy : ρ y = arr b) (h : decide (a = b) = c) : (execOp ρ o).run Tryd.prog w = .ok (.value (.bool (!c))) w := by
  subst h; exact exec_neT guard44 (run_eqArr Tryd.underlying52 w a b ha hb 9998) ho hx hy
/-- An array's element by value. -/
theorem exec_ix16 {l : List UInt8} {j : Nat} (hl : l.length = 16) (hj : j < 16) (ho : o.op = .index 25 x y) (hx : ρ x = arr l) (hy : ρ y = .int .i64 (j : Int)) : (execOp ρ o).run Tryd.prog w = .ok (.value (.int .u8 (bt l j))) w := by
  have hp : (part 5 (vals l).toArray (j * 1)).run Tryd.prog w = .ok (.int .u8 (bt l j)) w := by
    have := vals_at (l := l) (j := j) (by omega)
    simp [part, this]
  have h : (Instr.index 25 (arr l) (.int .i64 (j : Int))).run Tryd.prog w = .ok (.int .u8 (bt l j)) w := by
    have e : (0 ≤ (j : Int) ∧ (j : Int) < 16) := by omega
    unfold arr
    simp [Instr.index, asIntOf, run_underlying Tryd.underlying25, Tryd.sizeOf5, hj]
    simpa using hp
  unfold execOp
  simp only [ho, hx, hy, Sem.run_bind, h, Result.andThen_ok, Sem.run_pure]
end

/-! ### In memory -/
/-- Block b holds a roster; a superblock. -/
def RosAt (w : World) (b : Nat) (x : Ros) : Prop := w.heap[b]? = some (.cells (celR x).toArray 27 (0, 0))
def SupAt (w : World) (b : Nat) (x : Sup) : Prop := w.heap[b]? = some (.cells (celS x).toArray 29 (0, 0))
theorem rng_at {w : World} {b : Nat} {t : TypeId} {cs : List Value} (h : w.heap[b]? = some (.cells cs.toArray t (0, 0))) : w.rangeAt b 0 cs := fun j v hj => by
  rw [cell_of_row w b (0 + j) _ t (0, 0) h, Nat.zero_add]
  simpa using hj
theorem rng_sub {w : World} {b o k : Nat} {cs ds es fs : List Value} (h : w.rangeAt b o cs) (e : cs = ds ++ (es ++ fs)) (hk : ds.length = k) : w.rangeAt b (o + k) es := fun j v hj => by
  subst e hk
  have := h (ds.length + j) v (by
    rw [List.getElem?_append_right (by omega), Nat.add_sub_cancel_left, List.getElem?_append_left (List.getElem?_eq_some_iff.1 hj).1]
    exact hj)
  rwa [← Nat.add_assoc] at this
theorem there_at {w : World} {b : Nat} {t : TypeId} {cs : List Value} (h : w.heap[b]? = some (.cells cs.toArray t (0, 0))) {o n : Nat} (hn : o + n ≤ cs.length) : w.there b o n := fun j hj => by
  rw [cell_of_row w b (o + j) _ t (0, 0) h, frozen_of_row w b (o + j) _ t h]
  exact ⟨by simp; omega, rfl⟩
section
variable {w w' : World} {b : Nat} {x : Ros} {y : Sup}
theorem RosAt.range (h : RosAt w b x) : w.rangeAt b 0 (celR x) := rng_at h
theorem RosAt.geo (h : RosAt w b x) : w.rangeAt b 0 (celG x) := rng_sub (cs := celR x) (ds := []) (k := 0) h.range rfl rfl
theorem RosAt.sts (h : RosAt w b x) : w.rangeAt b 3 (vals x.st.toList) := by
  have := rng_sub (k := 3) h.range (celR_eq x) rfl
  rwa [Nat.zero_add] at this
theorem RosAt.cells (h : RosAt w b x) : w.cell? ⟨b, 0, none⟩ = some (.int .i64 x.m) ∧ w.cell? ⟨b, 1, none⟩ = some (.int .i64 x.s) ∧ w.cell? ⟨b, 2, none⟩ = some (.int .i64 x.r) ∧ w.cell? ⟨b, 19, none⟩ = some (.int .i64 x.cur) ∧ w.cell? ⟨b, 20, none⟩ = some (.bool x.gone) := by
  have hr := rng_sub (k := 19) (ds := celG x ++ vals x.st.toList) (es := [.int .i64 x.cur, .bool x.gone]) (fs := []) h.range (by simp [celR_eq]) (by simp [celG, vals_length])
  exact ⟨h.range 0 _ rfl, h.range 1 _ rfl, h.range 2 _ rfl, hr 0 _ rfl, hr 1 _ rfl⟩
theorem RosAt.sta (h : RosAt w b x) {j : Nat} (hj : j < 16) : w.cell? ⟨b, 3 + j, none⟩ = some (.int .u8 (sta x j)) := h.sts j _ (vals_at (by simpa using hj))
theorem RosAt.below {B : Nat} (h : RosAt w b x) (hB : b < B) (hb : Below B w w') : RosAt w' b x := blk_keep2 h hB hb
theorem RosAt.new (w : World) (x : Ros) : RosAt (w.alloc (.cells (celR x).toArray 27)) w.heap.size x := heap_alloc_new w _
theorem RosAt.past (h : RosAt w b x) (o : Obj) : RosAt (w.alloc o) b x := blk_past h o
theorem RosAt.rd (h : RosAt w b x) {m : Nat} (hm : m ≤ 16) : Rd w w.heap.size (some ⟨b, 3, none⟩) m (x.st.toList.take m) :=
  ⟨by simp; omega, fun k hk => ⟨b, 3, rfl, blk_lt h, by
    rw [h.sta (j := k) (by omega)]
    unfold Proofs.YtiilclncedipiaaDoor.sta bt
    simp [List.getD, List.getElem?_take_of_lt hk]⟩⟩
theorem SupAt.range (h : SupAt w b y) : w.rangeAt b 0 (celS y) := rng_at h
theorem SupAt.rosr (h : SupAt w b y) : w.rangeAt b 2 (celR y.ros) := by
  have := rng_sub (k := 2) (ds := [.int .u64 y.id, .int .i64 y.self]) (es := celR y.ros) (fs := []) h.range (by simp [celS_eq]) rfl
  rwa [Nat.zero_add] at this
theorem SupAt.sts (h : SupAt w b y) : w.rangeAt b 5 (vals y.ros.st.toList) := rng_sub (k := 3) h.rosr (celR_eq y.ros) rfl
theorem SupAt.cells (h : SupAt w b y) : w.cell? ⟨b, 0, none⟩ = some (.int .u64 y.id) ∧ w.cell? ⟨b, 1, none⟩ = some (.int .i64 y.self) ∧ w.cell? ⟨b, 2, none⟩ = some (.int .i64 y.ros.m) ∧ w.cell? ⟨b, 3, none⟩ = some (.int .i64 y.ros.s) ∧ w.cell? ⟨b, 4, none⟩ = some (.int .i64 y.ros.r) ∧ w.cell? ⟨b, 21, none⟩ = some (.int .i64 y.ros.cur) ∧ w.cell? ⟨b, 22, none⟩ = some (.bool y.ros.gone) := by
  have hr := rng_sub (k := 19) (ds := celG y.ros ++ vals y.ros.st.toList) (es := [.int .i64 y.ros.cur, .bool y.ros.gone]) (fs := []) h.rosr (by simp [celR_eq]) (by simp [celG, vals_length])
  exact ⟨h.range 0 _ rfl, h.range 1 _ rfl, h.range 2 _ rfl, h.range 3 _ rfl, h.range 4 _ rfl, hr 0 _ rfl, hr 1 _ rfl⟩
theorem SupAt.sta (h : SupAt w b y) {j : Nat} (hj : j < 16) : w.cell? ⟨b, 5 + j, none⟩ = some (.int .u8 (sta y.ros j)) := h.sts j _ (vals_at (by simpa using hj))
theorem SupAt.below {B : Nat} (h : SupAt w b y) (hB : b < B) (hb : Below B w w') : SupAt w' b y := blk_keep2 h hB hb
theorem SupAt.new (w : World) (y : Sup) : SupAt (w.alloc (.cells (celS y).toArray 29)) w.heap.size y := heap_alloc_new w _
theorem SupAt.past (h : SupAt w b y) (o : Obj) : SupAt (w.alloc o) b y := blk_past h o
theorem SupAt.rd (h : SupAt w b y) : Rd w w.heap.size (some ⟨b, 5, none⟩) 16 y.ros.st.toList :=
  ⟨by simp, fun k hk => ⟨b, 5, rfl, blk_lt h, h.sta hk⟩⟩
end
end Go.Proofs.YtiilclncedipiaaDoor
namespace Go.Proofs.YtiilclncedipiaaDoor
open Go.RowKit Go.ChangeShapes Go.WideShapes Go.ChangeAt Go.Deep
set_option linter.unusedSimpArgs false

theorem cellsSu : Tryd.prog.cellsOf 29 = 23 := by kernel_rfl
theorem cellsRo : Tryd.prog.cellsOf 27 = 21 := by kernel_rfl
theorem cellsGe : Tryd.prog.cellsOf 24 = 3 := by kernel_rfl
theorem cells16 : Tryd.prog.cellsOf 25 = 16 := by kernel_rfl
theorem cellsI : Tryd.prog.cellsOf 3 = 1 := by kernel_rfl
theorem cellsU : Tryd.prog.cellsOf 22 = 1 := by kernel_rfl
theorem cellsBo : Tryd.prog.cellsOf 4 = 1 := by kernel_rfl
section
variable {H : Type} {enc : TypeId × Value → H} {W : World} {base : Nat} {v : Value} {d : DataW H} {p : List MemPlace}
theorem at_u8 {m : Nat} {x : Value} {y : DataW H × List MemPlace} (h : DataW.trod enc Tryd.prog W 0 (fun _ => true) true m 5 [x] = some y) : ∃ u : UInt8, x = .int .u8 (u.toNat : Int) := by
  obtain ⟨k, e, _, hw⟩ := DataW.trod_int Tryd.underlying5 h
  have hr : 0 ≤ k ∧ k ≤ 255 := bounds_u8 hw
  injection e with e
  refine ⟨UInt8.ofNat k.toNat, ?_⟩
  rw [e, UInt8.toNat_ofNat']
  congr 1
  omega
theorem at_int {m : Nat} {x : Value} {y : DataW H × List MemPlace} (h : DataW.trod enc Tryd.prog W 0 (fun _ => true) true m 3 [x] = some y) : ∃ k : Int, x = .int .i64 k := by
  obtain ⟨k, e, _, hw⟩ := DataW.trod_int Tryd.underlying3 h
  injection e with e
  exact ⟨k, e⟩
theorem at_u64 {m : Nat} {x : Value} {y : DataW H × List MemPlace} (h : DataW.trod enc Tryd.prog W 0 (fun _ => true) true m 22 [x] = some y) : ∃ k : Nat, x = .int .u64 (k : Int) ∧ k < 18446744073709551616 := by
  obtain ⟨k, e, _, hw⟩ := DataW.trod_int Tryd.underlying22 h
  have hr := bounds_u64 hw
  injection e with e
  obtain ⟨n, rfl⟩ := Int.eq_ofNat_of_zero_le hr.1
  exact ⟨n, e, by omega⟩
theorem at_bool {m : Nat} {x : Value} {y : DataW H × List MemPlace} (h : DataW.trod enc Tryd.prog W 0 (fun _ => true) true m 4 [x] = some y) : ∃ k : Bool, x = .bool k := by
  obtain ⟨k, e, _⟩ := DataW.trod_bool Tryd.underlying4 h
  injection e with e
  exact ⟨k, e⟩
theorem at_16 {fuel : Nat} {cs : List Value} {x : DataW H × List MemPlace} (h : DataW.trod enc Tryd.prog W 0 (fun _ => true) true fuel 25 cs = some x) : ∃ v : Vector UInt8 16, cs = vals v.toList := by
  obtain ⟨xs, m, _, _, hlen, hn, hel⟩ := DataW.trod_array Tryd.underlying25 h
  rw [cells16] at hlen
  rw [u8cells] at hel
  have hu : ∀ i : Fin 16, ∃ u : UInt8, cs[i.val]? = some (.int .u8 (u.toNat : Int)) := fun i => by
    have h1 := hel i.val i.isLt
    have hi : i.val < cs.length := by have := i.isLt; omega
    have hd : (cs.drop (i.val * 1)).take 1 = [cs[i.val]] := by
      rw [Nat.mul_one, List.drop_eq_getElem_cons hi]
      rfl
    have hx : i.val < xs.length := by have := i.isLt; omega
    rw [hd, List.getElem?_eq_getElem hx] at h1
    obtain ⟨u, hu⟩ := at_u8 h1
    exact ⟨u, by rw [List.getElem?_eq_getElem hi, hu]⟩
  obtain ⟨f, hf⟩ := Classical.axiomOfChoice hu
  refine ⟨Vector.ofFn f, ?_⟩
  apply List.ext_getElem?
  intro i
  by_cases hi : i < 16
  · rw [hf ⟨i, hi⟩]
    simp [vals, hi]
  · rw [List.getElem?_eq_none (by omega), List.getElem?_eq_none (by rw [vals_length]; simp; omega)]
theorem at_geo {fuel : Nat} {cs : List Value} {x : DataW H × List MemPlace} (h : DataW.trod enc Tryd.prog W 0 (fun _ => true) true fuel 24 cs = some x) : ∃ m s r : Int, cs = [.int .i64 m, .int .i64 s, .int .i64 r] := by
  obtain ⟨xs, k, _, _, hlen, hn, hel⟩ := DataW.trod_struct Tryd.underlying24 h
  rw [cellsGe] at hlen
  have hn' : xs.length = 3 := hn
  match cs, hlen, xs, hn' with
  | [a, b, c], _, [y0, y1, y2], _ =>
    have e0 : DataW.trod enc Tryd.prog W 0 (fun _ => true) true k 3 ((List.drop 0 [a, b, c]).take (Tryd.prog.cellsOf 3)) = some y0 := hel 0 _ rfl
    rw [cellsI] at e0
    have e1 : DataW.trod enc Tryd.prog W 0 (fun _ => true) true k 3 ((List.drop 1 [a, b, c]).take (Tryd.prog.cellsOf 3)) = some y1 := hel 1 _ rfl
    rw [cellsI] at e1
    have e2 : DataW.trod enc Tryd.prog W 0 (fun _ => true) true k 3 ((List.drop 2 [a, b, c]).take (Tryd.prog.cellsOf 3)) = some y2 := hel 2 _ rfl
    rw [cellsI] at e2
    obtain ⟨m, rfl⟩ := at_int (show DataW.trod enc Tryd.prog W 0 (fun _ => true) true k 3 [a] = some y0 from e0)
    obtain ⟨s, rfl⟩ := at_int (show DataW.trod enc Tryd.prog W 0 (fun _ => true) true k 3 [b] = some y1 from e1)
    obtain ⟨r, rfl⟩ := at_int (show DataW.trod enc Tryd.prog W 0 (fun _ => true) true k 3 [c] = some y2 from e2)
    exact ⟨m, s, r, rfl⟩
theorem at_ros {fuel : Nat} {cs : List Value} {x : DataW H × List MemPlace} (h : DataW.trod enc Tryd.prog W 0 (fun _ => true) true fuel 27 cs = some x) : ∃ r : Ros, cs = celR r := by
  obtain ⟨xs, k, _, _, hlen, hn, hel⟩ := DataW.trod_struct Tryd.underlying27 h
  rw [cellsRo] at hlen
  have hn' : xs.length = 4 := hn
  match xs, hn' with
  | [y0, y1, y2, y3], _ =>
    have e0 : DataW.trod enc Tryd.prog W 0 (fun _ => true) true k 24 ((List.drop 0 cs).take (Tryd.prog.cellsOf 24)) = some y0 := hel 0 _ rfl
    rw [cellsGe] at e0
    have e1 : DataW.trod enc Tryd.prog W 0 (fun _ => true) true k 25 ((List.drop 3 cs).take (Tryd.prog.cellsOf 25)) = some y1 := hel 1 _ rfl
    rw [cells16] at e1
    have e2 : DataW.trod enc Tryd.prog W 0 (fun _ => true) true k 3 ((List.drop 19 cs).take (Tryd.prog.cellsOf 3)) = some y2 := hel 2 _ rfl
    rw [cellsI] at e2
    have e3 : DataW.trod enc Tryd.prog W 0 (fun _ => true) true k 4 ((List.drop 20 cs).take (Tryd.prog.cellsOf 4)) = some y3 := hel 3 _ rfl
    rw [cellsBo] at e3
    obtain ⟨m, s, r, hg⟩ := at_geo (show DataW.trod enc Tryd.prog W 0 (fun _ => true) true k 24 ((cs.drop 0).take 3) = some y0 from e0)
    obtain ⟨st, hst⟩ := at_16 (show DataW.trod enc Tryd.prog W 0 (fun _ => true) true k 25 ((cs.drop 3).take 16) = some y1 from e1)
    have d2 : (cs.drop 19).take 1 = [cs[19]'(by omega)] := by rw [List.drop_eq_getElem_cons (by omega)]; rfl
    have d3 : (cs.drop 20).take 1 = [cs[20]'(by omega)] := by rw [List.drop_eq_getElem_cons (by omega)]; rfl
    obtain ⟨cur, hcur⟩ := at_int (show DataW.trod enc Tryd.prog W 0 (fun _ => true) true k 3 [cs[19]'(by omega)] = some y2 from by rw [← d2]; exact e2)
    obtain ⟨gone, hgone⟩ := at_bool (show DataW.trod enc Tryd.prog W 0 (fun _ => true) true k 4 [cs[20]'(by omega)] = some y3 from by rw [← d3]; exact e3)
    refine ⟨⟨m, s, r, st, cur, gone⟩, ?_⟩
    have hsplit : cs = (cs.drop 0).take 3 ++ ((cs.drop 3).take 16 ++ [cs[19]'(by omega), cs[20]'(by omega)]) := by
      have h3 : cs.drop 19 = [cs[19]'(by omega), cs[20]'(by omega)] := by
        rw [List.drop_eq_getElem_cons (by omega), List.drop_eq_getElem_cons (by omega), List.drop_of_length_le (by omega)]
      rw [← h3, List.drop_zero]
      have h4 : (cs.drop 3).take 16 ++ cs.drop 19 = cs.drop 3 := by
        have := List.take_append_drop 16 (cs.drop 3)
        rwa [List.drop_drop] at this
      rw [h4, List.take_append_drop]
    rw [hsplit, hg, hst, hcur, hgone]
    rfl
theorem at_sup {fuel : Nat} {cs : List Value} {x : DataW H × List MemPlace} (h : DataW.trod enc Tryd.prog W 0 (fun _ => true) true fuel 29 cs = some x) : ∃ s : Sup, cs = celS s ∧ s.id < 18446744073709551616 := by
  obtain ⟨xs, k, _, _, hlen, hn, hel⟩ := DataW.trod_struct Tryd.underlying29 h
  rw [cellsSu] at hlen
  have hn' : xs.length = 3 := hn
  match cs, hlen, xs, hn' with
  | a :: b :: r, hlen, [y0, y1, y2], _ =>
    have e0 : DataW.trod enc Tryd.prog W 0 (fun _ => true) true k 22 ((List.drop 0 (a :: b :: r)).take (Tryd.prog.cellsOf 22)) = some y0 := hel 0 _ rfl
    rw [cellsU] at e0
    have e1 : DataW.trod enc Tryd.prog W 0 (fun _ => true) true k 3 ((List.drop 1 (a :: b :: r)).take (Tryd.prog.cellsOf 3)) = some y1 := hel 1 _ rfl
    rw [cellsI] at e1
    have e2 : DataW.trod enc Tryd.prog W 0 (fun _ => true) true k 27 ((List.drop 2 (a :: b :: r)).take (Tryd.prog.cellsOf 27)) = some y2 := hel 2 _ rfl
    rw [cellsRo] at e2
    obtain ⟨id, rfl, hid⟩ := at_u64 (show DataW.trod enc Tryd.prog W 0 (fun _ => true) true k 22 [a] = some y0 from e0)
    obtain ⟨self, rfl⟩ := at_int (show DataW.trod enc Tryd.prog W 0 (fun _ => true) true k 3 [b] = some y1 from e1)
    have hr : r.take 21 = r := List.take_of_length_le (by simp at hlen; omega)
    obtain ⟨ro, hro⟩ := at_ros (show DataW.trod enc Tryd.prog W 0 (fun _ => true) true k 27 (r.take 21) = some y2 from e2)
    exact ⟨⟨id, self, ro⟩, by rw [← hr, hro]; rfl, hid⟩
theorem open_super (hv : Value.okWide Tryd.prog W .any base 29 v) (h : DataW.Trod enc Tryd.prog W 0 (fun _ => true) true 29 v d p) : ∃ s : Sup, v = sup s ∧ s.id < 18446744073709551616 := by
  obtain ⟨cs, rfl, _⟩ := okWide_struct Tryd.underlying29 hv
  obtain ⟨fuel, hf⟩ := h
  obtain ⟨s, hs, hid⟩ := at_sup hf
  refine ⟨s, ?_, hid⟩
  unfold sup
  rw [← hs]
  simp [Value.cells]
end
end Go.Proofs.YtiilclncedipiaaDoor
namespace Go.Proofs.YtiilclncedipiaaDoor
open Go.RowKit
set_option linter.unusedVariables false
set_option maxRecDepth 100000

theorem boxR_new (w : World) (x : Ros) : RosAt (w.alloc (.cells (celR x).toArray 27)) w.heap.size x ∧ Below w.heap.size w (w.alloc (.cells (celR x).toArray 27)) ∧ w.heap.size < (w.alloc (.cells (celR x).toArray 27)).heap.size :=
  ⟨RosAt.new w x, (Below.refl w.heap.size w).alloc (Nat.le_refl _) _, by simp only [World.size_alloc]; omega⟩
theorem boxS_new (w : World) (x : Sup) : SupAt (w.alloc (.cells (celS x).toArray 29)) w.heap.size x ∧ Below w.heap.size w (w.alloc (.cells (celS x).toArray 29)) ∧ w.heap.size < (w.alloc (.cells (celS x).toArray 29)).heap.size :=
  ⟨SupAt.new w x, (Below.refl w.heap.size w).alloc (Nat.le_refl _) _, by simp only [World.size_alloc]; omega⟩

theorem geoB_iff {x : Ros} : geoB x = true ↔ (3 ≤ x.m ∧ x.m ≤ 16 ∧ 1 ≤ x.s ∧ x.s ≤ 64 ∧ 40 ≤ x.r ∧ x.r ≤ 256) := by unfold geoB; rw [decide_eq_true_iff]
theorem geoB_not {x : Ros} : geoB x = false ↔ ¬(3 ≤ x.m ∧ x.m ≤ 16 ∧ 1 ≤ x.s ∧ x.s ≤ 64 ∧ 40 ≤ x.r ∧ x.r ≤ 256) := by unfold geoB; rw [decide_eq_false_iff_not]
set_option maxHeartbeats 1000000 in
theorem pgmay (x : Ros) (w : World) : Calls Tryd.prog 51 #[geo x] w fun e w' => e = .returned (.bool (geoB x)) ∧ Below w.heap.size w w' := by
  have h1 := geoB_iff (x := x)
  have h2 := geoB_not (x := x)
  generalize geoB x = g at *
  obtain ⟨m, s, r, st, cur, gone⟩ := x
  simp only at h1 h2
  have H1 := Lib.hid h1
  have H2 := Lib.hid h2
  clear h1 h2
  show Calls Tryd.prog 51 #[.agg #[.int .i64 m, .int .i64 s, .int .i64 r]] w _
  go_enter Tryd.func51, Tryd.ntmps51
  go_wp2
  all_goals
    go_ret
    refine ⟨ret_bool ?_, (Below.refl _ _).alloc (Nat.le_refl _) _⟩
    first
      | (refine Eq.symm (H2.out.2 ?_); omega)
      | (rw [Bool.eq_iff_iff, H1.out, decide_eq_true_iff]; omega)
theorem pevent (n : Nat) (w : World) : Calls Tryd.prog 23 #[.int .u64 n] w fun e w' => e = .returned (.bool (evB n)) ∧ w = w' := by
  by_cases h : 1 ≤ n
  · go_enter Tryd.func23, Tryd.ntmps23
    go_wp2
    go_ret
    refine ⟨ret_bool ?_, rfl⟩
    unfold evB
    rw [decide_eq_decide]
    omega
  · have h0 : n = 0 := by omega
    subst h0
    go_enter Tryd.func23, Tryd.ntmps23
    go_wp2
    go_ret
    exact ⟨rfl, rfl⟩
theorem healK_succ (l : List UInt8) (k : Nat) : healK l (k + 1) = healK l k + (if bt l k = 2 then 1 else 0) := rfl
set_option maxHeartbeats 1000000 in
theorem pheal (x : Ros) (w : World) : Calls Tryd.prog 68 #[ros x] w fun e w' => e = .returned (.int .i64 (heals x : Nat)) ∧ Below w.heap.size w w' := by
  obtain ⟨h1, h2, h3⟩ := boxR_new w x
  have HR := Lib.hid h1
  have HB := Lib.hid h2
  clear h1 h2 h3
  have HL := Lib.hid (stL_length x.st)
  have HH : Hid (heals x = healK x.st.toList 16) := Lib.hid rfl
  go_enter Tryd.func68, Tryd.ntmps68
  go_wp2_with (first | (refine wpList_valn rfl (exec_boxR rfl rfl) ?_) | (refine wpList_valn rfl (exec_load16 HL.out rfl rfl ?_) ?_; (with_reducible exact HR.out.sts)) | fail)
  generalize w.alloc (.cells (celR x).toArray 27) = w1 at *
  generalize x.st.toList = l at *
  go_loop [3, 8] (fun n i => ∃ j : Nat, j ≤ 16 ∧ i = .int .i64 j ∧ n = .int .i64 (healK l j : Nat)) (fun _ i => 16 - (intOf i).toNat)
  case atStart => exact ⟨0, Nat.zero_le _, rfl, rfl⟩
  case round =>
    obtain ⟨j, hj, rfl, rfl⟩ := hrel
    by_cases hlt : j < 16
    · have hs := Lib.hid (healK_succ l j)
      have hle := healK_le l j
      generalize healK l j = n at *
      by_cases h2 : bt l j = 2
      · rw [if_pos h2] at hs
        have hd : (bt l j == 2) = true := by rw [h2]; rfl
        clear h2
        go_wp2_with (first | (refine wpList_valn rfl (exec_ix16 (l := l) (j := j) HL.out hlt rfl rfl rfl) ?_) | fail)
        go_round
        case rel => exact ⟨j + 1, by omega, by go_num, by rw [hs.out]; go_num⟩
        case measure => simp [intOf]; omega
      · rw [if_neg h2] at hs
        have hd : (bt l j == 2) = false := by simpa using h2
        clear h2
        go_wp2_with (first | (refine wpList_valn rfl (exec_ix16 (l := l) (j := j) HL.out hlt rfl rfl rfl) ?_) | fail)
        go_round
        case rel => exact ⟨j + 1, by omega, by go_num, by rw [hs.out, Nat.add_zero]⟩
        case measure => simp [intOf]; omega
    · have e : j = 16 := by omega
      subst e
      go_wp2
      go_ret
      exact ⟨by rw [HH.out]; rfl, HB.out⟩
/-- What mayCursor asks. -/
def curB (x : Ros) : Bool := if heals x = 0 then decide (x.cur = 0) else decide (0 ≤ x.cur ∧ x.cur < x.s)
set_option maxHeartbeats 1000000 in
theorem pcur (x : Ros) (w : World) : Calls Tryd.prog 53 #[ros x] w fun e w' => e = .returned (.bool (curB x)) ∧ Below w.heap.size w w' := by
  obtain ⟨h1, h2, h3⟩ := boxR_new w x
  have HR := Lib.hid h1
  have HB := Lib.hid h2
  have HZ := Lib.hid h3
  clear h1 h2 h3
  have HC : Hid (curB x = if heals x = 0 then decide (x.cur = 0) else decide (0 ≤ x.cur ∧ x.cur < x.s)) := Lib.hid rfl
  go_enter Tryd.func53, Tryd.ntmps53
  go_wp2_with (first | (refine wpList_valn rfl (exec_boxR rfl rfl) ?_) | (refine wpList_valn rfl (exec_loadR (c := x) rfl rfl ?_) ?_; (with_reducible exact HR.out.range)) | fail)
  generalize w.alloc (.cells (celR x).toArray 27) = w1 at *
  refine (pheal x w1).mono ?_
  rintro e w2 ⟨rfl, hb⟩
  obtain ⟨c0, c1, c2, c3, c4⟩ := (HR.out.below HZ.out hb).cells
  have HB2 := Lib.hid (HB.out.trans (hb.mono (Nat.le_of_lt HZ.out)))
  clear hb
  generalize x.cur = c at *
  generalize x.s = s at *
  by_cases h0 : heals x = 0
  · rw [if_pos h0] at HC
    rw [h0]
    go_wp2
    go_ret
    exact ⟨ret_bool (by rw [HC.out, Bool.eq_iff_iff]; simp), HB2.out⟩
  · rw [if_neg h0] at HC
    have hd : ((heals x : Int) == 0) = false := by simp; omega
    by_cases hc : 0 ≤ c
    · go_wp2
      go_ret
      exact ⟨ret_bool (by rw [HC.out, decide_eq_decide]; omega), HB2.out⟩
    · have hlt : c < 0 := by omega
      go_wp2
      go_ret
      exact ⟨ret_bool (by rw [HC.out]; simp; omega), HB2.out⟩
end Go.Proofs.YtiilclncedipiaaDoor
namespace Go.Proofs.YtiilclncedipiaaDoor
open Go.RowKit
set_option linter.unusedVariables false
set_option linter.unusedSimpArgs false
set_option maxRecDepth 100000

/-! The states of the members, 0 behind them. -/
def memL (x : Ros) : List UInt8 := splice (List.replicate 16 0) 0 (x.st.toList.take x.m.toNat)
theorem memL_length {x : Ros} : (memL x).length = 16 := by
  unfold memL
  rw [length_splice _ _ _ (by simp; omega)]
  simp
theorem bt_memL {x : Ros} (h0 : 0 ≤ x.m) (h16 : x.m ≤ 16) {k : Nat} (hk : k < 16) : bt (memL x) k = if (k : Int) < x.m then sta x k else 0 := by
  unfold memL
  have hl : (x.st.toList.take x.m.toNat).length = x.m.toNat := by simp; omega
  rw [bt_splice (by rw [hl]; simp; omega), hl, bt_noughts]
  by_cases h : (k : Int) < x.m
  · rw [if_pos (by omega), if_pos h]
    unfold sta bt
    simp only [List.getD, Nat.sub_zero, List.getElem?_take_of_lt (show k < x.m.toNat by omega)]
  · rw [if_neg (by omega), if_neg h]
theorem memL_big {x : Ros} (h0 : 0 ≤ x.m) (h16 : x.m ≤ 16) {k : Nat} (hk : k < 16) (hb : 2 < bt (memL x) k) : staB x = false := by
  rw [Bool.eq_false_iff]
  intro h
  have := (of_staB h).1 k hk
  rw [bt_memL h0 h16 hk] at hb
  split at hb <;> omega
theorem memL_all {x : Ros} (h0 : 0 ≤ x.m) (h16 : x.m ≤ 16) (h : ∀ k, k < 16 → bt (memL x) k ≤ 2) : staB x = decide (memL x = x.st.toList) := by
  rw [Bool.eq_iff_iff, decide_eq_true_iff, staB_iff]
  constructor
  · rintro ⟨h1, h2⟩
    refine eq_of_bt (by rw [memL_length]; simp) fun k hk => ?_
    rw [memL_length] at hk
    rw [bt_memL h0 h16 hk]
    split
    · rfl
    · exact (h2 k hk (by omega)).symm
  · intro e
    have h3 : ∀ k, k < 16 → sta x k = bt (memL x) k := fun k hk => by rw [e]; rfl
    refine ⟨fun k hk => by rw [h3 k hk]; exact h k hk, fun k hk hm => ?_⟩
    rw [h3 k hk, bt_memL h0 h16 hk, if_neg (by omega)]

section
variable {ρ : Operand → Value} {o : Oper} {x z : Operand} {w : World} {g off : Nat}
theorem exec_all16 (ho : o.op = .slice 25 x none none none) (hx : ρ x = .pointer (some ⟨g, off, none⟩)) : (execOp ρ o).run Tryd.prog w = .ok (.value (.slice (some ⟨g, off, none⟩) 16 16)) w := by
  have h : (Instr.sliceAt 25 (.pointer (some ⟨g, off, none⟩)) none none none).run Tryd.prog w = .ok (.slice (some ⟨g, off, none⟩) 16 16) w := by
    simp [Instr.sliceAt, Instr.sliceBounds, Instr.sliceBound, Instr.sureAddr, asIntOf, run_underlying Tryd.underlying25, Tryd.sizeOf5, Addr.add_mid]
  unfold execOp
  simp only [ho, hx, Option.map_none, Sem.run_bind, h, Result.andThen_ok, Sem.run_pure]
theorem exec_first16 {m : Int} (h0 : 0 < m) (h16 : m ≤ 16) (ho : o.op = .slice 25 x none (some z) none) (hx : ρ x = .pointer (some ⟨g, off, none⟩)) (hz : ρ z = .int .i64 m) : (execOp ρ o).run Tryd.prog w = .ok (.value (.slice (some ⟨g, off, none⟩) m.toNat 16)) w := by
  obtain ⟨n, rfl⟩ := Int.eq_ofNat_of_zero_le (Int.le_of_lt h0)
  have h : (Instr.sliceAt 25 (.pointer (some ⟨g, off, none⟩)) none (some (.int .i64 (n : Int))) none).run Tryd.prog w = .ok (.slice (some ⟨g, off, none⟩) n 16) w := by
    have e1 : (0 ≤ (n : Int) ∧ (n : Int) ≤ 16) := by omega
    have e2 : n ≤ 16 := by omega
    simp [Instr.sliceAt, Instr.sliceBounds, Instr.sliceBound, Instr.sureAddr, asIntOf, run_underlying Tryd.underlying25, Tryd.sizeOf5, Addr.add_mid, e1, e2]
  unfold execOp
  simp only [ho, hx, hz, Option.map_none, Option.map_some, Sem.run_bind, h, Result.andThen_ok, Sem.run_pure, Int.toNat_natCast]
end
section
variable {w : World} {b off : Nat}
theorem faR0 : (Instr.fieldAt 27 (.pointer (some ⟨b, 0, none⟩)) 0).run Tryd.prog w = .ok (.pointer (some ⟨b, 0, none⟩)) w := by kernel_rfl
theorem faR1 : (Instr.fieldAt 27 (.pointer (some ⟨b, 0, none⟩)) 1).run Tryd.prog w = .ok (.pointer (some ⟨b, 3, none⟩)) w := by kernel_rfl
theorem faG0 : (Instr.fieldAt 24 (.pointer (some ⟨b, 0, none⟩)) 0).run Tryd.prog w = .ok (.pointer (some ⟨b, 0, none⟩)) w := by kernel_rfl
theorem ldInt {ad : Addr} {k : Int} (h : w.cell? ad = some (.int .i64 k)) : (Instr.loadAt 3 (.pointer (some ad))).run Tryd.prog w = .ok (.int .i64 k) w := by simp [go_sem, h]
end
set_option maxHeartbeats 2000000 in
theorem pstates (x : Ros) (w : World) (h0 : 0 < x.m) (h16 : x.m ≤ 16) : Calls Tryd.prog 52 #[ros x] w fun e w' => e = .returned (.bool (staB x && decide (heals x ≤ 1))) ∧ Below w.heap.size w w' := by
  obtain ⟨h1, h2, h3⟩ := boxR_new w x
  have HR := Lib.hid (h1.past (.cells (vals (List.replicate 16 0)).toArray 25))
  have HB := Lib.hid (h2.alloc h2.size (.cells (vals (List.replicate 16 0)).toArray 25))
  have HM : Hid (RowL ((w.alloc (.cells (celR x).toArray 27)).alloc (.cells (vals (List.replicate 16 0)).toArray 25)) (w.heap.size + 1) 25 (List.replicate 16 0)) := by
    have := RowL.new (w.alloc (.cells (celR x).toArray 27)) (List.replicate 16 0) 25
    rw [World.size_alloc] at this
    exact Lib.hid this
  clear h1 h2 h3
  have HML := Lib.hid (memL_length (x := x))
  have HSL := Lib.hid (stL_length x.st)
  have HBIG : Hid (∀ k, k < 16 → 2 < bt (memL x) k → staB x = false) := Lib.hid fun k hk hb => memL_big (by omega) h16 hk hb
  have HALL : Hid ((∀ k, k < 16 → bt (memL x) k ≤ 2) → staB x = decide (memL x = x.st.toList)) := Lib.hid fun h => memL_all (by omega) h16 h
  have HDEF : Hid (splice (List.replicate 16 0) 0 (x.st.toList.take x.m.toNat) = memL x) := Lib.hid rfl
  go_enter Tryd.func52, Tryd.ntmps52
  go_wp2_with (first | (refine wpList_valn rfl (exec_boxR rfl rfl) ?_) | (refine wpList_valn rfl (exec_alloc16 rfl) ?_) | fail)
  simp only [World.size_alloc]
  generalize (w.alloc (.cells (celR x).toArray 27)).alloc (.cells (vals (List.replicate 16 0)).toArray 25) = w1 at *
  have c0 := HR.out.cells.1
  have HRD := Lib.hid (HR.out.rd (m := x.m.toNat) (by omega))
  refine wp_region_still_tail 6 (by kernel_rfl) (by kernel_rfl) ?_
  simp only [List.take_succ_cons, List.take_zero, List.drop_succ_cons, List.drop_zero]
  refine st_val rfl (exec_all16 rfl (ev rfl)) ?_
  simp only [Act.put, List.setIfInBounds_toArray, List.set_cons_succ, List.set_cons_zero]
  refine st_val rfl (exec_faddr rfl (ev rfl) faR1) ?_
  simp only [Act.put, List.setIfInBounds_toArray, List.set_cons_succ, List.set_cons_zero]
  refine st_val rfl (exec_faddr rfl (ev rfl) faR0) ?_
  simp only [Act.put, List.setIfInBounds_toArray, List.set_cons_succ, List.set_cons_zero]
  refine st_val rfl (exec_faddr rfl (ev rfl) faG0) ?_
  simp only [Act.put, List.setIfInBounds_toArray, List.set_cons_succ, List.set_cons_zero]
  refine st_val rfl (exec_ld rfl (ev rfl) (ldInt c0)) ?_
  simp only [Act.put, List.setIfInBounds_toArray, List.set_cons_succ, List.set_cons_zero]
  refine st_val rfl (exec_first16 h0 h16 rfl (ev rfl) (ev rfl)) ?_
  simp only [Act.put, List.setIfInBounds_toArray, List.set_cons_succ, List.set_cons_zero]
  refine wpStill_nil ?_
  change wpList _ _ _ _ _ (World.drew _)
  refine wpList_copyL rfl _ _ rfl (w.heap.size + 1) 0 16 16 x.m.toNat 16 _ _ 25 (List.replicate 16 0) (x.st.toList.take x.m.toNat) (ev rfl) (ev rfl) HM.out.draw HRD.out (by omega) (by simp; omega) ?_
  intro w2 hr2 hg2
  rw [HDEF.out] at hr2
  have HR2 : Hid (RosAt w2 w.heap.size x) := Lib.hid ((hg2.block w.heap.size (blk_lt HR.out) (fun e => by injection e with e; omega)).trans HR.out)
  have HM2 := Lib.hid hr2
  have HM2R := Lib.hid (rng_at hr2)
  have HB2 : Hid (Below w.heap.size w w2) := Lib.hid ((bd HB.out).grown hg2 HB.out.size (fun k hk => by injection hk with e; omega))
  have HZ2 : Hid (w.heap.size < w2.heap.size) := Lib.hid (blk_lt HR2.out)
  clear hr2 hg2 HR HM HB HRD c0
  simp only [Act.put, List.setIfInBounds_toArray, List.set_cons_succ, List.set_cons_zero]
  refine wpList_nil ?_
  go_wp2_with (first | (refine wpList_valn rfl (exec_load16 HML.out rfl rfl ?_) ?_; (with_reducible exact HM2R.out)) | fail)
  have HW2 := Lib.hid (show w2 = w2 from rfl)
  go_loop [14] (fun i => ∃ j : Nat, j ≤ 16 ∧ i = .int .i64 j ∧ ∀ k, k < j → bt (memL x) k ≤ 2) (fun i => 16 - (intOf i).toNat)
  case atStart => exact ⟨0, Nat.zero_le _, rfl, fun k hk => absurd hk (by omega)⟩
  case round =>
    obtain ⟨j, hj, rfl, hall⟩ := hrel
    have HA := Lib.hid hall
    clear hall
    by_cases hlt : j < 16
    · by_cases h2 : 2 < bt (memL x) j
      · have HF := Lib.hid (HBIG.out j hlt h2)
        go_wp2_with (first | (refine wpList_valn rfl (exec_ix16 (l := memL x) (j := j) HML.out hlt rfl rfl rfl) ?_) | fail)
        go_ret
        exact ⟨ret_bool (by rw [HF.out]; rfl), HB2.out⟩
      · have h2' : bt (memL x) j ≤ 2 := by omega
        have HN : Hid (∀ k, k < j + 1 → bt (memL x) k ≤ 2) := Lib.hid fun k hk => by
          by_cases e : k = j
          · rw [e]; exact h2'
          · exact HA.out k (by omega)
        go_wp2_with (first | (refine wpList_valn rfl (exec_ix16 (l := memL x) (j := j) HML.out hlt rfl rfl rfl) ?_) | fail)
        go_round
        case rel => exact ⟨j + 1, by omega, by go_num, HN.out⟩
        case measure => simp [intOf]; omega
    · have e : j = 16 := by omega
      subst e
      have HE := Lib.hid (HALL.out HA.out)
      cases hs : staB x
      · rw [hs] at HE
        have HD : Hid (decide (memL x = x.st.toList) = false) := Lib.hid HE.out.symm
        have HS := Lib.hid hs
        clear hs HE
        go_wp2_with (first | (refine wpList_valn rfl (exec_load16 HML.out rfl rfl ?_) ?_; (with_reducible exact HM2R.out)) | (refine wpList_valn rfl (exec_load16 HSL.out rfl rfl ?_) ?_; (with_reducible exact HR2.out.sts)) | (refine wpList_valn rfl (exec_eq16 false HML.out HSL.out rfl rfl rfl HD.out) ?_) | fail)
        go_ret
        exact ⟨ret_bool (by rw [HS.out]; rfl), HB2.out⟩
      · rw [hs] at HE
        have HD : Hid (decide (memL x = x.st.toList) = true) := Lib.hid HE.out.symm
        have HS := Lib.hid hs
        clear hs HE
        go_wp2_with (first | (refine wpList_valn rfl (exec_load16 HML.out rfl rfl ?_) ?_; (with_reducible exact HM2R.out)) | (refine wpList_valn rfl (exec_load16 HSL.out rfl rfl ?_) ?_; (with_reducible exact HR2.out.sts)) | (refine wpList_valn rfl (exec_eq16 true HML.out HSL.out rfl rfl rfl HD.out) ?_) | (refine wpList_val (by rfl) (exec_loadR (c := x) rfl rfl ?_) ?_; (with_reducible exact HR2.out.range)) | fail)
        refine (pheal x w2).mono ?_
        rintro e w3 ⟨rfl, hb⟩
        have HB3 := Lib.hid (HB2.out.trans (hb.mono (Nat.le_of_lt HZ2.out)))
        clear hb
        go_wp2
        go_ret
        exact ⟨ret_bool (by rw [HS.out, Bool.true_and, decide_eq_decide]; omega), HB3.out⟩
theorem fine_split (x : Ros) : fineB x = (geoB x && ((staB x && decide (heals x ≤ 1)) && curB x)) := by
  unfold fineB curB
  by_cases hg : geoB x = true
  · have hs := (geoB_iff.1 hg).2.2.1
    rw [hg, Bool.true_and, Bool.true_and]
    cases staB x
    · rfl
    · by_cases hh : heals x ≤ 1
      · rw [decide_eq_true hh]
        simp only [Bool.true_and]
        split
        · rw [decide_eq_decide]; omega
        · rw [decide_eq_decide]; omega
      · rw [decide_eq_false hh]; rfl
  · rw [Bool.eq_false_iff.2 hg]; rfl
set_option maxHeartbeats 2000000 in
theorem proster (x : Ros) (w : World) : Calls Tryd.prog 28 #[ros x] w fun e w' => e = .returned (.bool (fineB x)) ∧ Below w.heap.size w w' := by
  have HF := Lib.hid (fine_split x)
  obtain ⟨h1, h2, h3⟩ := boxR_new w x
  have HR := Lib.hid h1
  have HB := Lib.hid h2
  have HZ := Lib.hid h3
  clear h1 h2 h3
  go_enter Tryd.func28, Tryd.ntmps28
  go_wp2_with (first | (refine wpList_valn rfl (exec_boxR rfl rfl) ?_) | (refine wpList_valn rfl (exec_loadG (c := x) rfl rfl ?_) ?_; (with_reducible exact HR.out.geo)) | fail)
  generalize w.alloc (.cells (celR x).toArray 27) = w1 at *
  refine (pgmay x w1).mono ?_
  rintro e w2 ⟨rfl, hb⟩
  have HR2 := Lib.hid (HR.out.below HZ.out hb)
  have HB2 := Lib.hid (HB.out.trans (hb.mono (Nat.le_of_lt HZ.out)))
  have HZ2 := Lib.hid (blk_lt HR2.out)
  clear hb HR HB HZ
  cases hg : geoB x
  · rw [hg] at HF
    go_wp2_with fail
    go_ret
    exact ⟨ret_bool (by rw [HF.out]; rfl), HB2.out⟩
  · rw [hg] at HF
    have hgg := geoB_iff.1 hg
    clear hg
    go_wp2_with (first | (refine wpList_val (by rfl) (exec_loadR (c := x) rfl rfl ?_) ?_; (with_reducible exact HR2.out.range)) | fail)
    refine (pstates x w2 (by omega) (by omega)).mono ?_
    rintro e w3 ⟨rfl, hb⟩
    have HR3 := Lib.hid (HR2.out.below HZ2.out hb)
    have HB3 := Lib.hid (HB2.out.trans (hb.mono (Nat.le_of_lt HZ2.out)))
    have HZ3 := Lib.hid (blk_lt HR3.out)
    clear hb HR2 HB2 HZ2 hgg
    generalize (staB x && decide (heals x ≤ 1)) = p at *
    cases p
    · go_wp2_with fail
      go_ret
      exact ⟨ret_bool (by rw [HF.out]; rfl), HB3.out⟩
    · go_wp2_with (first | (refine wpList_val (by rfl) (exec_loadR (c := x) rfl rfl ?_) ?_; (with_reducible exact HR3.out.range)) | fail)
      refine (pcur x w3).mono ?_
      rintro e w4 ⟨rfl, hb⟩
      have HB4 := Lib.hid (HB3.out.trans (hb.mono (Nat.le_of_lt HZ3.out)))
      clear hb
      generalize curB x = q at *
      go_wp2_with fail
      go_ret
      exact ⟨ret_bool (by rw [HF.out]; rfl), HB4.out⟩
theorem sup_split (x : Sup) : supB x = (decide (x.id ≠ 0) && (fineB x.ros && decide (0 ≤ x.self ∧ x.self < x.ros.m))) := by unfold supB; rw [Bool.and_assoc]
set_option maxHeartbeats 2000000 in
theorem pmay (x : Sup) (w : World) : Calls Tryd.prog 10 #[sup x] w fun e w' => e = .returned (.bool (supB x)) ∧ Below w.heap.size w w' := by
  have HF := Lib.hid (sup_split x)
  obtain ⟨h1, h2, h3⟩ := boxS_new w x
  have HR := Lib.hid h1
  have HB := Lib.hid h2
  have HZ := Lib.hid h3
  obtain ⟨c0, c1, c2, c3, c4, c5, c6⟩ := h1.cells
  clear h1 h2 h3
  go_enter Tryd.func10, Tryd.ntmps10
  by_cases hid : x.id = 0
  · rw [decide_eq_false (by simpa using hid)] at HF
    have hd : ((x.id : Int) != 0) = false := by rw [hid]; rfl
    go_wp2_with (first | (refine wpList_valn rfl (exec_boxS rfl rfl) ?_) | fail)
    go_ret
    exact ⟨ret_bool (by rw [HF.out]; rfl), HB.out⟩
  · rw [decide_eq_true (by simpa using hid)] at HF
    have hd : ((x.id : Int) != 0) = true := by simp; omega
    go_wp2_with (first | (refine wpList_valn rfl (exec_boxS rfl rfl) ?_) | (refine wpList_val (by rfl) (exec_loadR (c := x.ros) rfl rfl ?_) ?_; (with_reducible exact HR.out.rosr)) | fail)
    generalize w.alloc (.cells (celS x).toArray 29) = w1 at *
    clear c0 c1 c2 c3 c4 c5 c6
    refine (proster x.ros w1).mono ?_
    rintro e w2 ⟨rfl, hb⟩
    obtain ⟨c0, c1, c2, c3, c4, c5, c6⟩ := (HR.out.below HZ.out hb).cells
    have HB2 := Lib.hid (HB.out.trans (hb.mono (Nat.le_of_lt HZ.out)))
    clear hb HR HB HZ hd hid
    generalize fineB x.ros = p at *
    generalize x.self = a at *
    generalize x.ros.m = m at *
    cases p
    · go_wp2_with fail
      go_ret
      exact ⟨ret_bool (by rw [HF.out]; rfl), HB2.out⟩
    · by_cases ha : 0 ≤ a
      · go_wp2
        go_ret
        exact ⟨ret_bool (by rw [HF.out]; simp [ha]), HB2.out⟩
      · have ha' : a < 0 := by omega
        go_wp2
        go_ret
        exact ⟨ret_bool (by rw [HF.out]; simp; omega), HB2.out⟩
end Go.Proofs.YtiilclncedipiaaDoor
namespace Go.Proofs.YtiilclncedipiaaDoor
open Go.RowKit
set_option linter.unusedVariables false
set_option linter.unusedSimpArgs false
set_option maxRecDepth 100000

/-- The function that cuts piece by piece: where it is, and what it cuts, lie in blocks p and q. -/
def onwV (p q : Nat) : Value := .func (.func 60) #[] #[.pointer (some ⟨p, 0, none⟩), .pointer (some ⟨q, 0, none⟩)]
def CutAt (w : World) (p q : Nat) (S : Value) (k : Nat) : Prop := w.heap[p]? = some (.cells #[.int .i64 (k : Int)] 3 (0, 0)) ∧ w.heap[q]? = some (.cells #[S] 39 (0, 0))
theorem cell1 {w : World} {b : Nat} {t : TypeId} {x : Value} (h : w.heap[b]? = some (.cells #[x] t (0, 0))) : w.cell? ⟨b, 0, none⟩ = some x ∧ w.frozen? ⟨b, 0, none⟩ = false :=
  ⟨by rw [cell_of_row w b 0 _ t (0, 0) h]; rfl, frozen_of_row w b 0 _ t h⟩
theorem set1 {w : World} {b : Nat} {t : TypeId} {x : Value} (h : w.heap[b]? = some (.cells #[x] t (0, 0))) (y : Value) : (w.setCell ⟨b, 0, none⟩ y).heap[b]? = some (.cells #[y] t (0, 0)) := by
  have := heap_setCell_same w b 0 #[x] t y h
  simpa using this
theorem grown_set (w : World) (b o : Nat) (y : Value) : w.grownBy (w.setCell ⟨b, o, none⟩ y) (some b) :=
  ⟨rfl, rfl, rfl, by simp [World.setCell], fun k hk hne => heap_setCell_other w ⟨b, o, none⟩ k y (fun e => hne (by rw [e]))⟩
set_option maxHeartbeats 1000000 in
theorem onward_any (S : Value) (A : Option Addr) (n c : Nat) (hS : S = .slice A n c) (w : World) : Calls Tryd.prog 42 #[S] w fun e w' => ∃ p q, e = .returned (onwV p q) ∧ CutAt w' p q S 0 ∧ w.heap.size ≤ p ∧ w.heap.size ≤ q ∧ p ≠ q ∧ p < w'.heap.size ∧ q < w'.heap.size ∧ Below w.heap.size w w' := by
  subst hS
  have hmf : ∀ (fn : Fn) (first cap : Array Value) (w : World), (Instr.makeFunc fn first cap).run Tryd.prog w = .ok (.func fn first cap) w := fun _ _ _ _ => rfl
  go_enter Tryd.func42, Tryd.ntmps42
  go_wp2
  go_ret
  have e1 := World.size_alloc (w := w) (o := Obj.cells #[Value.slice A n c] 39)
  refine ⟨w.heap.size + 1, w.heap.size, rfl, ⟨?_, ?_⟩, by omega, by omega, by omega, ?_, ?_, ?_⟩
  · have := heap_alloc_new (w.alloc (.cells #[.slice A n c] 39)) (.cells #[.int .i64 0] 3)
    rwa [e1] at this
  · exact blk_past (heap_alloc_new w _) _
  · simp only [World.size_alloc]; omega
  · simp only [World.size_alloc]; omega
  · exact ((Below.refl _ w).alloc (Nat.le_refl _) _).alloc (by simp only [World.size_alloc]; omega) _
theorem cut_sl (g off n c : Nat) (w : World) {i j : Nat} (h1 : i < j) (h2 : j ≤ n) (h3 : n ≤ c) : (Instr.sliceAt 39 (.slice (some ⟨g, off, none⟩) n c) (some (.int .i64 (i : Int))) (some (.int .i64 (j : Int))) (some (.int .i64 (j : Int)))).run Tryd.prog w = .ok (.slice (some ⟨g, off + i, none⟩) (j - i) (j - i)) w := by
  have e1 : (0 ≤ (j : Int) ∧ (j : Int) ≤ (c : Int)) := by omega
  have e2 : (0 ≤ (j : Int) ∧ (j : Int) ≤ (j : Int)) := by omega
  have e3 : (0 ≤ (i : Int) ∧ (i : Int) ≤ (j : Int)) := by omega
  have e4 : j ≠ i := by omega
  have e5 : i ≤ j := by omega
  have e6 : j ≤ c := by omega
  simp [Instr.sliceAt, Instr.slice, Instr.sliceBounds, Instr.sliceBound, Instr.sureAddr, asIntOf, run_underlying Tryd.underlying39, Tryd.sizeOf5, Addr.add_mid, e1, e2, e3, e4, e5, e6]
set_option maxHeartbeats 1000000 in
theorem onw1 (p q g off n c k s : Nat) (w : World) (h : CutAt w p q (.slice (some ⟨g, off, none⟩) n c) k) (hpq : p ≠ q) (hs : 0 < s) (hk : k + s ≤ n) (hc : n ≤ c) (hn : n ≤ 1000000) :
    Calls Tryd.prog 60 #[.int .i64 (s : Int), .pointer (some ⟨p, 0, none⟩), .pointer (some ⟨q, 0, none⟩)] w fun e w' => e = .returned (.slice (some ⟨g, off + k, none⟩) s s) ∧ CutAt w' p q (.slice (some ⟨g, off, none⟩) n c) (k + s) ∧ w.grownBy w' (some p) := by
  obtain ⟨h1, h2⟩ := h
  obtain ⟨a1, a2⟩ := cell1 h1
  obtain ⟨b1, b2⟩ := cell1 h2
  have s1 := set1 h1 (.int .i64 ((k : Int) + s))
  have s2 : (w.setCell ⟨p, 0, none⟩ (.int .i64 ((k : Int) + s))).heap[q]? = some (.cells #[.slice (some ⟨g, off, none⟩) n c] 39 (0, 0)) := (heap_setCell_other w ⟨p, 0, none⟩ q _ (fun e => hpq e.symm)).trans h2
  have d1 := (cell1 s1).1
  have d2 := (cell1 s2).1
  have hg := grown_set w p 0 (.int .i64 ((k : Int) + s))
  have S1 := Lib.hid s1
  have S2 := Lib.hid s2
  have HG := Lib.hid hg
  have HCUT : Hid (∀ w : World, (Instr.sliceAt 39 (.slice (some ⟨g, off, none⟩) n c) (some (.int .i64 (k : Int))) (some (.int .i64 ((k : Int) + (s : Int)))) (some (.int .i64 ((k : Int) + (s : Int))))).run Tryd.prog w = .ok (.slice (some ⟨g, off + k, none⟩) s s) w) := Lib.hid fun w => by
    have := cut_sl g off n c w (i := k) (j := k + s) (by omega) hk hc
    rw [show k + s - k = s from by omega] at this
    exact this
  clear h1 h2 s1 s2 hg b1 b2
  go_enter Tryd.func60, Tryd.ntmps60
  go_wp2_with (first | (refine wpList_valn rfl (exec_cut3 rfl rfl rfl rfl rfl (HCUT.out _)) ?_) | fail)
  go_ret
  exact ⟨rfl, ⟨S1.out, S2.out⟩, HG.out⟩

/-! ### Laying -/
theorem splice_pad {a x : List UInt8} (h : a.length + x.length ≤ 44) : splice (padL a) a.length x = padL (a ++ x) := by
  unfold splice padL
  rw [List.take_append_of_le_length (Nat.le_refl _), List.take_length, List.drop_append]
  rw [List.drop_of_length_le (by omega), List.nil_append, List.drop_replicate, List.append_assoc, List.length_append]
  congr 3
  omega
/-- What stands while a body is laid: the superblock, its roster, the result, the body, the cutter; 'a' is laid. -/
structure LayW (B : Nat) (w0 w : World) (x : Sup) (sb rb r nb p q g : Nat) (a : List UInt8) : Prop where
  sup : SupAt w sb x
  ros : RosAt w rb x.ros
  res : RowL w r 52 z44
  nxt : w.heap[nb]? = some (.cells #[onwV p q] 72 (0, 0))
  cut : CutAt w p q (.slice (some ⟨g, 0, none⟩) 44 44) a.length
  row : RowL w g 52 (padL a)
  bel : Below B w0 w
  p0 : B ≤ p
  g0 : B ≤ g
  dif : sb ≠ p ∧ sb ≠ g ∧ rb ≠ p ∧ rb ≠ g ∧ r ≠ p ∧ r ≠ g ∧ nb ≠ p ∧ nb ≠ g ∧ p ≠ q ∧ p ≠ g ∧ q ≠ g
theorem grown_blk {w w' : World} {b k : Nat} {o : Obj} (h : w.heap[b]? = some o) (hg : w.grownBy w' (some k)) (hne : b ≠ k) : w'.heap[b]? = some o := (hg.block b (blk_lt h) (fun e => hne (by injection e))).trans h
section
variable {B : Nat} {w0 w w' : World} {x : Sup} {sb rb r nb p q g : Nat} {a b : List UInt8}
theorem LayW.keep (h : LayW B w0 w x sb rb r nb p q g a) (hb : Below w.heap.size w w') (hB : B ≤ w0.heap.size) : LayW B w0 w' x sb rb r nb p q g a :=
  ⟨blk_keep h.sup hb, blk_keep h.ros hb, blk_keep h.res hb, blk_keep h.nxt hb, ⟨blk_keep h.cut.1 hb, blk_keep h.cut.2 hb⟩, blk_keep h.row hb, h.bel.trans (hb.mono (Nat.le_trans hB h.bel.size)), h.p0, h.g0, h.dif⟩
theorem LayW.cutR (h : LayW B w0 w x sb rb r nb p q g a) (hc : CutAt w' p q (.slice (some ⟨g, 0, none⟩) 44 44) b.length) (hr : RowL w' g 52 (padL b)) (hg : ∃ w1, w.grownBy w1 (some p) ∧ w1.grownBy w' (some g)) (hB : B ≤ w0.heap.size) : LayW B w0 w' x sb rb r nb p q g b := by
  obtain ⟨w1, k1, k2⟩ := hg
  obtain ⟨d1, d2, d3, d4, d5, d6, d7, d8, d9, d10, d11⟩ := h.dif
  have hb1 : Below B w0 w1 := h.bel.grown k1 (Nat.le_trans hB h.bel.size) (fun k hk => by injection hk with e; have := h.p0; omega)
  have hb2 : Below B w0 w' := hb1.grown k2 (Nat.le_trans hB hb1.size) (fun k hk => by injection hk with e; have := h.g0; omega)
  exact ⟨grown_blk (grown_blk h.sup k1 d1) k2 d2, grown_blk (grown_blk h.ros k1 d3) k2 d4, grown_blk (grown_blk h.res k1 d5) k2 d6, grown_blk (grown_blk h.nxt k1 d7) k2 d8, hc, hr, hb2, h.p0, h.g0, h.dif⟩
end
theorem Made.kept1 {w w' : World} {B : Nat} {v : Value} {l : List UInt8} {row : Option Nat} (h : Made w B v l) (hg : w.grownBy w' row) (hne : ∀ k, row = Option.some k → k < B) : Made w' B v l := by
  refine ⟨h.1, ?_⟩
  rcases h.2 with hn | ⟨g, cap, cur, rfl, hbg, hgg, rest⟩
  · exact .inl hn
  · refine .inr ⟨g, cap, cur, rfl, hbg, ?_, rest⟩
    rw [hg.block g (Array.getElem?_eq_some_iff.1 hgg).1 (fun e => by have := hne g e.symm; omega)]
    exact hgg
set_option maxHeartbeats 1000000 in
theorem lay1 (B : Nat) (w0 w : World) (x : Sup) (sb rb r nb p q g : Nat) (a : List UInt8) (n k : Nat) (h : LayW B w0 w x sb rb r nb p q g a) (hB : B ≤ w0.heap.size) (h1 : 1 ≤ k) (h2 : k ≤ 8) (hk : a.length + k ≤ 44) (hn : n < 256 ^ k) :
    Calls Tryd.prog 43 #[.int .u64 n, .int .i64 k, .pointer (some ⟨nb, 0, none⟩)] w fun e w' => e = .returned (.tuple #[]) ∧ LayW B w0 w' x sb rb r nb p q g (a ++ digL 8 k n) := by
  have HH := Lib.hid h
  have HL := Lib.hid (length_digL 8 k n)
  have HSP := Lib.hid (splice_pad (a := a) (x := digL 8 k n) (by rw [length_digL]; exact hk))
  have HPL := Lib.hid (padL_length (b := a) (by omega))
  have HPP := Lib.hid (blk_lt h.cut.1)
  clear h
  go_enter Tryd.func43, Tryd.ntmps43
  go_wp2_with fail
  refine (put_ok n k w h1 h2 hn).mono ?_
  rintro e w1 ⟨v, rfl, hv, hb⟩
  have hvm := hv.made
  obtain ⟨A, c, rfl, _, _, _⟩ := hvm.open_ HL.out
  have HV := Lib.hid hvm
  have H1 := Lib.hid (HH.out.keep hb hB)
  have c0 := (cell1 H1.out.nxt).1
  unfold onwV at c0
  clear hv hvm hb HH
  go_wp2_with fail
  refine (onw1 p q g 0 44 44 a.length k w1 H1.out.cut H1.out.dif.2.2.2.2.2.2.2.2.1 h1 hk (Nat.le_refl _) (by omega)).mono ?_
  rintro e w2 ⟨rfl, hc2, hg2⟩
  clear c0
  have HC2 := Lib.hid hc2
  have HG2 := Lib.hid hg2
  have HROW2 : Hid (RowL w2 g 52 (padL a)) := Lib.hid (grown_blk H1.out.row hg2 (fun e => H1.out.dif.2.2.2.2.2.2.2.2.2.1 e.symm))
  have HRD2 : Hid (Rd w2 w2.heap.size A k (digL 8 k n)) := Lib.hid (by
    have := (HV.out.kept1 hg2 (fun j hj => by injection hj with e; have := HPP.out; omega)).rd
    exact this)
  clear hc2 hg2
  go_wp2_with (first | (refine wpList_copyL rfl _ _ rfl g a.length k k k c _ A 52 (padL a) (digL 8 k n) rfl rfl HROW2.out HRD2.out (Nat.le_refl _) ?_ ?_) | fail)
  · rw [HPL.out]; omega
  intro w3 hr3 hg3
  rw [HSP.out] at hr3
  have hdf := H1.out.dif
  have hc3 : CutAt w3 p q (.slice (some ⟨g, 0, none⟩) 44 44) (a ++ digL 8 k n).length := by
    rw [List.length_append, HL.out]
    exact ⟨grown_blk HC2.out.1 hg3 hdf.2.2.2.2.2.2.2.2.2.1, grown_blk HC2.out.2 hg3 hdf.2.2.2.2.2.2.2.2.2.2⟩
  have H3 := Lib.hid (H1.out.cutR hc3 hr3 ⟨w2, HG2.out, hg3⟩ hB)
  clear hr3 hg3 hdf hc3
  go_wp2_with fail
  go_end0
  exact ⟨rfl, H3.out⟩
end Go.Proofs.YtiilclncedipiaaDoor
