import Derived.Test.YtnliphgjcaippaaGreatDoorHsae
import Derived.Test.YtnliphgjcaippaaGreatDoorHsaa
import Derived.Test.YtnliphgjcaippaaGreatDoorHsab
import Derived.Test.YtnliphgjcaippaaGreatDoorHsac
import Derived.Test.YtnliphgjcaippaaGreatDoorHsZ
namespace Go.Proofs.YtnliphgjcaippaaGreatDoor
open Go.RowKit
set_option linter.unusedVariables false
structure Sup where
  id : Nat
  self : Int
  ros : Ros
deriving DecidableEq
def a7 : Sup := ⟨0, 0, aZ⟩
def supB (x : Sup) : Bool := decide (x.id ≠ 0) && aS x.ros && decide (0 ≤ x.self ∧ x.self < x.ros.m)
theorem of_supB {x : Sup} (h : supB x = true) : x.id ≠ 0 ∧ aS x.ros = true ∧ 0 ≤ x.self ∧ x.self < x.ros.m := by
  unfold supB at h
  simp only [Bool.and_eq_true, decide_eq_true_eq] at h
  exact ⟨h.1.1, h.1.2, h.2⟩
def goneN (b : Bool) : Nat := if b then 1 else 0
def ct (x : Sup) : List UInt8 :=
  aC 8 8 x.id ++ (aC 8 1 x.ros.m.toNat ++ (aC 8 2 x.ros.s.toNat ++ (aC 8 2 x.ros.r.toNat ++ (aC 8 1 x.self.toNat ++ (aC 8 4 (val 2 x.ros.st.toList) ++ (aC 8 2 x.ros.cur.toNat ++ aC 8 1 (goneN x.ros.gone)))))))
theorem c8 (x : Sup) : (ct x).length = 21 := by simp [ct, ar]
def bO (x : Sup) : List UInt8 := cW (ct x)
theorem cv (x : Sup) : (bO x).length = 44 := dk (by rw [c8]; omega)
theorem putE_full (n : Nat) (x : Sup) : putE n (bO x) = putE n (ct x) := by
  unfold putE; rw [cv, c8]; simp
theorem putB_full (n : Nat) (x : Sup) : cX n (bO x) = cX n (ct x) := by
  unfold cX; rw [putE_full]; unfold bO; rw [sealL_pad n (by rw [c8]; omega)]
def bm (l : List UInt8) : Sup :=
  ⟨val 8 (piece l 0 8), (val 8 (piece l 13 1) : Nat), ⟨(val 8 (piece l 8 1) : Nat), (val 8 (piece l 9 2) : Nat), (val 8 (piece l 11 2) : Nat), ofSt (aC 2 16 (val 8 (piece l 14 4))), (val 8 (piece l 18 2) : Nat), decide (val 8 (piece l 20 1) = 1)⟩⟩
theorem st_small {x : Ros} (h : staB x = true) : ∀ u ∈ x.st.toList, u.toNat < 2 ^ 2 := by
  intro u hu
  obtain ⟨j, hj, rfl⟩ := List.getElem_of_mem hu
  have h2 := (of_staB h).1 j (by simpa using hj)
  unfold sta at h2
  rw [cp hj] at h2
  omega
theorem sta_val {x : Ros} (h : staB x = true) : val 2 x.st.toList < 2 ^ 32 := by
  have := val_lt (st_small h)
  simpa using this
section
variable (x : Sup)
private theorem pc (a b c : List UInt8) {p k : Nat} (h : bO x = a ++ (b ++ c)) (hp : a.length = p) (hk : b.length = k) : piece (bO x) p k = b := by rw [h]; exact piece_mid _ _ _ hp hk
theorem full_0 : piece (bO x) 0 8 = aC 8 8 x.id := by
  unfold bO cW ct
  rw [List.append_assoc]
  exact piece_head _ _ (ar _ _ _)
theorem full_8 : piece (bO x) 8 1 = aC 8 1 x.ros.m.toNat :=
  pc x (aC 8 8 x.id) _ _ (by unfold bO cW ct; simp only [List.append_assoc]; rfl) (by simp [ar]) (by simp [ar])
theorem full_9 : piece (bO x) 9 2 = aC 8 2 x.ros.s.toNat :=
  pc x (aC 8 8 x.id ++ aC 8 1 x.ros.m.toNat) _ _ (by unfold bO cW ct; simp only [List.append_assoc]; rfl) (by simp [ar]) (by simp [ar])
theorem full_11 : piece (bO x) 11 2 = aC 8 2 x.ros.r.toNat :=
  pc x (aC 8 8 x.id ++ aC 8 1 x.ros.m.toNat ++ aC 8 2 x.ros.s.toNat) _ _ (by unfold bO cW ct; simp only [List.append_assoc]; rfl) (by simp [ar]) (by simp [ar])
theorem full_13 : piece (bO x) 13 1 = aC 8 1 x.self.toNat :=
  pc x (aC 8 8 x.id ++ aC 8 1 x.ros.m.toNat ++ aC 8 2 x.ros.s.toNat ++ aC 8 2 x.ros.r.toNat) _ _ (by unfold bO cW ct; simp only [List.append_assoc]; rfl) (by simp [ar]) (by simp [ar])
theorem full_14 : piece (bO x) 14 4 = aC 8 4 (val 2 x.ros.st.toList) :=
  pc x (aC 8 8 x.id ++ aC 8 1 x.ros.m.toNat ++ aC 8 2 x.ros.s.toNat ++ aC 8 2 x.ros.r.toNat ++ aC 8 1 x.self.toNat) _ _ (by unfold bO cW ct; simp only [List.append_assoc]; rfl) (by simp [ar]) (by simp [ar])
theorem full_18 : piece (bO x) 18 2 = aC 8 2 x.ros.cur.toNat :=
  pc x (aC 8 8 x.id ++ aC 8 1 x.ros.m.toNat ++ aC 8 2 x.ros.s.toNat ++ aC 8 2 x.ros.r.toNat ++ aC 8 1 x.self.toNat ++ aC 8 4 (val 2 x.ros.st.toList)) _ _ (by unfold bO cW ct; simp only [List.append_assoc]; rfl) (by simp [ar]) (by simp [ar])
theorem full_20 : piece (bO x) 20 1 = aC 8 1 (goneN x.ros.gone) :=
  pc x (aC 8 8 x.id ++ aC 8 1 x.ros.m.toNat ++ aC 8 2 x.ros.s.toNat ++ aC 8 2 x.ros.r.toNat ++ aC 8 1 x.self.toNat ++ aC 8 4 (val 2 x.ros.st.toList) ++ aC 8 2 x.ros.cur.toNat) _ _ (by unfold bO cW ct; simp only [List.append_assoc]; rfl) (by simp [ar]) (by simp [ar])
end
theorem told_full {x : Sup} (hid : x.id < 18446744073709551616) (h : supB x = true) : bm (bO x) = x := by
  obtain ⟨_, hf, h1, h2⟩ := of_supB h
  obtain ⟨hg, hs, _, h3, h4, _⟩ := cT hf
  obtain ⟨g1, g2, g3, g4, g5, g6⟩ := dD hg
  obtain ⟨id, self, m, s, r, st, cur, gone⟩ := x
  simp only at *
  unfold bm
  rw [full_0, full_8, full_9, full_11, full_13, full_14, full_18, full_20]
  simp only
  have hv := sta_val hs
  simp only at hv
  rw [val_dig (k := 8) (by omega), val_dig (k := 1) (n := self.toNat) (by omega), val_dig (k := 1) (n := m.toNat) (by omega), val_dig (k := 2) (n := s.toNat) (by omega), val_dig (k := 2) (n := r.toNat) (by omega), val_dig (k := 4) (by omega), val_dig (k := 2) (n := cur.toNat) (by omega), val_dig (k := 1) (n := goneN gone) (by unfold goneN; split <;> omega)]
  have hd : aC 2 16 (val 2 st.toList) = st.toList := by
    have := digL_val (st_small hs)
    simpa using this
  rw [hd, dp]
  have e1 : ((self.toNat : Nat) : Int) = self := by omega
  have e2 : ((m.toNat : Nat) : Int) = m := by omega
  have e3 : ((s.toNat : Nat) : Int) = s := by omega
  have e4 : ((r.toNat : Nat) : Int) = r := by omega
  have e5 : ((cur.toNat : Nat) : Int) = cur := by omega
  have e6 : decide (goneN gone = 1) = gone := by cases gone <;> rfl
  rw [e1, e2, e3, e4, e5, e6]
def sputE (n : Nat) (x : Sup) : Nat := if evB n = true ∧ supB x = true then 0 else 2
def sputB (n : Nat) (x : Sup) : Blk := if evB n = true ∧ supB x = true then cX n (ct x) else au
theorem sputE_ok {n : Nat} {x : Sup} (h : evB n = true) (h' : supB x = true) : sputE n x = 0 := if_pos ⟨h, h'⟩
theorem sputB_ok {n : Nat} {x : Sup} (h : evB n = true) (h' : supB x = true) : sputB n x = cX n (ct x) := if_pos ⟨h, h'⟩
theorem sputE_no {n : Nat} {x : Sup} (h : ¬ (evB n = true ∧ supB x = true)) : sputE n x = 2 := if_neg h
theorem sputB_no {n : Nat} {x : Sup} (h : ¬ (evB n = true ∧ supB x = true)) : sputB n x = au := if_neg h
theorem of_sputE {n : Nat} {x : Sup} (h : sputE n x = 0) : evB n = true ∧ supB x = true := by
  unfold sputE at h
  split at h
  · assumption
  · omega
theorem dS {n : Nat} (x : Sup) (h : evB n = true) : putE n (ct x) = 0 := putE_ok (by have := of_evB h; omega) (by rw [c8]; omega)
def gsE (b : Blk) : Nat := if cr b.toList ≠ 0 then cr b.toList else if evB (cq b.toList) = true ∧ supB (bm (bW b.toList)) = true ∧ bO (bm (bW b.toList)) = bW b.toList then 0 else 5
def gsN (b : Blk) : Nat := if gsE b = 0 then cq b.toList else 0
def gsS (b : Blk) : Sup := if gsE b = 0 then bm (bW b.toList) else a7
theorem gsE_seal {b : Blk} (h : cr b.toList ≠ 0) : gsE b = cr b.toList := if_pos h
theorem gsE_form {b : Blk} (h : cr b.toList = 0) (h' : ¬ (evB (cq b.toList) = true ∧ supB (bm (bW b.toList)) = true ∧ bO (bm (bW b.toList)) = bW b.toList)) : gsE b = 5 := by
  unfold gsE; rw [if_neg (by omega), if_neg h']
theorem gsE_ok {b : Blk} (h : cr b.toList = 0) (h' : evB (cq b.toList) = true ∧ supB (bm (bW b.toList)) = true ∧ bO (bm (bW b.toList)) = bW b.toList) : gsE b = 0 := by
  unfold gsE; rw [if_neg (by omega), if_pos h']
theorem of_gsE {b : Blk} (h : gsE b = 0) : cr b.toList = 0 ∧ evB (cq b.toList) = true ∧ supB (bm (bW b.toList)) = true ∧ bO (bm (bW b.toList)) = bW b.toList := by
  unfold gsE at h
  split at h
  · omega
  · rename_i h0
    split at h
    · rename_i h1; exact ⟨by omega, h1⟩
    · omega
theorem gsN_of {b : Blk} (h : gsE b = 0) : gsN b = cq b.toList := if_pos h
theorem gsN_no {b : Blk} (h : gsE b ≠ 0) : gsN b = 0 := if_neg h
theorem gsS_of {b : Blk} (h : gsE b = 0) : gsS b = bm (bW b.toList) := if_pos h
theorem gsS_no {b : Blk} (h : gsE b ≠ 0) : gsS b = a7 := if_neg h
theorem gsN_zero {b : Blk} : gsN b = 0 ↔ gsE b ≠ 0 := by
  constructor
  · intro h e
    have := of_evB (of_gsE e).2.1
    rw [gsN_of e] at h
    omega
  · exact gsN_no
theorem dR {l : List UInt8} (h : 8 ≤ l.length) : (bm l).id < 18446744073709551616 := ci (b := l) (p := 0) (k := 8) (by omega)
theorem put_same {b : Blk} (h : cr b.toList = 0) (hn : evB (cq b.toList) = true) (x : Sup) : cX (cq b.toList) (ct x) = b ↔ bO x = bW b.toList := by
  have hp := dS (n := cq b.toList) x hn
  constructor
  · intro e
    have h2 := put_getB (getN_lt64 b) hp
    rw [e] at h2
    exact h2.symm
  · intro e
    rw [putB_ok hp, ← sealL_pad _ (by rw [c8]; omega)]
    have : cW (ct x) = bW b.toList := e
    rw [this]
    exact blk_back h
theorem sput_get {n : Nat} {x : Sup} (hid : x.id < 18446744073709551616) (h : sputE n x = 0) : gsE (sputB n x) = 0 ∧ gsN (sputB n x) = n ∧ gsS (sputB n x) = x := by
  obtain ⟨h1, h2⟩ := of_sputE h
  have hn : n < 18446744073709551616 := by have := of_evB h1; omega
  have hp := dS x h1
  have e1 := put_getE hn hp
  have e2 := put_getN hn hp
  have e3 := put_getB hn hp
  rw [sputB_ok h1 h2]
  have e4 : bm (bW (cX n (ct x)).toList) = x := by rw [e3]; exact told_full hid h2
  have hE : gsE (cX n (ct x)) = 0 := gsE_ok e1 ⟨by rw [e2]; exact h1, by rw [e4]; exact h2, by rw [e4, e3]; rfl⟩
  exact ⟨hE, by rw [gsN_of hE, e2], by rw [gsS_of hE, e4]⟩
theorem gs_zero : gsE au = 5 := by rw [gsE_seal (by rw [zero_getE]; omega), zero_getE]
def nwE (a b : Blk) : Nat := if gsN a = 0 ∧ gsN b = 0 then 7 else 0
def nwN (a b : Blk) : Nat := if gsN a < gsN b then gsN b else gsN a
def nwS (a b : Blk) : Sup := if gsN a < gsN b then gsS b else gsS a
def sloT (a b : Blk) : Nat := if gsN a ≠ 0 ∧ ¬ gsN a < gsN b then 1 else 0
def cntK (l : List UInt8) (c : Int) : Nat → Nat
  | 0 => 0
  | k + 1 => cntK l c k + (if bt l k = c then 1 else 0)
theorem dY (l : List UInt8) (c : Int) (k : Nat) : cntK l c (k + 1) = cntK l c k + (if bt l k = c then 1 else 0) := rfl
theorem cntK_le (l : List UInt8) (c : Int) (k : Nat) : cntK l c k ≤ k := by
  induction k with
  | zero => exact Nat.le_refl _
  | succ k ih => rw [dY]; split <;> omega
theorem healK_cnt (l : List UInt8) (k : Nat) : healK l k = cntK l 2 k := by
  induction k with
  | zero => rfl
  | succ k ih => rw [dY, healK_succ, ih]
def many (x : Ros) (c : Int) : Nat := cntK x.st.toList c 16
theorem many_def (x : Ros) (c : Int) : many x c = cntK x.st.toList c 16 := rfl
theorem eN (x : Ros) : cF x = many x 2 := healK_cnt _ _
theorem many_le (x : Ros) (c : Int) : many x c ≤ 16 := cntK_le _ _ _
def outK (l : List UInt8) : Nat → Nat
  | 0 => 0
  | k + 1 => outK l k + (if bt l k = 0 then 0 else 1)
theorem outK_succ (l : List UInt8) (k : Nat) : outK l (k + 1) = outK l k + (if bt l k = 0 then 0 else 1) := rfl
def outs (x : Ros) : Nat := outK x.st.toList 16
theorem outK_cnt {l : List UInt8} {k : Nat} (h : ∀ j, j < k → bt l j ≤ 2) : outK l k = cntK l 1 k + cntK l 2 k := by
  induction k with
  | zero => rfl
  | succ k ih =>
    have h1 := ih fun j hj => h j (by omega)
    have h2 := h k (by omega)
    have h3 := bt_lo l k
    rw [dY, dY, outK_succ, h1]
    split <;> split <;> split <;> omega
theorem outs_many {x : Ros} (h : staB x = true) : outs x = many x 1 + many x 2 := outK_cnt (of_staB h).1
def setS (x : Ros) (j : Nat) (u : UInt8) : Ros := ⟨x.m, x.s, x.r, x.st.setIfInBounds j u, x.cur, x.gone⟩
def curS (x : Ros) (c : Int) : Ros := ⟨x.m, x.s, x.r, x.st, c, x.gone⟩
theorem setS_list (x : Ros) (j : Nat) (u : UInt8) : (setS x j u).st.toList = x.st.toList.set j u := by
  unfold setS
  simp
theorem bt_set {l : List UInt8} {j : Nat} (h : j < l.length) (u : UInt8) (k : Nat) : bt (l.set j u) k = if k = j then (u.toNat : Int) else bt l k := by
  unfold bt
  simp only [List.getD, List.getElem?_set]
  by_cases e : k = j
  · subst e; simp [h]
  · rw [if_neg (fun e' => e e'.symm), if_neg e]
theorem sta_setS (x : Ros) {j : Nat} (h : j < 16) (u : UInt8) (k : Nat) : sta (setS x j u) k = if k = j then (u.toNat : Int) else sta x k := by
  unfold sta
  rw [setS_list]
  exact bt_set (by simpa using h) u k
theorem cntK_set {l : List UInt8} {j : Nat} (h : j < l.length) (u : UInt8) (c : Int) (k : Nat) : cntK (l.set j u) c k + (if j < k ∧ bt l j = c then 1 else 0) = cntK l c k + (if j < k ∧ (u.toNat : Int) = c then 1 else 0) := by
  induction k with
  | zero => rw [if_neg (by omega), if_neg (by omega)]; rfl
  | succ k ih =>
    rw [dY, dY, bt_set h]
    by_cases e : k = j
    · subst e
      rw [if_neg (by omega), if_neg (by omega)] at ih
      rw [if_pos rfl]
      by_cases h1 : bt l k = c <;> by_cases h2 : (u.toNat : Int) = c <;> simp [h1, h2] <;> omega
    · rw [if_neg e]
      have e1 : (j < k + 1 ∧ bt l j = c) ↔ (j < k ∧ bt l j = c) := by omega
      have e2 : (j < k + 1 ∧ (u.toNat : Int) = c) ↔ (j < k ∧ (u.toNat : Int) = c) := by omega
      simp only [e1, e2]
      omega
theorem many_setS (x : Ros) {j : Nat} (h : j < 16) (u : UInt8) (c : Int) : many (setS x j u) c + (if sta x j = c then 1 else 0) = many x c + (if (u.toNat : Int) = c then 1 else 0) := by
  have := cntK_set (l := x.st.toList) (j := j) (by simpa using h) u c 16
  simp only [h, true_and] at this
  unfold many
  rw [setS_list]
  exact this
theorem staB_setS {x : Ros} (hs : staB x = true) {j : Nat} (h : j < 16) (hm : (j : Int) < x.m) {u : UInt8} (hu : u.toNat ≤ 2) : staB (setS x j u) = true := by
  obtain ⟨h1, h2⟩ := of_staB hs
  refine staB_iff.2 ⟨fun k hk => ?_, fun k hk hkm => ?_⟩
  · rw [sta_setS x h]
    split
    · omega
    · exact h1 k hk
  · have hne : k ≠ j := by
      intro e; subst e
      have : x.m ≤ (k : Int) := hkm
      omega
    rw [sta_setS x h, if_neg hne]
    exact h2 k hk hkm
def hasM (x : Ros) (m : Int) : Bool := decide (0 ≤ m ∧ m < x.m)
def hasC (x : Ros) (s : Int) : Bool := decide (0 ≤ s ∧ s < x.s)
theorem of_hasM {x : Ros} {m : Int} (h : hasM x m = true) : 0 ≤ m ∧ m < x.m := of_decide_eq_true h
def gz (y : Ros) : Ros := ⟨y.m, y.s, y.r, Vector.replicate 16 0, 0, false⟩
theorem heals_gz (y : Ros) : cF (gz y) = 0 := by
  show healK (Vector.replicate 16 (0 : UInt8)).toList 16 = 0
  decide
theorem sta_gz (y : Ros) {j : Nat} (h : j < 16) : sta (gz y) j = 0 := by
  show bt (List.replicate 16 (0 : UInt8)) j = 0
  unfold bt
  rw [List.getD, List.getElem?_replicate]
  split <;> rfl
theorem fine_gz (y : Ros) : aS (gz y) = geoB y := by
  have hg : geoB (gz y) = geoB y := rfl
  by_cases h : geoB y = true
  · rw [h]
    have := dD h
    refine fineB_of ⟨hg.trans h, staB_iff.2 ⟨fun j hj => ?_, fun j hj _ => sta_gz y hj⟩, by rw [heals_gz]; omega, ?_⟩
    · rw [sta_gz y hj]; omega
    · show 0 ≤ (0 : Int) ∧ (0 : Int) < y.s ∧ (cF (gz y) = 1 ∨ (0 : Int) = 0)
      omega
  · rw [Bool.eq_false_iff.2 h, Bool.eq_false_iff]
    intro hf
    exact h (hg.symm.trans (cT hf).1)
def newX (y : Ros) : Ros := if geoB y then gz y else aZ
def newEr (y : Ros) : Nat := if geoB y then 0 else 2
def hasB (x : Ros) (m s : Int) : Bool := aS x && (hasM x m && (hasC x s && (decide (sta x m.toNat = 0) || (decide (sta x m.toNat = 2) && decide (s < x.cur)))))
def stN (x : Ros) : Nat :=
  if aS x then if 2 ≤ outs x ∨ (outs x = 1 ∧ x.gone = true) then 5 else if x.gone = true then 4 else if cF x = 1 then 3 else if outs x = 1 then 2 else 1 else 0
def losB (x : Ros) (m : Int) : Bool := aS x && (hasM x m && decide (sta x m.toNat ≠ 1))
def losX (x : Ros) (m : Int) : Ros := if losB x m then (if sta x m.toNat = 2 then setS (curS x 0) m.toNat 1 else setS x m.toNat 1) else x
theorem heals_set (x : Ros) {j : Nat} (h : j < 16) (u : UInt8) : cF (setS x j u) + (if sta x j = 2 then 1 else 0) = cF x + (if (u.toNat : Int) = 2 then 1 else 0) := by
  rw [eN, eN]; exact many_setS x h u 2
theorem heals_cur (x : Ros) (c : Int) : cF (curS x c) = cF x := rfl
theorem sta_cur (x : Ros) (c : Int) (j : Nat) : sta (curS x c) j = sta x j := rfl
theorem u1 : (((1 : UInt8).toNat : Nat) : Int) = 1 := rfl
theorem u2 : (((2 : UInt8).toNat : Nat) : Int) = 2 := rfl
theorem mem_lt {x : Ros} {m : Int} (hf : aS x = true) (hq : hasM x m = true) : m.toNat < 16 ∧ ((m.toNat : Nat) : Int) < x.m ∧ ((m.toNat : Nat) : Int) = m := by
  have h1 := of_hasM hq
  have h2 := dD (cT hf).1
  omega
theorem fine_los {x : Ros} (m : Int) (hf : aS x = true) : aS (losX x m) = true := by
  unfold losX
  split
  · rename_i hb
    have hq : hasM x m = true := by
      unfold losB at hb
      rw [hf, Bool.true_and, Bool.and_eq_true] at hb
      exact hb.1
    obtain ⟨h16, hlt, _⟩ := mem_lt hf hq
    obtain ⟨hg, hs, h1, c0, c1, c2⟩ := cT hf
    have g := dD hg
    split
    · rename_i h2
      have hh := heals_set (curS x 0) h16 1
      rw [sta_cur, if_pos h2, heals_cur, if_neg (by rw [u1]; omega)] at hh
      refine fineB_of ⟨hg, staB_setS (x := curS x 0) hs h16 hlt (by decide), by omega, ?_⟩
      show (0 : Int) ≤ 0 ∧ (0 : Int) < x.s ∧ (cF _ = 1 ∨ (0 : Int) = 0)
      omega
    · rename_i h2
      have hh := heals_set x h16 1
      rw [if_neg h2, if_neg (by rw [u1]; omega)] at hh
      refine fineB_of ⟨hg, staB_setS hs h16 hlt (by decide), by omega, ?_⟩
      show 0 ≤ x.cur ∧ x.cur < x.s ∧ (cF _ = 1 ∨ x.cur = 0)
      omega
  · exact hf
set_option maxRecDepth 100000
structure Cod (Y : Type) where
  zero : Y
  may : Y → Bool
  num : Y → Nat
  body : Y → List UInt8
  told : Nat → List UInt8 → Y
  fits : Y → Prop
  may_num : ∀ y, may y = true → 1 ≤ num y ∧ num y ≤ 4611686018427387904
  len : ∀ y, (body y).length ≤ 44
  back : ∀ y, fits y → may y = true → told (num y) (cW (body y)) = y
  num_told : ∀ n l, num (told n l) = n
  fits_told : ∀ n l, l.length = 44 → n < 18446744073709551616 → fits (told n l)
  zero_no : may zero = false
  zero_num : num zero = 0
  zero_fits : fits zero
namespace Cod
variable {Y : Type} (C : Cod Y)
def full (y : Y) : List UInt8 := cW (C.body y)
theorem full_length (y : Y) : (C.full y).length = 44 := dk (C.len y)
theorem putE_full (n : Nat) (y : Y) : putE n (C.full y) = putE n (C.body y) := by
  have h1 := C.full_length y
  have h2 := C.len y
  unfold putE
  rw [if_neg (show ¬ 44 < (C.full y).length by omega), if_neg (show ¬ 44 < (C.body y).length by omega)]
theorem putB_full (n : Nat) (y : Y) : cX n (C.full y) = cX n (C.body y) := by
  unfold cX; rw [C.putE_full]; unfold full; rw [sealL_pad n (C.len y)]
theorem dS {n : Nat} (y : Y) (h : n ≠ 0) : putE n (C.body y) = 0 := putE_ok h (C.len y)
theorem put_same {b : Blk} (h : cr b.toList = 0) (y : Y) : cX (cq b.toList) (C.body y) = b ↔ C.full y = bW b.toList := by
  have hn : cq b.toList ≠ 0 := fun e => getN_zero.1 e h
  have hp := C.dS y hn
  constructor
  · intro e
    have h2 := put_getB (getN_lt64 b) hp
    rw [e] at h2
    exact h2.symm
  · intro e
    rw [putB_ok hp, ← sealL_pad _ (C.len y)]
    have : cW (C.body y) = bW b.toList := e
    rw [this]
    exact blk_back h
end Cod
open Go.RowKit
set_option maxRecDepth 100000
set_option linter.unusedVariables false
structure Mrk where
  id : Nat
  ring : Int
  first : Nat
  pos : Nat
deriving DecidableEq
open Go.RowKit
set_option maxRecDepth 100000
set_option linter.unusedVariables false
def hd (n : Nat) : Nat := (n + 15) / 16
open Go.RowKit
set_option maxRecDepth 100000
set_option linter.unusedVariables false
structure Nte where
  seq : Nat
  pos : Nat
  cells : Int
  sum : Nat
deriving DecidableEq
open Go.RowKit
set_option maxRecDepth 100000
set_option linter.unusedVariables false
inductive Stp where
  | wr (n : Int) (b : Blk)
  | fl
def stpE (d : Int) (M : BenS) : Stp → Int
  | .wr n _ => de M d n
  | .fl => flE6 M d
def stpS (d : Int) (M : BenS) : Stp → BenS
  | .wr n b => wrS6 M d n b
  | .fl => flS6 M d
def goE (d : Int) : BenS → List Stp → Int
  | _, [] => 0
  | M, s :: l => if stpE d M s = 0 then goE d (stpS d M s) l else stpE d M s
def goB (d : Int) : BenS → List Stp → BenS
  | M, [] => M
  | M, s :: l => if stpE d M s = 0 then goB d (stpS d M s) l else stpS d M s
theorem go_ok {d : Int} {M : BenS} {s : Stp} {l : List Stp} (h : stpE d M s = 0) : goE d M (s :: l) = goE d (stpS d M s) l ∧ goB d M (s :: l) = goB d (stpS d M s) l := ⟨if_pos h, if_pos h⟩
theorem go_no {d : Int} {M : BenS} {s : Stp} {l : List Stp} (h : stpE d M s ≠ 0) : goE d M (s :: l) = stpE d M s ∧ goB d M (s :: l) = stpS d M s := ⟨if_neg h, if_neg h⟩
structure LgS where
  d : Nat
  own : Nat
  size : Nat
  cnt : Nat
  fst : Nat
  pos : Nat
  nts : List Nte
open Go.RowKit
set_option linter.unusedVariables false
set_option maxRecDepth 100000
def putT (id ev : Nat) (R : Ros) (M : BenS) (m : Nat) : List Stp := [.wr (sloT (rdB6 M m 0) (rdB6 M m 1) : Nat) (sputB ev ⟨id, m, R⟩), .fl]
def cJ (id ev : Nat) (R : Ros) (M : BenS) (m : Nat) : Int := if bL M m 0 = 0 then (if bL M m 1 = 0 then goE m M (putT id ev R M m) else bL M m 1) else bL M m 0
def cI (id ev : Nat) (R : Ros) (M : BenS) (m : Nat) : BenS := if bL M m 0 = 0 ∧ bL M m 1 = 0 then goB m M (putT id ev R M m) else M
def cm (id ev : Nat) (R : Ros) : Nat → Nat → BenS → Option Nat × Int × BenS
  | 0, _, M => (none, 0, M)
  | k + 1, m, M =>
    if sta R m = 1 then cm id ev R k (m + 1) M
    else if cJ id ev R M m = 9 then (some m, 0, cI id ev R M m)
    else if cJ id ev R M m = 0 then cm id ev R k (m + 1) (cI id ev R M m)
    else (none, cJ id ev R M m, cI id ev R M m)
structure HuS where
  M : BenS
  id : Nat
  ev : Nat
  R : Ros
def saveK : Nat → HuS → Int × HuS
  | 0, h => (0, h)
  | f + 1, h =>
    match cm h.id (h.ev + 1) h.R h.R.m.toNat 0 h.M with
    | (none, e, M') => (e, ⟨M', h.id, h.ev + 1, h.R⟩)
    | (some m, _, M') => saveK f ⟨M', h.id, h.ev + 1, losX h.R m⟩
def savE (h : HuS) : Int := (saveK 17 h).1
def savS (h : HuS) : HuS := (saveK 17 h).2
section
variable {M : BenS} {m : Nat} {S : List Blk}
theorem setD {α : Type} (l : List α) (k j : Nat) (a d : α) (hk : k < l.length) : (l.set k a).getD j d = if j = k then a else l.getD j d := by
  by_cases e : j = k
  · subst e; rw [if_pos rfl]; simp [List.getD, hk]
  · rw [if_neg e]; simp only [List.getD]; rw [List.getElem?_set_ne (by omega)]
structure Wel (M : BenS) (m : Nat) (S : List Blk) : Prop where
  bX : M.bX = false
  left : M.left = 0
  lt : m < M.ds.length
  dev : M.ds.getD m bq = ⟨S, [], false⟩
theorem Wel.lit (h : Wel M m S) : litE M m = 0 := litE_ok h.bX h.lt
theorem Wel.devI (h : Wel M m S) : M.dev m = ⟨S, [], false⟩ := h.dev
theorem Wel.rdE (h : Wel M m S) {n : Nat} (hn : n < S.length) : bL M m n = 0 := by
  unfold bL
  rw [if_pos h.lit, h.devI]
  show cC S false (n : Int) = 0
  exact ef ⟨by omega, by omega⟩
theorem Wel.suB (h : Wel M m S) {n : Nat} (hn : n < S.length) : suB6 M m n = S.getD n au := by
  unfold suB6
  rw [if_pos (hasE_ok h.lt), h.devI]
  show dP S false (n : Int) = _
  exact sureB_ok (ef ⟨by omega, by omega⟩)
theorem Wel.laid (h : Wel M m S) {n : Nat} (hn : n < S.length) (b : Blk) :
    goE m M [.wr (n : Int) b, .fl] = 0 ∧ Wel (goB m M [.wr (n : Int) b, .fl]) m (S.set n b) ∧ (goB m M [.wr (n : Int) b, .fl]).ds.length = M.ds.length ∧ (goB m M [.wr (n : Int) b, .fl]).steps = M.steps + 2 ∧ ∀ j, j ≠ m → (goB m M [.wr (n : Int) b, .fl]).ds.getD j bq = M.ds.getD j bq := by
  have hs : M.stepE = 0 := by unfold BenS.stepE; rw [h.left]; rfl
  have e1 : stpE m M (.wr (n : Int) b) = 0 := by
    show de _ _ _ = 0
    unfold de
    rw [if_pos (h.rdE hn), hs]
  obtain ⟨M1, hM1⟩ : ∃ M1, stpS m M (.wr (n : Int) b) = M1 := ⟨_, rfl⟩
  have f1 : M1 = (M.done.put m ⟨S, [((n : Int), b)], false⟩) := by
    rw [← hM1]
    show wrS6 _ _ _ _ = _
    unfold wrS6
    rw [if_pos (h.rdE hn), if_neg (by rw [h.left]; omega), h.devI]
    have e : wrL S [] false (n : Int) b = [((n : Int), b)] := by unfold wrL; rw [if_pos (ef ⟨by omega, by omega⟩)]; rfl
    show BenS.put _ _ ⟨S, wrL S [] false (n : Int) b, false⟩ = _
    rw [e]
    rfl
  have g1 : M1.dev m = ⟨S, [((n : Int), b)], false⟩ := by
    rw [f1]
    show ((M.ds.set m _).getD m bq) = _
    rw [setD _ _ _ _ _ h.lt, if_pos rfl]
  have hl1 : M1.ds.length = M.ds.length := by rw [f1]; exact List.length_set
  have hk1 : M1.bX = false := by rw [f1]; exact h.bX
  have hz1 : M1.left = 0 := by rw [f1]; show M.left - 1 = 0; rw [h.left]
  have hA : flA6 M1 m = 0 := by
    unfold flA6
    rw [if_pos (litE_ok hk1 (by rw [hl1]; exact h.lt)), g1]
    rfl
  have e2 : stpE m M1 .fl = 0 := by
    show flE6 _ _ = 0
    unfold flE6
    rw [if_pos hA]
    unfold BenS.stepE
    rw [hz1]
    rfl
  have f2 : stpS m M1 .fl = M1.done.put m ⟨S.set n b, [], false⟩ := by
    show flS6 _ _ = _
    unfold flS6
    rw [if_pos hA, if_neg (by rw [hz1]; omega), g1]
    rfl
  have hE : goE m M [.wr (n : Int) b, .fl] = 0 := by
    rw [(go_ok e1).1, hM1, (go_ok e2).1]; rfl
  have hB : goB m M [.wr (n : Int) b, .fl] = M1.done.put m ⟨S.set n b, [], false⟩ := by
    rw [(go_ok e1).2, hM1, (go_ok e2).2, f2]; rfl
  have hlm : m < M1.ds.length := by rw [hl1]; exact h.lt
  refine ⟨hE, ?_, ?_, ?_, fun j hj => ?_⟩
  · rw [hB]
    refine ⟨hk1, ?_, ?_, ?_⟩
    · show M1.left - 1 = 0; rw [hz1]
    · show m < (M1.ds.set m _).length; rw [List.length_set]; exact hlm
    · show (M1.ds.set m _).getD m bq = _; rw [setD _ _ _ _ _ hlm, if_pos rfl]
  · rw [hB]; show (M1.ds.set m _).length = _; rw [List.length_set, hl1]
  · rw [hB]; show M1.steps + 1 = _; rw [f1]; rfl
  · rw [hB]
    show (M1.ds.set m _).getD j bq = _
    rw [setD _ _ _ _ _ hlm, if_neg hj, f1]
    show (M.ds.set m _).getD j bq = _
    rw [setD _ _ _ _ _ h.lt, if_neg hj]
theorem dead_rd (hd : M.bX = false) (hl : m < M.ds.length) (hg : (M.ds.getD m bq).g = true) (hS : 0 < (M.ds.getD m bq).S.length) : bL M m 0 = 9 := by
  unfold bL
  rw [if_pos (litE_ok hd hl)]
  show cC (M.ds.getD m bq).S (M.ds.getD m bq).g 0 = 9
  rw [hg]
  exact askE_dead ⟨by omega, by omega⟩
end
structure Old (ev : Nat) (S : List Blk) : Prop where
  two : 2 ≤ S.length
  a : gsN (S.getD 0 au) ≤ ev
  b : gsN (S.getD 1 au) ≤ ev
theorem slo_lt (a b : Blk) : sloT a b < 2 := by unfold sloT; split <;> omega
theorem Old.more {ev ev' : Nat} {S : List Blk} (h : Old ev S) (he : ev ≤ ev') : Old ev' S := ⟨h.two, Nat.le_trans h.a he, Nat.le_trans h.b he⟩
def Now (ev : Nat) (x : Sup) (S : List Blk) : Prop := nwE (S.getD 0 au) (S.getD 1 au) = 0 ∧ nwN (S.getD 0 au) (S.getD 1 au) = ev ∧ nwS (S.getD 0 au) (S.getD 1 au) = x
theorem now_of {ev : Nat} {x : Sup} {S : List Blk} {n : Nat} {b : Blk} (hn : n < 2) (hS : Old ev S) (h1 : gsN b = ev + 1) (h2 : gsS b = x) : Now (ev + 1) x (S.set n b) ∧ Old (ev + 1) (S.set n b) := by
  have ha := hS.a
  have hb := hS.b
  have h2' := hS.two
  have e0 : (S.set n b).getD 0 au = if 0 = n then b else S.getD 0 au := setD _ _ _ _ _ (by omega)
  have e1 : (S.set n b).getD 1 au = if 1 = n then b else S.getD 1 au := setD _ _ _ _ _ (by omega)
  unfold Now
  rcases (show n = 0 ∨ n = 1 by omega) with rfl | rfl
  · rw [if_pos rfl] at e0
    rw [if_neg (by omega)] at e1
    rw [e0, e1]
    refine ⟨⟨?_, ?_, ?_⟩, ⟨by rw [List.length_set]; exact h2', by rw [e0]; omega, by rw [e1]; omega⟩⟩
    · unfold nwE; rw [if_neg (by omega)]
    · unfold nwN; rw [if_neg (by omega)]; exact h1
    · unfold nwS; rw [if_neg (by omega)]; exact h2
  · rw [if_neg (by omega)] at e0
    rw [if_pos rfl] at e1
    rw [e0, e1]
    refine ⟨⟨?_, ?_, ?_⟩, ⟨by rw [List.length_set]; exact h2', by rw [e0]; omega, by rw [e1]; omega⟩⟩
    · unfold nwE; rw [if_neg (by omega)]
    · unfold nwN; rw [if_pos (by omega)]; exact h1
    · unfold nwS; rw [if_pos (by omega)]; exact h2
structure HOk (id ev : Nat) (R : Ros) (M : BenS) : Prop where
  bX : M.bX = false
  left : M.left = 0
  len : R.m.toNat < M.ds.length
  fine : aS R = true
  ids : id ≠ 0 ∧ id < 18446744073709551616
  two : ∀ m, m < R.m.toNat → 2 ≤ (M.ds.getD m bq).S.length
  wel : ∀ m, m < R.m.toNat → (M.ds.getD m bq).g = false → ∃ S, M.ds.getD m bq = ⟨S, [], false⟩ ∧ Old ev S
section
variable {id ev : Nat} {R : Ros} {M : BenS} {m : Nat}
theorem HOk.more {ev' : Nat} (h : HOk id ev R M) (he : ev ≤ ev') : HOk id ev' R M :=
  ⟨h.bX, h.left, h.len, h.fine, h.ids, h.two, fun m hm hg => by obtain ⟨S, e, hS⟩ := h.wel m hm hg; exact ⟨S, e, hS.more he⟩⟩
theorem HOk.put {ev1 : Nat} {S : List Blk} (h : HOk id ev1 R M) (hev : ev + 1 ≤ 4611686018427387904) (hm : m < R.m.toNat) (hd : M.ds.getD m bq = ⟨S, [], false⟩) (hS : Old ev S) :
    cJ id (ev + 1) R M m = 0 ∧ ∃ S', Wel (cI id (ev + 1) R M m) m S' ∧ Now (ev + 1) ⟨id, m, R⟩ S' ∧ (Old (ev + 1) S' ∧ S'.length = S.length) ∧ (cI id (ev + 1) R M m).ds.length = M.ds.length ∧ (cI id (ev + 1) R M m).steps = M.steps + 2 ∧ ∀ j, j ≠ m → (cI id (ev + 1) R M m).ds.getD j bq = M.ds.getD j bq := by
  have hw : Wel M m S := ⟨h.bX, h.left, by have := h.len; omega, hd⟩
  have h2 := hS.two
  have r0 : bL M m 0 = 0 := hw.rdE (n := 0) (by omega)
  have r1 : bL M m 1 = 0 := hw.rdE (n := 1) (by omega)
  have hl := slo_lt (rdB6 M m 0) (rdB6 M m 1)
  obtain ⟨n, hn⟩ : ∃ n, sloT (rdB6 M m 0) (rdB6 M m 1) = n := ⟨_, rfl⟩
  rw [hn] at hl
  have hT : putT id (ev + 1) R M m = [.wr (n : Int) (sputB (ev + 1) ⟨id, m, R⟩), .fl] := by unfold putT; rw [hn]
  have hE : cJ id (ev + 1) R M m = goE m M [.wr (n : Int) (sputB (ev + 1) ⟨id, m, R⟩), .fl] := by
    unfold cJ; rw [if_pos r0, if_pos r1, hT]
  have hM : cI id (ev + 1) R M m = goB m M [.wr (n : Int) (sputB (ev + 1) ⟨id, m, R⟩), .fl] := by
    unfold cI; rw [if_pos ⟨r0, r1⟩, hT]
  have hev' : evB (ev + 1) = true := by unfold evB; rw [decide_eq_true_iff]; omega
  have hsp : supB ⟨id, m, R⟩ = true := by
    unfold supB
    simp only [Bool.and_eq_true, decide_eq_true_eq]
    exact ⟨⟨h.ids.1, h.fine⟩, by omega, by omega⟩
  have hg := sput_get (x := ⟨id, m, R⟩) h.ids.2 (sputE_ok hev' hsp)
  obtain ⟨k1, k2, k3, k4, k5⟩ := hw.laid (n := n) (by omega) (sputB (ev + 1) ⟨id, m, R⟩)
  rw [hE, hM]
  obtain ⟨n1, n2⟩ := now_of hl hS hg.2.1 hg.2.2
  exact ⟨k1, _, k2, n1, ⟨n2, List.length_set⟩, k3, k4, k5⟩
theorem HOk.dead (h : HOk id ev R M) (e : Nat) (hm : m < R.m.toNat) (hg : (M.ds.getD m bq).g = true) : cJ id e R M m = 9 ∧ cI id e R M m = M := by
  have r0 : bL M m 0 = 9 := dead_rd h.bX (by have := h.len; omega) hg (by have := h.two m hm; omega)
  have hn : ¬ bL M m 0 = 0 := fun e => by rw [r0] at e; exact absurd e (by decide)
  constructor
  · unfold cJ; rw [if_neg hn, r0]
  · unfold cI; rw [if_neg fun e => hn e.1]
structure Like (N : Nat) (M M' : BenS) : Prop where
  len : M'.ds.length = M.ds.length
  gs : ∀ j, (M'.ds.getD j bq).g = (M.ds.getD j bq).g
  hi : ∀ j, N ≤ j → M'.ds.getD j bq = M.ds.getD j bq
  sl : ∀ j, (M'.ds.getD j bq).S.length = (M.ds.getD j bq).S.length
theorem Like.refl (N : Nat) (M : BenS) : Like N M M := ⟨rfl, fun _ => rfl, fun _ _ => rfl, fun _ => rfl⟩
theorem Like.trans {N : Nat} {M1 M2 M3 : BenS} (h : Like N M1 M2) (k : Like N M2 M3) : Like N M1 M3 := ⟨k.len.trans h.len, fun j => (k.gs j).trans (h.gs j), fun j hj => (k.hi j hj).trans (h.hi j hj), fun j => (k.sl j).trans (h.sl j)⟩
theorem once_spec (hev : ev + 1 ≤ 4611686018427387904) : ∀ (k m : Nat) (M : BenS), m + k = R.m.toNat → HOk id (ev + 1) R M →
    (∀ j, m ≤ j → j < R.m.toNat → (M.ds.getD j bq).g = false → ∃ S, M.ds.getD j bq = ⟨S, [], false⟩ ∧ Old ev S) →
    (∀ j, j < m → sta R j = 1 ∨ ∃ S, M.ds.getD j bq = ⟨S, [], false⟩ ∧ Now (ev + 1) ⟨id, j, R⟩ S) →
    ∃ M', HOk id (ev + 1) R M' ∧ Like R.m.toNat M M' ∧ M'.steps ≤ M.steps + 2 * k ∧
      ((cm id (ev + 1) R k m M = (none, 0, M') ∧ ∀ j, j < R.m.toNat → sta R j = 1 ∨ ∃ S, M'.ds.getD j bq = ⟨S, [], false⟩ ∧ Now (ev + 1) ⟨id, j, R⟩ S) ∨
        ∃ d, cm id (ev + 1) R k m M = (some d, 0, M') ∧ d < R.m.toNat ∧ sta R d ≠ 1 ∧ (M.ds.getD d bq).g = true)
  | 0, m, M, hk, h, _, hlo => ⟨M, h, Like.refl _ _, Nat.le_refl _, .inl ⟨rfl, fun j hj => hlo j (by omega)⟩⟩
  | k + 1, m, M, hk, h, hhi, hlo => by
    have hm : m < R.m.toNat := by omega
    by_cases hl : sta R m = 1
    · obtain ⟨M', h1, h2, h3, h4⟩ := once_spec hev k (m + 1) M (by omega) h (fun j hj => hhi j (by omega)) (fun j hj => by
        by_cases e : j = m
        · subst e; exact .inl hl
        · exact hlo j (by omega))
      refine ⟨M', h1, h2, by omega, ?_⟩
      have e : cm id (ev + 1) R (k + 1) m M = cm id (ev + 1) R k (m + 1) M := by rw [cm, if_pos hl]
      rw [e]
      exact h4
    · cases hg : (M.ds.getD m bq).g
      · obtain ⟨S, hd, hS⟩ := hhi m (Nat.le_refl _) hm hg
        obtain ⟨p1, S', p2, p3, ⟨p4, p8⟩, p5, p6, p7⟩ := h.put hev hm hd hS
        have e : cm id (ev + 1) R (k + 1) m M = cm id (ev + 1) R k (m + 1) (cI id (ev + 1) R M m) := by
          rw [cm, if_neg hl, if_neg (by rw [p1]; decide), if_pos p1]
        rw [e]
        generalize cI id (ev + 1) R M m = M1 at *
        have hdv : M1.ds.getD m bq = ⟨S', [], false⟩ := p2.dev
        have hlk : Like R.m.toNat M M1 := ⟨p5, fun j => by
          by_cases ej : j = m
          · subst ej; rw [hdv, hg]
          · rw [p7 j ej], fun j hj => p7 j (by omega), fun j => by
          by_cases ej : j = m
          · subst ej; rw [hdv, hd]; exact p8
          · rw [p7 j ej]⟩
        obtain ⟨M', h1, h2, h3, h4⟩ := once_spec hev k (m + 1) M1 (by omega) ⟨p2.bX, p2.left, by rw [p5]; exact h.len, h.fine, h.ids, fun j hj => by
            rw [hlk.sl j]; exact h.two j hj, fun j hj hgj => by
            by_cases ej : j = m
            · subst ej; exact ⟨S', hdv, p4⟩
            · rw [p7 j ej] at hgj ⊢; exact h.wel j hj hgj⟩
          (fun j hj hjn hgj => by
            rw [p7 j (by omega)] at hgj ⊢; exact hhi j (by omega) hjn hgj)
          (fun j hj => by
            by_cases ej : j = m
            · subst ej; exact .inr ⟨S', hdv, p3⟩
            · rw [p7 j ej]; exact hlo j (by omega))
        refine ⟨M', h1, hlk.trans h2, by omega, ?_⟩
        rcases h4 with h4 | ⟨d, d1, d2, d3, d4⟩
        · exact .inl h4
        · exact .inr ⟨d, d1, d2, d3, by rw [← hlk.gs d]; exact d4⟩
      · obtain ⟨p1, p2⟩ := h.dead (ev + 1) hm hg
        have e : cm id (ev + 1) R (k + 1) m M = (some m, 0, M) := by rw [cm, if_neg hl, if_pos p1, p2]
        rw [e]
        exact ⟨M, h, Like.refl _ _, by omega, .inr ⟨m, rfl, hm, hl, hg⟩⟩
end
def potK (q : Nat → Bool) : Nat → Nat
  | 0 => 0
  | n + 1 => potK q n + (if q n = true then 1 else 0)
theorem potK_le (q : Nat → Bool) (n : Nat) : potK q n ≤ n := by
  induction n with
  | zero => exact Nat.le_refl _
  | succ n ih => rw [potK]; split <;> omega
theorem potK_mono {q q' : Nat → Bool} (h : ∀ j, q' j = true → q j = true) (n : Nat) : potK q' n ≤ potK q n := by
  induction n with
  | zero => exact Nat.le_refl _
  | succ n ih =>
    rw [potK, potK]
    by_cases e : q' n = true
    · rw [if_pos e, if_pos (h n e)]; omega
    · rw [if_neg e]; split <;> omega
theorem potK_lt {q q' : Nat → Bool} (h : ∀ j, q' j = true → q j = true) {d : Nat} (h1 : q d = true) (h2 : q' d = false) : ∀ {n : Nat}, d < n → potK q' n + 1 ≤ potK q n
  | 0, hd => absurd hd (by omega)
  | n + 1, hd => by
    rw [potK, potK]
    by_cases e : d = n
    · subst e
      rw [h2, if_neg (by decide), if_pos h1]
      have := potK_mono h d
      omega
    · have := potK_lt h h1 h2 (n := n) (by omega)
      by_cases e' : q' n = true
      · rw [if_pos e', if_pos (h n e')]; omega
      · rw [if_neg e']; split <;> omega
def ded (R : Ros) (M : BenS) (j : Nat) : Bool := !decide (sta R j = 1) && (M.ds.getD j bq).g
section
variable {id ev : Nat} {R : Ros} {M : BenS} {m : Nat}
theorem los_sta (hf : aS R = true) {d : Nat} (hd : d < R.m.toNat) (hs : sta R d ≠ 1) : (losX R d).m = R.m ∧ ∀ j, sta (losX R d) j = if j = d then 1 else sta R j := by
  have hq : hasM R (d : Int) = true := decide_eq_true ⟨by omega, by omega⟩
  have h16 : d < 16 := by have := (mem_lt hf hq).1; simpa using this
  have hb : losB R (d : Int) = true := by
    unfold losB
    rw [hf, hq, Int.toNat_natCast, decide_eq_true hs]
    rfl
  unfold losX
  rw [if_pos hb, Int.toNat_natCast]
  split
  · exact ⟨rfl, fun j => by rw [sta_setS _ h16, sta_cur]; rfl⟩
  · exact ⟨rfl, fun j => by rw [sta_setS _ h16]; rfl⟩
theorem save_spec : ∀ (f : Nat) (ev : Nat) (R : Ros) (M : BenS), HOk id ev R M → potK (ded R M) R.m.toNat < f → ev + f + 1 ≤ 4611686018427387904 →
    ∃ ev' R' M', saveK f ⟨M, id, ev, R⟩ = (0, ⟨M', id, ev', R'⟩) ∧ HOk id ev' R' M' ∧ ev < ev' ∧ ev' ≤ ev + potK (ded R M) R.m.toNat + 1 ∧ R'.m = R.m ∧ Like R.m.toNat M M' ∧ M'.steps ≤ M.steps + 2 * R.m.toNat * f ∧
      (∀ j, j < R.m.toNat → (sta R' j = 1 ↔ (sta R j = 1 ∨ (M.ds.getD j bq).g = true))) ∧ (∀ j, j < R.m.toNat → sta R' j = 1 ∨ ∃ S, M'.ds.getD j bq = ⟨S, [], false⟩ ∧ Now ev' ⟨id, j, R'⟩ S) ∧ (potK (ded R M) R.m.toNat = 0 → R' = R)
  | 0, ev, R, M, h, hp, _ => absurd hp (by omega)
  | f + 1, ev, R, M, h, hp, hev => by
    obtain ⟨M1, h1, h2, h3, h4⟩ := once_spec (id := id) (R := R) (ev := ev) (by omega) R.m.toNat 0 M (by omega) (h.more (by omega)) (fun j _ hj hg => h.wel j hj hg) (fun j hj => absurd hj (by omega))
    have hmul : 2 * R.m.toNat ≤ 2 * R.m.toNat * (f + 1) := Nat.le_mul_of_pos_right _ (by omega)
    rcases h4 with ⟨e, hall⟩ | ⟨d, e, hd, hs, hg⟩
    · refine ⟨ev + 1, R, M1, ?_, h1, by omega, by omega, rfl, h2, by omega, fun j hj => ?_, hall, fun _ => rfl⟩
      · rw [saveK]
        simp only [e]
      · constructor
        · exact fun x => .inl x
        · rintro (x | x)
          · exact x
          · rcases hall j hj with y | ⟨S, hS, _⟩
            · exact y
            · have := h2.gs j
              rw [hS, x] at this
              cases this
    · obtain ⟨l1, l2⟩ := los_sta h.fine hd hs
      have hf2 := fine_los (d : Int) h.fine
      have hk2 : HOk id (ev + 1) (losX R d) M1 := ⟨h1.bX, h1.left, by rw [l1]; exact h1.len, hf2, h1.ids, by rw [l1]; exact h1.two, by rw [l1]; exact h1.wel⟩
      have hq : ded R M d = true := by unfold ded; rw [hg, decide_eq_false hs]; rfl
      have hq' : ded (losX R d) M1 d = false := by unfold ded; rw [l2 d, if_pos rfl]; rfl
      have hsub : ∀ j, ded (losX R d) M1 j = true → ded R M j = true := fun j hj => by
        unfold ded at hj ⊢
        rw [l2 j, h2.gs j] at hj
        by_cases e : j = d
        · rw [if_pos e] at hj; simp at hj
        · rw [if_neg e] at hj; exact hj
      have hlt := potK_lt hsub hq hq' hd
      obtain ⟨ev', R', M', s1, s2, s3, s4, s5, s6, s7, s8, s9, _⟩ := save_spec f (ev + 1) (losX R d) M1 hk2 (by rw [l1]; omega) (by omega)
      rw [l1] at s4 s6 s7 s8 s9
      refine ⟨ev', R', M', ?_, s2, by omega, by omega, s5.trans l1, h2.trans s6, ?_, fun j hj => ?_, s9, fun e0 => absurd e0 (by omega)⟩
      · rw [saveK]
        simp only [e]
        exact s1
      · have : 2 * R.m.toNat * (f + 1) = 2 * R.m.toNat * f + 2 * R.m.toNat := Nat.mul_succ _ _
        omega
      · rw [s8 j hj, l2 j, h2.gs j]
        by_cases ej : j = d
        · subst ej; rw [if_pos rfl]; exact ⟨fun _ => .inr hg, fun _ => .inl rfl⟩
        · rw [if_neg ej]
end
open Go.RowKit
set_option linter.unusedVariables false
set_option linter.unusedSectionVars false
structure NewR (g : Ros) (p : Nat) : Prop where
  gz_ : gz g = g
  geo : geoB g = true
  lt : (p : Int) < g.m
section
variable {g : Ros} {p q k : Nat} (h : NewR g p)
include h
section
variable (hq : (q : Int) < g.m) (hne : q ≠ p)
include hq hne
end
def hX (g : Ros) (p : Nat) (s : Nat) : Ros := curS (setS g p 2) (s : Int)
section
variable {s : Nat} (hs : (s : Int) < g.s)
include hs
end
def hY (g : Ros) (p s : Nat) : Ros := if (s : Int) < g.s then hX g p s else g
end
open Go.RowKit
set_option linter.unusedVariables false
set_option maxRecDepth 100000
def plcH (x : Ros) (s m : Int) : Bool := decide (0 ≤ s ∧ s < x.s ∧ 0 ≤ m ∧ m < x.m)
def faiH (x : Ros) : Bool := decide (stN x = 5)
def dedH (h : HuS) (m : Nat) : HuS := { h with R := losX h.R m }
def dedE (h : HuS) (m : Nat) (t : Int) : Int := if savE (dedH h m) = 0 then (if faiH (savS (dedH h m)).R = true then 16 else t) else savE (dedH h m)
def dedS (h : HuS) (m : Nat) : HuS := savS (dedH h m)
def hrdE (h : HuS) (s m : Int) : Int :=
  if plcH h.R s m = true then (if faiH h.R = true then 16 else if hasB h.R m s = true then (if bL h.M m (2 + s) = 9 then dedE h m.toNat 7 else bL h.M m (2 + s)) else 7) else 2
def hrdB (h : HuS) (s m : Int) : Blk := if hrdE h s m = 0 then rdB6 h.M m (2 + s) else au
def hrdS (h : HuS) (s m : Int) : HuS := if plcH h.R s m = true ∧ faiH h.R = false ∧ hasB h.R m s = true ∧ bL h.M m (2 + s) = 9 then dedS h m.toNat else h
def hwrE (h : HuS) (s m : Int) (b : Blk) : Int :=
  if plcH h.R s m = true then (if faiH h.R = true then 16 else if hasB h.R m s = true then (if de h.M m (2 + s) = 9 then dedE h m.toNat 0 else de h.M m (2 + s)) else 0) else 2
def hwrS (h : HuS) (s m : Int) (b : Blk) : HuS :=
  if plcH h.R s m = true ∧ faiH h.R = false ∧ hasB h.R m s = true then (if de h.M m (2 + s) = 9 then dedS h m.toNat else { h with M := wrS6 h.M m (2 + s) b }) else h
def szK (N : Nat) (s : Int) : List Int := List.replicate N (2 + s) ++ [50]
def faiK (q : Nat → Bool) (M : BenS) : Nat → BenS
  | 0 => M
  | k + 1 => if q k = true then faS6 (faiK q M k) (k : Int) else faiK q M k
section
variable {N : Nat} {s : Int}
theorem szK_at {j : Nat} (hj : j < N) : (szK N s).getD j 0 = 2 + s := by
  unfold szK
  simp only [List.getD]
  rw [List.getElem?_append_left (by simpa using hj), List.getElem?_replicate, if_pos hj]
  rfl
theorem szK_len : (szK N s).length = N + 1 := by simp [szK]
theorem newK_at {j : Nat} (hj : j < N) : (cE (szK N s)).ds.getD j bq = ⟨List.replicate (2 + s).toNat au, [], false⟩ := by
  rw [eG]
  simp only [List.getD, List.getElem?_map]
  have h := szK_at (s := s) hj
  rw [List.getD] at h
  rw [List.getElem?_eq_getElem (by rw [szK_len]; omega)] at h ⊢
  simp only [Option.getD_some] at h
  simp only [Option.map_some, Option.getD_some, h]
  rfl
theorem dQ : (cE (szK N s)).ds.length = N + 1 := by rw [eG, List.length_map, szK_len]
theorem old_zero (ev : Nat) {n : Nat} (hn : 2 ≤ n) : Old ev (List.replicate n au) := by
  have e : ∀ j, (List.replicate n au).getD j au = au := fun j => by
    simp only [List.getD, List.getElem?_replicate]
    split <;> rfl
  have g : gsN au = 0 := gsN_zero.2 (by rw [gs_zero]; decide)
  exact ⟨by simpa using hn, by rw [e, g]; omega, by rw [e, g]; omega⟩
structure FaiM (q : Nat → Bool) (k : Nat) (M M' : BenS) : Prop where
  len : M'.ds.length = M.ds.length
  bX : M'.bX = M.bX
  left : M'.left = M.left
  steps : M'.steps = M.steps
  at_ : ∀ j, M'.ds.getD j bq = if j < k ∧ q j = true then ⟨(M.ds.getD j bq).S, [], true⟩ else M.ds.getD j bq
theorem faiM {q : Nat → Bool} {M : BenS} : ∀ {k : Nat}, k ≤ M.ds.length → FaiM q k M (faiK q M k)
  | 0, _ => ⟨rfl, rfl, rfl, rfl, fun j => by rw [if_neg (fun e => by have := e.1; omega)]; rfl⟩
  | k + 1, hk => by
    have ih := faiM (q := q) (M := M) (k := k) (by omega)
    rw [faiK]
    by_cases hq : q k = true
    · rw [if_pos hq]
      have hl : k < (faiK q M k).ds.length := by rw [ih.len]; omega
      have e : faS6 (faiK q M k) (k : Int) = (faiK q M k).put k ⟨((faiK q M k).ds.getD k bq).S, [], true⟩ := by
        unfold faS6
        rw [if_pos (hasE_ok hl)]
        rfl
      rw [e]
      refine ⟨?_, ih.bX, ih.left, ih.steps, fun j => ?_⟩
      · show ((faiK q M k).ds.set k _).length = _; rw [List.length_set, ih.len]
      · show ((faiK q M k).ds.set k _).getD j bq = _
        rw [setD _ _ _ _ _ hl]
        by_cases ej : j = k
        · subst ej
          rw [if_pos rfl, if_pos ⟨by omega, hq⟩, ih.at_ j, if_neg (fun e => by have := e.1; omega)]
        · rw [if_neg ej, ih.at_ j]
          by_cases h2 : j < k ∧ q j = true
          · rw [if_pos h2, if_pos ⟨by omega, h2.2⟩]
          · rw [if_neg h2, if_neg (fun e => h2 ⟨by have := e.1; omega, e.2⟩)]
    · rw [if_neg hq]
      refine ⟨ih.len, ih.bX, ih.left, ih.steps, fun j => ?_⟩
      rw [ih.at_ j]
      by_cases h2 : j < k ∧ q j = true
      · rw [if_pos h2, if_pos ⟨by omega, h2.2⟩]
      · rw [if_neg h2, if_neg (fun e => h2 ⟨by
          have h3 := e.1
          rcases Nat.lt_or_ge j k with h4 | h4
          · exact h4
          · have : j = k := by omega
            rw [this] at e
            exact absurd e.2 hq, e.2⟩)]
end
def neR (N : Nat) (s : Int) : Ros := gz ⟨(N : Int), s, 40, Vector.replicate 16 0, 0, false⟩
theorem neR_fine {N : Nat} {s : Int} (h1 : 3 ≤ N) (h2 : N ≤ 16) (h3 : 1 ≤ s) (h4 : s ≤ 64) : aS (neR N s) = true := by
  unfold neR
  rw [fine_gz]
  exact decide_eq_true ⟨by show 3 ≤ (N : Int); omega, by show (N : Int) ≤ 16; omega, h3, h4, by show (40 : Int) ≤ 40; omega, by show (40 : Int) ≤ 256; omega⟩
theorem neR_m (N : Nat) (s : Int) : (neR N s).m.toNat = N := by show ((N : Int)).toNat = N; omega
theorem hok_new {N : Nat} {s : Int} (h1 : 3 ≤ N) (h2 : N ≤ 16) (h3 : 1 ≤ s) (h4 : s ≤ 64) (q : Nat → Bool) (ev : Nat) : HOk 9 ev (neR N s) (faiK q (cE (szK N s)) N) := by
  have hf := faiM (q := q) (M := cE (szK N s)) (k := N) (by rw [dQ]; omega)
  refine ⟨hf.bX, hf.left, by rw [neR_m, hf.len, dQ]; omega, neR_fine h1 h2 h3 h4, ⟨by decide, by decide⟩, fun m hm => ?_, fun m hm hg => ?_⟩
  · rw [neR_m] at hm
    rw [hf.at_ m, newK_at hm]
    split
    · show 2 ≤ (List.replicate _ au).length; rw [List.length_replicate]; omega
    · show 2 ≤ (List.replicate _ au).length; rw [List.length_replicate]; omega
  · rw [neR_m] at hm
    rw [hf.at_ m, newK_at hm] at hg ⊢
    by_cases hq : m < N ∧ q m = true
    · rw [if_pos hq] at hg; cases hg
    · rw [if_neg hq]
      exact ⟨_, rfl, old_zero ev (by omega)⟩
theorem new_dead {N : Nat} {s : Int} {q : Nat → Bool} {j : Nat} (hj : j < N) : ((faiK q (cE (szK N s)) N).ds.getD j bq).g = q j := by
  have hf := faiM (q := q) (M := cE (szK N s)) (k := N) (by rw [dQ]; omega)
  rw [hf.at_ j, newK_at hj]
  cases hq : q j
  · rw [if_neg (fun e => by cases e.2)]
  · rw [if_pos ⟨hj, rfl⟩]
theorem neR_sta {N : Nat} {s : Int} {j : Nat} (hj : j < 16) : sta (neR N s) j = 0 := sta_gz _ hj
theorem saves_new {N : Nat} {s : Int} (h1 : 3 ≤ N) (h2 : N ≤ 6) (h3 : 1 ≤ s) (h4 : s ≤ 64) (q : Nat → Bool) {ev : Nat} (hev : ev < 4294967296) :
    ∃ ev' R' M', saveK 17 ⟨faiK q (cE (szK N s)) N, 9, ev, neR N s⟩ = (0, ⟨M', 9, ev', R'⟩) ∧ HOk 9 ev' R' M' ∧ ev < ev' ∧ ev' ≤ ev + N + 1 ∧ R'.m = (N : Int) ∧ M'.ds.length = N + 1 ∧
      (∀ j, j < N → (sta R' j = 1 ↔ q j = true)) ∧ (∀ j, j < N → q j = false → ∃ S, M'.ds.getD j bq = ⟨S, [], false⟩ ∧ Now ev' ⟨9, j, R'⟩ S) := by
  have hk := hok_new h1 (by omega) h3 h4 q ev
  have hp := potK_le (ded (neR N s) (faiK q (cE (szK N s)) N)) N
  obtain ⟨ev', R', M', e, k1, k2, k3, k4, k5, _, k7, k8, _⟩ := save_spec 17 ev _ _ hk (by rw [neR_m]; omega) (by omega)
  rw [neR_m] at k3 k5 k7 k8
  have hf := faiM (q := q) (M := cE (szK N s)) (k := N) (by rw [dQ]; omega)
  refine ⟨ev', R', M', e, k1, k2, by omega, k4, by rw [k5.len, hf.len, dQ], fun j hj => ?_, fun j hj hq => ?_⟩
  · rw [k7 j hj, new_dead hj, neR_sta (by omega)]
    simp
  · rcases k8 j hj with e | e
    · have := (k7 j hj).1 e
      rw [new_dead hj, neR_sta (by omega), hq] at this
      simp at this
    · exact e
open Go.RowKit
set_option linter.unusedVariables false
set_option maxRecDepth 100000
section
variable {M : BenS} {d n : Int} {b : Blk}
theorem er_rd (M : BenS) (d n : Int) : bL M d n = 0 ∨ bL M d n = 2 ∨ bL M d n = 8 ∨ bL M d n = 9 := by
  unfold bL
  split
  · rcases el (S := (M.dev d).S) (g := (M.dev d).g) (n := n) with h | h | h
    · exact .inr (.inl h)
    · exact .inr (.inr (.inr h))
    · exact .inl h.1
  · rcases dL M d with h | h | h
    · exact .inr (.inr (.inl h.1))
    · exact .inr (.inl h.1)
    · exact .inl h.1
theorem er_wr (M : BenS) (d n : Int) : de M d n = 0 ∨ de M d n = 2 ∨ de M d n = 8 ∨ de M d n = 9 := by
  unfold de
  split
  · unfold BenS.stepE
    split
    · exact .inr (.inr (.inl rfl))
    · exact .inl rfl
  · exact er_rd M d n
theorem er_fl (M : BenS) (d : Int) : flE6 M d = 0 ∨ flE6 M d = 2 ∨ flE6 M d = 8 ∨ flE6 M d = 9 := by
  unfold flE6
  split
  · unfold BenS.stepE
    split
    · exact .inr (.inr (.inl rfl))
    · exact .inl rfl
  · unfold flA6
    split
    · split
      · exact .inr (.inr (.inr rfl))
      · exact .inl rfl
    · rcases dL M d with h | h | h
      · exact .inr (.inr (.inl h.1))
      · exact .inr (.inl h.1)
      · exact .inl h.1
def erS (e : Int) : Prop := e = 0 ∨ e = 2 ∨ e = 8 ∨ e = 9
theorem er_step (M : BenS) (d : Int) (s : Stp) : erS (stpE d M s) := by
  cases s with
  | wr n b => exact er_wr M d n
  | fl => exact er_fl M d
theorem er_go (d : Int) : ∀ (l : List Stp) (M : BenS), erS (goE d M l)
  | [], M => .inl rfl
  | s :: l, M => by
    rw [goE]
    split
    · exact er_go d l _
    · exact er_step M d s
theorem er_put {id ev : Nat} {R : Ros} {m : Nat} : erS (cJ id ev R M m) := by
  unfold cJ
  split
  · split
    · exact er_go _ _ _
    · exact er_rd M m 1
  · exact er_rd M m 0
theorem er_once {id ev : Nat} {R : Ros} : ∀ (k m : Nat) (M : BenS), (cm id ev R k m M).2.1 = 0 ∨ (cm id ev R k m M).2.1 = 2 ∨ (cm id ev R k m M).2.1 = 8
  | 0, m, M => .inl rfl
  | k + 1, m, M => by
    rw [cm]
    split
    · exact er_once k (m + 1) M
    · split
      · exact .inl rfl
      · rename_i h9
        split
        · exact er_once k (m + 1) _
        · rcases er_put (M := M) (id := id) (ev := ev) (R := R) (m := m) with e | e | e | e
          · exact .inl e
          · exact .inr (.inl e)
          · exact .inr (.inr e)
          · exact absurd e h9
theorem er_saveK : ∀ (f : Nat) (h : HuS), (saveK f h).1 = 0 ∨ (saveK f h).1 = 2 ∨ (saveK f h).1 = 8
  | 0, h => .inl rfl
  | f + 1, h => by
    rw [saveK]
    have := er_once (id := h.id) (ev := h.ev + 1) (R := h.R) h.R.m.toNat 0 h.M
    generalize cm h.id (h.ev + 1) h.R h.R.m.toNat 0 h.M = o at *
    obtain ⟨a, e, M'⟩ := o
    cases a with
    | none => exact this
    | some d => exact er_saveK f _
theorem er_save (h : HuS) : savE h = 0 ∨ savE h = 2 ∨ savE h = 8 := er_saveK 17 h
end
def hrdK (h : HuS) (s m : Int) : Prop := plcH h.R s m = true ∧ faiH h.R = false ∧ hasB h.R m s = true ∧ bL h.M m (2 + s) = 9 → savE (dedH h m.toNat) = 0
def hwrK (h : HuS) (s m : Int) : Prop := plcH h.R s m = true ∧ faiH h.R = false ∧ hasB h.R m s = true ∧ de h.M m (2 + s) = 9 → savE (dedH h m.toNat) = 0
theorem hrdK_of {h : HuS} {s m : Int} (h2 : hrdE h s m ≠ 2) (h8 : hrdE h s m ≠ 8) : hrdK h s m := by
  rintro ⟨c1, c2, c3, c4⟩
  unfold hrdE at h2 h8
  rw [if_pos c1, c2, if_neg (by decide), if_pos c3, if_pos c4] at h2 h8
  unfold dedE at h2 h8
  rcases er_save (dedH h m.toNat) with e | e | e
  · exact e
  · rw [e] at h2; exact absurd rfl h2
  · rw [e] at h8; exact absurd rfl h8
theorem hwrK_of {h : HuS} {s m : Int} {b : Blk} (h2 : hwrE h s m b ≠ 2) (h8 : hwrE h s m b ≠ 8) : hwrK h s m := by
  rintro ⟨c1, c2, c3, c4⟩
  unfold hwrE at h2 h8
  rw [if_pos c1, c2, if_neg (by decide), if_pos c3, if_pos c4] at h2 h8
  unfold dedE at h2 h8
  rcases er_save (dedH h m.toNat) with e | e | e
  · exact e
  · rw [e] at h2; exact absurd rfl h2
  · rw [e] at h8; exact absurd rfl h8
open Go.RowKit
set_option linter.unusedVariables false
set_option maxRecDepth 100000
def LooE : Elt (Int × Blk) := pairE 120 201 Tryz.underlying120 (by kernel_rfl)
structure RefD (w : World) (p : Nat) (vS vL : Value) (S : List Blk) (L : List (Int × Blk)) (g : Bool) : Prop where
  at_ : w.heap[p]? = some (.cells #[vS, vL, .bool g] 122)
  S_ : bh BlkE w 0 vS S
  L_ : bh LooE w 0 vL L
section
variable {w w' : World} {p : Nat} {vS vL : Value} {S : List Blk} {L : List (Int × Blk)} {g : Bool} {F : Nat → Prop}
theorem RefD.lt (h : RefD w p vS vL S L g) : ∀ k, foot p vS vL k → k < w.heap.size := by
  intro k hk
  rcases hk with rfl | hk | hk
  · exact (Array.getElem?_eq_some_iff.1 h.at_).1
  · exact h.S_.own_lt k hk
  · exact h.L_.own_lt k hk
theorem RefD.only (h : RefD w p vS vL S L g) (k : Only F w w') (hn : ∀ b, foot p vS vL b → ¬ F b) : RefD w' p vS vL S L g :=
  ⟨k.keep h.at_ (hn p (.inl rfl)), h.S_.only k fun b hb => hn b (.inr (.inl hb)), h.L_.only k fun b hb => hn b (.inr (.inr hb))⟩
theorem RefD.below (h : RefD w p vS vL S L g) (k : Below w.heap.size w w') : RefD w' p vS vL S L g := h.only (Only.of_below (fun _ => False) k) fun _ _ e => e
end
theorem r_asks (p : Nat) (vS vL : Value) (S : List Blk) (L : List (Int × Blk)) (g : Bool) (n : Int) (w : World) (h : RefD w p vS vL S L g) :
    Calls Tryz.prog 114 #[.pointer (some ⟨p, 0, none⟩), .int .i64 n] w fun e w' => e = .returned (.int .i64 (cC S g n)) ∧ w = w' := by
  obtain ⟨c0, c1, c2⟩ := cells3 h.at_
  obtain ⟨A, c, rfl, hc1, hc2⟩ := h.S_.form
  by_cases h0 : n < 0
  · have HE := Lib.hid (askE_out (S := S) (n := n) g (by omega))
    go_enter Tryz.func114, Tryz.ntmps114
    go_wp2
    go_ret
    exact ⟨bV HE.out.symm, rfl⟩
  · by_cases h1 : n < S.length
    · cases g
      · have HE := Lib.hid (ef (S := S) (n := n) (by omega))
        go_enter Tryz.func114, Tryz.ntmps114
        go_wp2
        go_ret
        exact ⟨bV HE.out.symm, rfl⟩
      · have HE := Lib.hid (askE_dead (S := S) (n := n) (by omega))
        go_enter Tryz.func114, Tryz.ntmps114
        go_wp2
        go_ret
        exact ⟨bV HE.out.symm, rfl⟩
    · have HE := Lib.hid (askE_out (S := S) (n := n) g (by omega))
      go_enter Tryz.func114, Tryz.ntmps114
      go_wp2
      go_ret
      exact ⟨bV HE.out.symm, rfl⟩
open Go.RowKit
set_option linter.unusedVariables false
set_option maxRecDepth 100000
set_option maxHeartbeats 1000000 in
theorem r_sure (p : Nat) (vS vL : Value) (S : List Blk) (L : List (Int × Blk)) (g : Bool) (n : Int) (w : World) (h : RefD w p vS vL S L g) :
    Calls Tryz.prog 83 #[.pointer (some ⟨p, 0, none⟩), .int .i64 n] w fun e w' => e = .returned (.tuple #[blk (dP S g n), .int .i64 (cC S g n)]) ∧ Below w.heap.size w w' := by
  have hA := (Below.refl w.heap.size w).alloc (Nat.le_refl _) (.cells (cel au).toArray 58)
  have h1 := h.below hA
  have HT := Lib.hid (dj w au 58)
  have HA := Lib.hid hA
  clear hA
  rcases el (S := S) (g := g) (n := n) with he | he | ⟨he, rfl, k, rfl, hk⟩
  · have HS := Lib.hid (sureB_no (S := S) (g := g) (n := n) (by omega))
    have HE := Lib.hid he
    clear he
    go_enter Tryz.func83, Tryz.ntmps83
    go_wp2_with (first | (refine ag rfl (aQ rfl) ?_) | fail)
    refine (r_asks p vS vL S L g n _ h1).mono ?_
    rintro e w1 ⟨rfl, rfl⟩
    rw [HE.out]
    go_wp2_with (first | (refine ag rfl (cn (c := au) (parts := []) rfl rfl) ?_) | (refine aN rfl (bj rfl rfl rfl HT.out) ?_))
    refine bodyPost_ret (bQ rfl _ _ _ rfl (World.rangeAt_setCells_same _ _ _ _ (by rw [az]; exact HT.out))) rfl ⟨by rw [HS.out, HE.out]; rfl, below_setCells HA.out (Nat.le_refl _) _⟩
  · have HS := Lib.hid (sureB_no (S := S) (g := g) (n := n) (by omega))
    have HE := Lib.hid he
    clear he
    go_enter Tryz.func83, Tryz.ntmps83
    go_wp2_with (first | (refine ag rfl (aQ rfl) ?_) | fail)
    refine (r_asks p vS vL S L g n _ h1).mono ?_
    rintro e w1 ⟨rfl, rfl⟩
    rw [HE.out]
    go_wp2_with (first | (refine ag rfl (cn (c := au) (parts := []) rfl rfl) ?_) | (refine aN rfl (bj rfl rfl rfl HT.out) ?_))
    refine bodyPost_ret (bQ rfl _ _ _ rfl (World.rangeAt_setCells_same _ _ _ _ (by rw [az]; exact HT.out))) rfl ⟨by rw [HS.out, HE.out]; rfl, below_setCells HA.out (Nat.le_refl _) _⟩
  · have HS := Lib.hid (sureB_ok he)
    have HE := Lib.hid he
    clear he
    obtain ⟨A, c, rfl, hrd, hc1, hc2⟩ := h1.S_.open_ rfl
    obtain ⟨b, off, rfl, hb, hr⟩ := hrd.blk hk
    obtain ⟨c0, c1, c2⟩ := cells3 h1.at_
    generalize S.getD k au = x at *
    have HR := Lib.hid hr
    clear hr hrd
    go_enter Tryz.func83, Tryz.ntmps83
    go_wp2_with (first | (refine ag rfl (aQ rfl) ?_) | fail)
    refine (r_asks p _ vL S L false k _ h1).mono ?_
    rintro e w1 ⟨rfl, rfl⟩
    rw [HE.out]
    go_wp2_with (first | (refine ag rfl (aV rfl rfl HR.out) ?_) | (refine aN rfl (bj rfl rfl rfl HT.out) ?_))
    refine bodyPost_ret (bQ rfl _ _ _ rfl (World.rangeAt_setCells_same _ _ _ _ (by rw [az]; exact HT.out))) rfl ⟨by rw [HS.out, HE.out]; rfl, below_setCells HA.out (Nat.le_refl _) _⟩
open Go.RowKit
set_option linter.unusedVariables false
set_option maxRecDepth 100000
set_option maxHeartbeats 1000000 in
theorem r_new_ok (k : Nat) (w : World) (h1 : 1 ≤ k) (h2 : k ≤ 512) :
    Calls Tryz.prog 33 #[.int .i64 k] w fun e w' => ∃ p vS, e = .returned (.tuple #[.pointer (some ⟨p, 0, none⟩), .int .i64 0]) ∧ RefD w' p vS (.slice none 0 0) (List.replicate k au) [] false ∧ Below w.heap.size w w' ∧ ∀ b, foot p vS (.slice none 0 0) b → w.heap.size ≤ b := by
  go_enter Tryz.func33, Tryz.ntmps33
  have HM := Lib.hid (heap_alloc_new w (.cells (madeCells (cel au).toArray (k * 64)) 58))
  have HB := Lib.hid ((Below.refl w.heap.size w).alloc (Nat.le_refl _) (.cells (madeCells (cel au).toArray (k * 64)) 58))
  have HSZ := Lib.hid (World.size_alloc w (.cells (madeCells (cel au).toArray (k * 64)) 58))
  go_wp2_with (first | (refine ag rfl (exec_make (n := k) rfl rfl rfl (by omega)) ?_))
  generalize w.alloc (.cells (madeCells (cel au).toArray (k * 64)) 58) = w1 at *
  go_ret2
  have hS : bh BlkE w1 0 (.slice (some ⟨w.heap.size, 0, none⟩) k k) (List.replicate k au) := bh.of_block (E := BlkE) HM.out (by rw [← flat_zeros]; rfl) (Nat.zero_le _) (by simp) (by unfold maxLen; omega)
  have hnw := heap_alloc_new w1 (.cells #[.slice (some ⟨w.heap.size, 0, none⟩) k k, .slice none 0 0, .bool false] 122)
  rw [HSZ.out] at hnw
  refine ⟨w.heap.size + 1, _, rfl, ⟨hnw, hS.below ((Below.refl _ _).alloc (Nat.le_refl _) _), bh.nil _ _⟩, HB.out.alloc HB.out.size _, fun b hb => ?_⟩
  rcases hb with rfl | hb | hb
  · omega
  · simp [Value.ownBlock] at hb; omega
  · simp [Value.ownBlock] at hb
theorem r_new_no (n : Int) (w : World) (h : ¬(1 ≤ n ∧ n ≤ 512)) :
    Calls Tryz.prog 33 #[.int .i64 n] w fun e w' => e = .returned (.tuple #[.pointer none, .int .i64 2]) ∧ w = w' := by
  have hor : n < 1 ∨ (1 ≤ n ∧ 512 < n) := by omega
  clear h
  rcases hor with h | ⟨h, h'⟩
  all_goals
    go_enter Tryz.func33, Tryz.ntmps33
    go_wp2
    go_ret2
    exact ⟨rfl, rfl⟩
end Go.Proofs.YtnliphgjcaippaaGreatDoor
