/-
  A new roster of which one member is lost, and heals; of which two are lost. No program.
-/
import Derived.Test.YtnckcafemdcaeaaRoN
namespace Go.Proofs.Ytnckcafemdcaeaa
open Go.RowKit
set_option linter.unusedVariables false
set_option linter.unusedSectionVars false

theorem set_set (x : Ros) (j : Nat) (u v : UInt8) : setS (setS x j u) j v = setS x j v := by
  refine ros_ext ⟨rfl, rfl, rfl⟩ ?_ rfl rfl
  rw [setS_list, setS_list, setS_list, List.set_set]
/-- A new roster, of a geometry that may be, and one of its members. -/
structure NewR (g : Ros) (p : Nat) : Prop where
  gz_ : gz g = g
  geo : geoB g = true
  lt : (p : Int) < g.m
section
variable {g : Ros} {p q k : Nat} (h : NewR g p)
include h
theorem NewR.p16 : p < 16 := by have := of_geoB h.geo; have := h.lt; omega
theorem NewR.fine : fineB g = true := by rw [← h.gz_, fine_gz]; exact h.geo
theorem NewR.has : hasM g (p : Int) = true := decide_eq_true ⟨by omega, h.lt⟩
theorem NewR.sta (hk : k < 16) : sta g k = 0 := by rw [← h.gz_]; exact sta_gz g hk
theorem NewR.outs : outs g = 0 := by rw [← h.gz_]; exact outs_gz g
theorem NewR.heals : heals g = 0 := by rw [← h.gz_]; exact heals_gz g
theorem NewR.cur : g.cur = 0 := by rw [← h.gz_]; rfl
theorem NewR.gone : g.gone = false := by rw [← h.gz_]; rfl
theorem NewR.new : newX g = g := by unfold newX; rw [h.geo]; exact h.gz_
theorem NewR.newE : newE g = 0 := by unfold Proofs.Ytnckcafemdcaeaa.newE; rw [h.geo]; rfl
theorem NewR.beg : begE g (p : Int) = 17 := by
  unfold begE
  rw [if_pos ⟨h.fine, h.has⟩, if_neg]
  rintro ⟨h1, _⟩
  have := h.sta h.p16
  simp only [Int.toNat_natCast] at h1
  omega
/-! One is lost. -/
theorem NewR.losB : losB g (p : Int) = true := by
  unfold Proofs.Ytnckcafemdcaeaa.losB
  rw [h.fine, h.has, Bool.true_and, Bool.true_and, decide_eq_true_iff, Int.toNat_natCast, h.sta h.p16]
  omega
theorem NewR.los : losX g (p : Int) = setS g p 1 := by
  unfold losX
  rw [if_pos h.losB, Int.toNat_natCast, if_neg (by rw [h.sta h.p16]; omega)]
theorem NewR.sta1 (u : UInt8) (hk : k < 16) : Proofs.Ytnckcafemdcaeaa.sta (setS g p u) k = if k = p then (u.toNat : Int) else 0 := by
  rw [sta_setS g h.p16, h.sta hk]
theorem NewR.outs1 : Proofs.Ytnckcafemdcaeaa.outs (setS g p 1) = 1 := by
  have := outs_setS g h.p16 1
  rw [h.sta h.p16, h.outs, if_neg (by omega), if_pos (by rw [u1]; omega)] at this
  exact this
theorem NewR.heals1 : Proofs.Ytnckcafemdcaeaa.heals (setS g p 1) = 0 := by
  have := heals_set g h.p16 1
  rw [h.sta h.p16, h.heals, if_neg (by omega), if_neg (by rw [u1]; omega)] at this
  exact this
theorem NewR.fine1 : fineB (setS g p 1) = true := by rw [← h.los]; exact fine_los _ h.fine
theorem NewR.has1 (u : UInt8) : hasM (setS g p u) (p : Int) = true := h.has
theorem NewR.miss1 : (setS g p 1).gone = false := h.gone
theorem NewR.again : Proofs.Ytnckcafemdcaeaa.losB (setS g p 1) (p : Int) = false := by
  unfold Proofs.Ytnckcafemdcaeaa.losB
  rw [h.fine1, h.has1, Bool.true_and, Bool.true_and, decide_eq_false_iff_not, Int.toNat_natCast, h.sta1 1 h.p16, if_pos rfl]
  exact fun hn => hn rfl
theorem NewR.againX : losX (setS g p 1) (p : Int) = setS g p 1 := by unfold losX; rw [h.again]; rfl
theorem NewR.begin : begE (setS g p 1) (p : Int) = 0 := by
  unfold begE
  rw [if_pos ⟨h.fine1, h.has1 1⟩, if_pos]
  exact ⟨by rw [Int.toNat_natCast, h.sta1 1 h.p16, if_pos rfl]; rfl, h.outs1, h.miss1⟩
theorem NewR.goneE : gonE (setS g p 1) = 0 := by unfold gonE; rw [h.fine1]; rfl
theorem NewR.goneX : gonX (setS g p 1) true = gonS (setS g p 1) true := by unfold gonX; rw [h.fine1]; rfl
theorem NewR.begGone : begE (gonS (setS g p 1) true) (p : Int) = 17 := by
  have hf : fineB (gonS (setS g p 1) true) = true := by rw [← h.goneX]; exact fine_gon _ h.fine1
  have hq : hasM (gonS (setS g p 1) true) (p : Int) = true := h.has
  unfold begE
  rw [if_pos ⟨hf, hq⟩, if_neg]
  rintro ⟨_, _, h3⟩
  cases h3
theorem NewR.begFar : begE (setS g p 1) g.m = 2 := by
  unfold begE
  rw [if_neg]
  rintro ⟨_, h2⟩
  have := (of_hasM h2).2
  exact Int.lt_irrefl _ this
theorem NewR.st1 : stN (setS g p 1) = 2 := by
  unfold stN
  rw [if_pos h.fine1, h.outs1, h.heals1, h.miss1]
  rfl
/-! Two are lost. -/
section
variable (hq : (q : Int) < g.m) (hne : q ≠ p)
include hq hne
theorem NewR.q16 : q < 16 := by have := of_geoB h.geo; omega
theorem NewR.sta10 : Proofs.Ytnckcafemdcaeaa.sta (setS g p 1) q = 0 := by rw [h.sta1 1 (h.q16 hq hne), if_neg hne]
theorem NewR.losB2 : Proofs.Ytnckcafemdcaeaa.losB (setS g p 1) (q : Int) = true := by
  have hm : hasM (setS g p 1) (q : Int) = true := decide_eq_true ⟨by omega, hq⟩
  unfold Proofs.Ytnckcafemdcaeaa.losB
  rw [h.fine1, hm, Bool.true_and, Bool.true_and, decide_eq_true_iff, Int.toNat_natCast, h.sta10 hq hne]
  omega
theorem NewR.los2 : losX (setS g p 1) (q : Int) = setS (setS g p 1) q 1 := by
  unfold losX
  rw [if_pos (h.losB2 hq hne), Int.toNat_natCast, if_neg (by rw [h.sta10 hq hne]; omega)]
theorem NewR.outs2 : Proofs.Ytnckcafemdcaeaa.outs (setS (setS g p 1) q 1) = 2 := by
  have := outs_setS (setS g p 1) (h.q16 hq hne) 1
  rw [h.sta10 hq hne, h.outs1, if_neg (by omega), if_pos (by rw [u1]; omega)] at this
  exact this
theorem NewR.fine2 : fineB (setS (setS g p 1) q 1) = true := by rw [← h.los2 hq hne]; exact fine_los _ h.fine1
theorem NewR.beg2 (hk : (k : Int) < g.m) : begE (setS (setS g p 1) q 1) (k : Int) = 17 := by
  have hm : hasM (setS (setS g p 1) q 1) (k : Int) = true := decide_eq_true ⟨by omega, hk⟩
  unfold begE
  rw [if_pos ⟨h.fine2 hq hne, hm⟩, if_neg]
  rintro ⟨_, h2, _⟩
  rw [h.outs2 hq hne] at h2
  omega
theorem NewR.st2 : stN (setS (setS g p 1) q 1) = 5 := by
  unfold stN
  rw [if_pos (h.fine2 hq hne), h.outs2 hq hne]
  rfl
end
/-! One heals. -/
/-- So far it is made anew. -/
def hX (g : Ros) (p : Nat) (s : Nat) : Ros := curS (setS g p 2) (s : Int)
theorem NewR.beginX : begX (setS g p 1) (p : Int) = hX g p 0 := by
  unfold begX
  rw [if_pos h.begin, Int.toNat_natCast, set_set]
  refine ros_ext ⟨rfl, rfl, rfl⟩ rfl ?_ rfl
  show g.cur = ((0 : Nat) : Int)
  rw [h.cur]
  rfl
theorem NewR.heals2 (s : Nat) : Proofs.Ytnckcafemdcaeaa.heals (hX g p s) = 1 := by
  have := heals_set g h.p16 2
  rw [h.sta h.p16, h.heals, if_neg (by omega), if_pos u2] at this
  exact this
theorem NewR.sta2 (s : Nat) (hk : k < 16) : Proofs.Ytnckcafemdcaeaa.sta (hX g p s) k = if k = p then 2 else 0 := h.sta1 2 hk
theorem NewR.fineX {s : Nat} (hs : (s : Int) < g.s) : fineB (hX g p s) = true := by
  obtain ⟨hg, hst, _⟩ := of_fineB h.fine
  refine fineB_of ⟨hg, staB_setS hst h.p16 h.lt (by decide), by have := h.heals2 s; unfold hX at this ⊢; omega, ?_⟩
  have := h.heals2 s
  show 0 ≤ (s : Int) ∧ (s : Int) < g.s ∧ (Proofs.Ytnckcafemdcaeaa.heals (hX g p s) = 1 ∨ (s : Int) = 0)
  omega
theorem NewR.healJ (s : Nat) : healJ (hX g p s) = some p := by
  cases hj : Proofs.Ytnckcafemdcaeaa.healJ (hX g p s) with
  | none => have := (healJ_none _).1 hj; rw [h.heals2] at this; omega
  | some j =>
    obtain ⟨h16, h2⟩ := healJ_some hj
    rw [h.sta2 s h16] at h2
    by_cases e : j = p
    · rw [e]
    · rw [if_neg e] at h2; omega
section
variable {s : Nat} (hs : (s : Int) < g.s)
include hs
theorem NewR.heaM : heaM (hX g p s) = p := by unfold Proofs.Ytnckcafemdcaeaa.heaM; rw [h.fineX hs, h.healJ]; rfl
theorem NewR.heaB : heaB (hX g p s) = true := by unfold Proofs.Ytnckcafemdcaeaa.heaB; rw [h.fineX hs, h.healJ]; rfl
theorem NewR.nexE : nexE (hX g p s) = 0 := by unfold Proofs.Ytnckcafemdcaeaa.nexE; rw [h.fineX hs, h.healJ]; rfl
end
/-- The same, whole behind the last stripe. -/
def hY (g : Ros) (p s : Nat) : Ros := if (s : Int) < g.s then hX g p s else g
theorem NewR.hY0 : hY g p 0 = hX g p 0 := by
  have := of_geoB h.geo
  exact if_pos (by omega)
theorem NewR.nexX {s : Nat} (hs : (s : Int) < g.s) : nexX (hX g p s) = hY g p (s + 1) := by
  unfold Proofs.Ytnckcafemdcaeaa.nexX hY
  rw [if_pos (h.nexE hs), h.heaM hs]
  have e1 : (hX g p s).cur = (s : Int) := rfl
  have e2 : (hX g p s).s = g.s := rfl
  rw [e1, e2]
  by_cases hl : (s : Int) + 1 = g.s
  · rw [if_pos hl, if_neg (by omega)]
    have hst : (setS (curS (hX g p s) ((s : Int) + 1)) p 0).st = g.st := by
      have e3 : (setS (curS (hX g p s) ((s : Int) + 1)) p 0).st.toList = g.st.toList := by
        have e4 := set_set g p 2 0
        have e5 : (setS (curS (hX g p s) ((s : Int) + 1)) p 0).st = (setS (setS g p 2) p 0).st := rfl
        rw [e5, e4]
        refine eq_of_bt (by simp) fun k hk => ?_
        have hk' : k < 16 := by simpa using hk
        have := h.sta1 0 hk'
        have h0 := h.sta hk'
        show Proofs.Ytnckcafemdcaeaa.sta (setS g p 0) k = Proofs.Ytnckcafemdcaeaa.sta g k
        rw [this, h0]
        split <;> rfl
      rw [← ofSt_toList (setS (curS (hX g p s) ((s : Int) + 1)) p 0).st, e3, ofSt_toList]
    refine ros_ext ⟨rfl, rfl, rfl⟩ (by show (setS (curS (hX g p s) ((s : Int) + 1)) p 0).st.toList = _; rw [hst]) ?_ rfl
    exact h.cur.symm
  · rw [if_neg hl, if_pos (by omega)]
    exact ros_ext ⟨rfl, rfl, rfl⟩ rfl (by show (s : Int) + 1 = ((s + 1 : Nat) : Int); omega) rfl
theorem NewR.hasX {s i t : Nat} (hs : (s : Int) < g.s) (hi : (i : Int) < g.m) (ht : (t : Int) < g.s) : hasB (hX g p s) (i : Int) (t : Int) = decide (i ≠ p ∨ t < s) := by
  have h1 : hasM (hX g p s) (i : Int) = true := decide_eq_true ⟨by omega, hi⟩
  have h2 : hasC (hX g p s) (t : Int) = true := decide_eq_true ⟨by omega, ht⟩
  have h16 : i < 16 := by have := of_geoB h.geo; omega
  unfold hasB
  rw [h.fineX hs, h1, h2, Int.toNat_natCast, h.sta2 s h16]
  have e1 : (hX g p s).cur = (s : Int) := rfl
  rw [e1]
  by_cases e : i = p
  · rw [if_pos e]
    simp only [Bool.true_and]
    rw [decide_eq_false (by omega), Bool.false_or, decide_true, Bool.true_and, decide_eq_decide]
    omega
  · rw [if_neg e, show decide (i ≠ p ∨ t < s) = true from decide_eq_true (.inl e)]
    rfl
theorem NewR.hasY {s i t : Nat} (hs : (s : Int) < g.s) (hi : (i : Int) < g.m) (ht : (t : Int) < g.s) : hasB (hY g p (s + 1)) (i : Int) (t : Int) = decide (i ≠ p ∨ t ≤ s) := by
  unfold hY
  by_cases hl : ((s + 1 : Nat) : Int) < g.s
  · rw [if_pos hl, h.hasX hl hi ht, decide_eq_decide]
    omega
  · rw [if_neg hl, decide_eq_true (by omega)]
    have h1 : hasM g (i : Int) = true := decide_eq_true ⟨by omega, hi⟩
    have h2 : hasC g (t : Int) = true := decide_eq_true ⟨by omega, ht⟩
    have h16 : i < 16 := by have := of_geoB h.geo; omega
    unfold hasB
    rw [h.fine, h1, h2, Int.toNat_natCast, h.sta h16, decide_eq_true rfl]
    rfl
theorem NewR.hYend {s : Nat} (hs : ¬ (s : Int) < g.s) : hY g p s = g := if_neg hs
theorem NewR.hYin {s : Nat} (hs : (s : Int) < g.s) : hY g p s = hX g p s := if_pos hs
end
end Go.Proofs.Ytnckcafemdcaeaa
