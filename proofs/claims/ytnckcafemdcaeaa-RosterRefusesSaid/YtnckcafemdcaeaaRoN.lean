/-
  What becomes of a roster that may be may be; what follows for out of order and healing. No program.
-/
import Derived.Test.YtnckcafemdcaeaaRoM
namespace Go.Proofs.Ytnckcafemdcaeaa
open Go.RowKit
set_option linter.unusedVariables false

theorem heals_set (x : Ros) {j : Nat} (h : j < 16) (u : UInt8) : heals (setS x j u) + (if sta x j = 2 then 1 else 0) = heals x + (if (u.toNat : Int) = 2 then 1 else 0) := by
  rw [heals_many, heals_many]; exact many_setS x h u 2
theorem heals_cur (x : Ros) (c : Int) : heals (curS x c) = heals x := rfl
theorem sta_cur (x : Ros) (c : Int) (j : Nat) : sta (curS x c) j = sta x j := rfl
theorem outs_cur (x : Ros) (c : Int) : outs (curS x c) = outs x := rfl
theorem u1 : (((1 : UInt8).toNat : Nat) : Int) = 1 := rfl
theorem u2 : (((2 : UInt8).toNat : Nat) : Int) = 2 := rfl
theorem u0 : (((0 : UInt8).toNat : Nat) : Int) = 0 := rfl
theorem mem_lt {x : Ros} {m : Int} (hf : fineB x = true) (hq : hasM x m = true) : m.toNat < 16 ∧ ((m.toNat : Nat) : Int) < x.m ∧ ((m.toNat : Nat) : Int) = m := by
  have h1 := of_hasM hq
  have h2 := of_geoB (of_fineB hf).1
  omega
theorem fine_los {x : Ros} (m : Int) (hf : fineB x = true) : fineB (losX x m) = true := by
  unfold losX
  split
  · rename_i hb
    have hq : hasM x m = true := by
      unfold losB at hb
      rw [hf, Bool.true_and, Bool.and_eq_true] at hb
      exact hb.1
    obtain ⟨h16, hlt, _⟩ := mem_lt hf hq
    obtain ⟨hg, hs, h1, c0, c1, c2⟩ := of_fineB hf
    have g := of_geoB hg
    split
    · rename_i h2
      have hh := heals_set (curS x 0) h16 1
      rw [sta_cur, if_pos h2, heals_cur, if_neg (by rw [u1]; omega)] at hh
      refine fineB_of ⟨hg, staB_setS (x := curS x 0) hs h16 hlt (by decide), by omega, ?_⟩
      show (0 : Int) ≤ 0 ∧ (0 : Int) < x.s ∧ (heals _ = 1 ∨ (0 : Int) = 0)
      omega
    · rename_i h2
      have hh := heals_set x h16 1
      rw [if_neg h2, if_neg (by rw [u1]; omega)] at hh
      refine fineB_of ⟨hg, staB_setS hs h16 hlt (by decide), by omega, ?_⟩
      show 0 ≤ x.cur ∧ x.cur < x.s ∧ (heals _ = 1 ∨ x.cur = 0)
      omega
  · exact hf
theorem of_begE {x : Ros} {m : Int} (h0 : begE x m = 0) : fineB x = true ∧ hasM x m = true ∧ sta x m.toNat = 1 ∧ outs x = 1 ∧ x.gone = false := by
  unfold begE at h0
  split at h0
  · rename_i h
    split at h0
    · rename_i h'; exact ⟨h.1, h.2, h'⟩
    · omega
  · omega
theorem heals_one {x : Ros} {j : Nat} (hs : staB x = true) (hj : j < 16) (h1 : sta x j = 1) (ho : outs x = 1) : heals x = 0 := by
  have h2 := outs_many hs
  have h3 := heals_many x
  have h4 : 1 ≤ many x 1 := cntK_pos h1 hj
  omega
theorem fine_beg {x : Ros} {m : Int} (h0 : begE x m = 0) : fineB (begX x m) = true := by
  obtain ⟨hf, hq, h1, ho, hgo⟩ := of_begE h0
  unfold begX
  rw [if_pos h0]
  obtain ⟨h16, hlt, _⟩ := mem_lt hf hq
  obtain ⟨hg, hs, hh1, c0, c1, c2⟩ := of_fineB hf
  have hz := heals_one hs h16 h1 ho
  have hh := heals_set x h16 2
  rw [if_neg (by omega), if_pos u2] at hh
  refine fineB_of ⟨hg, staB_setS hs h16 hlt (by decide), by omega, ?_⟩
  show 0 ≤ x.cur ∧ x.cur < x.s ∧ (heals _ = 1 ∨ x.cur = 0)
  omega
theorem of_nexE {x : Ros} (h0 : nexE x = 0) : fineB x = true ∧ ∃ j, healJ x = some j := by
  unfold nexE at h0
  split at h0
  · rename_i hf
    cases hj : healJ x with
    | none => rw [hj] at h0; simp at h0
    | some j => exact ⟨hf, j, rfl⟩
  · omega
theorem fine_nex {x : Ros} (h0 : nexE x = 0) : fineB (nexX x) = true := by
  obtain ⟨hf, j, hj⟩ := of_nexE h0
  unfold nexX
  rw [if_pos h0]
  have hm : heaM x = j := by unfold heaM; rw [hf, hj]; rfl
  rw [hm]
  obtain ⟨hg, hs, hh1, c0, c1, c2⟩ := of_fineB hf
  obtain ⟨h16, h2⟩ := healJ_some hj
  have hne : heals x ≠ 0 := fun e => by rw [(healJ_none x).2 e] at hj; cases hj
  have g := of_geoB hg
  split
  · have hh := heals_set (curS x (x.cur + 1)) h16 0
    rw [sta_cur, if_pos h2, heals_cur, if_neg (by rw [u0]; omega)] at hh
    have hlt : (j : Int) < x.m := Classical.byContradiction fun hn => by
      have := (of_staB hs).2 j h16 (by omega)
      omega
    refine fineB_of ⟨hg, staB_setS (x := curS x (x.cur + 1)) hs h16 hlt (by decide), ?_, ?_⟩
    · rw [heals_cur]; omega
    · rw [heals_cur]
      show (0 : Int) ≤ 0 ∧ (0 : Int) < x.s ∧ (heals _ = 1 ∨ (0 : Int) = 0)
      omega
  · rename_i hc
    refine fineB_of ⟨hg, hs, hh1, ?_⟩
    show 0 ≤ x.cur + 1 ∧ x.cur + 1 < x.s ∧ (heals x = 1 ∨ x.cur + 1 = 0)
    omega
theorem fine_gon {x : Ros} (g : Bool) (hf : fineB x = true) : fineB (gonX x g) = true := by
  unfold gonX
  rw [if_pos hf]
  obtain ⟨hg, hs, hh1, c⟩ := of_fineB hf
  exact fineB_of ⟨hg, hs, hh1, c⟩
/-! What is counted over the members alone. -/
theorem outs_mem {x : Ros} (hf : fineB x = true) : outK x.st.toList x.m.toNat = outs x := by
  obtain ⟨hg, hs, _⟩ := of_fineB hf
  have g := of_geoB hg
  exact (outK_more (by omega) fun j h1 h2 => (of_staB hs).2 j h2 (by omega)).symm
theorem heals_mem {x : Ros} (hf : fineB x = true) : healK x.st.toList x.m.toNat = heals x := by
  obtain ⟨hg, hs, _⟩ := of_fineB hf
  have g := of_geoB hg
  exact (healK_more (by omega) fun j h1 h2 => (of_staB hs).2 j h2 (by omega)).symm
/-! An act of the law. -/
structure Act10 where
  Do : Int
  M : Int
  G : Bool
def actX (x : Ros) (a : Act10) : Ros :=
  if a.Do = 0 then losX x a.M else if a.Do = 1 then (if begE x a.M = 0 then begX x a.M else x) else if a.Do = 2 then (if nexE x = 0 then nexX x else x) else (if gonE x = 0 then gonX x a.G else x)
theorem fine_act {x : Ros} (a : Act10) (hf : fineB x = true) : fineB (actX x a) = true := by
  unfold actX
  split
  · exact fine_los _ hf
  · split
    · split
      · rename_i h; exact fine_beg h
      · exact hf
    · split
      · split
        · rename_i h; exact fine_nex h
        · exact hf
      · split
        · exact fine_gon _ hf
        · exact hf
end Go.Proofs.Ytnckcafemdcaeaa
