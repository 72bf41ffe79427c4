/-
  A region that draws its order, with an operation (number z) that turns the condition which the loads lean on: ahead of it S holds, behind it T.
-/
import Derived.Test.YtmnabdojlekjcaaLast
namespace Go.Proofs.Ytmnabdojlekjcaa
open Go.RowKit
set_option maxRecDepth 100000
set_option linter.unusedVariables false
set_option linter.unusedSimpArgs false

section
variable {P : Program} {ops : Array Oper} {Q : Exit → Act → World → Prop} {md : Region.Mode} {S T : World → Prop} {z : Nat}
/-- What holds where so many are listed. -/
def condW (S T : World → Prop) (z : Nat) (listed : Array Bool) (w : World) : Prop := (listed.getD z false = false → S w) ∧ (listed.getD z false = true → T w)
/-- Whatever order is picked from here on; S holds ahead of number z, T behind it. -/
def wpAnyW (P : Program) (md : Region.Mode) (ops : Array Oper) (Q : Exit → Act → World → Prop) (S T : World → Prop) (z : Nat) : Nat → Array Bool → Act → World → Prop
  | 0, listed, a, w => Region.ready md ops listed = [] ∧ Q .normal a w
  | fuel + 1, listed, a, w =>
    (Region.ready md ops listed = [] → Q .normal a w) ∧
    ∀ i ∈ Region.ready md ops listed, wpOp P ops Q i (fun a' w' => condW S T z (listed.setIfInBounds i true) w' ∧ wpAnyW P md ops Q S T z fuel (listed.setIfInBounds i true) a' w') a w
theorem wpAny_of_W : ∀ (fuel : Nat) (listed : Array Bool) (a : Act) (w : World), wpAnyW P md ops Q S T z fuel listed a w → wpAny P md ops Q fuel listed a w
  | 0, _, _, _, h => h
  | fuel + 1, _, _, _, h => ⟨h.1, fun i hi => wpOp_mono (fun a' w' h' => wpAny_of_W fuel _ a' w' h'.2) (h.2 i hi)⟩
theorem getD_set_hit {l : Array Bool} {i : Nat} (h : i < l.size) : (l.setIfInBounds i true).getD i false = true := by simp [h]
theorem getD_set_off_ {l : Array Bool} {i j : Nat} (h : j ≠ i) : (l.setIfInBounds i true).getD j false = l.getD j false := by
  by_cases hj : j < l.size
  · simp [hj, Array.getElem_setIfInBounds, Ne.symm h]
  · simp [Array.getElem?_eq_none (Nat.le_of_not_lt hj), hj]
/-- One that is listed does not change what holds, unless it is z. -/
theorem condW_set {listed : Array Bool} {w : World} {i : Nat} (h : condW S T z listed w) (hi : i ≠ z) : condW S T z (listed.setIfInBounds i true) w := by
  unfold condW at *
  rw [getD_set_off_ (Ne.symm hi)]
  exact h
theorem condW_un {listed : Array Bool} {w : World} {i : Nat} (h : condW S T z (listed.setIfInBounds i true) w) (hi : i ≠ z) : condW S T z listed w := by
  unfold condW at *
  rw [getD_set_off_ (Ne.symm hi)] at h
  exact h
theorem wpAnyW_first {i : Nat} {oi : Oper} {v : Value} (hi : ops[i]? = some oi) (hsel : ∀ (j : Nat) (o : Oper) cs b, ops[j]? = some o → o.op ≠ .select cs b)
    (hQ : ∀ c a w, Q (.panic c) (a.put oi.dst v) w → Q (.panic c) a w) (hiz : i ≠ z) {U : World → Prop} (hS : ∀ w, S w → U w) (hT : waitsB md ops z i = true ∨ ∀ w, T w → U w) :
    ∀ (fuel : Nat) (listed : Array Bool) (a : Act) (w : World),
      (∀ j oj, ops[j]? = some oj → j ≠ i → listed.getD j true = false → (∀ e ∈ oj.after, Region.binds md e = true → e.on ≠ i) → oi.apart ops oj = true) →
      i ∈ Region.ready md ops listed → (waitsB md ops z i = true → listed.getD z false = false) → YieldsIf P ops U oi v a → condW S T z listed w →
      wpAnyW P md ops Q S T z fuel (listed.setIfInBounds i true) (a.put oi.dst v) w → wpAnyW P md ops Q S T z (fuel + 1) listed a w := by
  intro fuel
  have key : ∀ (listed : Array Bool) (w : World), (waitsB md ops z i = true → listed.getD z false = false) → condW S T z listed w → U w := fun listed w hz hc => by
    by_cases hl : listed.getD z false = false
    · exact hS w (hc.1 hl)
    · rcases hT with h | h
      · exact absurd (hz h) hl
      · exact h w (hc.2 (by simpa using hl))
  induction fuel with
  | zero =>
    intro listed a w _ hr hz hy hc H
    refine ⟨fun h => (by rw [h] at hr; cases hr), fun j hj => ?_⟩
    by_cases hji : j = i
    · subst hji; exact hy.wpOp hi (key listed w hz hc) ⟨condW_set hc hiz, H⟩
    · have := ready_mono hj hji
      rw [H.1] at this
      cases this
  | succ fuel ih =>
    intro listed a w hfree hr hz hy hc H
    refine ⟨fun h => (by rw [h] at hr; cases hr), fun j hj => ?_⟩
    by_cases hji : j = i
    · subst hji; exact hy.wpOp hi (key listed w hz hc) ⟨condW_set hc hiz, H⟩
    · have h1 := H.2 j (ready_mono hj hji)
      obtain ⟨hjun, oj, hoj, hall⟩ := mem_ready.1 hj
      have hnot : ∀ e ∈ oj.after, Region.binds md e = true → e.on ≠ i := fun e he hb heq => by
        have h1 := hall e he hb
        rw [heq, un_of (mem_ready.1 hr).1] at h1
        cases h1
      have h2 := wpOp_putIf hoj (hfree j oj hoj hji hjun hnot) (fun cs b => hsel i oi cs b hi) (fun cs b => hsel j oj cs b hoj) hQ hy h1
      have hfree' : ∀ k ok, ops[k]? = some ok → k ≠ i → (listed.setIfInBounds j true).getD k true = false →
          (∀ e ∈ ok.after, Region.binds md e = true → e.on ≠ i) → oi.apart ops ok = true := fun k ok hk hki hun hno => by
        refine hfree k ok hk hki ?_ hno
        by_cases hjk : j = k
        · subst hjk; exact hjun
        · rw [getD_set_ne true hjk] at hun; exact hun
      have hz' : waitsB md ops z i = true → (listed.setIfInBounds j true).getD z false = false := fun hw => by
        have hjz : j ≠ z := fun e => by
          subst e
          exact waits_spec hw (un_of (mem_ready.1 hr).1) hj
        rw [getD_set_off_ (Ne.symm hjz)]
        exact hz hw
      refine wpOp_mono (fun a' w' h3 => ?_) h2
      have hc' : condW S T z (listed.setIfInBounds j true) w' := by
        have h4 := h3.2.1
        rw [Array.setIfInBounds_comm _ _ (Ne.symm hji)] at h4
        exact condW_un h4 hiz
      refine ⟨hc', ih (listed.setIfInBounds j true) a' w' hfree' (ready_mono hr (Ne.symm hji)) hz' h3.1 hc' ?_⟩
      rw [Array.setIfInBounds_comm _ _ hji]
      exact h3.2.2
theorem wpAnyW_all {rs : List Nat} {fuel : Nat} {listed : Array Bool} {a : Act} {w : World} (hr : Region.ready md ops listed = rs) (hne : rs ≠ [])
    (h : ∀ i ∈ rs, wpOp P ops Q i (fun a' w' => condW S T z (listed.setIfInBounds i true) w' ∧ wpAnyW P md ops Q S T z fuel (listed.setIfInBounds i true) a' w') a w) : wpAnyW P md ops Q S T z (fuel + 1) listed a w :=
  ⟨fun h0 => absurd (hr ▸ h0) hne, hr ▸ h⟩
theorem wpAnyW_done {listed : Array Bool} {a : Act} {w : World} (hr : Region.ready md ops listed = []) (h : Q .normal a w) :
    ∀ fuel, wpAnyW P md ops Q S T z fuel listed a w
  | 0 => ⟨hr, h⟩
  | _ + 1 => ⟨fun _ => h, by rw [hr]; simp⟩
theorem wp_region_two {id : Nat} {a : Act} {w : World} (S T : World → Prop) (z : Nat) (hm : P.follows .mixedOrders = true)
    (h : wpAnyW P .any ops Q S T z ops.size (Array.replicate ops.size false) a w.drew) : (Code.region id ops true).wp P Q a w :=
  wp_region_any hm (wpAny_of_W _ _ _ _ h)
end
section
variable {P : Program} {md : Region.Mode} {l : List Oper} {Q : Exit → Act → World → Prop} {S T : World → Prop} {z fuel : Nat} {listed : Array Bool} {a : Act} {w w' : World} {o : Oper} {v : Value}
/-- An operation that only reads, for which z waits: ahead of it. -/
theorem two_val (i : Nat) (hi : l[i]? = some o) (hs : Region.noSelect l.toArray = true) (hf : Region.free md l.toArray listed i = true) (hr : (Region.ready md l.toArray listed).contains i = true) (hiz : i ≠ z) (hwz : waitsB md l.toArray z i = true) (hlz : listed.getD z false = false)
    (hw : Region.wanted o (yielded l.toArray a.tmps) = true) (h : ∀ w, S w → (execOp a.eval o).run P w = .ok (.value v) w) (hQ : ∀ c a w, Q (.panic c) (a.put o.dst v) w → Q (.panic c) a w) (hS : S w)
    (hk : wpAnyW P md l.toArray Q S T z fuel (listed.setIfInBounds i true) (a.put o.dst v) w) : wpAnyW P md l.toArray Q S T z (fuel + 1) listed a w :=
  wpAnyW_first (by simpa using hi) (Region.noSelect_spec hs) hQ hiz (U := S) (fun _ h => h) (.inl hwz) fuel listed a w (Region.free_spec (by simpa using hi) hf) (by simpa using hr) (fun _ => hlz) (.inl ⟨hw, h⟩) ⟨fun _ => hS, fun e => absurd (e.symm.trans hlz) (by decide)⟩ hk
/-- One for which z does not wait, or that comes behind it. -/
theorem two_any (i : Nat) (hi : l[i]? = some o) (hs : Region.noSelect l.toArray = true) (hf : Region.free md l.toArray listed i = true) (hr : (Region.ready md l.toArray listed).contains i = true) (hiz : i ≠ z) (hwz : waitsB md l.toArray z i = false)
    (hw : Region.wanted o (yielded l.toArray a.tmps) = true) (h : ∀ w, S w ∨ T w → (execOp a.eval o).run P w = .ok (.value v) w) (hQ : ∀ c a w, Q (.panic c) (a.put o.dst v) w → Q (.panic c) a w) (hc : condW S T z listed w)
    (hk : wpAnyW P md l.toArray Q S T z fuel (listed.setIfInBounds i true) (a.put o.dst v) w) : wpAnyW P md l.toArray Q S T z (fuel + 1) listed a w :=
  wpAnyW_first (by simpa using hi) (Region.noSelect_spec hs) hQ hiz (U := fun w => S w ∨ T w) (fun _ h => .inl h) (.inr fun _ h => .inr h) fuel listed a w (Region.free_spec (by simpa using hi) hf) (by simpa using hr) (fun e => by rw [hwz] at e; cases e) (.inl ⟨hw, h⟩) hc hk
/-- The only one that may come up. -/
theorem two_turn (i : Nat) (hi : l[i]? = some o) (hr : Region.ready md l.toArray listed = [i]) (hw : Region.wanted o (yielded l.toArray a.tmps) = true) (h : (execOp a.eval o).run P w = .ok (.value v) w')
    (hc : condW S T z (listed.setIfInBounds i true) w') (hk : wpAnyW P md l.toArray Q S T z fuel (listed.setIfInBounds i true) (a.put o.dst v) w') : wpAnyW P md l.toArray Q S T z (fuel + 1) listed a w :=
  wpAnyW_all hr (by simp) fun j hj => by
    obtain rfl : j = i := by simpa using hj
    unfold wpOp
    simp only [List.getElem?_toArray, hi, hw, if_true]
    refine .inl ?_
    unfold Oper.wp
    rw [h]
    exact ⟨hc, hk⟩
theorem two_call (i : Nat) {f : FuncId} {vs : Array Value} (hi : l[i]? = some o) (hr : Region.ready md l.toArray listed = [i]) (hw : Region.wanted o (yielded l.toArray a.tmps) = true) (h : (execOp a.eval o).run P w = .ok (.enter f vs) w)
    (hc : Calls P f vs w fun e w' => ∃ v, e = .returned v ∧ condW S T z (listed.setIfInBounds i true) w' ∧ wpAnyW P md l.toArray Q S T z fuel (listed.setIfInBounds i true) (a.put o.dst v) w') : wpAnyW P md l.toArray Q S T z (fuel + 1) listed a w :=
  wpAnyW_all hr (by simp) fun j hj => by
    obtain rfl : j = i := by simpa using hj
    unfold wpOp
    simp only [List.getElem?_toArray, hi, hw, if_true]
    refine .inl ?_
    unfold Oper.wp
    rw [h]
    exact hc.mono fun e w' ⟨v, he, hk⟩ => by subst he; exact hk
theorem two_nul (i : Nat) (hi : l[i]? = some o) (hr : Region.ready md l.toArray listed = [i]) (hw : Region.wanted o (yielded l.toArray a.tmps) = true) (h : (execOp a.eval o).run P w = .ok .skip w')
    (hc : condW S T z (listed.setIfInBounds i true) w') (hk : wpAnyW P md l.toArray Q S T z fuel (listed.setIfInBounds i true) (a.put o.dst undef) w') : wpAnyW P md l.toArray Q S T z (fuel + 1) listed a w :=
  wpAnyW_all hr (by simp) fun j hj => by
    obtain rfl : j = i := by simpa using hj
    unfold wpOp
    simp only [List.getElem?_toArray, hi, hw, if_true]
    refine .inl ?_
    unfold Oper.wp
    rw [h]
    exact ⟨hc, hk⟩
theorem condW_pre (hl : listed.getD z false = false) (h : S w) : condW S T z listed w := ⟨fun _ => h, fun e => absurd (e.symm.trans hl) (by decide)⟩
theorem condW_post (hl : listed.getD z false = true) (h : T w) : condW S T z listed w := ⟨fun e => absurd (e.symm.trans hl) (by decide), fun _ => h⟩
end
end Go.Proofs.Ytmnabdojlekjcaa
