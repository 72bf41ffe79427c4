/-
  The reference's device: what it has, where it lies; Asks, Sure, Read.
-/
import Derived.Test.YtokdmcikoaagmaaBlkE
namespace Go.Proofs.Ytokdmcikoaagmaa
open Go.RowKit
set_option linter.unusedVariables false

def LooE : Elt (Int × Blk) := pairE 63 78 Try.underlying63 (by kernel_rfl)
section
variable {α : Type} {E : Elt α} {w w' : World} {B p : Nat} {v : Value} {l : List α} {F : Nat → Prop}
theorem MadeE.only (h : MadeE E w B v l) (k : Only F w w') (hn : ∀ b, v.ownBlock = some b → ¬ F b) : MadeE E w' B v l := by
  refine ⟨h.1, ?_⟩
  rcases h.2 with hn' | ⟨g, cap, cur, rfl, hbg, hg, rest⟩
  · exact .inl hn'
  · exact .inr ⟨g, cap, cur, rfl, hbg, (k.block g (Array.getElem?_eq_some_iff.1 hg).1 (hn g rfl)).trans hg, rest⟩
theorem MadeE.own_lt (h : MadeE E w B v l) : ∀ b, v.ownBlock = some b → b < w.heap.size := by
  intro b hb
  rcases h.2 with ⟨rfl, _⟩ | ⟨g, cap, cur, rfl, _, hg, _⟩
  · simp [Value.ownBlock] at hb
  · simp [Value.ownBlock] at hb; subst hb; exact (Array.getElem?_eq_some_iff.1 hg).1
theorem MadeE.not_at (h : MadeE E w B v l) {cs : Array Value} {t : TypeId} {fr : Nat × Nat} (hp : w.heap[p]? = some (.cells cs t fr)) (ht : E.t ≠ t) : v.ownBlock ≠ some p := by
  intro e
  rcases h.2 with ⟨rfl, _⟩ | ⟨g, cap, cur, rfl, _, hg, _⟩
  · simp [Value.ownBlock] at e
  · simp [Value.ownBlock] at e
    subst e
    rw [hp] at hg
    simp at hg
    exact ht hg.2.1.symm
end
/-- The reference's device lies at p: its rows are vS, vL; it has S, what is loose is L, it is dead just if g. -/
structure RefD (w : World) (p : Nat) (vS vL : Value) (S : List Blk) (L : List (Int × Blk)) (g : Bool) : Prop where
  at_ : w.heap[p]? = some (.cells #[vS, vL, .bool g] 65)
  S_ : MadeE BlkE w 0 vS S
  L_ : MadeE LooE w 0 vL L
/-- The blocks of a device. -/
def foot (p : Nat) (vS vL : Value) (k : Nat) : Prop := k = p ∨ vS.ownBlock = some k ∨ vL.ownBlock = some k
section
variable {w w' : World} {p : Nat} {vS vL : Value} {S : List Blk} {L : List (Int × Blk)} {g : Bool} {F : Nat → Prop}
theorem RefD.lt (h : RefD w p vS vL S L g) : ∀ k, foot p vS vL k → k < w.heap.size := by
  intro k hk
  rcases hk with rfl | hk | hk
  · exact (Array.getElem?_eq_some_iff.1 h.at_).1
  · exact h.S_.own_lt k hk
  · exact h.L_.own_lt k hk
theorem RefD.only (h : RefD w p vS vL S L g) (k : Only F w w') (hn : ∀ b, foot p vS vL b → ¬ F b) : RefD w' p vS vL S L g :=
  ⟨k.keep h.at_ (hn p (.inl rfl)), h.S_.only k fun b hb => hn b (.inr (.inl hb)), h.L_.only k fun b hb => hn b (.inr (.inr hb))⟩
theorem RefD.below (h : RefD w p vS vL S L g) (k : Below w.heap.size w w') : RefD w' p vS vL S L g := h.only (Only.of_below (fun _ => False) k) fun _ _ e => e
end
/-- What a call of a sector asks. -/
def askE (S : List Blk) (g : Bool) (n : Int) : Int := if 0 ≤ n ∧ n < S.length then (if g = true then 9 else 0) else 2
theorem askE_out {S : List Blk} {n : Int} (g : Bool) (h : ¬(0 ≤ n ∧ n < S.length)) : askE S g n = 2 := by unfold askE; rw [if_neg h]
theorem askE_dead {S : List Blk} {n : Int} (h : 0 ≤ n ∧ n < S.length) : askE S true n = 9 := by unfold askE; rw [if_pos h]; rfl
theorem askE_ok {S : List Blk} {n : Int} (h : 0 ≤ n ∧ n < S.length) : askE S false n = 0 := by unfold askE; rw [if_pos h]; rfl

theorem r_asks (p : Nat) (vS vL : Value) (S : List Blk) (L : List (Int × Blk)) (g : Bool) (n : Int) (w : World) (h : RefD w p vS vL S L g) :
    Calls Try.prog 39 #[.pointer (some ⟨p, 0, none⟩), .int .i64 n] w fun e w' => e = .returned (.int .i64 (askE S g n)) ∧ w = w' := by
  obtain ⟨c0, c1, c2⟩ := cells3 h.at_
  obtain ⟨A, c, rfl, hc1, hc2⟩ := h.S_.form
  by_cases h0 : n < 0
  · have HE := Lib.hid (askE_out (S := S) (n := n) g (by omega))
    go_enter Try.func39, Try.ntmps39
    go_wp2
    go_ret
    exact ⟨ret_int HE.out.symm, rfl⟩
  · by_cases h1 : n < S.length
    · cases g
      · have HE := Lib.hid (askE_ok (S := S) (n := n) (by omega))
        go_enter Try.func39, Try.ntmps39
        go_wp2
        go_ret
        exact ⟨ret_int HE.out.symm, rfl⟩
      · have HE := Lib.hid (askE_dead (S := S) (n := n) (by omega))
        go_enter Try.func39, Try.ntmps39
        go_wp2
        go_ret
        exact ⟨ret_int HE.out.symm, rfl⟩
    · have HE := Lib.hid (askE_out (S := S) (n := n) g (by omega))
      go_enter Try.func39, Try.ntmps39
      go_wp2
      go_ret
      exact ⟨ret_int HE.out.symm, rfl⟩
end Go.Proofs.Ytokdmcikoaagmaa
