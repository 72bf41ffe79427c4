/-
  The program's device: what it has, where it lies; made, has, refusal, Sectors, Dead, Loose.
-/
import Derived.Test.YtokdmcikoaagmaaRv
namespace Go.Proofs.Ytokdmcikoaagmaa
open Go.RowKit
set_option linter.unusedVariables false

def LwE : Elt (Int × Blk) := pairE 59 68 Try.underlying59 (by kernel_rfl)
theorem cells4 {w : World} {b : Nat} {t : TypeId} {x y z u : Value} (h : w.heap[b]? = some (.cells #[x, y, z, u] t (0, 0))) : w.cell? ⟨b, 0, none⟩ = some x ∧ w.cell? ⟨b, 1, none⟩ = some y ∧ w.cell? ⟨b, 2, none⟩ = some z ∧ w.cell? ⟨b, 3, none⟩ = some u := by
  refine ⟨?_, ?_, ?_, ?_⟩
  · rw [cell_of_row w b 0 _ t (0, 0) h]; rfl
  · rw [cell_of_row w b 1 _ t (0, 0) h]; rfl
  · rw [cell_of_row w b 2 _ t (0, 0) h]; rfl
  · rw [cell_of_row w b 3 _ t (0, 0) h]; rfl
/-- The program's device lies at p: its rows are vS, vL (of a dead one nothing is left); it has S, what is loose is L, it is dead just if g. -/
structure PD (w : World) (p : Nat) (vS vL : Value) (S : List Blk) (L : List (Int × Blk)) (g : Bool) : Prop where
  at_ : w.heap[p]? = some (.cells #[.int .i64 (S.length : Int), vS, vL, .bool g] 61)
  one : 1 ≤ S.length
  S_ : MadeE BlkE w 0 vS (if g = true then [] else S)
  L_ : MadeE LwE w 0 vL L
  dead : g = true → L = []
section
variable {w w' : World} {p : Nat} {vS vL : Value} {S : List Blk} {L : List (Int × Blk)} {g : Bool} {F : Nat → Prop}
theorem PD.lt (h : PD w p vS vL S L g) : ∀ k, foot p vS vL k → k < w.heap.size := by
  intro k hk
  rcases hk with rfl | hk | hk
  · exact (Array.getElem?_eq_some_iff.1 h.at_).1
  · exact h.S_.own_lt k hk
  · exact h.L_.own_lt k hk
theorem PD.only (h : PD w p vS vL S L g) (k : Only F w w') (hn : ∀ b, foot p vS vL b → ¬ F b) : PD w' p vS vL S L g :=
  ⟨k.keep h.at_ (hn p (.inl rfl)), h.one, h.S_.only k fun b hb => hn b (.inr (.inl hb)), h.L_.only k fun b hb => hn b (.inr (.inr hb)), h.dead⟩
theorem PD.below (h : PD w p vS vL S L g) (k : Below w.heap.size w w') : PD w' p vS vL S L g := h.only (Only.of_below (fun _ => False) k) fun _ _ e => e
theorem PD.alive (h : PD w p vS vL S L false) : MadeE BlkE w 0 vS S := h.S_
end
theorem p_made (p : Nat) (vS vL : Value) (S : List Blk) (L : List (Int × Blk)) (g : Bool) (w : World) (h : PD w p vS vL S L g) :
    Calls Try.prog 33 #[.pointer (some ⟨p, 0, none⟩)] w fun e w' => e = .returned (.bool true) ∧ w = w' := by
  obtain ⟨c0, c1, c2, c3⟩ := cells4 h.at_
  have h1 : 0 < S.length := h.one
  go_enter Try.func33, Try.ntmps33
  go_wp2
  go_ret
  exact ⟨rfl, rfl⟩
theorem p_has (p : Nat) (vS vL : Value) (S : List Blk) (L : List (Int × Blk)) (g : Bool) (n : Int) (w : World) (h : PD w p vS vL S L g) :
    Calls Try.prog 38 #[.pointer (some ⟨p, 0, none⟩), .int .i64 n] w fun e w' => e = .returned (.bool (decide (0 ≤ n ∧ n < S.length))) ∧ w = w' := by
  obtain ⟨c0, c1, c2, c3⟩ := cells4 h.at_
  by_cases h0 : 0 ≤ n
  · by_cases h1 : n < S.length
    · have HD := Lib.hid (decide_eq_true (p := 0 ≤ n ∧ n < S.length) ⟨h0, h1⟩)
      go_enter Try.func38, Try.ntmps38
      go_wp2
      go_ret
      exact ⟨ret_bool HD.out.symm, rfl⟩
    · have HD := Lib.hid (decide_eq_false (p := 0 ≤ n ∧ n < S.length) (fun e => h1 e.2))
      go_enter Try.func38, Try.ntmps38
      go_wp2
      go_ret
      exact ⟨ret_bool (decide_eq_false (by omega)).symm, rfl⟩
  · have HD := Lib.hid (decide_eq_false (p := 0 ≤ n ∧ n < S.length) (fun e => h0 e.1))
    go_enter Try.func38, Try.ntmps38
    go_wp2
    go_ret
    exact ⟨ret_bool (by have e : decide (0 ≤ n) = false := decide_eq_false (by omega); rw [e]; rfl), rfl⟩
theorem p_refusal (p : Nat) (vS vL : Value) (S : List Blk) (L : List (Int × Blk)) (g : Bool) (n : Int) (w : World) (h : PD w p vS vL S L g) :
    Calls Try.prog 34 #[.pointer (some ⟨p, 0, none⟩), .int .i64 n] w fun e w' => e = .returned (.int .i64 (askE S g n)) ∧ w = w' := by
  obtain ⟨c0, c1, c2, c3⟩ := cells4 h.at_
  by_cases h1 : 0 ≤ n ∧ n < S.length
  · have HD := Lib.hid (decide_eq_true h1)
    cases g
    · have HE := Lib.hid (askE_ok h1)
      clear h1
      go_enter Try.func34, Try.ntmps34
      go_wp2_with fail
      refine (p_made p vS vL S L false w h).mono ?_
      rintro e w1 ⟨rfl, rfl⟩
      go_wp2_with fail
      refine (p_has p vS vL S L false n w h).mono ?_
      rintro e w1 ⟨rfl, rfl⟩
      rw [HD.out]
      go_wp2_with fail
      go_ret
      exact ⟨ret_int HE.out.symm, rfl⟩
    · have HE := Lib.hid (askE_dead h1)
      clear h1
      go_enter Try.func34, Try.ntmps34
      go_wp2_with fail
      refine (p_made p vS vL S L true w h).mono ?_
      rintro e w1 ⟨rfl, rfl⟩
      go_wp2_with fail
      refine (p_has p vS vL S L true n w h).mono ?_
      rintro e w1 ⟨rfl, rfl⟩
      rw [HD.out]
      go_wp2_with fail
      go_ret
      exact ⟨ret_int HE.out.symm, rfl⟩
  · have HD := Lib.hid (decide_eq_false h1)
    have HE := Lib.hid (askE_out g h1)
    clear h1
    go_enter Try.func34, Try.ntmps34
    go_wp2_with fail
    refine (p_made p vS vL S L g w h).mono ?_
    rintro e w1 ⟨rfl, rfl⟩
    go_wp2_with fail
    refine (p_has p vS vL S L g n w h).mono ?_
    rintro e w1 ⟨rfl, rfl⟩
    rw [HD.out]
    go_wp2_with fail
    go_ret
    exact ⟨ret_int HE.out.symm, rfl⟩
theorem p_sectors (p : Nat) (vS vL : Value) (S : List Blk) (L : List (Int × Blk)) (g : Bool) (w : World) (h : PD w p vS vL S L g) :
    Calls Try.prog 25 #[.pointer (some ⟨p, 0, none⟩)] w fun e w' => e = .returned (.int .i64 (S.length : Int)) ∧ w = w' := by
  obtain ⟨c0, c1, c2, c3⟩ := cells4 h.at_
  go_enter Try.func25, Try.ntmps25
  go_wp2_with fail
  refine (p_made p vS vL S L g w h).mono ?_
  rintro e w1 ⟨rfl, rfl⟩
  go_wp2_with fail
  go_ret
  exact ⟨rfl, rfl⟩
theorem p_dead (p : Nat) (vS vL : Value) (S : List Blk) (L : List (Int × Blk)) (g : Bool) (w : World) (h : PD w p vS vL S L g) :
    Calls Try.prog 24 #[.pointer (some ⟨p, 0, none⟩)] w fun e w' => e = .returned (.bool g) ∧ w = w' := by
  obtain ⟨c0, c1, c2, c3⟩ := cells4 h.at_
  go_enter Try.func24, Try.ntmps24
  go_wp2_with fail
  refine (p_made p vS vL S L g w h).mono ?_
  rintro e w1 ⟨rfl, rfl⟩
  go_wp2_with fail
  go_ret
  exact ⟨rfl, rfl⟩
theorem p_loose (p : Nat) (vS vL : Value) (S : List Blk) (L : List (Int × Blk)) (g : Bool) (w : World) (h : PD w p vS vL S L g) :
    Calls Try.prog 19 #[.pointer (some ⟨p, 0, none⟩)] w fun e w' => e = .returned (.int .i64 (L.length : Int)) ∧ w = w' := by
  obtain ⟨c0, c1, c2, c3⟩ := cells4 h.at_
  obtain ⟨AL, cL, rfl, hl1, hl2⟩ := h.L_.form
  go_enter Try.func19, Try.ntmps19
  go_wp2_with fail
  refine (p_made p vS _ S L g w h).mono ?_
  rintro e w1 ⟨rfl, rfl⟩
  go_wp2_with fail
  go_ret
  exact ⟨rfl, rfl⟩
end Go.Proofs.Ytokdmcikoaagmaa
