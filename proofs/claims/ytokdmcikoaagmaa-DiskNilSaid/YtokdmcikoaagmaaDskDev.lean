/-
  The program's device as what the laws lean on.
-/
import Derived.Test.YtokdmcikoaagmaaPds
import Derived.Test.YtokdmcikoaagmaaDev
namespace Go.Proofs.Ytokdmcikoaagmaa
open Go.RowKit
set_option linter.unusedVariables false

theorem p_read (p : Nat) (vS vL : Value) (S : List Blk) (L : List (Int × Blk)) (g : Bool) (n : Int) (w : World) (h : PD w p vS vL S L g) (hLl : L.length ≤ 1000000) :
    Calls Try.prog 15 #[.pointer (some ⟨p, 0, none⟩), .int .i64 n] w fun e w' => e = .returned (.tuple #[blk (readB S L g n), .int .i64 (askE S g n)]) ∧ Below w.heap.size w w' := by
  by_cases he : askE S g n = 0
  · rcases askE_is (S := S) (g := g) (n := n) with h1 | h1 | ⟨_, rfl, k, rfl, hk⟩
    · omega
    · omega
    · rw [he]
      exact p_read_ok p k vS vL S L w h hk hLl
  · exact p_read_no p vS vL S L g n w h he
/-- The program's device lies at p, in the blocks F. -/
def Pv (w : World) (F : Nat → Prop) (p : Nat) (S : List Blk) (L : List (Int × Blk)) (g : Bool) : Prop := ∃ vS vL, F = foot p vS vL ∧ PD w p vS vL S L g ∧ Fit S L ∧ S.length ≤ 512 ∧ L.length ≤ 1000000
section
variable {w w' : World} {F G : Nat → Prop} {p : Nat} {S : List Blk} {L : List (Int × Blk)} {g : Bool}
theorem Pv.lt (h : Pv w F p S L g) : ∀ b, F b → b < w.heap.size := by
  obtain ⟨vS, vL, rfl, h, _⟩ := h
  exact h.lt
theorem Pv.only (h : Pv w F p S L g) (k : Only G w w') (hn : ∀ b, F b → ¬ G b) : Pv w' F p S L g := by
  obtain ⟨vS, vL, rfl, h, hF⟩ := h
  exact ⟨vS, vL, rfl, h.only k hn, hF⟩
theorem still_below (h : w = w') : Below w.heap.size w w' := by subst h; exact Below.refl _ _
end
def theDev : Dev where
  Dv := Pv
  lt := Pv.lt
  only := Pv.only
  fit := fun ⟨_, _, _, h, hF, _⟩ => ⟨hF, h.one⟩
  new_ok := fun k w h1 h2 => by
    refine (p_new_ok k w h1 h2).mono ?_
    rintro e w' ⟨p, vS, he, hr, hb, hf⟩
    exact ⟨p, _, he, ⟨vS, _, rfl, hr, Fit.nil _, by rw [List.length_replicate]; exact h2, Nat.zero_le _⟩, hb, hf⟩
  new_no := fun n w h => (p_new_no n w h).mono fun e w' ⟨h1, h2⟩ => ⟨h1, still_below h2⟩
  read := fun n ⟨vS, vL, _, h, _, _, hL⟩ => p_read _ vS vL _ _ _ n _ h hL
  sure := fun n ⟨vS, vL, _, h, _⟩ => p_sure _ vS vL _ _ _ n _ h
  write := fun {w F p S L g} n b hL ⟨vS, vL, e0, h, hF, hS, _⟩ => by
    subst e0
    refine (p_write p vS vL S L g n b w h hL).mono ?_
    rintro e w' ⟨he, vL', h1, h2, h3⟩
    refine ⟨he, _, ⟨vS, vL', rfl, h1, hF.wr g n b, hS, ?_⟩, h2, fun k hk => ?_⟩
    · unfold wrL
      split
      · rw [List.length_append]; simp; omega
      · omega
    · rcases hk with e | e | e
      · exact .inl (.inl e)
      · exact .inl (.inr (.inl e))
      · rcases h3 k e with e | e
        · exact .inl (.inr (.inr e))
        · exact .inr e
  flush := fun {w F p S L g} ⟨vS, vL, e0, h, hF, hS, hL⟩ => by
    subst e0
    cases g
    · refine (p_flush_ok p vS vL S L w h hF).mono ?_
      rintro e w' ⟨he, h1, h2⟩
      refine ⟨he, _, ⟨vS, _, rfl, h1, Fit.nil _, by rw [if_neg (by simp), flS_len]; exact hS, Nat.zero_le _⟩, h2, fun k hk => ?_⟩
      rcases hk with e | e | e
      · exact .inl (.inl e)
      · exact .inl (.inr (.inl e))
      · simp [Value.ownBlock] at e
    · refine (p_flush_dead p vS vL S L w h).mono ?_
      rintro e w' ⟨he, rfl⟩
      exact ⟨he, _, ⟨vS, vL, rfl, h, hF, hS, hL⟩, Only.refl _ _, Grow.same _ _⟩
  fail := fun {w F p S L g} ⟨vS, vL, e0, h, hF, hS, hL⟩ => by
    subst e0
    refine (p_fail p vS vL S L g w h).mono ?_
    rintro e w' ⟨he, h1, h2⟩
    refine ⟨he, _, ⟨_, _, rfl, h1, Fit.nil _, hS, Nat.zero_le _⟩, h2, fun k hk => ?_⟩
    rcases hk with e | e | e
    · exact .inl (.inl e)
    · simp [Value.ownBlock] at e
    · simp [Value.ownBlock] at e
  rot := fun {w F p S L g} n i u ⟨vS, vL, e0, h, hF, hS, hL⟩ => by
    subst e0
    refine (p_rot p n i u vS vL S L g w h).mono ?_
    rintro e w' ⟨he, h1, h2⟩
    exact ⟨he, _, ⟨vS, vL, rfl, h1, hF.len (rotS_len _ _ _ _ _), by rw [rotS_len]; exact hS, hL⟩, h2, Grow.same _ _⟩
  crash := fun {w F p S L g A n c P} hP hc1 hc2 hN ⟨vS, vL, e0, h, hF, hS, hL⟩ => by
    subst e0
    refine (p_crash p vS vL S L g A n c P w h hF hP hc1 hc2 hN).mono ?_
    rintro e w' ⟨he, h1, h2⟩
    refine ⟨he, _, ⟨vS, _, rfl, h1, Fit.nil _, by rw [crI_len]; exact hS, Nat.zero_le _⟩, h2, fun k hk => ?_⟩
    rcases hk with e | e | e
    · exact .inl (.inl e)
    · exact .inl (.inr (.inl e))
    · simp [Value.ownBlock] at e
  copy := fun {w F p S L g} ⟨vS, vL, e0, h, hF, hS, hL⟩ => by
    subst e0
    refine (p_copy p vS vL S L g w h hS hL).mono ?_
    rintro e w' ⟨p', vS', vL', he, h1, h2, h3⟩
    exact ⟨p', _, he, ⟨vS', vL', rfl, h1, hF, hS, hL⟩, h2, h3⟩
  loose := fun ⟨vS, vL, _, h, _⟩ => (p_loose _ vS vL _ _ _ _ h).mono fun e w' ⟨h1, h2⟩ => ⟨h1, still_below h2⟩
  dead := fun ⟨vS, vL, _, h, _⟩ => (p_dead _ vS vL _ _ _ _ h).mono fun e w' ⟨h1, h2⟩ => ⟨h1, still_below h2⟩
  sectors := fun ⟨vS, vL, _, h, _⟩ => (p_sectors _ vS vL _ _ _ _ h).mono fun e w' ⟨h1, h2⟩ => ⟨h1, still_below h2⟩
end Go.Proofs.Ytokdmcikoaagmaa
