/-
  The document's device with its blocks hidden: one contract a method, all of one form.
-/
import Derived.Test.YtokdmcikoaagmaaDskT
namespace Go.Proofs.Ytokdmcikoaagmaa
open Go.RowKit
set_option linter.unusedVariables false

/-- The document's device lies at p, in the blocks F. -/
def Rv (w : World) (F : Nat → Prop) (p : Nat) (S : List Blk) (L : List (Int × Blk)) (g : Bool) : Prop := ∃ vS vL, F = foot p vS vL ∧ RefD w p vS vL S L g ∧ Fit S L
def Grow (w : World) (F F' : Nat → Prop) : Prop := ∀ b, F' b → F b ∨ w.heap.size ≤ b
section
variable {w w' : World} {F G : Nat → Prop} {p : Nat} {S : List Blk} {L : List (Int × Blk)} {g : Bool}
theorem Rv.lt (h : Rv w F p S L g) : ∀ b, F b → b < w.heap.size := by
  obtain ⟨vS, vL, rfl, h, _⟩ := h
  exact h.lt
theorem Rv.only (h : Rv w F p S L g) (k : Only G w w') (hn : ∀ b, F b → ¬ G b) : Rv w' F p S L g := by
  obtain ⟨vS, vL, rfl, h, hF⟩ := h
  exact ⟨vS, vL, rfl, h.only k hn, hF⟩
theorem Rv.below (h : Rv w F p S L g) (k : Below w.heap.size w w') : Rv w' F p S L g := h.only (Only.of_below (fun _ => False) k) fun _ _ e => e
theorem Rv.fit (h : Rv w F p S L g) : Fit S L := h.choose_spec.choose_spec.2.2
theorem Grow.same (w : World) (F : Nat → Prop) : Grow w F F := fun _ h => .inl h
end
theorem Fit.nil (S : List Blk) : Fit S [] := fun q h => by cases h
theorem Fit.wr {S : List Blk} {L : List (Int × Blk)} (g : Bool) (n : Int) (b : Blk) (h : Fit S L) : Fit S (wrL S L g n b) := by
  unfold wrL
  split
  · rename_i he
    rcases askE_is (S := S) (g := g) (n := n) with h1 | h1 | ⟨_, rfl, k, rfl, hk⟩
    · omega
    · omega
    · intro q hq
      rcases List.mem_append.1 hq with hq | hq
      · exact h q hq
      · simp at hq; subst hq; exact ⟨by simp, by simpa using hk⟩
  · exact h
theorem Fit.len {S S' : List Blk} {L : List (Int × Blk)} (h : Fit S L) (e : S'.length = S.length) : Fit S' L := fun q hq => by rw [e]; exact h q hq
theorem rotS_len (S : List Blk) (g : Bool) (n i : Int) (u : UInt8) : (rotS S g n i u).length = S.length := by
  unfold rotS; split
  · rw [List.length_set]
  · rfl
section
variable {w : World} {F : Nat → Prop} {p : Nat} {S : List Blk} {L : List (Int × Blk)} {g : Bool}
theorem rv_read (n : Int) (h : Rv w F p S L g) : Calls Try.prog 27 #[.pointer (some ⟨p, 0, none⟩), .int .i64 n] w fun e w' => e = .returned (.tuple #[blk (readB S L g n), .int .i64 (askE S g n)]) ∧ Below w.heap.size w w' := by
  obtain ⟨vS, vL, rfl, h, _⟩ := h
  exact r_read p vS vL S L g n w h
theorem rv_sure (n : Int) (h : Rv w F p S L g) : Calls Try.prog 29 #[.pointer (some ⟨p, 0, none⟩), .int .i64 n] w fun e w' => e = .returned (.tuple #[blk (sureB S g n), .int .i64 (askE S g n)]) ∧ Below w.heap.size w w' := by
  obtain ⟨vS, vL, rfl, h, _⟩ := h
  exact r_sure p vS vL S L g n w h
theorem rv_write (n : Int) (b : Blk) (hL : L.length < 1000000) (h : Rv w F p S L g) : Calls Try.prog 26 #[.pointer (some ⟨p, 0, none⟩), .int .i64 n, blk b] w fun e w' => e = .returned (.int .i64 (askE S g n)) ∧ ∃ F', Rv w' F' p S (wrL S L g n b) g ∧ Only F w w' ∧ Grow w F F' := by
  obtain ⟨vS, vL, rfl, h, hF⟩ := h
  refine (r_write p vS vL S L g n b w h hL).mono ?_
  rintro e w' ⟨he, vL', h1, h2, h3⟩
  refine ⟨he, _, ⟨vS, vL', rfl, h1, hF.wr g n b⟩, h2, fun k hk => ?_⟩
  rcases hk with e | e | e
  · exact .inl (.inl e)
  · exact .inl (.inr (.inl e))
  · rcases h3 k e with e | e
    · exact .inl (.inr (.inr e))
    · exact .inr e
theorem rv_flush (h : Rv w F p S L g) : Calls Try.prog 28 #[.pointer (some ⟨p, 0, none⟩)] w fun e w' => e = .returned (.int .i64 (if g = true then 9 else 0)) ∧ ∃ F', Rv w' F' p (if g = true then S else flS S L) (if g = true then L else []) g ∧ Only F w w' ∧ Grow w F F' := by
  obtain ⟨vS, vL, rfl, h, hF⟩ := h
  cases g
  · refine (r_flush_ok p vS vL S L w h hF).mono ?_
    rintro e w' ⟨he, h1, h2⟩
    refine ⟨he, _, ⟨vS, _, rfl, h1, Fit.nil _⟩, h2, fun k hk => ?_⟩
    rcases hk with e | e | e
    · exact .inl (.inl e)
    · exact .inl (.inr (.inl e))
    · simp [Value.ownBlock] at e
  · refine (r_flush_dead p vS vL S L w h).mono ?_
    rintro e w' ⟨he, rfl⟩
    exact ⟨he, _, ⟨vS, vL, rfl, h, hF⟩, Only.refl _ _, Grow.same _ _⟩
theorem rv_fail (h : Rv w F p S L g) : Calls Try.prog 32 #[.pointer (some ⟨p, 0, none⟩)] w fun e w' => (∃ v, e = .returned v) ∧ ∃ F', Rv w' F' p S [] true ∧ Only F w w' ∧ Grow w F F' := by
  obtain ⟨vS, vL, rfl, h, hF⟩ := h
  refine (r_fail p vS vL S L g w h).mono ?_
  rintro e w' ⟨he, h1, h2⟩
  refine ⟨he, _, ⟨vS, _, rfl, h1, Fit.nil _⟩, h2, fun k hk => ?_⟩
  rcases hk with e | e | e
  · exact .inl (.inl e)
  · exact .inl (.inr (.inl e))
  · simp [Value.ownBlock] at e
theorem rv_rot (n i : Int) (u : UInt8) (h : Rv w F p S L g) : Calls Try.prog 30 #[.pointer (some ⟨p, 0, none⟩), .int .i64 n, .int .i64 i, .int .u8 (u.toNat : Int)] w fun e w' => e = .returned (.int .i64 (rotE S g n i)) ∧ ∃ F', Rv w' F' p (rotS S g n i u) L g ∧ Only F w w' ∧ Grow w F F' := by
  obtain ⟨vS, vL, rfl, h, hF⟩ := h
  refine (r_rot p n i u vS vL S L g w h).mono ?_
  rintro e w' ⟨he, h1, h2⟩
  exact ⟨he, _, ⟨vS, vL, rfl, h1, hF.len (rotS_len _ _ _ _ _)⟩, h2, Grow.same _ _⟩
theorem rv_crash {A : Option Addr} {n c : Nat} {P : List Int} (hP : RdE IntE w w.heap.size A n P) (hN : ∀ x, A = some x → 0 < n → ¬ F x.block) (h : Rv w F p S L g) : Calls Try.prog 31 #[.pointer (some ⟨p, 0, none⟩), .slice A n c] w fun e w' => e = .returned (.int .i64 ((min L.length n : Nat) : Int)) ∧ ∃ F', Rv w' F' p (crI S L P L.length) [] g ∧ Only F w w' ∧ Grow w F F' := by
  obtain ⟨vS, vL, rfl, h, hF⟩ := h
  refine (r_crash p vS vL S L g A n c P w h hF hP hN).mono ?_
  rintro e w' ⟨he, h1, h2⟩
  refine ⟨he, _, ⟨vS, _, rfl, h1, Fit.nil _⟩, h2, fun k hk => ?_⟩
  rcases hk with e | e | e
  · exact .inl (.inl e)
  · exact .inl (.inr (.inl e))
  · simp [Value.ownBlock] at e
theorem rv_new (k : Nat) (w : World) (h1 : 1 ≤ k) (h2 : k ≤ 512) : Calls Try.prog 9 #[.int .i64 k] w fun e w' => ∃ p F, e = .returned (.tuple #[.pointer (some ⟨p, 0, none⟩), .int .i64 0]) ∧ Rv w' F p (List.replicate k zeroB) [] false ∧ Below w.heap.size w w' ∧ ∀ b, F b → w.heap.size ≤ b := by
  refine (r_new_ok k w h1 h2).mono ?_
  rintro e w' ⟨p, vS, he, hr, hb, hf⟩
  exact ⟨p, _, he, ⟨vS, _, rfl, hr, Fit.nil _⟩, hb, hf⟩
end
end Go.Proofs.Ytokdmcikoaagmaa
