/-
  What the laws of layer 5 lean on: a device of the program, told by what it has (what is sure, what is loose, whether it is dead) and where it lies. The contracts are fields: whoever shows them of a landed disk has the laws.
-/
import Derived.Test.YtokdmcikoaagmaaRv
namespace Go.Proofs.Ytokdmcikoaagmaa
open Go.RowKit
set_option linter.unusedVariables false

/-- The numbers of what Flush, Crash leave. -/
structure Dev where
  Dv : World → (Nat → Prop) → Nat → List Blk → List (Int × Blk) → Bool → Prop
  lt : ∀ {w F p S L g}, Dv w F p S L g → ∀ b, F b → b < w.heap.size
  only : ∀ {w w' F G p S L g}, Dv w F p S L g → Only G w w' → (∀ b, F b → ¬ G b) → Dv w' F p S L g
  fit : ∀ {w F p S L g}, Dv w F p S L g → Fit S L ∧ 1 ≤ S.length
  new_ok : ∀ (k : Nat) (w : World), 1 ≤ k → k ≤ 512 → Calls Try.prog 8 #[.int .i64 k] w fun e w' => ∃ p F, e = .returned (.tuple #[.pointer (some ⟨p, 0, none⟩), .int .i64 0]) ∧ Dv w' F p (List.replicate k zeroB) [] false ∧ Below w.heap.size w w' ∧ ∀ b, F b → w.heap.size ≤ b
  new_no : ∀ (n : Int) (w : World), ¬(1 ≤ n ∧ n ≤ 512) → Calls Try.prog 8 #[.int .i64 n] w fun e w' => e = .returned (.tuple #[.pointer none, .int .i64 2]) ∧ Below w.heap.size w w'
  read : ∀ {w F p S L g} (n : Int), Dv w F p S L g → Calls Try.prog 15 #[.pointer (some ⟨p, 0, none⟩), .int .i64 n] w fun e w' => e = .returned (.tuple #[blk (readB S L g n), .int .i64 (askE S g n)]) ∧ Below w.heap.size w w'
  sure : ∀ {w F p S L g} (n : Int), Dv w F p S L g → Calls Try.prog 18 #[.pointer (some ⟨p, 0, none⟩), .int .i64 n] w fun e w' => e = .returned (.tuple #[blk (sureB S g n), .int .i64 (askE S g n)]) ∧ Below w.heap.size w w'
  write : ∀ {w F p S L g} (n : Int) (b : Blk), L.length < 1000000 → Dv w F p S L g → Calls Try.prog 16 #[.pointer (some ⟨p, 0, none⟩), .int .i64 n, blk b] w fun e w' => e = .returned (.int .i64 (askE S g n)) ∧ ∃ F', Dv w' F' p S (wrL S L g n b) g ∧ Only F w w' ∧ Grow w F F'
  flush : ∀ {w F p S L g}, Dv w F p S L g → Calls Try.prog 14 #[.pointer (some ⟨p, 0, none⟩)] w fun e w' => e = .returned (.int .i64 (if g = true then 9 else 0)) ∧ ∃ F', Dv w' F' p (if g = true then S else flS S L) (if g = true then L else []) g ∧ Only F w w' ∧ Grow w F F'
  fail : ∀ {w F p S L g}, Dv w F p S L g → Calls Try.prog 23 #[.pointer (some ⟨p, 0, none⟩)] w fun e w' => e = .returned (.int .i64 0) ∧ ∃ F', Dv w' F' p S [] true ∧ Only F w w' ∧ Grow w F F'
  rot : ∀ {w F p S L g} (n i : Int) (u : UInt8), Dv w F p S L g → Calls Try.prog 21 #[.pointer (some ⟨p, 0, none⟩), .int .i64 n, .int .i64 i, .int .u8 (u.toNat : Int)] w fun e w' => e = .returned (.int .i64 (rotE S g n i)) ∧ ∃ F', Dv w' F' p (rotS S g n i u) L g ∧ Only F w w' ∧ Grow w F F'
  crash : ∀ {w F p S L g A n c P}, RdE IntE w w.heap.size A n P → n ≤ c → c ≤ maxLen → (∀ x, A = some x → 0 < n → ¬ F x.block) → Dv w F p S L g → Calls Try.prog 17 #[.pointer (some ⟨p, 0, none⟩), .slice A n c] w fun e w' => e = .returned (.tuple #[.int .i64 ((min L.length n : Nat) : Int), .int .i64 0]) ∧ ∃ F', Dv w' F' p (crI S L P L.length) [] g ∧ Only F w w' ∧ Grow w F F'
  copy : ∀ {w F p S L g}, Dv w F p S L g → Calls Try.prog 20 #[.pointer (some ⟨p, 0, none⟩)] w fun e w' => ∃ p' F', e = .returned (.pointer (some ⟨p', 0, none⟩)) ∧ Dv w' F' p' S L g ∧ Below w.heap.size w w' ∧ ∀ b, F' b → w.heap.size ≤ b
  loose : ∀ {w F p S L g}, Dv w F p S L g → Calls Try.prog 19 #[.pointer (some ⟨p, 0, none⟩)] w fun e w' => e = .returned (.int .i64 (L.length : Int)) ∧ Below w.heap.size w w'
  dead : ∀ {w F p S L g}, Dv w F p S L g → Calls Try.prog 24 #[.pointer (some ⟨p, 0, none⟩)] w fun e w' => e = .returned (.bool g) ∧ Below w.heap.size w w'
  sectors : ∀ {w F p S L g}, Dv w F p S L g → Calls Try.prog 25 #[.pointer (some ⟨p, 0, none⟩)] w fun e w' => e = .returned (.int .i64 (S.length : Int)) ∧ Below w.heap.size w w'
theorem Dev.below (D : Dev) {w w' : World} {F : Nat → Prop} {p : Nat} {S : List Blk} {L : List (Int × Blk)} {g : Bool} (h : D.Dv w F p S L g) (k : Below w.heap.size w w') : D.Dv w' F p S L g := D.only h (Only.of_below (fun _ => False) k) fun _ _ e => e
/-- Behind a call that turned the device's blocks, of what lies below all of them nothing has turned. -/
theorem turned {w w' : World} {F : Nat → Prop} {B : Nat} (h : Only F w w') (hF : ∀ b, F b → B ≤ b) (hB : B ≤ w.heap.size) : Below B w w' := h.below hF hB
theorem Grow.above {w : World} {F F' : Nat → Prop} {B : Nat} (h : Grow w F F') (hF : ∀ b, F b → B ≤ b) (hB : B ≤ w.heap.size) : ∀ b, F' b → B ≤ b := fun b hb => by
  rcases h b hb with e | e
  · exact hF b e
  · omega
end Go.Proofs.Ytokdmcikoaagmaa
