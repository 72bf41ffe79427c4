/-
  The walk of SealTorn.
-/
import Derived.Test.YtdinnbmeolojgaaDoorSlv
import Derived.Test.YtdinnbmeolojgaaDoorRTorn
import Derived.Test.YtdinnbmeolojgaaDoorSkip
import Derived.Deep.DeepCutAuto
namespace Go.Proofs.YtdinnbmeolojgaaDoor
open Go.RowKit
set_option linter.unusedVariables false
set_option maxRecDepth 100000

theorem exec_eqlB {ρ : Operand → Value} {o : Oper} {x y : Operand} {w : World} {c d : Blk} {t : TypeId} (b : Bool) (ho : o.op = .binOp .eql 26 x y t) (hx : ρ x = blk c) (hy : ρ y = blk d) (h : decide (c = d) = b) : (execOp ρ o).run Tryd.prog w = .ok (.value (.bool b)) w := by
  subst h; exact exec_eql ho hx hy
theorem exec_neqB {ρ : Operand → Value} {o : Oper} {x y : Operand} {w : World} {c d : Blk} {t : TypeId} (b : Bool) (ho : o.op = .binOp .neq 26 x y t) (hx : ρ x = blk c) (hy : ρ y = blk d) (h : decide (c = d) = b) : (execOp ρ o).run Tryd.prog w = .ok (.value (.bool (!b))) w := by
  subst h; exact exec_neq ho hx hy
/-- What a torn sector comes to. -/
theorem torn_law {n o : Nat} {now old : Blk} (hE : getE now.toList = 0) (hN : getN now.toList = n) (hne : n ≠ o) (hold : (o = 0 ∧ old = zeroB) ∨ (getE old.toList = 0 ∧ getN old.toList = o)) (t : Int) {d : Blk} (hd : torn old now t = d) :
    (getE d.toList = 0 ∧ d = now ∧ getN d.toList = n) ∨ (getE d.toList = 0 ∧ d ≠ now ∧ d = old ∧ getN d.toList = o) ∨ (getE d.toList ≠ 0 ∧ d ≠ now ∧ d ≠ old) ∨ (getE d.toList ≠ 0 ∧ d ≠ now ∧ d = old ∧ o = 0) := by
  obtain ⟨n1, n2, _⟩ := of_getE hE
  have n3 := getN_of hE
  have ho : numO old.toList = agO old.toList ∧ numO old.toList = o := by
    rcases hold with ⟨rfl, rfl⟩ | ⟨h1, h2⟩
    · exact ⟨by decide +kernel, by decide +kernel⟩
    · obtain ⟨_, h3, _⟩ := of_getE h1
      exact ⟨h3, by rw [← h2, getN_of h1]⟩
  by_cases hdE : getE d.toList = 0
  · obtain ⟨_, d2, _⟩ := of_getE hdE
    have d3 := getN_of hdE
    have hw := torn_whole (n := t) n2 ho.1 (by rw [ho.2, ← n3, hN]; exact hne) (by rw [hd]; exact d2)
    rw [hd] at hw
    by_cases hdn : d = now
    · exact .inl ⟨hdE, hdn, by rw [hdn]; exact hN⟩
    · rcases hw with h | h
      · exact absurd h hdn
      · exact .inr (.inl ⟨hdE, hdn, h, by rw [d3, h]; exact ho.2⟩)
  · have hdn : d ≠ now := fun e => hdE (by rw [e]; exact hE)
    by_cases hdo : d = old
    · rcases hold with ⟨h1, _⟩ | ⟨h1, _⟩
      · exact .inr (.inr (.inr ⟨hdE, hdn, hdo, h1⟩))
      · exact absurd (by rw [hdo]; exact h1) hdE
    · exact .inr (.inr (.inl ⟨hdE, hdn, hdo⟩))

end Go.Proofs.YtdinnbmeolojgaaDoor
