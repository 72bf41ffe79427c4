/-
  append of a byte slice to a row of the call's own, with where the result lies: in the row's block, or in a new one.
-/
import Derived.Test.YtiandcigoflcmaaDoorApp
namespace Go.Proofs.YtiandcigoflcmaaDoor
open Go.RowKit
set_option linter.unusedVariables false

theorem app_where (w : World) (ty B N m c : Nat) (v : Value) (l l' : List UInt8) (ad : Addr) (hm : Made w B v l) (hr : Rd w N (some ad) m l') (h0 : 0 < m) (hsum : l.length + m ≤ 140737488355328) :
    ∀ v' w', (Builtin.append_ #[35, 35] ty #[v, .slice (some ad) m c]).run Tryd.prog w = .ok v' w' → v'.ownBlock = v.ownBlock ∨ v'.ownBlock = some w.heap.size := by
  obtain ⟨i0, hi, hz0, hz1, hz2⟩ := info_parts u8info
  intro v' w' hrun
  have hl : (l'.map fun u => Value.int .u8 (u.toNat : Int)).length = m * i0.size := by rw [hz1, List.length_map, hr.1, Nat.mul_one]
  have h1 : ∀ u ∈ l'.map (fun u => Value.int .u8 (u.toNat : Int)), u.oneCell' = true := by
    intro u hu
    simp at hu
    obtain ⟨x, _, rfl⟩ := hu
    rfl
  rcases hm.2 with ⟨rfl, hn⟩ | ⟨g, cap, cur, rfl, _, hg, hnc, _, hcs, _⟩
  · rw [run_append_nil (P := Tryd.prog) w 35 ty 5 i0 _ Tryd.underlying35 hi hz0 ad m c _ hl (cells_of_rd hr) h0 (by omega) (by rw [hz2]; omega)] at hrun
    injection hrun with e1 e2
    subst e1
    exact .inr rfl
  · by_cases hroom : l.length + m ≤ cap
    · rw [run_append_room (P := Tryd.prog) w 35 ty 5 i0 Tryd.underlying35 hi g l.length cap cur hg ad m c _ hl (cells_of_rd hr) h1 hroom (by rw [hl, hz1, hcs]; omega)] at hrun
      injection hrun with e1 e2
      subst e1
      exact .inl rfl
    · have hown := hm
      rw [run_append_grow (P := Tryd.prog) w 35 ty 5 i0 _ Tryd.underlying35 hi hz0 ⟨g, 0, none⟩ l.length cap (l.map fun u => Value.int .u8 (u.toNat : Int)) (by rw [hz1]; simp) (World.ownsRow.cells hm (g := g) rfl) ad m c _ hl (cells_of_rd hr) (by omega) (by omega) (by rw [hz2]; exact growslice_fits (by omega) (by omega))] at hrun
      injection hrun with e1 e2
      subst e1
      exact .inr rfl
theorem wpList_appB {w : World} {ops : Array Oper} {rest : List Oper} {o : Oper} {a : Act} {Q : Exit → Act → World → Prop} (hgd : o.guard = none) (s x : Operand)
    (ho : o.op = .call { callee := .builtin .append, args := #[s, x], argTypes := #[35, 35] })
    (B N m c : Nat) (v : Value) (l l' : List UInt8) (A : Option Addr) (hs : a.eval s = v) (hx : a.eval x = .slice A m c) (hm : Made w B v l) (hr : Rd w N A m l') (h0 : 0 < m) (hB : B ≤ w.heap.size) (hsum : l.length + m ≤ 140737488355328)
    (h : ∀ v' w', Made w' B v' (l ++ l') → w.grownBy w' v.ownBlock → (v'.ownBlock = v.ownBlock ∨ v'.ownBlock = some w.heap.size) → wpList Tryd.prog ops Q rest (a.put o.dst v') w') : wpList Tryd.prog ops Q (o :: rest) a w := by
  refine wpList_plain hgd fun K hK => ?_
  obtain ⟨v', w', hrun, h1, h2⟩ := run_app w o.type B N m c v l l' A hm hr hB hsum
  obtain ⟨ad, rfl⟩ : ∃ ad, A = some ad := by
    obtain ⟨b, off, e, _⟩ := hr.2 0 h0
    exact ⟨_, e⟩
  have h3 := app_where w o.type B N m c v l l' ad hm hr h0 hsum v' w' hrun
  unfold Oper.wp
  simp [execOp, ho, resolve, invoke, builtin, hs, hx, hrun, Result.andThen]
  exact hK _ _ (h v' w' h1 h2 h3)
/-- What the call made elsewhere stays. -/
theorem Made.apart {w w' : World} {B : Nat} {v : Value} {l : List UInt8} {row : Option Nat} (h : Made w B v l) (hg : w.grownBy w' row) (hne : ∀ k, v.ownBlock = some k → row ≠ some k) : Made w' B v l := by
  refine World.ownsRow.kept h hg ?_
  rcases hv : v.ownBlock with _ | k
  · exact .inl rfl
  · exact .inr (fun e => hne k hv e.symm)
end Go.Proofs.YtiandcigoflcmaaDoor
