/-
  What a law has in memory: blocks of its own, one behind the other, each with its cells; what calls, new blocks and stores do to them.
-/
import Derived.Test.YtnckcafemdcaeaaRow
namespace Go.Proofs.Ytnckcafemdcaeaa
open Go.RowKit
set_option linter.unusedVariables false
set_option maxRecDepth 100000

structure Cel where
  b : Nat
  t : TypeId
  cs : List Value
def CelAt (w : World) (p : Cel) : Prop := w.heap[p.b]? = some (.cells p.cs.toArray p.t (0, 0))
/-- The blocks of the call's own, laid since w0. -/
structure Blks (w0 w : World) (l : List Cel) : Prop where
  bel : Below w0.heap.size w0 w
  at_ : ∀ (i : Nat) (p : Cel), l[i]? = some p → w0.heap.size ≤ p.b ∧ CelAt w p
  apart : ∀ (i j : Nat) (p q : Cel), l[i]? = some p → l[j]? = some q → i ≠ j → p.b ≠ q.b
section
variable {w0 w w' : World} {l : List Cel} {p : Cel}
theorem Blks.nil (w : World) : Blks w w [] := ⟨Below.refl _ _, fun i p h => by simp at h, fun i j p q h => by simp at h⟩
theorem Blks.call (h : Blks w0 w l) (hb : Below w.heap.size w w') : Blks w0 w' l :=
  ⟨h.bel.trans (hb.mono h.bel.size), fun i p hi => ⟨(h.at_ i p hi).1, blk_keep (h.at_ i p hi).2 hb⟩, h.apart⟩
theorem Blks.other (h : Blks w0 w l) (o : Obj) : Blks w0 (w.alloc o) l := h.call ((Below.refl _ w).alloc (Nat.le_refl _) o)
theorem Blks.alloc (h : Blks w0 w l) (t : TypeId) (cs : List Value) : Blks w0 (w.alloc (.cells cs.toArray t)) (l ++ [⟨w.heap.size, t, cs⟩]) := by
  have ho := h.other (.cells cs.toArray t)
  have hnew : CelAt (w.alloc (.cells cs.toArray t)) ⟨w.heap.size, t, cs⟩ := heap_alloc_new w _
  have key : ∀ (i : Nat) (p : Cel), (l ++ [⟨w.heap.size, t, cs⟩])[i]? = some p → l[i]? = some p ∨ (i = l.length ∧ p = ⟨w.heap.size, t, cs⟩) := fun i p hi => by
    by_cases hl : i < l.length
    · rw [List.getElem?_append_left hl] at hi; exact .inl hi
    · rw [List.getElem?_append_right (by omega)] at hi
      by_cases e : i - l.length = 0
      · rw [e] at hi
        simp only [List.getElem?_cons_zero, Option.some.injEq] at hi
        exact .inr ⟨by omega, hi.symm⟩
      · rw [List.getElem?_eq_none (by simp; omega)] at hi; cases hi
  refine ⟨ho.bel, fun i p hi => ?_, fun i j p q hi hj hne => ?_⟩
  · rcases key i p hi with h1 | ⟨_, rfl⟩
    · exact ho.at_ i p h1
    · exact ⟨h.bel.size, hnew⟩
  · rcases key i p hi with h1 | ⟨e1, rfl⟩
    · rcases key j q hj with h2 | ⟨_, rfl⟩
      · exact h.apart i j p q h1 h2 hne
      · have := blk_lt (h.at_ i p h1).2
        show p.b ≠ w.heap.size
        omega
    · rcases key j q hj with h2 | ⟨e2, rfl⟩
      · have := blk_lt (h.at_ j q h2).2
        show w.heap.size ≠ q.b
        omega
      · omega
theorem Blks.put (h : Blks w0 w l) {i b : Nat} {t : TypeId} {cs ds : List Value} (hi : l[i]? = some ⟨b, t, cs⟩) (he : cs.length = ds.length) : Blks w0 (w.setCells b 0 ds) (l.set i ⟨b, t, ds⟩) := by
  have hlt := (List.getElem?_eq_some_iff.1 hi).1
  have h0 := h.at_ i _ hi
  have hnew : CelAt (w.setCells b 0 ds) ⟨b, t, ds⟩ := by
    have h' : w.heap[b]? = some (.cells ([] ++ cs ++ []).toArray t (0, 0)) := by rw [List.nil_append, List.append_nil]; exact h0.2
    have := heap_put b t [] ds cs [] w he h'
    rw [List.nil_append, List.append_nil] at this
    exact this
  refine ⟨below_setCells h.bel h0.1 _, fun j p hj => ?_, fun j k p q hj hk hne => ?_⟩
  · by_cases e : i = j
    · subst e
      rw [List.getElem?_set_self hlt] at hj
      injection hj with hj
      subst hj
      exact ⟨h0.1, hnew⟩
    · rw [List.getElem?_set_ne e] at hj
      have h1 := h.at_ j p hj
      have h2 := h.apart j i p _ hj hi (fun e' => e e'.symm)
      exact ⟨h1.1, (blk_setCells b ds 0 w p.b h2).trans h1.2⟩
  · have key : ∀ (j : Nat) (p : Cel), (l.set i ⟨b, t, ds⟩)[j]? = some p → ∃ p', l[j]? = some p' ∧ p'.b = p.b := fun j p hj => by
      by_cases e : i = j
      · subst e
        rw [List.getElem?_set_self hlt] at hj
        injection hj with hj
        subst hj
        exact ⟨_, hi, rfl⟩
      · rw [List.getElem?_set_ne e] at hj
        exact ⟨p, hj, rfl⟩
    obtain ⟨p', hp, ep⟩ := key j p hj
    obtain ⟨q', hq, eq⟩ := key k q hk
    rw [← ep, ← eq]
    exact h.apart j k p' q' hp hq hne
end
def rc (b : Nat) (x : Ros) : Cel := ⟨b, 26, celR x⟩
def gc (b : Nat) (x : Ros) : Cel := ⟨b, 23, celG x⟩
section
variable {w0 w w' : World} {l : List Cel} {b i : Nat} {x y : Ros}
theorem Blks.ros (h : Blks w0 w l) (hi : l[i]? = some (rc b x)) : RosAt w b x := (h.at_ i _ hi).2
theorem Blks.geo (h : Blks w0 w l) (hi : l[i]? = some (gc b x)) : w.rangeAt b 0 (celG x) := rng_at (h.at_ i _ hi).2
theorem Blks.allocR (h : Blks w0 w l) (x : Ros) : Blks w0 (w.alloc (.cells (celR x).toArray 26)) (l ++ [rc w.heap.size x]) := h.alloc _ _
theorem Blks.allocG (h : Blks w0 w l) (x : Ros) : Blks w0 (w.alloc (.cells (celG x).toArray 23)) (l ++ [gc w.heap.size x]) := h.alloc _ _
theorem Blks.putR (h : Blks w0 w l) (hi : l[i]? = some (rc b x)) (y : Ros) : Blks w0 (putW w b y) (l.set i (rc b y)) := h.put hi (by rw [celR_length, celR_length])
/-- A geometry laid into a block. -/
def putV (w : World) (b : Nat) (x : Ros) : World := w.setCells b 0 (celG x)
theorem Blks.putG (h : Blks w0 w l) (hi : l[i]? = some (gc b x)) (y : Ros) : Blks w0 (putV w b y) (l.set i (gc b y)) := h.put hi rfl
end
section
variable {ρ : Operand → Value} {o : Oper} {x y : Operand} {w : World} {b : Nat} {c d : Ros} {t r : TypeId}
theorem exec_neR {c d : Ros} (k : Bool) (ho : o.op = .binOp .neq 26 x y t) (hx : ρ x = ros c) (hy : ρ y = ros d) (h : decide (c = d) = k) : (execOp ρ o).run Try.prog w = .ok (.value (.bool (!k))) w := by
  subst h; exact exec_neT guardR (run_eqR w c d 9997) ho hx hy
theorem exec_neBool {a b : Bool} (c : Bool) (ho : o.op = .binOp .neq 4 x y r) (hx : ρ x = .bool a) (hy : ρ y = .bool b) (h : (a != b) = c) : (execOp ρ o).run Try.prog w = .ok (.value (.bool c)) w := by
  have he := run_equalIn_bool' (P := Try.prog) w 9999 4 a b Try.underlying4
  unfold execOp
  simp only [ho, hx, hy, Sem.run_bind, eqGuard, binOp, Op.equal, Op.maxDepth]
  subst h
  cases a <;> cases b <;> simp_all
theorem zeroG_info : (Try.prog.info? 23).map (fun i => i.zero) = some (some (geo zeroR)) := by kernel_rfl
theorem exec_allocG (ho : o.op = .alloc 23) : (execOp ρ o).run Try.prog w = .ok (.value (.pointer (some ⟨w.heap.size, 0, none⟩))) (w.alloc (.cells (celG zeroR).toArray 23)) := exec_allocT zeroG_info ho
theorem exec_putV (ho : o.op = .store 23 x y) (hx : ρ x = .pointer (some ⟨b, 0, none⟩)) (hy : ρ y = geo c) (h : w.there b 0 3) : (execOp ρ o).run Try.prog w = .ok .skip (putV w b c) := exec_putG ho hx hy h
theorem Blks.thereG {w0 : World} {l : List Cel} {i : Nat} (h : Blks w0 w l) (hi : l[i]? = some (gc b c)) : w.there b 0 3 := there_at (h.at_ i _ hi).2 (Nat.le_refl _)
theorem res_r1 {fn : Func} {p : Tmp} (h : fn.results = #[.cell p 26]) (tmps : Array Value) (w : World) (b : Nat) (hp : tmps.getD p undef = .pointer (some ⟨b, 0, none⟩)) (hc : RosAt w b c) :
    (results fn tmps).run Try.prog w = .ok (ros c) w := res_rng h tmps w b hp hc.range Try.underlying26 rfl (by rw [celR_length]; exact sizeR)
end
end Go.Proofs.Ytnckcafemdcaeaa
