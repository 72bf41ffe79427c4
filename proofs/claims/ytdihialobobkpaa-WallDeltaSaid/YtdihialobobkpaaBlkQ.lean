/-
  Steps of a region that draws its order and whose calls lay new memory alone.
-/
import Derived.Test.YtdihialobobkpaaBlkX
namespace Go.Proofs.Ytdihialobobkpaa
open Go.RowKit
set_option linter.unusedVariables false

section
variable {ρ : Operand → Value} {o : Oper} {x y z : Operand} {w : World} {t r : TypeId} {k : IntKind}
theorem exec_pick_t (ho : o.op = .pick x y z) (hx : ρ x = .bool true) : (execOp ρ o).run Try.prog w = .ok (.value (ρ y)) w := by
  unfold execOp
  simp [ho, hx, asBool]
theorem exec_pick_f (ho : o.op = .pick x y z) (hx : ρ x = .bool false) : (execOp ρ o).run Try.prog w = .ok (.value (ρ z)) w := by
  unfold execOp
  simp [ho, hx, asBool]
theorem exec_not (b : Bool) (ho : o.op = .unOp .not t x) (hx : ρ x = .bool b) : (execOp ρ o).run Try.prog w = .ok (.value (.bool (!b))) w := by
  unfold execOp
  simp [ho, hx, Op.unary]
theorem exec_eqInt {a b : Int} (c : Bool) (ho : o.op = .binOp .eql t x y r) (hx : ρ x = .int k a) (hy : ρ y = .int k b) (h : (a == b) = c) : (execOp ρ o).run Try.prog w = .ok (.value (.bool c)) w := by
  unfold execOp
  simp [ho, hx, hy, eqGuard, binOp, Op.intCmp, h]
theorem exec_neInt {a b : Int} (c : Bool) (ho : o.op = .binOp .neq t x y r) (hx : ρ x = .int k a) (hy : ρ y = .int k b) (h : (a != b) = c) : (execOp ρ o).run Try.prog w = .ok (.value (.bool c)) w := by
  unfold execOp
  simp [ho, hx, hy, eqGuard, binOp, Op.intCmp, h]
theorem exec_eqBool {a b : Bool} (c : Bool) (ho : o.op = .binOp .eql 4 x y r) (hx : ρ x = .bool a) (hy : ρ y = .bool b) (h : (a == b) = c) : (execOp ρ o).run Try.prog w = .ok (.value (.bool c)) w := by
  have he := run_equalIn_bool' (P := Try.prog) w 9999 4 a b Try.underlying4
  unfold execOp
  simp [ho, hx, hy, eqGuard, binOp, Op.equal, Op.maxDepth, he, h]
end
/-! Values out of a frame that is written out: by its list, so that the kernel has little to do. -/
theorem ev {ts : List Value} {ds : List Deferred} {d : Nat} {v : Value} (h : ts[d]? = some v) : (Act.mk ts.toArray ds).eval (.tmp d) = v := by
  simp [Act.eval, h]
theorem evk {a : Act} {v : Value} : a.eval (.const v) = v := rfl
theorem evc {ρ : Operand → Value} {x : Operand} {xs : List Operand} {v : Value} {vs : List Value} (h : ρ x = v) (hs : xs.map ρ = vs) : (x :: xs).map ρ = v :: vs := by
  rw [List.map_cons, h, hs]
theorem evn {ρ : Operand → Value} : ([] : List Operand).map ρ = [] := rfl
theorem wanted_of {l : List Oper} {ts : List Value} {o oj : Oper} {j d : Nat} {b : Bool} (hg : o.guard = some (j, b)) (hj : l[j]? = some oj) (hd : oj.dst = some d) (hv : ts[d]? = some (.bool b)) : Region.wanted o (yielded l.toArray ts.toArray) = true := by
  unfold Region.wanted yielded
  simp [hg, hj, hd, hv]
section
variable {ρ : Operand → Value} {o : Oper} {x y z : Operand} {w : World} {v : Value}
theorem exec_mv (ho : o.op = .move x) (hx : ρ x = v) : (execOp ρ o).run Try.prog w = .ok (.value v) w := by rw [exec_move ho, hx]
theorem exec_as (ho : o.op = .assign x) (hx : ρ x = v) : (execOp ρ o).run Try.prog w = .ok (.value v) w := by rw [exec_assign ho, hx]
theorem exec_pt (ho : o.op = .pick x y z) (hx : ρ x = .bool true) (hy : ρ y = v) : (execOp ρ o).run Try.prog w = .ok (.value v) w := by rw [exec_pick_t ho hx, hy]
theorem exec_pf (ho : o.op = .pick x y z) (hx : ρ x = .bool false) (hz : ρ z = v) : (execOp ρ o).run Try.prog w = .ok (.value v) w := by rw [exec_pick_f ho hx, hz]
theorem exec_cl {f : FuncId} {args : List Operand} {vs : List Value} {ats : Array TypeId} {a : Act} (hf : ∀ args w, (callFunc f args).run Try.prog w = .ok (.enter f args) w) (ho : o.op = .call { callee := .value (.func f), args := args.toArray, argTypes := ats }) (hv : args.map a.eval = vs) :
    (execOp a.eval o).run Try.prog w = .ok (.enter f vs.toArray) w := by rw [exec_call hf ho, hv]
end
theorem above_of {f : FuncId} {vs : Array Value} {w0 : World} {B : Nat} {v : Value} (hB : B ≤ w0.heap.size) (h : ∀ w', Below B w0 w' → Calls Try.prog f vs w' fun e w'' => e = .returned v ∧ Below w'.heap.size w' w'') :
    ∀ w', Below B w0 w' → Calls Try.prog f vs w' fun e w'' => e = .returned v ∧ Below B w0 w'' :=
  fun w' hw => (h w' hw).mono fun _ _ hh => ⟨hh.1, hw.trans (hh.2.mono (Nat.le_trans hB hw.size))⟩

theorem place (a : Int) (n : Nat) (h : 0 < n) : ∃ k : Nat, k < n ∧ (IntKind.u64.wrap a).tmod (n : Int) = (k : Int) := by
  have h1 : 0 ≤ IntKind.u64.wrap a := by rw [IntKind.wrap_u64]; omega
  have h2 := Int.tmod_eq_emod_of_nonneg (b := (n : Int)) h1
  have h3 := Int.emod_nonneg (IntKind.u64.wrap a) (b := (n : Int)) (by omega)
  have h4 := Int.emod_lt_of_pos (IntKind.u64.wrap a) (b := (n : Int)) (by omega)
  obtain ⟨k, hk⟩ := Int.eq_ofNat_of_zero_le h3
  exact ⟨k, by omega, by rw [h2, hk]⟩

/-! ### A store of a block into a row of the call's own -/
section
variable {w : World} {B g n cc k : Nat} {l : List Blk}
theorem MadeB.made (h : MadeB w B (.slice (some ⟨g, 0, none⟩) n cc) l) : l.length = n ∧ B ≤ g ∧ ∃ post, w.heap[g]? = some (.cells (flat l ++ post).toArray 23 (0, 0)) ∧ n ≤ cc ∧ cc ≤ maxLen ∧ (flat l ++ post).length = cc * 64 := by
  rcases h.2 with ⟨hv, _⟩ | ⟨g', cap, cur, hv, hbg, hg, h1, h2, h3, ht⟩
  · cases hv
  · injection hv with e1 e2 e3
    injection e1 with e1
    injection e1 with e1
    subst e1 e2 e3
    refine ⟨rfl, hbg, cur.toList.drop (l.length * 64), ?_, h1, h2, ?_⟩
    · rw [← ht, List.take_append_drop, Array.toArray_toList]; exact hg
    · rw [← ht, List.take_append_drop, Array.length_toList, h3]
theorem MadeB.of_made {post : List Value} (hl : l.length = n) (hB : B ≤ g) (hg : w.heap[g]? = some (.cells (flat l ++ post).toArray 23 (0, 0))) (h1 : n ≤ cc) (h2 : cc ≤ maxLen) (h3 : (flat l ++ post).length = cc * 64) : MadeB w B (.slice (some ⟨g, 0, none⟩) n cc) l := by
  subst hl
  refine ⟨flat_length l, .inr ⟨g, cc, _, rfl, hB, hg, h1, h2, by simpa using h3, ?_⟩⟩
  rw [List.take_left' (flat_length l)]
theorem MadeB.there (h : MadeB w B (.slice (some ⟨g, 0, none⟩) n cc) l) (hk : k < n) : w.there g (k * 64) 64 := by
  obtain ⟨hl, _, post, hg, hn, _, h3⟩ := h.made
  intro j hj
  refine ⟨?_, frozen_of_row w g _ _ _ hg⟩
  rw [cell_of_row w g _ _ _ (0, 0) hg]
  have : k * 64 + j < (flat l ++ post).length := by
    have := Nat.mul_le_mul_right 64 (Nat.le_trans hk hn)
    rw [h3]
    omega
  simp only [List.getElem?_toArray, List.getElem?_eq_getElem this, Option.isSome_some]
theorem MadeB.store (h : MadeB w B (.slice (some ⟨g, 0, none⟩) n cc) l) (hk : k < n) (c : Blk) : MadeB (w.setCells g (k * 64) (cel c)) B (.slice (some ⟨g, 0, none⟩) n cc) (l.set k c) := by
  obtain ⟨hl, hB, post, hg, h1, h2, h3⟩ := h.made
  have hkl : k < l.length := by omega
  have hsp : flat l ++ post = flat (l.take k) ++ cel (l.getD k zeroB) ++ (flat (l.drop (k + 1)) ++ post) := by rw [flat_split hkl]; simp
  rw [hsp] at hg
  have := heap_write g _ (flat (l.drop (k + 1)) ++ post) (cel c) _ _ w (by rw [cel_length, cel_length]) hg
  rw [flat_length, List.length_take, Nat.min_eq_left (by omega)] at this
  have hsp2 : flat (l.take k) ++ cel c ++ (flat (l.drop (k + 1)) ++ post) = flat (l.set k c) ++ post := by rw [flat_set hkl]; simp
  rw [hsp2] at this
  exact MadeB.of_made (by rw [List.length_set, hl]) hB this h1 h2 (by rw [List.length_append, flat_length, List.length_set, ← flat_length, ← List.length_append, h3])
end
end Go.Proofs.Ytdihialobobkpaa
