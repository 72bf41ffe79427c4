/-
  Regions that draw their order: steps for what needs no memory of a type of its own; values out of a frame that is written out. No type of a seat is named.
-/
import Derived.Test.YtmhcpiafhbnclaaPre
import Derived.StillTailTactics
import Derived.Deep.WholeRow
import Derived.Deep.Quiet
import Derived.Deep.MidRow
import Derived.Laws.StructEq
import Derived.Laws.NewBlocks
import Derived.OrdersHeld
namespace Go.Proofs.Ytmhcpiafhbnclaa
open Go.RowKit
set_option maxRecDepth 100000
set_option linter.unusedVariables false

/-! ### What one operation does -/
section
variable {ρ : Operand → Value} {o : Oper} {x y : Operand} {w : World} {t r : TypeId} {i : Nat} {p q : Value}
theorem exec_move (ho : o.op = .move x) : (execOp ρ o).run Try.prog w = .ok (.value (ρ x)) w := by
  unfold execOp
  simp only [ho, Sem.run_pure]
theorem exec_assign (ho : o.op = .assign x) : (execOp ρ o).run Try.prog w = .ok (.value (ρ x)) w := by
  unfold execOp
  simp only [ho, Sem.run_pure]
theorem exec_call {f : FuncId} {args : List Operand} {ats : Array TypeId} {a : Act} (hf : ∀ args w, (callFunc f args).run Try.prog w = .ok (.enter f args) w) (ho : o.op = .call { callee := .value (.func f), args := args.toArray, argTypes := ats }) :
    (execOp a.eval o).run Try.prog w = .ok (.enter f (args.map a.eval).toArray) w := by
  unfold execOp
  simp [ho, resolve, Deferred.ofValue, Act.eval, invoke, hf]
theorem exec_faddr (ho : o.op = .fieldAddr t x i) (hx : ρ x = p) (h : (Instr.fieldAt t p i).run Try.prog w = .ok q w) : (execOp ρ o).run Try.prog w = .ok (.value q) w := by
  unfold execOp
  simp only [ho, hx, Sem.run_bind, h, Result.andThen_ok, Sem.run_pure]
theorem exec_field (ho : o.op = .field t x i) (hx : ρ x = p) (h : (Instr.field t p i).run Try.prog w = .ok q w) : (execOp ρ o).run Try.prog w = .ok (.value q) w := by
  unfold execOp
  simp only [ho, hx, Sem.run_bind, h, Result.andThen_ok, Sem.run_pure]
theorem exec_ld (ho : o.op = .load t x) (hx : ρ x = p) (h : (Instr.loadAt t p).run Try.prog w = .ok q w) : (execOp ρ o).run Try.prog w = .ok (.value q) w := by
  unfold execOp
  simp only [ho, hx, Sem.run_bind, h, Result.andThen_ok, Sem.run_pure]
theorem exec_ix (ho : o.op = .indexAddr t x y) {u : Value} (hx : ρ x = p) (hy : ρ y = u) (h : (Instr.indexAt t p u).run Try.prog w = .ok q w) : (execOp ρ o).run Try.prog w = .ok (.value q) w := by
  unfold execOp
  simp only [ho, hx, hy, Sem.run_bind, h, Result.andThen_ok, Sem.run_pure]
theorem exec_nil {b off : Nat} (ho : o.op = .nilCheck x) (hx : ρ x = .pointer (some ⟨b, off, none⟩)) : (execOp ρ o).run Try.prog w = .ok (.value (.pointer (some ⟨b, off, none⟩))) w := by
  unfold execOp
  simp only [ho, hx, Sem.run_pure]
theorem exec_st {u : Value} {w' : World} (ho : o.op = .store t x y) (hx : ρ x = p) (hy : ρ y = u) (h : (Instr.storeAt t p u).run Try.prog w = .ok () w') : (execOp ρ o).run Try.prog w = .ok .skip w' := by
  unfold execOp
  simp only [ho, hx, hy, Sem.run_bind, h, Result.andThen_ok, Sem.run_pure]
theorem exec_add {a b c : Int} (ho : o.op = .binOp .add t x y r) (hx : ρ x = .int .i64 a) (hy : ρ y = .int .i64 b) (h : IntKind.i64.wrap (a + b) = c) : (execOp ρ o).run Try.prog w = .ok (.value (.int .i64 c)) w := by
  unfold execOp
  simp [ho, hx, hy, eqGuard, binOp, Op.intArith, h]
theorem exec_sub {a b c : Int} (ho : o.op = .binOp .sub t x y r) (hx : ρ x = .int .i64 a) (hy : ρ y = .int .i64 b) (h : IntKind.i64.wrap (a - b) = c) : (execOp ρ o).run Try.prog w = .ok (.value (.int .i64 c)) w := by
  unfold execOp
  simp [ho, hx, hy, eqGuard, binOp, Op.intArith, h]
theorem exec_mul {a b c : Int} (ho : o.op = .binOp .mul t x y r) (hx : ρ x = .int .i64 a) (hy : ρ y = .int .i64 b) (h : IntKind.i64.wrap (a * b) = c) : (execOp ρ o).run Try.prog w = .ok (.value (.int .i64 c)) w := by
  unfold execOp
  simp [ho, hx, hy, eqGuard, binOp, Op.intArith, h]
theorem exec_quo {a b c : Int} (ho : o.op = .binOp .quo t x y r) (hx : ρ x = .int .i64 a) (hy : ρ y = .int .i64 b) (h0 : b ≠ 0) (h : IntKind.i64.wrap (a.tdiv b) = c) : (execOp ρ o).run Try.prog w = .ok (.value (.int .i64 c)) w := by
  unfold execOp
  simp [ho, hx, hy, eqGuard, binOp, Op.intDiv, h, h0]
theorem exec_rem {a b c : Int} (ho : o.op = .binOp .rem t x y r) (hx : ρ x = .int .i64 a) (hy : ρ y = .int .i64 b) (h0 : b ≠ 0) (h : a.tmod b = c) : (execOp ρ o).run Try.prog w = .ok (.value (.int .i64 c)) w := by
  unfold execOp
  simp [ho, hx, hy, eqGuard, binOp, Op.intDiv, h, h0]
end

/-! ### Steps of a plain region -/
section
variable {P : Program} {ops : Array Oper} {rest : List Oper} {o : Oper} {a : Act} {w w' : World} {Q : Exit → Act → World → Prop} {v : Value}
theorem wpList_val (hw : Region.wanted o (yielded ops a.tmps) = true) (h : (execOp a.eval o).run P w = .ok (.value v) w') (hr : wpList P ops Q rest (a.put o.dst v) w') : wpList P ops Q (o :: rest) a w := by
  refine wpList_step fun K hK => ?_
  rw [if_pos hw]
  unfold Oper.wp
  rw [h]
  exact hK _ _ hr
theorem wpList_nul (hw : Region.wanted o (yielded ops a.tmps) = true) (h : (execOp a.eval o).run P w = .ok .skip w') (hr : wpList P ops Q rest (a.put o.dst undef) w') : wpList P ops Q (o :: rest) a w := by
  refine wpList_step fun K hK => ?_
  rw [if_pos hw]
  unfold Oper.wp
  rw [h]
  exact hK _ _ hr
end

section
variable {P : Program} {ops : Array Oper} {rest : List Oper} {o : Oper} {a : Act} {w w' : World} {Q : Exit → Act → World → Prop} {v : Value}
/-- As wpList_val, wpList_nul, of an operation that bears no guard: a miss costs little. -/
theorem wpList_valn (hg : o.guard = none) (h : (execOp a.eval o).run P w = .ok (.value v) w') (hr : wpList P ops Q rest (a.put o.dst v) w') : wpList P ops Q (o :: rest) a w := wpList_val (by unfold Region.wanted; rw [hg]) h hr
theorem wpList_nuln (hg : o.guard = none) (h : (execOp a.eval o).run P w = .ok .skip w') (hr : wpList P ops Q rest (a.put o.dst undef) w') : wpList P ops Q (o :: rest) a w := wpList_nul (by unfold Region.wanted; rw [hg]) h hr
theorem wpList_call {f : FuncId} {vs : Array Value} (hw : Region.wanted o (yielded ops a.tmps) = true) (h : (execOp a.eval o).run P w = .ok (.enter f vs) w) (hc : Calls P f vs w fun e w' => ∃ v, e = .returned v ∧ wpList P ops Q rest (a.put o.dst v) w') : wpList P ops Q (o :: rest) a w := by
  refine wpList_step fun K hK => ?_
  rw [if_pos hw]
  unfold Oper.wp
  rw [h]
  exact hc.mono fun e w'' ⟨v, he, hk⟩ => by subst he; exact hK _ _ hk
end

/-! ### A region that draws its order, whose operations only read and whose calls lay new memory alone: one walk, in the order of the text -/
theorem wp_region_above {B : Nat} {id : Nat} {Q : Exit → Act → World → Prop} {a : Act} {w : World} {l : List Oper} (hB : Region.lexB .any l.toArray = true)
    (h : wpQuiet Try.prog l.toArray (Below B w) (fun a' => ∀ w', Below B w w' → Q .normal a' w') l a) : (Code.region id l.toArray true).wp Try.prog Q a w :=
  wp_region_quiet (C := Below B w) (by kernel_rfl) hB (bd (Below.refl B w)) (by simpa using h)
section
variable {P : Program} {ops : Array Oper} {C : World → Prop} {Q : Act → Prop} {a : Act} {o : Oper} {rest : List Oper} {v : Value}
theorem qv_skip (hw : Region.wanted o (yielded ops a.tmps) = false) (h : wpQuiet P ops C Q rest (a.put o.dst undef)) : wpQuiet P ops C Q (o :: rest) a :=
  wpQuiet_step fun K hK => by rw [if_neg (by rw [hw]; exact Bool.false_ne_true)]; exact hK _ h
theorem qv_val (hw : Region.wanted o (yielded ops a.tmps) = true) (h : ∀ w, C w → (execOp a.eval o).run P w = .ok (.value v) w) (hr : wpQuiet P ops C Q rest (a.put o.dst v)) : wpQuiet P ops C Q (o :: rest) a :=
  wpQuiet_step fun K hK => by
    rw [if_pos hw]
    exact ⟨v, fun w hC => by unfold Oper.quietAt; rw [h w hC]; exact ⟨rfl, rfl⟩, hK _ hr⟩
theorem qv_call {f : FuncId} {vs : Array Value} (hw : Region.wanted o (yielded ops a.tmps) = true) (h : ∀ w, (execOp a.eval o).run P w = .ok (.enter f vs) w) (hc : ∀ w, C w → Calls P f vs w fun e w'' => e = .returned v ∧ C w'') (hr : wpQuiet P ops C Q rest (a.put o.dst v)) : wpQuiet P ops C Q (o :: rest) a :=
  wpQuiet_step fun K hK => by
    rw [if_pos hw]
    exact ⟨v, fun w hC => by unfold Oper.quietAt; rw [h w]; exact ⟨rfl, hc w hC⟩, hK _ hr⟩
end

/-! ### A region that draws its order, its head walked in one world -/
section
variable {P : Program} {ops : Array Oper} {w : World} {Q : Act → Prop} {a : Act} {o : Oper} {rest : List Oper} {v : Value}
theorem st_val (hw : Region.wanted o (yielded ops a.tmps) = true) (h : (execOp a.eval o).run P w = .ok (.value v) w) (hr : wpStill P ops w Q rest (a.put o.dst v)) : wpStill P ops w Q (o :: rest) a :=
  wpStill_step fun K hK => by
    rw [if_pos hw]
    unfold Oper.still
    rw [h, Oper.stillUpon_value]
    exact hK _ hr
end

/-! ### A region that draws its order, under a condition that is held throughout: number by number -/
section
variable {P : Program} {md : Region.Mode} {l : List Oper} {Q : Exit → Act → World → Prop} {S : World → Prop} {fuel : Nat} {listed : Array Bool} {a : Act} {w : World} {o : Oper} {v : Value}
theorem held_val (i : Nat) (hi : l[i]? = some o) (hs : Region.noSelect l.toArray = true) (hf : Region.free md l.toArray listed i = true) (hr : (Region.ready md l.toArray listed).contains i = true)
    (hw : Region.wanted o (yielded l.toArray a.tmps) = true) (h : ∀ w, S w → (execOp a.eval o).run P w = .ok (.value v) w) (hQ : ∀ c a w, Q (.panic c) (a.put o.dst v) w → Q (.panic c) a w) (hS : S w)
    (hk : wpAnyH P md l.toArray Q S fuel (listed.setIfInBounds i true) (a.put o.dst v) w) : wpAnyH P md l.toArray Q S (fuel + 1) listed a w :=
  wpAnyH_take (by simpa using hi) hs hf hr hQ (.inl ⟨hw, h⟩) hS hk
theorem held_call (i : Nat) {f : FuncId} {vs : Array Value} (hi : l[i]? = some o) (hr : Region.ready md l.toArray listed = [i]) (hw : Region.wanted o (yielded l.toArray a.tmps) = true) (h : (execOp a.eval o).run P w = .ok (.enter f vs) w)
    (hc : Calls P f vs w fun e w' => ∃ v, e = .returned v ∧ S w' ∧ wpAnyH P md l.toArray Q S fuel (listed.setIfInBounds i true) (a.put o.dst v) w') : wpAnyH P md l.toArray Q S (fuel + 1) listed a w :=
  wpAnyH_all hr (by simp) fun j hj => by
    obtain rfl : j = i := by simpa using hj
    unfold wpOp
    simp only [List.getElem?_toArray, hi, hw, if_true]
    refine .inl ?_
    unfold Oper.wp
    rw [h]
    exact hc.mono fun e w' ⟨v, he, hk⟩ => by subst he; exact hk
theorem held_nul (i : Nat) {w' : World} (hi : l[i]? = some o) (hr : Region.ready md l.toArray listed = [i]) (hw : Region.wanted o (yielded l.toArray a.tmps) = true) (h : (execOp a.eval o).run P w = .ok .skip w')
    (hS : S w') (hk : wpAnyH P md l.toArray Q S fuel (listed.setIfInBounds i true) (a.put o.dst undef) w') : wpAnyH P md l.toArray Q S (fuel + 1) listed a w :=
  wpAnyH_all hr (by simp) fun j hj => by
    obtain rfl : j = i := by simpa using hj
    unfold wpOp
    simp only [List.getElem?_toArray, hi, hw, if_true]
    refine .inl ?_
    unfold Oper.wp
    rw [h]
    exact ⟨hS, hk⟩
end

/-! ### More steps -/
section
variable {ρ : Operand → Value} {o : Oper} {x y z : Operand} {w : World} {t r : TypeId} {k : IntKind}
theorem exec_pick_t (ho : o.op = .pick x y z) (hx : ρ x = .bool true) : (execOp ρ o).run Try.prog w = .ok (.value (ρ y)) w := by
  unfold execOp
  simp [ho, hx, asBool]
theorem exec_pick_f (ho : o.op = .pick x y z) (hx : ρ x = .bool false) : (execOp ρ o).run Try.prog w = .ok (.value (ρ z)) w := by
  unfold execOp
  simp [ho, hx, asBool]
theorem exec_not (b : Bool) (ho : o.op = .unOp .not t x) (hx : ρ x = .bool b) : (execOp ρ o).run Try.prog w = .ok (.value (.bool (!b))) w := by
  unfold execOp
  simp [ho, hx, Op.unary]
theorem exec_eqInt {a b : Int} (c : Bool) (ho : o.op = .binOp .eql t x y r) (hx : ρ x = .int k a) (hy : ρ y = .int k b) (h : (a == b) = c) : (execOp ρ o).run Try.prog w = .ok (.value (.bool c)) w := by
  unfold execOp
  simp [ho, hx, hy, eqGuard, binOp, Op.intCmp, h]
theorem exec_neInt {a b : Int} (c : Bool) (ho : o.op = .binOp .neq t x y r) (hx : ρ x = .int k a) (hy : ρ y = .int k b) (h : (a != b) = c) : (execOp ρ o).run Try.prog w = .ok (.value (.bool c)) w := by
  unfold execOp
  simp [ho, hx, hy, eqGuard, binOp, Op.intCmp, h]
theorem exec_eqBool {a b : Bool} (c : Bool) (ho : o.op = .binOp .eql 4 x y r) (hx : ρ x = .bool a) (hy : ρ y = .bool b) (h : (a == b) = c) : (execOp ρ o).run Try.prog w = .ok (.value (.bool c)) w := by
  have he := run_equalIn_bool' (P := Try.prog) w 9999 4 a b Try.underlying4
  unfold execOp
  simp [ho, hx, hy, eqGuard, binOp, Op.equal, Op.maxDepth, he, h]
end
/-! Values out of a frame that is written out: by its list, so that the kernel has little to do. -/
theorem ev {ts : List Value} {ds : List Deferred} {d : Nat} {v : Value} (h : ts[d]? = some v) : (Act.mk ts.toArray ds).eval (.tmp d) = v := by
  simp [Act.eval, h]
theorem evk {a : Act} {v : Value} : a.eval (.const v) = v := rfl
theorem evc {ρ : Operand → Value} {x : Operand} {xs : List Operand} {v : Value} {vs : List Value} (h : ρ x = v) (hs : xs.map ρ = vs) : (x :: xs).map ρ = v :: vs := by
  rw [List.map_cons, h, hs]
theorem evn {ρ : Operand → Value} : ([] : List Operand).map ρ = [] := rfl
theorem wanted_of {l : List Oper} {ts : List Value} {o oj : Oper} {j d : Nat} {b : Bool} (hg : o.guard = some (j, b)) (hj : l[j]? = some oj) (hd : oj.dst = some d) (hv : ts[d]? = some (.bool b)) : Region.wanted o (yielded l.toArray ts.toArray) = true := by
  unfold Region.wanted yielded
  simp [hg, hj, hd, hv]
section
variable {ρ : Operand → Value} {o : Oper} {x y z : Operand} {w : World} {v : Value}
theorem exec_mv (ho : o.op = .move x) (hx : ρ x = v) : (execOp ρ o).run Try.prog w = .ok (.value v) w := by rw [exec_move ho, hx]
theorem exec_as (ho : o.op = .assign x) (hx : ρ x = v) : (execOp ρ o).run Try.prog w = .ok (.value v) w := by rw [exec_assign ho, hx]
theorem exec_pt (ho : o.op = .pick x y z) (hx : ρ x = .bool true) (hy : ρ y = v) : (execOp ρ o).run Try.prog w = .ok (.value v) w := by rw [exec_pick_t ho hx, hy]
theorem exec_pf (ho : o.op = .pick x y z) (hx : ρ x = .bool false) (hz : ρ z = v) : (execOp ρ o).run Try.prog w = .ok (.value v) w := by rw [exec_pick_f ho hx, hz]
theorem exec_cl {f : FuncId} {args : List Operand} {vs : List Value} {ats : Array TypeId} {a : Act} (hf : ∀ args w, (callFunc f args).run Try.prog w = .ok (.enter f args) w) (ho : o.op = .call { callee := .value (.func f), args := args.toArray, argTypes := ats }) (hv : args.map a.eval = vs) :
    (execOp a.eval o).run Try.prog w = .ok (.enter f vs.toArray) w := by rw [exec_call hf ho, hv]
end
theorem above_of {f : FuncId} {vs : Array Value} {w0 : World} {B : Nat} {v : Value} (hB : B ≤ w0.heap.size) (h : ∀ w', Below B w0 w' → Calls Try.prog f vs w' fun e w'' => e = .returned v ∧ Below w'.heap.size w' w'') :
    ∀ w', Below B w0 w' → Calls Try.prog f vs w' fun e w'' => e = .returned v ∧ Below B w0 w'' :=
  fun w' hw => (h w' hw).mono fun _ _ hh => ⟨hh.1, hw.trans (hh.2.mono (Nat.le_trans hB hw.size))⟩

section
variable {ρ : Operand → Value} {o : Oper} {x : Operand} {w : World}
theorem exec_ext {i : Nat} {vs : List Value} {v : Value} (ho : o.op = .extract x i) (hx : ρ x = .tuple vs.toArray) (hv : vs[i]? = some v) : (execOp ρ o).run Try.prog w = .ok (.value v) w := by
  have h : (Instr.extract (.tuple vs.toArray) i).run Try.prog w = .ok v w := by simp [Instr.extract, hv]
  unfold execOp
  simp only [ho, hx, Sem.run_bind, h, Result.andThen_ok, Sem.run_pure]
end
end Go.Proofs.Ytmhcpiafhbnclaa
