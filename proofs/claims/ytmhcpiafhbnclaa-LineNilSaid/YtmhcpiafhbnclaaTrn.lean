/-
  What a call may turn, told by what lies there; pieces of rows of elements. (No type of a layer is named: out of XLuA, XLuE.)
-/
import Derived.Test.YtmhcpiafhbnclaaReg
import Derived.Test.YtmhcpiafhbnclaaOnly
import Derived.Test.YtmhcpiafhbnclaaCells
import Derived.Test.YtmhcpiafhbnclaaTypA
import Derived.Test.YtmhcpiafhbnclaaEltOps
import Derived.Test.YtmhcpiafhbnclaaLast
import Derived.Deep.DeepCutAuto
import Derived.LaidEqlPtr
namespace Go.Proofs.Ytmhcpiafhbnclaa
open Go.RowKit
set_option linter.unusedVariables false
set_option linter.unusedSimpArgs false
set_option maxRecDepth 100000

/-! ### What a call may turn, told by what lies there -/
/-- From w to w' nothing has turned but what lies from block B on and is of the kind I. -/
def Turn (I : Obj → Prop) (B : Nat) (w w' : World) : Prop := Only (fun b => B ≤ b ∧ ∀ o, w.heap[b]? = some o → I o) w w'
section
variable {I : Obj → Prop} {B : Nat} {w w1 w2 : World} {o : Obj} {b : Nat}
theorem Turn.refl (I : Obj → Prop) (B : Nat) (w : World) : Turn I B w w := Only.refl _ _
theorem Turn.size (h : Turn I B w w1) : w.heap.size ≤ w1.heap.size := Only.size h
theorem Turn.keep (h : Turn I B w w1) (hb : w.heap[b]? = some o) (hn : ¬ I o) : w1.heap[b]? = some o := Only.keep h hb fun e => hn (e.2 o hb)
theorem Turn.low (h : Turn I B w w1) (hb : w.heap[b]? = some o) (hn : b < B) : w1.heap[b]? = some o := Only.keep h hb fun e => by omega
theorem Turn.trans (h : Turn I B w w1) (k : Turn I B w1 w2) : Turn I B w w2 := by
  refine Only.trans h k fun b hb => ?_
  by_cases hl : b < w.heap.size
  · refine .inl ⟨hb.1, fun o ho => ?_⟩
    exact Classical.byContradiction fun hn => hn (hb.2 o (h.keep ho hn))
  · exact .inr (by omega)
theorem Turn.of_below (h : Below w.heap.size w w1) : Turn I B w w1 := Only.of_below _ h
theorem Turn.alloc (h : Turn I B w w1) (o : Obj) : Turn I B w (w1.alloc o) := Only.alloc h o
theorem Turn.drew (h : Turn I B w w1) : Turn I B w w1.drew := Only.drew h
theorem Turn.setCell (h : Turn I B w w1) {p : Addr} (hB : B ≤ p.block) (ho : w1.heap[p.block]? = some o) (hI : I o) (u : Value) : Turn I B w (w1.setCell p u) := by
  refine h.trans (Only.setCell (Only.refl _ _) (.inl ⟨hB, fun o' ho' => ?_⟩) u)
  rw [ho] at ho'
  cases ho'
  exact hI
theorem Turn.map {k : TypeId} (h : Turn I B w w1) (hB : B ≤ b) (hI : ∀ es c, I (.map es c)) (k : w1.mapTurned w2 b) : Turn I B w w2 := by
  have hg := k.grown
  obtain ⟨es, c, es', c', hb, e⟩ := k
  refine h.trans (Only.grown (Only.refl _ _) hg fun j hj => ?_)
  injection hj with hj
  subst hj
  refine .inl ⟨hB, fun o ho => ?_⟩
  rw [hb] at ho
  cases ho
  exact hI es c
theorem Turn.below {w0 : World} (h : Below B w0 w) (k : Turn I B w w1) (hB : B ≤ w.heap.size) : Below B w0 w1 := h.trans (Only.below k (fun b hb => hb.1) hB)
end

section
variable {α : Type} {E : Elt α} {ρ : Operand → Value} {o : Oper} {x y : Operand} {w : World} {A : Option Addr} {n c k B b off : Nat} {l : List α}
/-! ### Pieces of rows of elements -/
theorem add_zero_ (A : Option Addr) : A.map (fun x => x.add 0) = A := by
  cases A with
  | none => rfl
  | some a =>
    obtain ⟨b, off, s⟩ := a
    cases s <;> simp [Addr.add]
theorem exec_headE (ho : o.op = .slice E.s x none (some y) none) (hx : ρ x = .slice A n c) (hy : ρ y = .int .i64 (k : Int)) (hk : k ≤ c) : (execOp ρ o).run Try.prog w = .ok (.value (.slice A k c)) w := by
  have hs := run_sizeE E w
  unfold execOp
  simp [ho, hx, hy, Instr.sliceAt, Instr.slice, Instr.sliceBounds, Instr.sliceBound, asIntOf, run_underlying E.und, hs]
  have := add_zero_ A
  split <;> simp_all
def tailE (E : Elt α) (A : Option Addr) (c k : Nat) : Option Addr := if c = k then A else A.map (fun x => x.add (k * E.n))
theorem exec_tailE (ho : o.op = .slice E.s x (some y) none none) (hx : ρ x = .slice A n c) (hy : ρ y = .int .i64 (k : Int)) (hk : k ≤ n) : (execOp ρ o).run Try.prog w = .ok (.value (.slice (tailE E A c k) (n - k) (c - k))) w := by
  have hs := run_sizeE E w
  unfold execOp tailE
  simp [ho, hx, hy, Instr.sliceAt, Instr.slice, Instr.sliceBounds, Instr.sliceBound, asIntOf, run_underlying E.und, hs]
  intro hh
  omega
theorem RdE.headE (h : RdE E w B A n l) (hk : k ≤ n) : RdE E w B A k (l.take k) :=
  ⟨by rw [List.length_take, h.1]; omega, fun j hj => by
    obtain ⟨b, off, e, hb, hc⟩ := h.2 j (by omega)
    refine ⟨b, off, e, hb, ?_⟩
    rw [List.getD, List.getElem?_take_of_lt hj]
    exact hc⟩
theorem RdE.tailE (h : RdE E w B A n l) (hk : k ≤ n) (hc : n ≤ c) : RdE E w B (Go.Proofs.Ytmhcpiafhbnclaa.tailE E A c k) (n - k) (l.drop k) :=
  ⟨by rw [List.length_drop, h.1], fun j hj => by
    obtain ⟨b, off, e, hb, hr⟩ := h.2 (k + j) (by omega)
    refine ⟨b, off + k * E.n, ?_, hb, ?_⟩
    · unfold Go.Proofs.Ytmhcpiafhbnclaa.tailE
      rw [if_neg (by omega), e]
      simp [Addr.add_mid]
    · rw [List.getD, List.getElem?_drop, show off + k * E.n + j * E.n = off + (k + j) * E.n from by rw [Nat.add_mul]; omega]
      exact hr⟩
theorem exec_lenE (E : Elt α) (ho : o.op = .call { callee := .builtin .len, args := #[x], argTypes := #[E.s] }) (hx : ρ x = .slice A n c) : (execOp ρ o).run Try.prog w = .ok (.value (.int .i64 (n : Int))) w := by
  simp [execOp, ho, resolve, invoke, builtin, hx, Builtin.len_, run_underlying E.und, Result.andThen]
  rfl
theorem exec_bld1 {t : TypeId} {p v : Value} (ho : o.op = .build t #[(0, x)]) (hx : ρ x = p) (h : (Instr.build t #[(0, p)]).run Try.prog w = .ok v w) : (execOp ρ o).run Try.prog w = .ok (.value v) w := by
  unfold execOp
  simp [ho, hx, h, Result.andThen]
end
section
variable {w w' : World} {B : Nat} {v : Value}
theorem MadeE.kept_all {α : Type} {E : Elt α} {l : List α} (h : MadeE E w B v l) (hk : ∀ (b : Nat) (cs : Array Value), w.heap[b]? = some (Obj.cells cs E.t (0, 0)) → w'.heap[b]? = some (Obj.cells cs E.t (0, 0))) : MadeE E w' B v l := by
  refine ⟨h.1, ?_⟩
  rcases h.2 with hn | ⟨g, cap, cur, rfl, hbg, hg, rest⟩
  · exact .inl hn
  · exact .inr ⟨g, cap, cur, rfl, hbg, hk g cur hg, rest⟩
end
/-! ### Pointers compared -/
section
variable {ρ : Operand → Value} {o : Oper} {x y : Operand} {w : World} {t r : TypeId} {v : Value} {a1 a2 : Addr}
theorem eqGuard_ptr (op : BinOp) (t : TypeId) (x y : Operand) (a b : Option Addr) : (eqGuard op t x y (.pointer a) (.pointer b)).run Try.prog w = .ok () w := by
  cases op <;> simp [eqGuard]
theorem exec_binP {op : BinOp} {m n : Option Addr} (ho : o.op = .binOp op t x y r) (hx : ρ x = .pointer m) (hy : ρ y = .pointer n) (h : (binOp op t (.pointer m) (.pointer n)).run Try.prog w = .ok v w) : (execOp ρ o).run Try.prog w = .ok (.value v) w := by
  unfold execOp
  simp only [ho, hx, hy, Sem.run_bind, eqGuard_ptr, h, Result.andThen_ok, Sem.run_pure]
theorem equalIn_ptr {te : TypeId} (hp : Try.prog.underlying t = some (.pointer te)) {j : TypeInfo} (hte : Try.prog.info? te = some j) (hsz : j.size ≠ 0) {ca cb : Array Value} {ta tb : TypeId} (ha : w.heap[a1.block]? = some (.cells ca ta (0, 0))) (hb : w.heap[a2.block]? = some (.cells cb tb (0, 0))) (d : Nat) :
    (Op.equalIn (d + 1) t (.pointer (some a1)) (.pointer (some a2))).run Try.prog w = .ok (decide (a1 = a2)) w := by
  by_cases h : a1 = a2
  · subst h
    simp [Op.equalIn, run_underlying hp, sizeOf, typeInfo, hte, run_sameAddr_same]
  · simp [Op.equalIn, run_underlying hp, sizeOf, typeInfo, hte, hsz, run_sameAddr_other w h ha hb, h]
theorem equalIn_nil {te : TypeId} (hp : Try.prog.underlying t = some (.pointer te)) (m : Option Addr) (d : Nat) : (Op.equalIn (d + 1) t (.pointer m) (.pointer none)).run Try.prog w = .ok (decide (m = none)) w := by
  cases m <;> simp [Op.equalIn, run_underlying hp]
theorem exec_eqNil {te : TypeId} {m : Option Addr} (c : Bool) (hp : Try.prog.underlying t = some (.pointer te)) (ho : o.op = .binOp .eql t x y r) (hx : ρ x = .pointer m) (hy : ρ y = .pointer none) (h : decide (m = none) = c) : (execOp ρ o).run Try.prog w = .ok (.value (.bool c)) w := by
  subst h
  refine exec_binP ho hx hy ?_
  simp only [binOp]
  simp [Op.equal, Op.maxDepth, equalIn_nil hp m 9999]
theorem exec_neNil {te : TypeId} {m : Option Addr} (c : Bool) (hp : Try.prog.underlying t = some (.pointer te)) (ho : o.op = .binOp .neq t x y r) (hx : ρ x = .pointer m) (hy : ρ y = .pointer none) (h : (!decide (m = none)) = c) : (execOp ρ o).run Try.prog w = .ok (.value (.bool c)) w := by
  subst h
  refine exec_binP ho hx hy ?_
  simp only [binOp]
  simp [Op.equal, Op.maxDepth, equalIn_nil hp m 9999]
theorem exec_nePt {te : TypeId} (c : Bool) (hp : Try.prog.underlying t = some (.pointer te)) {j : TypeInfo} (hte : Try.prog.info? te = some j) (hsz : j.size ≠ 0) (ho : o.op = .binOp .neq t x y r) (hx : ρ x = .pointer (some a1)) (hy : ρ y = .pointer (some a2))
    {ca cb : Array Value} {ta tb : TypeId} (ha : w.heap[a1.block]? = some (.cells ca ta (0, 0))) (hb : w.heap[a2.block]? = some (.cells cb tb (0, 0))) (h : (!decide (a1 = a2)) = c) : (execOp ρ o).run Try.prog w = .ok (.value (.bool c)) w := by
  subst h
  refine exec_binP ho hx hy ?_
  simp only [binOp]
  simp [Op.equal, Op.maxDepth, equalIn_ptr hp hte hsz ha hb 9999]
end
end Go.Proofs.Ytmhcpiafhbnclaa
