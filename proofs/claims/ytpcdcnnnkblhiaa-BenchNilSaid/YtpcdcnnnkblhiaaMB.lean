/-
  What the walks of this seat import alike; what a row of bytes is made of.
  Regions that draw their order: steps for what needs no memory of a type of its own; values out of a frame that is written out. No type of a seat is named.
  Blocks: arrays of 64 bytes, by value. What a block is as a list of cells, as a value; how it is read, laid, made, compared.
  What a walk meets of blocks: boxes, loads, stores, comparisons, results; ranges kept by whatever lies above. (Regions: XReg.)
-/
import Derived.Test.YtpcdcnnnkblhiaaMA
import Derived.Test.YtpcdcnnnkblhiaaProg
import Derived.WalkKit
import Derived.RegionTactic
import Derived.ChangeAlike
import Derived.Deep.QuietTactic
import Derived.BigQuiet
import Derived.Lib.Hide
import Derived.WalkLawsBesides
import Derived.WalkSpells
import Derived.Deep.OwnRows
import Derived.StillTailTactics
import Derived.Deep.WholeRow
import Derived.Deep.Quiet
import Derived.Deep.MidRow
import Derived.Laws.StructEq
import Derived.Laws.NewBlocks
import Derived.OrdersHeld
import Derived.Laws.IdiomCopy
namespace Go.Proofs.Ytpcdcnnnkblhiaa
open Go.RowKit
theorem u8info : (Try.prog.info? 5).map (fun i => (i.zero, i.size, i.bytes)) = some (some (.int .u8 0), 1, 1) := by kernel_rfl

/-- A literal's row reads as its bytes. -/
theorem rd_new (w : World) (l : List UInt8) (cs : Array Value) (h : cs.toList = l.map fun u => Value.int .u8 (u.toNat : Int)) : Rd (w.alloc (.cells cs 5)) (w.heap.size + 1) (some ⟨w.heap.size, 0, none⟩) l.length l := by
  refine ⟨rfl, fun k hk => ⟨w.heap.size, 0, rfl, by omega, ?_⟩⟩
  rw [cell_of_row (w.alloc (.cells cs 5)) w.heap.size (0 + k) cs 5 (0, 0) (heap_alloc_new w _), Nat.zero_add, ← Array.getElem?_toList, h, List.getElem?_map, List.getElem?_eq_getElem hk, bt_get hk]
  rfl
/-- The same of a block of whatever type. -/
theorem rd_typed (t : TypeId) (w : World) (l : List UInt8) (cs : Array Value) (h : cs.toList = l.map fun u => Value.int .u8 (u.toNat : Int)) : Rd (w.alloc (.cells cs t)) (w.heap.size + 1) (some ⟨w.heap.size, 0, none⟩) l.length l := by
  refine ⟨rfl, fun k hk => ⟨w.heap.size, 0, rfl, by omega, ?_⟩⟩
  rw [cell_of_row (w.alloc (.cells cs t)) w.heap.size (0 + k) cs t (0, 0) (heap_alloc_new w _), Nat.zero_add, ← Array.getElem?_toList, h, List.getElem?_map, List.getElem?_eq_getElem hk, bt_get hk]
  rfl
/-- The same of a block that bears a mark. -/
theorem rd_marked (w : World) (l : List UInt8) (cs : Array Value) (fr : Nat × Nat) (h : cs.toList = l.map fun u => Value.int .u8 (u.toNat : Int)) : Rd (w.alloc (.cells cs 5 fr)) (w.heap.size + 1) (some ⟨w.heap.size, 0, none⟩) l.length l := by
  refine ⟨rfl, fun k hk => ⟨w.heap.size, 0, rfl, by omega, ?_⟩⟩
  rw [cell_of_row (w.alloc (.cells cs 5 fr)) w.heap.size (0 + k) cs 5 fr (heap_alloc_new w _), Nat.zero_add, ← Array.getElem?_toList, h, List.getElem?_map, List.getElem?_eq_getElem hk, bt_get hk]
  rfl
theorem Rd.alloc {w : World} {N n : Nat} {A : Option Addr} {l : List UInt8} (h : Rd w N A n l) (hN : N ≤ w.heap.size) (o : Obj) : Rd (w.alloc o) N A n l := h.below ((Below.refl N w).alloc hN o)
theorem over_alloc {w w' : World} {o : Obj} (hb : Below (w.heap.size + 1) (w.alloc o) w') : Below w.heap.size w w' :=
  ((Below.refl _ w).alloc (Nat.le_refl _) o).trans (hb.mono (by omega))
theorem Rd.over {w w' : World} {n : Nat} {A : Option Addr} {l : List UInt8} {o : Obj} (h : Rd w w.heap.size A n l) (hb : Below (w.heap.size + 1) (w.alloc o) w') : Rd w' w'.heap.size A n l :=
  h.step (over_alloc hb)
theorem Rd.up {w : World} {n : Nat} {A : Option Addr} {l : List UInt8} (h : Rd w w.heap.size A n l) (o : Obj) : Rd (w.alloc o) (w.heap.size + 1) A n l :=
  (h.alloc (Nat.le_refl _) o).more (by omega)
end Go.Proofs.Ytpcdcnnnkblhiaa
namespace Go.Proofs.Ytpcdcnnnkblhiaa
open Go.RowKit
set_option linter.unusedVariables false

/-! ### What one operation does -/
section
variable {ρ : Operand → Value} {o : Oper} {x y : Operand} {w : World} {t r : TypeId} {i : Nat} {p q : Value}
theorem exec_move (ho : o.op = .move x) : (execOp ρ o).run Try.prog w = .ok (.value (ρ x)) w := by
  unfold execOp
  simp only [ho, Sem.run_pure]
theorem exec_assign (ho : o.op = .assign x) : (execOp ρ o).run Try.prog w = .ok (.value (ρ x)) w := by
  unfold execOp
  simp only [ho, Sem.run_pure]
theorem exec_call {f : FuncId} {args : List Operand} {ats : Array TypeId} {a : Act} (hf : ∀ args w, (callFunc f args).run Try.prog w = .ok (.enter f args) w) (ho : o.op = .call { callee := .value (.func f), args := args.toArray, argTypes := ats }) :
    (execOp a.eval o).run Try.prog w = .ok (.enter f (args.map a.eval).toArray) w := by
  unfold execOp
  simp [ho, resolve, Deferred.ofValue, Act.eval, invoke, hf]
theorem exec_faddr (ho : o.op = .fieldAddr t x i) (hx : ρ x = p) (h : (Instr.fieldAt t p i).run Try.prog w = .ok q w) : (execOp ρ o).run Try.prog w = .ok (.value q) w := by
  unfold execOp
  simp only [ho, hx, Sem.run_bind, h, Result.andThen_ok, Sem.run_pure]
theorem exec_field (ho : o.op = .field t x i) (hx : ρ x = p) (h : (Instr.field t p i).run Try.prog w = .ok q w) : (execOp ρ o).run Try.prog w = .ok (.value q) w := by
  unfold execOp
  simp only [ho, hx, Sem.run_bind, h, Result.andThen_ok, Sem.run_pure]
theorem exec_ld (ho : o.op = .load t x) (hx : ρ x = p) (h : (Instr.loadAt t p).run Try.prog w = .ok q w) : (execOp ρ o).run Try.prog w = .ok (.value q) w := by
  unfold execOp
  simp only [ho, hx, Sem.run_bind, h, Result.andThen_ok, Sem.run_pure]
theorem exec_ix (ho : o.op = .indexAddr t x y) {u : Value} (hx : ρ x = p) (hy : ρ y = u) (h : (Instr.indexAt t p u).run Try.prog w = .ok q w) : (execOp ρ o).run Try.prog w = .ok (.value q) w := by
  unfold execOp
  simp only [ho, hx, hy, Sem.run_bind, h, Result.andThen_ok, Sem.run_pure]
theorem exec_nil {b off : Nat} (ho : o.op = .nilCheck x) (hx : ρ x = .pointer (some ⟨b, off, none⟩)) : (execOp ρ o).run Try.prog w = .ok (.value (.pointer (some ⟨b, off, none⟩))) w := by
  unfold execOp
  simp only [ho, hx, Sem.run_pure]
theorem exec_st {u : Value} {w' : World} (ho : o.op = .store t x y) (hx : ρ x = p) (hy : ρ y = u) (h : (Instr.storeAt t p u).run Try.prog w = .ok () w') : (execOp ρ o).run Try.prog w = .ok .skip w' := by
  unfold execOp
  simp only [ho, hx, hy, Sem.run_bind, h, Result.andThen_ok, Sem.run_pure]
theorem exec_add {a b c : Int} (ho : o.op = .binOp .add t x y r) (hx : ρ x = .int .i64 a) (hy : ρ y = .int .i64 b) (h : IntKind.i64.wrap (a + b) = c) : (execOp ρ o).run Try.prog w = .ok (.value (.int .i64 c)) w := by
  unfold execOp
  simp [ho, hx, hy, eqGuard, binOp, Op.intArith, h]
theorem exec_sub {a b c : Int} (ho : o.op = .binOp .sub t x y r) (hx : ρ x = .int .i64 a) (hy : ρ y = .int .i64 b) (h : IntKind.i64.wrap (a - b) = c) : (execOp ρ o).run Try.prog w = .ok (.value (.int .i64 c)) w := by
  unfold execOp
  simp [ho, hx, hy, eqGuard, binOp, Op.intArith, h]
theorem exec_mul {a b c : Int} (ho : o.op = .binOp .mul t x y r) (hx : ρ x = .int .i64 a) (hy : ρ y = .int .i64 b) (h : IntKind.i64.wrap (a * b) = c) : (execOp ρ o).run Try.prog w = .ok (.value (.int .i64 c)) w := by
  unfold execOp
  simp [ho, hx, hy, eqGuard, binOp, Op.intArith, h]
theorem exec_quo {a b c : Int} (ho : o.op = .binOp .quo t x y r) (hx : ρ x = .int .i64 a) (hy : ρ y = .int .i64 b) (h0 : b ≠ 0) (h : IntKind.i64.wrap (a.tdiv b) = c) : (execOp ρ o).run Try.prog w = .ok (.value (.int .i64 c)) w := by
  unfold execOp
  simp [ho, hx, hy, eqGuard, binOp, Op.intDiv, h, h0]
theorem exec_rem {a b c : Int} (ho : o.op = .binOp .rem t x y r) (hx : ρ x = .int .i64 a) (hy : ρ y = .int .i64 b) (h0 : b ≠ 0) (h : a.tmod b = c) : (execOp ρ o).run Try.prog w = .ok (.value (.int .i64 c)) w := by
  unfold execOp
  simp [ho, hx, hy, eqGuard, binOp, Op.intDiv, h, h0]
end

/-! ### Steps of a plain region -/
section
variable {P : Program} {ops : Array Oper} {rest : List Oper} {o : Oper} {a : Act} {w w' : World} {Q : Exit → Act → World → Prop} {v : Value}
theorem wpList_val (hw : Region.wanted o (yielded ops a.tmps) = true) (h : (execOp a.eval o).run P w = .ok (.value v) w') (hr : wpList P ops Q rest (a.put o.dst v) w') : wpList P ops Q (o :: rest) a w := by
  refine wpList_step fun K hK => ?_
  rw [if_pos hw]
  unfold Oper.wp
  rw [h]
  exact hK _ _ hr
theorem wpList_nul (hw : Region.wanted o (yielded ops a.tmps) = true) (h : (execOp a.eval o).run P w = .ok .skip w') (hr : wpList P ops Q rest (a.put o.dst undef) w') : wpList P ops Q (o :: rest) a w := by
  refine wpList_step fun K hK => ?_
  rw [if_pos hw]
  unfold Oper.wp
  rw [h]
  exact hK _ _ hr
end

/-! ### A region that draws its order, whose operations only read and whose calls lay new memory alone: one walk, in the order of the text -/
theorem wp_region_above {B : Nat} {id : Nat} {Q : Exit → Act → World → Prop} {a : Act} {w : World} {l : List Oper} (hB : Region.lexB .any l.toArray = true)
    (h : wpQuiet Try.prog l.toArray (Below B w) (fun a' => ∀ w', Below B w w' → Q .normal a' w') l a) : (Code.region id l.toArray true).wp Try.prog Q a w :=
  wp_region_quiet (C := Below B w) (by kernel_rfl) hB (bd (Below.refl B w)) (by simpa using h)
section
variable {P : Program} {ops : Array Oper} {C : World → Prop} {Q : Act → Prop} {a : Act} {o : Oper} {rest : List Oper} {v : Value}
theorem qv_skip (hw : Region.wanted o (yielded ops a.tmps) = false) (h : wpQuiet P ops C Q rest (a.put o.dst undef)) : wpQuiet P ops C Q (o :: rest) a :=
  wpQuiet_step fun K hK => by rw [if_neg (by rw [hw]; exact Bool.false_ne_true)]; exact hK _ h
theorem qv_val (hw : Region.wanted o (yielded ops a.tmps) = true) (h : ∀ w, C w → (execOp a.eval o).run P w = .ok (.value v) w) (hr : wpQuiet P ops C Q rest (a.put o.dst v)) : wpQuiet P ops C Q (o :: rest) a :=
  wpQuiet_step fun K hK => by
    rw [if_pos hw]
    exact ⟨v, fun w hC => by unfold Oper.quietAt; rw [h w hC]; exact ⟨rfl, rfl⟩, hK _ hr⟩
theorem qv_call {f : FuncId} {vs : Array Value} (hw : Region.wanted o (yielded ops a.tmps) = true) (h : ∀ w, (execOp a.eval o).run P w = .ok (.enter f vs) w) (hc : ∀ w, C w → Calls P f vs w fun e w'' => e = .returned v ∧ C w'') (hr : wpQuiet P ops C Q rest (a.put o.dst v)) : wpQuiet P ops C Q (o :: rest) a :=
  wpQuiet_step fun K hK => by
    rw [if_pos hw]
    exact ⟨v, fun w hC => by unfold Oper.quietAt; rw [h w]; exact ⟨rfl, hc w hC⟩, hK _ hr⟩
end

/-! ### A region that draws its order, its head walked in one world -/
section
variable {P : Program} {ops : Array Oper} {w : World} {Q : Act → Prop} {a : Act} {o : Oper} {rest : List Oper} {v : Value}
theorem st_val (hw : Region.wanted o (yielded ops a.tmps) = true) (h : (execOp a.eval o).run P w = .ok (.value v) w) (hr : wpStill P ops w Q rest (a.put o.dst v)) : wpStill P ops w Q (o :: rest) a :=
  wpStill_step fun K hK => by
    rw [if_pos hw]
    unfold Oper.still
    rw [h, Oper.stillUpon_value]
    exact hK _ hr
end

/-! ### A region that draws its order, under a condition that is held throughout: number by number -/
section
variable {P : Program} {md : Region.Mode} {l : List Oper} {Q : Exit → Act → World → Prop} {S : World → Prop} {fuel : Nat} {listed : Array Bool} {a : Act} {w : World} {o : Oper} {v : Value}
theorem held_val (i : Nat) (hi : l[i]? = some o) (hs : Region.noSelect l.toArray = true) (hf : Region.free md l.toArray listed i = true) (hr : (Region.ready md l.toArray listed).contains i = true)
    (hw : Region.wanted o (yielded l.toArray a.tmps) = true) (h : ∀ w, S w → (execOp a.eval o).run P w = .ok (.value v) w) (hQ : ∀ c a w, Q (.panic c) (a.put o.dst v) w → Q (.panic c) a w) (hS : S w)
    (hk : wpAnyH P md l.toArray Q S fuel (listed.setIfInBounds i true) (a.put o.dst v) w) : wpAnyH P md l.toArray Q S (fuel + 1) listed a w :=
  wpAnyH_take (by simpa using hi) hs hf hr hQ (.inl ⟨hw, h⟩) hS hk
theorem held_call (i : Nat) {f : FuncId} {vs : Array Value} (hi : l[i]? = some o) (hr : Region.ready md l.toArray listed = [i]) (hw : Region.wanted o (yielded l.toArray a.tmps) = true) (h : (execOp a.eval o).run P w = .ok (.enter f vs) w)
    (hc : Calls P f vs w fun e w' => ∃ v, e = .returned v ∧ S w' ∧ wpAnyH P md l.toArray Q S fuel (listed.setIfInBounds i true) (a.put o.dst v) w') : wpAnyH P md l.toArray Q S (fuel + 1) listed a w :=
  wpAnyH_all hr (by simp) fun j hj => by
    obtain rfl : j = i := by simpa using hj
    unfold wpOp
    simp only [List.getElem?_toArray, hi, hw, if_true]
    refine .inl ?_
    unfold Oper.wp
    rw [h]
    exact hc.mono fun e w' ⟨v, he, hk⟩ => by subst he; exact hk
theorem held_nul (i : Nat) {w' : World} (hi : l[i]? = some o) (hr : Region.ready md l.toArray listed = [i]) (hw : Region.wanted o (yielded l.toArray a.tmps) = true) (h : (execOp a.eval o).run P w = .ok .skip w')
    (hS : S w') (hk : wpAnyH P md l.toArray Q S fuel (listed.setIfInBounds i true) (a.put o.dst undef) w') : wpAnyH P md l.toArray Q S (fuel + 1) listed a w :=
  wpAnyH_all hr (by simp) fun j hj => by
    obtain rfl : j = i := by simpa using hj
    unfold wpOp
    simp only [List.getElem?_toArray, hi, hw, if_true]
    refine .inl ?_
    unfold Oper.wp
    rw [h]
    exact ⟨hS, hk⟩
end

/-! ### More steps -/
section
variable {ρ : Operand → Value} {o : Oper} {x y z : Operand} {w : World} {t r : TypeId} {k : IntKind}
theorem exec_pick_t (ho : o.op = .pick x y z) (hx : ρ x = .bool true) : (execOp ρ o).run Try.prog w = .ok (.value (ρ y)) w := by
  unfold execOp
  simp [ho, hx, asBool]
theorem exec_pick_f (ho : o.op = .pick x y z) (hx : ρ x = .bool false) : (execOp ρ o).run Try.prog w = .ok (.value (ρ z)) w := by
  unfold execOp
  simp [ho, hx, asBool]
theorem exec_not (b : Bool) (ho : o.op = .unOp .not t x) (hx : ρ x = .bool b) : (execOp ρ o).run Try.prog w = .ok (.value (.bool (!b))) w := by
  unfold execOp
  simp [ho, hx, Op.unary]
theorem exec_eqInt {a b : Int} (c : Bool) (ho : o.op = .binOp .eql t x y r) (hx : ρ x = .int k a) (hy : ρ y = .int k b) (h : (a == b) = c) : (execOp ρ o).run Try.prog w = .ok (.value (.bool c)) w := by
  unfold execOp
  simp [ho, hx, hy, eqGuard, binOp, Op.intCmp, h]
theorem exec_neInt {a b : Int} (c : Bool) (ho : o.op = .binOp .neq t x y r) (hx : ρ x = .int k a) (hy : ρ y = .int k b) (h : (a != b) = c) : (execOp ρ o).run Try.prog w = .ok (.value (.bool c)) w := by
  unfold execOp
  simp [ho, hx, hy, eqGuard, binOp, Op.intCmp, h]
theorem exec_eqBool {a b : Bool} (c : Bool) (ho : o.op = .binOp .eql 4 x y r) (hx : ρ x = .bool a) (hy : ρ y = .bool b) (h : (a == b) = c) : (execOp ρ o).run Try.prog w = .ok (.value (.bool c)) w := by
  have he := run_equalIn_bool' (P := Try.prog) w 9999 4 a b Try.underlying4
  unfold execOp
  simp [ho, hx, hy, eqGuard, binOp, Op.equal, Op.maxDepth, he, h]
end
/-! Values out of a frame that is written out: by its list, so that the kernel has little to do. -/
theorem ev {ts : List Value} {ds : List Deferred} {d : Nat} {v : Value} (h : ts[d]? = some v) : (Act.mk ts.toArray ds).eval (.tmp d) = v := by
  simp [Act.eval, h]
theorem evk {a : Act} {v : Value} : a.eval (.const v) = v := rfl
theorem evc {ρ : Operand → Value} {x : Operand} {xs : List Operand} {v : Value} {vs : List Value} (h : ρ x = v) (hs : xs.map ρ = vs) : (x :: xs).map ρ = v :: vs := by
  rw [List.map_cons, h, hs]
theorem evn {ρ : Operand → Value} : ([] : List Operand).map ρ = [] := rfl
theorem wanted_of {l : List Oper} {ts : List Value} {o oj : Oper} {j d : Nat} {b : Bool} (hg : o.guard = some (j, b)) (hj : l[j]? = some oj) (hd : oj.dst = some d) (hv : ts[d]? = some (.bool b)) : Region.wanted o (yielded l.toArray ts.toArray) = true := by
  unfold Region.wanted yielded
  simp [hg, hj, hd, hv]
section
variable {ρ : Operand → Value} {o : Oper} {x y z : Operand} {w : World} {v : Value}
theorem exec_mv (ho : o.op = .move x) (hx : ρ x = v) : (execOp ρ o).run Try.prog w = .ok (.value v) w := by rw [exec_move ho, hx]
theorem exec_as (ho : o.op = .assign x) (hx : ρ x = v) : (execOp ρ o).run Try.prog w = .ok (.value v) w := by rw [exec_assign ho, hx]
theorem exec_pt (ho : o.op = .pick x y z) (hx : ρ x = .bool true) (hy : ρ y = v) : (execOp ρ o).run Try.prog w = .ok (.value v) w := by rw [exec_pick_t ho hx, hy]
theorem exec_pf (ho : o.op = .pick x y z) (hx : ρ x = .bool false) (hz : ρ z = v) : (execOp ρ o).run Try.prog w = .ok (.value v) w := by rw [exec_pick_f ho hx, hz]
theorem exec_cl {f : FuncId} {args : List Operand} {vs : List Value} {ats : Array TypeId} {a : Act} (hf : ∀ args w, (callFunc f args).run Try.prog w = .ok (.enter f args) w) (ho : o.op = .call { callee := .value (.func f), args := args.toArray, argTypes := ats }) (hv : args.map a.eval = vs) :
    (execOp a.eval o).run Try.prog w = .ok (.enter f vs.toArray) w := by rw [exec_call hf ho, hv]
end
theorem above_of {f : FuncId} {vs : Array Value} {w0 : World} {B : Nat} {v : Value} (hB : B ≤ w0.heap.size) (h : ∀ w', Below B w0 w' → Calls Try.prog f vs w' fun e w'' => e = .returned v ∧ Below w'.heap.size w' w'') :
    ∀ w', Below B w0 w' → Calls Try.prog f vs w' fun e w'' => e = .returned v ∧ Below B w0 w'' :=
  fun w' hw => (h w' hw).mono fun _ _ hh => ⟨hh.1, hw.trans (hh.2.mono (Nat.le_trans hB hw.size))⟩

end Go.Proofs.Ytpcdcnnnkblhiaa
namespace Go.Proofs.Ytpcdcnnnkblhiaa
open Go.RowKit
set_option linter.unusedVariables false

abbrev Blk := Vector UInt8 64
def zeroB : Blk := Vector.replicate 64 0
/-- A block's cells. -/
def cel (b : Blk) : List Value := b.toList.map fun u => .int .u8 (u.toNat : Int)
/-- A block as a value. -/
def blk (b : Blk) : Value := .agg (cel b).toArray
/-- Byte number j of a block. -/
def byt (b : Blk) (j : Nat) : Int := bt b.toList j
theorem byt_lo (b : Blk) (j : Nat) : 0 ≤ byt b j := bt_lo _ _
theorem byt_hi (b : Blk) (j : Nat) : byt b j ≤ 255 := bt_hi _ _
theorem byt_get (b : Blk) {j : Nat} (h : j < 64) : byt b j = (b[j].toNat : Int) := by
  unfold byt
  rw [bt_get (by simpa using h)]
  simp
theorem cel_length (b : Blk) : (cel b).length = 64 := by simp [cel]
theorem cel_at (b : Blk) {j : Nat} (h : j < 64) : (cel b)[j]? = some (.int .u8 (byt b j)) := by
  rw [byt_get b h]
  simp [cel, h]
theorem cel_one (b : Blk) : ∀ v ∈ cel b, v.oneCell' = true := by
  intro v hv
  simp only [cel, List.mem_map] at hv
  obtain ⟨u, _, rfl⟩ := hv
  rfl
theorem blk_ext {a b : Blk} (h : ∀ j, j < 64 → byt a j = byt b j) : a = b := by
  apply Vector.ext
  intro i hi
  have := h i hi
  rw [byt_get a hi, byt_get b hi] at this
  exact UInt8.toNat_inj.1 (by omega)
theorem cells_blk (b : Blk) : (blk b).cells = (cel b).toArray := rfl

theorem infoB : (Try.prog.info? 34).map (fun i => (i.zero, i.size, i.bytes)) = some (some (blk zeroB), 64, 64) := by kernel_rfl
theorem undB : Try.prog.underlying 34 = some (.array 64 5) := Try.underlying34
theorem sizeB : (Try.prog.info? 34).map (·.size) = some 64 := by kernel_rfl
theorem guardB : Try.prog.eqGuardType Try.prog.depth 34 = false := by kernel_rfl

section
variable {w : World} {b off : Nat} {c : Blk}
theorem run_load (hc : w.rangeAt b off (cel c)) : (Instr.loadAt 34 (.pointer (some ⟨b, off, none⟩))).run Try.prog w = .ok (blk c) w :=
  run_loadAt_mid w b off 34 (cel c) _ hc undB rfl (by rw [cel_length]; exact sizeB)
theorem run_store (ht : w.there b off 64) : (Instr.storeAt 34 (.pointer (some ⟨b, off, none⟩)) (blk c)).run Try.prog w = .ok () (w.setCells b off (cel c)) := by
  have := run_storeAt_mid (P := Try.prog) w b off 34 (cel c).toArray (by simpa [cel_length] using ht) (by simpa [cel_length] using sizeB) (all_oneCell_toArray (cel_one c))
  simpa [blk] using this
theorem run_zeroB (w : World) : (zeroValue 34).run Try.prog w = .ok (blk zeroB) w := by
  have h := infoB
  cases hq : Try.prog.info? 34 with
  | none => rw [hq] at h; cases h
  | some i =>
    rw [hq] at h
    simp only [Option.map_some, Option.some.injEq, Prod.mk.injEq] at h
    simp [zeroValue, typeInfo, hq, h.1]
theorem run_newVar (w : World) (v : Value) : (newVar 34 v).run Try.prog w = .ok ⟨w.heap.size, 0, none⟩ (w.alloc (.cells v.cells 34)) := by
  simp [newVar, newRow]
theorem run_box (w : World) (c : Blk) : (Instr.box 34 (blk c)).run Try.prog w = .ok (.pointer (some ⟨w.heap.size, 0, none⟩)) (w.alloc (.cells (cel c).toArray 34)) := by
  simp [Instr.box, run_newVar, cells_blk]
theorem run_alloc (w : World) : (Instr.alloc 34 true (.tuple #[])).run Try.prog w = .ok (.pointer (some ⟨w.heap.size, 0, none⟩)) (w.alloc (.cells (cel zeroB).toArray 34)) := by
  simp only [Instr.alloc, Sem.run_bind, run_zeroB, Result.andThen_ok, run_newVar, Sem.run_pure, cells_blk]
end

/-! ### Comparing -/
theorem run_partB (w : World) (c : Blk) (i : Nat) (hi : i < 64) : (part 5 (cel c).toArray (i * 1)).run Try.prog w = .ok (.int .u8 (byt c i)) w := by
  have := cel_at c hi
  simp [part, this]
theorem run_eqB (w : World) (a b : Blk) (d : Nat) : (Op.equalIn (d + 2) 34 (blk a) (blk b)).run Try.prog w = .ok (decide (a = b)) w := by
  have he : ∀ x y : Int, (Op.equalIn (d + 1) 5 (.int .u8 x) (.int .u8 y)).run Try.prog w = .ok (x == y) w := fun x y => run_equalIn_int w d 5 .u8 .u8 x y Try.underlying5
  show (Op.equalIn ((d + 1) + 1) 34 (blk a) (blk b)).run Try.prog w = .ok (decide (a = b)) w
  generalize d + 1 = e at *
  have key : ∀ (l : List Nat), (∀ i ∈ l, i < 64) →
      ((forIn l ((none : Option Bool), ()) fun i r => do
        let x ← part 5 (cel a).toArray (i * 1)
        let y ← part 5 (cel b).toArray (i * 1)
        let z ← Op.equalIn e 5 x y
        if (!z) = true then pure (ForInStep.done (some false, ())) else pure (ForInStep.yield (none, ())) : Sem _)).run Try.prog w =
      .ok (if l.all (fun i => byt a i == byt b i) then (none, ()) else (some false, ())) w := by
    intro l
    induction l with
    | nil => intro _; simp
    | cons i l ih =>
      intro hl
      have hi := hl i (by simp)
      simp only [List.forIn_cons, Sem.run_bind, run_partB w a i hi, run_partB w b i hi, Result.andThen_ok, he]
      by_cases h : byt a i = byt b i
      · have hb : (byt a i == byt b i) = true := by simpa using h
        simp only [hb, Bool.not_true, Bool.false_eq_true, if_false, Sem.run_pure, Result.andThen_ok, List.all_cons, Bool.true_and]
        exact ih fun j hj => hl j (by simp [hj])
      · have hb : (byt a i == byt b i) = false := by simpa using h
        simp [hb]
  have hall : ((List.range' 0 64).all fun i => byt a i == byt b i) = decide (a = b) := by
    rw [Bool.eq_iff_iff, List.all_eq_true, decide_eq_true_iff]
    constructor
    · intro h
      exact blk_ext fun j hj => by simpa using h j (by simp [List.mem_range']; omega)
    · rintro rfl i _
      simp
  have hk := key (List.range' 0 64) (fun i hi => by simp [List.mem_range'] at hi; omega)
  rw [hall] at hk
  simp only [Op.equalIn, blk, Sem.run_bind, run_underlying undB, Result.andThen_ok, Try.sizeOf5, Std.Legacy.Range.forIn_eq_forIn_range']
  simp only [Std.Legacy.Range.size, Nat.sub_zero, Nat.add_sub_cancel, Nat.div_one]
  rw [hk]
  by_cases h : a = b
  · simp [h]
  · simp [h]
end Go.Proofs.Ytpcdcnnnkblhiaa
namespace Go.Proofs.Ytpcdcnnnkblhiaa
open Go.RowKit
set_option linter.unusedVariables false

/-! ### What one operation does -/
section
variable {ρ : Operand → Value} {o : Oper} {x y : Operand} {w : World} {b off : Nat} {c d : Blk}
theorem exec_load (ho : o.op = .load 34 x) (hx : ρ x = .pointer (some ⟨b, off, none⟩)) (hc : w.rangeAt b off (cel c)) : (execOp ρ o).run Try.prog w = .ok (.value (blk c)) w := by
  unfold execOp
  simp only [ho, hx, Sem.run_bind, run_load hc, Result.andThen_ok, Sem.run_pure]
theorem exec_store (ho : o.op = .store 34 x y) (hx : ρ x = .pointer (some ⟨b, off, none⟩)) (hy : ρ y = blk c) (ht : w.there b off 64) : (execOp ρ o).run Try.prog w = .ok .skip (w.setCells b off (cel c)) := by
  unfold execOp
  simp only [ho, hx, hy, Sem.run_bind, run_store ht, Result.andThen_ok, Sem.run_pure]
theorem exec_fill (ho : o.op = .store 34 x y) (hx : ρ x = .pointer (some ⟨w.heap.size, 0, none⟩)) (hy : ρ y = blk c) : (execOp ρ o).run Try.prog (w.alloc (.cells (cel d).toArray 34)) = .ok .skip (w.alloc (.cells (cel c).toArray 34)) := by
  have h := run_storeAt_new (P := Try.prog) w 34 (cel d).toArray (cel c).toArray (by simpa [cel_length] using sizeB) (by simp [cel_length]) (all_oneCell_toArray (cel_one c))
  unfold execOp
  simp only [ho, hx, hy, Sem.run_bind]
  unfold blk
  rw [h]
  simp
theorem exec_box (ho : o.op = .box 34 x) (hx : ρ x = blk c) : (execOp ρ o).run Try.prog w = .ok (.value (.pointer (some ⟨w.heap.size, 0, none⟩))) (w.alloc (.cells (cel c).toArray 34)) := by
  unfold execOp
  simp only [ho, hx, Sem.run_bind, run_box, Result.andThen_ok, Sem.run_pure]
theorem exec_alloc (ho : o.op = .alloc 34) : (execOp ρ o).run Try.prog w = .ok (.value (.pointer (some ⟨w.heap.size, 0, none⟩))) (w.alloc (.cells (cel zeroB).toArray 34)) := by
  unfold execOp
  simp only [ho, Sem.run_bind, run_alloc, Result.andThen_ok, Sem.run_pure]
theorem run_guardB (op : BinOp) (x y : Operand) (c d : Blk) (w : World) : (eqGuard op 34 x y (blk c) (blk d)).run Try.prog w = .ok () w := run_eqGuard_agg w op _ x y _ _ guardB
theorem exec_eql {t : TypeId} (ho : o.op = .binOp .eql 34 x y t) (hx : ρ x = blk c) (hy : ρ y = blk d) : (execOp ρ o).run Try.prog w = .ok (.value (.bool (decide (c = d)))) w := by
  have h := run_eql_struct (P := Try.prog) w 34 (cel c).toArray (cel d).toArray
  have he := run_eqB w c d 9998
  unfold blk at he
  rw [he] at h
  unfold execOp
  simp only [ho, hx, hy, Sem.run_bind, run_guardB, Result.andThen_ok]
  unfold blk
  rw [h]
  simp
theorem exec_neq {t : TypeId} (ho : o.op = .binOp .neq 34 x y t) (hx : ρ x = blk c) (hy : ρ y = blk d) : (execOp ρ o).run Try.prog w = .ok (.value (.bool (!decide (c = d)))) w := by
  have h := run_neq_struct (P := Try.prog) w 34 (cel c).toArray (cel d).toArray
  have he := run_eqB w c d 9998
  unfold blk at he
  rw [he] at h
  unfold execOp
  simp only [ho, hx, hy, Sem.run_bind, run_guardB, Result.andThen_ok]
  unfold blk
  rw [h]
  simp
theorem run_build {parts : List (Nat × Value)} (h : Instr.fill (fun i => some (i * 1, 1)) (cel zeroB).toArray parts = some (cel c).toArray) (w : World) : (Instr.build 34 parts.toArray).run Try.prog w = .ok (blk c) w := by
  simp only [Instr.build, Sem.run_bind, run_zeroB, run_underlying undB, Result.andThen_ok, Try.sizeOf5, cells_blk, h, Sem.run_pure]
  rfl
theorem exec_build {parts : List (Nat × Operand)} (ho : o.op = .build 34 parts.toArray) (h : Instr.fill (fun i => some (i * 1, 1)) (cel zeroB).toArray (parts.map fun (i, x) => (i, ρ x)) = some (cel c).toArray) : (execOp ρ o).run Try.prog w = .ok (.value (blk c)) w := by
  unfold execOp
  simp only [ho, List.map_toArray, Sem.run_bind, run_build h, Result.andThen_ok, Sem.run_pure]
end

/-! ### Results -/
theorem res_blk {fn : Func} {p : Tmp} {c : Blk} (h : fn.results = #[.cell p 34]) (tmps : Array Value) (w : World) (b : Nat) (hp : tmps.getD p undef = .pointer (some ⟨b, 0, none⟩)) (hc : w.rangeAt b 0 (cel c)) :
    (results fn tmps).run Try.prog w = .ok (blk c) w := by
  have hl : (loadVar 34 ⟨b, 0, none⟩).run Try.prog w = .ok (blk c) w := run_loadVar_mid w b 0 34 (cel c) _ hc undB rfl (by rw [cel_length]; exact sizeB)
  have hp' : tmps[p]?.getD undef = .pointer (some ⟨b, 0, none⟩) := by simpa using hp
  simp [results, h, hp', asAddr, hl]
theorem res_blk2 {fn : Func} {p u : Tmp} {c : Blk} (h : fn.results = #[.cell p 34, .tmp u]) (tmps : Array Value) (w : World) (b : Nat) (hp : tmps.getD p undef = .pointer (some ⟨b, 0, none⟩)) (hc : w.rangeAt b 0 (cel c)) :
    (results fn tmps).run Try.prog w = .ok (.tuple #[blk c, tmps.getD u undef]) w := by
  have hl : (loadVar 34 ⟨b, 0, none⟩).run Try.prog w = .ok (blk c) w := run_loadVar_mid w b 0 34 (cel c) _ hc undB rfl (by rw [cel_length]; exact sizeB)
  have hp' : tmps[p]?.getD undef = .pointer (some ⟨b, 0, none⟩) := by simpa using hp
  simp [results, h, hp', asAddr, hl]

/-! ### Ranges -/
section
variable {w w' : World} {B b o n : Nat} {cs : List Value} {c : Blk}
theorem range_below (h : w.rangeAt b o cs) (hb : b < B) (hw : Below B w w') : w'.rangeAt b o cs := fun j v hj => by
  rw [hw.cell (p := ⟨b, o + j, none⟩) hb]; exact h j v hj
theorem there_below (h : w.there b o n) (hb : b < B) (hw : Below B w w') : w'.there b o n := fun j hj => by
  rw [hw.cell (p := ⟨b, o + j, none⟩) hb, hw.frozen (p := ⟨b, o + j, none⟩) hb]; exact h j hj
theorem range_new (w : World) (cs : List Value) (t : TypeId) : (w.alloc (.cells cs.toArray t)).rangeAt w.heap.size 0 cs := fun j v hj => by
  rw [cell_of_row _ _ (0 + j) cs.toArray t (0, 0) (heap_alloc_new w _)]
  simpa using hj
theorem there_new (w : World) (c : Blk) (t : TypeId) : (w.alloc (.cells (cel c).toArray t)).there w.heap.size 0 64 := fun j hj => by
  rw [cell_of_row _ _ (0 + j) _ t (0, 0) (heap_alloc_new w _), frozen_of_row _ _ (0 + j) _ t (heap_alloc_new w _)]
  exact ⟨by simp [cel_length]; omega, rfl⟩
theorem there_row {g m : Nat} {t : TypeId} {f : Nat → Value} (h : w.rowIs g t m f) (ho : o + n ≤ m) : w.there g o n := fun j hj => by
  rw [h.cell (i := o + j) (by omega), h.frozen (o + j)]
  exact ⟨rfl, rfl⟩
theorem range_row {g m : Nat} {t : TypeId} {f : Nat → Int} (h : w.rowIs g t m (fun j => .int .u8 (f j))) (ho : o + 64 ≤ m) (hf : ∀ j, j < 64 → f (o + j) = byt c j) : w.rangeAt g o (cel c) := fun j v hj => by
  have hlt : j < 64 := by have := (List.getElem?_eq_some_iff.1 hj).1; rwa [cel_length] at this
  rw [h.cell (i := o + j) (by omega), ← hj, cel_at c hlt]
  show some (Value.int .u8 (f (o + j))) = _
  rw [hf j hlt]
theorem row_new (w : World) (c : Blk) (t : TypeId) : (w.alloc (.cells (cel c).toArray t)).rowIs w.heap.size t 64 (fun j => .int .u8 (byt c j)) := by
  have h := World.rowIs_alloc w (cel c).toArray t (fun j => .int .u8 (byt c j)) (fun i hi => by
    have : i < 64 := by simpa [cel_length] using hi
    simpa using cel_at c this)
  simpa [cel_length] using h
theorem blk_setCells (b : Nat) : ∀ (vs : List Value) (o : Nat) (w : World) (k : Nat), k ≠ b → (w.setCells b o vs).heap[k]? = w.heap[k]?
  | [], _, _, _, _ => rfl
  | v :: r, o, w, k, h => by
    rw [World.setCells, blk_setCells b r (o + 1) _ k h]
    exact heap_setCell_other w ⟨b, o, none⟩ k v h
theorem heap_setCells (b : Nat) : ∀ (vs : List Value) (o : Nat) (w : World), (w.setCells b o vs).heap.size = w.heap.size ∧ (w.setCells b o vs).os = w.os ∧ (w.setCells b o vs).tape = w.tape ∧ (w.setCells b o vs).output = w.output
  | [], _, _ => ⟨rfl, rfl, rfl, rfl⟩
  | v :: r, o, w => by
    have h := heap_setCells b r (o + 1) (w.setCell ⟨b, o, none⟩ v)
    rw [World.setCells]
    refine ⟨h.1.trans ?_, h.2.1.trans rfl, h.2.2.1.trans rfl, h.2.2.2.trans rfl⟩
    simp [World.setCell]
theorem below_setCells {a : World} (h : Below B a w) {b o : Nat} (hb : B ≤ b) (vs : List Value) : Below B a (w.setCells b o vs) := by
  obtain ⟨h1, h2, h3, h4⟩ := heap_setCells b vs o w
  exact ⟨h2.trans h.os, h3.trans h.tape, h4.trans h.output, by rw [h1]; exact h.size, fun k hk => (blk_setCells b vs o w k (by omega)).trans (h.block k hk)⟩
/-- A whole row's content with a block laid into it. -/
def lay (f : Nat → Int) (o : Nat) (c : Blk) : Nat → Int := fun j => if o ≤ j ∧ j < o + 64 then byt c (j - o) else f j
end

theorem cel_set (c : Blk) {r : Nat} (hr : r < 64) (u : UInt8) : (cel c).set r (.int .u8 (u.toNat : Int)) = cel (c.set r u) := by
  unfold cel
  rw [← List.map_set, Vector.toList_set]
end Go.Proofs.Ytpcdcnnnkblhiaa
