import Derived.Below
import Derived.Laws.OwnMore
import Derived.Deep.Draws
import Derived.Laws.Rows
import Derived.OwnWalk
import Derived.Deep.OwnRows
import Derived.Test.YtdmhelalbemlcaaRows
import Derived.WalkKit
import Derived.ProofKit
import Derived.OpenShut
import Derived.ShutString
import Derived.ChangeOld
import Derived.SizedLaws
import Derived.JoinedCond
import Derived.Test.YtdmhelalbemlcaaProg
import Derived.RegionTactic
import Derived.ChangeAlike
import Derived.Deep.QuietTactic
import Derived.BigQuiet
import Derived.Lib.Hide
import Derived.WalkLawsBesides
import Derived.WalkSpells
import Derived.Lib.SmallJoins
import Derived.Deep.MidRow
import Derived.Deep.Quiet
import Derived.Laws.StructEq
import Derived.Laws.IdiomCopy
import Derived.Laws.NewBlocks
import Derived.Laws.CopyOwn
import Derived.Laws.BitsAllLaws
import Derived.IntWalk
import Derived.Laws.AppendOwn
import Derived.Laws.AppendOwnNone
import Derived.StillTailTactics
import Derived.Deep.WholeRow
import Derived.OrdersHeld
import Derived.Test.YtdmhelalbemlcaaSnZ
namespace Go.Proofs.Ytdmhelalbemlcaa
open Go.RowKit
set_option maxRecDepth 100000
def bt (l : List UInt8) (k : Nat) : Int := ((l.getD k 0).toNat : Int)
theorem bt_get {l : List UInt8} {k : Nat} (h : k < l.length) : bt l k = (l[k].toNat : Int) := by
  unfold bt
  simp [List.getD, List.getElem?_eq_getElem h]
theorem bdn {B : Nat} {a w : World} (h : Below B a w) (k : Nat) : Below B a (w.drewN k) := ⟨h.os, h.tape, h.output, h.size, h.block⟩
theorem bd {B : Nat} {a w : World} (h : Below B a w) : Below B a w.drew := ⟨h.os, h.tape, h.output, h.size, h.block⟩
theorem ret_bool {a b : Bool} (h : a = b) : Ending.returned (.bool a) = .returned (.bool b) := by rw [h]
theorem ret_int {k : IntKind} {a b : Int} (h : a = b) : Ending.returned (.int k a) = .returned (.int k b) := by rw [h]
open Go.RowKit Go.ChangeShapes Go.WideShapes Go.ChangeAt
theorem own_knob : ownKnob Try.prog.godebug = none := by kernel_rfl
theorem laid_out : laidOutB Try.prog = true := by kernel_rfl
def val (w : Nat) : List UInt8 → Nat
  | [] => 0
  | u :: r => u.toNat + 2 ^ w * val w r
def digL (w n V : Nat) : List UInt8 := (List.range n).map fun j => UInt8.ofNat (V / 2 ^ (w * j) % 2 ^ w)
open Go.RowKit Go.ChangeShapes Go.WideShapes Go.ChangeAt Go.Deep Go.Joins
section
variable {H : Type} {enc : TypeId × Value → H} {W : World} {base : Nat} {v : Value} {d : DataW H} {p : List MemPlace}
theorem one_intG {m : Nat} {x : Value} {y : DataW H × List MemPlace} (h : DataW.trod enc Try.prog W 0 (fun _ => true) true m 3 [x] = some y) : ∃ k : Int, x = .int .i64 k := by
  obtain ⟨k, e, _, hw⟩ := DataW.trod_int Try.underlying3 h
  injection e with e
  exact ⟨k, e⟩
theorem open_geo (hv : Value.okWide Try.prog W .any base 23 v) (h : DataW.Trod enc Try.prog W 0 (fun _ => true) true 23 v d p) : ∃ m s r : Int, v = .agg #[.int .i64 m, .int .i64 s, .int .i64 r] := by
  obtain ⟨v0, v1, v2, y0, y1, y2, n, rfl, _, _, h0, h1, h2⟩ := open_agg3 Try.underlying23 (by kernel_rfl) (by kernel_rfl) hv h
  obtain ⟨a, rfl⟩ := one_intG h0
  obtain ⟨b, rfl⟩ := one_intG h1
  obtain ⟨c, rfl⟩ := one_intG h2
  exact ⟨a, b, c, rfl⟩
end
set_option linter.unusedVariables false
abbrev Blk := Vector UInt8 64
def zeroB : Blk := Vector.replicate 64 0
def cel (b : Blk) : List Value := b.toList.map fun u => .int .u8 (u.toNat : Int)
def blk (b : Blk) : Value := .agg (cel b).toArray
def byt (b : Blk) (j : Nat) : Int := bt b.toList j
theorem byt_get (b : Blk) {j : Nat} (h : j < 64) : byt b j = (b[j].toNat : Int) := by
  unfold byt
  rw [bt_get (by simpa using h)]
  simp
theorem bz (b : Blk) : (cel b).length = 64 := by simp [cel]
theorem cel_at (b : Blk) {j : Nat} (h : j < 64) : (cel b)[j]? = some (.int .u8 (byt b j)) := by
  rw [byt_get b h]
  simp [cel, h]
theorem cel_one (b : Blk) : ∀ v ∈ cel b, v.oneCell' = true := by
  intro v hv
  simp only [cel, List.mem_map] at hv
  obtain ⟨u, _, rfl⟩ := hv
  rfl
theorem cells_blk (b : Blk) : (blk b).cells = (cel b).toArray := rfl
theorem infoB : (Try.prog.info? 50).map (fun i => (i.zero, i.size, i.bytes)) = some (some (blk zeroB), 64, 64) := by kernel_rfl
theorem undB : Try.prog.underlying 50 = some (.array 64 5) := Try.underlying50
theorem sizeB : (Try.prog.info? 50).map (·.size) = some 64 := by kernel_rfl
section
variable {w : World} {b off : Nat} {c : Blk}
theorem run_load (hc : w.rangeAt b off (cel c)) : (Instr.loadAt 50 (.pointer (some ⟨b, off, none⟩))).run Try.prog w = .ok (blk c) w :=
  run_loadAt_mid w b off 50 (cel c) _ hc undB rfl (by rw [bz]; exact sizeB)
theorem run_store (ht : w.there b off 64) : (Instr.storeAt 50 (.pointer (some ⟨b, off, none⟩)) (blk c)).run Try.prog w = .ok () (w.setCells b off (cel c)) := by
  have := run_storeAt_mid (P := Try.prog) w b off 50 (cel c).toArray (by simpa [bz] using ht) (by simpa [bz] using sizeB) (all_oneCell_toArray (cel_one c))
  simpa [blk] using this
theorem run_zeroB (w : World) : (zeroValue 50).run Try.prog w = .ok (blk zeroB) w := by
  have h := infoB
  cases hq : Try.prog.info? 50 with
  | none => rw [hq] at h; cases h
  | some i =>
    rw [hq] at h
    simp only [Option.map_some, Option.some.injEq, Prod.mk.injEq] at h
    simp [zeroValue, typeInfo, hq, h.1]
theorem run_newVar (w : World) (v : Value) : (newVar 50 v).run Try.prog w = .ok ⟨w.heap.size, 0, none⟩ (w.alloc (.cells v.cells 50)) := by
  simp [newVar, newRow]
theorem run_box (w : World) (c : Blk) : (Instr.box 50 (blk c)).run Try.prog w = .ok (.pointer (some ⟨w.heap.size, 0, none⟩)) (w.alloc (.cells (cel c).toArray 50)) := by
  simp [Instr.box, run_newVar, cells_blk]
end
structure LC where
  kn : Bool
  dt : Bool
  b : Blk
def lc0 : LC := ⟨false, false, zeroB⟩
structure LnS where
  l : List LC
  f : Nat
def lnAt (s : LnS) (k : Nat) : LC := s.l.getD k lc0
def lnR (s : LnS) (m : Int) : Bool := decide (0 ≤ m) && decide (m < (s.l.length : Int))
def minF (f q : Nat) : Nat := if f = 0 ∨ q < f then q else f
def lnE (s : LnS) (m : Int) : Int := if lnR s m then 0 else 2
def lnSE (s : LnS) (m : Int) (q : Nat) : Int := if lnR s m && !decide (q = 0) then 0 else 2
def bv (s : LnS) (m : Int) (b : Blk) (q : Nat) : LnS := if lnR s m && !decide (q = 0) then ⟨s.l.set m.toNat ⟨true, true, b⟩, minF s.f q⟩ else s
def lnFrg (s : LnS) (m : Int) : LnS := if lnR s m then ⟨s.l.set m.toNat lc0, s.f⟩ else s
def lcC (c : LC) : LC := { c with dt := false }
def lnCln (s : LnS) : LnS := ⟨s.l.map lcC, 0⟩
def drtN (l : List LC) : Nat → List Int
  | 0 => []
  | n + 1 => drtN l n ++ (if (l.getD n lc0).dt then [(n : Int)] else [])
def lnD (s : LnS) : List Int := drtN s.l s.l.length
def lstN (L : List Int) : Nat → Nat
  | 0 => 0
  | n + 1 => minF (lstN L n) (L.getD n 0).toNat
structure LnOk (s : LnS) : Prop where
  lo : 1 ≤ s.l.length
  hi : s.l.length ≤ 16
  fb : s.f < 18446744073709551616
  no : ∀ k, k < s.l.length → (lnAt s k).kn = false → lnAt s k = lc0
def bH (n : Nat) : LnS := ⟨List.replicate n lc0, 0⟩
theorem minF_lt {f q B : Nat} (hf : f < B) (hq : q < B) : minF f q < B := by unfold minF; split <;> omega
theorem getD_set_ {α : Type} (l : List α) (k j : Nat) (a d : α) (hk : k < l.length) : (l.set k a).getD j d = if j = k then a else l.getD j d := by
  by_cases e : j = k
  · subst e; rw [if_pos rfl]; simp [List.getD, hk]
  · rw [if_neg e]; simp only [List.getD]; rw [List.getElem?_set_ne (by omega)]
section
variable {s : LnS} {m : Int} {b : Blk} {q n : Nat}
theorem lnR_of (h : lnR s m = true) : 0 ≤ m ∧ m < (s.l.length : Int) := by unfold lnR at h; simpa using h
theorem lnR_nat {k : Nat} (h : k < s.l.length) : lnR s (k : Int) = true := by unfold lnR; simp [h]
theorem lnOk_set {a : LC} {f : Nat} (h : LnOk s) (k : Nat) (ha : a.kn = false → a = lc0) (hf : f < 18446744073709551616) : LnOk ⟨s.l.set k a, f⟩ := by
  refine ⟨by rw [List.length_set]; exact h.lo, by rw [List.length_set]; exact h.hi, hf, fun j hj hn => ?_⟩
  rw [List.length_set] at hj
  unfold lnAt at hn ⊢
  by_cases hk : k < s.l.length
  · rw [getD_set_ _ _ _ _ _ hk] at hn ⊢
    by_cases e : j = k
    · rw [if_pos e] at hn ⊢; exact ha hn
    · rw [if_neg e] at hn ⊢; exact h.no j hj hn
  · have e : s.l.set k a = s.l := List.set_eq_of_length_le (by omega)
    simp only [e] at hn ⊢
    exact h.no j hj hn
theorem LnOk.set (h : LnOk s) (m : Int) (b : Blk) (hq : q < 18446744073709551616) : LnOk (bv s m b q) := by
  unfold bv
  split
  · exact lnOk_set h _ (fun e => by cases e) (minF_lt h.fb hq)
  · exact h
theorem LnOk.frg (h : LnOk s) (m : Int) : LnOk (lnFrg s m) := by
  unfold lnFrg
  split
  · exact lnOk_set h _ (fun _ => rfl) h.fb
  · exact h
theorem map_at (k : Nat) : lnAt (lnCln s) k = lcC (lnAt s k) := by
  unfold lnAt lnCln
  simp only [List.getD, List.getElem?_map]
  cases s.l[k]? <;> rfl
theorem LnOk.cln (h : LnOk s) : LnOk (lnCln s) := by
  refine ⟨by simp [lnCln]; exact h.lo, by simp [lnCln]; exact h.hi, by simp [lnCln], fun k hk hn => ?_⟩
  rw [map_at] at hn ⊢
  have hk' : k < s.l.length := by simpa [lnCln] using hk
  rw [h.no k hk' hn]
  rfl
theorem LnOk.new (h1 : 1 ≤ n) (h2 : n ≤ 16) : LnOk (bH n) := by
  refine ⟨by simp [bH]; exact h1, by simp [bH]; exact h2, by simp [bH], fun k hk _ => ?_⟩
  have hk' : k < n := by simpa [bH] using hk
  simp [lnAt, bH, List.getD, hk']
theorem len_set (m : Int) (b : Blk) (q : Nat) : (bv s m b q).l.length = s.l.length := by unfold bv; split <;> simp
theorem len_frg (m : Int) : (lnFrg s m).l.length = s.l.length := by unfold lnFrg; split <;> simp
theorem len_cln : (lnCln s).l.length = s.l.length := by simp [lnCln]
theorem drtN_clean {l : List LC} {n : Nat} (h : ∀ k, k < n → (l.getD k lc0).dt = false) : drtN l n = [] := by
  induction n with
  | zero => rfl
  | succ n ih => rw [drtN, ih fun k hk => h k (by omega), h n (by omega)]; rfl
theorem lnD_new (n : Nat) : lnD (bH n) = [] := drtN_clean fun k hk => by
  have hk' : k < n := by simpa [bH] using hk
  simp [bH, List.getD, hk', lc0]
theorem lnD_cln : lnD (lnCln s) = [] := drtN_clean fun k hk => by
  have := map_at (s := s) k
  unfold lnAt at this
  rw [this]
  rfl
end
section
variable {s : LnS} {m : Int} {b : Blk} {q k : Nat}
theorem lnR_get (h : lnR s m = true) : ∃ k : Nat, m = (k : Int) ∧ k < s.l.length := by
  have := lnR_of h
  exact ⟨m.toNat, by omega, by omega⟩
theorem lnE_no (h : lnR s m = false) : lnE s m = 2 := by unfold lnE; rw [h]; rfl
theorem lnE_ok (h : k < s.l.length) : lnE s (k : Int) = 0 := by unfold lnE; rw [lnR_nat h]; rfl
theorem lnSE_no (h : lnR s m = false) : lnSE s m q = 2 := by unfold lnSE; rw [h]; rfl
theorem lnSE_0 : lnSE s m 0 = 2 := by unfold lnSE; cases lnR s m <;> rfl
theorem lnSE_ok (h : k < s.l.length) (hq : q ≠ 0) : lnSE s (k : Int) q = 0 := by unfold lnSE; rw [lnR_nat h, decide_eq_false hq]; rfl
theorem lnSet_no (h : lnR s m = false) : bv s m b q = s := by unfold bv; rw [h]; rfl
theorem lnSet_0 : bv s m b 0 = s := by unfold bv; cases lnR s m <;> rfl
theorem lnSet_ok (h : k < s.l.length) (hq : q ≠ 0) : bv s (k : Int) b q = ⟨s.l.set k ⟨true, true, b⟩, minF s.f q⟩ := by unfold bv; rw [lnR_nat h, decide_eq_false hq, Int.toNat_natCast]; rfl
theorem lnFrg_no (h : lnR s m = false) : lnFrg s m = s := by unfold lnFrg; rw [h]; rfl
theorem lnFrg_ok (h : k < s.l.length) : lnFrg s (k : Int) = ⟨s.l.set k lc0, s.f⟩ := by unfold lnFrg; rw [lnR_nat h, Int.toNat_natCast]; rfl
end
def piece (b : List UInt8) (at_ k : Nat) : List UInt8 := (b.drop at_).take k
theorem piece_mid (x y z : List UInt8) {p k : Nat} (hp : x.length = p) (hk : y.length = k) : piece (x ++ (y ++ z)) p k = y := by
  subst hp hk
  simp [piece]
def stp (r : Nat) : Nat := if r % 2 = 1 then r / 2 ^^^ 2197175160 else r / 2
def steps : Nat → Nat → Nat
  | 0, r => r
  | n + 1, r => steps n (stp r)
def tak (r c : Nat) : Nat := steps 8 (r ^^^ c)
def run (r : Nat) (l : List UInt8) : Nat := l.foldl (fun r u => tak r u.toNat) r
def negm (m r : Nat) : Nat := m ^^^ r
def neg (r : Nat) : Nat := negm 4294967295 r
def more (s : Nat) (l : List UInt8) : Nat := neg (run (neg s) l)
section
variable {ρ : Operand → Value} {o : Oper} {x y : Operand} {w : World} {t r : TypeId} {i : Nat} {p q : Value}
theorem exec_move (ho : o.op = .move x) : (execOp ρ o).run Try.prog w = .ok (.value (ρ x)) w := by
  unfold execOp
  simp only [ho, Sem.run_pure]
theorem exec_assign (ho : o.op = .assign x) : (execOp ρ o).run Try.prog w = .ok (.value (ρ x)) w := by
  unfold execOp
  simp only [ho, Sem.run_pure]
theorem exec_call {f : FuncId} {args : List Operand} {ats : Array TypeId} {a : Act} (hf : ∀ args w, (callFunc f args).run Try.prog w = .ok (.enter f args) w) (ho : o.op = .call { callee := .value (.func f), args := args.toArray, argTypes := ats }) :
    (execOp a.eval o).run Try.prog w = .ok (.enter f (args.map a.eval).toArray) w := by
  unfold execOp
  simp [ho, resolve, Deferred.ofValue, Act.eval, invoke, hf]
theorem ai (ho : o.op = .fieldAddr t x i) (hx : ρ x = p) (h : (Instr.fieldAt t p i).run Try.prog w = .ok q w) : (execOp ρ o).run Try.prog w = .ok (.value q) w := by
  unfold execOp
  simp only [ho, hx, Sem.run_bind, h, Result.andThen_ok, Sem.run_pure]
theorem aq (ho : o.op = .load t x) (hx : ρ x = p) (h : (Instr.loadAt t p).run Try.prog w = .ok q w) : (execOp ρ o).run Try.prog w = .ok (.value q) w := by
  unfold execOp
  simp only [ho, hx, Sem.run_bind, h, Result.andThen_ok, Sem.run_pure]
theorem exec_ix (ho : o.op = .indexAddr t x y) {u : Value} (hx : ρ x = p) (hy : ρ y = u) (h : (Instr.indexAt t p u).run Try.prog w = .ok q w) : (execOp ρ o).run Try.prog w = .ok (.value q) w := by
  unfold execOp
  simp only [ho, hx, hy, Sem.run_bind, h, Result.andThen_ok, Sem.run_pure]
theorem ao {b off : Nat} (ho : o.op = .nilCheck x) (hx : ρ x = .pointer (some ⟨b, off, none⟩)) : (execOp ρ o).run Try.prog w = .ok (.value (.pointer (some ⟨b, off, none⟩))) w := by
  unfold execOp
  simp only [ho, hx, Sem.run_pure]
theorem bi {u : Value} {w' : World} (ho : o.op = .store t x y) (hx : ρ x = p) (hy : ρ y = u) (h : (Instr.storeAt t p u).run Try.prog w = .ok () w') : (execOp ρ o).run Try.prog w = .ok .skip w' := by
  unfold execOp
  simp only [ho, hx, hy, Sem.run_bind, h, Result.andThen_ok, Sem.run_pure]
theorem bf {a b c : Int} (ho : o.op = .binOp .add t x y r) (hx : ρ x = .int .i64 a) (hy : ρ y = .int .i64 b) (h : IntKind.i64.wrap (a + b) = c) : (execOp ρ o).run Try.prog w = .ok (.value (.int .i64 c)) w := by
  unfold execOp
  simp [ho, hx, hy, eqGuard, binOp, Op.intArith, h]
theorem exec_mul {a b c : Int} (ho : o.op = .binOp .mul t x y r) (hx : ρ x = .int .i64 a) (hy : ρ y = .int .i64 b) (h : IntKind.i64.wrap (a * b) = c) : (execOp ρ o).run Try.prog w = .ok (.value (.int .i64 c)) w := by
  unfold execOp
  simp [ho, hx, hy, eqGuard, binOp, Op.intArith, h]
end
section
variable {P : Program} {ops : Array Oper} {rest : List Oper} {o : Oper} {a : Act} {w w' : World} {Q : Exit → Act → World → Prop} {v : Value}
theorem ak (hw : Region.wanted o (yielded ops a.tmps) = true) (h : (execOp a.eval o).run P w = .ok (.value v) w') (hr : wpList P ops Q rest (a.put o.dst v) w') : wpList P ops Q (o :: rest) a w := by
  refine wpList_step fun K hK => ?_
  rw [if_pos hw]
  unfold Oper.wp
  rw [h]
  exact hK _ _ hr
theorem wpList_nul (hw : Region.wanted o (yielded ops a.tmps) = true) (h : (execOp a.eval o).run P w = .ok .skip w') (hr : wpList P ops Q rest (a.put o.dst undef) w') : wpList P ops Q (o :: rest) a w := by
  refine wpList_step fun K hK => ?_
  rw [if_pos hw]
  unfold Oper.wp
  rw [h]
  exact hK _ _ hr
end
section
variable {P : Program} {ops : Array Oper} {rest : List Oper} {o : Oper} {a : Act} {w w' : World} {Q : Exit → Act → World → Prop} {v : Value}
theorem af (hg : o.guard = none) (h : (execOp a.eval o).run P w = .ok (.value v) w') (hr : wpList P ops Q rest (a.put o.dst v) w') : wpList P ops Q (o :: rest) a w := ak (by unfold Region.wanted; rw [hg]) h hr
theorem aA (hg : o.guard = none) (h : (execOp a.eval o).run P w = .ok .skip w') (hr : wpList P ops Q rest (a.put o.dst undef) w') : wpList P ops Q (o :: rest) a w := wpList_nul (by unfold Region.wanted; rw [hg]) h hr
theorem aj {f : FuncId} {vs : Array Value} (hw : Region.wanted o (yielded ops a.tmps) = true) (h : (execOp a.eval o).run P w = .ok (.enter f vs) w) (hc : Calls P f vs w fun e w' => ∃ v, e = .returned v ∧ wpList P ops Q rest (a.put o.dst v) w') : wpList P ops Q (o :: rest) a w := by
  refine wpList_step fun K hK => ?_
  rw [if_pos hw]
  unfold Oper.wp
  rw [h]
  exact hc.mono fun e w'' ⟨v, he, hk⟩ => by subst he; exact hK _ _ hk
end
theorem aN {B : Nat} {id : Nat} {Q : Exit → Act → World → Prop} {a : Act} {w : World} {l : List Oper} (hB : Region.lexB .any l.toArray = true)
    (h : wpQuiet Try.prog l.toArray (Below B w) (fun a' => ∀ w', Below B w w' → Q .normal a' w') l a) : (Code.region id l.toArray true).wp Try.prog Q a w :=
  wp_region_quiet (C := Below B w) (by kernel_rfl) hB (bd (Below.refl B w)) (by simpa using h)
section
variable {P : Program} {ops : Array Oper} {C : World → Prop} {Q : Act → Prop} {a : Act} {o : Oper} {rest : List Oper} {v : Value}
theorem av (hw : Region.wanted o (yielded ops a.tmps) = true) (h : ∀ w, C w → (execOp a.eval o).run P w = .ok (.value v) w) (hr : wpQuiet P ops C Q rest (a.put o.dst v)) : wpQuiet P ops C Q (o :: rest) a :=
  wpQuiet_step fun K hK => by
    rw [if_pos hw]
    exact ⟨v, fun w hC => by unfold Oper.quietAt; rw [h w hC]; exact ⟨rfl, rfl⟩, hK _ hr⟩
theorem qv_call {f : FuncId} {vs : Array Value} (hw : Region.wanted o (yielded ops a.tmps) = true) (h : ∀ w, (execOp a.eval o).run P w = .ok (.enter f vs) w) (hc : ∀ w, C w → Calls P f vs w fun e w'' => e = .returned v ∧ C w'') (hr : wpQuiet P ops C Q rest (a.put o.dst v)) : wpQuiet P ops C Q (o :: rest) a :=
  wpQuiet_step fun K hK => by
    rw [if_pos hw]
    exact ⟨v, fun w hC => by unfold Oper.quietAt; rw [h w]; exact ⟨rfl, hc w hC⟩, hK _ hr⟩
end
section
variable {P : Program} {ops : Array Oper} {w : World} {Q : Act → Prop} {a : Act} {o : Oper} {rest : List Oper} {v : Value}
theorem aF (hw : Region.wanted o (yielded ops a.tmps) = true) (h : (execOp a.eval o).run P w = .ok (.value v) w) (hr : wpStill P ops w Q rest (a.put o.dst v)) : wpStill P ops w Q (o :: rest) a :=
  wpStill_step fun K hK => by
    rw [if_pos hw]
    unfold Oper.still
    rw [h, Oper.stillUpon_value]
    exact hK _ hr
end
section
variable {P : Program} {md : Region.Mode} {l : List Oper} {Q : Exit → Act → World → Prop} {S : World → Prop} {fuel : Nat} {listed : Array Bool} {a : Act} {w : World} {o : Oper} {v : Value}
theorem au (i : Nat) (hi : l[i]? = some o) (hs : Region.noSelect l.toArray = true) (hf : Region.free md l.toArray listed i = true) (hr : (Region.ready md l.toArray listed).contains i = true)
    (hw : Region.wanted o (yielded l.toArray a.tmps) = true) (h : ∀ w, S w → (execOp a.eval o).run P w = .ok (.value v) w) (hQ : ∀ c a w, Q (.panic c) (a.put o.dst v) w → Q (.panic c) a w) (hS : S w)
    (hk : wpAnyH P md l.toArray Q S fuel (listed.setIfInBounds i true) (a.put o.dst v) w) : wpAnyH P md l.toArray Q S (fuel + 1) listed a w :=
  wpAnyH_take (by simpa using hi) hs hf hr hQ (.inl ⟨hw, h⟩) hS hk
theorem held_call (i : Nat) {f : FuncId} {vs : Array Value} (hi : l[i]? = some o) (hr : Region.ready md l.toArray listed = [i]) (hw : Region.wanted o (yielded l.toArray a.tmps) = true) (h : (execOp a.eval o).run P w = .ok (.enter f vs) w)
    (hc : Calls P f vs w fun e w' => ∃ v, e = .returned v ∧ S w' ∧ wpAnyH P md l.toArray Q S fuel (listed.setIfInBounds i true) (a.put o.dst v) w') : wpAnyH P md l.toArray Q S (fuel + 1) listed a w :=
  wpAnyH_all hr (by simp) fun j hj => by
    obtain rfl : j = i := by simpa using hj
    unfold wpOp
    simp only [List.getElem?_toArray, hi, hw, if_true]
    refine .inl ?_
    unfold Oper.wp
    rw [h]
    exact hc.mono fun e w' ⟨v, he, hk⟩ => by subst he; exact hk
theorem bS (i : Nat) {w' : World} (hi : l[i]? = some o) (hr : Region.ready md l.toArray listed = [i]) (hw : Region.wanted o (yielded l.toArray a.tmps) = true) (h : (execOp a.eval o).run P w = .ok .skip w')
    (hS : S w') (hk : wpAnyH P md l.toArray Q S fuel (listed.setIfInBounds i true) (a.put o.dst undef) w') : wpAnyH P md l.toArray Q S (fuel + 1) listed a w :=
  wpAnyH_all hr (by simp) fun j hj => by
    obtain rfl : j = i := by simpa using hj
    unfold wpOp
    simp only [List.getElem?_toArray, hi, hw, if_true]
    refine .inl ?_
    unfold Oper.wp
    rw [h]
    exact ⟨hS, hk⟩
end
section
variable {ρ : Operand → Value} {o : Oper} {x y z : Operand} {w : World} {t r : TypeId} {k : IntKind}
theorem exec_pick_t (ho : o.op = .pick x y z) (hx : ρ x = .bool true) : (execOp ρ o).run Try.prog w = .ok (.value (ρ y)) w := by
  unfold execOp
  simp [ho, hx, asBool]
theorem exec_pick_f (ho : o.op = .pick x y z) (hx : ρ x = .bool false) : (execOp ρ o).run Try.prog w = .ok (.value (ρ z)) w := by
  unfold execOp
  simp [ho, hx, asBool]
theorem aG (b : Bool) (ho : o.op = .unOp .not t x) (hx : ρ x = .bool b) : (execOp ρ o).run Try.prog w = .ok (.value (.bool (!b))) w := by
  unfold execOp
  simp [ho, hx, Op.unary]
theorem ay {a b : Int} (c : Bool) (ho : o.op = .binOp .eql t x y r) (hx : ρ x = .int k a) (hy : ρ y = .int k b) (h : (a == b) = c) : (execOp ρ o).run Try.prog w = .ok (.value (.bool c)) w := by
  unfold execOp
  simp [ho, hx, hy, eqGuard, binOp, Op.intCmp, h]
theorem aE {a b : Int} (c : Bool) (ho : o.op = .binOp .neq t x y r) (hx : ρ x = .int k a) (hy : ρ y = .int k b) (h : (a != b) = c) : (execOp ρ o).run Try.prog w = .ok (.value (.bool c)) w := by
  unfold execOp
  simp [ho, hx, hy, eqGuard, binOp, Op.intCmp, h]
theorem exec_eqBool {a b : Bool} (c : Bool) (ho : o.op = .binOp .eql 4 x y r) (hx : ρ x = .bool a) (hy : ρ y = .bool b) (h : (a == b) = c) : (execOp ρ o).run Try.prog w = .ok (.value (.bool c)) w := by
  have he := run_equalIn_bool' (P := Try.prog) w 9999 4 a b Try.underlying4
  unfold execOp
  simp [ho, hx, hy, eqGuard, binOp, Op.equal, Op.maxDepth, he, h]
end
theorem ev {ts : List Value} {ds : List Deferred} {d : Nat} {v : Value} (h : ts[d]? = some v) : (Act.mk ts.toArray ds).eval (.tmp d) = v := by
  simp [Act.eval, h]
theorem evk {a : Act} {v : Value} : a.eval (.const v) = v := rfl
theorem evc {ρ : Operand → Value} {x : Operand} {xs : List Operand} {v : Value} {vs : List Value} (h : ρ x = v) (hs : xs.map ρ = vs) : (x :: xs).map ρ = v :: vs := by
  rw [List.map_cons, h, hs]
theorem evn {ρ : Operand → Value} : ([] : List Operand).map ρ = [] := rfl
theorem am {l : List Oper} {ts : List Value} {o oj : Oper} {j d : Nat} {b : Bool} (hg : o.guard = some (j, b)) (hj : l[j]? = some oj) (hd : oj.dst = some d) (hv : ts[d]? = some (.bool b)) : Region.wanted o (yielded l.toArray ts.toArray) = true := by
  unfold Region.wanted yielded
  simp [hg, hj, hd, hv]
section
variable {ρ : Operand → Value} {o : Oper} {x y z : Operand} {w : World} {v : Value}
theorem ah (ho : o.op = .move x) (hx : ρ x = v) : (execOp ρ o).run Try.prog w = .ok (.value v) w := by rw [exec_move ho, hx]
theorem al (ho : o.op = .assign x) (hx : ρ x = v) : (execOp ρ o).run Try.prog w = .ok (.value v) w := by rw [exec_assign ho, hx]
theorem aY (ho : o.op = .pick x y z) (hx : ρ x = .bool true) (hy : ρ y = v) : (execOp ρ o).run Try.prog w = .ok (.value v) w := by rw [exec_pick_t ho hx, hy]
theorem bw (ho : o.op = .pick x y z) (hx : ρ x = .bool false) (hz : ρ z = v) : (execOp ρ o).run Try.prog w = .ok (.value v) w := by rw [exec_pick_f ho hx, hz]
theorem ar {f : FuncId} {args : List Operand} {vs : List Value} {ats : Array TypeId} {a : Act} (hf : ∀ args w, (callFunc f args).run Try.prog w = .ok (.enter f args) w) (ho : o.op = .call { callee := .value (.func f), args := args.toArray, argTypes := ats }) (hv : args.map a.eval = vs) :
    (execOp a.eval o).run Try.prog w = .ok (.enter f vs.toArray) w := by rw [exec_call hf ho, hv]
end
theorem above_of {f : FuncId} {vs : Array Value} {w0 : World} {B : Nat} {v : Value} (hB : B ≤ w0.heap.size) (h : ∀ w', Below B w0 w' → Calls Try.prog f vs w' fun e w'' => e = .returned v ∧ Below w'.heap.size w' w'') :
    ∀ w', Below B w0 w' → Calls Try.prog f vs w' fun e w'' => e = .returned v ∧ Below B w0 w'' :=
  fun w' hw => (h w' hw).mono fun _ _ hh => ⟨hh.1, hw.trans (hh.2.mono (Nat.le_trans hB hw.size))⟩
section
variable {ρ : Operand → Value} {o : Oper} {x : Operand} {w : World}
theorem az {i : Nat} {vs : List Value} {v : Value} (ho : o.op = .extract x i) (hx : ρ x = .tuple vs.toArray) (hv : vs[i]? = some v) : (execOp ρ o).run Try.prog w = .ok (.value v) w := by
  have h : (Instr.extract (.tuple vs.toArray) i).run Try.prog w = .ok v w := by simp [Instr.extract, hv]
  unfold execOp
  simp only [ho, hx, Sem.run_bind, h, Result.andThen_ok, Sem.run_pure]
end
def vals (l : List UInt8) : List Value := l.map fun u => .int .u8 (u.toNat : Int)
section
variable {w w' : World} {B b o n : Nat} {cs : List Value}
theorem range_new (w : World) (cs : List Value) (t : TypeId) : (w.alloc (.cells cs.toArray t)).rangeAt w.heap.size 0 cs := fun j v hj => by
  rw [cell_of_row _ _ (0 + j) cs.toArray t (0, 0) (heap_alloc_new w _)]
  simpa using hj
theorem blk_setCells (b : Nat) : ∀ (vs : List Value) (o : Nat) (w : World) (k : Nat), k ≠ b → (w.setCells b o vs).heap[k]? = w.heap[k]?
  | [], _, _, _, _ => rfl
  | v :: r, o, w, k, h => by
    rw [World.setCells, blk_setCells b r (o + 1) _ k h]
    exact heap_setCell_other w ⟨b, o, none⟩ k v h
theorem heap_setCells (b : Nat) : ∀ (vs : List Value) (o : Nat) (w : World), (w.setCells b o vs).heap.size = w.heap.size ∧ (w.setCells b o vs).os = w.os ∧ (w.setCells b o vs).tape = w.tape ∧ (w.setCells b o vs).output = w.output
  | [], _, _ => ⟨rfl, rfl, rfl, rfl⟩
  | v :: r, o, w => by
    have h := heap_setCells b r (o + 1) (w.setCell ⟨b, o, none⟩ v)
    rw [World.setCells]
    refine ⟨h.1.trans ?_, h.2.1.trans rfl, h.2.2.1.trans rfl, h.2.2.2.trans rfl⟩
    simp [World.setCell]
theorem below_setCells {a : World} (h : Below B a w) {b o : Nat} (hb : B ≤ b) (vs : List Value) : Below B a (w.setCells b o vs) := by
  obtain ⟨h1, h2, h3, h4⟩ := heap_setCells b vs o w
  exact ⟨h2.trans h.os, h3.trans h.tape, h4.trans h.output, by rw [h1]; exact h.size, fun k hk => (blk_setCells b vs o w k (by omega)).trans (h.block k hk)⟩
end
section
variable {ρ : Operand → Value} {o : Oper} {x y : Operand} {w : World} {b off : Nat} {c d : Blk}
theorem exec_load (ho : o.op = .load 50 x) (hx : ρ x = .pointer (some ⟨b, off, none⟩)) (hc : w.rangeAt b off (cel c)) : (execOp ρ o).run Try.prog w = .ok (.value (blk c)) w := by
  unfold execOp
  simp only [ho, hx, Sem.run_bind, run_load hc, Result.andThen_ok, Sem.run_pure]
theorem exec_store (ho : o.op = .store 50 x y) (hx : ρ x = .pointer (some ⟨b, off, none⟩)) (hy : ρ y = blk c) (ht : w.there b off 64) : (execOp ρ o).run Try.prog w = .ok .skip (w.setCells b off (cel c)) := by
  unfold execOp
  simp only [ho, hx, hy, Sem.run_bind, run_store ht, Result.andThen_ok, Sem.run_pure]
theorem exec_box (ho : o.op = .box 50 x) (hx : ρ x = blk c) : (execOp ρ o).run Try.prog w = .ok (.value (.pointer (some ⟨w.heap.size, 0, none⟩))) (w.alloc (.cells (cel c).toArray 50)) := by
  unfold execOp
  simp only [ho, hx, Sem.run_bind, run_box, Result.andThen_ok, Sem.run_pure]
theorem run_build {parts : List (Nat × Value)} (h : Instr.fill (fun i => some (i * 1, 1)) (cel zeroB).toArray parts = some (cel c).toArray) (w : World) : (Instr.build 50 parts.toArray).run Try.prog w = .ok (blk c) w := by
  simp only [Instr.build, Sem.run_bind, run_zeroB, run_underlying undB, Result.andThen_ok, Try.sizeOf5, cells_blk, h, Sem.run_pure]
  rfl
theorem exec_build {parts : List (Nat × Operand)} (ho : o.op = .build 50 parts.toArray) (h : Instr.fill (fun i => some (i * 1, 1)) (cel zeroB).toArray (parts.map fun (i, x) => (i, ρ x)) = some (cel c).toArray) : (execOp ρ o).run Try.prog w = .ok (.value (blk c)) w := by
  unfold execOp
  simp only [ho, List.map_toArray, Sem.run_bind, run_build h, Result.andThen_ok, Sem.run_pure]
end
def padL (b : List UInt8) : List UInt8 := b ++ List.replicate (44 - b.length) 0
section
variable {n : Nat} {b : List UInt8} (hb : b.length ≤ 44)
include hb
end
structure Ros where
  m : Int
  s : Int
  r : Int
  st : Vector UInt8 16
  cur : Int
  gone : Bool
deriving DecidableEq
def geoB (x : Ros) : Bool := decide (3 ≤ x.m ∧ x.m ≤ 16 ∧ 1 ≤ x.s ∧ x.s ≤ 64 ∧ 40 ≤ x.r ∧ x.r ≤ 256)
theorem of_geoB {x : Ros} (h : geoB x = true) : 3 ≤ x.m ∧ x.m ≤ 16 ∧ 1 ≤ x.s ∧ x.s ≤ 64 ∧ 40 ≤ x.r ∧ x.r ≤ 256 := of_decide_eq_true h
theorem geoB_iff {x : Ros} : geoB x = true ↔ (3 ≤ x.m ∧ x.m ≤ 16 ∧ 1 ≤ x.s ∧ x.s ≤ 64 ∧ 40 ≤ x.r ∧ x.r ≤ 256) := by unfold geoB; rw [decide_eq_true_iff]
theorem geoB_not {x : Ros} : geoB x = false ↔ ¬(3 ≤ x.m ∧ x.m ≤ 16 ∧ 1 ≤ x.s ∧ x.s ≤ 64 ∧ 40 ≤ x.r ∧ x.r ≤ 256) := by unfold geoB; rw [decide_eq_false_iff_not]
structure Sup where
  id : Nat
  self : Int
  ros : Ros
deriving DecidableEq
def goneN (b : Bool) : Nat := if b then 1 else 0
def bodyL (x : Sup) : List UInt8 :=
  digL 8 8 x.id ++ (digL 8 1 x.ros.m.toNat ++ (digL 8 2 x.ros.s.toNat ++ (digL 8 2 x.ros.r.toNat ++ (digL 8 1 x.self.toNat ++ (digL 8 4 (val 2 x.ros.st.toList) ++ (digL 8 2 x.ros.cur.toNat ++ digL 8 1 (goneN x.ros.gone)))))))
def fullL (x : Sup) : List UInt8 := padL (bodyL x)
section
variable (x : Sup)
private theorem pc (a b c : List UInt8) {p k : Nat} (h : fullL x = a ++ (b ++ c)) (hp : a.length = p) (hk : b.length = k) : piece (fullL x) p k = b := by rw [h]; exact piece_mid _ _ _ hp hk
end
def gz (y : Ros) : Ros := ⟨y.m, y.s, y.r, Vector.replicate 16 0, 0, false⟩
structure Elt (α : Type) where
  s : TypeId
  t : TypeId
  n : Nat
  by_ : Nat
  cel : α → List Value
  d : α
  z : Value
  pos : 0 < n
  small : by_ ≤ 4096
  len : ∀ a, (cel a).length = n
  one : ∀ a, ∀ v ∈ cel a, v.oneCell' = true
  und : Try.prog.underlying s = some (.slice t)
  info : (Try.prog.info? t).map (fun i => (i.zero, i.size, i.bytes)) = some (some z, n, by_)
  zc : z.cells.size = n
section
variable {α : Type} (E : Elt α)
def aO (l : List α) : List Value := l.flatMap E.cel
theorem bP (x : α) (l : List α) : aO E (x :: l) = E.cel x ++ aO E l := rfl
theorem flatE_append (a b : List α) : aO E (a ++ b) = aO E a ++ aO E b := by simp [aO]
theorem aJ (l : List α) : (aO E l).length = l.length * E.n := by
  induction l with
  | nil => simp [aO]
  | cons x l ih => rw [bP, List.length_append, E.len, ih, List.length_cons, Nat.add_mul]; omega
theorem flatE_at (l : List α) {k j : Nat} (hk : k < l.length) (hj : j < E.n) : (aO E l)[k * E.n + j]? = (E.cel (l.getD k E.d))[j]? := by
  induction l generalizing k with
  | nil => simp at hk
  | cons x l ih =>
    rw [bP]
    cases k with
    | zero => rw [Nat.zero_mul, Nat.zero_add, List.getElem?_append_left (by rw [E.len]; exact hj)]; rfl
    | succ k =>
      have e : (k + 1) * E.n + j - E.n = k * E.n + j := by rw [Nat.add_mul]; omega
      rw [List.getElem?_append_right (by rw [E.len, Nat.add_mul]; omega), E.len, e, ih (by simpa using hk)]
      rfl
theorem flatE_one (l : List α) : ∀ v ∈ aO E l, v.oneCell' = true := by
  intro v hv
  simp only [aO, List.mem_flatMap] at hv
  obtain ⟨b, _, hb⟩ := hv
  exact E.one b v hb
def RdE (w : World) (B : Nat) (A : Option Addr) (n : Nat) (l : List α) : Prop :=
  l.length = n ∧ ∀ k, k < n → ∃ b off, A = some ⟨b, off, none⟩ ∧ b < B ∧ w.rangeAt b (off + k * E.n) (E.cel (l.getD k E.d))
def ax (w : World) (base : Nat) (v : Value) (l : List α) : Prop := w.ownsRow base E.t E.n v l.length (aO E l)
end
section
variable {w w' : World} {b o B : Nat} {cs : List Value}
theorem rng_below (h : w.rangeAt b o cs) (hb : b < B) (hw : Below B w w') : w'.rangeAt b o cs := fun j v hj => by
  rw [hw.cell (p := ⟨b, o + j, none⟩) hb]; exact h j v hj
end
section
variable {α : Type} {E : Elt α} {w w' : World} {B B' n : Nat} {A : Option Addr} {l : List α} {v : Value}
theorem RdE.nil (w : World) (B : Nat) (A : Option Addr) : RdE E w B A 0 [] := ⟨rfl, fun k hk => absurd hk (by omega)⟩
theorem RdE.more (h : RdE E w B A n l) (hB : B ≤ B') : RdE E w B' A n l :=
  ⟨h.1, fun k hn => by
    obtain ⟨b, off, e, hb, hc⟩ := h.2 k hn
    exact ⟨b, off, e, by omega, hc⟩⟩
theorem RdE.below (h : RdE E w B A n l) (hb : Below B w w') : RdE E w' B A n l :=
  ⟨h.1, fun k hn => by
    obtain ⟨b, off, e, hlt, hc⟩ := h.2 k hn
    exact ⟨b, off, e, hlt, rng_below hc hlt hb⟩⟩
theorem RdE.step (h : RdE E w w.heap.size A n l) (hb : Below w.heap.size w w') : RdE E w' w'.heap.size A n l := (h.below hb).more hb.size
theorem RdE.alloc (h : RdE E w B A n l) (hN : B ≤ w.heap.size) (o : Obj) : RdE E (w.alloc o) B A n l := h.below ((Below.refl B w).alloc hN o)
theorem RdE.up (h : RdE E w w.heap.size A n l) (o : Obj) : RdE E (w.alloc o) (w.heap.size + 1) A n l := (h.alloc (Nat.le_refl _) o).more (by omega)
theorem rdE_of {g o : Nat} (hg : g < B) (h : ∀ j v, (aO E l)[j]? = some v → w.cell? ⟨g, o + j, none⟩ = some v) : RdE E w B (some ⟨g, o, none⟩) l.length l :=
  ⟨rfl, fun k hk => ⟨g, o, rfl, hg, fun j v hj => by
    have hlt : j < E.n := by have := (List.getElem?_eq_some_iff.1 hj).1; rwa [E.len] at this
    rw [show o + k * E.n + j = o + (k * E.n + j) from by omega]
    exact h _ v (by rw [flatE_at E l hk hlt]; exact hj)⟩⟩
theorem rdE_block {g : Nat} {cs : Array Value} {t : TypeId} (hg : w.heap[g]? = some (.cells cs t (0, 0))) (h : cs.toList = aO E l) (hB : g < B) : RdE E w B (some ⟨g, 0, none⟩) l.length l :=
  rdE_of hB fun j v hj => by
    rw [cell_of_row _ _ (0 + j) cs t (0, 0) hg, Nat.zero_add, ← Array.getElem?_toList, h]
    exact hj
theorem rdE_new (w : World) (cs : Array Value) (t : TypeId) (h : cs.toList = aO E l) : RdE E (w.alloc (.cells cs t)) (w.heap.size + 1) (some ⟨w.heap.size, 0, none⟩) l.length l :=
  rdE_block (heap_alloc_new w _) h (by omega)
theorem cells_of_rdE {N : Nat} {ad : Addr} (h : RdE E w N (some ad) n l) : ∀ (j : Nat) (u : Value), (aO E l)[j]? = some u → w.cell? (ad.add j) = some u := by
  intro j u hu
  have hj : j < l.length * E.n := by have := (List.getElem?_eq_some_iff.1 hu).1; rwa [aJ] at this
  have hk : j / E.n < l.length := Nat.div_lt_of_lt_mul (by rw [Nat.mul_comm]; exact hj)
  have hr : j % E.n < E.n := Nat.mod_lt _ E.pos
  have hd : j / E.n * E.n + j % E.n = j := Nat.div_add_mod' j E.n
  obtain ⟨b, off, e, _, hc⟩ := h.2 (j / E.n) (by have := h.1; omega)
  injection e with e
  subst e
  have hadd : (⟨b, off, none⟩ : Addr).add j = ⟨b, off + j, none⟩ := by unfold Addr.add; split <;> simp_all
  rw [hadd]
  have h2 := flatE_at E l hk (j := j % E.n) hr
  rw [hd, hu] at h2
  have h3 := hc (j % E.n) u h2.symm
  rwa [Nat.add_assoc, hd] at h3
theorem ax.nil (w : World) (B : Nat) : ax E w B (.slice none 0 0) [] := ⟨by simp [aO], .inl ⟨rfl, rfl⟩⟩
theorem ax.form (h : ax E w B v l) : ∃ A c, v = .slice A l.length c ∧ l.length ≤ c ∧ c ≤ maxLen := by
  rcases h.2 with ⟨rfl, h0⟩ | ⟨g, cap, cur, rfl, _, _, h1, h2, _⟩
  · exact ⟨none, 0, by rw [h0], by omega, by simp [maxLen]⟩
  · exact ⟨_, cap, rfl, h1, h2⟩
theorem ax.rd {c : Nat} (h : ax E w B (.slice A n c) l) : RdE E w w.heap.size A n l := by
  rcases h.2 with ⟨hv, h0⟩ | ⟨g, cap, cur, hv, _, hg, _, _, _, ht⟩
  · have hl : l = [] := List.eq_nil_of_length_eq_zero h0
    subst hl
    injection hv with h1 h2 h3
    subst h2
    exact RdE.nil _ _ _
  · injection hv with h1 h2 h3
    subst h1 h2 h3
    refine rdE_of (Array.getElem?_eq_some_iff.1 hg).1 fun j u hu => ?_
    rw [cell_of_row w g (0 + j) cur E.t (0, 0) hg, Nat.zero_add]
    have hj : j < l.length * E.n := by have := (List.getElem?_eq_some_iff.1 hu).1; rwa [aJ] at this
    rw [← ht, List.getElem?_take_of_lt hj] at hu
    simpa using hu
theorem ax.below (h : ax E w B v l) (hb : Below w.heap.size w w') : ax E w' B v l := by
  refine ⟨h.1, ?_⟩
  rcases h.2 with hn | ⟨g, cap, cur, rfl, hbg, hg, rest⟩
  · exact .inl hn
  · exact .inr ⟨g, cap, cur, rfl, hbg, by rw [hb.block g (Array.getElem?_eq_some_iff.1 hg).1]; exact hg, rest⟩
theorem ax.base (h : ax E w B v l) (hb : B' ≤ B) : ax E w B' v l := by
  refine ⟨h.1, ?_⟩
  rcases h.2 with hn | ⟨g, cap, cur, rfl, hbg, rest⟩
  · exact .inl hn
  · exact .inr ⟨g, cap, cur, rfl, Nat.le_trans hb hbg, rest⟩
theorem ax.open_ (h : ax E w B v l) (hn : l.length = n) : ∃ A c, v = .slice A n c ∧ RdE E w w.heap.size A n l ∧ n ≤ c ∧ c ≤ maxLen := by
  subst hn
  obtain ⟨A, c, rfl, h1, h2⟩ := h.form
  exact ⟨A, c, rfl, h.rd, h1, h2⟩
theorem ax.lt_own (h : ax E w B v l) : ∀ k, v.ownBlock = some k → B ≤ k := by
  intro k hk
  rcases h.2 with ⟨rfl, _⟩ | ⟨g, cap, cur, rfl, hbg, _⟩
  · simp [Value.ownBlock] at hk
  · simp [Value.ownBlock] at hk; omega
theorem ax.of_block {g : Nat} {cs : Array Value} (hg : w.heap[g]? = some (.cells cs E.t (0, 0))) (h : cs.toList = aO E l) (hB : B ≤ g) (hl : l.length = n) (hm : n ≤ maxLen) : ax E w B (.slice (some ⟨g, 0, none⟩) n n) l := by
  subst hl
  have hsz : cs.size = l.length * E.n := by rw [← Array.length_toList, h, aJ]
  refine ⟨aJ E l, .inr ⟨g, l.length, cs, rfl, hB, hg, Nat.le_refl _, hm, hsz, ?_⟩⟩
  rw [h, List.take_of_length_le (by rw [aJ]; exact Nat.le_refl _)]
end
theorem ax.kept {α : Type} {E : Elt α} {w w' : World} {B : Nat} {v : Value} {l : List α} {row : Option Nat} (h : ax E w B v l) (hg : w.grownBy w' row) (hne : v.ownBlock = none ∨ v.ownBlock ≠ row) : ax E w' B v l := World.ownsRow.kept h hg hne
theorem run_appEw {α : Type} (E : Elt α) (w : World) (ty B N m c : Nat) (v : Value) (l l' : List α) (A : Option Addr) (hm : ax E w B v l) (hr : RdE E w N A m l') (hB : B ≤ w.heap.size) (hml : l.length + m ≤ maxLen) (hby : (l.length + m) * E.by_ ≤ 140737488355328) :
    ∃ v' w', (Builtin.append_ #[E.s, E.s] ty #[v, .slice A m c]).run Try.prog w = .ok v' w' ∧ ax E w' B v' (l ++ l') ∧ w.grownBy w' v.ownBlock := by
  obtain ⟨i0, hi, hz0, hz1, hz2⟩ := info_parts E.info
  rcases A with _ | ad
  · have h0 : m = 0 := by
      rcases Nat.eq_zero_or_pos m with h | h
      · exact h
      · obtain ⟨b, off, e, _⟩ := hr.2 0 h
        cases e
    subst h0
    have hn : l' = [] := List.eq_nil_of_length_eq_zero hr.1
    subst hn
    refine ⟨v, w, ?_, by rw [List.append_nil]; exact hm, World.grownBy.refl w _⟩
    rcases hm.2 with ⟨rfl, _⟩ | ⟨g, cap, cur, rfl, _, _, hnc, _⟩
    · simp [Builtin.append_, run_underlying E.und, sizeOf, typeInfo, hi, Builtin.lenOf, Builtin.firstCells]
    · simp [Builtin.append_, run_underlying E.und, sizeOf, typeInfo, hi, Builtin.lenOf, Builtin.firstCells, hnc, storeCells]
  · obtain ⟨v', w', h1, h2, h3, _⟩ := run_append_own (P := Try.prog) w B E.s ty E.t i0 E.z E.n E.by_ E.und hi hz0 hz1 hz2 E.zc E.pos v l.length _ hm ad m c (aO E l')
      (by rw [aJ, hr.1]) (cells_of_rdE hr) (flatE_one E l') hml hby hB
    refine ⟨v', w', h1, ?_, h3⟩
    unfold ax
    rw [flatE_append, List.length_append, hr.1]
    exact h2
theorem run_appE {α : Type} (E : Elt α) (w : World) (ty B N m c : Nat) (v : Value) (l l' : List α) (A : Option Addr) (hm : ax E w B v l) (hr : RdE E w N A m l') (hB : B ≤ w.heap.size) (hsum : l.length + m ≤ 34359738368) :
    ∃ v' w', (Builtin.append_ #[E.s, E.s] ty #[v, .slice A m c]).run Try.prog w = .ok v' w' ∧ ax E w' B v' (l ++ l') ∧ w.grownBy w' v.ownBlock :=
  run_appEw E w ty B N m c v l l' A hm hr hB (by unfold maxLen; omega) (Nat.le_trans (Nat.mul_le_mul hsum E.small) (by omega))
theorem wpList_appE {α : Type} (E : Elt α) {w : World} {ops : Array Oper} {rest : List Oper} {o : Oper} {a : Act} {Q : Exit → Act → World → Prop} (hgd : o.guard = none) (s x : Operand)
    (ho : o.op = .call { callee := .builtin .append, args := #[s, x], argTypes := #[E.s, E.s] })
    (B N m c : Nat) (v : Value) (l l' : List α) (A : Option Addr) (hs : a.eval s = v) (hx : a.eval x = .slice A m c) (hm : ax E w B v l) (hr : RdE E w N A m l') (hB : B ≤ w.heap.size) (hsum : l.length + m ≤ 34359738368)
    (h : ∀ v' w', ax E w' B v' (l ++ l') → w.grownBy w' v.ownBlock → wpList Try.prog ops Q rest (a.put o.dst v') w') : wpList Try.prog ops Q (o :: rest) a w := by
  refine wpList_plain hgd fun K hK => ?_
  obtain ⟨v', w', hrun, h1, h2⟩ := run_appE E w o.type B N m c v l l' A hm hr hB hsum
  unfold Oper.wp
  simp [execOp, ho, resolve, invoke, builtin, hs, hx, hrun, Result.andThen]
  exact hK _ _ (h v' w' h1 h2)
theorem put_at (pre post : List Value) : ∀ (vs mid done : List Value), mid.length = vs.length →
    (vs.zipIdx done.length).foldl (fun cs (p : Value × Nat) => cs.setIfInBounds (pre.length + p.2) p.1) (pre ++ done ++ mid ++ post).toArray = (pre ++ done ++ vs ++ post).toArray
  | [], mid, done, h => by
    have : mid = [] := List.eq_nil_of_length_eq_zero h
    subst this
    simp
  | v :: vs, mid, done, h => by
    match mid, h with
    | m :: ms, h =>
      rw [List.zipIdx_cons, List.foldl_cons]
      have hset : (pre ++ done ++ m :: ms ++ post).toArray.setIfInBounds (pre.length + done.length) v = (pre ++ (done ++ [v]) ++ ms ++ post).toArray := by
        rw [List.setIfInBounds_toArray]
        congr 1
        rw [List.append_assoc (pre ++ done), List.set_append_right _ _ (by simp), List.length_append, Nat.sub_self]
        simp
      have := put_at pre post vs ms (done ++ [v]) (by simpa using h)
      rw [List.length_append, List.length_singleton] at this
      show (vs.zipIdx (done.length + 1)).foldl (fun cs (p : Value × Nat) => cs.setIfInBounds (pre.length + p.2) p.1) ((pre ++ done ++ m :: ms ++ post).toArray.setIfInBounds (pre.length + done.length) v) = _
      rw [hset, this]
      simp
theorem fill_one {place : Nat → Option (Nat × Nat)} {i off size : Nat} {v : Value} {pre mid post vs : List Value} {rest : List (Nat × Value)} (hp : place i = some (off, size)) (hv : v.cells = vs.toArray) (hs : vs.length = size) (ho : pre.length = off) (hm : mid.length = size) :
    Instr.fill place (pre ++ mid ++ post).toArray ((i, v) :: rest) = Instr.fill place (pre ++ vs ++ post).toArray rest := by
  subst hs ho
  have hw := put_at pre post vs mid [] hm
  simp only [List.append_nil, List.length_nil] at hw
  rw [Instr.fill, hp]
  have hc : (decide (v.cells.size ≠ vs.length) || decide (pre.length + v.cells.size > (pre ++ mid ++ post).toArray.size)) = false := by
    rw [hv]
    simp [hm]
  show (if (decide (v.cells.size ≠ vs.length) || decide (pre.length + v.cells.size > (pre ++ mid ++ post).toArray.size)) = true then none else _) = _
  rw [hc, if_neg (by simp), hv, ← Array.foldl_toList, Array.toList_zipIdx]
  show Instr.fill place (vs.zipIdx.foldl (fun cs (p : Value × Nat) => cs.setIfInBounds (pre.length + p.2) p.1) (pre ++ mid ++ post).toArray) rest = _
  rw [hw]
section
variable {α : Type} (E : Elt α)
theorem run_sizeE (w : World) : (sizeOf E.t).run Try.prog w = .ok E.n w := by
  obtain ⟨i0, hi, hz0, hz1, hz2⟩ := info_parts E.info
  simp [sizeOf, typeInfo, hi, hz1]
theorem run_zeroE (w : World) : (zeroValue E.t).run Try.prog w = .ok E.z w := by
  obtain ⟨i0, hi, hz0, hz1, hz2⟩ := info_parts E.info
  simp [zeroValue, typeInfo, hi, hz0]
end
section
variable {α : Type} {E : Elt α} {ρ : Operand → Value} {o : Oper} {x y : Operand} {w : World} {b off n c j : Nat} {v : Value} {a : α}
theorem add_mid (b off j : Nat) : (⟨b, off, none⟩ : Addr).add j = ⟨b, off + j, none⟩ := by unfold Addr.add; split <;> simp_all
theorem run_indexE (hj : j < n) : (Instr.indexAt E.s (.slice (some ⟨b, off, none⟩) n c) (.int .i64 (j : Int))).run Try.prog w = .ok (.pointer (some ⟨b, off + j * E.n, none⟩)) w := by
  have h := run_sizeE E w
  simp [Instr.indexAt, asIntOf, run_underlying E.und, add_mid, h, hj]
theorem bg (ho : o.op = .indexAddr E.s x y) (hx : ρ x = .slice (some ⟨b, off, none⟩) n c) (hy : ρ y = .int .i64 (j : Int)) (hj : j < n) : (execOp ρ o).run Try.prog w = .ok (.value (.pointer (some ⟨b, off + j * E.n, none⟩))) w :=
  exec_ix ho hx hy (run_indexE (E := E) hj)
theorem exec_mk1E (ho : o.op = .buildSlice E.s 1 #[(0, x)]) (hx : ρ x = v) (hv : v.cells = (E.cel a).toArray) (hn : E.n ≤ 16777216) :
    (execOp ρ o).run Try.prog w = .ok (.value (.slice (some ⟨w.heap.size, 0, none⟩) 1 1)) (w.alloc (.cells (E.cel a).toArray E.t)) := by
  have hz := run_zeroE E w
  have hs := run_sizeE E w
  have hp := E.pos
  obtain ⟨zs, hzs⟩ : ∃ zs : List Value, (Array.range (1 * E.n)).map (E.z.cells[· % E.z.cells.size]!) = zs.toArray := ⟨_, (Array.toArray_toList).symm⟩
  have hzl : zs.length = E.n := by
    have := congrArg Array.size hzs
    simpa using this.symm
  have hf := fill_one (place := fun i => some (i * E.n, E.n)) (i := 0) (off := 0) (v := v) (pre := []) (mid := zs) (post := []) (vs := E.cel a) (rest := []) (by simp) hv (E.len a) rfl hzl
  simp only [List.nil_append, List.append_nil] at hf
  unfold execOp
  simp only [ho, Instr.buildSlice, Sem.run_bind, run_underlying E.und, Result.andThen_ok, hs]
  rw [if_neg (by omega), if_neg (by omega)]
  simp only [Sem.run_bind, hz, Result.andThen_ok, Sem.run_pure, hzs]
  simp [hx, hf, Instr.fill, newRow]
end
theorem exec_appE {α : Type} {E : Elt α} {o : Oper} {a : Act} {w w' : World} {s x : Operand} {A : Option Addr} {m c : Nat} {v v' : Value} (ho : o.op = .call { callee := .builtin .append, args := #[s, x], argTypes := #[E.s, E.s] }) (hs : a.eval s = v) (hx : a.eval x = .slice A m c)
    (hrun : (Builtin.append_ #[E.s, E.s] o.type #[v, .slice A m c]).run Try.prog w = .ok v' w') : (execOp a.eval o).run Try.prog w = .ok (.value v') w' := by
  simp [execOp, ho, resolve, invoke, builtin, hs, hx, hrun, Result.andThen]
section
variable {α : Type} {E : Elt α} {w : World} {B g n cc k : Nat} {l : List α} {a : α}
theorem flatE_split {l : List α} {k : Nat} (hk : k < l.length) : aO E l = aO E (l.take k) ++ (E.cel (l.getD k E.d) ++ aO E (l.drop (k + 1))) := by
  have h1 : l = l.take k ++ (l.getD k E.d :: l.drop (k + 1)) := by
    rw [List.getD, List.getElem?_eq_getElem hk, Option.getD_some, List.getElem_cons_drop, List.take_append_drop]
  conv => lhs; rw [h1]
  rw [flatE_append, bP]
theorem flatE_set {l : List α} {k : Nat} (hk : k < l.length) (a : α) : aO E (l.set k a) = aO E (l.take k) ++ (E.cel a ++ aO E (l.drop (k + 1))) := by
  have h2 : l.set k a = l.take k ++ (a :: l.drop (k + 1)) := List.set_eq_take_append_cons_drop.trans (by rw [if_pos hk])
  rw [h2, flatE_append, bP]
theorem heap_put (g : Nat) (t : TypeId) (post : List Value) : ∀ (vs mid pre : List Value) (w : World), mid.length = vs.length → w.heap[g]? = some (.cells (pre ++ mid ++ post).toArray t (0, 0)) →
    (w.setCells g pre.length vs).heap[g]? = some (.cells (pre ++ vs ++ post).toArray t (0, 0))
  | [], mid, pre, w, h, hg => by
    have : mid = [] := List.eq_nil_of_length_eq_zero h
    subst this
    exact hg
  | v :: vs, mid, pre, w, h, hg => by
    match mid, h with
    | m :: ms, h =>
      rw [World.setCells]
      have h1 := heap_setCell_same w g pre.length _ t v hg
      have hset : (pre ++ m :: ms ++ post).toArray.setIfInBounds pre.length v = ((pre ++ [v]) ++ ms ++ post).toArray := by
        rw [List.setIfInBounds_toArray]
        congr 1
        rw [List.append_assoc, List.set_append_right _ _ (by simp), Nat.sub_self]
        simp
      rw [hset] at h1
      have := heap_put g t post vs ms (pre ++ [v]) _ (by simpa using h) h1
      rw [List.length_append, List.length_singleton] at this
      rw [this]
      simp
theorem ax.parts (h : ax E w B (.slice (some ⟨g, 0, none⟩) n cc) l) : l.length = n ∧ B ≤ g ∧ ∃ post, w.heap[g]? = some (.cells (aO E l ++ post).toArray E.t (0, 0)) ∧ n ≤ cc ∧ cc ≤ maxLen ∧ (aO E l ++ post).length = cc * E.n := by
  rcases h.2 with ⟨hv, _⟩ | ⟨g', cap, cur, hv, hbg, hg, h1, h2, h3, ht⟩
  · cases hv
  · injection hv with e1 e2 e3
    injection e1 with e1
    injection e1 with e1
    subst e1 e2 e3
    refine ⟨rfl, hbg, cur.toList.drop (l.length * E.n), ?_, h1, h2, ?_⟩
    · rw [← ht, List.take_append_drop, Array.toArray_toList]; exact hg
    · rw [← ht, List.take_append_drop, Array.length_toList, h3]
theorem ax.of_parts {post : List Value} (hl : l.length = n) (hB : B ≤ g) (hg : w.heap[g]? = some (.cells (aO E l ++ post).toArray E.t (0, 0))) (h1 : n ≤ cc) (h2 : cc ≤ maxLen) (h3 : (aO E l ++ post).length = cc * E.n) : ax E w B (.slice (some ⟨g, 0, none⟩) n cc) l := by
  subst hl
  refine ⟨aJ E l, .inr ⟨g, cc, _, rfl, hB, hg, h1, h2, by simpa using h3, ?_⟩⟩
  rw [List.take_left' (aJ E l)]
theorem ax.there (h : ax E w B (.slice (some ⟨g, 0, none⟩) n cc) l) (hk : k < n) {j m : Nat} (hj : j + m ≤ E.n) : w.there g (k * E.n + j) m := by
  obtain ⟨hl, _, post, hg, hn, _, h3⟩ := h.parts
  intro i hi
  refine ⟨?_, frozen_of_row w g _ _ _ hg⟩
  rw [cell_of_row w g _ _ _ (0, 0) hg]
  have : k * E.n + j + i < (aO E l ++ post).length := by
    have h4 := Nat.mul_le_mul_right E.n (Nat.le_trans hk hn)
    rw [Nat.succ_mul] at h4
    rw [h3]
    omega
  simp only [List.getElem?_toArray, List.getElem?_eq_getElem this, Option.isSome_some]
theorem ax.put (h : ax E w B (.slice (some ⟨g, 0, none⟩) n cc) l) (hk : k < n) {j : Nat} {vs : List Value} (a : α) (ha : E.cel a = (E.cel (l.getD k E.d)).take j ++ vs ++ (E.cel (l.getD k E.d)).drop (j + vs.length)) (hj : j + vs.length ≤ E.n) :
    ax E (w.setCells g (k * E.n + j) vs) B (.slice (some ⟨g, 0, none⟩) n cc) (l.set k a) := by
  obtain ⟨hl, hB, post, hg, h1, h2, h3⟩ := h.parts
  have hkl : k < l.length := by omega
  have hc : E.cel (l.getD k E.d) = (E.cel (l.getD k E.d)).take j ++ ((E.cel (l.getD k E.d)).drop j).take vs.length ++ (E.cel (l.getD k E.d)).drop (j + vs.length) := by
    rw [List.append_assoc, ← List.drop_drop, List.take_append_drop, List.take_append_drop]
  have hsp : aO E l ++ post = (aO E (l.take k) ++ (E.cel (l.getD k E.d)).take j) ++ ((E.cel (l.getD k E.d)).drop j).take vs.length ++ ((E.cel (l.getD k E.d)).drop (j + vs.length) ++ (aO E (l.drop (k + 1)) ++ post)) := by
    rw [flatE_split hkl]
    conv => lhs; rw [hc]
    simp only [List.append_assoc]
  rw [hsp] at hg
  have hmid : (((E.cel (l.getD k E.d)).drop j).take vs.length).length = vs.length := by rw [List.length_take, List.length_drop, E.len]; omega
  have := heap_put g E.t _ vs _ _ w hmid hg
  have hpl : (aO E (l.take k) ++ (E.cel (l.getD k E.d)).take j).length = k * E.n + j := by
    rw [List.length_append, aJ, List.length_take, List.length_take, E.len, Nat.min_eq_left (by omega), Nat.min_eq_left (by omega)]
  rw [hpl] at this
  have hsp2 : aO E (l.set k a) ++ post = (aO E (l.take k) ++ (E.cel (l.getD k E.d)).take j) ++ vs ++ ((E.cel (l.getD k E.d)).drop (j + vs.length) ++ (aO E (l.drop (k + 1)) ++ post)) := by
    rw [flatE_set hkl, ha]
    simp only [List.append_assoc]
  rw [← hsp2] at this
  exact ax.of_parts (by rw [List.length_set, hl]) hB this h1 h2 (by rw [List.length_append, aJ, List.length_set, ← aJ E l, ← List.length_append, h3])
theorem ax.store (h : ax E w B (.slice (some ⟨g, 0, none⟩) n cc) l) (hk : k < n) (a : α) : ax E (w.setCells g (k * E.n) (E.cel a)) B (.slice (some ⟨g, 0, none⟩) n cc) (l.set k a) := by
  have := h.put hk (j := 0) (vs := E.cel a) a (by rw [List.take_zero, Nat.zero_add, List.drop_eq_nil_of_le (by rw [E.len, E.len]; exact Nat.le_refl _)]; simp) (by rw [E.len]; omega)
  simpa using this
end
structure Only (F : Nat → Prop) (w w' : World) : Prop where
  os : w'.os = w.os
  tape : w'.tape = w.tape
  output : w'.output = w.output
  size : w.heap.size ≤ w'.heap.size
  block : ∀ k, k < w.heap.size → ¬ F k → w'.heap[k]? = w.heap[k]?
section
variable {F G : Nat → Prop} {w w1 w2 a : World} {B : Nat}
theorem Only.refl (F : Nat → Prop) (w : World) : Only F w w := ⟨rfl, rfl, rfl, Nat.le_refl _, fun _ _ _ => rfl⟩
theorem Only.trans (h : Only F w w1) (k : Only G w1 w2) (hG : ∀ b, G b → F b ∨ w.heap.size ≤ b) : Only F w w2 :=
  ⟨k.os.trans h.os, k.tape.trans h.tape, k.output.trans h.output, Nat.le_trans h.size k.size, fun b hb hn =>
    (k.block b (Nat.lt_of_lt_of_le hb h.size) (fun hg => by rcases hG b hg with e | e; exact hn e; omega)).trans (h.block b hb hn)⟩
theorem Only.widen (h : Only F w w1) (hG : ∀ b, F b → G b) : Only G w w1 := ⟨h.os, h.tape, h.output, h.size, fun b hb hn => h.block b hb fun e => hn (hG b e)⟩
theorem Only.of_below (F : Nat → Prop) (h : Below w.heap.size w w1) : Only F w w1 := ⟨h.os, h.tape, h.output, h.size, fun b hb _ => h.block b hb⟩
theorem Only.below (h : Only F w w1) (hF : ∀ b, F b → B ≤ b) (hB : B ≤ w.heap.size) : Below B w w1 := ⟨h.os, h.tape, h.output, h.size, fun b hb => h.block b (by omega) fun e => by have := hF b e; omega⟩
theorem Only.then_below (h : Only F w w1) (k : Below w1.heap.size w1 w2) : Only F w w2 := h.trans (Only.of_below F k) fun _ hb => .inl hb
theorem Only.drew (h : Only F w w1) : Only F w w1.drew := ⟨h.os, h.tape, h.output, h.size, h.block⟩
theorem Only.setCell (h : Only F w w1) {p : Addr} (hp : F p.block ∨ w.heap.size ≤ p.block) (u : Value) : Only F w (w1.setCell p u) :=
  ⟨h.os, h.tape, h.output, by have := h.size; simpa [World.setCell] using this, fun b hb hn => (Below.heap_setCell w1 p u b (fun e => by subst e; rcases hp with e | e; exact hn e; omega)).trans (h.block b hb hn)⟩
theorem Only.grown {row : Option Nat} (h : Only F w w1) (hg : w1.grownBy w2 row) (hr : ∀ k, row = some k → F k ∨ w.heap.size ≤ k) : Only F w w2 :=
  ⟨hg.os.trans h.os, hg.tape.trans h.tape, hg.output.trans h.output, Nat.le_trans h.size hg.size, fun b hb hn =>
    (hg.block b (Nat.lt_of_lt_of_le hb h.size) (fun e => by rcases hr b e.symm with e | e; exact hn e; omega)).trans (h.block b hb hn)⟩
theorem Only.keep {o : Obj} {b : Nat} (h : Only F w w1) (hb : w.heap[b]? = some o) (hn : ¬ F b) : w1.heap[b]? = some o := (h.block b (Array.getElem?_eq_some_iff.1 hb).1 hn).trans hb
theorem Only.cell (h : Only F w w1) {p : Addr} (hp : p.block < w.heap.size) (hn : ¬ F p.block) : w1.cell? p = w.cell? p := World.cell?_of_block (w := w) (h.block _ hp hn)
end
theorem wrap64_nat {n : Nat} (h : n < 9223372036854775808) : wrap64 (n : Int) = (n : Int) := by unfold wrap64; omega
theorem aw {w w' : World} {b : Nat} {o : Obj} (h : w.heap[b]? = some o) (hb : Below w.heap.size w w') : w'.heap[b]? = some o := (hb.block b (Array.getElem?_eq_some_iff.1 h).1).trans h
theorem blk_past {w : World} {b : Nat} {o : Obj} (h : w.heap[b]? = some o) (o' : Obj) : (w.alloc o').heap[b]? = some o := (Below.heap_alloc w o' b (Array.getElem?_eq_some_iff.1 h).1).trans h
theorem bN {w : World} {b : Nat} {o : Obj} (h : w.heap[b]? = some o) : b < w.heap.size := (Array.getElem?_eq_some_iff.1 h).1
section
variable {w : World} {b : Nat} {t : TypeId} {x y z : Value}
theorem cells2 (h : w.heap[b]? = some (.cells #[x, y] t (0, 0))) : w.cell? ⟨b, 0, none⟩ = some x ∧ w.cell? ⟨b, 1, none⟩ = some y ∧ w.frozen? ⟨b, 0, none⟩ = false ∧ w.frozen? ⟨b, 1, none⟩ = false := by
  refine ⟨?_, ?_, frozen_of_row w b 0 _ t h, frozen_of_row w b 1 _ t h⟩
  · rw [cell_of_row w b 0 _ t (0, 0) h]; rfl
  · rw [cell_of_row w b 1 _ t (0, 0) h]; rfl
theorem cells3 (h : w.heap[b]? = some (.cells #[x, y, z] t (0, 0))) : w.cell? ⟨b, 0, none⟩ = some x ∧ w.cell? ⟨b, 1, none⟩ = some y ∧ w.cell? ⟨b, 2, none⟩ = some z := by
  refine ⟨?_, ?_, ?_⟩
  · rw [cell_of_row w b 0 _ t (0, 0) h]; rfl
  · rw [cell_of_row w b 1 _ t (0, 0) h]; rfl
  · rw [cell_of_row w b 2 _ t (0, 0) h]; rfl
end
theorem behind_g {w w1 : World} {o : Obj} (hb : Below (w.alloc o).heap.size (w.alloc o) w1) (hf : (w.alloc o).heap[w.heap.size]? = some o) : Hid (w1.heap[w.heap.size]? = some o) ∧ Hid (Below w.heap.size w w1) :=
  ⟨Lib.hid (aw hf hb), Lib.hid (((Below.refl w.heap.size w).alloc (Nat.le_refl _) _).trans (hb.mono (by simp)))⟩
theorem behind_gp {w w1 : World} {o o' : Obj} (hb : Below ((w.alloc o).alloc o').heap.size ((w.alloc o).alloc o') w1) (hf : (w.alloc o).heap[w.heap.size]? = some o) (hf' : ((w.alloc o).alloc o').heap[w.heap.size + 1]? = some o') :
    Hid (w1.heap[w.heap.size]? = some o) ∧ Hid (w1.heap[w.heap.size + 1]? = some o') ∧ w.heap.size + 1 < w1.heap.size ∧ Hid (Below w.heap.size w w1) :=
  ⟨Lib.hid (aw (blk_past hf o') hb), Lib.hid (aw hf' hb), bN (aw hf' hb), Lib.hid ((((Below.refl w.heap.size w).alloc (Nat.le_refl _) _).alloc (by simp) _).trans (hb.mono (by simp; omega)))⟩
theorem new1 (w : World) (cs : Array Value) (t : TypeId) : (w.alloc (.cells cs t)).heap[w.heap.size]? = some (.cells cs t) := heap_alloc_new w _
theorem new2 (w : World) (o : Obj) (cs : Array Value) (t : TypeId) : ((w.alloc o).alloc (.cells cs t)).heap[w.heap.size + 1]? = some (.cells cs t) := by
  have := heap_alloc_new (w.alloc o) (.cells cs t)
  rwa [World.size_alloc] at this
def pairV (n : Int) (b : Blk) : Value := .agg (.int .i64 n :: cel b).toArray
theorem RdE.only {α : Type} {E : Elt α} {F : Nat → Prop} {w w' : World} {B n : Nat} {A : Option Addr} {l : List α} (h : RdE E w B A n l) (k : Only F w w') (hB : B ≤ w.heap.size) (hn : ∀ x, A = some x → 0 < n → ¬ F x.block) : RdE E w' B A n l :=
  ⟨h.1, fun j hj => by
    obtain ⟨b, off, e, hb, hc⟩ := h.2 j hj
    refine ⟨b, off, e, hb, fun i v hi => ?_⟩
    rw [k.cell (p := ⟨b, off + j * E.n + i, none⟩) (show b < w.heap.size by omega) (show ¬ F b from hn ⟨b, off, none⟩ e (by omega))]
    exact hc i v hi⟩
theorem Only.setCells {F : Nat → Prop} {w w1 : World} {b : Nat} (h : Only F w w1) (hb : F b ∨ w.heap.size ≤ b) : ∀ (vs : List Value) (o : Nat), Only F w (w1.setCells b o vs) := by
  intro vs
  induction vs generalizing w1 with
  | nil => intro o; exact h
  | cons v r ih => intro o; exact ih (h.setCell (p := ⟨b, o, none⟩) hb v) (o + 1)
end Go.Proofs.Ytdmhelalbemlcaa
