import Derived.Test.YtcpbekopbeaflaaGreatDoorLrab
import Derived.Deep.Slices
namespace Go.Proofs.YtcpbekopbeaflaaGreatDoor
set_option maxHeartbeats 8000000
open Go.Proofs.Tryz
open Go.RowKit
set_option maxRecDepth 100000
set_option linter.unusedVariables false
theorem cC {w w' : World} {b : Nat} {o : Obj} (h : w.heap[b]? = some o) (hb : Below w.heap.size w w') : w'.heap[b]? = some o := (hb.block b (Array.getElem?_eq_some_iff.1 h).1).trans h
theorem gv {w w' : World} {B b : Nat} {o : Obj} (h : w.heap[b]? = some o) (hB : b < B) (hb : Below B w w') : w'.heap[b]? = some o := (hb.block b hB).trans h
theorem cE {w : World} {b : Nat} {o : Obj} (h : w.heap[b]? = some o) (o' : Obj) : (w.alloc o').heap[b]? = some o := (Below.heap_alloc w o' b (Array.getElem?_eq_some_iff.1 h).1).trans h
theorem aR {w : World} {b : Nat} {o : Obj} (h : w.heap[b]? = some o) : b < w.heap.size := (Array.getElem?_eq_some_iff.1 h).1
section
variable {w : World} {b : Nat} {t : TypeId} {x y z : Value}
theorem cells3 (h : w.heap[b]? = some (.cells #[x, y, z] t (0, 0))) : w.cell? ⟨b, 0, none⟩ = some x /\ w.cell? ⟨b, 1, none⟩ = some y /\ w.cell? ⟨b, 2, none⟩ = some z := by
 refine ⟨?_, ?_, ?_⟩
 ·rw [cell_of_row w b 0 _ t (0, 0) h]; rfl
 ·rw [cell_of_row w b 1 _ t (0, 0) h]; rfl
 ·rw [cell_of_row w b 2 _ t (0, 0) h]; rfl
end
theorem ox (w : World) (cs : Array Value) (t : TypeId) : (w.alloc (.cells cs t)).heap[w.heap.size]? = some (.cells cs t) := heap_alloc_new w _
section
variable {ρ : Operand -> Value} {o : Oper} {x y : Operand} {w : World} {t : TypeId} {old cs : Array Value}
theorem lY (hz : (prog.info? t).map (·.size) = some cs.size) (he : old.size = cs.size) (h1 : cs.toList.all Value.oneCell' = true) (ho : o.op = .store t x y) (hx : ρ x = .pointer (some ⟨w.heap.size, 0, none⟩)) (hy : ρ y = .agg cs) :
  (execOp ρ o).run prog (w.alloc (.cells old t)) = .ok .skip (w.alloc (.cells cs t)) := by
 have h := run_storeAt_new (P := prog) w t old cs hz he (by simpa using h1);unfold execOp;simp only [ho, hx, hy, Sem.run_bind, h, Result.andThen_ok, Sem.run_pure]
end
def arr (l : List UInt8) : Value := .agg (vals l).toArray
section
variable {ρ : Operand -> Value} {o : Oper} {x y : Operand} {w : World} {b off : Nat} {t : TypeId} {cs ds : List Value} {d : TypeDesc}
theorem eI (hu : prog.underlying t = some d) (hd : d.isRow = true) (hz : (prog.info? t).map (·.size) = some cs.length) (ho : o.op = .load t x) (hx : ρ x = .pointer (some ⟨b, off, none⟩)) (hc : w.rangeAt b off cs) :
  (execOp ρ o).run prog w = .ok (.value (.agg cs.toArray)) w := aA ho hx (run_loadAt_mid w b off t cs d hc hu hd hz)
theorem fN (ho : o.op = .box t x) (hx : ρ x = .agg cs.toArray) : (execOp ρ o).run prog w = .ok (.value (.pointer (some ⟨w.heap.size, 0, none⟩))) (w.alloc (.cells cs.toArray t)) := by
 unfold execOp;simp [ho, hx, Instr.box, newVar, newRow, Value.cells]
theorem rv {v : Value} (h : (prog.info? t).map (fun i => i.zero) = some (some v)) (w : World) : (zeroValue t).run prog w = .ok v w := by
 cases hq : prog.info? t with
 |none => rw [hq] at h; cases h
 |some i =>
  rw [hq] at h;simp only [Option.map_some, Option.some.injEq] at h;simp [zeroValue, typeInfo, hq, h]
theorem eB (h : (prog.info? t).map (fun i => i.zero) = some (some (.agg cs.toArray))) (ho : o.op = .alloc t) : (execOp ρ o).run prog w = .ok (.value (.pointer (some ⟨w.heap.size, 0, none⟩))) (w.alloc (.cells cs.toArray t)) := by
 have hz := rv h w;unfold execOp;simp [ho, Instr.alloc, hz, newVar, newRow, Value.cells]
theorem lu (hz : (prog.info? t).map (·.size) = some cs.length) (h1 : ∀ v ∈ cs, v.oneCell' = true) (ho : o.op = .store t x y) (hx : ρ x = .pointer (some ⟨b, off, none⟩)) (hy : ρ y = .agg cs.toArray) (ht : w.there b off cs.length) :
  (execOp ρ o).run prog w = .ok .skip (w.setCells b off cs) := by
 have h := run_storeAt_mid (P := prog) w b off t cs.toArray (by simpa using ht) (by simpa using hz) (all_oneCell_toArray h1);refine dU ho hx hy ?_
 simpa using h
theorem fO (hz : (prog.info? t).map (·.size) = some cs.length) (he : ds.length = cs.length) (h1 : ∀ v ∈ cs, v.oneCell' = true) (ho : o.op = .store t x y) (hx : ρ x = .pointer (some ⟨w.heap.size, 0, none⟩)) (hy : ρ y = .agg cs.toArray) :
  (execOp ρ o).run prog (w.alloc (.cells ds.toArray t)) = .ok .skip (w.alloc (.cells cs.toArray t)) :=
 lY (by simpa using hz) (by simpa using he) (by simpa using h1) ho hx hy
theorem nz {v : Value} (ho : o.op = .build t #[]) (h : (Instr.build t #[]).run prog w = .ok v w) : (execOp ρ o).run prog w = .ok (.value v) w := by
 unfold execOp;simp only [ho, List.map_toArray, List.map_nil, Sem.run_bind, h, Result.andThen_ok, Sem.run_pure]
theorem pK {r : TypeId} {xs ys : Array Value} {c : Bool} (hg : prog.eqGuardType prog.depth t = false) (he : (Op.equalIn 10000 t (.agg xs) (.agg ys)).run prog w = .ok c w) (ho : o.op = .binOp .neq t x y r) (hx : ρ x = .agg xs) (hy : ρ y = .agg ys) :
  (execOp ρ o).run prog w = .ok (.value (.bool (!c))) w := by
 have h := run_neq_struct (P := prog) w t xs ys;rw [he] at h;unfold execOp;simp only [ho, hx, hy, Sem.run_bind, run_eqGuard_agg w .neq t x y xs ys hg, Result.andThen_ok];rw [h];simp
end
section
variable {ρ : Operand -> Value} {o : Oper} {x y : Operand} {w : World} {t r : TypeId} {k : IntKind} {a b : Int}
theorem bM (c : Bool) (ho : o.op = .binOp .gtr t x y r) (hx : ρ x = .int k a) (hy : ρ y = .int k b) (h : decide (b < a) = c) : (execOp ρ o).run prog w = .ok (.value (.bool c)) w := by
 unfold execOp;simp [ho, hx, hy, eqGuard, binOp, Op.intCmp, h]
theorem cz (c : Bool) (ho : o.op = .binOp .geq t x y r) (hx : ρ x = .int k a) (hy : ρ y = .int k b) (h : decide (b <= a) = c) : (execOp ρ o).run prog w = .ok (.value (.bool c)) w := by
 unfold execOp;simp [ho, hx, hy, eqGuard, binOp, Op.intCmp, h]
theorem dR (c : Bool) (ho : o.op = .binOp .leq t x y r) (hx : ρ x = .int k a) (hy : ρ y = .int k b) (h : decide (a <= b) = c) : (execOp ρ o).run prog w = .ok (.value (.bool c)) w := by
 unfold execOp;simp [ho, hx, hy, eqGuard, binOp, Op.intCmp, h]
theorem a8 (c : Bool) (ho : o.op = .binOp .lss t x y r) (hx : ρ x = .int k a) (hy : ρ y = .int k b) (h : decide (a < b) = c) : (execOp ρ o).run prog w = .ok (.value (.bool c)) w := by
 unfold execOp;simp [ho, hx, hy, eqGuard, binOp, Op.intCmp, h]
theorem xl {ad : Addr} {n : Int} (h : w.cell? ad = some (.int .u8 n)) : (Instr.loadAt 5 (.pointer (some ad))).run prog w = .ok (.int .u8 n) w := by simp [go_sem, h]
end
theorem bm {w : World} {ad : Addr} {k : Int} (h : w.cell? ad = some (.int .i64 k)) : (Instr.loadAt 3 (.pointer (some ad))).run prog w = .ok (.int .i64 k) w := by simp [go_sem, h]
theorem b7 {w : World} {ad : Addr} {k : Int} (h : w.cell? ad = some (.int .u64 k)) : (Instr.loadAt 35 (.pointer (some ad))).run prog w = .ok (.int .u64 k) w := by simp [go_sem, h]
theorem qS {t : TypeId} {n : Nat} (hu : prog.underlying t = some (.array n 5)) (w : World) (a b : List UInt8) (ha : a.length = n) (hb : b.length = n) (d : Nat) : (Op.equalIn (d + 2) t (arr a) (arr b)).run prog w = .ok (decide (a = b)) w := by
 have he : ∀ x y : Int, (Op.equalIn (d + 1) 5 (.int .u8 x) (.int .u8 y)).run prog w = .ok (x == y) w := fun x y => run_equalIn_int w d 5 .u8 .u8 x y underlying5
 have hp : ∀ (c : List UInt8) (i : Nat), i < c.length -> (part 5 (vals c).toArray (i * 1)).run prog w = .ok (.int .u8 (bt c i)) w := fun c i hi => by
  have := oU hi;simp [part, this]
 show (Op.equalIn ((d + 1) + 1) t (arr a) (arr b)).run prog w = .ok (decide (a = b)) w
 generalize d + 1 = e at *;have key : ∀ (l : List Nat), (∀ i ∈ l, i < n) ->
   ((forIn l ((none : Option Bool), ()) fun i r => do
    let x <- part 5 (vals a).toArray (i * 1)
    let y <- part 5 (vals b).toArray (i * 1)
    let z <- Op.equalIn e 5 x y
    if (!z) = true then pure (ForInStep.done (some false, ())) else pure (ForInStep.yield (none, ())) : Sem _)).run prog w =
   .ok (if l.all (fun i => bt a i == bt b i) then (none, ()) else (some false, ())) w := by
  intro l
  induction l with
  |nil => intro _; simp
  |cons i l ih =>
   intro hl;have hi := hl i (by simp);simp only [List.forIn_cons, Sem.run_bind, hp a i (by omega), hp b i (by omega), Result.andThen_ok, he];by_cases h : bt a i = bt b i
   ·have hb : (bt a i == bt b i) = true := by simpa using h
    simp only [hb, Bool.not_true, Bool.false_eq_true, if_false, Sem.run_pure, Result.andThen_ok, List.all_cons, Bool.true_and];exact ih fun j hj => hl j (by simp [hj])
   ·have hb : (bt a i == bt b i) = false := by simpa using h
    simp [hb]
 have hall : ((List.range' 0 n).all fun i => bt a i == bt b i) = decide (a = b) := by
  rw [Bool.eq_iff_iff, List.all_eq_true, decide_eq_true_iff]
  constructor
  ·intro h;exact iR (by omega) fun j hj => by simpa using h j (by simp [List.mem_range']; omega)
  ·rintro rfl i _;simp
 have hk := key (List.range' 0 n) (fun i hi => by simp [List.mem_range'] at hi; omega);rw [hall] at hk;simp only [Op.equalIn, arr, Sem.run_bind, run_underlying hu, Result.andThen_ok, Tryz.sizeOf5, Std.Legacy.Range.forIn_eq_forIn_range'];simp only [Std.Legacy.Range.size, Nat.sub_zero, Nat.add_sub_cancel, Nat.div_one];rw [hk];by_cases h : a = b
 ·simp [h]
 ·simp [h]
theorem ui {d : Nat} {xs ys : Array Value} {nm tg pk : String} {t : TypeId} {off bo : Nat} {em : Bool} {fs : List Field} {w : World} {u v : Value} {r : Bool} (hn : nm ≠ "_") (h1 : (part t xs off).run prog w = .ok u w) (h2 : (part t ys off).run prog w = .ok v w)
  (h3 : (Op.equalIn d t u v).run prog w = .ok r w) : (Op.eqFields d xs ys (⟨nm, t, off, em, tg, pk, bo⟩ :: fs)).run prog w = if r then (Op.eqFields d xs ys fs).run prog w else .ok false w := by
 cases r
 ·simp only [Op.eqFields, hn, ne_eq, not_false_eq_true, if_true, Sem.run_bind, h1, h2, h3, Result.andThen_ok, Bool.not_false, Sem.run_pure, Bool.false_eq_true, if_false]
 ·simp only [Op.eqFields, hn, ne_eq, not_false_eq_true, if_true, Sem.run_bind, h1, h2, h3, Result.andThen_ok, Bool.not_true, Bool.false_eq_true, if_false]
theorem afB {d : Nat} {xs ys : Array Value} {w : World} : (Op.eqFields d xs ys []).run prog w = .ok true w := by simp [Op.eqFields]
theorem dW {w : World} {b : Nat} {t : TypeId} {cs : List Value} (h : w.heap[b]? = some (.cells cs.toArray t (0, 0))) : w.rangeAt b 0 cs := fun j v hj => by
 rw [cell_of_row w b (0 + j) _ t (0, 0) h, Nat.zero_add]
 simpa using hj
theorem yA {w : World} {b o k : Nat} {cs ds es fs : List Value} (h : w.rangeAt b o cs) (e : cs = ds ++ (es ++ fs)) (hk : ds.length = k) : w.rangeAt b (o + k) es := fun j v hj => by
 subst e hk;have := h (ds.length + j) v (by
  rw [List.getElem?_append_right (by omega), Nat.add_sub_cancel_left, List.getElem?_append_left (List.getElem?_eq_some_iff.1 hj).1];exact hj)
 rwa [<- Nat.add_assoc] at this
theorem fe {w : World} {b : Nat} {t : TypeId} {cs : List Value} (h : w.heap[b]? = some (.cells cs.toArray t (0, 0))) {o n : Nat} (hn : o + n <= cs.length) : w.there b o n := fun j hj => by
 rw [cell_of_row w b (o + j) _ t (0, 0) h, frozen_of_row w b (o + j) _ t h];exact ⟨by simp; omega, rfl⟩
theorem dP {fn : Func} {p q u : Tmp} {t : TypeId} {cs : List Value} {d : TypeDesc} (h : fn.results = #[.tmp p, .cell q t, .tmp u]) (tmps : Array Value) (w : World) (b : Nat) (hq : tmps.getD q undef = .pointer (some ⟨b, 0, none⟩)) (hr : w.rangeAt b 0 cs) (hu : prog.underlying t = some d) (hd : d.isRow = true) (hz : (prog.info? t).map (·.size) = some cs.length) :
  (results fn tmps).run prog w = .ok (.tuple #[tmps.getD p undef, .agg cs.toArray, tmps.getD u undef]) w := by
 have hl : (loadVar t ⟨b, 0, none⟩).run prog w = .ok (.agg cs.toArray) w := run_loadVar_mid (P := prog) w b 0 t cs d hr hu hd hz;have hq' : tmps[q]?.getD undef = .pointer (some ⟨b, 0, none⟩) := by simpa using hq
 simp [results, h, hq', asAddr, hl]
theorem oD {fn : Func} {p : Tmp} {t : TypeId} {cs : List Value} {d : TypeDesc} (h0 : fn.results = #[.cell p t]) (tmps : Array Value) (w : World) (b : Nat) (hp : tmps.getD p undef = .pointer (some ⟨b, 0, none⟩)) (hr : w.rangeAt b 0 cs) (hu : prog.underlying t = some d) (hd : d.isRow = true) (hz : (prog.info? t).map (·.size) = some cs.length) :
  (results fn tmps).run prog w = .ok (.agg cs.toArray) w := by
 have hl : (loadVar t ⟨b, 0, none⟩).run prog w = .ok (.agg cs.toArray) w := run_loadVar_mid (P := prog) w b 0 t cs d hr hu hd hz;have hp' : tmps[p]?.getD undef = .pointer (some ⟨b, 0, none⟩) := by simpa using hp
 simp [results, h0, hp', asAddr, hl]
theorem size_setCells (w : World) (b o : Nat) (vs : List Value) : (w.setCells b o vs).heap.size = w.heap.size := (fC b vs o w).1
theorem rZ (w : World) (b o : Nat) (y : Value) : w.grownBy (w.setCell ⟨b, o, none⟩ y) (some b) :=
 ⟨rfl, rfl, rfl, by simp [World.setCell], fun k hk hne => heap_setCell_other w ⟨b, o, none⟩ k y (fun e => hne (by rw [e]))⟩
theorem gy {w w' : World} {b k : Nat} {o : Obj} (h : w.heap[b]? = some o) (hg : w.grownBy w' (some k)) (hne : b ≠ k) : w'.heap[b]? = some o := (hg.block b (aR h) (fun e => hne (by injection e))).trans h
set_option linter.unusedSimpArgs false
def cT (s m : Int) : List Value := [.int .i64 s, .int .i64 m]
def plV (s m : Int) : Value := .agg (cT s m).toArray
def dq (c : Cl) : List Value := .int .i64 c.s :: .int .i64 c.m :: cel c.b
def clV (c : Cl) : Value := .agg (dq c).toArray
theorem e9 (c : Cl) : (dq c).length = 66 := by simp [dq, aG]
theorem uy (c : Cl) : ∀ v ∈ dq c, v.oneCell' = true := by
 intro v hv;simp only [dq, List.mem_cons] at hv;rcases hv with rfl | rfl | hv
 ·rfl
 ·rfl
 ·exact je c.b v hv
theorem ad4 (s m : Int) : ∀ v ∈ cT s m, v.oneCell' = true := by
 intro v hv;simp only [cT, List.mem_cons, List.not_mem_nil, or_false] at hv;rcases hv with rfl | rfl <;> rfl
theorem agS : (prog.info? 72).map (·.size) = some 66 := by kernel_rfl
theorem agx : (prog.info? 70).map (·.size) = some 2 := by kernel_rfl
theorem ajr : (prog.info? 72).map (fun i => (i.zero, i.size, i.bytes)) = some (some (clV cO), 66, 80) := by kernel_rfl
theorem qd : (prog.info? 72).map (fun i => i.zero) = some (some (.agg (dq cO).toArray)) := by kernel_rfl
theorem wi : (prog.info? 70).map (fun i => i.zero) = some (some (.agg (cT 0 0).toArray)) := by kernel_rfl
def bQ : Elt Cl where
 s := 34
 t := 72
 n := 66
 by_ := 80
 cel := dq
 d := cO
 z := clV cO
 pos := by omega
 small := by omega
 len := e9
 one := uy
 und := underlying34
 info := ajr
 zc := by show (Value.cells (.agg _)).size = 66; simp [Value.cells, e9]
theorem RdE.cl {w : World} {B n k : Nat} {A : Option Addr} {l : List Cl} (h : RdE bQ w B A n l) (hk : k < n) : ∃ b off, A = some ⟨b, off, none⟩ /\ b < B /\ w.rangeAt b (off + k * 66) (dq (l.getD k cO)) := h.2 k hk
section
variable {w : World} {b off : Nat} {c : Cl}
theorem gU (h : w.rangeAt b off (dq c)) : w.rangeAt b off (cT c.s c.m) := by
 have := yA (ds := []) (es := cT c.s c.m) (fs := cel c.b) (k := 0) h rfl rfl;rwa [Nat.add_zero] at this
theorem adV (h : w.rangeAt b off (dq c)) : w.rangeAt b (off + 2) (cel c.b) := yA (ds := cT c.s c.m) (es := cel c.b) (fs := []) (k := 2) h (by simp [dq, cT]) rfl
theorem eg {s m : Int} (h : w.rangeAt b off (cT s m)) : w.cell? ⟨b, off, none⟩ = some (.int .i64 s) /\ w.cell? ⟨b, off + 1, none⟩ = some (.int .i64 m) := by
 have h0 := h 0 _ rfl;rw [Nat.add_zero] at h0;exact ⟨h0, h 1 _ rfl⟩
end
section
variable {ρ : Operand -> Value} {o : Oper} {x y : Operand} {w : World} {b off : Nat} {c d : Cl} {s m s' m' : Int} {t : TypeId}
theorem j7 (ho : o.op = .load 72 x) (hx : ρ x = .pointer (some ⟨b, off, none⟩)) (hc : w.rangeAt b off (dq c)) : (execOp ρ o).run prog w = .ok (.value (clV c)) w :=
 eI underlying72 rfl (by rw [e9]; exact agS) ho hx hc
theorem dy (ho : o.op = .load 70 x) (hx : ρ x = .pointer (some ⟨b, off, none⟩)) (hc : w.rangeAt b off (cT s m)) : (execOp ρ o).run prog w = .ok (.value (plV s m)) w :=
 eI underlying70 rfl agx ho hx hc
theorem jJ (ho : o.op = .box 72 x) (hx : ρ x = clV c) : (execOp ρ o).run prog w = .ok (.value (.pointer (some ⟨w.heap.size, 0, none⟩))) (w.alloc (.cells (dq c).toArray 72)) := fN ho hx
theorem iO (ho : o.op = .box 70 x) (hx : ρ x = plV s m) : (execOp ρ o).run prog w = .ok (.value (.pointer (some ⟨w.heap.size, 0, none⟩))) (w.alloc (.cells (cT s m).toArray 70)) := fN ho hx
theorem vB (ho : o.op = .alloc 72) : (execOp ρ o).run prog w = .ok (.value (.pointer (some ⟨w.heap.size, 0, none⟩))) (w.alloc (.cells (dq cO).toArray 72)) := eB qd ho
theorem ee (ho : o.op = .alloc 70) : (execOp ρ o).run prog w = .ok (.value (.pointer (some ⟨w.heap.size, 0, none⟩))) (w.alloc (.cells (cT 0 0).toArray 70)) := eB wi ho
theorem wH (ho : o.op = .store 72 x y) (hx : ρ x = .pointer (some ⟨w.heap.size, 0, none⟩)) (hy : ρ y = clV c) : (execOp ρ o).run prog (w.alloc (.cells (dq d).toArray 72)) = .ok .skip (w.alloc (.cells (dq c).toArray 72)) :=
 fO (by rw [e9]; exact agS) (by rw [e9, e9]) (uy c) ho hx hy
theorem eE (ho : o.op = .store 70 x y) (hx : ρ x = .pointer (some ⟨w.heap.size, 0, none⟩)) (hy : ρ y = plV s m) : (execOp ρ o).run prog (w.alloc (.cells (cT s' m').toArray 70)) = .ok .skip (w.alloc (.cells (cT s m).toArray 70)) :=
 fO agx rfl (ad4 s m) ho hx hy
theorem qE : (Instr.fieldAt 72 (.pointer (some ⟨b, off, none⟩)) 0).run prog w = .ok (.pointer (some ⟨b, off, none⟩)) w := by kernel_rfl
theorem aiN : (Instr.fieldAt 72 (.pointer (some ⟨b, off, none⟩)) 1).run prog w = .ok (.pointer (some ⟨b, off + 2, none⟩)) w := by kernel_rfl
theorem fw : (Instr.fieldAt 70 (.pointer (some ⟨b, off, none⟩)) 0).run prog w = .ok (.pointer (some ⟨b, off, none⟩)) w := by kernel_rfl
theorem jD : (Instr.fieldAt 70 (.pointer (some ⟨b, off, none⟩)) 1).run prog w = .ok (.pointer (some ⟨b, off + 1, none⟩)) w := by kernel_rfl
end
theorem ae3 (w : World) (s m s' m' : Int) (d : Nat) : (Op.equalIn (d + 2) 70 (plV s m) (plV s' m')).run prog w = .ok (decide (s = s' /\ m = m')) w := by
 have he : ∀ x y : Int, (Op.equalIn (d + 1) 3 (.int .i64 x) (.int .i64 y)).run prog w = .ok (x == y) w := fun x y => run_equalIn_int w d 3 .i64 .i64 x y underlying3
 unfold plV;rw [show d + 2 = (d + 1) + 1 from rfl, run_equalIn_struct w (d + 1) 70 _ _ (by kernel_rfl) (by kernel_rfl)];simp only [Program.fieldsOf, underlying70, Op.eqFields, cT];simp [part, he];by_cases h1 : s = s' <;> by_cases h2 : m = m' <;> simp [h1, h2]
theorem yV (w : World) (c : Cl) : (part 70 (dq c).toArray 0).run prog w = .ok (plV c.s c.m) w := by
 simp [part, plV, dq, cT]
theorem yd (w : World) (c : Cl) : (part 64 (dq c).toArray 2).run prog w = .ok (blk c.b) w := by
 have h : ((dq c).drop 2).take 64 = cel c.b := List.take_of_length_le (by simp [dq, aG]);simp [part, blk, h]
theorem aiP {a b : Cl} (h1 : a.s = b.s /\ a.m = b.m) (h2 : a.b = b.b) : a = b := by
 obtain ⟨s, m, x⟩ := a;obtain ⟨s', m', x'⟩ := b;obtain ⟨rfl, rfl⟩ := h1;obtain rfl := h2
 rfl
theorem aev (w : World) (a b : Cl) (d : Nat) : (Op.equalIn (d + 3) 72 (clV a) (clV b)).run prog w = .ok (decide (a = b)) w := by
 have hb := yU w a.b b.b d;have hp := ae3 w a.s a.m b.s b.m d;unfold clV;rw [show d + 3 = (d + 2) + 1 from rfl, run_equalIn_struct w (d + 2) 72 _ _ (by kernel_rfl) (by kernel_rfl)];simp only [Program.fieldsOf, underlying72];rw [ui ?_ (yV w a) (yV w b) hp];rotate_left
 ·simp
 rw [ui ?_ (yd w a) (yd w b) hb];rotate_left
 ·simp
 rw [afB];clear hb hp;by_cases k1 : a.s = b.s /\ a.m = b.m
 ·by_cases k2 : a.b = b.b
  ·rw [ao k1, ao k2, ao (aiP k1 k2)];simp
  ·rw [ao k1, am k2, am (fun e : a = b => k2 (by rw [e]))];simp
 ·rw [am k1, am (fun e : a = b => k1 (by rw [e]; exact ⟨rfl, rfl⟩))];simp
theorem aia : prog.eqGuardType prog.depth 72 = false := by kernel_rfl
section
variable {ρ : Operand -> Value} {o : Oper} {x y : Operand} {w : World} {t : TypeId} {a b : Cl}
theorem uS (c : Bool) (ho : o.op = .binOp .neq 72 x y t) (hx : ρ x = clV a) (hy : ρ y = clV b) (h : (!decide (a = b)) = c) : (execOp ρ o).run prog w = .ok (.value (.bool c)) w := by
 subst h; exact pK aia (aev w a b 9997) ho hx hy
end
section
variable {ρ : Operand -> Value} {o : Oper} {x y : Operand} {w : World} {s m : Int} {b : Blk}
theorem zR (s m : Int) : (Instr.build 70 #[(0, .int .i64 s), (1, .int .i64 m)]).run prog w = .ok (plV s m) w := by kernel_rfl
theorem xK (ho : o.op = .build 70 #[(0, x), (1, y)]) (hx : ρ x = .int .i64 s) (hy : ρ y = .int .i64 m) : (execOp ρ o).run prog w = .ok (.value (plV s m)) w := by
 have h := zR (w := w) s m;unfold execOp;simp only [ho, List.map_toArray, List.map_cons, List.map_nil, hx, hy, Sem.run_bind, h, Result.andThen_ok, Sem.run_pure]
theorem abX (s m : Int) (b : Blk) : (Instr.build 72 #[(0, plV s m), (1, blk b)]).run prog w = .ok (clV ⟨s, m, b⟩) w := by
 have hz := rv qd w;have h1 := iS (place := fun i => (#[(0, 2), (2, 64)] : Array (Nat × Nat))[i]?) (i := 0) (off := 0) (size := 2) (v := plV s m) (pre := []) (mid := cT 0 0) (post := cel aE) (vs := cT s m) (rest := [(1, blk b)]) rfl rfl rfl rfl rfl;have h2 := iS (place := fun i => (#[(0, 2), (2, 64)] : Array (Nat × Nat))[i]?) (i := 1) (off := 2) (size := 64) (v := blk b) (pre := cT s m) (mid := cel aE) (post := []) (vs := cel b) (rest := []) rfl rfl (aG b) rfl (aG aE);simp only [List.nil_append, List.append_nil] at h1 h2;have h3 := h1.trans h2;have hz' : (zeroValue 72).run prog w = .ok (.agg (cT 0 0 ++ cel aE).toArray) w := hz;have hc : (Value.agg (cT 0 0 ++ cel aE).toArray).cells = (cT 0 0 ++ cel aE).toArray := rfl;simp only [Instr.build, Sem.run_bind, hz', run_underlying underlying72, Result.andThen_ok, hc];refine Eq.trans (congrArg (fun r => Result.andThen r _) (?h : _ = Result.ok #[(0, 2), (2, 64)] w)) ?_
 case h => kernel_rfl
 simp only [Result.andThen_ok];have h4 : Instr.fill (fun i => (#[(0, 2), (2, 64)] : Array (Nat × Nat))[i]?) (cT s m ++ cel b).toArray [] = some (cT s m ++ cel b).toArray := by rw [Instr.fill]
 rw [h3.trans h4]
 rfl
theorem aaO (ho : o.op = .build 72 #[(0, x), (1, y)]) (hx : ρ x = plV s m) (hy : ρ y = blk b) : (execOp ρ o).run prog w = .ok (.value (clV ⟨s, m, b⟩)) w := by
 have h := abX (w := w) s m b;unfold execOp;simp only [ho, List.map_toArray, List.map_cons, List.map_nil, hx, hy, Sem.run_bind, h, Result.andThen_ok, Sem.run_pure]
end
theorem pL (w : World) (c : Cl) : RdE bQ (w.alloc (.cells (dq c).toArray 72)) (w.heap.size + 1) (some ⟨w.heap.size, 0, none⟩) 1 [c] :=
 fp w (dq c).toArray 72 (by simp [bY]; rfl)
open Go.RowKit Go.ChangeShapes Go.WideShapes Go.ChangeAt Go.Deep
theorem aa8 : prog.cellsOf 64 = 64 := by kernel_rfl
section
variable {H : Type} {enc : TypeId × Value -> H} {W : World} {base : Nat} {v : Value} {d : DataW H} {p : List MemPlace}
theorem aiK {m : Nat} {x : Value} {y : DataW H × List MemPlace} (h : DataW.trod enc prog W 0 (fun _ => true) true m 5 [x] = some y) : ∃ u : UInt8, x = .int .u8 (u.toNat : Int) := by
 obtain ⟨k, e, _, hw⟩ := DataW.trod_int underlying5 h;have hr : 0 <= k /\ k <= 255 := bounds_u8 hw;injection e with e;refine ⟨UInt8.ofNat k.toNat, ?_⟩;rw [e, UInt8.toNat_ofNat']
 congr 1
 omega
theorem ua {fuel : Nat} {cs : List Value} {x : DataW H × List MemPlace} (h : DataW.trod enc prog W 0 (fun _ => true) true fuel 64 cs = some x) : ∃ b : Blk, cs = cel b := by
 obtain ⟨xs, m, _, _, hlen, hn, hel⟩ := DataW.trod_array nD h;rw [aa8] at hlen;rw [agl] at hel;have hu : ∀ i : Fin 64, ∃ u : UInt8, cs[i.val]? = some (.int .u8 (u.toNat : Int)) := fun i => by
  have h1 := hel i.val i.isLt;have hi : i.val < cs.length := by have := i.isLt; omega
  have hd : (cs.drop (i.val * 1)).take 1 = [cs[i.val]] := by
   rw [Nat.mul_one, List.drop_eq_getElem_cons hi]
   rfl
  have hx : i.val < xs.length := by have := i.isLt; omega
  rw [hd, List.getElem?_eq_getElem hx] at h1;obtain ⟨u, hu⟩ := aiK h1;exact ⟨u, by rw [List.getElem?_eq_getElem hi, hu]⟩
 obtain ⟨f, hf⟩ := Classical.axiomOfChoice hu;refine ⟨Vector.ofFn f, ?_⟩;apply List.ext_getElem?;intro i;by_cases hi : i < 64
 ·rw [hf ⟨i, hi⟩, fx _ hi, gK _ hi];simp
 ·rw [List.getElem?_eq_none (by omega), List.getElem?_eq_none (by rw [aG]; omega)]
end
theorem abJ : prog.cellsOf 3 = 1 := by kernel_rfl
section
variable {H : Type} {enc : TypeId × Value -> H} {W : World} {base : Nat} {v : Value} {d : DataW H} {p : List MemPlace}
theorem abv {m : Nat} {x : Value} {y : DataW H × List MemPlace} (h : DataW.trod enc prog W 0 (fun _ => true) true m 3 [x] = some y) : ∃ k : Int, x = .int .i64 k := by
 obtain ⟨k, e, _, hw⟩ := DataW.trod_int underlying3 h;injection e with e;exact ⟨k, e⟩
end
theorem ahN : prog.cellsOf 72 = 66 := by kernel_rfl
theorem yT : prog.cellsOf 70 = 2 := by kernel_rfl
section
variable {H : Type} {enc : TypeId × Value -> H} {W : World} {base : Nat} {v : Value} {d : DataW H} {p : List MemPlace}
theorem adC {fuel : Nat} {cs : List Value} {x : DataW H × List MemPlace} (h : DataW.trod enc prog W 0 (fun _ => true) true fuel 70 cs = some x) : ∃ s m : Int, cs = cT s m := by
 obtain ⟨xs, k, _, _, hlen, hn, hel⟩ := DataW.trod_struct underlying70 h;rw [yT] at hlen;have hn' : xs.length = 2 := hn
 match cs, hlen, xs, hn' with
 |[a, b], _, [y0, y1], _ =>
  have e0 : DataW.trod enc prog W 0 (fun _ => true) true k 3 ((List.drop 0 [a, b]).take (prog.cellsOf 3)) = some y0 := hel 0 _ rfl;rw [abJ] at e0;have e1 : DataW.trod enc prog W 0 (fun _ => true) true k 3 ((List.drop 1 [a, b]).take (prog.cellsOf 3)) = some y1 := hel 1 _ rfl;rw [abJ] at e1;obtain ⟨s, rfl⟩ := abv (show DataW.trod enc prog W 0 (fun _ => true) true k 3 [a] = some y0 from e0);obtain ⟨m, rfl⟩ := abv (show DataW.trod enc prog W 0 (fun _ => true) true k 3 [b] = some y1 from e1);exact ⟨s, m, rfl⟩
theorem afM {fuel : Nat} {cs : List Value} {x : DataW H × List MemPlace} (h : DataW.trod enc prog W 0 (fun _ => true) true fuel 72 cs = some x) : ∃ c : Cl, cs = dq c := by
 obtain ⟨xs, k, _, _, hlen, hn, hel⟩ := DataW.trod_struct underlying72 h;rw [ahN] at hlen;have hn' : xs.length = 2 := hn
 match xs, hn' with
 |[y0, y1], _ =>
  have e0 : DataW.trod enc prog W 0 (fun _ => true) true k 70 ((List.drop 0 cs).take (prog.cellsOf 70)) = some y0 := hel 0 _ rfl;rw [yT] at e0;have e1 : DataW.trod enc prog W 0 (fun _ => true) true k 64 ((List.drop 2 cs).take (prog.cellsOf 64)) = some y1 := hel 1 _ rfl;rw [aa8] at e1;obtain ⟨s, m, h0⟩ := adC e0;obtain ⟨b, h1⟩ := ua e1;refine ⟨⟨s, m, b⟩, ?_⟩;have e : cs = (cs.drop 0).take 2 ++ (cs.drop 2).take 64 := by
   rw [List.drop_zero, List.take_of_length_le (l := cs.drop 2) (by simp; omega), List.take_append_drop]
  rw [e, h0, h1]
  rfl
end
section
variable {H : Type} {enc : TypeId × Value -> H} {W : World} {base : Nat} {v : Value} {d : DataW H} {p : List MemPlace}
theorem jY {α : Type} (E : Elt α) (Good : α -> Prop) (hc : prog.cellsOf E.t = E.n) {fuel : Nat} {cs : List Value} {x : DataW H × List MemPlace} (hf : DataW.trod enc prog W 0 (fun _ => true) true fuel E.s cs = some x)
  (hE : ∀ (fuel : Nat) (cs : List Value) (x : DataW H × List MemPlace), DataW.trod enc prog W 0 (fun _ => true) true fuel E.t cs = some x -> ∃ a, cs = E.cel a /\ Good a) :
  ∃ (A : Option Addr) (n c : Nat) (l : List α), cs = [.slice A n c] /\ RdE E W W.heap.size A n l /\ n <= c /\ c <= maxLen /\ ∀ k, k < n -> Good (l.getD k E.d) := by
 rcases open_slice E.und hf with ⟨hcs, hx⟩ | ⟨a, len0, cap, m, n, D, Pl, hcs, hb, hl, hm, hmm, hx, hel⟩
 ·exact ⟨none, 0, 0, [], hcs, RdE.nil _ _ _, by omega, by unfold maxLen; omega, fun k hk => absurd hk (by omega)⟩
 ·simp only [if_true] at hmm;subst hmm
  haveI : Inhabited α := ⟨E.d⟩
  obtain ⟨f, hf2⟩ := choose_lt (α := α) (p := fun i b => W.cells? 0 (a.add (i * E.n)) E.n = some (E.cel b) /\ Good b) (n := m) (fun i hi => by
   obtain ⟨cs', h1, h2⟩ := hel i hi;rw [hc] at h1;obtain ⟨b, rfl, hg⟩ := hE _ _ _ h2;exact ⟨b, h1, hg⟩)
  have hp := E.pos;refine ⟨some a, len0, m, (List.range len0).map f, hcs, ⟨by simp, fun k hk => ?_⟩, hl, hm, fun k hk => ?_⟩
  ·obtain ⟨b, off, spot⟩ := a;have hzero : ∀ i, ∃ u, (E.cel (f i))[0]? = some u := fun i => ⟨_, List.getElem?_eq_getElem (by rw [E.len]; exact hp)⟩
   have hspot : spot = none := by
    obtain ⟨u, hu⟩ := hzero 0;have h0 := (World.cells?_some (hf2 0 (by omega)).1).2.2 0 hp;rw [hu] at h0;have := World.cell?_spot h0
    simpa [Addr.add] using this
   subst hspot;have hcc := World.cells?_some (hf2 k (by omega)).1;refine ⟨b, off, rfl, ?_, fun j u hj => ?_⟩
   ·obtain ⟨u, hu⟩ := hzero k;have h0 := hcc.2.2 0 hp;rw [hu, add_mid, add_mid] at h0;exact World.block_lt_of_cell? W _ h0
   ·have hlt : j < E.n := by have := (List.getElem?_eq_some_iff.1 hj).1; rwa [E.len] at this
    have h1 := hcc.2.2 j hlt;rw [add_mid, add_mid] at h1;rw [h1, <- hj];simp [List.getD, hk]
  ·simpa [List.getD, hk] using (hf2 k (by omega)).2
theorem aac {α : Type} (E : Elt α) (Good : α -> Prop) (hc : prog.cellsOf E.t = E.n) (hv : Value.okWide prog W .any base E.s v) (h : DataW.Trod enc prog W 0 (fun _ => true) true E.s v d p)
  (hE : ∀ (fuel : Nat) (cs : List Value) (x : DataW H × List MemPlace), DataW.trod enc prog W 0 (fun _ => true) true fuel E.t cs = some x -> ∃ a, cs = E.cel a /\ Good a) :
  ∃ (A : Option Addr) (n c : Nat) (l : List α), v = .slice A n c /\ RdE E W W.heap.size A n l /\ n <= c /\ c <= maxLen /\ ∀ k, k < n -> Good (l.getD k E.d) := by
 obtain ⟨a0, len0, cap0, rfl⟩ := okWide_slice E.und hv;obtain ⟨fuel, hf⟩ := h;obtain ⟨A, n, c, l, hcs, rest⟩ := jY E Good hc hf hE;simp [Value.cells] at hcs;obtain ⟨rfl, rfl, rfl⟩ := hcs;exact ⟨_, _, _, l, rfl, rest⟩
theorem hJ (fuel : Nat) (cs : List Value) (x : DataW H × List MemPlace) (h : DataW.trod enc prog W 0 (fun _ => true) true fuel 3 cs = some x) : ∃ a : Int, cs = [.int .i64 a] /\ (Lit.int .i64 a).wf = true := by
 obtain ⟨k, e, _, hw⟩ := DataW.trod_int underlying3 h;exact ⟨k, e, hw⟩
end
def dw : Elt Int where
 s := 36
 t := 3
 n := 1
 by_ := 8
 cel x := [.int .i64 x]
 d := 0
 z := .int .i64 0
 pos := by omega
 small := by omega
 len _ := rfl
 one x v hv := by simp at hv; subst hv; rfl
 und := underlying36
 info := by kernel_rfl
 zc := rfl
theorem aaA (l : List Int) : bY dw l = l.map fun x => .int .i64 x := by
 induction l with
 |nil => rfl
 |cons x l ih => rw [eH, ih]; rfl
section
variable {w : World} {B n : Nat} {A : Option Addr} {l : List Int}
theorem RdE.int (h : RdE dw w B A n l) {k : Nat} (hk : k < n) : ∃ b off, A = some ⟨b, off, none⟩ /\ b < B /\ w.cell? ⟨b, off + k, none⟩ = some (.int .i64 (l.getD k 0)) := by
 obtain ⟨b, off, e, hb, hc⟩ := h.2 k hk;refine ⟨b, off, e, hb, ?_⟩;have h0 := hc 0 (.int .i64 (l.getD k 0)) rfl;rwa [show off + k * dw.n + 0 = off + k from by show off + k * 1 + 0 = _; omega] at h0
end
theorem acV {w : World} {g c i : Nat} {f : Nat -> Int} {e : TypeId} (h : w.rowIs g e c (fun j => .int .i64 (f j))) (x : Int) : (w.setCell ⟨g, i, none⟩ (.int .i64 x)).rowIs g e c (fun j => .int .i64 (upd f i x j)) :=
 (h.set i _).congr fun j _ => by
  unfold upd
  split
  ·rfl
  ·rfl
theorem aaY {w : World} {g B n : Nat} {f : Nat -> Int} {l : List Int} (h : w.rowIs g 3 n (fun j => .int .i64 (f j))) (hB : B <= g) (hl : l.length = n) (hf : ∀ j, j < n -> f j = l.getD j 0) (hm : n <= maxLen) : aO dw w B (.slice (some ⟨g, 0, none⟩) n n) l := by
 obtain ⟨cur, hg, hn, hc⟩ := h;refine aO.of_block (cs := cur) hg ?_ hB hl hm;rw [aaA];apply List.ext_getElem?;intro k;by_cases hk : k < n
 ·rw [Array.getElem?_toList, hc k hk, List.getElem?_map, List.getElem?_eq_getElem (by omega)]
  show some (Value.int .i64 (f k)) = _
  rw [hf k hk];simp [List.getD, List.getElem?_eq_getElem (show k < l.length by omega)]
 ·rw [List.getElem?_eq_none (by simp; omega), List.getElem?_eq_none (by simp; omega)]
theorem nY (l x : List UInt8) (off : Nat) : splice (vals l) off (vals x) = vals (splice l off x) := by
 unfold splice vals;simp [List.map_take, List.map_drop]
def ci (w : World) (g : Nat) (t : TypeId) (l : List UInt8) : Prop := w.heap[g]? = some (.cells (vals l).toArray t (0, 0))
section
variable {w w' : World} {g : Nat} {t : TypeId} {l : List UInt8}
theorem ci.lt (h : ci w g t l) : g < w.heap.size := (Array.getElem?_eq_some_iff.1 h).1
theorem ci.below {B : Nat} (h : ci w g t l) (hB : g < B) (hb : Below B w w') : ci w' g t l := (hb.block g hB).trans h
theorem ci.grown {k : Nat} (h : ci w g t l) (hk : g ≠ k) (hb : w.grownBy w' (some k)) : ci w' g t l := (hb.block g h.lt (fun e => hk (by injection e))).trans h
theorem ci.past (h : ci w g t l) (o : Obj) : ci (w.alloc o) g t l := cE h o
theorem ci.cell (h : ci w g t l) {j : Nat} (hj : j < l.length) : w.cell? ⟨g, j, none⟩ = some (.int .u8 (bt l j)) := by
 rw [cell_of_row w g j _ t (0, 0) h, List.getElem?_toArray, oU hj]
theorem ci.rd (h : ci w g t l) {p k : Nat} (hp : p + k <= l.length) : Rd w w.heap.size (some ⟨g, p, none⟩) k (piece l p k) :=
 ⟨bU hp, fun j hj => ⟨g, p, rfl, h.lt, by rw [h.cell (by omega), gi hj]⟩⟩
theorem ci.range (h : ci w g t l) (hl : l.length = 64) : w.rangeAt g 0 (cel (ofL l)) := fun j v hj => by
 have hlt : j < 64 := by have := (List.getElem?_eq_some_iff.1 hj).1; rwa [aG] at this
 rw [Nat.zero_add, h.cell (by omega), <- hj, fx _ hlt, o6 _ hlt]
theorem ci.new (w : World) (l : List UInt8) (t : TypeId) : ci (w.alloc (.cells (vals l).toArray t)) w.heap.size t l := heap_alloc_new w _
theorem ci.blk (w : World) (b : Blk) (t : TypeId) : ci (w.alloc (.cells (cel b).toArray t)) w.heap.size t b.toList := heap_alloc_new w _
theorem ci.row (h : ci w g t l) : w.rowIs g t l.length (fun j => .int .u8 (bt l j)) :=
 ⟨_, h, by simp [bZ], fun j hj => by rw [List.getElem?_toArray, oU hj]⟩
end
theorem du {w : World} {ops : Array Oper} {rest : List Oper} {o : Oper} {a : Act} {Q : Exit -> Act -> World -> Prop} (hgd : o.guard = none) (d s : Operand)
  (ho : o.op = .call { callee := .builtin .copy, args := #[d, s], argTypes := #[143, 143] }) (g off n c m c' N : Nat) (A : Option Addr) (t : TypeId) (l x : List UInt8)
  (hd : a.eval d = .slice (some ⟨g, off, none⟩) n c) (hs : a.eval s = .slice A m c') (hS : ci w g t l) (hr : Rd w N A m x) (hmn : m <= n) (hfit : off + m <= l.length)
  (h : ∀ w', ci w' g t (splice l off x) -> w.grownBy w' (some g) -> wpList prog ops Q rest (a.put o.dst (goInt m)) w') : wpList prog ops Q (o :: rest) a w := by
 have hx := hr.1;rcases A with _ | ad
 ·have h0 : m = 0 := by
   rcases Nat.eq_zero_or_pos m with h | h
   ·exact h
   ·obtain ⟨b, off, e, _⟩ := hr.2 0 h;cases e
  subst h0;obtain rfl : x = [] := List.eq_nil_of_length_eq_zero hx;refine wpList_copy_nothing hgd d s _ _ ho 5 underlying143 (by kernel_rfl) _ _ _ _ _ _ hd hs (Nat.zero_min _) ?_;exact h w (by simpa [splice] using hS) (World.grownBy.refl w _)
 ·have hcl : (vals x).length = m := by rw [bZ, hx]
  refine wpList_copy_own hgd d s _ _ ho 5 underlying143 (by kernel_rfl) g off n c ad m c' hd hs _ t hS (vals x) (by rw [hcl]; exact (Nat.min_eq_left hmn).symm) (fun j v hj => ?_) (by simp [hcl, bZ]; omega) (kW x) ?_
  ·have hlt : j < m := by have := (List.getElem?_eq_some_iff.1 hj).1; omega
   obtain ⟨b, o2, e, _, hc⟩ := hr.2 j hlt;injection e with e;subst e;rw [Addr.add_mid, hc, <- hj, oU (by omega)]
  ·have hrow := setRow_heap w g (vals l).toArray ((vals l).toArray.toList.take off ++ (vals x ++ (vals l).toArray.toList.drop (off + (vals x).length))).toArray t (0, 0) hS;have e : (vals l).toArray.toList.take off ++ (vals x ++ (vals l).toArray.toList.drop (off + (vals x).length)) = vals (splice l off x) := by
    rw [<- nY]
    rfl
   rw [hcl];rw [hcl] at hrow e;refine h _ ?_ ⟨rfl, rfl, rfl, by simp [World.setRow], fun k hk hne => setRow_other w g k _ (fun e => hne (by rw [e]))⟩;unfold ci;rw [e] at hrow ⊢;exact hrow
def od (w : World) (a b c d : Blk) : World := (((w.alloc (.cells (cel a).toArray 64)).alloc (.cells (cel b).toArray 64)).alloc (.cells (cel c).toArray 64)).alloc (.cells (cel d).toArray 64)
theorem ajK (w : World) (a b c d : Blk) : (od w a b c d).rangeAt w.heap.size 0 (cel a) /\ (od w a b c d).rangeAt (w.heap.size + 1) 0 (cel b) /\ (od w a b c d).there (w.heap.size + 1 + 1) 0 64 /\
  (od w a b c d).rowIs (w.heap.size + 1 + 1 + 1) 64 64 (fun j => .int .u8 (byt d j)) /\ Below w.heap.size w (od w a b c d) := by
 unfold od;have e1 := World.size_alloc (w := w) (o := Obj.cells (cel a).toArray 64);have e2 := World.size_alloc (w := (w.alloc (.cells (cel a).toArray 64))) (o := Obj.cells (cel b).toArray 64);have e3 := World.size_alloc (w := (w.alloc (.cells (cel a).toArray 64)).alloc (.cells (cel b).toArray 64)) (o := Obj.cells (cel c).toArray 64);refine ⟨World.rangeAt_alloc (World.rangeAt_alloc (World.rangeAt_alloc (b8 w (cel a) _) _) _) _, ?_, ?_, ?_, ?_⟩
 ·rw [<- e1]; exact World.rangeAt_alloc (World.rangeAt_alloc (b8 _ (cel b) _) _) _
 ·rw [<- e1, <- e2]; exact World.there_alloc (dj _ c _) _
 ·rw [<- e1, <- e2, <- e3]; exact yk _ d _
 ·exact ((((Below.refl _ w).alloc aj _).alloc (by omega) _).alloc (by omega) _).alloc (by omega) _
def qN (old now : Blk) (n : Int) : Blk := Vector.ofFn fun i => if (i.val : Int) < n then now[i] else old[i]
theorem uW (old now : Blk) (n : Int) (i : Nat) (h : i < 64) : (qN old now n)[i] = if (i : Int) < n then now[i] else old[i] := by simp [qN]
theorem uF (old now : Blk) (n : Int) {i : Nat} (h : i < 64) : byt (qN old now n) i = if (i : Int) < n then byt now i else byt old i := by
 rw [gK _ h, uW _ _ _ _ h]
 split
 ·rw [gK _ h]
 ·rw [gK _ h]
def di (b : List UInt8) : List UInt8 := b ++ List.replicate (44 - b.length) 0
def eW (n : Nat) (b : List UInt8) : List UInt8 := bw 8 8 n ++ di b
def gq (n : Nat) (b : List UInt8) : List UInt8 := eW n b ++ (bw 8 4 (more 0 (eW n b)) ++ bw 8 8 n)
theorem dK {b : List UInt8} (h : b.length <= 44) : (di b).length = 44 := by simp [di]; omega
theorem ix {b : List UInt8} (n : Nat) (h : b.length <= 44) : (eW n b).length = 52 := by simp [eW, aL, dK h]
theorem j4 {b : List UInt8} (n : Nat) (h : b.length <= 44) : (gq n b).length = 64 := by simp [gq, aL, ix n h]
def eU (l : List UInt8) : Nat := val 8 (piece l 0 8)
def agO (l : List UInt8) : Nat := val 8 (piece l 56 8)
def l6 (l : List UInt8) : Nat := val 8 (piece l 52 4)
def lP (l : List UInt8) : Nat := more 0 (piece l 0 52)
def cZ (l : List UInt8) : Nat := if eU l = 0 \/ eU l ≠ agO l then 5 else if l6 l ≠ lP l then 6 else 0
def dA (l : List UInt8) : Nat := if cZ l = 0 then eU l else 0
def da (l : List UInt8) : List UInt8 := if cZ l = 0 then piece l 8 44 else []
theorem lp {l : List UInt8} (h : eU l = 0 \/ eU l ≠ agO l) : cZ l = 5 := by unfold cZ; rw [if_pos h]
theorem tp {l : List UInt8} (h0 : eU l ≠ 0) (h1 : eU l = agO l) (h : l6 l ≠ lP l) : cZ l = 6 := by
 unfold cZ;rw [if_neg (by omega), if_pos h]
theorem yL {l : List UInt8} (h0 : eU l ≠ 0) (h1 : eU l = agO l) (h : l6 l = lP l) : cZ l = 0 := by
 unfold cZ;rw [if_neg (by omega), if_neg (by omega)]
theorem afv {l : List UInt8} (h : cZ l = 0) : eU l ≠ 0 /\ eU l = agO l /\ l6 l = lP l := by
 unfold cZ at h
 split at h
 ·omega
 ·split at h
  ·omega
  ·omega
theorem sj {l : List UInt8} (h : cZ l = 0) : dA l = eU l := if_pos h
theorem kg {l : List UInt8} (h : cZ l ≠ 0) : dA l = 0 := if_neg h
theorem sS {l : List UInt8} (h : cZ l = 0) : da l = piece l 8 44 := if_pos h
theorem lr {l : List UInt8} (h : cZ l ≠ 0) : da l = [] := if_neg h
theorem aaH {l : List UInt8} : dA l = 0 ↔ cZ l ≠ 0 := by
 constructor
 ·intro h e;rw [sj e] at h;exact (afv e).1 h
 ·exact kg
theorem aeo {l : List UInt8} (h : l.length = 64) : eU l < 18446744073709551616 := cJ (b := l) (p := 0) (k := 8) (by omega)
theorem oO {l : List UInt8} (h : l.length = 64) : l6 l < 4294967296 := cJ (b := l) (p := 52) (k := 4) (by omega)
theorem oN (l : List UInt8) : lP l < 4294967296 := oW (by omega) _
theorem aeS {l : List UInt8} (h : l.length = 64) : dA l < 18446744073709551616 := by
 have := aeo h;unfold dA
 split <;> omega
section
variable {n : Nat} {b : List UInt8} (hb : b.length <= 44)
include hb
end
def fE (n : Nat) (b : List UInt8) : Nat := if n = 0 then 2 else if 44 < b.length then 3 else 0
def fo (n : Nat) (b : List UInt8) : Blk := if fE n b = 0 then ofL (gq n b) else aE
theorem sN {n : Nat} {b : List UInt8} (h0 : n ≠ 0) (hb : b.length <= 44) : fE n b = 0 := by unfold fE; rw [if_neg h0, if_neg (by omega)]
theorem y6 {n : Nat} {b : List UInt8} (h : fE n b = 0) : fo n b = ofL (gq n b) := if_pos h
theorem max_u32 : IntKind.u32.max = 4294967295 := by decide
theorem mz (r : Nat) (h : r < 4294967296) : bits .xor .u32 IntKind.u32.max (r : Int) = ((neg r : Nat) : Int) := by
 rw [max_u32];exact u32_xor_nat 4294967295 r (by omega) h
theorem va (r : Nat) (l : List UInt8) {k : Nat} (h : k < l.length) : tak (run r (l.take k)) l[k].toNat = run r (l.take (k + 1)) := by
 rw [List.take_succ_eq_append_getElem h, pY]
 rfl
theorem uz (s : Nat) (A : Option Addr) (n c N : Nat) (b : List UInt8) (w : World) (T : Tab w) (hs : s < 4294967296) (hb : Rd w N A n b) (hn : n <= maxLen) :
  Calls prog 139 #[.int .u32 s, .slice A n c] w fun e w' => e = .returned (.int .u32 (more s b)) /\ w = w' := by
 have hnb := mz s hs;have hnl := s6 hs;have hlen := hb.1;unfold maxLen at hn;have HL := af hlen;clear hlen;go_enter func139, ntmps139;go_wp2;clear hnb;have HM : Hid (more s b = neg (run (neg s) b)) := af rfl;generalize neg s = r0 at *
 go_loop [5, 12] (fun x i => ∃ j : Nat, j <= n /\ i = .int .i64 j /\ x = .int .u32 (run r0 (b.take j))) (fun _ i => n - (intOf i).toNat)
 case atStart => exact ⟨0, by omega, rfl, rfl⟩
 case round =>
  obtain ⟨j, hj, rfl, rfl⟩ := hrel;by_cases hlt : j < n
  ·obtain ⟨bA, oA, rfl, hA, cA⟩ := hb.2 j hlt;have hjl : j < b.length := by have := HL.out; omega
   rw [fW hjl] at cA;have HS := af (va r0 b hjl);have hu := UInt8.toNat_lt b[j];generalize b[j].toNat = u at *;have hrl := qh hnl (b.take j);go_wp2_with fail;refine (abi (run r0 (b.take j)) u _ T hrl hu).mono ?_;rintro e w' ⟨rfl, rfl⟩;go_wp2
   go_round
   case rel => exact ⟨j + 1, by omega, by go_num, by rw [HS.out]⟩
   case measure => simp [intOf]; omega
  ·have h : j = n := by omega
   subst h;have ht : b.take j = b := List.take_of_length_le (Nat.le_of_eq HL);rw [ht];have hrl := qh hnl b;have hnb := mz (run r0 b) hrl;clear ht;go_wp2;go_ret;exact ⟨br (by first | rw [HM.out] | rw [HM.out, hnb]), rfl⟩
theorem nO (s : Nat) (A : Option Addr) (n c N : Nat) (b : List UInt8) (w : World) (hs : s < 4294967296) (hb : Rd w N A n b) (hn : n <= maxLen) :
  Calls prog 151 #[.int .u32 s, .slice A n c] w fun e w' => e = .returned (.int .u32 (more s b)) /\ w = w' := by
 have hnb := mz s hs;have hnl := s6 hs;have hlen := hb.1;unfold maxLen at hn;have HL := af hlen;clear hlen;go_enter func151, ntmps151;go_wp2;clear hnb;have HM : Hid (more s b = neg (run (neg s) b)) := af rfl;generalize neg s = r0 at *
 go_loop [5, 6] (fun x i => ∃ j : Nat, j <= n /\ i = .int .i64 j /\ x = .int .u32 (run r0 (b.take j))) (fun _ i => n - (intOf i).toNat)
 case atStart => exact ⟨0, by omega, rfl, rfl⟩
 case round =>
  obtain ⟨j, hj, rfl, rfl⟩ := hrel;by_cases hlt : j < n
  ·obtain ⟨bA, oA, rfl, hA, cA⟩ := hb.2 j hlt;have hjl : j < b.length := by have := HL.out; omega
   rw [fW hjl] at cA;have HS := af (va r0 b hjl);have hu := UInt8.toNat_lt b[j];generalize b[j].toNat = u at *;have hrl := qh hnl (b.take j);go_wp2_with fail;refine (uB (run r0 (b.take j)) u _ hrl hu).mono ?_;rintro e w' ⟨rfl, rfl⟩;go_wp2
   go_round
   case rel => exact ⟨j + 1, by omega, by go_num, by rw [HS.out]⟩
   case measure => simp [intOf]; omega
  ·have h : j = n := by omega
   subst h;have ht : b.take j = b := List.take_of_length_le (Nat.le_of_eq HL);rw [ht];have hrl := qh hnl b;have hnb := mz (run r0 b) hrl;clear ht;go_wp2;go_ret;exact ⟨br (by first | rw [HM.out] | rw [HM.out, hnb]), rfl⟩
theorem xD (A : Option Addr) (n c N : Nat) (b : List UInt8) (w : World) (T : Tab w) (hb : Rd w N A n b) (hn : n <= maxLen) :
  Calls prog 138 #[.slice A n c] w fun e w' => e = .returned (.int .u32 (more 0 b)) /\ w = w' := by
 go_enter func138, ntmps138;go_wp2_with fail;refine (uz 0 A n c N b _ T (by omega) hb hn).mono ?_;rintro e w' ⟨rfl, rfl⟩;go_wp2;go_ret;exact ⟨rfl, rfl⟩
theorem nN (A : Option Addr) (n c N : Nat) (b : List UInt8) (w : World) (hb : Rd w N A n b) (hn : n <= maxLen) :
  Calls prog 162 #[.slice A n c] w fun e w' => e = .returned (.int .u32 (more 0 b)) /\ w = w' := by
 go_enter func162, ntmps162;go_wp2_with fail;refine (nO 0 A n c N b _ (by omega) hb hn).mono ?_;rintro e w' ⟨rfl, rfl⟩;go_wp2;go_ret;exact ⟨rfl, rfl⟩
section
variable {ρ : Operand -> Value} {o : Oper} {x y z u : Operand} {w : World} {t : TypeId} {p q a b c : Value}
theorem jO (ho : o.op = .slice t x (some y) (some z) (some u)) (hx : ρ x = p) (hy : ρ y = a) (hz : ρ z = b) (hu : ρ u = c) (h : (Instr.sliceAt t p (some a) (some b) (some c)).run prog w = .ok q w) : (execOp ρ o).run prog w = .ok (.value q) w := by
 unfold execOp;simp only [ho, hx, hy, hz, hu, Option.map_some, Sem.run_bind, h, Result.andThen_ok, Sem.run_pure]
end
section
variable (g : Nat) (w : World)
theorem mg {i j k : Nat} (h1 : i <= j) (h2 : j <= k) (h3 : k <= 64) (h4 : i < k) : (Instr.sliceAt 64 (.pointer (some ⟨g, 0, none⟩)) (some (.int .i64 (i : Int))) (some (.int .i64 (j : Int))) (some (.int .i64 (k : Int)))).run prog w = .ok (.slice (some ⟨g, i, none⟩) (j - i) (k - i)) w := by
 have e1 : (0 <= (k : Int) /\ (k : Int) <= 64) := by omega
 have e2 : (0 <= (j : Int) /\ (j : Int) <= (k : Int)) := by omega
 have e3 : (0 <= (i : Int) /\ (i : Int) <= (j : Int)) := by omega
 have e4 : k ≠ i := by omega
 simp [Instr.sliceAt, Instr.sliceBounds, Instr.sliceBound, Instr.sureAddr, asIntOf, run_underlying nD, Tryz.sizeOf5, Addr.add_mid, e1, e2, e3, e4, h1, h2, h3]
theorem aj7 : (Instr.sliceAt 64 (.pointer (some ⟨g, 0, none⟩)) (some (.int .i64 0)) (some (.int .i64 8)) (some (.int .i64 8))).run prog w = .ok (.slice (some ⟨g, 0, none⟩) 8 8) w := mg g w (i := 0) (j := 8) (k := 8) (by omega) (by omega) (by omega) (by omega)
theorem akd : (Instr.sliceAt 64 (.pointer (some ⟨g, 0, none⟩)) (some (.int .i64 8)) (some (.int .i64 52)) (some (.int .i64 52))).run prog w = .ok (.slice (some ⟨g, 8, none⟩) 44 44) w := mg g w (i := 8) (j := 52) (k := 52) (by omega) (by omega) (by omega) (by omega)
theorem ajN : (Instr.sliceAt 64 (.pointer (some ⟨g, 0, none⟩)) (some (.int .i64 52)) (some (.int .i64 56)) (some (.int .i64 56))).run prog w = .ok (.slice (some ⟨g, 52, none⟩) 4 4) w := mg g w (i := 52) (j := 56) (k := 56) (by omega) (by omega) (by omega) (by omega)
theorem ajX : (Instr.sliceAt 64 (.pointer (some ⟨g, 0, none⟩)) (some (.int .i64 56)) (some (.int .i64 64)) (some (.int .i64 64))).run prog w = .ok (.slice (some ⟨g, 56, none⟩) 8 8) w := mg g w (i := 56) (j := 64) (k := 64) (by omega) (by omega) (by omega) (by omega)
theorem ajI : (Instr.sliceAt 64 (.pointer (some ⟨g, 0, none⟩)) (some (.int .i64 0)) (some (.int .i64 52)) (some (.int .i64 52))).run prog w = .ok (.slice (some ⟨g, 0, none⟩) 52 52) w := mg g w (i := 0) (j := 52) (k := 52) (by omega) (by omega) (by omega) (by omega)
end
section
variable {ρ : Operand -> Value} {o : Oper} {x y : Operand} {w : World} {t : TypeId} {old cs : Array Value}
theorem xG (hz : (prog.info? t).map (·.size) = some cs.size) (he : old.size = cs.size) (h1 : cs.toList.all Value.oneCell' = true) (ho : o.op = .store t x y) (hx : ρ x = .pointer (some ⟨w.heap.size, 0, none⟩)) (hy : ρ y = .agg cs) :
  (execOp ρ o).run prog (w.alloc (.cells old t)).drew = .ok .skip (w.alloc (.cells cs t)).drew := lY (w := w.drew) hz he h1 ho hx hy
end
theorem zU {ρ : Operand -> Value} {o : Oper} {w : World} {t : TypeId} {v : Value} {x0 x1 x2 x3 x4 : Operand} {y0 y1 y2 y3 y4 : Value} (ho : o.op = .build t #[(0, x0), (1, x1), (2, x2), (3, x3), (4, x4)]) (h0 : ρ x0 = y0) (h1 : ρ x1 = y1) (h2 : ρ x2 = y2) (h3 : ρ x3 = y3) (h4 : ρ x4 = y4)
  (h : (Instr.build t #[(0, y0), (1, y1), (2, y2), (3, y3), (4, y4)]).run prog w = .ok v w) : (execOp ρ o).run prog w = .ok (.value v) w := by
 subst h0 h1 h2 h3 h4;unfold execOp;simp only [ho, List.map_toArray, List.map_cons, List.map_nil, Sem.run_bind, h, Result.andThen_ok, Sem.run_pure]
theorem afI {fn : Func} {p : Tmp} {t : TypeId} {cs : Array Value} {d : TypeDesc} (h0 : fn.results = #[.cell p t]) (tmps : Array Value) (w : World) (b : Nat) (hp : tmps.getD p undef = .pointer (some ⟨b, 0, none⟩)) (h : w.heap[b]? = some (.cells cs t (0, 0))) (hu : prog.underlying t = some d) (hd : d.isRow = true) (hz : (prog.info? t).map (·.size) = some cs.size) :
  (results fn tmps).run prog w = .ok (.agg cs) w := by
 have hr : w.rangeAt b 0 cs.toList := fun j v hj => by
  rw [cell_of_row w b (0 + j) cs t (0, 0) h, Nat.zero_add]
  simpa using hj
 have hl : (loadVar t ⟨b, 0, none⟩).run prog w = .ok (.agg cs) w := by
  have := run_loadVar_mid (P := prog) w b 0 t cs.toList d hr hu hd (by simpa using hz)
  simpa using this
 have hp' : tmps[p]?.getD undef = .pointer (some ⟨b, 0, none⟩) := by simpa using hp
 simp [results, h0, hp', asAddr, hl]
theorem qt {w w' : World} {row : Option Nat} (hb : Below w.heap.size w w') : w.grownBy w' row := ⟨hb.os, hb.tape, hb.output, hb.size, fun k hk _ => hb.block k hk⟩
def gF (g : Nat) : Array Value := #[.slice (some ⟨g, 0, none⟩) 8 8, .slice (some ⟨g, 8, none⟩) 44 44, .slice (some ⟨g, 52, none⟩) 4 4, .slice (some ⟨g, 56, none⟩) 8 8, .slice (some ⟨g, 0, none⟩) 52 52]
theorem ag0 (g : Nat) (w : World) : (Instr.build 192 #[(0, .slice (some ⟨g, 0, none⟩) 8 8), (1, .slice (some ⟨g, 8, none⟩) 44 44), (2, .slice (some ⟨g, 52, none⟩) 4 4), (3, .slice (some ⟨g, 56, none⟩) 8 8), (4, .slice (some ⟨g, 0, none⟩) 52 52)]).run prog w = .ok (.agg (gF g)) w := by kernel_rfl
theorem mH (g : Nat) (w : World) : Calls prog 184 #[.pointer (some ⟨g, 0, none⟩)] w fun e w' => e = .returned (.agg #[.slice (some ⟨g, 0, none⟩) 8 8, .slice (some ⟨g, 8, none⟩) 44 44, .slice (some ⟨g, 52, none⟩) 4 4, .slice (some ⟨g, 56, none⟩) 8 8, .slice (some ⟨g, 0, none⟩) 52 52]) /\ Below w.heap.size w w' := by
 go_enter func184, ntmps184;go_wp2_with fail;refine wp_region_still_tail 15 (by kernel_rfl) (by kernel_rfl) ?_;simp only [ae];refine aJ rfl (aB rfl alb) ?_;simp only [aa];refine aJ rfl (aM rfl alb) ?_;simp only [aa];refine aJ rfl (jO rfl alb evk evk evk (aj7 g _)) ?_;simp only [aa];refine aJ rfl (aB rfl alb) ?_;simp only [aa];refine aJ rfl (aM rfl alb) ?_;simp only [aa];refine aJ rfl (jO rfl alb evk evk evk (akd g _)) ?_;simp only [aa];refine aJ rfl (aB rfl alb) ?_;simp only [aa];refine aJ rfl (aM rfl alb) ?_;simp only [aa];refine aJ rfl (jO rfl alb evk evk evk (ajN g _)) ?_;simp only [aa];refine aJ rfl (aB rfl alb) ?_;simp only [aa];refine aJ rfl (aM rfl alb) ?_;simp only [aa];refine aJ rfl (jO rfl alb evk evk evk (ajX g _)) ?_;simp only [aa];refine aJ rfl (aB rfl alb) ?_;simp only [aa];refine aJ rfl (aM rfl alb) ?_;simp only [aa];refine aJ rfl (jO rfl alb evk evk evk (ajI g _)) ?_;simp only [aa];refine wpStill_nil ?_;change wpList _ _ _ _ _ (World.drew _);refine ak2 rfl (zU (v := .agg (gF g)) rfl alb alb alb alb alb (ag0 g _)) ?_;refine aW rfl (xG (w := w) (cs := gF g) ?s1 ?s2 ?s3 rfl (ev rfl) (ev rfl)) ?_
 case s1 => kernel_rfl
 case s2 => rfl
 case s3 => rfl
 refine ah ?_;go_wp2_with fail;refine bodyPost_ret (afI (cs := gF g) (t := 192) rfl _ _ w.heap.size rfl ?h1 underlying192 rfl ?h2) rfl ⟨rfl, ?h3⟩
 case h1 => exact heap_alloc_new w.drew _
 case h2 => kernel_rfl
 case h3 => exact bd ((Below.refl _ w).alloc aj _)
theorem dO {b : List UInt8} {n : Nat} (h : b.length = n) : piece b 0 n = b := by
 subst h;simp [piece]
theorem ic (A : Option Addr) (n c N : Nat) (b : List UInt8) (w : World) (hb : Rd w N A n b) (h1 : 1 <= n) (h2 : n <= 8) :
  Calls prog 185 #[.slice A n c] w fun e w' => e = .returned (.int .u64 (val 8 b)) /\ w = w' := by
 have hp := dO hb.1;have HP := af hp;clear hp;go_enter func185, ntmps185;go_wp2_with fail;refine (jX A n c N b 0 n _ hb (by unfold maxLen; omega) h1 h2 (by omega)).mono ?_;rintro e w' ⟨rfl, rfl⟩;rw [HP.out];go_wp2;go_ret;exact ⟨rfl, rfl⟩
theorem r5 (g off k n : Nat) (t : TypeId) (l : List UInt8) (w : World) (hs : ci w g t l) (h1 : 1 <= k) (h2 : k <= 8) (ho : off + k <= l.length) (hn : n < 256 ^ k) :
  Calls prog 190 #[.slice (some ⟨g, off, none⟩) k k, .int .u64 n] w fun e w' => e = .returned (.tuple #[]) /\ ci w' g t (splice l off (bw 8 k n)) /\ w.grownBy w' (some g) := by
 have HS := af hs;have HL := af (aL 8 k n);clear hs;go_enter func190, ntmps190;go_wp2_with fail;refine (j3 n k w h1 h2 hn).mono ?_;rintro e w1 ⟨v, rfl, hv, hb⟩;obtain ⟨A, c, rfl, hrd, _, _⟩ := hv.made.open_ HL;have HR := af hrd;have HS1 := af (HS.out.below HS.out.lt hb);have HB := af hb;clear hv hrd hb;go_wp2_with (with_reducible refine du rfl _ _ rfl g off k k k c _ A t l (bw 8 k n) rfl rfl HS1.out HR.out (Nat.le_refl _) ho ?_);intro w2 hr2 hg2;have HR2 := af hr2;have HG2 := af hg2;clear hr2 hg2;go_wp2
 go_end0
 exact ⟨rfl, HR2, (qt HB).trans HG2⟩
theorem agZ {b : List UInt8} {j : Nat} : bt (di b) j = if j < b.length then bt b j else 0 := by
 unfold di
 split
 ·rename_i h; exact dc h
 ·rename_i h; rw [cR (by omega), j8]
theorem y7 {n : Nat} {b : List UInt8} {j : Nat} : bt (eW n b) j = if j < 8 then bt (bw 8 8 n) j else if j < 8 + b.length then bt b (j - 8) else 0 := by
 unfold eW
 split
 ·rename_i h; exact dc (by rw [aL]; exact h)
 ·rename_i h
  rw [cR (by rw [aL]; omega), aL, agZ];by_cases h2 : j < 8 + b.length
  ·rw [if_pos (by omega), if_pos h2]
  ·rw [if_neg (by omega), if_neg h2]
theorem afs {n : Nat} {b : List UInt8} {j : Nat} (hb : b.length <= 44) : bt (gq n b) j = if j < 52 then bt (eW n b) j else if j < 56 then bt (bw 8 4 (more 0 (eW n b))) (j - 52) else bt (bw 8 8 n) (j - 56) := by
 have h52 := ix n hb;unfold gq
 split
 ·rename_i h; exact dc (by omega)
 ·rename_i h
  rw [cR (by omega), h52]
  split
  ·rename_i h2; exact dc (by rw [aL]; omega)
  ·rename_i h2; rw [cR (by rw [aL]; omega), aL, show j - 52 - 4 = j - 56 from by omega]
def mO (n : Nat) (b : List UInt8) : List UInt8 := splice (splice (splice aE.toList 0 (bw 8 8 n)) 56 (bw 8 8 n)) 8 b
theorem oQ (n : Nat) : (splice aE.toList 0 (bw 8 8 n)).length = 64 := by rw [length_splice _ _ _ (by simp [aL])]; simp
theorem oE (n : Nat) : (splice (splice aE.toList 0 (bw 8 8 n)) 56 (bw 8 8 n)).length = 64 := by rw [length_splice _ _ _ (by rw [oQ, aL]; omega), oQ]
section
variable {n : Nat} {b : List UInt8} (hb : b.length <= 44)
include hb
theorem iq : (mO n b).length = 64 := by unfold mO; rw [length_splice _ _ _ (by rw [oE]; omega), oE]
theorem tK {j : Nat} : bt (mO n b) j = if 8 <= j /\ j < 8 + b.length then bt b (j - 8) else if 56 <= j /\ j < 64 then bt (bw 8 8 n) (j - 56) else if j < 8 then bt (bw 8 8 n) j else 0 := by
 unfold mO;have hz : bt aE.toList j = 0 := by
  have : aE.toList = List.replicate 64 0 := by decide
  rw [this, j8]
 rw [lg (by rw [oE]; omega), lg (by rw [oQ, aL]; omega), lg (by simp [aL]), aL, hz]
 congr 2
 by_cases h : j < 8
 ·rw [if_pos (by omega), if_pos h, Nat.sub_zero]
 ·rw [if_neg (by omega), if_neg h]
theorem vP : piece (mO n b) 0 52 = eW n b := by
 refine iR (by rw [bU (by rw [iq hb]; omega), ix n hb]) fun j hj => ?_
 rw [bU (by rw [iq hb]; omega)] at hj;rw [gi hj, Nat.zero_add, tK hb, y7];by_cases h8 : j < 8
 ·rw [if_neg (by omega), if_neg (by omega), if_pos h8, if_pos h8]
 ·by_cases h2 : j < 8 + b.length
  ·rw [if_pos (by omega), if_neg h8, if_pos h2]
  ·rw [if_neg (by omega), if_neg (by omega), if_neg h8, if_neg h8, if_neg h2]
theorem xO : splice (mO n b) 52 (bw 8 4 (more 0 (eW n b))) = gq n b := by
 have h64 := iq (n := n) hb;refine iR (by rw [length_splice _ _ _ (by rw [h64, aL]; omega), h64, j4 n hb]) fun j hj => ?_
 rw [length_splice _ _ _ (by rw [h64, aL]; omega), h64] at hj;rw [lg (by rw [h64, aL]; omega), afs hb, aL, tK hb, y7];by_cases h52 : j < 52
 ·rw [if_neg (by omega), if_pos h52];by_cases h8 : j < 8
  ·rw [if_neg (by omega), if_neg (by omega), if_pos h8, if_pos h8]
  ·by_cases h2 : j < 8 + b.length
   ·rw [if_pos (by omega), if_neg h8, if_pos h2]
   ·rw [if_neg (by omega), if_neg (by omega), if_neg h8, if_neg h8, if_neg h2]
 ·by_cases h56 : j < 56
  ·rw [if_pos (by omega), if_neg h52, if_pos h56]
  ·rw [if_neg (by omega), if_neg h52, if_neg h56, if_neg (by omega), if_pos (by omega)]
end
theorem cells5 {w : World} {b : Nat} {t : TypeId} {x y z u v : Value} (h : w.heap[b]? = some (.cells #[x, y, z, u, v] t (0, 0))) : w.cell? ⟨b, 0, none⟩ = some x /\ w.cell? ⟨b, 1, none⟩ = some y /\ w.cell? ⟨b, 2, none⟩ = some z /\ w.cell? ⟨b, 3, none⟩ = some u /\ w.cell? ⟨b, 4, none⟩ = some v := by
 refine ⟨?_, ?_, ?_, ?_, ?_⟩
 ·rw [cell_of_row w b 0 _ t (0, 0) h]; rfl
 ·rw [cell_of_row w b 1 _ t (0, 0) h]; rfl
 ·rw [cell_of_row w b 2 _ t (0, 0) h]; rfl
 ·rw [cell_of_row w b 3 _ t (0, 0) h]; rfl
 ·rw [cell_of_row w b 4 _ t (0, 0) h]; rfl
def PartsAt (w : World) (p g : Nat) : Prop := w.heap[p]? = some (.cells (gF g) 192 (0, 0))
theorem PartsAt.cells {w : World} {p g : Nat} (h : PartsAt w p g) : w.cell? ⟨p, 0, none⟩ = some (.slice (some ⟨g, 0, none⟩) 8 8) /\ w.cell? ⟨p, 1, none⟩ = some (.slice (some ⟨g, 8, none⟩) 44 44) /\ w.cell? ⟨p, 2, none⟩ = some (.slice (some ⟨g, 52, none⟩) 4 4) /\ w.cell? ⟨p, 3, none⟩ = some (.slice (some ⟨g, 56, none⟩) 8 8) /\ w.cell? ⟨p, 4, none⟩ = some (.slice (some ⟨g, 0, none⟩) 52 52) := cells5 h
theorem PartsAt.grown {w w' : World} {p g k : Nat} (h : PartsAt w p g) (hk : p ≠ k) (hb : w.grownBy w' (some k)) : PartsAt w' p g := (hb.block p (aR h) (fun e => hk (by injection e))).trans h
theorem PartsAt.below {w w' : World} {p g B : Nat} (h : PartsAt w p g) (hB : p < B) (hb : Below B w w') : PartsAt w' p g := gv h hB hb
structure pQ (B : Nat) (w w' : World) (r g p : Nat) (l : List UInt8) : Prop where
 res : ci w' r 64 aE.toList
 row : ci w' g 64 l
 par : PartsAt w' p g
 bel : Below B w w'
 r0 : B <= r
 g0 : B <= g
 rg : r ≠ g
 pg : p ≠ g
theorem pQ.turn {B : Nat} {w w1 w2 : World} {r g p : Nat} {l l' : List UInt8} (h : pQ B w w1 r g p l) (hr : ci w2 g 64 l') (hg : w1.grownBy w2 (some g)) (hB : B <= w.heap.size) : pQ B w w2 r g p l' :=
 ⟨h.res.grown h.rg hg, hr, h.par.grown h.pg hg, h.bel.grown hg (ap hB h.bel.size) (fun k hk => by injection hk with e; have := h.g0; omega), h.r0, h.g0, h.rg, h.pg⟩
theorem pQ.draw {B : Nat} {w w1 : World} {r g p : Nat} {l : List UInt8} (h : pQ B w w1 r g p l) : pQ B w w1.drew r g p l := ⟨h.res, h.row, h.par, bd h.bel, h.r0, h.g0, h.rg, h.pg⟩
section
variable {ρ : Operand -> Value} {o : Oper} {x y z : Operand} {w : World} {t : TypeId} {n : Nat} {a : Value} {ad : Addr} {A : Option Addr} {m c : Nat}
theorem gw (ho : o.op = .convert 105 35 x) (hx : ρ x = .int .u32 (n : Int)) (hn : n < 4294967296) : (execOp ρ o).run prog w = .ok (.value (.int .u64 (n : Int))) w := by
 have h : IntKind.u64.wrap (n : Int) = (n : Int) := IntWalk.u64_in _ ⟨by omega, by omega⟩;have hc : (convert 105 35 (.int .u32 (n : Int))).run prog w = .ok (.int .u64 (n : Int)) w := by simp [convert, go_sem, h]
 unfold execOp;simp only [ho, hx, Sem.run_bind, hc, Result.andThen_ok, Sem.run_pure]
theorem ldS (h : w.cell? ad = some (.slice A m c)) : (Instr.loadAt 143 (.pointer (some ad))).run prog w = .ok (.slice A m c) w := by simp [go_sem, h]
theorem aiR {b : Nat} : (Instr.fieldAt 192 (.pointer (some ⟨b, 0, none⟩)) 2).run prog w = .ok (.pointer (some ⟨b, 2, none⟩)) w := by kernel_rfl
theorem ahn {b : Nat} : (Instr.fieldAt 192 (.pointer (some ⟨b, 0, none⟩)) 4).run prog w = .ok (.pointer (some ⟨b, 4, none⟩)) w := by kernel_rfl
end
theorem ae0 (m c : Nat) (A : Option Addr) (b : List UInt8) (w : World) (hb : b.length = m) :
  Calls prog 168 #[.int .u64 0, .slice A m c] w fun e w' => e = .returned (.tuple #[blk (fo 0 b), .int .i64 (fE 0 b : Nat)]) /\ Below w.heap.size w w' := by
 have hA := (Below.refl w.heap.size w).alloc aj (.cells (cel aE).toArray 64);have HT := af (dj w aE 64);have HA := af hA;clear hA;rw [show fo 0 b = aE from rfl, show fE 0 b = 2 from rfl];go_enter func168, ntmps168;go_wp2_with (first | (refine ax rfl (aV rfl) ?_) | (refine ax rfl (ca (c := aE) (parts := []) rfl rfl) ?_) | (refine aW rfl (aX rfl rfl rfl HT.out) ?_));refine bodyPost_ret (b9 rfl _ _ _ rfl (World.rangeAt_setCells_same _ _ _ _ (by rw [aG]; exact HT))) rfl ⟨rfl, below_setCells HA aj _⟩
theorem abI (n m c : Nat) (A : Option Addr) (b : List UInt8) (w : World) (hb : b.length = m) (h0 : 0 < n) (hm : 44 < m) (hm2 : m <= maxLen) :
  Calls prog 168 #[.int .u64 n, .slice A m c] w fun e w' => e = .returned (.tuple #[blk (fo n b), .int .i64 (fE n b : Nat)]) /\ Below w.heap.size w w' := by
 have hA := (Below.refl w.heap.size w).alloc aj (.cells (cel aE).toArray 64);have HT := af (dj w aE 64);have HA := af hA;have hE : fE n b = 3 := by unfold fE; rw [if_neg (by omega), if_pos (by omega)]
 have hB : fo n b = aE := by unfold fo; rw [hE]; rfl
 rw [hE, hB];unfold maxLen at hm2;clear hA hE hB hb;have hz : ((n : Int) == 0) = false := by simp; omega
 go_enter func168, ntmps168;go_wp2_with (first | (refine ax rfl (aV rfl) ?_) | (refine ax rfl (ca (c := aE) (parts := []) rfl rfl) ?_) | (refine aW rfl (aX rfl rfl rfl HT.out) ?_));refine bodyPost_ret (b9 rfl _ _ _ rfl (World.rangeAt_setCells_same _ _ _ _ (by rw [aG]; exact HT))) rfl ⟨rfl, below_setCells HA aj _⟩
theorem fJ {a x : List UInt8} (h : a.length + x.length <= 44) : splice (di a) a.length x = di (a ++ x) := by
 unfold splice di;rw [List.take_append_of_le_length aj, List.take_length, List.drop_append];rw [List.drop_of_length_le (by omega), List.nil_append, List.drop_replicate, List.append_assoc, List.length_append]
 congr 3
 omega
def z44 : List UInt8 := List.replicate 44 0
theorem kn : z44.length = 44 := rfl
def evB (n : Nat) : Bool := decide (1 <= n /\ n <= 4611686018427387904)
theorem xi {n : Nat} (h : evB n = true) : 1 <= n /\ n <= 4611686018427387904 := of_decide_eq_true h
theorem aaj {b : List UInt8} (h : b.length = 44) : di b = b := by simp [di, h]
theorem zX {b : List UInt8} (n : Nat) (h : b.length <= 44) : eW n (di b) = eW n b := by unfold eW; rw [aaj (dK h)]
theorem aay {b : List UInt8} (n : Nat) (h : b.length <= 44) : gq n (di b) = gq n b := by unfold gq; rw [zX n h]
theorem kh {k n : Nat} (h : n < 2 ^ (8 * k)) : val 8 (bw 8 k n) = n := by rw [adU (by omega), Nat.mod_eq_of_lt h]
theorem jN (l : List UInt8) (p a b : Nat) : piece l p a ++ piece l (p + a) b = piece l p (a + b) := by
 unfold piece;rw [List.take_add, List.drop_drop]
theorem gu {l : List UInt8} {p k : Nat} (h : p + k <= l.length) : bw 8 k (val 8 (piece l p k)) = piece l p k := by
 have := p9 (mw (piece l p k));rwa [bU h] at this
theorem iF (b : Blk) : dA b.toList < 18446744073709551616 := aeS (by simp)
theorem ed {b : Blk} (h : cZ b.toList = 0) : (da b.toList).length = 44 := by rw [sS h]; exact bU (by simp)
structure Cod (Y : Type) where
 zero : Y
 may : Y -> Bool
 num : Y -> Nat
 body : Y -> List UInt8
 told : Nat -> List UInt8 -> Y
 fits : Y -> Prop
 may_num : ∀ y, may y = true -> 1 <= num y /\ num y <= 4611686018427387904
 len : ∀ y, (body y).length <= 44
 back : ∀ y, fits y -> may y = true -> told (num y) (di (body y)) = y
 num_told : ∀ n l, num (told n l) = n
 fits_told : ∀ n l, l.length = 44 -> n < 18446744073709551616 -> fits (told n l)
 zero_no : may zero = false
 zero_num : num zero = 0
 zero_fits : fits zero
namespace Cod
variable {Y : Type} (C : Cod Y)
def full (y : Y) : List UInt8 := di (C.body y)
theorem uQ (y : Y) : (C.full y).length = 44 := dK (C.len y)
def pE (y : Y) : Nat := if C.may y = true then 0 else 2
def pB (y : Y) : Blk := if C.may y = true then fo (C.num y) (C.body y) else aE
theorem qo {y : Y} (h : C.may y = true) : C.pE y = 0 := if_pos h
theorem yX {y : Y} (h : C.may y = true) : C.pB y = fo (C.num y) (C.body y) := if_pos h
theorem pG {y : Y} (h : ¬ C.may y = true) : C.pE y = 2 := if_neg h
theorem ql {y : Y} (h : ¬ C.may y = true) : C.pB y = aE := if_neg h
theorem nM (n : Nat) (y : Y) : fE n (C.full y) = fE n (C.body y) := by
 have h1 := C.uQ y;have h2 := C.len y;unfold fE;rw [if_neg (show ¬ 44 < (C.full y).length by omega), if_neg (show ¬ 44 < (C.body y).length by omega)]
theorem rK (n : Nat) (y : Y) : fo n (C.full y) = fo n (C.body y) := by
 unfold fo; rw [C.nM]; unfold full; rw [aay n (C.len y)]
theorem k7 {n : Nat} (y : Y) (h : n ≠ 0) : fE n (C.body y) = 0 := sN h (C.len y)
def raw (b : Blk) : Y := C.told (dA b.toList) (da b.toList)
def good (b : Blk) : Bool := C.may (C.raw b) && decide (C.full (C.raw b) = da b.toList)
theorem fA {b : Blk} : C.good b = true ↔ C.may (C.raw b) = true /\ C.full (C.raw b) = da b.toList := by
 unfold good; simp
def gE (b : Blk) : Nat := if cZ b.toList ≠ 0 then cZ b.toList else if C.good b = true then 0 else 5
def gX (b : Blk) : Y := if C.gE b = 0 then C.raw b else C.zero
def gN (b : Blk) : Nat := C.num (C.gX b)
theorem oR {b : Blk} (h : cZ b.toList ≠ 0) : C.gE b = cZ b.toList := if_pos h
theorem j9 {b : Blk} (h : cZ b.toList = 0) (h' : ¬ C.good b = true) : C.gE b = 5 := by
 unfold gE; rw [if_neg (by omega), if_neg h']
theorem yE {b : Blk} (h : cZ b.toList = 0) (h' : C.good b = true) : C.gE b = 0 := by
 unfold gE; rw [if_neg (by omega), if_pos h']
theorem agG {b : Blk} (h : C.gE b = 0) : cZ b.toList = 0 /\ C.may (C.raw b) = true /\ C.full (C.raw b) = da b.toList := by
 unfold gE at h
 split at h
 ·omega
 ·rename_i h0
  split at h
  ·rename_i h1; exact ⟨by omega, C.fA.1 h1⟩
  ·omega
theorem pw {b : Blk} (h : C.gE b = 0) : C.gX b = C.raw b := if_pos h
theorem i2 {b : Blk} (h : C.gE b ≠ 0) : C.gX b = C.zero := if_neg h
theorem agw {b : Blk} (h : C.gE b = 0) : C.gN b = dA b.toList := by unfold gN; rw [C.pw h]; exact C.num_told _ _
theorem jP {b : Blk} (h : C.gE b ≠ 0) : C.gN b = 0 := by unfold gN; rw [C.i2 h]; exact C.zero_num
theorem iX {b : Blk} (h : C.gE b = 0) : C.may (C.gX b) = true := by rw [C.pw h]; exact (C.agG h).2.1
theorem agW {b : Blk} (h : C.gE b = 0) : 1 <= C.gN b := (C.may_num _ (C.iX h)).1
theorem lf {b : Blk} : C.gN b = 0 ↔ C.gE b ≠ 0 := by
 constructor
 ·intro h e;have := C.agW e;omega
 ·exact C.jP
theorem pa (b : Blk) : C.fits (C.gX b) := by
 by_cases h : C.gE b = 0
 ·rw [C.pw h];exact C.fits_told _ _ (ed (C.agG h).1) (iF b)
 ·rw [C.i2 h]; exact C.zero_fits
def nE (a b : Blk) : Nat := if C.gN a = 0 /\ C.gN b = 0 then 7 else 0
def nX (a b : Blk) : Y := if C.gN a < C.gN b then C.gX b else C.gX a
end Cod
end Go.Proofs.YtcpbekopbeaflaaGreatDoor
