import Derived.Test.YtbbcdhkinbmdnaaGreatDoorLoag
import Derived.Test.YtbbcdhkinbmdnaaGreatDoorLoab
import Derived.OrdersHeld
import Derived.Test.YtbbcdhkinbmdnaaGreatDoorLoam
import Derived.Test.YtbbcdhkinbmdnaaGreatDoorLoan
import Derived.Test.YtbbcdhkinbmdnaaGreatDoorLoah
import Derived.Test.YtbbcdhkinbmdnaaGreatDoorLoaa
import Derived.Test.YtbbcdhkinbmdnaaGreatDoorLoae
import Derived.Test.YtbbcdhkinbmdnaaGreatDoorLoac
import Derived.Test.YtbbcdhkinbmdnaaGreatDoorLoai
import Derived.Test.YtbbcdhkinbmdnaaGreatDoorLoZ
namespace Go.Proofs.YtbbcdhkinbmdnaaGreatDoor
open Go.RowKit
set_option linter.unusedVariables false
set_option linter.unusedSimpArgs false
set_option maxRecDepth 100000
def sizL : List Value := [.int .i64 8, .int .i64 2, .int .i64 8, .int .i64 8]
def sizV : Value := .agg sizL.toArray
def Siz (w : World) : Prop := w.rangeAt 1 0 sizL
theorem Siz.below {w w' : World} (h : Siz w) (hb : Below w.heap.size w w') : Siz w' :=
 dR h (World.block_lt_of_cell? w _ (h 0 _ rfl)) hb
structure TabM (w : World) : Prop where
 tab : Tab w
 siz : Siz w
theorem TabM.below {w w' : World} (h : TabM w) (hb : Below w.heap.size w w') : TabM w' := ⟨h.tab.below hb, h.siz.below hb⟩
theorem size4i : (Tryz.prog.info? 198).map (·.size) = some 4 := by kernel_rfl
section
variable {ρ : Operand → Value} {o : Oper} {x y : Operand} {w : World} {t : TypeId} {p q u : Value}
theorem exec_loadZ (ho : o.op = .load 198 x) (hx : ρ x = .pointer (some ⟨1, 0, none⟩)) (h : Siz w) : (execOp ρ o).run Tryz.prog w = .ok (.value sizV) w :=
 dJ Tryz.underlying198 rfl size4i ho hx h
theorem exec_idx (ho : o.op = .index t x y) (hx : ρ x = p) (hy : ρ y = q) (h : (Instr.index t p q).run Tryz.prog w = .ok u w) : (execOp ρ o).run Tryz.prog w = .ok (.value u) w := by
 unfold execOp
 simp only [ho, hx, hy, Sem.run_bind, h, Result.andThen_ok, Sem.run_pure]
theorem ixZ0 : (Instr.index 198 sizV (.int .i64 0)).run Tryz.prog w = .ok (.int .i64 8) w := by kernel_rfl
theorem ixZ1 : (Instr.index 198 sizV (.int .i64 1)).run Tryz.prog w = .ok (.int .i64 2) w := by kernel_rfl
theorem ixZ2 : (Instr.index 198 sizV (.int .i64 2)).run Tryz.prog w = .ok (.int .i64 8) w := by kernel_rfl
theorem ixZ3 : (Instr.index 198 sizV (.int .i64 3)).run Tryz.prog w = .ok (.int .i64 8) w := by kernel_rfl
end
def celN (a b c d : Nat) : List Value := [.int .u64 a, .int .u64 b, .int .u64 c, .int .u64 d]
def numV (a b c d : Nat) : Value := .agg (celN a b c d).toArray
theorem celN_one (a b c d : Nat) : ∀ v ∈ celN a b c d, v.oneCell' = true := by
 intro v hv
 simp only [celN, List.mem_cons, List.not_mem_nil, or_false] at hv
 rcases hv with rfl | rfl | rfl | rfl <;> rfl
theorem sizeN : (Tryz.prog.info? 197).map (·.size) = some 4 := by kernel_rfl
theorem zeroN_info : (Tryz.prog.info? 197).map (fun i => i.zero) = some (some (numV 0 0 0 0)) := by kernel_rfl
def NumAt (w : World) (g a b c d : Nat) : Prop := w.heap[g]? = some (.cells (celN a b c d).toArray 197 (0, 0))
section
variable {w w' : World} {g a b c d : Nat}
theorem NumAt.cells (h : NumAt w g a b c d) : w.cell? ⟨g, 0, none⟩ = some (.int .u64 a) ∧ w.cell? ⟨g, 1, none⟩ = some (.int .u64 b) ∧ w.cell? ⟨g, 2, none⟩ = some (.int .u64 c) ∧ w.cell? ⟨g, 3, none⟩ = some (.int .u64 d) := by
 have hr := dt h
 exact ⟨hr 0 _ rfl, hr 1 _ rfl, hr 2 _ rfl, hr 3 _ rfl⟩
theorem NumAt.free (h : NumAt w g a b c d) (j : Nat) : w.frozen? ⟨g, j, none⟩ = false := frozen_of_row w g j _ _ h
theorem NumAt.set {a' b' c' d' j n : Nat} (h : NumAt w g a b c d) (e : (celN a b c d).set j (.int .u64 n) = celN a' b' c' d') : NumAt (w.setCell ⟨g, j, none⟩ (.int .u64 n)) g a' b' c' d' := by
 have := heap_setCell_same w g j (celN a b c d).toArray 197 (.int .u64 n) h
 rw [List.setIfInBounds_toArray, e] at this
 exact this
end
section
variable {ρ : Operand → Value} {o : Oper} {x y z u v : Operand} {w : World} {g a b c d : Nat}
theorem exec_allocN (ho : o.op = .alloc 197) : (execOp ρ o).run Tryz.prog w = .ok (.value (.pointer (some ⟨w.heap.size, 0, none⟩))) (w.alloc (.cells (celN 0 0 0 0).toArray 197)) := dQ zeroN_info ho
theorem exec_fillNm (ho : o.op = .store 197 x y) (hx : ρ x = .pointer (some ⟨w.heap.size, 0, none⟩)) (hy : ρ y = numV a b c d) : (execOp ρ o).run Tryz.prog (w.alloc (.cells (celN 0 0 0 0).toArray 197)) = .ok .skip (w.alloc (.cells (celN a b c d).toArray 197)) :=
 eO sizeN rfl (celN_one a b c d) ho hx hy
theorem exec_bld4 {t : TypeId} {y0 y1 y2 y3 q : Value} (ho : o.op = .build t #[(0, x), (1, y), (2, z), (3, u)]) (h0 : ρ x = y0) (h1 : ρ y = y1) (h2 : ρ z = y2) (h3 : ρ u = y3)
  (h : (Instr.build t #[(0, y0), (1, y1), (2, y2), (3, y3)]).run Tryz.prog w = .ok q w) : (execOp ρ o).run Tryz.prog w = .ok (.value q) w := by
 subst h0 h1 h2 h3
 unfold execOp
 simp only [ho, List.map_toArray, List.map_cons, List.map_nil, Sem.run_bind, h, Result.andThen_ok, Sem.run_pure]
theorem run_bldN (a b c d : Nat) : (Instr.build 197 #[(0, .int .u64 a), (1, .int .u64 b), (2, .int .u64 c), (3, .int .u64 d)]).run Tryz.prog w = .ok (numV a b c d) w := by kernel_rfl
theorem exec_bldN4 (a b c d : Nat) (ho : o.op = .build 197 #[(0, x), (1, y), (2, z), (3, u)]) (h0 : ρ x = .int .u64 a) (h1 : ρ y = .int .u64 b) (h2 : ρ z = .int .u64 c) (h3 : ρ u = .int .u64 d) : (execOp ρ o).run Tryz.prog w = .ok (.value (numV a b c d)) w :=
 exec_bld4 ho h0 h1 h2 h3 (run_bldN a b c d)
theorem run_bldM4 (a : Nat) (r : Int) (c d : Nat) : (Instr.build 32 #[(0, .int .u64 a), (1, .int .i64 r), (2, .int .u64 c), (3, .int .u64 d)]).run Tryz.prog w = .ok (mrk ⟨a, r, c, d⟩) w := by kernel_rfl
theorem exec_bldM4 (a : Nat) (r : Int) (c d : Nat) (ho : o.op = .build 32 #[(0, x), (1, y), (2, z), (3, u)]) (h0 : ρ x = .int .u64 a) (h1 : ρ y = .int .i64 r) (h2 : ρ z = .int .u64 c) (h3 : ρ u = .int .u64 d) : (execOp ρ o).run Tryz.prog w = .ok (.value (mrk ⟨a, r, c, d⟩)) w :=
 exec_bld4 ho h0 h1 h2 h3 (run_bldM4 a r c d)
theorem ixN {j : Nat} (hj : j < 4) : (Instr.indexAt 197 (.pointer (some ⟨g, 0, none⟩)) (.int .i64 (j : Int))).run Tryz.prog w = .ok (.pointer (some ⟨g, j, none⟩)) w := by
 have e : (0 ≤ (j : Int) ∧ (j : Int) < 4) := by omega
 simp [Instr.indexAt, Instr.sureAddr, asIntOf, run_underlying Tryz.underlying197, Tryz.sizeOf30, Addr.add_mid, e, hj]
theorem ixN0 : (Instr.indexAt 197 (.pointer (some ⟨g, 0, none⟩)) (.int .i64 0)).run Tryz.prog w = .ok (.pointer (some ⟨g, 0, none⟩)) w := ixN (j := 0) (by omega)
theorem ixN1 : (Instr.indexAt 197 (.pointer (some ⟨g, 0, none⟩)) (.int .i64 1)).run Tryz.prog w = .ok (.pointer (some ⟨g, 1, none⟩)) w := ixN (j := 1) (by omega)
theorem ixN2 : (Instr.indexAt 197 (.pointer (some ⟨g, 0, none⟩)) (.int .i64 2)).run Tryz.prog w = .ok (.pointer (some ⟨g, 2, none⟩)) w := ixN (j := 2) (by omega)
theorem ixN3 : (Instr.indexAt 197 (.pointer (some ⟨g, 0, none⟩)) (.int .i64 3)).run Tryz.prog w = .ok (.pointer (some ⟨g, 3, none⟩)) w := ixN (j := 3) (by omega)
end
section
variable {ρ : Operand → Value} {o : Oper} {x y : Operand} {w : World} {g b : Nat} {k : Int} {n : Nat} {ad : Addr}
theorem exec_faM0 (ho : o.op = .fieldAddr 32 x 0) (hx : ρ x = .pointer (some ⟨b, 0, none⟩)) : (execOp ρ o).run Tryz.prog w = .ok (.value (.pointer (some ⟨b, 0, none⟩))) w := am ho hx faM0
theorem exec_faM1 (ho : o.op = .fieldAddr 32 x 1) (hx : ρ x = .pointer (some ⟨b, 0, none⟩)) : (execOp ρ o).run Tryz.prog w = .ok (.value (.pointer (some ⟨b, 1, none⟩))) w := am ho hx faM1
theorem exec_faM2 (ho : o.op = .fieldAddr 32 x 2) (hx : ρ x = .pointer (some ⟨b, 0, none⟩)) : (execOp ρ o).run Tryz.prog w = .ok (.value (.pointer (some ⟨b, 2, none⟩))) w := am ho hx faM2
theorem exec_faM3 (ho : o.op = .fieldAddr 32 x 3) (hx : ρ x = .pointer (some ⟨b, 0, none⟩)) : (execOp ρ o).run Tryz.prog w = .ok (.value (.pointer (some ⟨b, 3, none⟩))) w := am ho hx faM3
theorem exec_ixN0 (ho : o.op = .indexAddr 197 x y) (hy : ρ y = .int .i64 0) (hx : ρ x = .pointer (some ⟨g, 0, none⟩)) : (execOp ρ o).run Tryz.prog w = .ok (.value (.pointer (some ⟨g, 0, none⟩))) w := dS ho hx hy ixN0
theorem exec_ixN1 (ho : o.op = .indexAddr 197 x y) (hy : ρ y = .int .i64 1) (hx : ρ x = .pointer (some ⟨g, 0, none⟩)) : (execOp ρ o).run Tryz.prog w = .ok (.value (.pointer (some ⟨g, 1, none⟩))) w := dS ho hx hy ixN1
theorem exec_ixN2 (ho : o.op = .indexAddr 197 x y) (hy : ρ y = .int .i64 2) (hx : ρ x = .pointer (some ⟨g, 0, none⟩)) : (execOp ρ o).run Tryz.prog w = .ok (.value (.pointer (some ⟨g, 2, none⟩))) w := dS ho hx hy ixN2
theorem exec_ixN3 (ho : o.op = .indexAddr 197 x y) (hy : ρ y = .int .i64 3) (hx : ρ x = .pointer (some ⟨g, 0, none⟩)) : (execOp ρ o).run Tryz.prog w = .ok (.value (.pointer (some ⟨g, 3, none⟩))) w := dS ho hx hy ixN3
theorem exec_ixZ0 (ho : o.op = .index 198 x y) (hy : ρ y = .int .i64 0) (hx : ρ x = sizV) : (execOp ρ o).run Tryz.prog w = .ok (.value (.int .i64 8)) w := exec_idx ho hx hy ixZ0
theorem exec_ixZ1 (ho : o.op = .index 198 x y) (hy : ρ y = .int .i64 1) (hx : ρ x = sizV) : (execOp ρ o).run Tryz.prog w = .ok (.value (.int .i64 2)) w := exec_idx ho hx hy ixZ1
theorem exec_ixZ2 (ho : o.op = .index 198 x y) (hy : ρ y = .int .i64 2) (hx : ρ x = sizV) : (execOp ρ o).run Tryz.prog w = .ok (.value (.int .i64 8)) w := exec_idx ho hx hy ixZ2
theorem exec_ixZ3 (ho : o.op = .index 198 x y) (hy : ρ y = .int .i64 3) (hx : ρ x = sizV) : (execOp ρ o).run Tryz.prog w = .ok (.value (.int .i64 8)) w := exec_idx ho hx hy ixZ3
end
theorem size44m : (Tryz.prog.info? 179).map (·.size) = some 44 := by kernel_rfl
theorem zero44m_info : (Tryz.prog.info? 179).map (fun i => i.zero) = some (some (arr z44)) := by kernel_rfl
theorem guard44m : Tryz.prog.eqGuardType Tryz.prog.depth 179 = false := by kernel_rfl
section
variable {ρ : Operand → Value} {o : Oper} {x y : Operand} {w : World} {b off g c : Nat} {t : TypeId} {l : List UInt8}
theorem exec_load44m (hl : l.length = 44) (ho : o.op = .load 179 x) (hx : ρ x = .pointer (some ⟨b, off, none⟩)) (hc : w.rangeAt b off (vals l)) : (execOp ρ o).run Tryz.prog w = .ok (.value (arr l)) w :=
 dJ Tryz.underlying179 rfl (by rw [bu, hl]; exact size44m) ho hx hc
theorem gp (ho : o.op = .alloc 179) : (execOp ρ o).run Tryz.prog w = .ok (.value (.pointer (some ⟨w.heap.size, 0, none⟩))) (w.alloc (.cells (vals z44).toArray 179)) := dQ zero44m_info ho
theorem exec_fill44m (hl : l.length = 44) (ho : o.op = .store 179 x y) (hx : ρ x = .pointer (some ⟨w.heap.size, 0, none⟩)) (hy : ρ y = arr l) :
  (execOp ρ o).run Tryz.prog (w.alloc (.cells (vals z44).toArray 179)) = .ok .skip (w.alloc (.cells (vals l).toArray 179)) :=
 eO (by rw [bu, hl]; exact size44m) (by rw [bu, bu, hl, z44_length]) (vals_one l) ho hx hy
theorem exec_put44m (hl : l.length = 44) (ho : o.op = .store 179 x y) (hx : ρ x = .pointer (some ⟨b, off, none⟩)) (hy : ρ y = arr l) (ht : w.there b off 44) : (execOp ρ o).run Tryz.prog w = .ok .skip (w.setCells b off (vals l)) :=
 exec_putT (by rw [bu, hl]; exact size44m) (vals_one l) ho hx hy (by rw [bu, hl]; exact ht)
theorem exec_ne44m {l' : List UInt8} (c : Bool) (ha : l.length = 44) (hb : l'.length = 44) (ho : o.op = .binOp .neq 179 x y t) (hx : ρ x = arr l) (hy : ρ y = arr l') (h : decide (l = l') = c) : (execOp ρ o).run Tryz.prog w = .ok (.value (.bool (!c))) w := by
 subst h; exact exec_neT guard44m (run_eqArr Tryz.underlying179 w l l' ha hb 9998) ho hx hy
theorem exec_all44m (ho : o.op = .slice 179 x none none none) (hx : ρ x = .pointer (some ⟨g, off, none⟩)) : (execOp ρ o).run Tryz.prog w = .ok (.value (.slice (some ⟨g, off, none⟩) 44 44)) w := by
 have h : (Instr.sliceAt 179 (.pointer (some ⟨g, off, none⟩)) none none none).run Tryz.prog w = .ok (.slice (some ⟨g, off, none⟩) 44 44) w := by
  simp [Instr.sliceAt, Instr.sliceBounds, Instr.sliceBound, Instr.sureAddr, asIntOf, run_underlying Tryz.underlying179, Tryz.sizeOf5, Addr.add_mid]
 unfold execOp
 simp only [ho, hx, Option.map_none, Sem.run_bind, h, Result.andThen_ok, Sem.run_pure]
theorem fK (p n : Nat) (hn : p + n = 44) (h0 : 0 < n) (ho : o.op = .slice 179 x (some y) none none) (hx : ρ x = .pointer (some ⟨g, 0, none⟩)) (hy : ρ y = .int .i64 (p : Int)) : (execOp ρ o).run Tryz.prog w = .ok (.value (.slice (some ⟨g, p, none⟩) n n)) w := by
 have e1 : (0 ≤ (p : Int) ∧ (p : Int) ≤ 44) := by omega
 have e2 : p ≤ 44 := by omega
 have e3 : 44 - p = n := by omega
 have e4 : n ≠ 0 := by omega
 have e5 : ¬ 44 = p := by omega
 have h : (Instr.sliceAt 179 (.pointer (some ⟨g, 0, none⟩)) (some (.int .i64 (p : Int))) none none).run Tryz.prog w = .ok (.slice (some ⟨g, p, none⟩) n n) w := by
  simp [Instr.sliceAt, Instr.sliceBounds, Instr.sliceBound, Instr.sureAddr, asIntOf, run_underlying Tryz.underlying179, Tryz.sizeOf5, Addr.add_mid, e1, e2, e3, e4, e5]
 unfold execOp
 simp only [ho, hx, hy, Option.map_none, Option.map_some, Sem.run_bind, h, Result.andThen_ok, Sem.run_pure]
theorem exec_s2am (ho : o.op = .sliceToArrayPointer 179 x) (hx : ρ x = .slice (some ⟨g, 0, none⟩) 44 c) : (execOp ρ o).run Tryz.prog w = .ok (.value (.pointer (some ⟨g, 0, none⟩))) w := by
 unfold execOp
 simp [ho, hx, Instr.arrayAt, run_underlying Tryz.underlying179]
end
section
variable {P : Program} {md : Region.Mode} {l : List Oper} {Q : Exit → Act → World → Prop} {S : World → Prop} {K : Act → World → Prop} {fuel : Nat} {listed : Array Bool} {a : Act} {w w' : World} {o : Oper} {v : Value}
theorem dC (i : Nat) {f : FuncId} {vs : Array Value} (hi : l[i]? = some o) (hw : Region.wanted o (yielded l.toArray a.tmps) = true) (h : (execOp a.eval o).run P w = .ok (.enter f vs) w)
  (hc : Calls P f vs w fun e w' => ∃ v, e = .returned v ∧ K (a.put o.dst v) w') : wpOp P l.toArray Q i K a w := by
 unfold wpOp
 simp only [List.getElem?_toArray, hi, hw, if_true]
 refine .inl ?_
 unfold Oper.wp
 rw [h]
 exact hc.mono fun e w' ⟨v, he, hk⟩ => by subst he; exact hk
theorem fa (i : Nat) (hi : l[i]? = some o) (hw : Region.wanted o (yielded l.toArray a.tmps) = true) (h : (execOp a.eval o).run P w = .ok (.value v) w') (hk : K (a.put o.dst v) w') : wpOp P l.toArray Q i K a w := by
 unfold wpOp
 simp only [List.getElem?_toArray, hi, hw, if_true]
 refine .inl ?_
 unfold Oper.wp
 rw [h]
 exact hk
theorem held_two (i j : Nat) (hr : Region.ready md l.toArray listed = [i, j])
  (h1 : wpOp P l.toArray Q i (fun a' w' => S w' ∧ wpAnyH P md l.toArray Q S fuel (listed.setIfInBounds i true) a' w') a w) (h2 : wpOp P l.toArray Q j (fun a' w' => S w' ∧ wpAnyH P md l.toArray Q S fuel (listed.setIfInBounds j true) a' w') a w) : wpAnyH P md l.toArray Q S (fuel + 1) listed a w :=
 wpAnyH_all hr (by simp) fun k hk => by
  have hk2 : k = i ∨ k = j := by simpa using hk
  rcases hk2 with rfl | rfl
  ·exact h1
  ·exact h2
theorem cM (i : Nat) (hr : Region.ready md l.toArray listed = [i])
  (h1 : wpOp P l.toArray Q i (fun a' w' => S w' ∧ wpAnyH P md l.toArray Q S fuel (listed.setIfInBounds i true) a' w') a w) : wpAnyH P md l.toArray Q S (fuel + 1) listed a w :=
 wpAnyH_all hr (by simp) fun k hk => by
  obtain rfl : k = i := by simpa using hk
  exact h1
end
section
variable {P : Program} {md : Region.Mode} {l : List Oper} {Q : Exit → Act → World → Prop} {S : World → Prop} {K : Act → World → Prop} {z fuel : Nat} {listed : Array Bool} {a : Act} {w w' : World} {o : Oper} {v : Value}
theorem op_nul (i : Nat) (hi : l[i]? = some o) (hw : Region.wanted o (yielded l.toArray a.tmps) = true) (h : (execOp a.eval o).run P w = .ok .skip w') (hk : K (a.put o.dst undef) w') : wpOp P l.toArray Q i K a w := by
 unfold wpOp
 simp only [List.getElem?_toArray, hi, hw, if_true]
 refine .inl ?_
 unfold Oper.wp
 rw [h]
 exact hk
end
def RJ (w0 : World) (H K : Nat → Prop) (w : World) (p q : Nat) (v : Value) (M : BenS) (x : LgS) : Prop :=
 ∃ G, bF.Bn w G q M ∧ RLg w p q v x ∧ (∀ b, ch p v b → ¬ G b) ∧ Only H w0 w ∧ Grow w0 H (fun b => G b ∨ ch p v b) ∧ ∀ b, K b → ¬ G b ∧ b < w.heap.size
def kept (K : Nat → Prop) (w w' : World) : Prop := ∀ b, K b → w'.heap[b]? = w.heap[b]?
theorem rng_kept {w w' : World} {b o : Nat} {cs : List Value} (h : w'.heap[b]? = w.heap[b]?) (hr : w.rangeAt b o cs) : w'.rangeAt b o cs := fun j v hj => (World.cell?_of_block (w := w) h).trans (hr j v hj)
theorem kept.trans {K : Nat → Prop} {w w1 w2 : World} (h : kept K w w1) (k : kept K w1 w2) : kept K w w2 := fun b hb => (k b hb).trans (h b hb)
section
variable {w0 w w' : World} {H K K' : Nat → Prop} {p q : Nat} {v : Value} {M : BenS} {x : LgS}
theorem RJ.log (h : RJ w0 H K w p q v M x) : RLg w p q v x := by obtain ⟨_, _, h, _⟩ := h; exact h
theorem RJ.size (h : RJ w0 H K w p q v M x) : w0.heap.size ≤ w.heap.size := by obtain ⟨_, _, _, _, h, _⟩ := h; exact h.size
theorem RJ.start {G : Nat → Prop} (hb : bF.Bn w G q M) (h : RLg w p q v x) (hd : ∀ b, ch p v b → ¬ G b) : RJ w (fun b => G b ∨ ch p v b) (fun _ => False) w p q v M x :=
 ⟨G, hb, h, hd, Only.refl _ _, Grow.same _ _, fun _ e => e.elim⟩
theorem RJ.guard (h : RJ w0 H K w p q v M x) (hb : Below w.heap.size w w') (hK : ∀ b, K' b → K b ∨ (w.heap.size ≤ b ∧ b < w'.heap.size)) : RJ w0 H K' w' p q v M x := by
 obtain ⟨G, h1, h2, h3, h4, h5, h6⟩ := h
 have hlt := bF.lt h1
 have hs := hb.size
 refine ⟨G, bF.below h1 hb, h2.below hb, h3, h4.dH hb, h5, fun b e => ?_⟩
 rcases hK b e with e | ⟨e1, e2⟩
 ·obtain ⟨g1, g2⟩ := h6 b e
  exact ⟨g1, by omega⟩
 ·exact ⟨fun hg => by have := hlt b hg; omega, e2⟩
theorem RJ.below (h : RJ w0 H K w p q v M x) (hb : Below w.heap.size w w') : RJ w0 H K w' p q v M x := h.guard hb fun b e => .inl e
theorem RJ.drew (h : RJ w0 H K w p q v M x) : RJ w0 H K w.drew p q v M x := h.below (bd (Below.refl _ _))
theorem RJ.read (d n : Int) (h : RJ w0 H K w p q v M x) : Calls Tryz.prog 33 #[.pointer (some ⟨q, 0, none⟩), .int .i64 d, .int .i64 n] w fun e w' => e = .returned (.tuple #[blk (cq M d n), .int .i64 (bT M d n)]) ∧ Below w.heap.size w w' := by
 obtain ⟨G, h1, _⟩ := h
 exact bF.read d n h1
end
def mayB (r t h : Int) : Bool := decide (1 ≤ r ∧ r ≤ 256 ∧ t ≤ h ∧ h ≤ 4611686018427387904 ∧ h - t ≤ r)
theorem eV {r t h : Int} : mayB r t h = true ↔ 1 ≤ r ∧ r ≤ 256 ∧ t ≤ h ∧ h ≤ 4611686018427387904 ∧ h - t ≤ r := by unfold mayB; exact decide_eq_true_iff
theorem mayB_not {r t h : Int} : mayB r t h = false ↔ ¬(1 ≤ r ∧ r ≤ 256 ∧ t ≤ h ∧ h ≤ 4611686018427387904 ∧ h - t ≤ r) := by unfold mayB; rw [decide_eq_false_iff_not]
def sctN (r t : Int) : Int := if mayB r t t then t % r else 0
def sctE (r t : Int) : Int := if mayB r t t then 0 else 2
def freN (r t h : Int) : Int := if mayB r t h then r - (h - t) else 0
def freE (r t h : Int) : Int := if mayB r t h then 0 else 2
def tolB (r t h n : Int) : Bool := decide (mayB r t h = true ∧ 0 ≤ n)
def romB (r t h n : Int) : Bool := decide (n ≤ r - (h - t) ∧ h + n ≤ 4611686018427387904)
def takN (r t h n : Int) : Int := if tolB r t h n && romB r t h n then h + n else 0
def takE (r t h n : Int) : Int := if tolB r t h n then (if romB r t h n then 0 else 10) else 2
def rinB (r : Int) : Bool := decide (1 ≤ r ∧ r ≤ 256)
def posB (t : Int) : Bool := decide (t ≤ 4611686018427387904)
theorem ring_ok (r : Int) (w : World) : Calls Tryz.prog 113 #[.int .i64 r] w fun e w' => e = .returned (.bool (rinB r)) ∧ w = w' := by
 go_enter Tryz.func113, Tryz.ntmps113
 go_wp2
 all_goals
  go_ret
  refine ⟨bm ?_, rfl⟩
  unfold rinB
  first
   | (refine Eq.symm (decide_eq_false ?_); omega)
   | (rw [Bool.eq_iff_iff, decide_eq_true_iff, decide_eq_true_iff]; omega)
theorem pos_ok (t : Int) (w : World) : Calls Tryz.prog 151 #[.int .u64 t] w fun e w' => e = .returned (.bool (posB t)) ∧ w = w' := by
 go_enter Tryz.func151, Tryz.ntmps151
 go_wp2
 go_ret
 exact ⟨rfl, rfl⟩
theorem ahead_ok (t : Int) (w : World) (h0 : 0 ≤ t) (h1 : t ≤ 4611686018427387904) : Calls Tryz.prog 157 #[.int .u64 t] w fun e w' => e = .returned (.int .u64 (4611686018427387904 - t)) ∧ w = w' := by
 go_enter Tryz.func157, Tryz.ntmps157
 go_wp2
 go_ret
 exact ⟨bD (by omega), rfl⟩
theorem sector_ok (r t : Int) (w : World) (h1 : 1 ≤ r) (h2 : r ≤ 256) (h0 : 0 ≤ t) (h3 : t ≤ 18446744073709551615) : Calls Tryz.prog 169 #[.int .i64 r, .int .u64 t] w fun e w' => e = .returned (.int .i64 (t % r)) ∧ w = w' := by
 have hm0 := Int.emod_nonneg t (show r ≠ 0 by omega)
 have hm1 := Int.emod_lt_of_pos t (show 0 < r by omega)
 go_enter Tryz.func169, Tryz.ntmps169
 go_wp2
 go_ret
 exact ⟨bD (by omega), rfl⟩
set_option maxHeartbeats 1000000 in
theorem rimay (r t h : Int) (w : World) (ht0 : 0 ≤ t) (ht1 : t ≤ 18446744073709551615) (hh0 : 0 ≤ h) (hh1 : h ≤ 18446744073709551615) : Calls Tryz.prog 129 #[.int .i64 r, .int .u64 t, .int .u64 h] w fun e w' => e = .returned (.bool (mayB r t h)) ∧ w = w' := by
 go_enter Tryz.func129, Tryz.ntmps129
 go_wp2
 all_goals
  go_ret
  refine ⟨bm ?_, rfl⟩
  first
   | (refine Eq.symm (mayB_not.2 ?_); omega)
   | (rw [Bool.eq_iff_iff, eV, decide_eq_true_iff]; omega)
def useB (r t h : Int) : Bool := decide (t ≤ h ∧ h ≤ 4611686018427387904 ∧ h - t ≤ r)
set_option maxHeartbeats 1000000 in
theorem use_ok (r t h : Int) (w : World) (hr1 : 1 ≤ r) (hr2 : r ≤ 256) (ht0 : 0 ≤ t) (ht1 : t ≤ 18446744073709551615) (hh0 : 0 ≤ h) (hh1 : h ≤ 18446744073709551615) : Calls Tryz.prog 114 #[.int .i64 r, .int .u64 t, .int .u64 h] w fun e w' => e = .returned (.bool (useB r t h)) ∧ w = w' := by
 go_enter Tryz.func114, Tryz.ntmps114
 go_wp2_with fail
 refine (pos_ok h w).mono ?_
 rintro e w1 ⟨rfl, rfl⟩
 by_cases h1 : h ≤ 4611686018427387904
 ·rw [show posB h = true from decide_eq_true h1]
  go_wp2
  all_goals
   go_ret
   refine ⟨bm ?_, rfl⟩
   unfold useB
   first
    | (refine Eq.symm (decide_eq_false ?_); omega)
    | (rw [Bool.eq_iff_iff, decide_eq_true_iff, decide_eq_true_iff]; omega)
 ·rw [show posB h = false from decide_eq_false h1]
  go_wp2
  go_ret
  refine ⟨bm ?_, rfl⟩
  unfold useB
  refine Eq.symm (decide_eq_false ?_); omega
theorem ring_true {r : Int} (h : 1 ≤ r ∧ r ≤ 256) : rinB r = true := decide_eq_true h
theorem ring_false {r : Int} (h : ¬(1 ≤ r ∧ r ≤ 256)) : rinB r = false := decide_eq_false h
theorem pos_true {r : Int} (h : r ≤ 4611686018427387904) : posB r = true := decide_eq_true h
theorem pos_false {r : Int} (h : ¬r ≤ 4611686018427387904) : posB r = false := decide_eq_false h
theorem use_iff {r t h : Int} : useB r t h = true ↔ t ≤ h ∧ h ≤ 4611686018427387904 ∧ h - t ≤ r := by unfold useB; exact decide_eq_true_iff
theorem may_use {r t h : Int} : mayB r t h = (rinB r && useB r t h) := by
 rw [Bool.eq_iff_iff, eV, Bool.and_eq_true]
 unfold rinB useB
 rw [decide_eq_true_iff, decide_eq_true_iff]
 omega
theorem sec_no {r t : Int} (h : mayB r t t = false) : sctN r t = 0 ∧ sctE r t = 2 := by unfold sctN sctE; rw [h]; exact ⟨rfl, rfl⟩
theorem sec_in {r t : Int} (h : mayB r t t = true) : sctN r t = t % r ∧ sctE r t = 0 := by unfold sctN sctE; rw [h]; exact ⟨rfl, rfl⟩
theorem fre_no {r t h : Int} (hm : mayB r t h = false) : freN r t h = 0 ∧ freE r t h = 2 := by unfold freN freE; rw [hm]; exact ⟨rfl, rfl⟩
theorem fre_in {r t h : Int} (hm : mayB r t h = true) : freN r t h = r - (h - t) ∧ freE r t h = 0 := by unfold freN freE; rw [hm]; exact ⟨rfl, rfl⟩
theorem eB {k k' : IntKind} {a b a' b' : Int} (h : a = b ∧ a' = b') : Ending.returned (.tuple #[.int k b, .int k' b']) = .returned (.tuple #[.int k a, .int k' a']) := by rw [h.1, h.2]
theorem rsec (r t : Int) (w : World) (h0 : 0 ≤ t) (h1 : t ≤ 18446744073709551615) : Calls Tryz.prog 130 #[.int .i64 r, .int .u64 t] w fun e w' => e = .returned (.tuple #[.int .i64 (sctN r t), .int .i64 (sctE r t)]) ∧ w = w' := by
 go_enter Tryz.func130, Tryz.ntmps130
 go_wp2_with fail
 refine (rimay r t t w h0 h1 h0 h1).mono ?_
 rintro e w1 ⟨rfl, rfl⟩
 cases hm : mayB r t t
 ·have hs := af (sec_no hm)
  clear hm
  go_wp2
  go_ret2
  exact ⟨eB hs.out, rfl⟩
 ·have hs := af (sec_in hm)
  obtain ⟨g1, g2, -, g3, -⟩ := eV.1 hm
  have hm0 := Int.emod_nonneg t (show r ≠ 0 by omega)
  have hm1 := Int.emod_lt_of_pos t (show 0 < r by omega)
  clear hm
  go_wp2
  go_ret2
  exact ⟨eB ⟨hs.out.1.trans (by omega), hs.out.2⟩, rfl⟩
theorem pfre (r t h : Int) (w : World) (ht0 : 0 ≤ t) (ht1 : t ≤ 18446744073709551615) (hh0 : 0 ≤ h) (hh1 : h ≤ 18446744073709551615) : Calls Tryz.prog 80 #[.int .i64 r, .int .u64 t, .int .u64 h] w fun e w' => e = .returned (.tuple #[.int .i64 (freN r t h), .int .i64 (freE r t h)]) ∧ w = w' := by
 go_enter Tryz.func80, Tryz.ntmps80
 go_wp2_with fail
 refine (ring_ok r w).mono ?_
 rintro e w1 ⟨rfl, rfl⟩
 by_cases hr : 1 ≤ r ∧ r ≤ 256
 ·rw [ring_true hr]
  go_wp2_with fail
  refine (use_ok r t h w hr.1 hr.2 ht0 ht1 hh0 hh1).mono ?_
  rintro e w1 ⟨rfl, rfl⟩
  cases hu : useB r t h
  ·have hs := af (fre_no (r := r) (t := t) (h := h) (by rw [may_use, hu, Bool.and_false]))
   clear hu
   go_wp2
   go_ret2
   exact ⟨eB hs.out, rfl⟩
  ·have hs := af (fre_in (r := r) (t := t) (h := h) (by rw [may_use, hu, ring_true hr]; rfl))
   obtain ⟨g1, g2, g3⟩ := use_iff.1 hu
   clear hu
   go_wp2
   go_ret2
   exact ⟨eB ⟨hs.out.1.trans (by omega), hs.out.2⟩, rfl⟩
 ·have hs := af (fre_no (r := r) (t := t) (h := h) (by rw [may_use, ring_false hr, Bool.false_and]))
  rw [ring_false hr]
  go_wp2
  go_ret2
  exact ⟨eB hs.out, rfl⟩
def lisB (r t n : Int) : Bool := decide (1 ≤ r ∧ r ≤ 256 ∧ t ≤ 4611686018427387904 ∧ 0 ≤ n ∧ n ≤ r ∧ t + n ≤ 4611686018427387905)
def secL (r t : Int) (n : Nat) : List Int := (List.range n).map fun (i : Nat) => (t + (i : Int)) % r
def lisL (r t n : Int) : List Int := if lisB r t n then secL r t n.toNat else []
def lisE (r t n : Int) : Int := if lisB r t n then 0 else 2
theorem lis_iff {r t n : Int} : lisB r t n = true ↔ 1 ≤ r ∧ r ≤ 256 ∧ t ≤ 4611686018427387904 ∧ 0 ≤ n ∧ n ≤ r ∧ t + n ≤ 4611686018427387905 := by unfold lisB; exact decide_eq_true_iff
theorem lis_not {r t n : Int} : lisB r t n = false ↔ ¬(1 ≤ r ∧ r ≤ 256 ∧ t ≤ 4611686018427387904 ∧ 0 ≤ n ∧ n ≤ r ∧ t + n ≤ 4611686018427387905) := by unfold lisB; rw [decide_eq_false_iff_not]
theorem lis_no {r t n : Int} (h : lisB r t n = false) : lisL r t n = [] ∧ lisE r t n = 2 := by unfold lisL lisE; rw [h]; exact ⟨rfl, rfl⟩
theorem lis_in {r t : Int} {n : Nat} (h : lisB r t n = true) : lisL r t n = secL r t n ∧ lisE r t n = 0 := by unfold lisL lisE; rw [h]; exact ⟨rfl, rfl⟩
theorem secL_len (r t : Int) (n : Nat) : (secL r t n).length = n := by simp [secL]
theorem secL_at {r t : Int} {n k : Nat} (h : k < n) : (secL r t n).getD k 0 = (t + (k : Int)) % r := by
 simp [secL, List.getD, List.getElem?_map, List.getElem?_range h]
theorem secL_succ {r t : Int} {n k : Nat} (h : k < n) : (secL r t n).take k ++ [(t + (k : Int)) % r] = (secL r t n).take (k + 1) := by
 rw [List.take_add_one]
 congr 1
 unfold secL
 simp [List.getElem?_map, List.getElem?_range h]
set_option maxHeartbeats 1000000 in
theorem plis_in (r t : Int) (N B : Nat) (w : World) (HB0 : Hid (B = w.heap.size)) (h0 : 0 ≤ t) (h : lisB r t N = true) :
  Calls Tryz.prog 158 #[.int .i64 r, .int .u64 t, .int .i64 N] w fun e w' => ∃ v, e = .returned (.tuple #[v, .int .i64 0]) ∧ aH IntE w' B v (secL r t N) ∧ Below B w w' := by
 obtain ⟨g1, g2, g3, g4, g5, g6⟩ := lis_iff.1 h
 clear h
 have hmk := run_make_row' (P := Tryz.prog) 53 3 (.int .i64 0) 8 Tryz.underlying53 IntE.info rfl .i64 .i64 N (by omega) (by omega)
 have HMK := af hmk
 clear hmk
 go_enter Tryz.func158, Tryz.ntmps158
 go_wp2_with fail
 refine (ring_ok r w).mono ?_
 rintro e w1 ⟨rfl, rfl⟩
 rw [ring_true ⟨g1, g2⟩]
 go_wp2_with fail
 refine (pos_ok t w).mono ?_
 rintro e w1 ⟨rfl, rfl⟩
 rw [pos_true g3]
 by_cases hn : 0 < N
 case' pos =>
  go_wp2_with fail
  refine (ahead_ok t w h0 g3).mono ?_
  rintro e w1 ⟨rfl, rfl⟩
 all_goals
  have hmk := HMK.out w
  go_wp2
  clear hmk
  have hr0 := World.rowIs_made w (Value.int .i64 0) N 3
  have hbl0 : Below B w (w.alloc (.cells (madeCells #[Value.int .i64 0] N) 3)) := by rw [HB0.out]; exact (Below.refl _ _).alloc (Nat.le_refl _) _
  have hBg : B ≤ w.heap.size := Nat.le_of_eq HB0.out
  generalize hg : w.heap.size = g at *
  have HG := af hg
  clear hg
  go_loopw [9, 40] (fun v i wr => ∃ (k : Nat) (f : Nat → Int), k ≤ N ∧ i = .int .i64 k ∧ wr.rowIs g 3 N (fun j => .int .i64 (f j)) ∧ (∀ j, j < k → f j = (t + (j : Int)) % r) ∧ Below B w wr) (fun _ i _ => N - (intOf i).toNat)
  case atStart => exact ⟨0, fun _ => 0, Nat.zero_le _, rfl, hr0, fun j hj => absurd hj (by omega), hbl0⟩
  case round =>
   clear hr0 hbl0
   obtain ⟨k, f, hk, rfl, hrow, hf, hbl⟩ := hrel
   have HF := af hf
   clear hf
   by_cases hlt : k < N
   ·clear hn
    go_wp2_with fail
    refine (sector_ok r (t + (k : Int)) _ g1 g2 (by omega) (by omega)).mono ?_
    rintro e w5 ⟨rfl, rfl⟩
    have hc := hrow.cell (i := k) hlt
    have hfr := hrow.frozen k
    generalize hx : (t + (k : Int)) % r = x at *
    have HX := af hx
    clear hx
    go_wp2
    go_roundw
    case rel =>
     refine ⟨k + 1, upd f k x, by omega, by go_num, row_puti hrow _, ?_, hbl.setCell hBg _⟩
     intro j hj
     by_cases e : j = k
     ·subst e; rw [upd_at]; exact HX.out.symm
     ·rw [upd_off _ _ e]; exact HF.out j (by omega)
    case measure => simp [intOf]; omega
   ·have hkn : k = N := by omega
    subst hkn
    go_wp2
    go_ret2
    exact ⟨_, rfl, made_ints hrow hBg (secL_len ..) (fun j hj => by rw [HF.out j hj, secL_at hj]) (by unfold maxLen; omega), hbl⟩
theorem plis_no (r t n : Int) (w : World) (h0 : 0 ≤ t) (h1 : t ≤ 18446744073709551615) (hn1 : -9223372036854775808 ≤ n) (hn2 : n ≤ 9223372036854775807) (h : lisB r t n = false) :
  Calls Tryz.prog 158 #[.int .i64 r, .int .u64 t, .int .i64 n] w fun e w' => e = .returned (.tuple #[.slice none 0 0, .int .i64 2]) ∧ w = w' := by
 have hq := lis_not.1 h
 clear h
 go_enter Tryz.func158, Tryz.ntmps158
 go_wp2_with fail
 refine (ring_ok r w).mono ?_
 rintro e w1 ⟨rfl, rfl⟩
 by_cases hr : 1 ≤ r ∧ r ≤ 256
 ·rw [ring_true hr]
  go_wp2_with fail
  refine (pos_ok t w).mono ?_
  rintro e w1 ⟨rfl, rfl⟩
  by_cases ht : t ≤ 4611686018427387904
  ·rw [pos_true ht]
   by_cases hn : 0 ≤ n ∧ n ≤ r
   ·have hp : 0 < n := by omega
    have ha : 4611686018427387904 - t < n - 1 := by omega
    clear hq
    go_wp2_with fail
    refine (ahead_ok t w h0 ht).mono ?_
    rintro e w1 ⟨rfl, rfl⟩
    go_wp2
    go_ret2
    exact ⟨rfl, rfl⟩
   ·clear hq
    by_cases h0 : 0 ≤ n
    ·go_wp2
     go_ret2
     exact ⟨rfl, rfl⟩
    ·go_wp2
     go_ret2
     exact ⟨rfl, rfl⟩
  ·rw [pos_false ht]
   go_wp2
   go_ret2
   exact ⟨rfl, rfl⟩
 ·rw [ring_false hr]
  go_wp2
  go_ret2
  exact ⟨rfl, rfl⟩
theorem plis (r t n : Int) (B : Nat) (w : World) (HB : Hid (B = w.heap.size)) (h0 : 0 ≤ t) (h1 : t ≤ 18446744073709551615) (hn1 : -9223372036854775808 ≤ n) (hn2 : n ≤ 9223372036854775807) :
  Calls Tryz.prog 158 #[.int .i64 r, .int .u64 t, .int .i64 n] w fun e w' => ∃ v, e = .returned (.tuple #[v, .int .i64 (lisE r t n)]) ∧ aH IntE w' B v (lisL r t n) ∧ Below B w w' := by
 cases h : lisB r t n
 ·rw [(lis_no h).1, (lis_no h).2]; exact (plis_no r t n w h0 h1 hn1 hn2 h).mono fun e w' ⟨he, hw⟩ => ⟨_, he, aH.nil _ _, hw ▸ Below.refl _ _⟩
 ·obtain ⟨N, rfl⟩ : ∃ N : Nat, n = (N : Int) := ⟨n.toNat, by have := lis_iff.1 h; omega⟩
  rw [(lis_in h).1, (lis_in h).2]
  exact plis_in r t N B w HB h0 h
set_option maxHeartbeats 1000000 in
theorem rlis_in (r t : Int) (N B : Nat) (w : World) (HB0 : Hid (B = w.heap.size)) (h0 : 0 ≤ t) (h : lisB r t N = true) :
  Calls Tryz.prog 89 #[.int .i64 r, .int .u64 t, .int .i64 N] w fun e w' => ∃ v, e = .returned (.tuple #[v, .int .i64 0]) ∧ aH IntE w' B v (secL r t N) ∧ Below B w w' := by
 obtain ⟨g1, g2, g3, g4, g5, g6⟩ := lis_iff.1 h
 have HM := af (show mayB r t t = true from eV.2 (by omega))
 clear h
 go_enter Tryz.func89, Tryz.ntmps89
 go_wp2_with fail
 refine (rimay r t t w h0 (by omega) h0 (by omega)).mono ?_
 rintro e w1 ⟨rfl, rfl⟩
 rw [HM.out]
 by_cases hn : 0 < N
 all_goals
  go_wp2
  go_loopw [8, 9, 10, 11] (fun v i x y wr => ∃ k : Nat, k ≤ N ∧ i = .int .i64 k ∧ aH IntE wr B v ((secL r t N).take k) ∧ Below B w wr) (fun _ i _ _ _ => N - (intOf i).toNat)
  case atStart => exact ⟨0, Nat.zero_le _, rfl, aH.nil _ _, Below.refl _ _⟩
  case round =>
   obtain ⟨k, hk, rfl, hmd, hbl⟩ := hrel
   by_cases hlt : k < N
   ·clear hn
    go_wp2_with fail
    refine (rsec r (t + (k : Int)) _ (by omega) (by omega)).mono ?_
    rintro e w5 ⟨rfl, rfl⟩
    rw [(sec_in (eV.2 (by omega))).1, (sec_in (eV.2 (by omega))).2]
    have hsc := secL_succ (r := r) (t := t) hlt
    have hlk : ((secL r t N).take k).length ≤ 256 := by rw [List.length_take, secL_len]; omega
    generalize hx : (t + (k : Int)) % r = x at *
    generalize hl : (secL r t N).take k = l at *
    generalize hl' : (secL r t N).take (k + 1) = l' at *
    have HX := af hx
    have HL := af hl'
    have HSC := af hsc
    clear hx hl hl' hsc
    have hnew : RdE IntE _ _ _ 1 _ := eF (E := IntE) (l := [x]) wr #[.int .i64 x] 3 rfl
    have hmd' := hmd.below ((Below.refl wr.heap.size wr).alloc (Nat.le_refl _) (.cells #[.int .i64 x] 3))
    have hsz : B ≤ (wr.alloc (.cells #[.int .i64 x] 3)).heap.size := by rw [World.size_alloc]; have := hbl.size; have := HB0.out; omega
    go_wp2_with (at_builtin; refine wpList_appE IntE rfl _ _ rfl B _ 1 _ _ _ _ _ rfl rfl hmd' hnew hsz ?c1 ?_)
    case c1 => omega
    intro v6 w6 hm6 hg6
    have hb6 : Below B (wr.alloc (.cells #[.int .i64 x] 3)) w6 := (Below.refl _ _).grown hg6 hsz hmd.lt_own
    have hB6 : Below B w w6 := (hbl.alloc (by have := hbl.size; have := HB0.out; omega) _).trans hb6
    rw [HSC.out] at hm6
    clear hnew hmd' hsz hg6 hb6 hmd hbl
    go_wp2
    go_roundw
    case rel => exact ⟨k + 1, by omega, by go_num, by rw [HL.out]; exact hm6, hB6⟩
    case measure => simp [intOf]; omega
   ·have hkn : k = N := by omega
    subst hkn
    rw [List.take_of_length_le (by rw [secL_len]; exact Nat.le_refl _)] at hmd
    go_wp2
    go_ret2
    exact ⟨_, rfl, hmd, hbl⟩
section
variable {d : Int} {M : BenS} {T : List Stp} {k : Nat} {s : Stp}
theorem room_more {m n : Nat} (h : Room M n) (hm : m ≤ n) : Room M m := by
 induction n with
 | zero => rw [show m = 0 from by omega]; exact h
 | succ n ih =>
  rcases Nat.lt_or_ge n m with e | e
  ·rw [show m = n + 1 from by omega]; exact h
  ·exact ih h.less e
end
section
variable {x : LgS} {cs : List Cl} {j : Nat}
theorem appQ_rec (h : recE cs ≠ 0) : appQ x cs = recE cs := if_pos h
theorem appQ_full (h : recE cs = 0) (h2 : 8 ≤ x.nts.length ∨ x.free < (bS cs).length) : appQ x cs = 10 := by unfold appQ; rw [if_neg (by omega), if_pos h2]
theorem appQ_ok (h : recE cs = 0) (h2 : ¬ (8 ≤ x.nts.length ∨ x.free < (bS cs).length)) : appQ x cs = 0 := by unfold appQ; rw [if_neg (by omega), if_neg h2]
theorem app_no {M : BenS} (h : appQ x cs ≠ 0) : appE M x cs = appQ x cs ∧ appB M x cs = M ∧ appX M x cs = x ∧ appN M x cs = 0 := by
 have e : appE M x cs = appQ x cs := if_neg h
 exact ⟨e, if_neg h, by unfold appX; rw [e, if_neg h], by unfold appN; rw [e, if_neg h]⟩
theorem app_go_ {M : BenS} (h : appQ x cs = 0) : appE M x cs = goE x.d M (appT x cs) ∧ appB M x cs = goB x.d M (appT x cs) := ⟨if_pos h, if_pos h⟩
theorem app_err {M : BenS} {E : Int} {M' : BenS} (h : appQ x cs = 0) (h1 : goE x.d M (appT x cs) = E ∧ goB x.d M (appT x cs) = M') (hE : E ≠ 0) : appE M x cs = E ∧ appB M x cs = M' ∧ appX M x cs = x ∧ appN M x cs = 0 := by
 obtain ⟨e1, e2⟩ := app_go_ (M := M) h
 rw [h1.1] at e1
 rw [h1.2] at e2
 exact ⟨e1, e2, by unfold appX; rw [e1, if_neg hE], by unfold appN; rw [e1, if_neg hE]⟩
theorem app_fin {M : BenS} {M' : BenS} (h : appQ x cs = 0) (h1 : goE x.d M (appT x cs) = 0 ∧ goB x.d M (appT x cs) = M') : appE M x cs = 0 ∧ appB M x cs = M' ∧ appX M x cs = x.with_ (dh x cs) ∧ appN M x cs = x.next := by
 obtain ⟨e1, e2⟩ := app_go_ (M := M) h
 rw [h1.1] at e1
 rw [h1.2] at e2
 exact ⟨e1, e2, by unfold appX; rw [e1]; rfl, by unfold appN; rw [e1]; rfl⟩
end
section
variable {α : Type} {E : Elt α} {w w' : World} {B : Nat} {v : Value} {l : List α}
theorem aH.kept_ (h : aH E w B v l) (hk : ∀ b, v.ownBlock = some b → w'.heap[b]? = w.heap[b]?) : aH E w' B v l := by
 refine ⟨h.1, ?_⟩
 rcases h.2 with hn | ⟨g, cap, cur, rfl, hbg, hg, rest⟩
 ·exact .inl hn
 ·exact .inr ⟨g, cap, cur, rfl, hbg, (hk g rfl).trans hg, rest⟩
theorem dr.own_ge {l : List Blk} (h : dr w B v l) : ∀ b, v.ownBlock = some b → B ≤ b ∧ b < w.heap.size := by
 intro b hb
 rcases h.2 with ⟨rfl, _⟩ | ⟨g, cap, cur, rfl, hg, hg2, _⟩
 ·simp [Value.ownBlock] at hb
 ·simp [Value.ownBlock] at hb; subst hb; exact ⟨hg, aK hg2⟩
theorem aH.own_both (h : aH E w B v l) : ∀ b, v.ownBlock = some b → B ≤ b ∧ b < w.heap.size := by
 intro b hb
 rcases h.2 with ⟨rfl, _⟩ | ⟨g, cap, cur, rfl, hg, hg2, _⟩
 ·simp [Value.ownBlock] at hb
 ·simp [Value.ownBlock] at hb; subst hb; exact ⟨hg, aK hg2⟩
end
theorem secL_at_ {r t n j : Nat} (h : j < n) : (secL (r : Int) (t : Int) n).getD j 0 = (((t + j) % r : Nat) : Int) := by
 unfold secL
 rw [List.getD, List.getElem?_map, List.getElem?_range h]
 simp [Int.natCast_emod]
end Go.Proofs.YtbbcdhkinbmdnaaGreatDoor
