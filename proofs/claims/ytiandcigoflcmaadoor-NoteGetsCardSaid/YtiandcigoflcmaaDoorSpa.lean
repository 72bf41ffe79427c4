/-
  The program's seal: cut, told, lay.
-/
import Derived.Test.YtiandcigoflcmaaDoorSec
import Derived.Test.YtiandcigoflcmaaDoorSealM
import Derived.Test.YtiandcigoflcmaaDoorTypA
import Derived.Test.YtiandcigoflcmaaDoorCrcMore
namespace Go.Proofs.YtiandcigoflcmaaDoor
open Go.RowKit
set_option linter.unusedVariables false
set_option maxRecDepth 100000

section
variable {ρ : Operand → Value} {o : Oper} {x y z u : Operand} {w : World} {t : TypeId} {p q a b c : Value}
theorem exec_cut3 (ho : o.op = .slice t x (some y) (some z) (some u)) (hx : ρ x = p) (hy : ρ y = a) (hz : ρ z = b) (hu : ρ u = c) (h : (Instr.sliceAt t p (some a) (some b) (some c)).run Tryd.prog w = .ok q w) : (execOp ρ o).run Tryd.prog w = .ok (.value q) w := by
  unfold execOp
  simp only [ho, hx, hy, hz, hu, Option.map_some, Sem.run_bind, h, Result.andThen_ok, Sem.run_pure]
end
section
variable (g : Nat) (w : World)
theorem cut_gen {i j k : Nat} (h1 : i ≤ j) (h2 : j ≤ k) (h3 : k ≤ 64) (h4 : i < k) : (Instr.sliceAt 27 (.pointer (some ⟨g, 0, none⟩)) (some (.int .i64 (i : Int))) (some (.int .i64 (j : Int))) (some (.int .i64 (k : Int)))).run Tryd.prog w = .ok (.slice (some ⟨g, i, none⟩) (j - i) (k - i)) w := by
  have e1 : (0 ≤ (k : Int) ∧ (k : Int) ≤ 64) := by omega
  have e2 : (0 ≤ (j : Int) ∧ (j : Int) ≤ (k : Int)) := by omega
  have e3 : (0 ≤ (i : Int) ∧ (i : Int) ≤ (j : Int)) := by omega
  have e4 : k ≠ i := by omega
  simp [Instr.sliceAt, Instr.sliceBounds, Instr.sliceBound, Instr.sureAddr, asIntOf, run_underlying undB, Tryd.sizeOf5, Addr.add_mid, e1, e2, e3, e4, h1, h2, h3]
theorem cut_a : (Instr.sliceAt 27 (.pointer (some ⟨g, 0, none⟩)) (some (.int .i64 0)) (some (.int .i64 8)) (some (.int .i64 8))).run Tryd.prog w = .ok (.slice (some ⟨g, 0, none⟩) 8 8) w := cut_gen g w (i := 0) (j := 8) (k := 8) (by omega) (by omega) (by omega) (by omega)
theorem cut_b : (Instr.sliceAt 27 (.pointer (some ⟨g, 0, none⟩)) (some (.int .i64 8)) (some (.int .i64 52)) (some (.int .i64 52))).run Tryd.prog w = .ok (.slice (some ⟨g, 8, none⟩) 44 44) w := cut_gen g w (i := 8) (j := 52) (k := 52) (by omega) (by omega) (by omega) (by omega)
theorem cut_c : (Instr.sliceAt 27 (.pointer (some ⟨g, 0, none⟩)) (some (.int .i64 52)) (some (.int .i64 56)) (some (.int .i64 56))).run Tryd.prog w = .ok (.slice (some ⟨g, 52, none⟩) 4 4) w := cut_gen g w (i := 52) (j := 56) (k := 56) (by omega) (by omega) (by omega) (by omega)
theorem cut_d : (Instr.sliceAt 27 (.pointer (some ⟨g, 0, none⟩)) (some (.int .i64 56)) (some (.int .i64 64)) (some (.int .i64 64))).run Tryd.prog w = .ok (.slice (some ⟨g, 56, none⟩) 8 8) w := cut_gen g w (i := 56) (j := 64) (k := 64) (by omega) (by omega) (by omega) (by omega)
theorem cut_e : (Instr.sliceAt 27 (.pointer (some ⟨g, 0, none⟩)) (some (.int .i64 0)) (some (.int .i64 52)) (some (.int .i64 52))).run Tryd.prog w = .ok (.slice (some ⟨g, 0, none⟩) 52 52) w := cut_gen g w (i := 0) (j := 52) (k := 52) (by omega) (by omega) (by omega) (by omega)
end
section
variable {ρ : Operand → Value} {o : Oper} {x y : Operand} {w : World} {t : TypeId} {old cs : Array Value}
theorem exec_fillD (hz : (Tryd.prog.info? t).map (·.size) = some cs.size) (he : old.size = cs.size) (h1 : cs.toList.all Value.oneCell' = true) (ho : o.op = .store t x y) (hx : ρ x = .pointer (some ⟨w.heap.size, 0, none⟩)) (hy : ρ y = .agg cs) :
    (execOp ρ o).run Tryd.prog (w.alloc (.cells old t)).drew = .ok .skip (w.alloc (.cells cs t)).drew := exec_fillT (w := w.drew) hz he h1 ho hx hy
end
theorem exec_bld5 {ρ : Operand → Value} {o : Oper} {w : World} {t : TypeId} {v : Value} {x0 x1 x2 x3 x4 : Operand} {y0 y1 y2 y3 y4 : Value} (ho : o.op = .build t #[(0, x0), (1, x1), (2, x2), (3, x3), (4, x4)]) (h0 : ρ x0 = y0) (h1 : ρ x1 = y1) (h2 : ρ x2 = y2) (h3 : ρ x3 = y3) (h4 : ρ x4 = y4)
    (h : (Instr.build t #[(0, y0), (1, y1), (2, y2), (3, y3), (4, y4)]).run Tryd.prog w = .ok v w) : (execOp ρ o).run Tryd.prog w = .ok (.value v) w := by
  subst h0 h1 h2 h3 h4
  unfold execOp
  simp only [ho, List.map_toArray, List.map_cons, List.map_nil, Sem.run_bind, h, Result.andThen_ok, Sem.run_pure]
theorem res_row {fn : Func} {p : Tmp} {t : TypeId} {cs : Array Value} {d : TypeDesc} (h0 : fn.results = #[.cell p t]) (tmps : Array Value) (w : World) (b : Nat) (hp : tmps.getD p undef = .pointer (some ⟨b, 0, none⟩)) (h : w.heap[b]? = some (.cells cs t (0, 0))) (hu : Tryd.prog.underlying t = some d) (hd : d.isRow = true) (hz : (Tryd.prog.info? t).map (·.size) = some cs.size) :
    (results fn tmps).run Tryd.prog w = .ok (.agg cs) w := by
  have hr : w.rangeAt b 0 cs.toList := fun j v hj => by
    rw [cell_of_row w b (0 + j) cs t (0, 0) h, Nat.zero_add]
    simpa using hj
  have hl : (loadVar t ⟨b, 0, none⟩).run Tryd.prog w = .ok (.agg cs) w := by
    have := run_loadVar_mid (P := Tryd.prog) w b 0 t cs.toList d hr hu hd (by simpa using hz)
    simpa using this
  have hp' : tmps[p]?.getD undef = .pointer (some ⟨b, 0, none⟩) := by simpa using hp
  simp [results, h0, hp', asAddr, hl]
theorem grown_of_below {w w' : World} {row : Option Nat} (hb : Below w.heap.size w w') : w.grownBy w' row := ⟨hb.os, hb.tape, hb.output, hb.size, fun k hk _ => hb.block k hk⟩
/-- A sector's parts: five pieces of one block. -/
def partsA (g : Nat) : Array Value := #[.slice (some ⟨g, 0, none⟩) 8 8, .slice (some ⟨g, 8, none⟩) 44 44, .slice (some ⟨g, 52, none⟩) 4 4, .slice (some ⟨g, 56, none⟩) 8 8, .slice (some ⟨g, 0, none⟩) 52 52]

theorem parts5 (g : Nat) (w : World) : (Instr.build 62 #[(0, .slice (some ⟨g, 0, none⟩) 8 8), (1, .slice (some ⟨g, 8, none⟩) 44 44), (2, .slice (some ⟨g, 52, none⟩) 4 4), (3, .slice (some ⟨g, 56, none⟩) 8 8), (4, .slice (some ⟨g, 0, none⟩) 52 52)]).run Tryd.prog w = .ok (.agg (partsA g)) w := by kernel_rfl
set_option maxHeartbeats 1000000 in
theorem cut_any (g : Nat) (w : World) : Calls Tryd.prog 33 #[.pointer (some ⟨g, 0, none⟩)] w fun e w' => e = .returned (.agg #[.slice (some ⟨g, 0, none⟩) 8 8, .slice (some ⟨g, 8, none⟩) 44 44, .slice (some ⟨g, 52, none⟩) 4 4, .slice (some ⟨g, 56, none⟩) 8 8, .slice (some ⟨g, 0, none⟩) 52 52]) ∧ Below w.heap.size w w' := by
  go_enter Tryd.func33, Tryd.ntmps33
  go_wp2_with fail
  refine wp_region_still_tail 15 (by kernel_rfl) (by kernel_rfl) ?_
  simp only [List.take_succ_cons, List.take_zero, List.drop_succ_cons, List.drop_zero]
  refine st_val rfl (exec_mv rfl (ev rfl)) ?_
  simp only [Act.put, List.setIfInBounds_toArray, List.set_cons_succ, List.set_cons_zero]
  refine st_val rfl (exec_nil rfl (ev rfl)) ?_
  simp only [Act.put, List.setIfInBounds_toArray, List.set_cons_succ, List.set_cons_zero]
  refine st_val rfl (exec_cut3 rfl (ev rfl) evk evk evk (cut_a g _)) ?_
  simp only [Act.put, List.setIfInBounds_toArray, List.set_cons_succ, List.set_cons_zero]
  refine st_val rfl (exec_mv rfl (ev rfl)) ?_
  simp only [Act.put, List.setIfInBounds_toArray, List.set_cons_succ, List.set_cons_zero]
  refine st_val rfl (exec_nil rfl (ev rfl)) ?_
  simp only [Act.put, List.setIfInBounds_toArray, List.set_cons_succ, List.set_cons_zero]
  refine st_val rfl (exec_cut3 rfl (ev rfl) evk evk evk (cut_b g _)) ?_
  simp only [Act.put, List.setIfInBounds_toArray, List.set_cons_succ, List.set_cons_zero]
  refine st_val rfl (exec_mv rfl (ev rfl)) ?_
  simp only [Act.put, List.setIfInBounds_toArray, List.set_cons_succ, List.set_cons_zero]
  refine st_val rfl (exec_nil rfl (ev rfl)) ?_
  simp only [Act.put, List.setIfInBounds_toArray, List.set_cons_succ, List.set_cons_zero]
  refine st_val rfl (exec_cut3 rfl (ev rfl) evk evk evk (cut_c g _)) ?_
  simp only [Act.put, List.setIfInBounds_toArray, List.set_cons_succ, List.set_cons_zero]
  refine st_val rfl (exec_mv rfl (ev rfl)) ?_
  simp only [Act.put, List.setIfInBounds_toArray, List.set_cons_succ, List.set_cons_zero]
  refine st_val rfl (exec_nil rfl (ev rfl)) ?_
  simp only [Act.put, List.setIfInBounds_toArray, List.set_cons_succ, List.set_cons_zero]
  refine st_val rfl (exec_cut3 rfl (ev rfl) evk evk evk (cut_d g _)) ?_
  simp only [Act.put, List.setIfInBounds_toArray, List.set_cons_succ, List.set_cons_zero]
  refine st_val rfl (exec_mv rfl (ev rfl)) ?_
  simp only [Act.put, List.setIfInBounds_toArray, List.set_cons_succ, List.set_cons_zero]
  refine st_val rfl (exec_nil rfl (ev rfl)) ?_
  simp only [Act.put, List.setIfInBounds_toArray, List.set_cons_succ, List.set_cons_zero]
  refine st_val rfl (exec_cut3 rfl (ev rfl) evk evk evk (cut_e g _)) ?_
  simp only [Act.put, List.setIfInBounds_toArray, List.set_cons_succ, List.set_cons_zero]
  refine wpStill_nil ?_
  change wpList _ _ _ _ _ (World.drew _)
  refine wpList_val rfl (exec_bld5 (v := .agg (partsA g)) rfl (ev rfl) (ev rfl) (ev rfl) (ev rfl) (ev rfl) (parts5 g _)) ?_
  simp only [Act.put, List.setIfInBounds_toArray, List.set_cons_succ, List.set_cons_zero]
  refine wpList_nul rfl (exec_fillD (w := w) (cs := partsA g) ?s1 ?s2 ?s3 rfl (ev rfl) (ev rfl)) ?_
  case s1 => kernel_rfl
  case s2 => rfl
  case s3 => rfl
  refine wpList_nil ?_
  go_wp2_with fail
  refine bodyPost_ret (res_row (cs := partsA g) (t := 62) rfl _ _ w.heap.size rfl ?h1 Tryd.underlying62 rfl ?h2) rfl ⟨rfl, ?h3⟩
  case h1 => exact heap_alloc_new w.drew _
  case h2 => kernel_rfl
  case h3 => exact bd ((Below.refl _ w).alloc (Nat.le_refl _) _)

theorem piece_all {b : List UInt8} {n : Nat} (h : b.length = n) : piece b 0 n = b := by
  subst h
  simp [piece]
set_option maxHeartbeats 400000 in
theorem told_any (A : Option Addr) (n c N : Nat) (b : List UInt8) (w : World) (hb : Rd w N A n b) (h1 : 1 ≤ n) (h2 : n ≤ 8) :
    Calls Tryd.prog 38 #[.slice A n c] w fun e w' => e = .returned (.int .u64 (val 8 b)) ∧ w = w' := by
  have hp := piece_all hb.1
  have HP := Lib.hid hp
  clear hp
  go_enter Tryd.func38, Tryd.ntmps38
  go_wp2_with fail
  refine (get_ok A n c N b 0 n _ hb (by unfold maxLen; omega) h1 h2 (by omega)).mono ?_
  rintro e w' ⟨rfl, rfl⟩
  rw [HP.out]
  go_wp2
  go_ret
  exact ⟨rfl, rfl⟩
set_option maxHeartbeats 400000 in
theorem lay_any (g off k n : Nat) (t : TypeId) (l : List UInt8) (w : World) (hs : RowL w g t l) (h1 : 1 ≤ k) (h2 : k ≤ 8) (ho : off + k ≤ l.length) (hn : n < 256 ^ k) :
    Calls Tryd.prog 34 #[.slice (some ⟨g, off, none⟩) k k, .int .u64 n] w fun e w' => e = .returned (.tuple #[]) ∧ RowL w' g t (splice l off (digL 8 k n)) ∧ w.grownBy w' (some g) := by
  have HS := Lib.hid hs
  have HL := Lib.hid (length_digL 8 k n)
  clear hs
  go_enter Tryd.func34, Tryd.ntmps34
  go_wp2_with fail
  refine (put_ok n k w h1 h2 hn).mono ?_
  rintro e w1 ⟨v, rfl, hv, hb⟩
  obtain ⟨A, c, rfl, hrd, _, _⟩ := hv.made.open_ HL.out
  have HR := Lib.hid hrd
  have HS1 := Lib.hid (HS.out.below HS.out.lt hb)
  have HB := Lib.hid hb
  clear hv hrd hb
  go_wp2_with (with_reducible refine wpList_copyL rfl _ _ rfl g off k k k c _ A t l (digL 8 k n) rfl rfl HS1.out HR.out (Nat.le_refl _) ho ?_)
  intro w2 hr2 hg2
  have HR2 := Lib.hid hr2
  have HG2 := Lib.hid hg2
  clear hr2 hg2
  go_wp2
  go_end0
  exact ⟨rfl, HR2.out, (grown_of_below HB.out).trans HG2.out⟩
end Go.Proofs.YtiandcigoflcmaaDoor
