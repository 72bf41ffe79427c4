import Derived.Test.YtheponmdbmloaaaGreatDoorFnaf
import Derived.Test.YtheponmdbmloaaaGreatDoorFnak
import Derived.Test.YtheponmdbmloaaaGreatDoorFnaj
import Derived.Deep.DeepCutAuto
import Derived.Test.YtheponmdbmloaaaGreatDoorFnae
import Derived.Test.YtheponmdbmloaaaGreatDoorFnaa
import Derived.Test.YtheponmdbmloaaaGreatDoorFnZ
namespace Go.Proofs.YtheponmdbmloaaaGreatDoor
open Go.RowKit
set_option linter.unusedVariables false
set_option linter.unusedSimpArgs false
set_option maxRecDepth 100000
def secK (M : BenS) (x : Ros) : Nat → Bool
  | 0 => true
  | k + 1 => secK M x k && !decide (seN6 M (k : Int) < 2 + x.s)
def hnwB (M : BenS) (id ev : Nat) (x : Ros) : Bool := !decide (id = 0) && (!decide (2305843009213693952 < ev) && (aG x && (decide ((M.ds.length : Int) = x.m + 1) && secK M x x.m.toNat)))
theorem secK_no {M : BenS} {x : Ros} {i : Nat} (h : seN6 M (i : Int) < 2 + x.s) : ∀ {n : Nat}, i < n → secK M x n = false
  | 0, hi => absurd hi (by omega)
  | n + 1, hi => by
    rw [secK]
    by_cases e : i = n
    · subst e; rw [decide_eq_true h]; simp
    · rw [secK_no h (n := n) (by omega)]; rfl
theorem secK_step {M : BenS} {x : Ros} {i : Nat} (h : secK M x i = true) (h' : ¬ seN6 M (i : Int) < 2 + x.s) : secK M x (i + 1) = true := by rw [secK, h, decide_eq_false h']; rfl
def rhC (q id ev : Nat) (x : Ros) : List Value := .pointer (some ⟨q, 0, none⟩) :: .int .u64 (id : Int) :: .int .u64 (ev : Int) :: aC x
theorem zeroRh : (Tryz.prog.info? 36).map (fun i => i.zero) = some (some (.agg (.pointer none :: .int .u64 0 :: .int .u64 0 :: aC bf).toArray)) := by kernel_rfl
section
variable {ρ : Operand → Value} {o : Oper} {x1 x2 x3 x4 : Operand} {w : World} {q id ev : Nat} {x : Ros}
theorem run_bldRh (q id ev : Nat) (x : Ros) : (Instr.build 36 #[(0, .pointer (some ⟨q, 0, none⟩)), (1, .int .u64 (id : Int)), (2, .int .u64 (ev : Int)), (3, ros x)]).run Tryz.prog w = .ok (.agg (rhC q id ev x).toArray) w := by
  have hz := run_zeroT zeroRh w
  have h0 := cn (place := fun i => (#[(0, 1), (1, 1), (2, 1), (3, 21)] : Array (Nat × Nat))[i]?) (i := 0) (off := 0) (size := 1) (v := .pointer (some ⟨q, 0, none⟩)) (pre := []) (mid := [.pointer none]) (post := .int .u64 0 :: .int .u64 0 :: aC bf) (vs := [.pointer (some ⟨q, 0, none⟩)]) (rest := [(1, .int .u64 (id : Int)), (2, .int .u64 (ev : Int)), (3, ros x)]) rfl rfl rfl rfl rfl
  have h1 := cn (place := fun i => (#[(0, 1), (1, 1), (2, 1), (3, 21)] : Array (Nat × Nat))[i]?) (i := 1) (off := 1) (size := 1) (v := .int .u64 (id : Int)) (pre := [.pointer (some ⟨q, 0, none⟩)]) (mid := [.int .u64 0]) (post := .int .u64 0 :: aC bf) (vs := [.int .u64 (id : Int)]) (rest := [(2, .int .u64 (ev : Int)), (3, ros x)]) rfl rfl rfl rfl rfl
  have h2 := cn (place := fun i => (#[(0, 1), (1, 1), (2, 1), (3, 21)] : Array (Nat × Nat))[i]?) (i := 2) (off := 2) (size := 1) (v := .int .u64 (ev : Int)) (pre := [.pointer (some ⟨q, 0, none⟩), .int .u64 (id : Int)]) (mid := [.int .u64 0]) (post := aC bf) (vs := [.int .u64 (ev : Int)]) (rest := [(3, ros x)]) rfl rfl rfl rfl rfl
  have h3 := cn (place := fun i => (#[(0, 1), (1, 1), (2, 1), (3, 21)] : Array (Nat × Nat))[i]?) (i := 3) (off := 3) (size := 21) (v := ros x) (pre := [.pointer (some ⟨q, 0, none⟩), .int .u64 (id : Int), .int .u64 (ev : Int)]) (mid := aC bf) (post := []) (vs := aC x) (rest := []) rfl rfl (aS x) rfl (aS bf)
  simp only [List.nil_append, List.append_nil, List.cons_append] at h0 h1 h2 h3
  have h4 := h0.trans (h1.trans (h2.trans h3))
  have hz' : (zeroValue 36).run Tryz.prog w = .ok (.agg (.pointer none :: .int .u64 0 :: .int .u64 0 :: aC bf).toArray) w := hz
  have hc : (Value.agg (.pointer none :: .int .u64 0 :: .int .u64 0 :: aC bf).toArray).cells = (.pointer none :: .int .u64 0 :: .int .u64 0 :: aC bf).toArray := rfl
  simp only [Instr.build, Sem.run_bind, hz', run_underlying Tryz.underlying36, Result.andThen_ok, hc]
  refine Eq.trans (congrArg (fun r => Result.andThen r _) (?h : _ = Result.ok #[(0, 1), (1, 1), (2, 1), (3, 21)] w)) ?_
  case h => kernel_rfl
  simp only [Result.andThen_ok]
  have h5 : Instr.fill (fun i => (#[(0, 1), (1, 1), (2, 1), (3, 21)] : Array (Nat × Nat))[i]?) (rhC q id ev x).toArray [] = some (rhC q id ev x).toArray := by rw [Instr.fill]
  rw [h4.trans h5]
  rfl
theorem exec_bldRh (ho : o.op = .build 36 #[(0, x1), (1, x2), (2, x3), (3, x4)]) (h1 : ρ x1 = .pointer (some ⟨q, 0, none⟩)) (h2 : ρ x2 = .int .u64 (id : Int)) (h3 : ρ x3 = .int .u64 (ev : Int)) (h4 : ρ x4 = ros x) : (execOp ρ o).run Tryz.prog w = .ok (.value (.agg (rhC q id ev x).toArray)) w := by
  unfold execOp
  simp only [ho, h1, h2, h3, h4, List.map_toArray, List.map_cons, List.map_nil, Sem.run_bind, run_bldRh, Result.andThen_ok, Sem.run_pure]
end
def RHu (w : World) (p q id ev : Nat) (x : Ros) : Prop := w.heap[p]? = some (.cells (rhC q id ev x).toArray 36 (0, 0))
theorem i64q_ {a : Int} (h : -9223372036854775808 ≤ a ∧ a ≤ 9223372036854775807) : IntKind.i64.wrap a = a := IntWalk.i64_in _ ⟨by omega, by omega⟩
section
variable {w : World} {F : Nat → Prop} {q : Nat} {M : BenS}
def RNewH (w : World) (q : Nat) (M : BenS) (id en : Nat) (x : Ros) (e : Ending) (w' : World) : Prop :=
  Below w.heap.size w w' ∧ ((hnwB M id en x = true ∧ ∃ p, e = .returned (.tuple #[.pointer (some ⟨p, 0, none⟩), .int .i64 0]) ∧ RHu w' p q id en x ∧ w.heap.size ≤ p) ∨ (hnwB M id en x = false ∧ e = .returned (.tuple #[.pointer none, .int .i64 2])))
set_option maxHeartbeats 2000000 in
theorem rhnew_0 (id en : Nat) (x : Ros) (w : World) (hb : cj.Bn w F q M) (h0 : id = 0) : Calls Tryz.prog 18 #[.pointer (some ⟨q, 0, none⟩), .int .u64 (id : Int), .int .u64 (en : Int), ros x] w (RNewH w q M id en x) := by
  obtain ⟨w1, hw1⟩ : ∃ w1, w.alloc (.cells (aC x).toArray 32) = w1 := ⟨_, rfl⟩
  obtain ⟨hx, hb1, hlt⟩ := bU w x
  rw [hw1] at hx hb1 hlt
  have HW1 := Lib.hid hw1
  have HX := Lib.hid hx
  have HB1 := Lib.hid hb1
  have HLT := Lib.hid hlt
  have HB := Lib.hid (cj.below hb hb1)
  clear hw1 hx hb1 hlt hb
  have H0 : Hid (((id : Int) == 0) = true) := Lib.hid (by rw [h0]; rfl)
  have HNO : Hid (hnwB M id en x = false) := Lib.hid (by unfold hnwB; rw [decide_eq_true h0]; rfl)
  clear h0
  go_enter Tryz.func18, Tryz.ntmps18
  go_upto_region 0 with fail
  refine wp_region_lit ?_
  refine af rfl (aH rfl (ev rfl)) ?_
  simp only [Act.put, aa, ac, ae]
  rw [HW1.out]
  refine af rfl (aj rfl evk) ?_
  simp only [Act.put, aa, ac, ae]
  refine af rfl (aj rfl evk) ?_
  simp only [Act.put, aa, ac, ae]
  refine wpList_nil ?_
  go_upto_region 1 with fail
  refine aA (B := w1.heap.size) (by kernel_rfl) ?_
  refine aq rfl (fun w' hw => ag rfl (ev rfl)) ?_
  simp only [Act.put, aa, ac, ae]
  refine aq (v := .bool true) rfl (fun w' hw => ar true rfl (ev rfl) evk H0.out) ?_
  simp only [Act.put, aa, ac, ae]
  refine dr 2 (v := .bool true) rfl (fun w' hw => ag rfl (ev rfl)) (by kernel_rfl) ?_
  simp only [bg, List.take_succ_cons, List.take_zero, List.drop_succ_cons, List.drop_zero, Act.put, List.setIfInBounds_toArray, List.set_cons_succ, List.set_cons_zero]
  refine aq (v := .bool true) rfl (fun w' hw => aK rfl (ev rfl) evk) ?_
  simp only [Act.put, aa, ac, ae]
  refine dr 3 (v := .bool true) rfl (fun w' hw => ag rfl (ev rfl)) (by kernel_rfl) ?_
  simp only [bg, List.take_succ_cons, List.take_zero, List.drop_succ_cons, List.drop_zero, Act.put, List.setIfInBounds_toArray, List.set_cons_succ, List.set_cons_zero]
  refine aq (v := .bool true) rfl (fun w' hw => aK rfl (ev rfl) evk) ?_
  simp only [Act.put, aa, ac, ae]
  refine dr 7 (v := .bool true) rfl (fun w' hw => ag rfl (ev rfl)) (by kernel_rfl) ?_
  simp only [bg, List.take_succ_cons, List.take_zero, List.drop_succ_cons, List.drop_zero, Act.put, List.setIfInBounds_toArray, List.set_cons_succ, List.set_cons_zero]
  refine aq (v := .bool true) rfl (fun w' hw => aK rfl (ev rfl) evk) ?_
  simp only [Act.put, aa, ac, ae]
  refine wpQuiet_nil ?_
  intro w2 hw
  have HB2 := Lib.hid (HB1.out.trans (hw.mono HB1.out.size))
  go_wp2_with fail
  go_ret2
  exact ⟨HB2.out, .inr ⟨HNO.out, rfl⟩⟩
set_option maxHeartbeats 2000000 in
theorem rhnew_1 (id en : Nat) (x : Ros) (w : World) (hb : cj.Bn w F q M) (h0 : id ≠ 0) (h1 : 2305843009213693952 < en) : Calls Tryz.prog 18 #[.pointer (some ⟨q, 0, none⟩), .int .u64 (id : Int), .int .u64 (en : Int), ros x] w (RNewH w q M id en x) := by
  obtain ⟨w1, hw1⟩ : ∃ w1, w.alloc (.cells (aC x).toArray 32) = w1 := ⟨_, rfl⟩
  obtain ⟨hx, hb1, hlt⟩ := bU w x
  rw [hw1] at hx hb1 hlt
  have HW1 := Lib.hid hw1
  have HX := Lib.hid hx
  have HB1 := Lib.hid hb1
  have HLT := Lib.hid hlt
  have HB := Lib.hid (cj.below hb hb1)
  clear hw1 hx hb1 hlt hb
  have H0 : Hid (((id : Int) == 0) = false) := Lib.hid (beq_eq_false_iff_ne.2 (by omega))
  have H1 : Hid (decide ((2305843009213693952 : Int) < (en : Int)) = true) := Lib.hid (decide_eq_true (by omega))
  have HNO : Hid (hnwB M id en x = false) := Lib.hid (by unfold hnwB; rw [decide_eq_true h1]; simp)
  clear h0 h1
  go_enter Tryz.func18, Tryz.ntmps18
  go_upto_region 0 with fail
  refine wp_region_lit ?_
  refine af rfl (aH rfl (ev rfl)) ?_
  simp only [Act.put, aa, ac, ae]
  rw [HW1.out]
  refine af rfl (aj rfl evk) ?_
  simp only [Act.put, aa, ac, ae]
  refine af rfl (aj rfl evk) ?_
  simp only [Act.put, aa, ac, ae]
  refine wpList_nil ?_
  go_upto_region 1 with fail
  refine aA (B := w1.heap.size) (by kernel_rfl) ?_
  refine aq rfl (fun w' hw => ag rfl (ev rfl)) ?_
  simp only [Act.put, aa, ac, ae]
  refine aq (v := .bool false) rfl (fun w' hw => ar false rfl (ev rfl) evk H0.out) ?_
  simp only [Act.put, aa, ac, ae]
  refine aq (v := .bool false) rfl (fun w' hw => ag rfl (ev rfl)) ?_
  simp only [Act.put, aa, ac, ae]
  refine aq (ai rfl rfl rfl rfl) (fun w' hw => ag rfl (ev rfl)) ?_
  simp only [Act.put, aa, ac, ae]
  refine aq (v := .bool true) (ai rfl rfl rfl rfl) (fun w' hw => cD true rfl (ev rfl) evk H1.out) ?_
  simp only [Act.put, aa, ac, ae]
  refine aq (v := .bool true) rfl (fun w' hw => aI rfl (ev rfl) (ev rfl)) ?_
  simp only [Act.put, aa, ac, ae]
  refine dr 3 (v := .bool true) rfl (fun w' hw => ag rfl (ev rfl)) (by kernel_rfl) ?_
  simp only [bg, List.take_succ_cons, List.take_zero, List.drop_succ_cons, List.drop_zero, Act.put, List.setIfInBounds_toArray, List.set_cons_succ, List.set_cons_zero]
  refine aq (v := .bool true) rfl (fun w' hw => aK rfl (ev rfl) evk) ?_
  simp only [Act.put, aa, ac, ae]
  refine dr 7 (v := .bool true) rfl (fun w' hw => ag rfl (ev rfl)) (by kernel_rfl) ?_
  simp only [bg, List.take_succ_cons, List.take_zero, List.drop_succ_cons, List.drop_zero, Act.put, List.setIfInBounds_toArray, List.set_cons_succ, List.set_cons_zero]
  refine aq (v := .bool true) rfl (fun w' hw => aK rfl (ev rfl) evk) ?_
  simp only [Act.put, aa, ac, ae]
  refine wpQuiet_nil ?_
  intro w2 hw
  have HB2 := Lib.hid (HB1.out.trans (hw.mono HB1.out.size))
  go_wp2_with fail
  go_ret2
  exact ⟨HB2.out, .inr ⟨HNO.out, rfl⟩⟩
set_option maxHeartbeats 2000000 in
theorem rhnew_2 (id en : Nat) (x : Ros) (w : World) (hb : cj.Bn w F q M) (h0 : id ≠ 0) (h1 : ¬ 2305843009213693952 < en) (h2 : aG x = false) : Calls Tryz.prog 18 #[.pointer (some ⟨q, 0, none⟩), .int .u64 (id : Int), .int .u64 (en : Int), ros x] w (RNewH w q M id en x) := by
  obtain ⟨w1, hw1⟩ : ∃ w1, w.alloc (.cells (aC x).toArray 32) = w1 := ⟨_, rfl⟩
  obtain ⟨hx, hb1, hlt⟩ := bU w x
  rw [hw1] at hx hb1 hlt
  have HW1 := Lib.hid hw1
  have HX := Lib.hid hx
  have HB1 := Lib.hid hb1
  have HLT := Lib.hid hlt
  have HB := Lib.hid (cj.below hb hb1)
  clear hw1 hx hb1 hlt hb
  have H0 : Hid (((id : Int) == 0) = false) := Lib.hid (beq_eq_false_iff_ne.2 (by omega))
  have H1 : Hid (decide ((2305843009213693952 : Int) < (en : Int)) = false) := Lib.hid (decide_eq_false (by omega))
  have H2 := Lib.hid h2
  have HNO : Hid (hnwB M id en x = false) := Lib.hid (by unfold hnwB; rw [h2]; simp)
  clear h0 h1 h2
  go_enter Tryz.func18, Tryz.ntmps18
  go_upto_region 0 with fail
  refine wp_region_lit ?_
  refine af rfl (aH rfl (ev rfl)) ?_
  simp only [Act.put, aa, ac, ae]
  rw [HW1.out]
  refine af rfl (aj rfl evk) ?_
  simp only [Act.put, aa, ac, ae]
  refine af rfl (aj rfl evk) ?_
  simp only [Act.put, aa, ac, ae]
  refine wpList_nil ?_
  go_upto_region 1 with fail
  refine aA (B := w1.heap.size) (by kernel_rfl) ?_
  refine aq rfl (fun w' hw => ag rfl (ev rfl)) ?_
  simp only [Act.put, aa, ac, ae]
  refine aq (v := .bool false) rfl (fun w' hw => ar false rfl (ev rfl) evk H0.out) ?_
  simp only [Act.put, aa, ac, ae]
  refine aq (v := .bool false) rfl (fun w' hw => ag rfl (ev rfl)) ?_
  simp only [Act.put, aa, ac, ae]
  refine aq (ai rfl rfl rfl rfl) (fun w' hw => ag rfl (ev rfl)) ?_
  simp only [Act.put, aa, ac, ae]
  refine aq (v := .bool false) (ai rfl rfl rfl rfl) (fun w' hw => cD false rfl (ev rfl) evk H1.out) ?_
  simp only [Act.put, aa, ac, ae]
  refine aq (v := .bool false) rfl (fun w' hw => aI rfl (ev rfl) (ev rfl)) ?_
  simp only [Act.put, aa, ac, ae]
  refine aq (v := .bool false) rfl (fun w' hw => ag rfl (ev rfl)) ?_
  simp only [Act.put, aa, ac, ae]
  refine aq (ai rfl rfl rfl rfl) (fun w' hw => aP rfl (ev rfl) ((HX.out.below HLT.out hw).range)) ?_
  simp only [Act.put, aa, ac, ae]
  refine bi (ai rfl rfl rfl rfl) (fun _ => ap Tryz.call36 rfl (evc (ev rfl) evn)) (aY (Nat.le_refl _) fun w' hw => rmay_b w' H2.out) ?_
  simp only [Act.put, aa, ac, ae]
  refine aq (v := .bool true) (ai rfl rfl rfl rfl) (fun w' hw => az false rfl (ev rfl)) ?_
  simp only [Act.put, aa, ac, ae]
  refine aq (v := .bool true) rfl (fun w' hw => aI rfl (ev rfl) (ev rfl)) ?_
  simp only [Act.put, aa, ac, ae]
  refine dr 7 (v := .bool true) rfl (fun w' hw => ag rfl (ev rfl)) (by kernel_rfl) ?_
  simp only [bg, List.take_succ_cons, List.take_zero, List.drop_succ_cons, List.drop_zero, Act.put, List.setIfInBounds_toArray, List.set_cons_succ, List.set_cons_zero]
  refine aq (v := .bool true) rfl (fun w' hw => aK rfl (ev rfl) evk) ?_
  simp only [Act.put, aa, ac, ae]
  refine wpQuiet_nil ?_
  intro w2 hw
  have HB2 := Lib.hid (HB1.out.trans (hw.mono HB1.out.size))
  go_wp2_with fail
  go_ret2
  exact ⟨HB2.out, .inr ⟨HNO.out, rfl⟩⟩
set_option maxHeartbeats 2000000 in
theorem rhnew_3 (id en : Nat) (x : Ros) (w : World) (hb : cj.Bn w F q M) (h0 : id ≠ 0) (h1 : ¬ 2305843009213693952 < en) (h2 : aG x = true) (h3 : ¬ (M.ds.length : Int) = x.m + 1) : Calls Tryz.prog 18 #[.pointer (some ⟨q, 0, none⟩), .int .u64 (id : Int), .int .u64 (en : Int), ros x] w (RNewH w q M id en x) := by
  obtain ⟨w1, hw1⟩ : ∃ w1, w.alloc (.cells (aC x).toArray 32) = w1 := ⟨_, rfl⟩
  obtain ⟨hx, hb1, hlt⟩ := bU w x
  rw [hw1] at hx hb1 hlt
  have HW1 := Lib.hid hw1
  have HX := Lib.hid hx
  have HB1 := Lib.hid hb1
  have HLT := Lib.hid hlt
  have HB := Lib.hid (cj.below hb hb1)
  clear hw1 hx hb1 hlt hb
  have H0 : Hid (((id : Int) == 0) = false) := Lib.hid (beq_eq_false_iff_ne.2 (by omega))
  have H1 : Hid (decide ((2305843009213693952 : Int) < (en : Int)) = false) := Lib.hid (decide_eq_false (by omega))
  have H2 := Lib.hid h2
  have HAD : Hid (IntKind.i64.wrap (x.m + 1) = x.m + 1) := Lib.hid (i64q_ (by have := cQ (cr h2).1; omega))
  have H3 : Hid (((M.ds.length : Int) != x.m + 1) = true) := Lib.hid (by simpa using h3)
  have HNO : Hid (hnwB M id en x = false) := Lib.hid (by unfold hnwB; rw [decide_eq_false h3]; simp)
  clear h0 h1 h2 h3
  go_enter Tryz.func18, Tryz.ntmps18
  go_upto_region 0 with fail
  refine wp_region_lit ?_
  refine af rfl (aH rfl (ev rfl)) ?_
  simp only [Act.put, aa, ac, ae]
  rw [HW1.out]
  refine af rfl (aj rfl evk) ?_
  simp only [Act.put, aa, ac, ae]
  refine af rfl (aj rfl evk) ?_
  simp only [Act.put, aa, ac, ae]
  refine wpList_nil ?_
  go_upto_region 1 with fail
  refine aA (B := w1.heap.size) (by kernel_rfl) ?_
  refine aq rfl (fun w' hw => ag rfl (ev rfl)) ?_
  simp only [Act.put, aa, ac, ae]
  refine aq (v := .bool false) rfl (fun w' hw => ar false rfl (ev rfl) evk H0.out) ?_
  simp only [Act.put, aa, ac, ae]
  refine aq (v := .bool false) rfl (fun w' hw => ag rfl (ev rfl)) ?_
  simp only [Act.put, aa, ac, ae]
  refine aq (ai rfl rfl rfl rfl) (fun w' hw => ag rfl (ev rfl)) ?_
  simp only [Act.put, aa, ac, ae]
  refine aq (v := .bool false) (ai rfl rfl rfl rfl) (fun w' hw => cD false rfl (ev rfl) evk H1.out) ?_
  simp only [Act.put, aa, ac, ae]
  refine aq (v := .bool false) rfl (fun w' hw => aI rfl (ev rfl) (ev rfl)) ?_
  simp only [Act.put, aa, ac, ae]
  refine aq (v := .bool false) rfl (fun w' hw => ag rfl (ev rfl)) ?_
  simp only [Act.put, aa, ac, ae]
  refine aq (ai rfl rfl rfl rfl) (fun w' hw => aP rfl (ev rfl) ((HX.out.below HLT.out hw).range)) ?_
  simp only [Act.put, aa, ac, ae]
  refine bi (ai rfl rfl rfl rfl) (fun _ => ap Tryz.call36 rfl (evc (ev rfl) evn)) (aY (Nat.le_refl _) fun w' hw => rmay_b w' H2.out) ?_
  simp only [Act.put, aa, ac, ae]
  refine aq (v := .bool false) (ai rfl rfl rfl rfl) (fun w' hw => az true rfl (ev rfl)) ?_
  simp only [Act.put, aa, ac, ae]
  refine aq (v := .bool false) rfl (fun w' hw => aI rfl (ev rfl) (ev rfl)) ?_
  simp only [Act.put, aa, ac, ae]
  refine aq (v := .bool false) rfl (fun w' hw => ag rfl (ev rfl)) ?_
  simp only [Act.put, aa, ac, ae]
  refine aq (ai rfl rfl rfl rfl) (fun w' hw => ag rfl (ev rfl)) ?_
  simp only [Act.put, aa, ac, ae]
  refine bi (ai rfl rfl rfl rfl) (fun _ => ap Tryz.call37 rfl (evc (ev rfl) evn)) (aY (Nat.le_refl _) fun w' hw => cj.devices (cj.below HB.out hw)) ?_
  simp only [Act.put, aa, ac, ae]
  refine aq (ai rfl rfl rfl rfl) (fun w' hw => al rfl (ev rfl) faR0) ?_
  simp only [Act.put, aa, ac, ae]
  refine aq (ai rfl rfl rfl rfl) (fun w' hw => al rfl (ev rfl) faG0) ?_
  simp only [Act.put, aa, ac, ae]
  refine aq (ai rfl rfl rfl rfl) (fun w' hw => au rfl (ev rfl) (bq (HX.out.below HLT.out hw).cells.1)) ?_
  simp only [Act.put, aa, ac, ae]
  refine aq (ai rfl rfl rfl rfl) (fun w' hw => bD rfl (ev rfl) evk HAD.out) ?_
  simp only [Act.put, aa, ac, ae]
  refine aq (v := .bool true) (ai rfl rfl rfl rfl) (fun w' hw => aE true rfl (ev rfl) (ev rfl) H3.out) ?_
  simp only [Act.put, aa, ac, ae]
  refine aq (v := .bool true) rfl (fun w' hw => aI rfl (ev rfl) (ev rfl)) ?_
  simp only [Act.put, aa, ac, ae]
  refine wpQuiet_nil ?_
  intro w2 hw
  have HB2 := Lib.hid (HB1.out.trans (hw.mono HB1.out.size))
  go_wp2_with fail
  go_ret2
  exact ⟨HB2.out, .inr ⟨HNO.out, rfl⟩⟩
set_option maxHeartbeats 2000000 in
theorem rhnew_4 (id en : Nat) (x : Ros) (w : World) (hb : cj.Bn w F q M) (h0 : id ≠ 0) (h1 : ¬ 2305843009213693952 < en) (h2 : aG x = true) (h3 : (M.ds.length : Int) = x.m + 1) : Calls Tryz.prog 18 #[.pointer (some ⟨q, 0, none⟩), .int .u64 (id : Int), .int .u64 (en : Int), ros x] w (RNewH w q M id en x) := by
  obtain ⟨w1, hw1⟩ : ∃ w1, w.alloc (.cells (aC x).toArray 32) = w1 := ⟨_, rfl⟩
  obtain ⟨hx, hb1, hlt⟩ := bU w x
  rw [hw1] at hx hb1 hlt
  have HW1 := Lib.hid hw1
  have HX := Lib.hid hx
  have HB1 := Lib.hid hb1
  have HLT := Lib.hid hlt
  have HB := Lib.hid (cj.below hb hb1)
  clear hw1 hx hb1 hlt hb
  have H0 : Hid (((id : Int) == 0) = false) := Lib.hid (beq_eq_false_iff_ne.2 (by omega))
  have H1 : Hid (decide ((2305843009213693952 : Int) < (en : Int)) = false) := Lib.hid (decide_eq_false (by omega))
  have H2 := Lib.hid h2
  have hge := cQ (cr h2).1
  have HGE := Lib.hid hge
  have HAD : Hid (IntKind.i64.wrap (x.m + 1) = x.m + 1) := Lib.hid (i64q_ (by omega))
  have HSD : Hid (IntKind.i64.wrap (x.s + 2) = x.s + 2) := Lib.hid (i64q_ (by omega))
  have H3 : Hid (((M.ds.length : Int) != x.m + 1) = false) := Lib.hid (by rw [h3]; exact bne_self_eq_false _)
  have HK : Hid (hnwB M id en x = secK M x x.m.toNat) := Lib.hid (by unfold hnwB; rw [decide_eq_false h0, decide_eq_false h1, h2, decide_eq_true h3]; rfl)
  clear h0 h1 h2 h3 hge
  go_enter Tryz.func18, Tryz.ntmps18
  go_upto_region 0 with fail
  refine wp_region_lit ?_
  refine af rfl (aH rfl (ev rfl)) ?_
  simp only [Act.put, aa, ac, ae]
  rw [HW1.out]
  refine af rfl (aj rfl evk) ?_
  simp only [Act.put, aa, ac, ae]
  refine af rfl (aj rfl evk) ?_
  simp only [Act.put, aa, ac, ae]
  refine wpList_nil ?_
  go_upto_region 1 with fail
  refine aA (B := w1.heap.size) (by kernel_rfl) ?_
  refine aq rfl (fun w' hw => ag rfl (ev rfl)) ?_
  simp only [Act.put, aa, ac, ae]
  refine aq (v := .bool false) rfl (fun w' hw => ar false rfl (ev rfl) evk H0.out) ?_
  simp only [Act.put, aa, ac, ae]
  refine aq (v := .bool false) rfl (fun w' hw => ag rfl (ev rfl)) ?_
  simp only [Act.put, aa, ac, ae]
  refine aq (ai rfl rfl rfl rfl) (fun w' hw => ag rfl (ev rfl)) ?_
  simp only [Act.put, aa, ac, ae]
  refine aq (v := .bool false) (ai rfl rfl rfl rfl) (fun w' hw => cD false rfl (ev rfl) evk H1.out) ?_
  simp only [Act.put, aa, ac, ae]
  refine aq (v := .bool false) rfl (fun w' hw => aI rfl (ev rfl) (ev rfl)) ?_
  simp only [Act.put, aa, ac, ae]
  refine aq (v := .bool false) rfl (fun w' hw => ag rfl (ev rfl)) ?_
  simp only [Act.put, aa, ac, ae]
  refine aq (ai rfl rfl rfl rfl) (fun w' hw => aP rfl (ev rfl) ((HX.out.below HLT.out hw).range)) ?_
  simp only [Act.put, aa, ac, ae]
  refine bi (ai rfl rfl rfl rfl) (fun _ => ap Tryz.call36 rfl (evc (ev rfl) evn)) (aY (Nat.le_refl _) fun w' hw => rmay_b w' H2.out) ?_
  simp only [Act.put, aa, ac, ae]
  refine aq (v := .bool false) (ai rfl rfl rfl rfl) (fun w' hw => az true rfl (ev rfl)) ?_
  simp only [Act.put, aa, ac, ae]
  refine aq (v := .bool false) rfl (fun w' hw => aI rfl (ev rfl) (ev rfl)) ?_
  simp only [Act.put, aa, ac, ae]
  refine aq (v := .bool false) rfl (fun w' hw => ag rfl (ev rfl)) ?_
  simp only [Act.put, aa, ac, ae]
  refine aq (ai rfl rfl rfl rfl) (fun w' hw => ag rfl (ev rfl)) ?_
  simp only [Act.put, aa, ac, ae]
  refine bi (ai rfl rfl rfl rfl) (fun _ => ap Tryz.call37 rfl (evc (ev rfl) evn)) (aY (Nat.le_refl _) fun w' hw => cj.devices (cj.below HB.out hw)) ?_
  simp only [Act.put, aa, ac, ae]
  refine aq (ai rfl rfl rfl rfl) (fun w' hw => al rfl (ev rfl) faR0) ?_
  simp only [Act.put, aa, ac, ae]
  refine aq (ai rfl rfl rfl rfl) (fun w' hw => al rfl (ev rfl) faG0) ?_
  simp only [Act.put, aa, ac, ae]
  refine aq (ai rfl rfl rfl rfl) (fun w' hw => au rfl (ev rfl) (bq (HX.out.below HLT.out hw).cells.1)) ?_
  simp only [Act.put, aa, ac, ae]
  refine aq (ai rfl rfl rfl rfl) (fun w' hw => bD rfl (ev rfl) evk HAD.out) ?_
  simp only [Act.put, aa, ac, ae]
  refine aq (v := .bool false) (ai rfl rfl rfl rfl) (fun w' hw => aE false rfl (ev rfl) (ev rfl) H3.out) ?_
  simp only [Act.put, aa, ac, ae]
  refine aq (v := .bool false) rfl (fun w' hw => aI rfl (ev rfl) (ev rfl)) ?_
  simp only [Act.put, aa, ac, ae]
  refine wpQuiet_nil ?_
  intro w2 hw
  have HB2 := Lib.hid (HB1.out.trans (hw.mono HB1.out.size))
  have HX2 := Lib.hid (HX.out.below HLT.out hw)
  have HL2 := Lib.hid (Nat.lt_of_lt_of_le HLT.out hw.size)
  have HBB := Lib.hid (cj.below HB.out hw)
  clear hw
  go_wp2_with fail
  go_loopw [10] (fun z wr => ∃ i : Nat, z = .int .i64 i ∧ i ≤ x.m.toNat ∧ secK M x i = true ∧ Below w2.heap.size w2 wr) (fun z _ => x.m.toNat - (intOf z).toNat)
  case atStart => exact ⟨0, by go_num, Nat.zero_le _, rfl, Below.refl _ _⟩
  case round =>
    obtain ⟨i, rfl, hi, hs, hb⟩ := hrel
    have HS := Lib.hid hs
    have HW := Lib.hid hb
    have HX3 := Lib.hid (HX2.out.below HL2.out (hb.mono (Nat.le_refl _)))
    have HL3 := Lib.hid (Nat.lt_of_lt_of_le HL2.out hb.size)
    have HB3 := Lib.hid (cj.below HBB.out hb)
    clear hs hb
    by_cases hlt : i < x.m.toNat
    · have HI := Lib.hid hlt
      have HT : Hid (decide ((i : Int) < x.m) = true) := Lib.hid (decide_eq_true (by have := HGE.out; omega))
      have HA : Hid (IntKind.i64.wrap ((i : Int) + 1) = ((i + 1 : Nat) : Int)) := Lib.hid (by have := HGE.out; rw [i64q_ ⟨by omega, by omega⟩]; omega)
      clear hi hlt
      go_upto_region 4 with fail
      refine wp_region_lit ?_
      refine af rfl (ag rfl (ev rfl)) ?_
      simp only [Act.put, aa, ac, ae]
      refine af rfl (al rfl (ev rfl) faR0) ?_
      simp only [Act.put, aa, ac, ae]
      refine af rfl (al rfl (ev rfl) faG0) ?_
      simp only [Act.put, aa, ac, ae]
      refine af rfl (au rfl (ev rfl) (bq HX3.out.cells.1)) ?_
      simp only [Act.put, aa, ac, ae]
      refine af (v := .bool true) rfl (bu true rfl (ev rfl) (ev rfl) HT.out) ?_
      simp only [Act.put, aa, ac, ae]
      refine wpList_nil ?_
      by_cases hq : seN6 M (i : Int) < x.s + 2
      · have HQ : Hid (decide (seN6 M (i : Int) < x.s + 2) = true) := Lib.hid (decide_eq_true hq)
        have HNO : Hid (hnwB M id en x = false) := Lib.hid (by rw [HK.out]; exact secK_no (by omega) HI.out)
        clear hq
        go_upto_region 6 with fail
        refine aA (B := wr.heap.size) (by kernel_rfl) ?_
        refine aq rfl (fun w' hw => ag rfl (ev rfl)) ?_
        simp only [Act.put, aa, ac, ae]
        refine aq rfl (fun w' hw => ag rfl (ev rfl)) ?_
        simp only [Act.put, aa, ac, ae]
        refine bi rfl (fun _ => ap Tryz.call38 rfl (evc (ev rfl) (evc (ev rfl) evn))) (aY (Nat.le_refl _) fun w' hw => cj.cR (i : Int) (cj.below HB3.out hw)) ?_
        simp only [Act.put, aa, ac, ae]
        refine aq rfl (fun w' hw => al rfl (ev rfl) faR0) ?_
        simp only [Act.put, aa, ac, ae]
        refine aq rfl (fun w' hw => al rfl (ev rfl) faG1) ?_
        simp only [Act.put, aa, ac, ae]
        refine aq rfl (fun w' hw => au rfl (ev rfl) (bq (HX3.out.below HL3.out hw).cells.2.1)) ?_
        simp only [Act.put, aa, ac, ae]
        refine aq rfl (fun w' hw => bD rfl (ev rfl) evk HSD.out) ?_
        simp only [Act.put, aa, ac, ae]
        refine aq (v := .bool true) rfl (fun w' hw => bu true rfl (ev rfl) (ev rfl) HQ.out) ?_
        simp only [Act.put, aa, ac, ae]
        refine wpQuiet_nil ?_
        intro w4 hw
        have HW4 := Lib.hid (HW.out.trans (hw.mono HW.out.size))
        clear hw
        go_wp2_with fail
        go_ret2
        exact ⟨HB2.out.trans (HW4.out.mono HB2.out.size), .inr ⟨HNO.out, rfl⟩⟩
      have HQ : Hid (decide (seN6 M (i : Int) < x.s + 2) = false) := Lib.hid (decide_eq_false hq)
      have HS2 := Lib.hid (secK_step HS.out (by omega))
      clear hq
      go_upto_region 6 with fail
      refine aA (B := wr.heap.size) (by kernel_rfl) ?_
      refine aq rfl (fun w' hw => ag rfl (ev rfl)) ?_
      simp only [Act.put, aa, ac, ae]
      refine aq rfl (fun w' hw => ag rfl (ev rfl)) ?_
      simp only [Act.put, aa, ac, ae]
      refine bi rfl (fun _ => ap Tryz.call38 rfl (evc (ev rfl) (evc (ev rfl) evn))) (aY (Nat.le_refl _) fun w' hw => cj.cR (i : Int) (cj.below HB3.out hw)) ?_
      simp only [Act.put, aa, ac, ae]
      refine aq rfl (fun w' hw => al rfl (ev rfl) faR0) ?_
      simp only [Act.put, aa, ac, ae]
      refine aq rfl (fun w' hw => al rfl (ev rfl) faG1) ?_
      simp only [Act.put, aa, ac, ae]
      refine aq rfl (fun w' hw => au rfl (ev rfl) (bq (HX3.out.below HL3.out hw).cells.2.1)) ?_
      simp only [Act.put, aa, ac, ae]
      refine aq rfl (fun w' hw => bD rfl (ev rfl) evk HSD.out) ?_
      simp only [Act.put, aa, ac, ae]
      refine aq (v := .bool false) rfl (fun w' hw => bu false rfl (ev rfl) (ev rfl) HQ.out) ?_
      simp only [Act.put, aa, ac, ae]
      refine wpQuiet_nil ?_
      intro w4 hw
      have HW4 := Lib.hid (HW.out.trans (hw.mono HW.out.size))
      clear hw
      go_upto_region 5 with fail
      refine wp_region_lit ?_
      refine af rfl (ag rfl (ev rfl)) ?_
      simp only [Act.put, aa, ac, ae]
      refine af rfl (bD rfl (ev rfl) evk HA.out) ?_
      simp only [Act.put, aa, ac, ae]
      refine af rfl (aj rfl (ev rfl)) ?_
      simp only [Act.put, aa, ac, ae]
      refine wpList_nil ?_
      go_wp2_with fail
      go_roundw
      case rel => exact ⟨i + 1, by go_num, HI.out, HS2.out, HW4.out⟩
      case measure => have := HI.out; simp [intOf]; omega
    have hin : i = x.m.toNat := by omega
    have HT : Hid (decide ((i : Int) < x.m) = false) := Lib.hid (decide_eq_false (by have := HGE.out; omega))
    have HYES : Hid (hnwB M id en x = true) := Lib.hid (by rw [HK.out, ← hin]; exact HS.out)
    clear hi hlt hin
    go_upto_region 4 with fail
    refine wp_region_lit ?_
    refine af rfl (ag rfl (ev rfl)) ?_
    simp only [Act.put, aa, ac, ae]
    refine af rfl (al rfl (ev rfl) faR0) ?_
    simp only [Act.put, aa, ac, ae]
    refine af rfl (al rfl (ev rfl) faG0) ?_
    simp only [Act.put, aa, ac, ae]
    refine af rfl (au rfl (ev rfl) (bq HX3.out.cells.1)) ?_
    simp only [Act.put, aa, ac, ae]
    refine af (v := .bool false) rfl (bu false rfl (ev rfl) (ev rfl) HT.out) ?_
    simp only [Act.put, aa, ac, ae]
    refine wpList_nil ?_
    go_upto_region 8 with fail
    refine wp_region_lit ?_
    refine af rfl (ag rfl (ev rfl)) ?_
    simp only [Act.put, aa, ac, ae]
    refine af rfl (ag rfl (ev rfl)) ?_
    simp only [Act.put, aa, ac, ae]
    refine af rfl (ag rfl (ev rfl)) ?_
    simp only [Act.put, aa, ac, ae]
    refine af rfl (aP rfl (ev rfl) HX3.out.range) ?_
    simp only [Act.put, aa, ac, ae]
    refine af rfl (exec_bldRh rfl (ev rfl) (ev rfl) (ev rfl) (ev rfl)) ?_
    simp only [Act.put, aa, ac, ae]
    refine af rfl (bS (cs := rhC q id en x) rfl (ev rfl)) ?_
    simp only [Act.put, aa, ac, ae]
    refine af rfl (aj rfl (ev rfl)) ?_
    simp only [Act.put, aa, ac, ae]
    refine af rfl (aj rfl evk) ?_
    simp only [Act.put, aa, ac, ae]
    refine wpList_nil ?_
    go_wp2_with fail
    go_ret2
    have hw3 := HB2.out.trans (HW.out.mono HB2.out.size)
    exact ⟨hw3.alloc hw3.size _, .inl ⟨HYES.out, _, rfl, heap_alloc_new wr _, hw3.size⟩⟩
theorem rhnew (id en : Nat) (x : Ros) (w : World) (hb : cj.Bn w F q M) : Calls Tryz.prog 18 #[.pointer (some ⟨q, 0, none⟩), .int .u64 (id : Int), .int .u64 (en : Int), ros x] w (RNewH w q M id en x) := by
  by_cases h0 : id = 0
  · exact rhnew_0 id en x w hb h0
  by_cases h1 : 2305843009213693952 < en
  · exact rhnew_1 id en x w hb h0 h1
  cases h2 : aG x
  · exact rhnew_2 id en x w hb h0 h1 h2
  by_cases h3 : (M.ds.length : Int) = x.m + 1
  · exact rhnew_4 id en x w hb h0 h1 h2 h3
  · exact rhnew_3 id en x w hb h0 h1 h2 h3
end
structure CrG (w : World) (G : Nat → Prop) : Prop where
  t : Tab w
  off : ¬ G 0
structure HulI where
  R : BenP
  J : World → (Nat → Prop) → Nat → Nat → HuS → Prop
  lt : ∀ {w G q p h}, J w G q p h → ∀ b, G b → b < w.heap.size
  fin : ∀ {w G q p h}, J w G q p h → aG h.R = true ∧ h.id ≠ 0
  only : ∀ {w w' G F q p h}, J w G q p h → Only F w w' → (∀ b, G b → ¬ F b) → J w' G q p h
  ben : ∀ {w G q p h}, J w G q p h → ∃ Gb, R.Bn w Gb q h.M ∧ (∀ b, Gb b → G b) ∧ ∀ w' Gb' M', R.Bn w' Gb' q M' → Only Gb w w' → Grow w Gb Gb' → ∃ G', J w' G' q p { h with M := M' } ∧ Only G w w' ∧ Grow w G G'
  new_ : ∀ {w G q M} (id ev : Nat) (x : Ros), id < 18446744073709551616 → ev < 18446744073709551616 → R.Bn w G q M → Calls Tryz.prog 17 #[.pointer (some ⟨q, 0, none⟩), .int .u64 (id : Int), .int .u64 (ev : Int), ros x] w fun e w' =>
    Below w.heap.size w w' ∧ ((hnwB M id ev x = true ∧ ∃ p G', e = .returned (.tuple #[.pointer (some ⟨p, 0, none⟩), .int .i64 0]) ∧ J w' G' q p ⟨M, id, ev, x⟩ ∧ ∀ b, G' b → G b ∨ w.heap.size ≤ b) ∨ (hnwB M id ev x = false ∧ e = .returned (.tuple #[.pointer none, .int .i64 2])))
  new_nil : ∀ (w : World) (id ev : Nat) (x : Ros), id < 18446744073709551616 → ev < 18446744073709551616 → Calls Tryz.prog 17 #[.pointer none, .int .u64 (id : Int), .int .u64 (ev : Int), ros x] w fun e w' => e = .returned (.tuple #[.pointer none, .int .i64 1]) ∧ Below w.heap.size w w'
  read : ∀ {w G q p h} (s m : Int), J w G q p h → CrG w G → Room h.M 600 → h.ev ≤ 4611686018427387000 → Calls Tryz.prog 24 #[.pointer (some ⟨p, 0, none⟩), .agg #[.int .i64 s, .int .i64 m]] w fun e w' => e = .returned (.tuple #[blk (hrdB h s m), .int .i64 (bZ h s m)]) ∧ ∃ G', (hrdK h s m → J w' G' q p (hrdS h s m)) ∧ Only G w w' ∧ Grow w G G' ∧ ∃ Gb, R.Bn w' Gb q (hrdS h s m).M ∧ ∀ b, Gb b → G' b
  write : ∀ {w G q p h} (s m : Int) (b : Blk), J w G q p h → CrG w G → Room h.M 600 → h.ev ≤ 4611686018427387000 → Calls Tryz.prog 7 #[.pointer (some ⟨p, 0, none⟩), .agg #[.int .i64 s, .int .i64 m], blk b] w fun e w' => e = .returned (.int .i64 (hwrE h s m b)) ∧ ∃ G', (hwrK h s m → J w' G' q p (hwrS h s m b)) ∧ Only G w w' ∧ Grow w G G' ∧ ∃ Gb, R.Bn w' Gb q (hwrS h s m b).M ∧ ∀ b, Gb b → G' b
  id_ : ∀ {w G q p h}, J w G q p h → Calls Tryz.prog 51 #[.pointer (some ⟨p, 0, none⟩)] w fun e w' => e = .returned (.int .u64 (h.id : Int)) ∧ Below w.heap.size w w'
  state : ∀ {w G q p h}, J w G q p h → Calls Tryz.prog 65 #[.pointer (some ⟨p, 0, none⟩)] w fun e w' => e = .returned (.int .i64 (stN h.R : Nat)) ∧ Below w.heap.size w w'
  roster : ∀ {w G q p h}, J w G q p h → Calls Tryz.prog 52 #[.pointer (some ⟨p, 0, none⟩)] w fun e w' => e = .returned (ros h.R) ∧ Below w.heap.size w w'
  No : World → Value → Prop
  zc : List Value
  zb : List Value
  no_nil : ∀ w : World, No w (.pointer none)
  bld0 : ∀ w : World, (Instr.build 53 #[]).run Tryz.prog w = .ok (.agg zc.toArray) w
  bldB : ∀ w : World, (Instr.build 81 #[]).run Tryz.prog w = .ok (.agg zb.toArray) w
  no_zero : ∀ w : World, No (w.alloc (.cells zc.toArray 53)) (.pointer (some ⟨w.heap.size, 0, none⟩))
  no_below : ∀ {w w' : World} {v : Value}, No w v → Below w.heap.size w w' → No w' v
  new_zero : ∀ (w : World) (b : Nat) (id ev : Nat) (x : Ros), w.heap[b]? = some (.cells zb.toArray 81 (0, 0)) → id < 18446744073709551616 → ev < 18446744073709551616 → Calls Tryz.prog 17 #[.pointer (some ⟨b, 0, none⟩), .int .u64 (id : Int), .int .u64 (ev : Int), ros x] w fun e w' => e = .returned (.tuple #[.pointer none, .int .i64 1]) ∧ Below w.heap.size w w'
  no_read : ∀ (w : World) (v : Value) (s m : Int), No w v → Calls Tryz.prog 24 #[v, .agg #[.int .i64 s, .int .i64 m]] w fun e w' => e = .returned (.tuple #[blk ao, .int .i64 1]) ∧ Below w.heap.size w w'
  no_write : ∀ (w : World) (v : Value) (s m : Int) (b : Blk), No w v → Calls Tryz.prog 7 #[v, .agg #[.int .i64 s, .int .i64 m], blk b] w fun e w' => e = .returned (.int .i64 1) ∧ Below w.heap.size w w'
  no_id : ∀ (w : World) (v : Value) , No w v → Calls Tryz.prog 51 #[v] w fun e w' => e = .returned (.int .u64 0) ∧ Below w.heap.size w w'
  no_state : ∀ (w : World) (v : Value) , No w v → Calls Tryz.prog 65 #[v] w fun e w' => e = .returned (.int .i64 0) ∧ Below w.heap.size w w'
theorem HulI.below (C : HulI) {w w' : World} {G : Nat → Prop} {q p : Nat} {h : HuS} (hj : C.J w G q p h) (k : Below w.heap.size w w') : C.J w' G q p h := C.only hj (Only.of_below (fun _ => False) k) fun _ _ e => e
structure HBas (w0 : World) (B : Nat) : Prop where
  le : B ≤ w0.heap.size
  t : Tab w0
  lo : 0 < B
theorem dL {w : World} {b j : Nat} {v : Value} (h : w.cell? ⟨b, j, none⟩ = some v) : b < w.heap.size := by
  rcases Nat.lt_or_ge b w.heap.size with h' | h'
  · exact h'
  · have : w.heap[b]? = none := Array.getElem?_eq_none h'
    simp [World.cell?, this] at h
theorem HBas.start {w : World} (h : Tab w) : HBas w w.heap.size := ⟨Nat.le_refl _, h, dL (h 0 (by omega))⟩
theorem HBas.tab {w0 w : World} {B : Nat} (h : HBas w0 B) (hb : Below B w0 w) : Tab w := fun i hi => (World.cell?_of_block (w := w0) (hb.block _ h.lo)).trans (h.t i hi)
def HAt (C : HulI) (w0 : World) (B : Nat) (K : Nat → Prop) (w : World) (q p : Nat) (h : HuS) : Prop := ∃ G, C.J w G q p h ∧ (∀ b, G b → B ≤ b) ∧ Below B w0 w ∧ HBas w0 B ∧ ∀ b, K b → ¬ G b ∧ b < w.heap.size
def bk (K : Nat → Prop) (w w' : World) : Prop := ∀ b, K b → w'.heap[b]? = w.heap[b]?
section
variable {C : HulI} {w0 w w' : World} {B q p : Nat} {K K' : Nat → Prop} {h h' : HuS}
theorem HAt.bel (a : HAt C w0 B K w q p h) : Below B w0 w := by obtain ⟨G, h1, h2, h3, _⟩ := a; exact h3
theorem HAt.guard (a : HAt C w0 B K w q p h) (k : Below w.heap.size w w') (hK : ∀ b, K' b → K b ∨ (w.heap.size ≤ b ∧ b < w'.heap.size)) : HAt C w0 B K' w' q p h := by
  obtain ⟨G, h1, h2, h3, h4, h5⟩ := a
  have hs := k.size
  refine ⟨G, C.below h1 k, h2, h3.trans (k.mono (Nat.le_trans h4.le h3.size)), h4, fun b hb => ?_⟩
  rcases hK b hb with e | ⟨e1, e2⟩
  · obtain ⟨g1, g2⟩ := h5 b e
    exact ⟨g1, by omega⟩
  · exact ⟨fun hg => by have := C.lt h1 b hg; omega, e2⟩
theorem HAt.below (a : HAt C w0 B K w q p h) (k : Below w.heap.size w w') : HAt C w0 B K w' q p h := a.guard k fun b e => .inl e
theorem HAt.turn {G G' : Nat → Prop} (h2 : ∀ b, G b → B ≤ b) (h3 : Below B w0 w) (h4 : HBas w0 B) (h5 : ∀ b, K b → ¬ G b ∧ b < w.heap.size) (k1 : C.J w' G' q p h') (k2 : Only G w w') (k3 : Grow w G G') : HAt C w0 B K w' q p h' ∧ bk K w w' := by
  have hs := Nat.le_trans h4.le h3.size
  have hs2 := k2.size
  refine ⟨⟨G', k1, k3.above h2 hs, h3.trans (k2.below h2 hs), h4, fun b hb => ?_⟩, fun b hb => k2.block b (h5 b hb).2 (h5 b hb).1⟩
  obtain ⟨g1, g2⟩ := h5 b hb
  refine ⟨fun hg => ?_, by omega⟩
  rcases k3 b hg with e | e
  · exact g1 e
  · omega
theorem HBas.crg {G : Nat → Prop} (h : HBas w0 B) (hb : Below B w0 w) (hG : ∀ b, G b → B ≤ b) : CrG w G := ⟨h.tab hb, fun e => by have := h.lo; have := hG _ e; omega⟩
theorem HAt.write (s m : Int) (b : Blk) (a : HAt C w0 B K w q p h) (hr : Room h.M 600) (he : h.ev ≤ 4611686018427387000) (hk : hwrK h s m) : Calls Tryz.prog 7 #[.pointer (some ⟨p, 0, none⟩), .agg #[.int .i64 s, .int .i64 m], blk b] w fun e w' => e = .returned (.int .i64 (hwrE h s m b)) ∧ HAt C w0 B K w' q p (hwrS h s m b) ∧ bk K w w' := by
  obtain ⟨G, h1, h2, h3, h4, h5⟩ := a
  exact (C.write s m b h1 (h4.crg h3 h2) hr he).mono fun e w' ⟨k0, G', k1, k2, k3, _⟩ => ⟨k0, HAt.turn h2 h3 h4 h5 (k1 hk) k2 k3⟩
theorem HAt.ben {I : FuncId} {vs : Array Value} {v : Value} {M' : BenS} (a : HAt C w0 B K w q p h) (hc : ∀ {w F}, C.R.Bn w F q h.M → Calls Tryz.prog I vs w fun e w' => e = .returned v ∧ ∃ F', C.R.Bn w' F' q M' ∧ Only F w w' ∧ Grow w F F') : Calls Tryz.prog I vs w fun e w' => e = .returned v ∧ HAt C w0 B K w' q p { h with M := M' } ∧ bk K w w' := by
  obtain ⟨G, h1, h2, h3, h4, h5⟩ := a
  obtain ⟨Gb, b1, b2, b3⟩ := C.ben h1
  refine (hc b1).mono fun e w' ⟨he, F', k1, k2, k3⟩ => ?_
  obtain ⟨G', g1, g2, g3⟩ := b3 w' F' M' k1 k2 k3
  exact ⟨he, HAt.turn h2 h3 h4 h5 g1 g2 g3⟩
end
def vw (x : DevS) (n : Nat) : Blk := lastW x.L (n : Int) (x.S.getD n ao)
theorem vw_nil (S : List Blk) (n : Nat) : vw ⟨S, [], false⟩ n = S.getD n ao := rfl
theorem vw_app (S : List Blk) (L : List (Int × Blk)) (k n : Nat) (b : Blk) (g : Bool) : vw ⟨S, L ++ [((k : Int), b)], g⟩ n = if k = n then b else vw ⟨S, L, g⟩ n := by
  unfold vw lastW
  simp only [List.foldl_append, List.foldl_cons, List.foldl_nil]
  by_cases h : k = n
  · subst h; rw [if_pos rfl, if_pos rfl]
  · rw [if_neg (by omega), if_neg h]
theorem fls_at : ∀ (L : List (Int × Blk)) (S : List Blk), (∀ q ∈ L, 0 ≤ q.1) → ∀ n, n < S.length → (flS S L).getD n ao = lastW L (n : Int) (S.getD n ao)
  | [], S, _, n, _ => rfl
  | q :: L, S, h, n, hn => by
    have h0 := h q (List.mem_cons_self ..)
    have ih := fls_at L (S.set q.1.toNat q.2) (fun q' hq => h q' (List.mem_cons_of_mem _ hq)) n (by rw [List.length_set]; exact hn)
    show (flS (S.set q.1.toNat q.2) L).getD n ao = lastW L n (if q.1 = n then q.2 else S.getD n ao)
    rw [ih]
    congr 1
    by_cases e : q.1 = (n : Int)
    · rw [if_pos e, show q.1.toNat = n from by omega, setD _ _ _ _ _ hn, if_pos rfl]
    · rw [if_neg e]
      simp only [List.getD]
      rw [List.getElem?_set_ne (by omega)]
structure Liv (M : BenS) (m : Nat) (x : DevS) : Prop where
  bV : M.bV = false
  left : M.left = 0
  lt : m < M.ds.length
  dev : M.ds.getD m bm = x
  g : x.g = false
  nn : ∀ q ∈ x.L, 0 ≤ q.1
section
variable {M : BenS} {m n : Nat} {x : DevS} {b : Blk}
theorem Liv.lit (h : Liv M m x) : litE M m = 0 := litE_ok h.bV h.lt
theorem Liv.devI (h : Liv M m x) : M.dev m = x := h.dev
theorem Liv.rdE (h : Liv M m x) (hn : n < x.S.length) : bN M m n = 0 := by
  unfold bN
  rw [if_pos h.lit, h.devI, h.g]
  exact askE_ok ⟨by omega, by omega⟩
theorem Liv.rdB (h : Liv M m x) (hn : n < x.S.length) : rdB6 M m n = vw x n := by
  unfold rdB6
  rw [if_pos h.lit, h.devI, h.g, readB_ok (askE_ok ⟨by omega, by omega⟩)]
  rfl
theorem Liv.wr (h : Liv M m x) (hn : n < x.S.length) (b : Blk) : wrE6 M m (n : Int) = 0 ∧ wrS6 M m (n : Int) b = M.done.put m ⟨x.S, x.L ++ [((n : Int), b)], false⟩ := by
  have hs : M.stepE = 0 := by unfold BenS.stepE; rw [h.left]; rfl
  constructor
  · unfold wrE6
    rw [if_pos (h.rdE hn), hs]
  · unfold wrS6
    rw [if_pos (h.rdE hn), if_neg (by rw [h.left]; omega), h.devI, h.g]
    have e : wrL x.S x.L false (n : Int) b = x.L ++ [((n : Int), b)] := by unfold wrL; rw [if_pos (askE_ok ⟨by omega, by omega⟩)]
    show BenS.put _ _ ⟨x.S, wrL x.S x.L false (n : Int) b, false⟩ = _
    rw [e]
    rfl
theorem Liv.laid (h : Liv M m x) (hn : n < x.S.length) (b : Blk) :
    goE m M [.wr (n : Int) b, .fl] = 0 ∧ ∃ y, goB m M [.wr (n : Int) b, .fl] = ⟨M.ds.set m y, 0, false, M.steps + 2⟩ ∧ y.g = false ∧ y.L = [] ∧ y.S.length = x.S.length ∧ ∀ j, j < x.S.length → vw y j = if n = j then b else vw x j := by
  have hs : M.stepE = 0 := by unfold BenS.stepE; rw [h.left]; rfl
  obtain ⟨e1, f1⟩ := h.wr hn b
  obtain ⟨M1, hM1⟩ : ∃ M1, wrS6 M m (n : Int) b = M1 := ⟨_, rfl⟩
  rw [hM1] at f1
  have hlm : m < M1.ds.length := by rw [f1]; show m < (M.ds.set m _).length; rw [List.length_set]; exact h.lt
  have g1 : M1.dev m = ⟨x.S, x.L ++ [((n : Int), b)], false⟩ := by
    rw [f1]
    show ((M.ds.set m _).getD m bm) = _
    rw [setD _ _ _ _ _ h.lt, if_pos rfl]
  have hk1 : M1.bV = false := by rw [f1]; exact h.bV
  have hz1 : M1.left = 0 := by rw [f1]; show M.left - 1 = 0; rw [h.left]
  have hA : flA6 M1 m = 0 := by
    unfold flA6
    rw [if_pos (litE_ok hk1 hlm), g1]
    rfl
  have e2 : stpE m M1 .fl = 0 := by
    show flE6 _ _ = 0
    unfold flE6
    rw [if_pos hA]
    unfold BenS.stepE
    rw [hz1]
    rfl
  have f2 : stpS m M1 .fl = M1.done.put m ⟨flS x.S (x.L ++ [((n : Int), b)]), [], false⟩ := by
    show flS6 _ _ = _
    unfold flS6
    rw [if_pos hA, if_neg (by rw [hz1]; omega), g1]
    rfl
  have e1' : stpE m M (.wr (n : Int) b) = 0 := e1
  have hM1' : stpS m M (.wr (n : Int) b) = M1 := hM1
  refine ⟨by rw [(go_ok e1').1, hM1', (go_ok e2).1]; rfl, ⟨flS x.S (x.L ++ [((n : Int), b)]), [], false⟩, ?_, rfl, rfl, flS_len _ _, fun j hj => ?_⟩
  · rw [(go_ok e1').2, hM1', (go_ok e2).2, f2]
    show (⟨M1.ds.set m _, M1.left - 1, M1.bV, M1.steps + 1⟩ : BenS) = _
    rw [hz1, hk1, f1]
    show (⟨(M.ds.set m _).set m _, 0, false, M.steps + 1 + 1⟩ : BenS) = _
    rw [List.set_set]
  · rw [vw_nil, fls_at _ _ (fun q hq => by
      rcases List.mem_append.1 hq with e | e
      · exact h.nn q e
      · simp at e; subst e; exact Int.natCast_nonneg _) j hj]
    exact vw_app x.S x.L n j b false
end
structure VLik (M M' : BenS) : Prop where
  len : M'.ds.length = M.ds.length
  gs : ∀ j, (M'.ds.getD j bm).g = (M.ds.getD j bm).g
  sl : ∀ j, (M'.ds.getD j bm).S.length = (M.ds.getD j bm).S.length
  ll : ∀ j, (M'.ds.getD j bm).L.length ≤ (M.ds.getD j bm).L.length
  nn : ∀ j, (∀ q ∈ (M.ds.getD j bm).L, 0 ≤ q.1) → ∀ q ∈ (M'.ds.getD j bm).L, 0 ≤ q.1
  vw : ∀ j n, 2 ≤ n → n < (M.ds.getD j bm).S.length → vw (M'.ds.getD j bm) n = vw (M.ds.getD j bm) n
theorem VLik.refl (M : BenS) : VLik M M := ⟨rfl, fun _ => rfl, fun _ => rfl, fun _ => Nat.le_refl _, fun _ h => h, fun _ _ _ _ => rfl⟩
theorem VLik.trans {M1 M2 M3 : BenS} (h : VLik M1 M2) (k : VLik M2 M3) : VLik M1 M3 :=
  ⟨k.len.trans h.len, fun j => (k.gs j).trans (h.gs j), fun j => (k.sl j).trans (h.sl j), fun j => Nat.le_trans (k.ll j) (h.ll j), fun j hj => k.nn j (h.nn j hj), fun j n hn hl => (k.vw j n hn (by rw [h.sl j]; exact hl)).trans (h.vw j n hn hl)⟩
structure VOk (R : Ros) (M : BenS) : Prop where
  bV : M.bV = false
  left : M.left = 0
  len : R.m.toNat < M.ds.length
  liv : ∀ m, m < R.m.toNat → sta R m ≠ 1 → (M.ds.getD m bm).g = false ∧ 2 ≤ (M.ds.getD m bm).S.length ∧ ∀ q ∈ (M.ds.getD m bm).L, 0 ≤ q.1
section
variable {id ev : Nat} {R : Ros} {M : BenS} {m : Nat}
theorem VOk.put (h : VOk R M) (hm : m < R.m.toNat) (hs : sta R m ≠ 1) : cv id ev R M m = 0 ∧ VOk R (cE id ev R M m) ∧ VLik M (cE id ev R M m) ∧ (cE id ev R M m).steps = M.steps + 2 := by
  obtain ⟨hg, h2, hn⟩ := h.liv m hm hs
  have hw : Liv M m (M.ds.getD m bm) := ⟨h.bV, h.left, by have := h.len; omega, rfl, hg, hn⟩
  have r0 : bN M m 0 = 0 := hw.rdE (n := 0) (by omega)
  have r1 : bN M m 1 = 0 := hw.rdE (n := 1) (by omega)
  have hl := slo_lt (rdB6 M m 0) (rdB6 M m 1)
  obtain ⟨n, hnn⟩ : ∃ n, sloT (rdB6 M m 0) (rdB6 M m 1) = n := ⟨_, rfl⟩
  rw [hnn] at hl
  have hT : putT id ev R M m = [.wr (n : Int) (sputB ev ⟨id, m, R⟩), .fl] := by unfold putT; rw [hnn]
  have hE : cv id ev R M m = goE m M [.wr (n : Int) (sputB ev ⟨id, m, R⟩), .fl] := by
    unfold cv; rw [if_pos r0, if_pos r1, hT]
  have hM : cE id ev R M m = goB m M [.wr (n : Int) (sputB ev ⟨id, m, R⟩), .fl] := by
    unfold cE; rw [if_pos ⟨r0, r1⟩, hT]
  obtain ⟨k1, y, k2, k3, k4, k5, k6⟩ := hw.laid (n := n) (by omega) (sputB ev ⟨id, m, R⟩)
  rw [hE, hM, k2]
  have hat : ∀ j, (M.ds.set m y).getD j bm = if j = m then y else M.ds.getD j bm := fun j => setD _ _ _ _ _ hw.lt
  refine ⟨k1, ⟨rfl, rfl, by show R.m.toNat < (M.ds.set m y).length; rw [List.length_set]; exact h.len, fun j hj hsj => ?_⟩, ⟨List.length_set, fun j => ?_, fun j => ?_, fun j => ?_, fun j hq => ?_, fun j i hi hlen => ?_⟩, rfl⟩
  · show ((M.ds.set m y).getD j bm).g = false ∧ 2 ≤ ((M.ds.set m y).getD j bm).S.length ∧ ∀ q ∈ ((M.ds.set m y).getD j bm).L, 0 ≤ q.1
    rw [hat j]
    by_cases e : j = m
    · rw [if_pos e, k4, k5]; exact ⟨k3, h2, fun q hq => by cases hq⟩
    · rw [if_neg e]; exact h.liv j hj hsj
  · show ((M.ds.set m y).getD j bm).g = _
    rw [hat j]
    by_cases e : j = m
    · rw [if_pos e, k3, e, hg]
    · rw [if_neg e]
  · show ((M.ds.set m y).getD j bm).S.length = _
    rw [hat j]
    by_cases e : j = m
    · rw [if_pos e, k5, e]
    · rw [if_neg e]
  · show ((M.ds.set m y).getD j bm).L.length ≤ _
    rw [hat j]
    by_cases e : j = m
    · rw [if_pos e, k4]; exact Nat.zero_le _
    · rw [if_neg e]; exact Nat.le_refl _
  · show ∀ q ∈ ((M.ds.set m y).getD j bm).L, 0 ≤ q.1
    rw [hat j]
    by_cases e : j = m
    · rw [if_pos e, k4]; exact fun q hq => by cases hq
    · rw [if_neg e]; exact hq
  · show vw ((M.ds.set m y).getD j bm) i = _
    rw [hat j]
    by_cases e : j = m
    · subst e
      rw [if_pos rfl, k6 i hlen, if_neg (by omega)]
    · rw [if_neg e]
theorem once_view : ∀ (k m : Nat) (M : BenS), m + k = R.m.toNat → VOk R M → ∃ M', ch id ev R k m M = (none, 0, M') ∧ VOk R M' ∧ VLik M M' ∧ M'.steps ≤ M.steps + 2 * k
  | 0, m, M, _, h => ⟨M, rfl, h, VLik.refl M, Nat.le_refl _⟩
  | k + 1, m, M, hk, h => by
    by_cases hl : sta R m = 1
    · obtain ⟨M', h1, h2, h3, h4⟩ := once_view k (m + 1) M (by omega) h
      exact ⟨M', by rw [ch, if_pos hl]; exact h1, h2, h3, by omega⟩
    · obtain ⟨p1, p2, p3, p4⟩ := h.put (id := id) (ev := ev) (m := m) (by omega) hl
      obtain ⟨M', h1, h2, h3, h4⟩ := once_view k (m + 1) _ (by omega) p2
      exact ⟨M', by rw [ch, if_neg hl, if_neg (by rw [p1]; decide), if_pos p1]; exact h1, h2, p3.trans h3, by omega⟩
theorem save_view (h : VOk R M) : ∃ M', da 17 ⟨M, id, ev, R⟩ = (0, ⟨M', id, ev + 1, R⟩) ∧ VOk R M' ∧ VLik M M' ∧ M'.steps ≤ M.steps + 2 * R.m.toNat := by
  obtain ⟨M', h1, h2, h3, h4⟩ := once_view (id := id) (ev := ev + 1) R.m.toNat 0 M (by omega) h
  exact ⟨M', by rw [da, h1], h2, h3, h4⟩
theorem ded_view {d : Nat} (h : VOk (bl R d) M) : ∃ M', savE ⟨M, id, ev, bl R d⟩ = 0 ∧ (∀ t, dedE ⟨M, id, ev, R⟩ d t = if faiH (bl R d) = true then 16 else t) ∧ dedS ⟨M, id, ev, R⟩ d = ⟨M', id, ev + 1, bl R d⟩ ∧ VOk (bl R d) M' ∧ VLik M M' ∧ M'.steps ≤ M.steps + 2 * (bl R d).m.toNat := by
  obtain ⟨M', h1, h2, h3, h4⟩ := save_view (id := id) (ev := ev) h
  have e1 : savE ⟨M, id, ev, bl R d⟩ = 0 := by unfold savE; rw [h1]
  have e2 : savS ⟨M, id, ev, bl R d⟩ = ⟨M', id, ev + 1, bl R d⟩ := by unfold savS; rw [h1]
  refine ⟨M', e1, fun t => ?_, e2, h2, h3, h4⟩
  unfold dedE
  show (if savE ⟨M, id, ev, bl R d⟩ = 0 then (if faiH (savS ⟨M, id, ev, bl R d⟩).R = true then 16 else t) else savE ⟨M, id, ev, bl R d⟩) = _
  rw [if_pos e1, e2]
end
section
variable {h : HuS} {s m : Nat} {x : DevS} {b : Blk}
structure Plc (R : Ros) (s m : Nat) : Prop where
  p : plcH R s m = true
  f : faiH R = false
theorem hrd_ok (hp : Plc h.R s m) (hb : hasB h.R m s = true) (hx : Liv h.M m x) (hs : 2 + s < x.S.length) : bZ h s m = 0 ∧ hrdB h s m = vw x (2 + s) ∧ hrdS h s m = h := by
  have e0 : bN h.M m (2 + (s : Int)) = 0 := hx.rdE (n := 2 + s) hs
  have e1 : rdB6 h.M m (2 + (s : Int)) = vw x (2 + s) := hx.rdB (n := 2 + s) hs
  have hE : bZ h s m = 0 := by
    unfold bZ
    rw [if_pos hp.p, if_neg (by rw [hp.f]; decide), if_pos hb, if_neg (by rw [e0]; decide), e0]
  refine ⟨hE, ?_, ?_⟩
  · unfold hrdB; rw [if_pos hE, e1]
  · unfold hrdS; rw [if_neg (fun e => by have := e.2.2.2; rw [e0] at this; exact absurd this (by decide))]
theorem hrd_none (hp : Plc h.R s m) (hb : hasB h.R m s = false) : bZ h s m = 7 ∧ hrdB h s m = ao ∧ hrdS h s m = h := by
  have hE : bZ h s m = 7 := by
    unfold bZ
    rw [if_pos hp.p, if_neg (by rw [hp.f]; decide), if_neg (by rw [hb]; decide)]
  refine ⟨hE, ?_, ?_⟩
  · unfold hrdB; rw [hE]; rfl
  · unfold hrdS; rw [if_neg (fun e => by have := e.2.2.1; rw [hb] at this; cases this)]
theorem hrd_ded (hp : Plc h.R s m) (hb : hasB h.R m s = true) (hd : h.M.bV = false) (hl : m < h.M.ds.length) (hg : (h.M.ds.getD m bm).g = true) (hs : 2 + s < (h.M.ds.getD m bm).S.length) (hv : VOk (bl h.R m) h.M) :
    ∃ M', bZ h s m = (if faiH (bl h.R m) = true then 16 else 7) ∧ hrdB h s m = ao ∧ hrdS h s m = ⟨M', h.id, h.ev + 1, bl h.R m⟩ ∧ VOk (bl h.R m) M' ∧ VLik h.M M' ∧ M'.steps ≤ h.M.steps + 2 * (bl h.R m).m.toNat := by
  have e0 : bN h.M m (2 + (s : Int)) = 9 := by
    unfold bN
    rw [if_pos (litE_ok hd hl)]
    show cw (h.M.ds.getD m bm).S (h.M.ds.getD m bm).g (2 + (s : Int)) = 9
    rw [hg]
    exact askE_dead ⟨by omega, by omega⟩
  obtain ⟨M', k1, k2, k3, k4, k5, k6⟩ := ded_view (id := h.id) (ev := h.ev) hv
  have hE : bZ h s m = (if faiH (bl h.R m) = true then 16 else 7) := by
    unfold bZ
    rw [if_pos hp.p, if_neg (by rw [hp.f]; decide), if_pos hb, if_pos e0, Int.toNat_natCast]
    exact k2 7
  refine ⟨M', hE, ?_, ?_, k4, k5, k6⟩
  · unfold hrdB
    rw [if_neg (by rw [hE]; split <;> decide)]
  · unfold hrdS
    rw [if_pos ⟨hp.p, hp.f, hb, e0⟩, Int.toNat_natCast]
    exact k3
theorem hwr_ok (hp : Plc h.R s m) (hb : hasB h.R m s = true) (hx : Liv h.M m x) (hs : 2 + s < x.S.length) (b : Blk) : hwrE h s m b = 0 ∧ hwrS h s m b = { h with M := h.M.done.put m ⟨x.S, x.L ++ [(((2 + s : Nat) : Int), b)], false⟩ } := by
  obtain ⟨w1, w2⟩ := hx.wr (n := 2 + s) hs b
  have e0 : wrE6 h.M m (2 + (s : Int)) = 0 := w1
  have e1 : wrS6 h.M m (2 + (s : Int)) b = _ := w2
  constructor
  · unfold hwrE
    rw [if_pos hp.p, if_neg (by rw [hp.f]; decide), if_pos hb, if_neg (by rw [e0]; decide), e0]
  · unfold hwrS
    rw [if_pos ⟨hp.p, hp.f, hb⟩, if_neg (by rw [e0]; decide), e1]
end
section
variable {id ev : Nat} {R : Ros} {M : BenS} {k m : Nat} {h : HuS} {d : Int}
theorem cg {n : Nat} (h : Room M n) (hm : m ≤ n) : Room M m := ⟨by have := h.1; omega, h.2.1, fun d hd => by have := h.2.2 d hd; omega⟩
theorem rm_stp (h : Room M (k + 1)) (s : Stp) : Room (stpS d M s) k := by
  cases s with
  | wr n b => exact room_wr h d n b
  | fl => exact room_fl h d
theorem rm_go (l : List Stp) : ∀ {M : BenS}, Room M (k + l.length) → Room (goB d M l) k := by
  induction l with
  | nil => intro M h; exact h
  | cons s l ih =>
    intro M h
    rw [List.length_cons] at h
    have h1 := rm_stp (d := d) (k := k + l.length) h s
    rw [goB]
    split
    · exact ih h1
    · exact cg h1 (by omega)
theorem rm_put (h : Room M (k + 2)) : Room (cE id ev R M m) k := by
  unfold cE
  split
  · exact rm_go _ h
  · exact cg h (by omega)
theorem rm_once : ∀ (n m : Nat) (M : BenS), Room M (k + 2 * n) → Room (ch id ev R n m M).2.2 k
  | 0, m, M, h => h
  | n + 1, m, M, h => by
    have h1 : Room (cE id ev R M m) (k + 2 * n) := rm_put (cg h (by omega))
    rw [ch]
    split
    · exact rm_once n (m + 1) M (cg h (by omega))
    · split
      · exact cg h1 (by omega)
      · split
        · exact rm_once n (m + 1) _ h1
        · exact cg h1 (by omega)
structure RosK (x y : Ros) : Prop where
  fine : aG y = true
  m : y.m = x.m
  s : y.s = x.s
  r : y.r = x.r
theorem RosK.refl (hf : aG R = true) : RosK R R := ⟨hf, rfl, rfl, rfl⟩
theorem RosK.trans {x y z : Ros} (h : RosK x y) (g : RosK y z) : RosK x z := ⟨g.fine, g.m.trans h.m, g.s.trans h.s, g.r.trans h.r⟩
theorem RosK.los (hf : aG R = true) (j : Int) : RosK R (bl R j) := by
  refine ⟨fine_los j hf, ?_, ?_, ?_⟩ <;> (unfold bl; split <;> (try split) <;> rfl)
theorem fine_m (hf : aG R = true) : R.m.toNat ≤ 16 := by
  unfold aG at hf
  simp only [Bool.and_eq_true] at hf
  have := cQ hf.1.1.1
  omega
theorem rm_save : ∀ (f : Nat) (h : HuS), aG h.R = true → Room h.M (k + 32 * f) → Room (da f h).2.M k ∧ RosK h.R (da f h).2.R ∧ (da f h).2.ev ≤ h.ev + f ∧ (da f h).2.id = h.id
  | 0, h, hf, hr => ⟨hr, RosK.refl hf, Nat.le_refl _, rfl⟩
  | f + 1, h, hf, hr => by
    have hm := fine_m hf
    have h1 : Room (ch h.id (h.ev + 1) h.R h.R.m.toNat 0 h.M).2.2 (k + 32 * f) := rm_once _ 0 h.M (cg hr (by omega))
    rw [da]
    generalize ch h.id (h.ev + 1) h.R h.R.m.toNat 0 h.M = o at *
    obtain ⟨a, e, M'⟩ := o
    cases a with
    | none => exact ⟨cg h1 (by omega), RosK.refl hf, by show h.ev + 1 ≤ _; omega, rfl⟩
    | some d =>
      have hk := RosK.los hf (d : Int)
      obtain ⟨k1, k2, k3, k4⟩ := rm_save f ⟨M', h.id, h.ev + 1, bl h.R d⟩ hk.fine h1
      exact ⟨k1, hk.trans k2, by show (da f ⟨M', h.id, h.ev + 1, bl h.R d⟩).2.ev ≤ h.ev + (f + 1); have : (da f ⟨M', h.id, h.ev + 1, bl h.R d⟩).2.ev ≤ h.ev + 1 + f := k3; omega, k4⟩
end
def outJ (R : Ros) (j : Nat) : Bool := decide (sta R j ≠ 1)
structure OnS (h0 : HuS) (f : Nat) (h : HuS) : Prop where
  same : da f h = da 17 h0
  pot : potK (outJ h.R) h.R.m.toNat < f
  fine : aG h.R = true
  id : h.id = h0.id
  m : h.R.m = h0.R.m
  ev : h.ev + f ≤ h0.ev + 17
  rm : Room h.M (34 * f)
theorem OnS.start {h : HuS} (hf : aG h.R = true) (hr : Room h.M 600) : OnS h 17 h :=
  ⟨rfl, by have := potK_le (outJ h.R) h.R.m.toNat; have := fine_m hf; omega, hf, rfl, rfl, Nat.le_refl _, cg hr (by omega)⟩
section
variable {h0 h : HuS} {f m : Nat} {e : Int} {M' : BenS}
theorem OnS.pos (k : OnS h0 f h) : ∃ f', f = f' + 1 := ⟨f - 1, by have := k.pot; omega⟩
theorem OnS.fin (k : OnS h0 f h) (ho : ch h.id (h.ev + 1) h.R h.R.m.toNat 0 h.M = (none, e, M')) : savE h0 = e ∧ savS h0 = ⟨M', h.id, h.ev + 1, h.R⟩ := by
  obtain ⟨f', rfl⟩ := k.pos
  have := k.same
  rw [da] at this
  simp only [ho] at this
  unfold savE savS
  rw [← this]
  exact ⟨rfl, rfl⟩
theorem onceK_some {id ev : Nat} {R : Ros} : ∀ (k m : Nat) (M : BenS) {d : Nat} {e : Int} {M' : BenS}, ch id ev R k m M = (some d, e, M') → m ≤ d ∧ d < m + k ∧ sta R d ≠ 1
  | 0, m, M, d, e, M', h => by rw [ch] at h; cases h
  | k + 1, m, M, d, e, M', h => by
    rw [ch] at h
    split at h
    · obtain ⟨h1, h2, h3⟩ := onceK_some k (m + 1) M h
      exact ⟨by omega, by omega, h3⟩
    · rename_i hs
      split at h
      · cases h
        exact ⟨Nat.le_refl _, by omega, hs⟩
      · split at h
        · obtain ⟨h1, h2, h3⟩ := onceK_some k (m + 1) _ h
          exact ⟨by omega, by omega, h3⟩
        · cases h
theorem OnS.go (k : OnS h0 f h) {d : Nat} (ho : ch h.id (h.ev + 1) h.R h.R.m.toNat 0 h.M = (some d, e, M')) : ∃ f', f = f' + 1 ∧ OnS h0 f' ⟨M', h.id, h.ev + 1, bl h.R d⟩ := by
  obtain ⟨f', rfl⟩ := k.pos
  obtain ⟨_, hd, hs⟩ := onceK_some _ _ _ ho
  have hl := los_sta k.fine (d := d) (by omega) hs
  refine ⟨f', rfl, ?_⟩
  have hq : outJ h.R d = true := decide_eq_true hs
  have hq' : outJ (bl h.R d) d = false := by unfold outJ; rw [hl.2 d, if_pos rfl]; rfl
  have hsub : ∀ j, outJ (bl h.R d) j = true → outJ h.R j = true := fun j hj => by
    unfold outJ at hj ⊢
    rw [hl.2 j] at hj
    by_cases e : j = d
    · rw [if_pos e] at hj; simp at hj
    · rwa [if_neg e] at hj
  have hlt := potK_lt hsub hq hq' (n := h.R.m.toNat) (by omega)
  have hr : Room M' (34 * f') := by
    have hm := fine_m k.fine
    have h1 := rm_once (k := 34 * f' + 2) (id := h.id) (ev := h.ev + 1) (R := h.R) h.R.m.toNat 0 h.M (cg k.rm (by omega))
    rw [ho] at h1
    exact cg h1 (by omega)
  refine ⟨?_, ?_, fine_los _ k.fine, k.id, hl.1.trans k.m, by have := k.ev; show h.ev + 1 + f' ≤ _; omega, hr⟩
  · have := k.same
    rw [da] at this
    simp only [ho] at this
    exact this
  · show potK (outJ (bl h.R d)) (bl h.R d).m.toNat < f'
    rw [hl.1]
    have := k.pot
    omega
theorem onceK_step {id ev : Nat} {R : Ros} {k m : Nat} {M : BenS} (hs : sta R m ≠ 1) (he : cv id ev R M m = 0) : ch id ev R (k + 1) m M = ch id ev R k (m + 1) (cE id ev R M m) := by
  rw [ch, if_neg hs, if_neg (by rw [he]; decide), if_pos he]
theorem onceK_skip {id ev : Nat} {R : Ros} {k m : Nat} {M : BenS} (hs : sta R m = 1) : ch id ev R (k + 1) m M = ch id ev R k (m + 1) M := by rw [ch, if_pos hs]
theorem onceK_dead {id ev : Nat} {R : Ros} {k m : Nat} {M : BenS} (hs : sta R m ≠ 1) (he : cv id ev R M m = 9) : ch id ev R (k + 1) m M = (some m, 0, cE id ev R M m) := by rw [ch, if_neg hs, if_pos he]
theorem onceK_err {id ev : Nat} {R : Ros} {k m : Nat} {M : BenS} (hs : sta R m ≠ 1) (h0 : cv id ev R M m ≠ 0) (h9 : cv id ev R M m ≠ 9) : ch id ev R (k + 1) m M = (none, cv id ev R M m, cE id ev R M m) := by rw [ch, if_neg hs, if_neg h9, if_neg h0]
end
theorem hrdK_is {h : HuS} {s m x : Int} (e : bZ h s m = x) (h2 : x ≠ 2) (h8 : x ≠ 8) : hrdK h s m := hrdK_of (by rw [e]; exact h2) (by rw [e]; exact h8)
theorem hwrK_is {h : HuS} {s m x : Int} {b : Blk} (e : hwrE h s m b = x) (h2 : x ≠ 2) (h8 : x ≠ 8) : hwrK h s m := hwrK_of (b := b) (by rw [e]; exact h2) (by rw [e]; exact h8)
end Go.Proofs.YtheponmdbmloaaaGreatDoor
