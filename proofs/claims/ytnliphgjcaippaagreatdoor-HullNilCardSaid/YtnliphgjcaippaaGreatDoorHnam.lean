import Derived.Test.YtnliphgjcaippaaGreatDoorHnaf
import Derived.Test.YtnliphgjcaippaaGreatDoorHnag
import Derived.Test.YtnliphgjcaippaaGreatDoorHnak
import Derived.Test.YtnliphgjcaippaaGreatDoorHnal
import Derived.Test.YtnliphgjcaippaaGreatDoorHnaj
import Derived.Deep.DeepCutAuto
import Derived.Test.YtnliphgjcaippaaGreatDoorHnae
import Derived.Test.YtnliphgjcaippaaGreatDoorHnaa
import Derived.Test.YtnliphgjcaippaaGreatDoorHnZ
namespace Go.Proofs.YtnliphgjcaippaaGreatDoor
open Go.RowKit
set_option linter.unusedVariables false
set_option linter.unusedSimpArgs false
set_option maxRecDepth 100000
def secK (M : BenS) (x : Ros) : Nat → Bool
  | 0 => true
  | k + 1 => secK M x k && !decide (seN6 M (k : Int) < 2 + x.s)
def hnwB (M : BenS) (id ev : Nat) (x : Ros) : Bool := !decide (id = 0) && (!decide (2305843009213693952 < ev) && (aH x && (decide ((M.ds.length : Int) = x.m + 1) && secK M x x.m.toNat)))
theorem secK_no {M : BenS} {x : Ros} {i : Nat} (h : seN6 M (i : Int) < 2 + x.s) : ∀ {n : Nat}, i < n → secK M x n = false
  | 0, hi => absurd hi (by omega)
  | n + 1, hi => by
    rw [secK]
    by_cases e : i = n
    · subst e; rw [decide_eq_true h]; simp
    · rw [secK_no h (n := n) (by omega)]; rfl
theorem secK_step {M : BenS} {x : Ros} {i : Nat} (h : secK M x i = true) (h' : ¬ seN6 M (i : Int) < 2 + x.s) : secK M x (i + 1) = true := by rw [secK, h, decide_eq_false h']; rfl
def rhC (q id ev : Nat) (x : Ros) : List Value := .pointer (some ⟨q, 0, none⟩) :: .int .u64 (id : Int) :: .int .u64 (ev : Int) :: aD x
theorem zeroRh : (Tryz.prog.info? 94).map (fun i => i.zero) = some (some (.agg (.pointer none :: .int .u64 0 :: .int .u64 0 :: aD a4).toArray)) := by kernel_rfl
section
variable {ρ : Operand → Value} {o : Oper} {x1 x2 x3 x4 : Operand} {w : World} {q id ev : Nat} {x : Ros}
theorem run_bldRh (q id ev : Nat) (x : Ros) : (Instr.build 94 #[(0, .pointer (some ⟨q, 0, none⟩)), (1, .int .u64 (id : Int)), (2, .int .u64 (ev : Int)), (3, ros x)]).run Tryz.prog w = .ok (.agg (rhC q id ev x).toArray) w := by
  have hz := run_zeroT zeroRh w
  have h0 := cj (place := fun i => (#[(0, 1), (1, 1), (2, 1), (3, 21)] : Array (Nat × Nat))[i]?) (i := 0) (off := 0) (size := 1) (v := .pointer (some ⟨q, 0, none⟩)) (pre := []) (mid := [.pointer none]) (post := .int .u64 0 :: .int .u64 0 :: aD a4) (vs := [.pointer (some ⟨q, 0, none⟩)]) (rest := [(1, .int .u64 (id : Int)), (2, .int .u64 (ev : Int)), (3, ros x)]) rfl rfl rfl rfl rfl
  have h1 := cj (place := fun i => (#[(0, 1), (1, 1), (2, 1), (3, 21)] : Array (Nat × Nat))[i]?) (i := 1) (off := 1) (size := 1) (v := .int .u64 (id : Int)) (pre := [.pointer (some ⟨q, 0, none⟩)]) (mid := [.int .u64 0]) (post := .int .u64 0 :: aD a4) (vs := [.int .u64 (id : Int)]) (rest := [(2, .int .u64 (ev : Int)), (3, ros x)]) rfl rfl rfl rfl rfl
  have h2 := cj (place := fun i => (#[(0, 1), (1, 1), (2, 1), (3, 21)] : Array (Nat × Nat))[i]?) (i := 2) (off := 2) (size := 1) (v := .int .u64 (ev : Int)) (pre := [.pointer (some ⟨q, 0, none⟩), .int .u64 (id : Int)]) (mid := [.int .u64 0]) (post := aD a4) (vs := [.int .u64 (ev : Int)]) (rest := [(3, ros x)]) rfl rfl rfl rfl rfl
  have h3 := cj (place := fun i => (#[(0, 1), (1, 1), (2, 1), (3, 21)] : Array (Nat × Nat))[i]?) (i := 3) (off := 3) (size := 21) (v := ros x) (pre := [.pointer (some ⟨q, 0, none⟩), .int .u64 (id : Int), .int .u64 (ev : Int)]) (mid := aD a4) (post := []) (vs := aD x) (rest := []) rfl rfl (aQ x) rfl (aQ a4)
  simp only [List.nil_append, List.append_nil, List.cons_append] at h0 h1 h2 h3
  have h4 := h0.trans (h1.trans (h2.trans h3))
  have hz' : (zeroValue 94).run Tryz.prog w = .ok (.agg (.pointer none :: .int .u64 0 :: .int .u64 0 :: aD a4).toArray) w := hz
  have hc : (Value.agg (.pointer none :: .int .u64 0 :: .int .u64 0 :: aD a4).toArray).cells = (.pointer none :: .int .u64 0 :: .int .u64 0 :: aD a4).toArray := rfl
  simp only [Instr.build, Sem.run_bind, hz', run_underlying Tryz.underlying94, Result.andThen_ok, hc]
  refine Eq.trans (congrArg (fun r => Result.andThen r _) (?h : _ = Result.ok #[(0, 1), (1, 1), (2, 1), (3, 21)] w)) ?_
  case h => kernel_rfl
  simp only [Result.andThen_ok]
  have h5 : Instr.fill (fun i => (#[(0, 1), (1, 1), (2, 1), (3, 21)] : Array (Nat × Nat))[i]?) (rhC q id ev x).toArray [] = some (rhC q id ev x).toArray := by rw [Instr.fill]
  rw [h4.trans h5]
  rfl
theorem exec_bldRh (ho : o.op = .build 94 #[(0, x1), (1, x2), (2, x3), (3, x4)]) (h1 : ρ x1 = .pointer (some ⟨q, 0, none⟩)) (h2 : ρ x2 = .int .u64 (id : Int)) (h3 : ρ x3 = .int .u64 (ev : Int)) (h4 : ρ x4 = ros x) : (execOp ρ o).run Tryz.prog w = .ok (.value (.agg (rhC q id ev x).toArray)) w := by
  unfold execOp
  simp only [ho, h1, h2, h3, h4, List.map_toArray, List.map_cons, List.map_nil, Sem.run_bind, run_bldRh, Result.andThen_ok, Sem.run_pure]
end
def RHu (w : World) (p q id ev : Nat) (x : Ros) : Prop := w.heap[p]? = some (.cells (rhC q id ev x).toArray 94 (0, 0))
theorem i64q_ {a : Int} (h : -9223372036854775808 ≤ a ∧ a ≤ 9223372036854775807) : IntKind.i64.wrap a = a := IntWalk.i64_in _ ⟨by omega, by omega⟩
section
variable {w : World} {F : Nat → Prop} {q : Nat} {M : BenS}
def RNewH (w : World) (q : Nat) (M : BenS) (id en : Nat) (x : Ros) (e : Ending) (w' : World) : Prop :=
  Below w.heap.size w w' ∧ ((hnwB M id en x = true ∧ ∃ p, e = .returned (.tuple #[.pointer (some ⟨p, 0, none⟩), .int .i64 0]) ∧ RHu w' p q id en x ∧ w.heap.size ≤ p) ∨ (hnwB M id en x = false ∧ e = .returned (.tuple #[.pointer none, .int .i64 2])))
set_option maxHeartbeats 2000000 in
theorem rhnew_0 (id en : Nat) (x : Ros) (w : World) (hb : cd.Bn w F q M) (h0 : id = 0) : Calls Tryz.prog 10 #[.pointer (some ⟨q, 0, none⟩), .int .u64 (id : Int), .int .u64 (en : Int), ros x] w (RNewH w q M id en x) := by
  obtain ⟨w1, hw1⟩ : ∃ w1, w.alloc (.cells (aD x).toArray 28) = w1 := ⟨_, rfl⟩
  obtain ⟨hx, hb1, hlt⟩ := bV w x
  rw [hw1] at hx hb1 hlt
  have HW1 := Lib.hid hw1
  have HX := Lib.hid hx
  have HB1 := Lib.hid hb1
  have HLT := Lib.hid hlt
  have HB := Lib.hid (cd.below hb hb1)
  clear hw1 hx hb1 hlt hb
  have H0 : Hid (((id : Int) == 0) = true) := Lib.hid (by rw [h0]; rfl)
  have HNO : Hid (hnwB M id en x = false) := Lib.hid (by unfold hnwB; rw [decide_eq_true h0]; rfl)
  clear h0
  go_enter Tryz.func10, Tryz.ntmps10
  go_upto_region 0 with fail
  refine wp_region_lit ?_
  refine af rfl (aE rfl (ev rfl)) ?_
  simp only [Act.put, aa, ac, ae]
  rw [HW1.out]
  refine af rfl (ak rfl evk) ?_
  simp only [Act.put, aa, ac, ae]
  refine af rfl (ak rfl evk) ?_
  simp only [Act.put, aa, ac, ae]
  refine wpList_nil ?_
  go_upto_region 1 with fail
  refine aA (B := w1.heap.size) (by kernel_rfl) ?_
  refine ap rfl (fun w' hw => ai rfl (ev rfl)) ?_
  simp only [Act.put, aa, ac, ae]
  refine ap (v := .bool true) rfl (fun w' hw => aq true rfl (ev rfl) evk H0.out) ?_
  simp only [Act.put, aa, ac, ae]
  refine dF 2 (v := .bool true) rfl (fun w' hw => ai rfl (ev rfl)) (by kernel_rfl) ?_
  simp only [bh, List.take_succ_cons, List.take_zero, List.drop_succ_cons, List.drop_zero, Act.put, List.setIfInBounds_toArray, List.set_cons_succ, List.set_cons_zero]
  refine ap (v := .bool true) rfl (fun w' hw => ay rfl (ev rfl) evk) ?_
  simp only [Act.put, aa, ac, ae]
  refine dF 3 (v := .bool true) rfl (fun w' hw => ai rfl (ev rfl)) (by kernel_rfl) ?_
  simp only [bh, List.take_succ_cons, List.take_zero, List.drop_succ_cons, List.drop_zero, Act.put, List.setIfInBounds_toArray, List.set_cons_succ, List.set_cons_zero]
  refine ap (v := .bool true) rfl (fun w' hw => ay rfl (ev rfl) evk) ?_
  simp only [Act.put, aa, ac, ae]
  refine dF 7 (v := .bool true) rfl (fun w' hw => ai rfl (ev rfl)) (by kernel_rfl) ?_
  simp only [bh, List.take_succ_cons, List.take_zero, List.drop_succ_cons, List.drop_zero, Act.put, List.setIfInBounds_toArray, List.set_cons_succ, List.set_cons_zero]
  refine ap (v := .bool true) rfl (fun w' hw => ay rfl (ev rfl) evk) ?_
  simp only [Act.put, aa, ac, ae]
  refine wpQuiet_nil ?_
  intro w2 hw
  have HB2 := Lib.hid (HB1.out.trans (hw.mono HB1.out.size))
  go_wp2_with fail
  go_ret2
  exact ⟨HB2.out, .inr ⟨HNO.out, rfl⟩⟩
set_option maxHeartbeats 2000000 in
theorem rhnew_1 (id en : Nat) (x : Ros) (w : World) (hb : cd.Bn w F q M) (h0 : id ≠ 0) (h1 : 2305843009213693952 < en) : Calls Tryz.prog 10 #[.pointer (some ⟨q, 0, none⟩), .int .u64 (id : Int), .int .u64 (en : Int), ros x] w (RNewH w q M id en x) := by
  obtain ⟨w1, hw1⟩ : ∃ w1, w.alloc (.cells (aD x).toArray 28) = w1 := ⟨_, rfl⟩
  obtain ⟨hx, hb1, hlt⟩ := bV w x
  rw [hw1] at hx hb1 hlt
  have HW1 := Lib.hid hw1
  have HX := Lib.hid hx
  have HB1 := Lib.hid hb1
  have HLT := Lib.hid hlt
  have HB := Lib.hid (cd.below hb hb1)
  clear hw1 hx hb1 hlt hb
  have H0 : Hid (((id : Int) == 0) = false) := Lib.hid (beq_eq_false_iff_ne.2 (by omega))
  have H1 : Hid (decide ((2305843009213693952 : Int) < (en : Int)) = true) := Lib.hid (decide_eq_true (by omega))
  have HNO : Hid (hnwB M id en x = false) := Lib.hid (by unfold hnwB; rw [decide_eq_true h1]; simp)
  clear h0 h1
  go_enter Tryz.func10, Tryz.ntmps10
  go_upto_region 0 with fail
  refine wp_region_lit ?_
  refine af rfl (aE rfl (ev rfl)) ?_
  simp only [Act.put, aa, ac, ae]
  rw [HW1.out]
  refine af rfl (ak rfl evk) ?_
  simp only [Act.put, aa, ac, ae]
  refine af rfl (ak rfl evk) ?_
  simp only [Act.put, aa, ac, ae]
  refine wpList_nil ?_
  go_upto_region 1 with fail
  refine aA (B := w1.heap.size) (by kernel_rfl) ?_
  refine ap rfl (fun w' hw => ai rfl (ev rfl)) ?_
  simp only [Act.put, aa, ac, ae]
  refine ap (v := .bool false) rfl (fun w' hw => aq false rfl (ev rfl) evk H0.out) ?_
  simp only [Act.put, aa, ac, ae]
  refine ap (v := .bool false) rfl (fun w' hw => ai rfl (ev rfl)) ?_
  simp only [Act.put, aa, ac, ae]
  refine ap (ah rfl rfl rfl rfl) (fun w' hw => ai rfl (ev rfl)) ?_
  simp only [Act.put, aa, ac, ae]
  refine ap (v := .bool true) (ah rfl rfl rfl rfl) (fun w' hw => cD true rfl (ev rfl) evk H1.out) ?_
  simp only [Act.put, aa, ac, ae]
  refine ap (v := .bool true) rfl (fun w' hw => aG rfl (ev rfl) (ev rfl)) ?_
  simp only [Act.put, aa, ac, ae]
  refine dF 3 (v := .bool true) rfl (fun w' hw => ai rfl (ev rfl)) (by kernel_rfl) ?_
  simp only [bh, List.take_succ_cons, List.take_zero, List.drop_succ_cons, List.drop_zero, Act.put, List.setIfInBounds_toArray, List.set_cons_succ, List.set_cons_zero]
  refine ap (v := .bool true) rfl (fun w' hw => ay rfl (ev rfl) evk) ?_
  simp only [Act.put, aa, ac, ae]
  refine dF 7 (v := .bool true) rfl (fun w' hw => ai rfl (ev rfl)) (by kernel_rfl) ?_
  simp only [bh, List.take_succ_cons, List.take_zero, List.drop_succ_cons, List.drop_zero, Act.put, List.setIfInBounds_toArray, List.set_cons_succ, List.set_cons_zero]
  refine ap (v := .bool true) rfl (fun w' hw => ay rfl (ev rfl) evk) ?_
  simp only [Act.put, aa, ac, ae]
  refine wpQuiet_nil ?_
  intro w2 hw
  have HB2 := Lib.hid (HB1.out.trans (hw.mono HB1.out.size))
  go_wp2_with fail
  go_ret2
  exact ⟨HB2.out, .inr ⟨HNO.out, rfl⟩⟩
set_option maxHeartbeats 2000000 in
theorem rhnew_2 (id en : Nat) (x : Ros) (w : World) (hb : cd.Bn w F q M) (h0 : id ≠ 0) (h1 : ¬ 2305843009213693952 < en) (h2 : aH x = false) : Calls Tryz.prog 10 #[.pointer (some ⟨q, 0, none⟩), .int .u64 (id : Int), .int .u64 (en : Int), ros x] w (RNewH w q M id en x) := by
  obtain ⟨w1, hw1⟩ : ∃ w1, w.alloc (.cells (aD x).toArray 28) = w1 := ⟨_, rfl⟩
  obtain ⟨hx, hb1, hlt⟩ := bV w x
  rw [hw1] at hx hb1 hlt
  have HW1 := Lib.hid hw1
  have HX := Lib.hid hx
  have HB1 := Lib.hid hb1
  have HLT := Lib.hid hlt
  have HB := Lib.hid (cd.below hb hb1)
  clear hw1 hx hb1 hlt hb
  have H0 : Hid (((id : Int) == 0) = false) := Lib.hid (beq_eq_false_iff_ne.2 (by omega))
  have H1 : Hid (decide ((2305843009213693952 : Int) < (en : Int)) = false) := Lib.hid (decide_eq_false (by omega))
  have H2 := Lib.hid h2
  have HNO : Hid (hnwB M id en x = false) := Lib.hid (by unfold hnwB; rw [h2]; simp)
  clear h0 h1 h2
  go_enter Tryz.func10, Tryz.ntmps10
  go_upto_region 0 with fail
  refine wp_region_lit ?_
  refine af rfl (aE rfl (ev rfl)) ?_
  simp only [Act.put, aa, ac, ae]
  rw [HW1.out]
  refine af rfl (ak rfl evk) ?_
  simp only [Act.put, aa, ac, ae]
  refine af rfl (ak rfl evk) ?_
  simp only [Act.put, aa, ac, ae]
  refine wpList_nil ?_
  go_upto_region 1 with fail
  refine aA (B := w1.heap.size) (by kernel_rfl) ?_
  refine ap rfl (fun w' hw => ai rfl (ev rfl)) ?_
  simp only [Act.put, aa, ac, ae]
  refine ap (v := .bool false) rfl (fun w' hw => aq false rfl (ev rfl) evk H0.out) ?_
  simp only [Act.put, aa, ac, ae]
  refine ap (v := .bool false) rfl (fun w' hw => ai rfl (ev rfl)) ?_
  simp only [Act.put, aa, ac, ae]
  refine ap (ah rfl rfl rfl rfl) (fun w' hw => ai rfl (ev rfl)) ?_
  simp only [Act.put, aa, ac, ae]
  refine ap (v := .bool false) (ah rfl rfl rfl rfl) (fun w' hw => cD false rfl (ev rfl) evk H1.out) ?_
  simp only [Act.put, aa, ac, ae]
  refine ap (v := .bool false) rfl (fun w' hw => aG rfl (ev rfl) (ev rfl)) ?_
  simp only [Act.put, aa, ac, ae]
  refine ap (v := .bool false) rfl (fun w' hw => ai rfl (ev rfl)) ?_
  simp only [Act.put, aa, ac, ae]
  refine ap (ah rfl rfl rfl rfl) (fun w' hw => aM rfl (ev rfl) ((HX.out.below HLT.out hw).range)) ?_
  simp only [Act.put, aa, ac, ae]
  refine bj (ah rfl rfl rfl rfl) (fun _ => ao Tryz.call38 rfl (evc (ev rfl) evn)) (aZ (Nat.le_refl _) fun w' hw => rmay_b w' H2.out) ?_
  simp only [Act.put, aa, ac, ae]
  refine ap (v := .bool true) (ah rfl rfl rfl rfl) (fun w' hw => az false rfl (ev rfl)) ?_
  simp only [Act.put, aa, ac, ae]
  refine ap (v := .bool true) rfl (fun w' hw => aG rfl (ev rfl) (ev rfl)) ?_
  simp only [Act.put, aa, ac, ae]
  refine dF 7 (v := .bool true) rfl (fun w' hw => ai rfl (ev rfl)) (by kernel_rfl) ?_
  simp only [bh, List.take_succ_cons, List.take_zero, List.drop_succ_cons, List.drop_zero, Act.put, List.setIfInBounds_toArray, List.set_cons_succ, List.set_cons_zero]
  refine ap (v := .bool true) rfl (fun w' hw => ay rfl (ev rfl) evk) ?_
  simp only [Act.put, aa, ac, ae]
  refine wpQuiet_nil ?_
  intro w2 hw
  have HB2 := Lib.hid (HB1.out.trans (hw.mono HB1.out.size))
  go_wp2_with fail
  go_ret2
  exact ⟨HB2.out, .inr ⟨HNO.out, rfl⟩⟩
set_option maxHeartbeats 2000000 in
theorem rhnew_3 (id en : Nat) (x : Ros) (w : World) (hb : cd.Bn w F q M) (h0 : id ≠ 0) (h1 : ¬ 2305843009213693952 < en) (h2 : aH x = true) (h3 : ¬ (M.ds.length : Int) = x.m + 1) : Calls Tryz.prog 10 #[.pointer (some ⟨q, 0, none⟩), .int .u64 (id : Int), .int .u64 (en : Int), ros x] w (RNewH w q M id en x) := by
  obtain ⟨w1, hw1⟩ : ∃ w1, w.alloc (.cells (aD x).toArray 28) = w1 := ⟨_, rfl⟩
  obtain ⟨hx, hb1, hlt⟩ := bV w x
  rw [hw1] at hx hb1 hlt
  have HW1 := Lib.hid hw1
  have HX := Lib.hid hx
  have HB1 := Lib.hid hb1
  have HLT := Lib.hid hlt
  have HB := Lib.hid (cd.below hb hb1)
  clear hw1 hx hb1 hlt hb
  have H0 : Hid (((id : Int) == 0) = false) := Lib.hid (beq_eq_false_iff_ne.2 (by omega))
  have H1 : Hid (decide ((2305843009213693952 : Int) < (en : Int)) = false) := Lib.hid (decide_eq_false (by omega))
  have H2 := Lib.hid h2
  have HAD : Hid (IntKind.i64.wrap (x.m + 1) = x.m + 1) := Lib.hid (i64q_ (by have := dj (cF h2).1; omega))
  have H3 : Hid (((M.ds.length : Int) != x.m + 1) = true) := Lib.hid (by simpa using h3)
  have HNO : Hid (hnwB M id en x = false) := Lib.hid (by unfold hnwB; rw [decide_eq_false h3]; simp)
  clear h0 h1 h2 h3
  go_enter Tryz.func10, Tryz.ntmps10
  go_upto_region 0 with fail
  refine wp_region_lit ?_
  refine af rfl (aE rfl (ev rfl)) ?_
  simp only [Act.put, aa, ac, ae]
  rw [HW1.out]
  refine af rfl (ak rfl evk) ?_
  simp only [Act.put, aa, ac, ae]
  refine af rfl (ak rfl evk) ?_
  simp only [Act.put, aa, ac, ae]
  refine wpList_nil ?_
  go_upto_region 1 with fail
  refine aA (B := w1.heap.size) (by kernel_rfl) ?_
  refine ap rfl (fun w' hw => ai rfl (ev rfl)) ?_
  simp only [Act.put, aa, ac, ae]
  refine ap (v := .bool false) rfl (fun w' hw => aq false rfl (ev rfl) evk H0.out) ?_
  simp only [Act.put, aa, ac, ae]
  refine ap (v := .bool false) rfl (fun w' hw => ai rfl (ev rfl)) ?_
  simp only [Act.put, aa, ac, ae]
  refine ap (ah rfl rfl rfl rfl) (fun w' hw => ai rfl (ev rfl)) ?_
  simp only [Act.put, aa, ac, ae]
  refine ap (v := .bool false) (ah rfl rfl rfl rfl) (fun w' hw => cD false rfl (ev rfl) evk H1.out) ?_
  simp only [Act.put, aa, ac, ae]
  refine ap (v := .bool false) rfl (fun w' hw => aG rfl (ev rfl) (ev rfl)) ?_
  simp only [Act.put, aa, ac, ae]
  refine ap (v := .bool false) rfl (fun w' hw => ai rfl (ev rfl)) ?_
  simp only [Act.put, aa, ac, ae]
  refine ap (ah rfl rfl rfl rfl) (fun w' hw => aM rfl (ev rfl) ((HX.out.below HLT.out hw).range)) ?_
  simp only [Act.put, aa, ac, ae]
  refine bj (ah rfl rfl rfl rfl) (fun _ => ao Tryz.call38 rfl (evc (ev rfl) evn)) (aZ (Nat.le_refl _) fun w' hw => rmay_b w' H2.out) ?_
  simp only [Act.put, aa, ac, ae]
  refine ap (v := .bool false) (ah rfl rfl rfl rfl) (fun w' hw => az true rfl (ev rfl)) ?_
  simp only [Act.put, aa, ac, ae]
  refine ap (v := .bool false) rfl (fun w' hw => aG rfl (ev rfl) (ev rfl)) ?_
  simp only [Act.put, aa, ac, ae]
  refine ap (v := .bool false) rfl (fun w' hw => ai rfl (ev rfl)) ?_
  simp only [Act.put, aa, ac, ae]
  refine ap (ah rfl rfl rfl rfl) (fun w' hw => ai rfl (ev rfl)) ?_
  simp only [Act.put, aa, ac, ae]
  refine bj (ah rfl rfl rfl rfl) (fun _ => ao Tryz.call39 rfl (evc (ev rfl) evn)) (aZ (Nat.le_refl _) fun w' hw => cd.devices (cd.below HB.out hw)) ?_
  simp only [Act.put, aa, ac, ae]
  refine ap (ah rfl rfl rfl rfl) (fun w' hw => am rfl (ev rfl) faR0) ?_
  simp only [Act.put, aa, ac, ae]
  refine ap (ah rfl rfl rfl rfl) (fun w' hw => am rfl (ev rfl) faG0) ?_
  simp only [Act.put, aa, ac, ae]
  refine ap (ah rfl rfl rfl rfl) (fun w' hw => au rfl (ev rfl) (bq (HX.out.below HLT.out hw).cells.1)) ?_
  simp only [Act.put, aa, ac, ae]
  refine ap (ah rfl rfl rfl rfl) (fun w' hw => bI rfl (ev rfl) evk HAD.out) ?_
  simp only [Act.put, aa, ac, ae]
  refine ap (v := .bool true) (ah rfl rfl rfl rfl) (fun w' hw => aW true rfl (ev rfl) (ev rfl) H3.out) ?_
  simp only [Act.put, aa, ac, ae]
  refine ap (v := .bool true) rfl (fun w' hw => aG rfl (ev rfl) (ev rfl)) ?_
  simp only [Act.put, aa, ac, ae]
  refine wpQuiet_nil ?_
  intro w2 hw
  have HB2 := Lib.hid (HB1.out.trans (hw.mono HB1.out.size))
  go_wp2_with fail
  go_ret2
  exact ⟨HB2.out, .inr ⟨HNO.out, rfl⟩⟩
set_option maxHeartbeats 2000000 in
theorem rhnew_4 (id en : Nat) (x : Ros) (w : World) (hb : cd.Bn w F q M) (h0 : id ≠ 0) (h1 : ¬ 2305843009213693952 < en) (h2 : aH x = true) (h3 : (M.ds.length : Int) = x.m + 1) : Calls Tryz.prog 10 #[.pointer (some ⟨q, 0, none⟩), .int .u64 (id : Int), .int .u64 (en : Int), ros x] w (RNewH w q M id en x) := by
  obtain ⟨w1, hw1⟩ : ∃ w1, w.alloc (.cells (aD x).toArray 28) = w1 := ⟨_, rfl⟩
  obtain ⟨hx, hb1, hlt⟩ := bV w x
  rw [hw1] at hx hb1 hlt
  have HW1 := Lib.hid hw1
  have HX := Lib.hid hx
  have HB1 := Lib.hid hb1
  have HLT := Lib.hid hlt
  have HB := Lib.hid (cd.below hb hb1)
  clear hw1 hx hb1 hlt hb
  have H0 : Hid (((id : Int) == 0) = false) := Lib.hid (beq_eq_false_iff_ne.2 (by omega))
  have H1 : Hid (decide ((2305843009213693952 : Int) < (en : Int)) = false) := Lib.hid (decide_eq_false (by omega))
  have H2 := Lib.hid h2
  have hge := dj (cF h2).1
  have HGE := Lib.hid hge
  have HAD : Hid (IntKind.i64.wrap (x.m + 1) = x.m + 1) := Lib.hid (i64q_ (by omega))
  have HSD : Hid (IntKind.i64.wrap (x.s + 2) = x.s + 2) := Lib.hid (i64q_ (by omega))
  have H3 : Hid (((M.ds.length : Int) != x.m + 1) = false) := Lib.hid (by rw [h3]; exact bne_self_eq_false _)
  have HK : Hid (hnwB M id en x = secK M x x.m.toNat) := Lib.hid (by unfold hnwB; rw [decide_eq_false h0, decide_eq_false h1, h2, decide_eq_true h3]; rfl)
  clear h0 h1 h2 h3 hge
  go_enter Tryz.func10, Tryz.ntmps10
  go_upto_region 0 with fail
  refine wp_region_lit ?_
  refine af rfl (aE rfl (ev rfl)) ?_
  simp only [Act.put, aa, ac, ae]
  rw [HW1.out]
  refine af rfl (ak rfl evk) ?_
  simp only [Act.put, aa, ac, ae]
  refine af rfl (ak rfl evk) ?_
  simp only [Act.put, aa, ac, ae]
  refine wpList_nil ?_
  go_upto_region 1 with fail
  refine aA (B := w1.heap.size) (by kernel_rfl) ?_
  refine ap rfl (fun w' hw => ai rfl (ev rfl)) ?_
  simp only [Act.put, aa, ac, ae]
  refine ap (v := .bool false) rfl (fun w' hw => aq false rfl (ev rfl) evk H0.out) ?_
  simp only [Act.put, aa, ac, ae]
  refine ap (v := .bool false) rfl (fun w' hw => ai rfl (ev rfl)) ?_
  simp only [Act.put, aa, ac, ae]
  refine ap (ah rfl rfl rfl rfl) (fun w' hw => ai rfl (ev rfl)) ?_
  simp only [Act.put, aa, ac, ae]
  refine ap (v := .bool false) (ah rfl rfl rfl rfl) (fun w' hw => cD false rfl (ev rfl) evk H1.out) ?_
  simp only [Act.put, aa, ac, ae]
  refine ap (v := .bool false) rfl (fun w' hw => aG rfl (ev rfl) (ev rfl)) ?_
  simp only [Act.put, aa, ac, ae]
  refine ap (v := .bool false) rfl (fun w' hw => ai rfl (ev rfl)) ?_
  simp only [Act.put, aa, ac, ae]
  refine ap (ah rfl rfl rfl rfl) (fun w' hw => aM rfl (ev rfl) ((HX.out.below HLT.out hw).range)) ?_
  simp only [Act.put, aa, ac, ae]
  refine bj (ah rfl rfl rfl rfl) (fun _ => ao Tryz.call38 rfl (evc (ev rfl) evn)) (aZ (Nat.le_refl _) fun w' hw => rmay_b w' H2.out) ?_
  simp only [Act.put, aa, ac, ae]
  refine ap (v := .bool false) (ah rfl rfl rfl rfl) (fun w' hw => az true rfl (ev rfl)) ?_
  simp only [Act.put, aa, ac, ae]
  refine ap (v := .bool false) rfl (fun w' hw => aG rfl (ev rfl) (ev rfl)) ?_
  simp only [Act.put, aa, ac, ae]
  refine ap (v := .bool false) rfl (fun w' hw => ai rfl (ev rfl)) ?_
  simp only [Act.put, aa, ac, ae]
  refine ap (ah rfl rfl rfl rfl) (fun w' hw => ai rfl (ev rfl)) ?_
  simp only [Act.put, aa, ac, ae]
  refine bj (ah rfl rfl rfl rfl) (fun _ => ao Tryz.call39 rfl (evc (ev rfl) evn)) (aZ (Nat.le_refl _) fun w' hw => cd.devices (cd.below HB.out hw)) ?_
  simp only [Act.put, aa, ac, ae]
  refine ap (ah rfl rfl rfl rfl) (fun w' hw => am rfl (ev rfl) faR0) ?_
  simp only [Act.put, aa, ac, ae]
  refine ap (ah rfl rfl rfl rfl) (fun w' hw => am rfl (ev rfl) faG0) ?_
  simp only [Act.put, aa, ac, ae]
  refine ap (ah rfl rfl rfl rfl) (fun w' hw => au rfl (ev rfl) (bq (HX.out.below HLT.out hw).cells.1)) ?_
  simp only [Act.put, aa, ac, ae]
  refine ap (ah rfl rfl rfl rfl) (fun w' hw => bI rfl (ev rfl) evk HAD.out) ?_
  simp only [Act.put, aa, ac, ae]
  refine ap (v := .bool false) (ah rfl rfl rfl rfl) (fun w' hw => aW false rfl (ev rfl) (ev rfl) H3.out) ?_
  simp only [Act.put, aa, ac, ae]
  refine ap (v := .bool false) rfl (fun w' hw => aG rfl (ev rfl) (ev rfl)) ?_
  simp only [Act.put, aa, ac, ae]
  refine wpQuiet_nil ?_
  intro w2 hw
  have HB2 := Lib.hid (HB1.out.trans (hw.mono HB1.out.size))
  have HX2 := Lib.hid (HX.out.below HLT.out hw)
  have HL2 := Lib.hid (Nat.lt_of_lt_of_le HLT.out hw.size)
  have HBB := Lib.hid (cd.below HB.out hw)
  clear hw
  go_wp2_with fail
  go_loopw [10] (fun z wr => ∃ i : Nat, z = .int .i64 i ∧ i ≤ x.m.toNat ∧ secK M x i = true ∧ Below w2.heap.size w2 wr) (fun z _ => x.m.toNat - (intOf z).toNat)
  case atStart => exact ⟨0, by go_num, Nat.zero_le _, rfl, Below.refl _ _⟩
  case round =>
    obtain ⟨i, rfl, hi, hs, hb⟩ := hrel
    have HS := Lib.hid hs
    have HW := Lib.hid hb
    have HX3 := Lib.hid (HX2.out.below HL2.out (hb.mono (Nat.le_refl _)))
    have HL3 := Lib.hid (Nat.lt_of_lt_of_le HL2.out hb.size)
    have HB3 := Lib.hid (cd.below HBB.out hb)
    clear hs hb
    by_cases hlt : i < x.m.toNat
    · have HI := Lib.hid hlt
      have HT : Hid (decide ((i : Int) < x.m) = true) := Lib.hid (decide_eq_true (by have := HGE.out; omega))
      have HA : Hid (IntKind.i64.wrap ((i : Int) + 1) = ((i + 1 : Nat) : Int)) := Lib.hid (by have := HGE.out; rw [i64q_ ⟨by omega, by omega⟩]; omega)
      clear hi hlt
      go_upto_region 4 with fail
      refine wp_region_lit ?_
      refine af rfl (ai rfl (ev rfl)) ?_
      simp only [Act.put, aa, ac, ae]
      refine af rfl (am rfl (ev rfl) faR0) ?_
      simp only [Act.put, aa, ac, ae]
      refine af rfl (am rfl (ev rfl) faG0) ?_
      simp only [Act.put, aa, ac, ae]
      refine af rfl (au rfl (ev rfl) (bq HX3.out.cells.1)) ?_
      simp only [Act.put, aa, ac, ae]
      refine af (v := .bool true) rfl (bJ true rfl (ev rfl) (ev rfl) HT.out) ?_
      simp only [Act.put, aa, ac, ae]
      refine wpList_nil ?_
      by_cases hq : seN6 M (i : Int) < x.s + 2
      · have HQ : Hid (decide (seN6 M (i : Int) < x.s + 2) = true) := Lib.hid (decide_eq_true hq)
        have HNO : Hid (hnwB M id en x = false) := Lib.hid (by rw [HK.out]; exact secK_no (by omega) HI.out)
        clear hq
        go_upto_region 6 with fail
        refine aA (B := wr.heap.size) (by kernel_rfl) ?_
        refine ap rfl (fun w' hw => ai rfl (ev rfl)) ?_
        simp only [Act.put, aa, ac, ae]
        refine ap rfl (fun w' hw => ai rfl (ev rfl)) ?_
        simp only [Act.put, aa, ac, ae]
        refine bj rfl (fun _ => ao Tryz.call40 rfl (evc (ev rfl) (evc (ev rfl) evn))) (aZ (Nat.le_refl _) fun w' hw => cd.cT (i : Int) (cd.below HB3.out hw)) ?_
        simp only [Act.put, aa, ac, ae]
        refine ap rfl (fun w' hw => am rfl (ev rfl) faR0) ?_
        simp only [Act.put, aa, ac, ae]
        refine ap rfl (fun w' hw => am rfl (ev rfl) faG1) ?_
        simp only [Act.put, aa, ac, ae]
        refine ap rfl (fun w' hw => au rfl (ev rfl) (bq (HX3.out.below HL3.out hw).cells.2.1)) ?_
        simp only [Act.put, aa, ac, ae]
        refine ap rfl (fun w' hw => bI rfl (ev rfl) evk HSD.out) ?_
        simp only [Act.put, aa, ac, ae]
        refine ap (v := .bool true) rfl (fun w' hw => bJ true rfl (ev rfl) (ev rfl) HQ.out) ?_
        simp only [Act.put, aa, ac, ae]
        refine wpQuiet_nil ?_
        intro w4 hw
        have HW4 := Lib.hid (HW.out.trans (hw.mono HW.out.size))
        clear hw
        go_wp2_with fail
        go_ret2
        exact ⟨HB2.out.trans (HW4.out.mono HB2.out.size), .inr ⟨HNO.out, rfl⟩⟩
      have HQ : Hid (decide (seN6 M (i : Int) < x.s + 2) = false) := Lib.hid (decide_eq_false hq)
      have HS2 := Lib.hid (secK_step HS.out (by omega))
      clear hq
      go_upto_region 6 with fail
      refine aA (B := wr.heap.size) (by kernel_rfl) ?_
      refine ap rfl (fun w' hw => ai rfl (ev rfl)) ?_
      simp only [Act.put, aa, ac, ae]
      refine ap rfl (fun w' hw => ai rfl (ev rfl)) ?_
      simp only [Act.put, aa, ac, ae]
      refine bj rfl (fun _ => ao Tryz.call40 rfl (evc (ev rfl) (evc (ev rfl) evn))) (aZ (Nat.le_refl _) fun w' hw => cd.cT (i : Int) (cd.below HB3.out hw)) ?_
      simp only [Act.put, aa, ac, ae]
      refine ap rfl (fun w' hw => am rfl (ev rfl) faR0) ?_
      simp only [Act.put, aa, ac, ae]
      refine ap rfl (fun w' hw => am rfl (ev rfl) faG1) ?_
      simp only [Act.put, aa, ac, ae]
      refine ap rfl (fun w' hw => au rfl (ev rfl) (bq (HX3.out.below HL3.out hw).cells.2.1)) ?_
      simp only [Act.put, aa, ac, ae]
      refine ap rfl (fun w' hw => bI rfl (ev rfl) evk HSD.out) ?_
      simp only [Act.put, aa, ac, ae]
      refine ap (v := .bool false) rfl (fun w' hw => bJ false rfl (ev rfl) (ev rfl) HQ.out) ?_
      simp only [Act.put, aa, ac, ae]
      refine wpQuiet_nil ?_
      intro w4 hw
      have HW4 := Lib.hid (HW.out.trans (hw.mono HW.out.size))
      clear hw
      go_upto_region 5 with fail
      refine wp_region_lit ?_
      refine af rfl (ai rfl (ev rfl)) ?_
      simp only [Act.put, aa, ac, ae]
      refine af rfl (bI rfl (ev rfl) evk HA.out) ?_
      simp only [Act.put, aa, ac, ae]
      refine af rfl (ak rfl (ev rfl)) ?_
      simp only [Act.put, aa, ac, ae]
      refine wpList_nil ?_
      go_wp2_with fail
      go_roundw
      case rel => exact ⟨i + 1, by go_num, HI.out, HS2.out, HW4.out⟩
      case measure => have := HI.out; simp [intOf]; omega
    have hin : i = x.m.toNat := by omega
    have HT : Hid (decide ((i : Int) < x.m) = false) := Lib.hid (decide_eq_false (by have := HGE.out; omega))
    have HYES : Hid (hnwB M id en x = true) := Lib.hid (by rw [HK.out, ← hin]; exact HS.out)
    clear hi hlt hin
    go_upto_region 4 with fail
    refine wp_region_lit ?_
    refine af rfl (ai rfl (ev rfl)) ?_
    simp only [Act.put, aa, ac, ae]
    refine af rfl (am rfl (ev rfl) faR0) ?_
    simp only [Act.put, aa, ac, ae]
    refine af rfl (am rfl (ev rfl) faG0) ?_
    simp only [Act.put, aa, ac, ae]
    refine af rfl (au rfl (ev rfl) (bq HX3.out.cells.1)) ?_
    simp only [Act.put, aa, ac, ae]
    refine af (v := .bool false) rfl (bJ false rfl (ev rfl) (ev rfl) HT.out) ?_
    simp only [Act.put, aa, ac, ae]
    refine wpList_nil ?_
    go_upto_region 8 with fail
    refine wp_region_lit ?_
    refine af rfl (ai rfl (ev rfl)) ?_
    simp only [Act.put, aa, ac, ae]
    refine af rfl (ai rfl (ev rfl)) ?_
    simp only [Act.put, aa, ac, ae]
    refine af rfl (ai rfl (ev rfl)) ?_
    simp only [Act.put, aa, ac, ae]
    refine af rfl (aM rfl (ev rfl) HX3.out.range) ?_
    simp only [Act.put, aa, ac, ae]
    refine af rfl (exec_bldRh rfl (ev rfl) (ev rfl) (ev rfl) (ev rfl)) ?_
    simp only [Act.put, aa, ac, ae]
    refine af rfl (bN (cs := rhC q id en x) rfl (ev rfl)) ?_
    simp only [Act.put, aa, ac, ae]
    refine af rfl (ak rfl (ev rfl)) ?_
    simp only [Act.put, aa, ac, ae]
    refine af rfl (ak rfl evk) ?_
    simp only [Act.put, aa, ac, ae]
    refine wpList_nil ?_
    go_wp2_with fail
    go_ret2
    have hw3 := HB2.out.trans (HW.out.mono HB2.out.size)
    exact ⟨hw3.alloc hw3.size _, .inl ⟨HYES.out, _, rfl, heap_alloc_new wr _, hw3.size⟩⟩
theorem rhnew (id en : Nat) (x : Ros) (w : World) (hb : cd.Bn w F q M) : Calls Tryz.prog 10 #[.pointer (some ⟨q, 0, none⟩), .int .u64 (id : Int), .int .u64 (en : Int), ros x] w (RNewH w q M id en x) := by
  by_cases h0 : id = 0
  · exact rhnew_0 id en x w hb h0
  by_cases h1 : 2305843009213693952 < en
  · exact rhnew_1 id en x w hb h0 h1
  cases h2 : aH x
  · exact rhnew_2 id en x w hb h0 h1 h2
  by_cases h3 : (M.ds.length : Int) = x.m + 1
  · exact rhnew_4 id en x w hb h0 h1 h2 h3
  · exact rhnew_3 id en x w hb h0 h1 h2 h3
end
structure CrG (w : World) (G : Nat → Prop) : Prop where
  t : Tab w
  off : ¬ G 0
structure HulI where
  R : BenP
  J : World → (Nat → Prop) → Nat → Nat → HuS → Prop
  lt : ∀ {w G q p h}, J w G q p h → ∀ b, G b → b < w.heap.size
  only : ∀ {w w' G F q p h}, J w G q p h → Only F w w' → (∀ b, G b → ¬ F b) → J w' G q p h
  ben : ∀ {w G q p h}, J w G q p h → ∃ Gb, R.Bn w Gb q h.M ∧ (∀ b, Gb b → G b) ∧ ∀ w' Gb' M', R.Bn w' Gb' q M' → Only Gb w w' → Grow w Gb Gb' → ∃ G', J w' G' q p { h with M := M' } ∧ Only G w w' ∧ Grow w G G'
  new_ : ∀ {w G q M} (id ev : Nat) (x : Ros), id < 18446744073709551616 → ev < 18446744073709551616 → R.Bn w G q M → Calls Tryz.prog 8 #[.pointer (some ⟨q, 0, none⟩), .int .u64 (id : Int), .int .u64 (ev : Int), ros x] w fun e w' =>
    Below w.heap.size w w' ∧ ((hnwB M id ev x = true ∧ ∃ p G', e = .returned (.tuple #[.pointer (some ⟨p, 0, none⟩), .int .i64 0]) ∧ J w' G' q p ⟨M, id, ev, x⟩ ∧ ∀ b, G' b → G b ∨ w.heap.size ≤ b) ∨ (hnwB M id ev x = false ∧ e = .returned (.tuple #[.pointer none, .int .i64 2])))
  new_nil : ∀ (w : World) (id ev : Nat) (x : Ros), id < 18446744073709551616 → ev < 18446744073709551616 → Calls Tryz.prog 8 #[.pointer none, .int .u64 (id : Int), .int .u64 (ev : Int), ros x] w fun e w' => e = .returned (.tuple #[.pointer none, .int .i64 1]) ∧ Below w.heap.size w w'
  save : ∀ {w G q p h}, J w G q p h → CrG w G → Room h.M 600 → h.ev ≤ 4611686018427387000 → Calls Tryz.prog 17 #[.pointer (some ⟨p, 0, none⟩)] w fun e w' => e = .returned (.int .i64 (savE h)) ∧ ∃ G', (savE h = 0 → J w' G' q p (savS h)) ∧ Only G w w' ∧ Grow w G G' ∧ ∃ Gb, R.Bn w' Gb q (savS h).M ∧ ∀ b, Gb b → G' b
  read : ∀ {w G q p h} (s m : Int), J w G q p h → CrG w G → Room h.M 600 → h.ev ≤ 4611686018427387000 → Calls Tryz.prog 23 #[.pointer (some ⟨p, 0, none⟩), .agg #[.int .i64 s, .int .i64 m]] w fun e w' => e = .returned (.tuple #[blk (hrdB h s m), .int .i64 (hrdE h s m)]) ∧ ∃ G', (hrdK h s m → J w' G' q p (hrdS h s m)) ∧ Only G w w' ∧ Grow w G G' ∧ ∃ Gb, R.Bn w' Gb q (hrdS h s m).M ∧ ∀ b, Gb b → G' b
  write : ∀ {w G q p h} (s m : Int) (b : Blk), J w G q p h → CrG w G → Room h.M 600 → h.ev ≤ 4611686018427387000 → Calls Tryz.prog 24 #[.pointer (some ⟨p, 0, none⟩), .agg #[.int .i64 s, .int .i64 m], blk b] w fun e w' => e = .returned (.int .i64 (hwrE h s m b)) ∧ ∃ G', (hwrK h s m → J w' G' q p (hwrS h s m b)) ∧ Only G w w' ∧ Grow w G G' ∧ ∃ Gb, R.Bn w' Gb q (hwrS h s m b).M ∧ ∀ b, Gb b → G' b
  event : ∀ {w G q p h}, J w G q p h → Calls Tryz.prog 18 #[.pointer (some ⟨p, 0, none⟩)] w fun e w' => e = .returned (.int .u64 (h.ev : Int)) ∧ Below w.heap.size w w'
  id_ : ∀ {w G q p h}, J w G q p h → Calls Tryz.prog 30 #[.pointer (some ⟨p, 0, none⟩)] w fun e w' => e = .returned (.int .u64 (h.id : Int)) ∧ Below w.heap.size w w'
  state : ∀ {w G q p h}, J w G q p h → Calls Tryz.prog 31 #[.pointer (some ⟨p, 0, none⟩)] w fun e w' => e = .returned (.int .i64 (stN h.R : Nat)) ∧ Below w.heap.size w w'
  roster : ∀ {w G q p h}, J w G q p h → Calls Tryz.prog 19 #[.pointer (some ⟨p, 0, none⟩)] w fun e w' => e = .returned (ros h.R) ∧ Below w.heap.size w w'
  No : World → Value → Prop
  zc : List Value
  zb : List Value
  no_nil : ∀ w : World, No w (.pointer none)
  bld0 : ∀ w : World, (Instr.build 70 #[]).run Tryz.prog w = .ok (.agg zc.toArray) w
  bldB : ∀ w : World, (Instr.build 74 #[]).run Tryz.prog w = .ok (.agg zb.toArray) w
  no_zero : ∀ w : World, No (w.alloc (.cells zc.toArray 70)) (.pointer (some ⟨w.heap.size, 0, none⟩))
  no_below : ∀ {w w' : World} {v : Value}, No w v → Below w.heap.size w w' → No w' v
  new_zero : ∀ (w : World) (b : Nat) (id ev : Nat) (x : Ros), w.heap[b]? = some (.cells zb.toArray 74 (0, 0)) → id < 18446744073709551616 → ev < 18446744073709551616 → Calls Tryz.prog 8 #[.pointer (some ⟨b, 0, none⟩), .int .u64 (id : Int), .int .u64 (ev : Int), ros x] w fun e w' => e = .returned (.tuple #[.pointer none, .int .i64 1]) ∧ Below w.heap.size w w'
  no_read : ∀ (w : World) (v : Value) (s m : Int), No w v → Calls Tryz.prog 23 #[v, .agg #[.int .i64 s, .int .i64 m]] w fun e w' => e = .returned (.tuple #[blk ar, .int .i64 1]) ∧ Below w.heap.size w w'
  no_write : ∀ (w : World) (v : Value) (s m : Int) (b : Blk), No w v → Calls Tryz.prog 24 #[v, .agg #[.int .i64 s, .int .i64 m], blk b] w fun e w' => e = .returned (.int .i64 1) ∧ Below w.heap.size w w'
  no_fill : ∀ (w : World) (v : Value) (b : Blk), No w v → Calls Tryz.prog 25 #[v, blk b] w fun e w' => e = .returned (.int .i64 1) ∧ Below w.heap.size w w'
  no_flush : ∀ (w : World) (v : Value) , No w v → Calls Tryz.prog 26 #[v] w fun e w' => e = .returned (.int .i64 1) ∧ Below w.heap.size w w'
  no_save : ∀ (w : World) (v : Value) , No w v → Calls Tryz.prog 17 #[v] w fun e w' => e = .returned (.int .i64 1) ∧ Below w.heap.size w w'
  no_find : ∀ (w : World) (v : Value) (m : Int), No w v → Calls Tryz.prog 27 #[v, .int .i64 m] w fun e w' => e = .returned (.int .i64 1) ∧ Below w.heap.size w w'
  no_begin : ∀ (w : World) (v : Value) (m : Int), No w v → Calls Tryz.prog 28 #[v, .int .i64 m] w fun e w' => e = .returned (.int .i64 1) ∧ Below w.heap.size w w'
  no_gone : ∀ (w : World) (v : Value) (g : Bool), No w v → Calls Tryz.prog 29 #[v, .bool g] w fun e w' => e = .returned (.int .i64 1) ∧ Below w.heap.size w w'
  no_event : ∀ (w : World) (v : Value) , No w v → Calls Tryz.prog 18 #[v] w fun e w' => e = .returned (.int .u64 0) ∧ Below w.heap.size w w'
  no_id : ∀ (w : World) (v : Value) , No w v → Calls Tryz.prog 30 #[v] w fun e w' => e = .returned (.int .u64 0) ∧ Below w.heap.size w w'
  no_state : ∀ (w : World) (v : Value) , No w v → Calls Tryz.prog 31 #[v] w fun e w' => e = .returned (.int .i64 0) ∧ Below w.heap.size w w'
theorem HulI.below (C : HulI) {w w' : World} {G : Nat → Prop} {q p : Nat} {h : HuS} (hj : C.J w G q p h) (k : Below w.heap.size w w') : C.J w' G q p h := C.only hj (Only.of_below (fun _ => False) k) fun _ _ e => e
structure HBas (w0 : World) (B : Nat) : Prop where
  le : B ≤ w0.heap.size
  t : Tab w0
  lo : 0 < B
theorem lt_of_cell_ {w : World} {b j : Nat} {v : Value} (h : w.cell? ⟨b, j, none⟩ = some v) : b < w.heap.size := by
  rcases Nat.lt_or_ge b w.heap.size with h' | h'
  · exact h'
  · have : w.heap[b]? = none := Array.getElem?_eq_none h'
    simp [World.cell?, this] at h
theorem HBas.start {w : World} (h : Tab w) : HBas w w.heap.size := ⟨Nat.le_refl _, h, lt_of_cell_ (h 0 (by omega))⟩
theorem HBas.tab {w0 w : World} {B : Nat} (h : HBas w0 B) (hb : Below B w0 w) : Tab w := fun i hi => (World.cell?_of_block (w := w0) (hb.block _ h.lo)).trans (h.t i hi)
def HAt (C : HulI) (w0 : World) (B : Nat) (K : Nat → Prop) (w : World) (q p : Nat) (h : HuS) : Prop := ∃ G, C.J w G q p h ∧ (∀ b, G b → B ≤ b) ∧ Below B w0 w ∧ HBas w0 B ∧ ∀ b, K b → ¬ G b ∧ b < w.heap.size
def bD (K : Nat → Prop) (w w' : World) : Prop := ∀ b, K b → w'.heap[b]? = w.heap[b]?
section
variable {C : HulI} {w0 w w' : World} {B q p : Nat} {K K' : Nat → Prop} {h h' : HuS}
theorem HAt.bel (a : HAt C w0 B K w q p h) : Below B w0 w := by obtain ⟨G, h1, h2, h3, _⟩ := a; exact h3
theorem HAt.guard (a : HAt C w0 B K w q p h) (k : Below w.heap.size w w') (hK : ∀ b, K' b → K b ∨ (w.heap.size ≤ b ∧ b < w'.heap.size)) : HAt C w0 B K' w' q p h := by
  obtain ⟨G, h1, h2, h3, h4, h5⟩ := a
  have hs := k.size
  refine ⟨G, C.below h1 k, h2, h3.trans (k.mono (Nat.le_trans h4.le h3.size)), h4, fun b hb => ?_⟩
  rcases hK b hb with e | ⟨e1, e2⟩
  · obtain ⟨g1, g2⟩ := h5 b e
    exact ⟨g1, by omega⟩
  · exact ⟨fun hg => by have := C.lt h1 b hg; omega, e2⟩
theorem HAt.below (a : HAt C w0 B K w q p h) (k : Below w.heap.size w w') : HAt C w0 B K w' q p h := a.guard k fun b e => .inl e
theorem HAt.turn {G G' : Nat → Prop} (h2 : ∀ b, G b → B ≤ b) (h3 : Below B w0 w) (h4 : HBas w0 B) (h5 : ∀ b, K b → ¬ G b ∧ b < w.heap.size) (k1 : C.J w' G' q p h') (k2 : Only G w w') (k3 : Grow w G G') : HAt C w0 B K w' q p h' ∧ bD K w w' := by
  have hs := Nat.le_trans h4.le h3.size
  have hs2 := k2.size
  refine ⟨⟨G', k1, k3.above h2 hs, h3.trans (k2.below h2 hs), h4, fun b hb => ?_⟩, fun b hb => k2.block b (h5 b hb).2 (h5 b hb).1⟩
  obtain ⟨g1, g2⟩ := h5 b hb
  refine ⟨fun hg => ?_, by omega⟩
  rcases k3 b hg with e | e
  · exact g1 e
  · omega
theorem HBas.crg {G : Nat → Prop} (h : HBas w0 B) (hb : Below B w0 w) (hG : ∀ b, G b → B ≤ b) : CrG w G := ⟨h.tab hb, fun e => by have := h.lo; have := hG _ e; omega⟩
theorem HAt.save (a : HAt C w0 B K w q p h) (hr : Room h.M 600) (he : h.ev ≤ 4611686018427387000) (hz : savE h = 0) : Calls Tryz.prog 17 #[.pointer (some ⟨p, 0, none⟩)] w fun e w' => e = .returned (.int .i64 (savE h)) ∧ HAt C w0 B K w' q p (savS h) ∧ bD K w w' := by
  obtain ⟨G, h1, h2, h3, h4, h5⟩ := a
  exact (C.save h1 (h4.crg h3 h2) hr he).mono fun e w' ⟨k0, G', k1, k2, k3, _⟩ => ⟨k0, HAt.turn h2 h3 h4 h5 (k1 hz) k2 k3⟩
theorem HAt.read (s m : Int) (a : HAt C w0 B K w q p h) (hr : Room h.M 600) (he : h.ev ≤ 4611686018427387000) (hk : hrdK h s m) : Calls Tryz.prog 23 #[.pointer (some ⟨p, 0, none⟩), .agg #[.int .i64 s, .int .i64 m]] w fun e w' => e = .returned (.tuple #[blk (hrdB h s m), .int .i64 (hrdE h s m)]) ∧ HAt C w0 B K w' q p (hrdS h s m) ∧ bD K w w' := by
  obtain ⟨G, h1, h2, h3, h4, h5⟩ := a
  exact (C.read s m h1 (h4.crg h3 h2) hr he).mono fun e w' ⟨k0, G', k1, k2, k3, _⟩ => ⟨k0, HAt.turn h2 h3 h4 h5 (k1 hk) k2 k3⟩
theorem HAt.write (s m : Int) (b : Blk) (a : HAt C w0 B K w q p h) (hr : Room h.M 600) (he : h.ev ≤ 4611686018427387000) (hk : hwrK h s m) : Calls Tryz.prog 24 #[.pointer (some ⟨p, 0, none⟩), .agg #[.int .i64 s, .int .i64 m], blk b] w fun e w' => e = .returned (.int .i64 (hwrE h s m b)) ∧ HAt C w0 B K w' q p (hwrS h s m b) ∧ bD K w w' := by
  obtain ⟨G, h1, h2, h3, h4, h5⟩ := a
  exact (C.write s m b h1 (h4.crg h3 h2) hr he).mono fun e w' ⟨k0, G', k1, k2, k3, _⟩ => ⟨k0, HAt.turn h2 h3 h4 h5 (k1 hk) k2 k3⟩
theorem HAt.ben {I : FuncId} {vs : Array Value} {v : Value} {M' : BenS} (a : HAt C w0 B K w q p h) (hc : ∀ {w F}, C.R.Bn w F q h.M → Calls Tryz.prog I vs w fun e w' => e = .returned v ∧ ∃ F', C.R.Bn w' F' q M' ∧ Only F w w' ∧ Grow w F F') : Calls Tryz.prog I vs w fun e w' => e = .returned v ∧ HAt C w0 B K w' q p { h with M := M' } ∧ bD K w w' := by
  obtain ⟨G, h1, h2, h3, h4, h5⟩ := a
  obtain ⟨Gb, b1, b2, b3⟩ := C.ben h1
  refine (hc b1).mono fun e w' ⟨he, F', k1, k2, k3⟩ => ?_
  obtain ⟨G', g1, g2, g3⟩ := b3 w' F' M' k1 k2 k3
  exact ⟨he, HAt.turn h2 h3 h4 h5 g1 g2 g3⟩
theorem HAt.event (a : HAt C w0 B K w q p h) : Calls Tryz.prog 18 #[.pointer (some ⟨p, 0, none⟩)] w fun e w' => e = .returned (.int .u64 (h.ev : Int)) ∧ Below w.heap.size w w' := by obtain ⟨G, h1, _⟩ := a; exact C.event h1
theorem HAt.state (a : HAt C w0 B K w q p h) : Calls Tryz.prog 31 #[.pointer (some ⟨p, 0, none⟩)] w fun e w' => e = .returned (.int .i64 (stN h.R : Nat)) ∧ Below w.heap.size w w' := by obtain ⟨G, h1, _⟩ := a; exact C.state h1
end
theorem potK_zero {q : Nat → Bool} : ∀ {n : Nat}, (∀ j, j < n → q j = false) → potK q n = 0
  | 0, _ => rfl
  | n + 1, h => by rw [potK, potK_zero (n := n) (fun j hj => h j (by omega)), h n (by omega)]; rfl
section
variable {M : BenS} {m n : Nat} {S : List Blk} {b : Blk}
theorem Wel.wr (h : Wel M m S) (hn : n < S.length) (b : Blk) : cx M m (n : Int) = 0 ∧ wrS6 M m (n : Int) b = M.done.put m ⟨S, [((n : Int), b)], false⟩ := by
  have hs : M.stepE = 0 := by unfold BenS.stepE; rw [h.left]; rfl
  constructor
  · unfold cx
    rw [if_pos (h.rdE hn), hs]
  · unfold wrS6
    rw [if_pos (h.rdE hn), if_neg (by rw [h.left]; omega), h.devI]
    have e : wrL S [] false (n : Int) b = [((n : Int), b)] := by unfold wrL; rw [if_pos (dC ⟨by omega, by omega⟩)]; rfl
    show BenS.put _ _ ⟨S, wrL S [] false (n : Int) b, false⟩ = _
    rw [e]
    rfl
theorem rd_loose (hd : M.bK = false) (hl : m < M.ds.length) (hv : M.ds.getD m bi = ⟨S, [((n : Int), b)], false⟩) (hn : n < S.length) : bx M m (n : Int) = 0 ∧ rdB6 M m (n : Int) = b := by
  have hv' : M.dev m = ⟨S, [((n : Int), b)], false⟩ := hv
  constructor
  · unfold bx
    rw [if_pos (litE_ok hd hl), hv']
    show bZ S false (n : Int) = 0
    exact dC ⟨by omega, by omega⟩
  · unfold rdB6
    rw [if_pos (litE_ok hd hl), hv']
    show readB S [((n : Int), b)] false (n : Int) = b
    rw [readB_ok (dC ⟨by omega, by omega⟩)]
    simp [lastW]
theorem rd_dead (hd : M.bK = false) (hl : m < M.ds.length) (hg : (M.ds.getD m bi).g = true) (hn : n < (M.ds.getD m bi).S.length) : bx M m (n : Int) = 9 := by
  unfold bx
  rw [if_pos (litE_ok hd hl)]
  show bZ (M.ds.getD m bi).S (M.ds.getD m bi).g n = 9
  rw [hg]
  exact askE_dead ⟨by omega, by omega⟩
end
theorem room_of {M : BenS} {st : Nat} (hs : M.steps ≤ st) (hst : st ≤ 900000) (hl : M.left = 0) (hL : ∀ j, j < M.ds.length → (M.ds.getD j bi).L.length ≤ 1) : Room M 600 := by
  refine ⟨by omega, by rw [hl]; omega, fun d hd => ?_⟩
  obtain ⟨j, hj, e⟩ := List.getElem_of_mem hd
  have := hL j hj
  rw [List.getD, List.getElem?_eq_getElem hj, Option.getD_some, e] at this
  omega
def lvR : Ros := neR 3 2
def lvR1 : Ros := losX lvR 1
def lvM : BenS := newS6 (szK 3 2)
theorem lvR_has : plcH lvR 0 1 = true ∧ faiH lvR = false ∧ hasB lvR 1 0 = true ∧ faiH lvR1 = false ∧ stN lvR1 = 2 := by decide +kernel
theorem lvR_los : lvR1.m = lvR.m ∧ (∀ j, sta lvR1 j = if j = 1 then 1 else sta lvR j) ∧ aH lvR1 = true := by
  have hf := neR_fine (N := 3) (s := 2) (by omega) (by omega) (by omega) (by omega)
  have h := los_sta (R := lvR) hf (d := 1) (by decide) (by rw [show sta lvR 1 = 0 from neR_sta (by omega)]; decide)
  exact ⟨h.1, h.2, fine_los _ hf⟩
theorem lvH (b : Blk) : ∃ M1 M2 M3 M4, savE ⟨lvM, 9, 0, lvR⟩ = 0 ∧ savS ⟨lvM, 9, 0, lvR⟩ = ⟨M1, 9, 1, lvR⟩ ∧ hwrE ⟨M1, 9, 1, lvR⟩ 0 1 b = 0 ∧ hwrS ⟨M1, 9, 1, lvR⟩ 0 1 b = ⟨M2, 9, 1, lvR⟩ ∧
    hrdE ⟨M2, 9, 1, lvR⟩ 0 1 = 0 ∧ hrdB ⟨M2, 9, 1, lvR⟩ 0 1 = b ∧ hrdS ⟨M2, 9, 1, lvR⟩ 0 1 = ⟨M2, 9, 1, lvR⟩ ∧ hasE M2 1 = 0 ∧ faS6 M2 1 = M3 ∧
    hrdE ⟨M3, 9, 1, lvR⟩ 0 1 = 7 ∧ hrdS ⟨M3, 9, 1, lvR⟩ 0 1 = ⟨M4, 9, 2, lvR1⟩ ∧ Room lvM 600 ∧ Room M1 600 ∧ Room M2 600 ∧ Room M3 600 := by
  have hk0 : HOk 9 0 lvR lvM := hok_new (N := 3) (s := 2) (by omega) (by omega) (by omega) (by omega) (fun _ => false) 0
  have hm : lvR.m.toNat = 3 := by decide
  have hat0 : ∀ j, j < 3 → lvM.ds.getD j bi = ⟨List.replicate 4 ar, [], false⟩ := fun j hj => newK_at hj
  have hlog0 : lvM.ds.getD 3 bi = ⟨List.replicate 50 ar, [], false⟩ := rfl
  have hp0 : potK (ded lvR lvM) 3 = 0 := potK_zero fun j hj => by unfold ded; rw [hat0 j hj]; simp
  obtain ⟨ev1, R1, M1, e1, k1, l1, l2, _, y1, s1, g1, n1, z1⟩ := save_spec 17 0 lvR lvM hk0 (by rw [hm, hp0]; omega) (by omega)
  rw [hm] at l2 y1 s1 g1 n1 z1
  have hR1 := z1 hp0
  subst hR1
  have he1 : ev1 = 1 := by rw [hp0] at l2; omega
  subst he1
  have hlen1 : M1.ds.length = 4 := y1.len
  have hg1 : ∀ j, j < 3 → (M1.ds.getD j bi).g = false := fun j hj => by rw [y1.gs j, hat0 j hj]
  have hw1 : ∀ j, j < 3 → ∃ S, M1.ds.getD j bi = ⟨S, [], false⟩ ∧ S.length = 4 := fun j hj => by
    obtain ⟨S, e, _⟩ := k1.wel j (by rw [hm]; exact hj) (hg1 j hj)
    have := y1.sl j
    rw [e, hat0 j hj] at this
    exact ⟨S, e, this⟩
  have hlog1 : M1.ds.getD 3 bi = ⟨List.replicate 50 ar, [], false⟩ := by rw [y1.hi 3 (by omega)]; exact hlog0
  have hst1 : M1.steps ≤ 102 := s1
  obtain ⟨S, hS, hSl⟩ := hw1 1 (by omega)
  have hwel : Wel M1 1 S := ⟨k1.bK, k1.left, by omega, hS⟩
  obtain ⟨w1, w2⟩ := hwel.wr (n := 2) (by omega) b
  obtain ⟨M2, hM2⟩ : ∃ M2, M1.done.put 1 ⟨S, [(((2 : Nat) : Int), b)], false⟩ = M2 := ⟨_, rfl⟩
  rw [hM2] at w2
  have hat2 : ∀ j, M2.ds.getD j bi = if j = 1 then ⟨S, [(((2 : Nat) : Int), b)], false⟩ else M1.ds.getD j bi := fun j => by
    rw [← hM2]; exact setD _ _ _ _ _ (by show 1 < M1.ds.length; omega)
  have hd2 : M2.bK = false := by rw [← hM2]; exact k1.bK
  have hl2 : M2.left = 0 := by rw [← hM2]; show M1.left - 1 = 0; rw [k1.left]
  have hlen2 : M2.ds.length = 4 := by rw [← hM2]; show (M1.ds.set 1 _).length = 4; rw [List.length_set]; exact hlen1
  have hst2 : M2.steps ≤ 103 := by rw [← hM2]; show M1.steps + 1 ≤ 103; omega
  obtain ⟨r1, r2⟩ := rd_loose (M := M2) (m := 1) (n := 2) (S := S) (b := b) hd2 (by omega) (by rw [hat2 1, if_pos rfl]) (by omega)
  obtain ⟨M3, hM3⟩ : ∃ M3, faS6 M2 1 = M3 := ⟨_, rfl⟩
  have hh2 : hasE M2 1 = 0 := hasE_ok (k := 1) (by omega)
  have hf3 : M3 = M2.put 1 ⟨S, [], true⟩ := by
    rw [← hM3]
    unfold faS6
    rw [if_pos hh2]
    show M2.put 1 ⟨(M2.ds.getD 1 bi).S, [], true⟩ = _
    rw [hat2 1, if_pos rfl]
  have hat3 : ∀ j, M3.ds.getD j bi = if j = 1 then ⟨S, [], true⟩ else M1.ds.getD j bi := fun j => by
    rw [hf3]
    show (M2.ds.set 1 _).getD j bi = _
    rw [setD _ _ _ _ _ (by omega)]
    by_cases e : j = 1
    · rw [if_pos e, if_pos e]
    · rw [if_neg e, if_neg e, hat2 j, if_neg e]
  have hd3 : M3.bK = false := by rw [hf3]; exact hd2
  have hl3 : M3.left = 0 := by rw [hf3]; exact hl2
  have hlen3 : M3.ds.length = 4 := by rw [hf3]; show (M2.ds.set 1 _).length = 4; rw [List.length_set]; exact hlen2
  have hst3 : M3.steps ≤ 103 := by rw [hf3]; exact hst2
  have r3 : bx M3 1 2 = 9 := rd_dead (m := 1) (n := 2) hd3 (by omega) (by rw [hat3 1, if_pos rfl]) (by rw [hat3 1, if_pos rfl]; show 2 < S.length; omega)
  obtain ⟨q1, q2, q3⟩ := lvR_los
  have hm1 : lvR1.m.toNat = 3 := by rw [q1]; exact hm
  have hk3 : HOk 9 1 lvR1 M3 := ⟨hd3, hl3, by omega, q3, ⟨by decide, by decide⟩, fun m h => by
      rw [hat3 m]
      by_cases e : m = 1
      · rw [if_pos e]; show 2 ≤ S.length; omega
      · rw [if_neg e]; obtain ⟨S', e', hl'⟩ := hw1 m (by omega); rw [e']; show 2 ≤ S'.length; omega, fun m h hg => by
      rw [hat3 m] at hg ⊢
      by_cases e : m = 1
      · rw [if_pos e] at hg; cases hg
      · rw [if_neg e] at hg ⊢; exact k1.wel m (by omega) hg⟩
  have hp3 : potK (ded lvR1 M3) 3 = 0 := potK_zero fun j hj => by
    unfold ded
    rw [q2 j, hat3 j]
    by_cases e : j = 1
    · rw [if_pos e]; simp
    · rw [if_neg e, if_neg e, hg1 j hj]; simp
  obtain ⟨ev4, R4, M4, e4, k4, u1, u2, _, y4, s4, g4, n4, z4⟩ := save_spec 17 1 lvR1 M3 hk3 (by rw [hm1, hp3]; omega) (by omega)
  rw [hm1] at u2 y4 s4 g4 n4 z4
  have hR4 := z4 hp3
  subst hR4
  have he4 : ev4 = 2 := by rw [hp3] at u2; omega
  subst he4
  obtain ⟨p1, p2, p3, p4, _⟩ := lvR_has
  have hsv : savE (dedH ⟨M3, 9, 1, lvR⟩ 1) = 0 ∧ savS (dedH ⟨M3, 9, 1, lvR⟩ 1) = ⟨M4, 9, 2, lvR1⟩ := by
    have e : dedH ⟨M3, 9, 1, lvR⟩ 1 = ⟨M3, 9, 1, lvR1⟩ := rfl
    rw [e]
    unfold savE savS
    rw [e4]
    exact ⟨rfl, rfl⟩
  have hs0 : savE ⟨lvM, 9, 0, lvR⟩ = 0 ∧ savS ⟨lvM, 9, 0, lvR⟩ = ⟨M1, 9, 1, lvR⟩ := by
    unfold savE savS
    rw [e1]
    exact ⟨rfl, rfl⟩
  have c2 : ((2 : Int) + 0) = ((2 : Nat) : Int) := rfl
  have hwE : hwrE ⟨M1, 9, 1, lvR⟩ 0 1 b = 0 := by
    unfold hwrE
    rw [if_pos p1, if_neg (by rw [p2]; decide), if_pos p3, if_neg (show ¬ cx M1 1 (2 + 0) = 9 from fun e => by rw [show cx M1 1 (2 + 0) = 0 from w1] at e; exact absurd e (by decide))]
    exact w1
  have hwS : hwrS ⟨M1, 9, 1, lvR⟩ 0 1 b = ⟨M2, 9, 1, lvR⟩ := by
    unfold hwrS
    rw [if_pos ⟨p1, p2, p3⟩, if_neg (show ¬ cx M1 1 (2 + 0) = 9 from fun e => by rw [show cx M1 1 (2 + 0) = 0 from w1] at e; exact absurd e (by decide))]
    show HuS.mk (wrS6 M1 1 (2 + 0) b) 9 1 lvR = _
    rw [show wrS6 M1 1 (2 + 0) b = M2 from w2]
  have hrE : hrdE ⟨M2, 9, 1, lvR⟩ 0 1 = 0 := by
    unfold hrdE
    rw [if_pos p1, if_neg (by rw [p2]; decide), if_pos p3, if_neg (show ¬ bx M2 1 (2 + 0) = 9 from fun e => by rw [show bx M2 1 (2 + 0) = 0 from r1] at e; exact absurd e (by decide))]
    exact r1
  refine ⟨M1, M2, M3, M4, hs0.1, hs0.2, hwE, hwS, hrE, ?_, ?_, hh2, hM3, ?_, ?_, ?_, ?_, ?_, ?_⟩
  · unfold hrdB
    rw [if_pos hrE]
    exact r2
  · unfold hrdS
    rw [if_neg (fun e => by have e3 := e.2.2.2; rw [show bx M2 1 (2 + 0) = 0 from r1] at e3; exact absurd e3 (by decide))]
  · unfold hrdE
    rw [if_pos p1, if_neg (by rw [p2]; decide), if_pos p3, if_pos (show bx M3 1 (2 + 0) = 9 from r3)]
    unfold dedE
    rw [show Int.toNat 1 = 1 from rfl, if_pos hsv.1, if_neg (by rw [hsv.2]; show ¬ faiH lvR1 = true; rw [p4]; decide)]
  · unfold hrdS
    rw [if_pos ⟨p1, p2, p3, r3⟩]
    exact hsv.2
  · exact room_of (st := 0) (Nat.le_refl _) (by omega) rfl fun j hj => by
      have hj4 : j < 4 := hj
      rcases (show j < 3 ∨ j = 3 by omega) with h | rfl
      · rw [hat0 j h]; exact Nat.zero_le _
      · rw [hlog0]; exact Nat.zero_le _
  · exact room_of hst1 (by omega) k1.left fun j hj => by
      rcases (show j < 3 ∨ j = 3 by omega) with h | rfl
      · obtain ⟨S', e', _⟩ := hw1 j h; rw [e']; exact Nat.zero_le _
      · rw [hlog1]; exact Nat.zero_le _
  · exact room_of hst2 (by omega) hl2 fun j hj => by
      rw [hat2 j]
      by_cases e : j = 1
      · rw [if_pos e]; exact Nat.le_refl _
      · rw [if_neg e]
        rcases (show j < 3 ∨ j = 3 by omega) with h | rfl
        · obtain ⟨S', e', _⟩ := hw1 j h; rw [e']; exact Nat.zero_le _
        · rw [hlog1]; exact Nat.zero_le _
  · exact room_of hst3 (by omega) hl3 fun j hj => by
      rw [hat3 j]
      by_cases e : j = 1
      · rw [if_pos e]; exact Nat.zero_le _
      · rw [if_neg e]
        rcases (show j < 3 ∨ j = 3 by omega) with h | rfl
        · obtain ⟨S', e', _⟩ := hw1 j h; rw [e']; exact Nat.zero_le _
        · rw [hlog1]; exact Nat.zero_le _
section
variable {ρ : Operand → Value} {o : Oper} {x y : Operand} {w : World} {a : Int}
theorem exec_rem8 {t r : TypeId} {b c : Int} (ho : o.op = .binOp .rem t x y r) (hx : ρ x = .int .u8 a) (hy : ρ y = .int .u8 b) (h0 : b ≠ 0) (h : a.tmod b = c) : (execOp ρ o).run Tryz.prog w = .ok (.value (.int .u8 c)) w := by
  unfold execOp
  simp [ho, hx, hy, eqGuard, binOp, Op.intDiv, h, h0]
theorem run_cv8 (h : IntKind.i64.wrap a = a) : (convert 5 3 (.int .u8 a)).run Tryz.prog w = .ok (.int .i64 a) w := by
  simp [convert, go_sem, h]
theorem exec_cv8 (ho : o.op = .convert 5 3 x) (hx : ρ x = .int .u8 a) (h : IntKind.i64.wrap a = a) : (execOp ρ o).run Tryz.prog w = .ok (.value (.int .i64 a)) w := by
  unfold execOp
  simp only [ho, hx, Sem.run_bind, run_cv8 h, Result.andThen_ok, Sem.run_pure]
end
end Go.Proofs.YtnliphgjcaippaaGreatDoor
