import Derived.Test.YtnliphgjcaippaaGreatDoorHsak
import Derived.Test.YtnliphgjcaippaaGreatDoorHsam
import Derived.Test.YtnliphgjcaippaaGreatDoorHsaf
import Derived.Test.YtnliphgjcaippaaGreatDoorHsah
import Derived.Test.YtnliphgjcaippaaGreatDoorHsai
import Derived.Test.YtnliphgjcaippaaGreatDoorHsag
import Derived.Test.YtnliphgjcaippaaGreatDoorHsab
import Derived.Test.YtnliphgjcaippaaGreatDoorHsZ
namespace Go.Proofs.YtnliphgjcaippaaGreatDoor
open Go.RowKit
set_option linter.unusedVariables false
set_option linter.unusedSimpArgs false
set_option maxRecDepth 100000
section
variable {ρ : Operand → Value} {o : Oper} {x y : Operand} {w : World} {r : TypeId}
theorem ldBool {ad : Addr} {k : Bool} (h : w.cell? ad = some (.bool k)) : (Instr.loadAt 4 (.pointer (some ad))).run Tryz.prog w = .ok (.bool k) w := by simp [go_sem, h]
theorem ex {a b : Bool} (c : Bool) (ho : o.op = .binOp .neq 4 x y r) (hx : ρ x = .bool a) (hy : ρ y = .bool b) (h : (a != b) = c) : (execOp ρ o).run Tryz.prog w = .ok (.value (.bool c)) w := by
  have he := run_equalIn_bool' (P := Tryz.prog) w 9999 4 a b Tryz.underlying4
  have h' : (!(a == b)) = c := h
  unfold execOp
  simp [ho, hx, hy, eqGuard, binOp, Op.equal, Op.maxDepth, he]
  simpa using h'
theorem faR3s {b : Nat} : (Instr.fieldAt 28 (.pointer (some ⟨b, 0, none⟩)) 3).run Tryz.prog w = .ok (.pointer (some ⟨b, 20, none⟩)) w := by kernel_rfl
theorem faG2 {b : Nat} : (Instr.fieldAt 25 (.pointer (some ⟨b, 0, none⟩)) 2).run Tryz.prog w = .ok (.pointer (some ⟨b, 2, none⟩)) w := by kernel_rfl
end
set_option maxHeartbeats 2000000 in
theorem rrosters (x y : Ros) (w : World) : Calls Tryz.prog 22 #[ros x, ros y] w fun e w' => e = .returned (.bool (decide (x = y))) ∧ Below w.heap.size w w' := by
  obtain ⟨h1, h2, h3⟩ := cj w x
  have HX := Lib.hid (h1.past (.cells (aH y).toArray 28))
  have HY : Hid (bl ((w.alloc (.cells (aH x).toArray 28)).alloc (.cells (aH y).toArray 28)) (w.heap.size + 1) y) := Lib.hid (by
    have := bl.new (w.alloc (.cells (aH x).toArray 28)) y
    rwa [World.size_alloc] at this)
  have HB := Lib.hid (h2.alloc h2.size (.cells (aH y).toArray 28))
  clear h1 h2 h3
  go_enter Tryz.func22, Tryz.ntmps22
  go_upto_region 1 with (first | (refine af rfl (aP rfl rfl) ?_) | fail)
  try simp only [World.size_alloc]
  generalize (w.alloc (.cells (aH x).toArray 28)).alloc (.cells (aH y).toArray 28) = w1 at *
  have HXm := Lib.hid HX.out.cells.1
  have HXs := Lib.hid HX.out.cells.2.1
  have HXr := Lib.hid HX.out.cells.2.2.1
  have HXc := Lib.hid HX.out.cells.2.2.2.1
  have HXg := Lib.hid HX.out.cells.2.2.2.2
  have HYm := Lib.hid HY.out.cells.1
  have HYs := Lib.hid HY.out.cells.2.1
  have HYr := Lib.hid HY.out.cells.2.2.1
  have HYc := Lib.hid HY.out.cells.2.2.2.1
  have HYg := Lib.hid HY.out.cells.2.2.2.2
  by_cases qm : x.m = y.m
  · have HDm : Hid ((x.m != y.m) = false) := Lib.hid (by rw [qm]; simp)
    by_cases qs : x.s = y.s
    · have HDs : Hid ((x.s != y.s) = false) := Lib.hid (by rw [qs]; simp)
      by_cases qr : x.r = y.r
      · have HDr : Hid ((x.r != y.r) = false) := Lib.hid (by rw [qr]; simp)
        by_cases qc : x.cur = y.cur
        · have HDc : Hid ((x.cur != y.cur) = false) := Lib.hid (by rw [qc]; simp)
          by_cases qg : x.gone = y.gone
          · have HDg : Hid ((x.gone != y.gone) = false) := Lib.hid (by rw [qg]; simp)
            refine wp_region_lit ?_
            refine af rfl (aj rfl (ev rfl) cD) ?_
            simp only [Act.put, aa, ac, ae]
            refine af rfl (aj rfl (ev rfl) faG0) ?_
            simp only [Act.put, aa, ac, ae]
            refine af rfl (aq rfl (ev rfl) (aW HXm.out)) ?_
            simp only [Act.put, aa, ac, ae]
            refine af rfl (aj rfl (ev rfl) cD) ?_
            simp only [Act.put, aa, ac, ae]
            refine af rfl (aj rfl (ev rfl) faG0) ?_
            simp only [Act.put, aa, ac, ae]
            refine af rfl (aq rfl (ev rfl) (aW HYm.out)) ?_
            simp only [Act.put, aa, ac, ae]
            refine af (v := .bool false) rfl (ay false rfl (ev rfl) (ev rfl) HDm.out) ?_
            simp only [Act.put, aa, ac, ae]
            refine af (v := .bool false) rfl (ai rfl (ev rfl)) ?_
            simp only [Act.put, aa, ac, ae]
            refine ag (ah rfl rfl rfl rfl) (aj rfl (ev rfl) cD) ?_
            simp only [Act.put, aa, ac, ae]
            refine ag (ah rfl rfl rfl rfl) (aj rfl (ev rfl) faG1) ?_
            simp only [Act.put, aa, ac, ae]
            refine ag (ah rfl rfl rfl rfl) (aq rfl (ev rfl) (aW HXs.out)) ?_
            simp only [Act.put, aa, ac, ae]
            refine ag (ah rfl rfl rfl rfl) (aj rfl (ev rfl) cD) ?_
            simp only [Act.put, aa, ac, ae]
            refine ag (ah rfl rfl rfl rfl) (aj rfl (ev rfl) faG1) ?_
            simp only [Act.put, aa, ac, ae]
            refine ag (ah rfl rfl rfl rfl) (aq rfl (ev rfl) (aW HYs.out)) ?_
            simp only [Act.put, aa, ac, ae]
            refine ag (v := .bool false) (ah rfl rfl rfl rfl) (ay false rfl (ev rfl) (ev rfl) HDs.out) ?_
            simp only [Act.put, aa, ac, ae]
            refine af (v := .bool false) rfl (aB rfl (ev rfl) (ev rfl)) ?_
            simp only [Act.put, aa, ac, ae]
            refine af (v := .bool false) rfl (ai rfl (ev rfl)) ?_
            simp only [Act.put, aa, ac, ae]
            refine ag (ah rfl rfl rfl rfl) (aj rfl (ev rfl) cD) ?_
            simp only [Act.put, aa, ac, ae]
            refine ag (ah rfl rfl rfl rfl) (aj rfl (ev rfl) faG2) ?_
            simp only [Act.put, aa, ac, ae]
            refine ag (ah rfl rfl rfl rfl) (aq rfl (ev rfl) (aW HXr.out)) ?_
            simp only [Act.put, aa, ac, ae]
            refine ag (ah rfl rfl rfl rfl) (aj rfl (ev rfl) cD) ?_
            simp only [Act.put, aa, ac, ae]
            refine ag (ah rfl rfl rfl rfl) (aj rfl (ev rfl) faG2) ?_
            simp only [Act.put, aa, ac, ae]
            refine ag (ah rfl rfl rfl rfl) (aq rfl (ev rfl) (aW HYr.out)) ?_
            simp only [Act.put, aa, ac, ae]
            refine ag (v := .bool false) (ah rfl rfl rfl rfl) (ay false rfl (ev rfl) (ev rfl) HDr.out) ?_
            simp only [Act.put, aa, ac, ae]
            refine af (v := .bool false) rfl (aB rfl (ev rfl) (ev rfl)) ?_
            simp only [Act.put, aa, ac, ae]
            refine af (v := .bool false) rfl (ai rfl (ev rfl)) ?_
            simp only [Act.put, aa, ac, ae]
            refine ag (ah rfl rfl rfl rfl) (aj rfl (ev rfl) faR2) ?_
            simp only [Act.put, aa, ac, ae]
            refine ag (ah rfl rfl rfl rfl) (aq rfl (ev rfl) (aW HXc.out)) ?_
            simp only [Act.put, aa, ac, ae]
            refine ag (ah rfl rfl rfl rfl) (aj rfl (ev rfl) faR2) ?_
            simp only [Act.put, aa, ac, ae]
            refine ag (ah rfl rfl rfl rfl) (aq rfl (ev rfl) (aW HYc.out)) ?_
            simp only [Act.put, aa, ac, ae]
            refine ag (v := .bool false) (ah rfl rfl rfl rfl) (ay false rfl (ev rfl) (ev rfl) HDc.out) ?_
            simp only [Act.put, aa, ac, ae]
            refine af (v := .bool false) rfl (aB rfl (ev rfl) (ev rfl)) ?_
            simp only [Act.put, aa, ac, ae]
            refine af (v := .bool false) rfl (ai rfl (ev rfl)) ?_
            simp only [Act.put, aa, ac, ae]
            refine ag (ah rfl rfl rfl rfl) (aj rfl (ev rfl) faR3s) ?_
            simp only [Act.put, aa, ac, ae]
            refine ag (ah rfl rfl rfl rfl) (aq rfl (ev rfl) (ldBool HXg.out)) ?_
            simp only [Act.put, aa, ac, ae]
            refine ag (ah rfl rfl rfl rfl) (aj rfl (ev rfl) faR3s) ?_
            simp only [Act.put, aa, ac, ae]
            refine ag (ah rfl rfl rfl rfl) (aq rfl (ev rfl) (ldBool HYg.out)) ?_
            simp only [Act.put, aa, ac, ae]
            refine ag (v := .bool false) (ah rfl rfl rfl rfl) (ex false rfl (ev rfl) (ev rfl) HDg.out) ?_
            simp only [Act.put, aa, ac, ae]
            refine af (v := .bool false) rfl (aB rfl (ev rfl) (ev rfl)) ?_
            simp only [Act.put, aa, ac, ae]
            refine wpList_nil ?_
            go_wp2_with fail
            refine aG (B := w1.heap.size) (by kernel_rfl) ?_
            refine ao rfl (fun w' hw => aj rfl (ev rfl) faR1) ?_
            simp only [Act.put, aa, ac, ae]
            refine ao rfl (fun w' hw => dZ rfl (ev rfl)) ?_
            simp only [Act.put, aa, ac, ae]
            refine ao rfl (fun w' hw => aj rfl (ev rfl) faR1) ?_
            simp only [Act.put, aa, ac, ae]
            refine ao rfl (fun w' hw => dZ rfl (ev rfl)) ?_
            simp only [Act.put, aa, ac, ae]
            refine bn rfl (fun _ => ap Tryz.call53 rfl (evc (ev rfl) (evc (ev rfl) evn))) (bi (Nat.le_refl _) fun w' hw => same_any _ _ 16 16 16 16 _ x.st.toList y.st.toList w' (HX.out.below (aD HX.out) hw).rd16 (HY.out.below (aD HY.out) hw).rd16 (Nat.le_refl _) (by unfold maxLen; omega)) ?_
            simp only [Act.put, aa, ac, ae]
            refine ao rfl (fun w' hw => ak rfl (ev rfl)) ?_
            simp only [Act.put, aa, ac, ae]
            refine wpQuiet_nil ?_
            intro w2 hw
            have HB2 := Lib.hid (HB.out.trans (hw.mono HB.out.size))
            clear hw
            have HEQ : Hid (same x.st.toList y.st.toList = decide (x = y)) := Lib.hid (by
              by_cases h : x.st.toList = y.st.toList
              · rw [h, decide_eq_true (ros_ext ⟨qm, qs, qr⟩ h qc qg)]; simp [same]
              · rw [decide_eq_false (fun e : x = y => h (by rw [e]))]; exact beq_eq_false_iff_ne.2 h)
            go_wp2_with fail
            go_ret
            exact ⟨by rw [← HEQ.out]; rfl, HB2.out⟩
          · have HDg : Hid ((x.gone != y.gone) = true) := Lib.hid (by simpa using qg)
            have HNE : Hid (decide (x = y) = false) := Lib.hid (decide_eq_false (fun e : x = y => qg (by rw [e])))
            refine wp_region_lit ?_
            refine af rfl (aj rfl (ev rfl) cD) ?_
            simp only [Act.put, aa, ac, ae]
            refine af rfl (aj rfl (ev rfl) faG0) ?_
            simp only [Act.put, aa, ac, ae]
            refine af rfl (aq rfl (ev rfl) (aW HXm.out)) ?_
            simp only [Act.put, aa, ac, ae]
            refine af rfl (aj rfl (ev rfl) cD) ?_
            simp only [Act.put, aa, ac, ae]
            refine af rfl (aj rfl (ev rfl) faG0) ?_
            simp only [Act.put, aa, ac, ae]
            refine af rfl (aq rfl (ev rfl) (aW HYm.out)) ?_
            simp only [Act.put, aa, ac, ae]
            refine af (v := .bool false) rfl (ay false rfl (ev rfl) (ev rfl) HDm.out) ?_
            simp only [Act.put, aa, ac, ae]
            refine af (v := .bool false) rfl (ai rfl (ev rfl)) ?_
            simp only [Act.put, aa, ac, ae]
            refine ag (ah rfl rfl rfl rfl) (aj rfl (ev rfl) cD) ?_
            simp only [Act.put, aa, ac, ae]
            refine ag (ah rfl rfl rfl rfl) (aj rfl (ev rfl) faG1) ?_
            simp only [Act.put, aa, ac, ae]
            refine ag (ah rfl rfl rfl rfl) (aq rfl (ev rfl) (aW HXs.out)) ?_
            simp only [Act.put, aa, ac, ae]
            refine ag (ah rfl rfl rfl rfl) (aj rfl (ev rfl) cD) ?_
            simp only [Act.put, aa, ac, ae]
            refine ag (ah rfl rfl rfl rfl) (aj rfl (ev rfl) faG1) ?_
            simp only [Act.put, aa, ac, ae]
            refine ag (ah rfl rfl rfl rfl) (aq rfl (ev rfl) (aW HYs.out)) ?_
            simp only [Act.put, aa, ac, ae]
            refine ag (v := .bool false) (ah rfl rfl rfl rfl) (ay false rfl (ev rfl) (ev rfl) HDs.out) ?_
            simp only [Act.put, aa, ac, ae]
            refine af (v := .bool false) rfl (aB rfl (ev rfl) (ev rfl)) ?_
            simp only [Act.put, aa, ac, ae]
            refine af (v := .bool false) rfl (ai rfl (ev rfl)) ?_
            simp only [Act.put, aa, ac, ae]
            refine ag (ah rfl rfl rfl rfl) (aj rfl (ev rfl) cD) ?_
            simp only [Act.put, aa, ac, ae]
            refine ag (ah rfl rfl rfl rfl) (aj rfl (ev rfl) faG2) ?_
            simp only [Act.put, aa, ac, ae]
            refine ag (ah rfl rfl rfl rfl) (aq rfl (ev rfl) (aW HXr.out)) ?_
            simp only [Act.put, aa, ac, ae]
            refine ag (ah rfl rfl rfl rfl) (aj rfl (ev rfl) cD) ?_
            simp only [Act.put, aa, ac, ae]
            refine ag (ah rfl rfl rfl rfl) (aj rfl (ev rfl) faG2) ?_
            simp only [Act.put, aa, ac, ae]
            refine ag (ah rfl rfl rfl rfl) (aq rfl (ev rfl) (aW HYr.out)) ?_
            simp only [Act.put, aa, ac, ae]
            refine ag (v := .bool false) (ah rfl rfl rfl rfl) (ay false rfl (ev rfl) (ev rfl) HDr.out) ?_
            simp only [Act.put, aa, ac, ae]
            refine af (v := .bool false) rfl (aB rfl (ev rfl) (ev rfl)) ?_
            simp only [Act.put, aa, ac, ae]
            refine af (v := .bool false) rfl (ai rfl (ev rfl)) ?_
            simp only [Act.put, aa, ac, ae]
            refine ag (ah rfl rfl rfl rfl) (aj rfl (ev rfl) faR2) ?_
            simp only [Act.put, aa, ac, ae]
            refine ag (ah rfl rfl rfl rfl) (aq rfl (ev rfl) (aW HXc.out)) ?_
            simp only [Act.put, aa, ac, ae]
            refine ag (ah rfl rfl rfl rfl) (aj rfl (ev rfl) faR2) ?_
            simp only [Act.put, aa, ac, ae]
            refine ag (ah rfl rfl rfl rfl) (aq rfl (ev rfl) (aW HYc.out)) ?_
            simp only [Act.put, aa, ac, ae]
            refine ag (v := .bool false) (ah rfl rfl rfl rfl) (ay false rfl (ev rfl) (ev rfl) HDc.out) ?_
            simp only [Act.put, aa, ac, ae]
            refine af (v := .bool false) rfl (aB rfl (ev rfl) (ev rfl)) ?_
            simp only [Act.put, aa, ac, ae]
            refine af (v := .bool false) rfl (ai rfl (ev rfl)) ?_
            simp only [Act.put, aa, ac, ae]
            refine ag (ah rfl rfl rfl rfl) (aj rfl (ev rfl) faR3s) ?_
            simp only [Act.put, aa, ac, ae]
            refine ag (ah rfl rfl rfl rfl) (aq rfl (ev rfl) (ldBool HXg.out)) ?_
            simp only [Act.put, aa, ac, ae]
            refine ag (ah rfl rfl rfl rfl) (aj rfl (ev rfl) faR3s) ?_
            simp only [Act.put, aa, ac, ae]
            refine ag (ah rfl rfl rfl rfl) (aq rfl (ev rfl) (ldBool HYg.out)) ?_
            simp only [Act.put, aa, ac, ae]
            refine ag (v := .bool true) (ah rfl rfl rfl rfl) (ex true rfl (ev rfl) (ev rfl) HDg.out) ?_
            simp only [Act.put, aa, ac, ae]
            refine af (v := .bool true) rfl (aB rfl (ev rfl) (ev rfl)) ?_
            simp only [Act.put, aa, ac, ae]
            refine wpList_nil ?_
            go_wp2_with fail
            go_ret
            exact ⟨by rw [HNE.out]; rfl, HB.out⟩
        · have HDc : Hid ((x.cur != y.cur) = true) := Lib.hid (by simpa using qc)
          have HNE : Hid (decide (x = y) = false) := Lib.hid (decide_eq_false (fun e : x = y => qc (by rw [e])))
          refine wp_region_lit ?_
          refine af rfl (aj rfl (ev rfl) cD) ?_
          simp only [Act.put, aa, ac, ae]
          refine af rfl (aj rfl (ev rfl) faG0) ?_
          simp only [Act.put, aa, ac, ae]
          refine af rfl (aq rfl (ev rfl) (aW HXm.out)) ?_
          simp only [Act.put, aa, ac, ae]
          refine af rfl (aj rfl (ev rfl) cD) ?_
          simp only [Act.put, aa, ac, ae]
          refine af rfl (aj rfl (ev rfl) faG0) ?_
          simp only [Act.put, aa, ac, ae]
          refine af rfl (aq rfl (ev rfl) (aW HYm.out)) ?_
          simp only [Act.put, aa, ac, ae]
          refine af (v := .bool false) rfl (ay false rfl (ev rfl) (ev rfl) HDm.out) ?_
          simp only [Act.put, aa, ac, ae]
          refine af (v := .bool false) rfl (ai rfl (ev rfl)) ?_
          simp only [Act.put, aa, ac, ae]
          refine ag (ah rfl rfl rfl rfl) (aj rfl (ev rfl) cD) ?_
          simp only [Act.put, aa, ac, ae]
          refine ag (ah rfl rfl rfl rfl) (aj rfl (ev rfl) faG1) ?_
          simp only [Act.put, aa, ac, ae]
          refine ag (ah rfl rfl rfl rfl) (aq rfl (ev rfl) (aW HXs.out)) ?_
          simp only [Act.put, aa, ac, ae]
          refine ag (ah rfl rfl rfl rfl) (aj rfl (ev rfl) cD) ?_
          simp only [Act.put, aa, ac, ae]
          refine ag (ah rfl rfl rfl rfl) (aj rfl (ev rfl) faG1) ?_
          simp only [Act.put, aa, ac, ae]
          refine ag (ah rfl rfl rfl rfl) (aq rfl (ev rfl) (aW HYs.out)) ?_
          simp only [Act.put, aa, ac, ae]
          refine ag (v := .bool false) (ah rfl rfl rfl rfl) (ay false rfl (ev rfl) (ev rfl) HDs.out) ?_
          simp only [Act.put, aa, ac, ae]
          refine af (v := .bool false) rfl (aB rfl (ev rfl) (ev rfl)) ?_
          simp only [Act.put, aa, ac, ae]
          refine af (v := .bool false) rfl (ai rfl (ev rfl)) ?_
          simp only [Act.put, aa, ac, ae]
          refine ag (ah rfl rfl rfl rfl) (aj rfl (ev rfl) cD) ?_
          simp only [Act.put, aa, ac, ae]
          refine ag (ah rfl rfl rfl rfl) (aj rfl (ev rfl) faG2) ?_
          simp only [Act.put, aa, ac, ae]
          refine ag (ah rfl rfl rfl rfl) (aq rfl (ev rfl) (aW HXr.out)) ?_
          simp only [Act.put, aa, ac, ae]
          refine ag (ah rfl rfl rfl rfl) (aj rfl (ev rfl) cD) ?_
          simp only [Act.put, aa, ac, ae]
          refine ag (ah rfl rfl rfl rfl) (aj rfl (ev rfl) faG2) ?_
          simp only [Act.put, aa, ac, ae]
          refine ag (ah rfl rfl rfl rfl) (aq rfl (ev rfl) (aW HYr.out)) ?_
          simp only [Act.put, aa, ac, ae]
          refine ag (v := .bool false) (ah rfl rfl rfl rfl) (ay false rfl (ev rfl) (ev rfl) HDr.out) ?_
          simp only [Act.put, aa, ac, ae]
          refine af (v := .bool false) rfl (aB rfl (ev rfl) (ev rfl)) ?_
          simp only [Act.put, aa, ac, ae]
          refine af (v := .bool false) rfl (ai rfl (ev rfl)) ?_
          simp only [Act.put, aa, ac, ae]
          refine ag (ah rfl rfl rfl rfl) (aj rfl (ev rfl) faR2) ?_
          simp only [Act.put, aa, ac, ae]
          refine ag (ah rfl rfl rfl rfl) (aq rfl (ev rfl) (aW HXc.out)) ?_
          simp only [Act.put, aa, ac, ae]
          refine ag (ah rfl rfl rfl rfl) (aj rfl (ev rfl) faR2) ?_
          simp only [Act.put, aa, ac, ae]
          refine ag (ah rfl rfl rfl rfl) (aq rfl (ev rfl) (aW HYc.out)) ?_
          simp only [Act.put, aa, ac, ae]
          refine ag (v := .bool true) (ah rfl rfl rfl rfl) (ay true rfl (ev rfl) (ev rfl) HDc.out) ?_
          simp only [Act.put, aa, ac, ae]
          refine af (v := .bool true) rfl (aB rfl (ev rfl) (ev rfl)) ?_
          simp only [Act.put, aa, ac, ae]
          refine aF 5 (v := .bool true) rfl (ai rfl (ev rfl)) (by kernel_rfl) ?_
          simp only [aY, List.take_succ_cons, List.take_zero, List.drop_succ_cons, List.drop_zero, Act.put, List.setIfInBounds_toArray, List.set_cons_succ, List.set_cons_zero]
          refine af (v := .bool true) rfl (aJ rfl (ev rfl) evk) ?_
          simp only [Act.put, aa, ac, ae]
          refine wpList_nil ?_
          go_wp2_with fail
          go_ret
          exact ⟨by rw [HNE.out]; rfl, HB.out⟩
      · have HDr : Hid ((x.r != y.r) = true) := Lib.hid (by simpa using qr)
        have HNE : Hid (decide (x = y) = false) := Lib.hid (decide_eq_false (fun e : x = y => qr (by rw [e])))
        refine wp_region_lit ?_
        refine af rfl (aj rfl (ev rfl) cD) ?_
        simp only [Act.put, aa, ac, ae]
        refine af rfl (aj rfl (ev rfl) faG0) ?_
        simp only [Act.put, aa, ac, ae]
        refine af rfl (aq rfl (ev rfl) (aW HXm.out)) ?_
        simp only [Act.put, aa, ac, ae]
        refine af rfl (aj rfl (ev rfl) cD) ?_
        simp only [Act.put, aa, ac, ae]
        refine af rfl (aj rfl (ev rfl) faG0) ?_
        simp only [Act.put, aa, ac, ae]
        refine af rfl (aq rfl (ev rfl) (aW HYm.out)) ?_
        simp only [Act.put, aa, ac, ae]
        refine af (v := .bool false) rfl (ay false rfl (ev rfl) (ev rfl) HDm.out) ?_
        simp only [Act.put, aa, ac, ae]
        refine af (v := .bool false) rfl (ai rfl (ev rfl)) ?_
        simp only [Act.put, aa, ac, ae]
        refine ag (ah rfl rfl rfl rfl) (aj rfl (ev rfl) cD) ?_
        simp only [Act.put, aa, ac, ae]
        refine ag (ah rfl rfl rfl rfl) (aj rfl (ev rfl) faG1) ?_
        simp only [Act.put, aa, ac, ae]
        refine ag (ah rfl rfl rfl rfl) (aq rfl (ev rfl) (aW HXs.out)) ?_
        simp only [Act.put, aa, ac, ae]
        refine ag (ah rfl rfl rfl rfl) (aj rfl (ev rfl) cD) ?_
        simp only [Act.put, aa, ac, ae]
        refine ag (ah rfl rfl rfl rfl) (aj rfl (ev rfl) faG1) ?_
        simp only [Act.put, aa, ac, ae]
        refine ag (ah rfl rfl rfl rfl) (aq rfl (ev rfl) (aW HYs.out)) ?_
        simp only [Act.put, aa, ac, ae]
        refine ag (v := .bool false) (ah rfl rfl rfl rfl) (ay false rfl (ev rfl) (ev rfl) HDs.out) ?_
        simp only [Act.put, aa, ac, ae]
        refine af (v := .bool false) rfl (aB rfl (ev rfl) (ev rfl)) ?_
        simp only [Act.put, aa, ac, ae]
        refine af (v := .bool false) rfl (ai rfl (ev rfl)) ?_
        simp only [Act.put, aa, ac, ae]
        refine ag (ah rfl rfl rfl rfl) (aj rfl (ev rfl) cD) ?_
        simp only [Act.put, aa, ac, ae]
        refine ag (ah rfl rfl rfl rfl) (aj rfl (ev rfl) faG2) ?_
        simp only [Act.put, aa, ac, ae]
        refine ag (ah rfl rfl rfl rfl) (aq rfl (ev rfl) (aW HXr.out)) ?_
        simp only [Act.put, aa, ac, ae]
        refine ag (ah rfl rfl rfl rfl) (aj rfl (ev rfl) cD) ?_
        simp only [Act.put, aa, ac, ae]
        refine ag (ah rfl rfl rfl rfl) (aj rfl (ev rfl) faG2) ?_
        simp only [Act.put, aa, ac, ae]
        refine ag (ah rfl rfl rfl rfl) (aq rfl (ev rfl) (aW HYr.out)) ?_
        simp only [Act.put, aa, ac, ae]
        refine ag (v := .bool true) (ah rfl rfl rfl rfl) (ay true rfl (ev rfl) (ev rfl) HDr.out) ?_
        simp only [Act.put, aa, ac, ae]
        refine af (v := .bool true) rfl (aB rfl (ev rfl) (ev rfl)) ?_
        simp only [Act.put, aa, ac, ae]
        refine aF 5 (v := .bool true) rfl (ai rfl (ev rfl)) (by kernel_rfl) ?_
        simp only [aY, List.take_succ_cons, List.take_zero, List.drop_succ_cons, List.drop_zero, Act.put, List.setIfInBounds_toArray, List.set_cons_succ, List.set_cons_zero]
        refine af (v := .bool true) rfl (aJ rfl (ev rfl) evk) ?_
        simp only [Act.put, aa, ac, ae]
        refine aF 5 (v := .bool true) rfl (ai rfl (ev rfl)) (by kernel_rfl) ?_
        simp only [aY, List.take_succ_cons, List.take_zero, List.drop_succ_cons, List.drop_zero, Act.put, List.setIfInBounds_toArray, List.set_cons_succ, List.set_cons_zero]
        refine af (v := .bool true) rfl (aJ rfl (ev rfl) evk) ?_
        simp only [Act.put, aa, ac, ae]
        refine wpList_nil ?_
        go_wp2_with fail
        go_ret
        exact ⟨by rw [HNE.out]; rfl, HB.out⟩
    · have HDs : Hid ((x.s != y.s) = true) := Lib.hid (by simpa using qs)
      have HNE : Hid (decide (x = y) = false) := Lib.hid (decide_eq_false (fun e : x = y => qs (by rw [e])))
      refine wp_region_lit ?_
      refine af rfl (aj rfl (ev rfl) cD) ?_
      simp only [Act.put, aa, ac, ae]
      refine af rfl (aj rfl (ev rfl) faG0) ?_
      simp only [Act.put, aa, ac, ae]
      refine af rfl (aq rfl (ev rfl) (aW HXm.out)) ?_
      simp only [Act.put, aa, ac, ae]
      refine af rfl (aj rfl (ev rfl) cD) ?_
      simp only [Act.put, aa, ac, ae]
      refine af rfl (aj rfl (ev rfl) faG0) ?_
      simp only [Act.put, aa, ac, ae]
      refine af rfl (aq rfl (ev rfl) (aW HYm.out)) ?_
      simp only [Act.put, aa, ac, ae]
      refine af (v := .bool false) rfl (ay false rfl (ev rfl) (ev rfl) HDm.out) ?_
      simp only [Act.put, aa, ac, ae]
      refine af (v := .bool false) rfl (ai rfl (ev rfl)) ?_
      simp only [Act.put, aa, ac, ae]
      refine ag (ah rfl rfl rfl rfl) (aj rfl (ev rfl) cD) ?_
      simp only [Act.put, aa, ac, ae]
      refine ag (ah rfl rfl rfl rfl) (aj rfl (ev rfl) faG1) ?_
      simp only [Act.put, aa, ac, ae]
      refine ag (ah rfl rfl rfl rfl) (aq rfl (ev rfl) (aW HXs.out)) ?_
      simp only [Act.put, aa, ac, ae]
      refine ag (ah rfl rfl rfl rfl) (aj rfl (ev rfl) cD) ?_
      simp only [Act.put, aa, ac, ae]
      refine ag (ah rfl rfl rfl rfl) (aj rfl (ev rfl) faG1) ?_
      simp only [Act.put, aa, ac, ae]
      refine ag (ah rfl rfl rfl rfl) (aq rfl (ev rfl) (aW HYs.out)) ?_
      simp only [Act.put, aa, ac, ae]
      refine ag (v := .bool true) (ah rfl rfl rfl rfl) (ay true rfl (ev rfl) (ev rfl) HDs.out) ?_
      simp only [Act.put, aa, ac, ae]
      refine af (v := .bool true) rfl (aB rfl (ev rfl) (ev rfl)) ?_
      simp only [Act.put, aa, ac, ae]
      refine aF 7 (v := .bool true) rfl (ai rfl (ev rfl)) (by kernel_rfl) ?_
      simp only [aY, List.take_succ_cons, List.take_zero, List.drop_succ_cons, List.drop_zero, Act.put, List.setIfInBounds_toArray, List.set_cons_succ, List.set_cons_zero]
      refine af (v := .bool true) rfl (aJ rfl (ev rfl) evk) ?_
      simp only [Act.put, aa, ac, ae]
      refine aF 5 (v := .bool true) rfl (ai rfl (ev rfl)) (by kernel_rfl) ?_
      simp only [aY, List.take_succ_cons, List.take_zero, List.drop_succ_cons, List.drop_zero, Act.put, List.setIfInBounds_toArray, List.set_cons_succ, List.set_cons_zero]
      refine af (v := .bool true) rfl (aJ rfl (ev rfl) evk) ?_
      simp only [Act.put, aa, ac, ae]
      refine aF 5 (v := .bool true) rfl (ai rfl (ev rfl)) (by kernel_rfl) ?_
      simp only [aY, List.take_succ_cons, List.take_zero, List.drop_succ_cons, List.drop_zero, Act.put, List.setIfInBounds_toArray, List.set_cons_succ, List.set_cons_zero]
      refine af (v := .bool true) rfl (aJ rfl (ev rfl) evk) ?_
      simp only [Act.put, aa, ac, ae]
      refine wpList_nil ?_
      go_wp2_with fail
      go_ret
      exact ⟨by rw [HNE.out]; rfl, HB.out⟩
  · have HDm : Hid ((x.m != y.m) = true) := Lib.hid (by simpa using qm)
    have HNE : Hid (decide (x = y) = false) := Lib.hid (decide_eq_false (fun e : x = y => qm (by rw [e])))
    refine wp_region_lit ?_
    refine af rfl (aj rfl (ev rfl) cD) ?_
    simp only [Act.put, aa, ac, ae]
    refine af rfl (aj rfl (ev rfl) faG0) ?_
    simp only [Act.put, aa, ac, ae]
    refine af rfl (aq rfl (ev rfl) (aW HXm.out)) ?_
    simp only [Act.put, aa, ac, ae]
    refine af rfl (aj rfl (ev rfl) cD) ?_
    simp only [Act.put, aa, ac, ae]
    refine af rfl (aj rfl (ev rfl) faG0) ?_
    simp only [Act.put, aa, ac, ae]
    refine af rfl (aq rfl (ev rfl) (aW HYm.out)) ?_
    simp only [Act.put, aa, ac, ae]
    refine af (v := .bool true) rfl (ay true rfl (ev rfl) (ev rfl) HDm.out) ?_
    simp only [Act.put, aa, ac, ae]
    refine aF 7 (v := .bool true) rfl (ai rfl (ev rfl)) (by kernel_rfl) ?_
    simp only [aY, List.take_succ_cons, List.take_zero, List.drop_succ_cons, List.drop_zero, Act.put, List.setIfInBounds_toArray, List.set_cons_succ, List.set_cons_zero]
    refine af (v := .bool true) rfl (aJ rfl (ev rfl) evk) ?_
    simp only [Act.put, aa, ac, ae]
    refine aF 7 (v := .bool true) rfl (ai rfl (ev rfl)) (by kernel_rfl) ?_
    simp only [aY, List.take_succ_cons, List.take_zero, List.drop_succ_cons, List.drop_zero, Act.put, List.setIfInBounds_toArray, List.set_cons_succ, List.set_cons_zero]
    refine af (v := .bool true) rfl (aJ rfl (ev rfl) evk) ?_
    simp only [Act.put, aa, ac, ae]
    refine aF 5 (v := .bool true) rfl (ai rfl (ev rfl)) (by kernel_rfl) ?_
    simp only [aY, List.take_succ_cons, List.take_zero, List.drop_succ_cons, List.drop_zero, Act.put, List.setIfInBounds_toArray, List.set_cons_succ, List.set_cons_zero]
    refine af (v := .bool true) rfl (aJ rfl (ev rfl) evk) ?_
    simp only [Act.put, aa, ac, ae]
    refine aF 5 (v := .bool true) rfl (ai rfl (ev rfl)) (by kernel_rfl) ?_
    simp only [aY, List.take_succ_cons, List.take_zero, List.drop_succ_cons, List.drop_zero, Act.put, List.setIfInBounds_toArray, List.set_cons_succ, List.set_cons_zero]
    refine af (v := .bool true) rfl (aJ rfl (ev rfl) evk) ?_
    simp only [Act.put, aa, ac, ae]
    refine wpList_nil ?_
    go_wp2_with fail
    go_ret
    exact ⟨by rw [HNE.out]; rfl, HB.out⟩
set_option maxHeartbeats 1000000 in
theorem pmember (x : Ros) (m : Int) (w : World) : Calls Tryz.prog 109 #[ros x, .int .i64 m] w fun e w' => e = .returned (.bool (hasM x m)) ∧ Below w.heap.size w w' := by
  obtain ⟨h1, h2, h3⟩ := cj w x
  have HR := Lib.hid h1
  have HB := Lib.hid h2
  have HC := Lib.hid h1.cells.1
  clear h1 h2 h3
  have HF : Hid (hasM x m = decide (0 ≤ m ∧ m < x.m)) := Lib.hid rfl
  go_enter Tryz.func109, Tryz.ntmps109
  go_upto_region 1 with (first | (refine af rfl (aP rfl rfl) ?_) | fail)
  generalize w.alloc (.cells (aH x).toArray 28) = w1 at *
  generalize x.m = k at *
  by_cases h0 : 0 ≤ m
  · have H0 : Hid (decide ((0 : Int) ≤ m) = true) := Lib.hid (decide_eq_true h0)
    by_cases h1 : m < k
    · have H1 : Hid (decide (m < k) = true) := Lib.hid (decide_eq_true h1)
      have HE : Hid (hasM x m = true) := Lib.hid (by rw [HF.out, decide_eq_true ⟨h0, h1⟩])
      clear h0 h1
      refine wp_region_lit ?_
      refine af rfl (ai rfl (ev rfl)) ?_
      simp only [Act.put, aa, ac, ae]
      refine af (v := .bool true) rfl (cl true rfl (ev rfl) evk H0.out) ?_
      simp only [Act.put, aa, ac, ae]
      refine af (v := .bool true) rfl (ai rfl (ev rfl)) ?_
      simp only [Act.put, aa, ac, ae]
      refine ag (ah rfl rfl rfl rfl) (ai rfl (ev rfl)) ?_
      simp only [Act.put, aa, ac, ae]
      refine ag (ah rfl rfl rfl rfl) (aj rfl (ev rfl) cD) ?_
      simp only [Act.put, aa, ac, ae]
      refine ag (ah rfl rfl rfl rfl) (aj rfl (ev rfl) faG0) ?_
      simp only [Act.put, aa, ac, ae]
      refine ag (ah rfl rfl rfl rfl) (aq rfl (ev rfl) (aW HC.out)) ?_
      simp only [Act.put, aa, ac, ae]
      refine ag (v := .bool true) (ah rfl rfl rfl rfl) (bH true rfl (ev rfl) (ev rfl) H1.out) ?_
      simp only [Act.put, aa, ac, ae]
      refine af (v := .bool true) rfl (aJ rfl (ev rfl) (ev rfl)) ?_
      simp only [Act.put, aa, ac, ae]
      refine af (v := .bool true) rfl (ak rfl (ev rfl)) ?_
      simp only [Act.put, aa, ac, ae]
      refine wpList_nil ?_
      go_wp2_with fail
      go_ret
      exact ⟨aO (by rw [HE.out]), HB.out⟩
    · have H1 : Hid (decide (m < k) = false) := Lib.hid (decide_eq_false h1)
      have HE : Hid (hasM x m = false) := Lib.hid (by rw [HF.out, decide_eq_false (fun e => h1 e.2)])
      clear h0 h1
      refine wp_region_lit ?_
      refine af rfl (ai rfl (ev rfl)) ?_
      simp only [Act.put, aa, ac, ae]
      refine af (v := .bool true) rfl (cl true rfl (ev rfl) evk H0.out) ?_
      simp only [Act.put, aa, ac, ae]
      refine af (v := .bool true) rfl (ai rfl (ev rfl)) ?_
      simp only [Act.put, aa, ac, ae]
      refine ag (ah rfl rfl rfl rfl) (ai rfl (ev rfl)) ?_
      simp only [Act.put, aa, ac, ae]
      refine ag (ah rfl rfl rfl rfl) (aj rfl (ev rfl) cD) ?_
      simp only [Act.put, aa, ac, ae]
      refine ag (ah rfl rfl rfl rfl) (aj rfl (ev rfl) faG0) ?_
      simp only [Act.put, aa, ac, ae]
      refine ag (ah rfl rfl rfl rfl) (aq rfl (ev rfl) (aW HC.out)) ?_
      simp only [Act.put, aa, ac, ae]
      refine ag (v := .bool false) (ah rfl rfl rfl rfl) (bH false rfl (ev rfl) (ev rfl) H1.out) ?_
      simp only [Act.put, aa, ac, ae]
      refine af (v := .bool false) rfl (aJ rfl (ev rfl) (ev rfl)) ?_
      simp only [Act.put, aa, ac, ae]
      refine af (v := .bool false) rfl (ak rfl (ev rfl)) ?_
      simp only [Act.put, aa, ac, ae]
      refine wpList_nil ?_
      go_wp2_with fail
      go_ret
      exact ⟨aO (by rw [HE.out]), HB.out⟩
  · have H0 : Hid (decide ((0 : Int) ≤ m) = false) := Lib.hid (decide_eq_false h0)
    have HE : Hid (hasM x m = false) := Lib.hid (by rw [HF.out, decide_eq_false (fun e => h0 e.1)])
    clear h0
    refine wp_region_lit ?_
    refine af rfl (ai rfl (ev rfl)) ?_
    simp only [Act.put, aa, ac, ae]
    refine af (v := .bool false) rfl (cl false rfl (ev rfl) evk H0.out) ?_
    simp only [Act.put, aa, ac, ae]
    refine aF 5 (v := .bool false) rfl (ai rfl (ev rfl)) (by kernel_rfl) ?_
    simp only [aY, List.take_succ_cons, List.take_zero, List.drop_succ_cons, List.drop_zero, Act.put, List.setIfInBounds_toArray, List.set_cons_succ, List.set_cons_zero]
    refine af (v := .bool false) rfl (aB rfl (ev rfl) evk) ?_
    simp only [Act.put, aa, ac, ae]
    refine af (v := .bool false) rfl (ak rfl (ev rfl)) ?_
    simp only [Act.put, aa, ac, ae]
    refine wpList_nil ?_
    go_wp2_with fail
    go_ret
    exact ⟨aO (by rw [HE.out]), HB.out⟩
set_option maxHeartbeats 1000000 in
theorem pstripe (x : Ros) (m : Int) (w : World) : Calls Tryz.prog 112 #[ros x, .int .i64 m] w fun e w' => e = .returned (.bool (hasC x m)) ∧ Below w.heap.size w w' := by
  obtain ⟨h1, h2, h3⟩ := cj w x
  have HR := Lib.hid h1
  have HB := Lib.hid h2
  have HC := Lib.hid h1.cells.2.1
  clear h1 h2 h3
  have HF : Hid (hasC x m = decide (0 ≤ m ∧ m < x.s)) := Lib.hid rfl
  go_enter Tryz.func112, Tryz.ntmps112
  go_upto_region 1 with (first | (refine af rfl (aP rfl rfl) ?_) | fail)
  generalize w.alloc (.cells (aH x).toArray 28) = w1 at *
  generalize x.s = k at *
  by_cases h0 : 0 ≤ m
  · have H0 : Hid (decide ((0 : Int) ≤ m) = true) := Lib.hid (decide_eq_true h0)
    by_cases h1 : m < k
    · have H1 : Hid (decide (m < k) = true) := Lib.hid (decide_eq_true h1)
      have HE : Hid (hasC x m = true) := Lib.hid (by rw [HF.out, decide_eq_true ⟨h0, h1⟩])
      clear h0 h1
      refine wp_region_lit ?_
      refine af rfl (ai rfl (ev rfl)) ?_
      simp only [Act.put, aa, ac, ae]
      refine af (v := .bool true) rfl (cl true rfl (ev rfl) evk H0.out) ?_
      simp only [Act.put, aa, ac, ae]
      refine af (v := .bool true) rfl (ai rfl (ev rfl)) ?_
      simp only [Act.put, aa, ac, ae]
      refine ag (ah rfl rfl rfl rfl) (ai rfl (ev rfl)) ?_
      simp only [Act.put, aa, ac, ae]
      refine ag (ah rfl rfl rfl rfl) (aj rfl (ev rfl) cD) ?_
      simp only [Act.put, aa, ac, ae]
      refine ag (ah rfl rfl rfl rfl) (aj rfl (ev rfl) faG1) ?_
      simp only [Act.put, aa, ac, ae]
      refine ag (ah rfl rfl rfl rfl) (aq rfl (ev rfl) (aW HC.out)) ?_
      simp only [Act.put, aa, ac, ae]
      refine ag (v := .bool true) (ah rfl rfl rfl rfl) (bH true rfl (ev rfl) (ev rfl) H1.out) ?_
      simp only [Act.put, aa, ac, ae]
      refine af (v := .bool true) rfl (aJ rfl (ev rfl) (ev rfl)) ?_
      simp only [Act.put, aa, ac, ae]
      refine af (v := .bool true) rfl (ak rfl (ev rfl)) ?_
      simp only [Act.put, aa, ac, ae]
      refine wpList_nil ?_
      go_wp2_with fail
      go_ret
      exact ⟨aO (by rw [HE.out]), HB.out⟩
    · have H1 : Hid (decide (m < k) = false) := Lib.hid (decide_eq_false h1)
      have HE : Hid (hasC x m = false) := Lib.hid (by rw [HF.out, decide_eq_false (fun e => h1 e.2)])
      clear h0 h1
      refine wp_region_lit ?_
      refine af rfl (ai rfl (ev rfl)) ?_
      simp only [Act.put, aa, ac, ae]
      refine af (v := .bool true) rfl (cl true rfl (ev rfl) evk H0.out) ?_
      simp only [Act.put, aa, ac, ae]
      refine af (v := .bool true) rfl (ai rfl (ev rfl)) ?_
      simp only [Act.put, aa, ac, ae]
      refine ag (ah rfl rfl rfl rfl) (ai rfl (ev rfl)) ?_
      simp only [Act.put, aa, ac, ae]
      refine ag (ah rfl rfl rfl rfl) (aj rfl (ev rfl) cD) ?_
      simp only [Act.put, aa, ac, ae]
      refine ag (ah rfl rfl rfl rfl) (aj rfl (ev rfl) faG1) ?_
      simp only [Act.put, aa, ac, ae]
      refine ag (ah rfl rfl rfl rfl) (aq rfl (ev rfl) (aW HC.out)) ?_
      simp only [Act.put, aa, ac, ae]
      refine ag (v := .bool false) (ah rfl rfl rfl rfl) (bH false rfl (ev rfl) (ev rfl) H1.out) ?_
      simp only [Act.put, aa, ac, ae]
      refine af (v := .bool false) rfl (aJ rfl (ev rfl) (ev rfl)) ?_
      simp only [Act.put, aa, ac, ae]
      refine af (v := .bool false) rfl (ak rfl (ev rfl)) ?_
      simp only [Act.put, aa, ac, ae]
      refine wpList_nil ?_
      go_wp2_with fail
      go_ret
      exact ⟨aO (by rw [HE.out]), HB.out⟩
  · have H0 : Hid (decide ((0 : Int) ≤ m) = false) := Lib.hid (decide_eq_false h0)
    have HE : Hid (hasC x m = false) := Lib.hid (by rw [HF.out, decide_eq_false (fun e => h0 e.1)])
    clear h0
    refine wp_region_lit ?_
    refine af rfl (ai rfl (ev rfl)) ?_
    simp only [Act.put, aa, ac, ae]
    refine af (v := .bool false) rfl (cl false rfl (ev rfl) evk H0.out) ?_
    simp only [Act.put, aa, ac, ae]
    refine aF 5 (v := .bool false) rfl (ai rfl (ev rfl)) (by kernel_rfl) ?_
    simp only [aY, List.take_succ_cons, List.take_zero, List.drop_succ_cons, List.drop_zero, Act.put, List.setIfInBounds_toArray, List.set_cons_succ, List.set_cons_zero]
    refine af (v := .bool false) rfl (aB rfl (ev rfl) evk) ?_
    simp only [Act.put, aa, ac, ae]
    refine af (v := .bool false) rfl (ak rfl (ev rfl)) ?_
    simp only [Act.put, aa, ac, ae]
    refine wpList_nil ?_
    go_wp2_with fail
    go_ret
    exact ⟨aO (by rw [HE.out]), HB.out⟩
set_option maxHeartbeats 1000000 in
theorem pmany (x : Ros) (c : Int) (w : World) : Calls Tryz.prog 111 #[ros x, .int .u8 c] w fun e w' => e = .returned (.int .i64 (many x c : Nat)) ∧ Below w.heap.size w w' := by
  obtain ⟨h1, h2, h3⟩ := cj w x
  have HR := Lib.hid h1
  have HB := Lib.hid h2
  clear h1 h2 h3
  have HL := Lib.hid (stL_length x.st)
  have HH := Lib.hid (many_def x c)
  go_enter Tryz.func111, Tryz.ntmps111
  go_wp2_with (first | (refine af rfl (aP rfl rfl) ?_) | (refine af rfl (cY HL.out rfl rfl ?_) ?_; (with_reducible exact HR.out.sts)) | fail)
  generalize w.alloc (.cells (aH x).toArray 28) = w1 at *
  generalize x.st.toList = l at *
  go_loop [5, 10] (fun n i => ∃ j : Nat, j ≤ 16 ∧ i = .int .i64 j ∧ n = .int .i64 (cntK l c j : Nat)) (fun _ i => 16 - (intOf i).toNat)
  case atStart => exact ⟨0, Nat.zero_le _, rfl, rfl⟩
  case round =>
    obtain ⟨j, hj, rfl, rfl⟩ := hrel
    by_cases hlt : j < 16
    · have hs := Lib.hid (dY l c j)
      have hle := cntK_le l c j
      generalize cntK l c j = n at *
      by_cases h2 : bt l j = c
      · rw [if_pos h2] at hs
        have hd : (bt l j == c) = true := by simpa using h2
        clear h2
        go_wp2_with (first | (refine af rfl (cN (l := l) (j := j) HL.out hlt rfl rfl rfl) ?_) | fail)
        go_round
        case rel => exact ⟨j + 1, by omega, by go_num, by rw [hs.out]; go_num⟩
        case measure => simp [intOf]; omega
      · rw [if_neg h2] at hs
        have hd : (bt l j == c) = false := by simpa using h2
        clear h2
        go_wp2_with (first | (refine af rfl (cN (l := l) (j := j) HL.out hlt rfl rfl rfl) ?_) | fail)
        go_round
        case rel => exact ⟨j + 1, by omega, by go_num, by rw [hs.out, Nat.add_zero]⟩
        case measure => simp [intOf]; omega
    · have e : j = 16 := by omega
      subst e
      go_wp2
      go_ret
      exact ⟨by rw [HH.out]; rfl, HB.out⟩
set_option maxHeartbeats 1000000 in
theorem pcursor (x : Ros) (w : World) : Calls Tryz.prog 78 #[ros x] w fun e w' => e = .returned (.bool (curB x)) ∧ Below w.heap.size w w' := by
  obtain ⟨h1, h2, h3⟩ := cj w x
  have HR := Lib.hid h1
  have HB := Lib.hid h2
  have HZ := Lib.hid h3
  clear h1 h2 h3
  have HC : Hid (curB x = if many x 2 = 0 then decide (x.cur = 0) else hasC x x.cur) := Lib.hid (by rw [← eN]; rfl)
  go_enter Tryz.func78, Tryz.ntmps78
  go_wp2_with (first | (refine af rfl (aP rfl rfl) ?_) | (refine af rfl (aR (c := x) rfl rfl ?_) ?_; (with_reducible exact HR.out.range)) | fail)
  generalize w.alloc (.cells (aH x).toArray 28) = w1 at *
  refine (pmany x 2 w1).mono ?_
  rintro e w2 ⟨rfl, hb⟩
  have HR2 := Lib.hid (HR.out.below HZ.out hb)
  obtain ⟨c0, c1, c2, c3, c4⟩ := HR2.out.cells
  have HB2 := Lib.hid (HB.out.trans (hb.mono (Nat.le_of_lt HZ.out)))
  have HZ2 := Lib.hid (aD HR2.out)
  clear hb
  by_cases h0 : many x 2 = 0
  · rw [if_pos h0] at HC
    rw [h0]
    go_wp2
    go_ret
    exact ⟨aO (by rw [HC.out, Bool.eq_iff_iff]; simp), HB2.out⟩
  · rw [if_neg h0] at HC
    have hd : ((many x 2 : Int) == 0) = false := by simp; omega
    clear h0
    generalize many x 2 = n at *
    go_wp2_with (first | (refine af rfl (aR (c := x) rfl rfl ?_) ?_; (with_reducible exact HR2.out.range)) | fail)
    refine (pstripe x x.cur w2).mono ?_
    rintro e w3 ⟨rfl, hb⟩
    have HB3 := Lib.hid (HB2.out.trans (hb.mono (Nat.le_of_lt HZ2.out)))
    clear hb
    go_wp2_with fail
    go_ret
    exact ⟨aO (by rw [HC.out]), HB3.out⟩
theorem stm_ok {x : Ros} (h1 : ∀ k, k < 16 → sta x k ≤ 2) (h2 : ∀ k : Nat, k < 16 → sta x k ≠ 0 → hasM x (k : Int) = true) : staB x = true :=
  staB_iff.2 ⟨h1, fun k hk hm => Classical.byContradiction fun h0 => by have := of_hasM (h2 k hk h0); omega⟩
theorem stm_big {x : Ros} {k : Nat} (hk : k < 16) (h : 2 < sta x k) : staB x = false := Bool.eq_false_iff.2 fun hs => by have := (of_staB hs).1 k hk; omega
theorem stm_far {x : Ros} {k : Nat} (hk : k < 16) (h0 : sta x k ≠ 0) (h : hasM x (k : Int) = false) : staB x = false := Bool.eq_false_iff.2 fun hs => by
  have h1 := of_decide_eq_false h
  exact h0 ((of_staB hs).2 k hk (by omega))
set_option maxHeartbeats 2000000 in
theorem pmstates (x : Ros) (w : World) : Calls Tryz.prog 77 #[ros x] w fun e w' => e = .returned (.bool (staB x && decide (cF x ≤ 1))) ∧ Below w.heap.size w w' := by
  obtain ⟨h1, h2, h3⟩ := cj w x
  have HR := Lib.hid h1
  have HB := Lib.hid h2
  have HZ := Lib.hid h3
  clear h1 h2 h3
  have HL := Lib.hid (stL_length x.st)
  have HOK : Hid ((∀ k, k < 16 → bt x.st.toList k ≤ 2) → (∀ k : Nat, k < 16 → bt x.st.toList k ≠ 0 → hasM x (k : Int) = true) → staB x = true) := Lib.hid stm_ok
  have HBIG : Hid (∀ k, k < 16 → 2 < bt x.st.toList k → staB x = false) := Lib.hid fun k => stm_big
  have HFAR : Hid (∀ k : Nat, k < 16 → bt x.st.toList k ≠ 0 → hasM x (k : Int) = false → staB x = false) := Lib.hid fun k => stm_far
  go_enter Tryz.func77, Tryz.ntmps77
  go_wp2_with (first | (refine af rfl (aP rfl rfl) ?_) | (refine af rfl (cY HL.out rfl rfl ?_) ?_; (with_reducible exact HR.out.sts)) | fail)
  generalize w.alloc (.cells (aH x).toArray 28) = w1 at *
  have hb0 := HB.out
  have hr0 := HR.out
  clear HB HR HZ
  go_loopw [7] (fun i wr => ∃ j : Nat, j ≤ 16 ∧ i = .int .i64 j ∧ Below w.heap.size w wr ∧ bl wr w.heap.size x ∧ (∀ k, k < j → bt x.st.toList k ≤ 2) ∧ (∀ k : Nat, k < j → bt x.st.toList k ≠ 0 → hasM x (k : Int) = true)) (fun i _ => 16 - (intOf i).toNat)
  case atStart => exact ⟨0, Nat.zero_le _, rfl, hb0, hr0, fun k hk => absurd hk (by omega), fun k hk => absurd hk (by omega)⟩
  case round =>
    clear hb0 hr0
    obtain ⟨j, hj, rfl, hb, hr, h1, h2⟩ := hrel
    have HB := Lib.hid hb
    have HR := Lib.hid hr
    have HZ := Lib.hid (aD hr)
    have HA1 := Lib.hid h1
    have HA2 := Lib.hid h2
    clear hb hr h1 h2
    by_cases hlt : j < 16
    · have HS : Hid (bt x.st.toList j ≤ 2 → ∀ k, k < j + 1 → bt x.st.toList k ≤ 2) := Lib.hid fun hv k hk => by
        by_cases e : k = j
        · rw [e]; exact hv
        · exact HA1.out k (by omega)
      have HT : Hid ((bt x.st.toList j ≠ 0 → hasM x (j : Int) = true) → ∀ k : Nat, k < j + 1 → bt x.st.toList k ≠ 0 → hasM x (k : Int) = true) := Lib.hid fun hv k hk h0 => by
        by_cases e : k = j
        · rw [e] at h0 ⊢; exact hv h0
        · exact HA2.out k (by omega) h0
      have HLO := Lib.hid (bt_lo x.st.toList j)
      have HG := Lib.hid (HBIG.out j hlt)
      have HFR := Lib.hid (HFAR.out j hlt)
      clear HOK HBIG HFAR HA1 HA2
      obtain ⟨v, hv⟩ : ∃ v, bt x.st.toList j = v := ⟨_, rfl⟩
      rw [hv] at HS HT HLO HG HFR
      have HV := Lib.hid hv
      clear hv
      by_cases v0 : v = 0
      · have HN1 := Lib.hid (HS.out (by omega))
        have HN2 := Lib.hid (HT.out (fun h => absurd v0 h))
        have d0 : (v == 0) = true := by simpa using v0
        clear v0
        go_wp2_with (first | (refine af rfl (cN (l := x.st.toList) (j := j) HL.out hlt rfl rfl rfl) ?_; rw [HV.out]) | fail)
        go_roundw
        case rel => exact ⟨j + 1, by omega, by go_num, HB.out, HR.out, HN1.out, HN2.out⟩
        case measure => simp [intOf]; omega
      · by_cases vb : 2 < v
        · have HF := Lib.hid (HG.out vb)
          have d0 : (v == 0) = false := by simp; omega
          have d1 : (v == 1) = false := by simp; omega
          have d2 : (v == 2) = false := by simp; omega
          clear v0 vb
          go_wp2_with (first | (refine af rfl (cN (l := x.st.toList) (j := j) HL.out hlt rfl rfl rfl) ?_; rw [HV.out]) | fail)
          go_ret
          exact ⟨aO (by rw [HF.out]; rfl), HB.out⟩
        · have HN1 := Lib.hid (HS.out (by omega))
          have HV0 := Lib.hid v0
          have d0 : (v == 0) = false := by simpa using v0
          obtain ⟨q, hq⟩ : ∃ q, hasM x (j : Int) = q := ⟨_, rfl⟩
          have HQ := Lib.hid hq
          rw [hq] at HT HFR
          clear hq
          have hv2 : v = 1 ∨ v = 2 := by have := HLO.out; omega
          rcases hv2 with e | e
          · have d1 : (v == 1) = true := by simpa using e
            clear e v0 vb
            go_wp2_with (first | (refine af rfl (cN (l := x.st.toList) (j := j) HL.out hlt rfl rfl rfl) ?_; rw [HV.out]) | (refine af rfl (aR (c := x) rfl rfl ?_) ?_; (with_reducible exact HR.out.range)) | fail)
            refine (pmember x (j : Int) wr).mono ?_
            rintro e w3 ⟨rfl, hb⟩
            rw [HQ.out]
            have HB3 := Lib.hid (HB.out.trans (hb.mono (Nat.le_of_lt HZ.out)))
            have HR3 := Lib.hid (HR.out.below HZ.out hb)
            clear hb HR HB HZ
            cases q
            · have HF := Lib.hid (HFR.out HV0.out rfl)
              go_wp2_with fail
              go_ret
              exact ⟨aO (by rw [HF.out]; rfl), HB3.out⟩
            · have HN2 := Lib.hid (HT.out (fun _ => rfl))
              go_wp2_with fail
              go_roundw
              case rel => exact ⟨j + 1, by omega, by go_num, HB3.out, HR3.out, HN1.out, HN2.out⟩
              case measure => simp [intOf]; omega
          · have d1 : (v == 1) = false := by simp; omega
            have d2 : (v == 2) = true := by simpa using e
            clear e v0 vb
            go_wp2_with (first | (refine af rfl (cN (l := x.st.toList) (j := j) HL.out hlt rfl rfl rfl) ?_; rw [HV.out]) | (refine af rfl (aR (c := x) rfl rfl ?_) ?_; (with_reducible exact HR.out.range)) | fail)
            refine (pmember x (j : Int) wr).mono ?_
            rintro e w3 ⟨rfl, hb⟩
            rw [HQ.out]
            have HB3 := Lib.hid (HB.out.trans (hb.mono (Nat.le_of_lt HZ.out)))
            have HR3 := Lib.hid (HR.out.below HZ.out hb)
            clear hb HR HB HZ
            cases q
            · have HF := Lib.hid (HFR.out HV0.out rfl)
              go_wp2_with fail
              go_ret
              exact ⟨aO (by rw [HF.out]; rfl), HB3.out⟩
            · have HN2 := Lib.hid (HT.out (fun _ => rfl))
              go_wp2_with fail
              go_roundw
              case rel => exact ⟨j + 1, by omega, by go_num, HB3.out, HR3.out, HN1.out, HN2.out⟩
              case measure => simp [intOf]; omega
    · have e : j = 16 := by omega
      subst e
      have HE := Lib.hid (HOK.out HA1.out HA2.out)
      clear HOK HBIG HFAR HA1 HA2 hlt hj
      go_wp2_with (first | (refine af rfl (aR (c := x) rfl rfl ?_) ?_; (with_reducible exact HR.out.range)) | fail)
      refine (pmany x 2 wr).mono ?_
      rintro e w3 ⟨rfl, hb⟩
      have HB3 := Lib.hid (HB.out.trans (hb.mono (Nat.le_of_lt HZ.out)))
      clear hb
      have hm := Lib.hid (eN x)
      generalize many x 2 = n at *
      go_wp2
      go_ret
      exact ⟨aO (by rw [HE.out, Bool.true_and, hm.out, decide_eq_decide]; omega), HB3.out⟩
set_option maxHeartbeats 2000000 in
theorem pmay (x : Ros) (w : World) : Calls Tryz.prog 35 #[ros x] w fun e w' => e = .returned (.bool (aS x)) ∧ Below w.heap.size w w' := by
  have HF := Lib.hid (fine_split x)
  obtain ⟨h1, h2, h3⟩ := cj w x
  have HR := Lib.hid h1
  have HB := Lib.hid h2
  have HZ := Lib.hid h3
  clear h1 h2 h3
  go_enter Tryz.func35, Tryz.ntmps35
  go_wp2_with (first | (refine af rfl (aP rfl rfl) ?_) | (refine af rfl (cR (c := x) rfl rfl ?_) ?_; (with_reducible exact HR.out.geo)) | fail)
  generalize w.alloc (.cells (aH x).toArray 28) = w1 at *
  refine (pgmay x w1).mono ?_
  rintro e w2 ⟨rfl, hb⟩
  have HR2 := Lib.hid (HR.out.below HZ.out hb)
  have HB2 := Lib.hid (HB.out.trans (hb.mono (Nat.le_of_lt HZ.out)))
  have HZ2 := Lib.hid (aD HR2.out)
  clear hb HR HB HZ
  generalize geoB x = g at *
  cases g
  · go_wp2_with fail
    go_ret
    exact ⟨aO (by rw [HF.out]; rfl), HB2.out⟩
  · go_wp2_with (first | (refine ag (by rfl) (aR (c := x) rfl rfl ?_) ?_; (with_reducible exact HR2.out.range)) | fail)
    refine (pmstates x w2).mono ?_
    rintro e w3 ⟨rfl, hb⟩
    have HR3 := Lib.hid (HR2.out.below HZ2.out hb)
    have HB3 := Lib.hid (HB2.out.trans (hb.mono (Nat.le_of_lt HZ2.out)))
    have HZ3 := Lib.hid (aD HR3.out)
    clear hb HR2 HB2 HZ2
    generalize (staB x && decide (cF x ≤ 1)) = p at *
    cases p
    · go_wp2_with fail
      go_ret
      exact ⟨aO (by rw [HF.out]; rfl), HB3.out⟩
    · go_wp2_with (first | (refine ag (by rfl) (aR (c := x) rfl rfl ?_) ?_; (with_reducible exact HR3.out.range)) | fail)
      refine (pcursor x w3).mono ?_
      rintro e w4 ⟨rfl, hb⟩
      have HB4 := Lib.hid (HB3.out.trans (hb.mono (Nat.le_of_lt HZ3.out)))
      clear hb
      generalize curB x = q at *
      go_wp2_with fail
      go_ret
      exact ⟨aO (by rw [HF.out]; rfl), HB4.out⟩
set_option maxHeartbeats 1000000 in
theorem rmay (x : Ros) (w : World) : Calls Tryz.prog 38 #[ros x] w fun e w' => e = .returned (.bool (aS x)) ∧ Below w.heap.size w w' := by
  obtain ⟨h1, h2, h3⟩ := cj w x
  have HR := Lib.hid h1
  have HB := Lib.hid h2
  have HZ := Lib.hid h3
  clear h1 h2 h3
  go_enter Tryz.func38, Tryz.ntmps38
  go_wp2_with (first | (refine af rfl (aP rfl rfl) ?_) | (refine af rfl (aR (c := x) rfl rfl ?_) ?_; (with_reducible exact HR.out.range)) | fail)
  generalize w.alloc (.cells (aH x).toArray 28) = w1 at *
  refine (rfine x w1).mono ?_
  rintro e w2 ⟨rfl, hb⟩
  have HB2 := Lib.hid (HB.out.trans (hb.mono (Nat.le_of_lt HZ.out)))
  clear hb
  go_wp2_with fail
  go_ret
  exact ⟨rfl, HB2.out⟩
def setW (w : World) (b o : Nat) (v : Value) : World := w.setCell ⟨b, o, none⟩ v
def putW (w : World) (b : Nat) (x : Ros) : World := w.setCells b 0 (aH x)
section
variable {w w0 : World} {b k o : Nat} {v : Value} {x y : Ros}
theorem setW_below {B : Nat} (h : Below B w0 w) (hb : B ≤ b) : Below B w0 (setW w b o v) := below_setCells h hb [v]
theorem setW_off (hne : k ≠ b) : (setW w b o v).heap[k]? = w.heap[k]? := heap_setCell_other w ⟨b, o, none⟩ k v hne
theorem putW_size : (putW w b x).heap.size = w.heap.size := (ed b _ 0 w).1
theorem eJ {B : Nat} (h : Below B w0 w) (hb : B ≤ b) : Below B w0 (putW w b x) := below_setCells h hb _
theorem putW_off (hne : k ≠ b) : (putW w b x).heap[k]? = w.heap[k]? := dM b _ 0 w k hne
theorem putW_at (h : bl w b y) : bl (putW w b x) b x := by
  have h' : w.heap[b]? = some (.cells ([] ++ aH y ++ []).toArray 28 (0, 0)) := by rw [List.nil_append, List.append_nil]; exact h
  have := heap_put b 28 [] (aH x) (aH y) [] w (by rw [bc, bc]) h'
  rw [List.nil_append, List.append_nil] at this
  exact this
theorem celR_set (x : Ros) {j : Nat} (hj : j < 16) (u : UInt8) : (aH x).set (3 + j) (.int .u8 (u.toNat : Int)) = aH (setS x j u) := by
  rw [celR_eq x, celR_eq (setS x j u), setS_list]
  have e1 : cU (setS x j u) = cU x := rfl
  rw [e1, List.set_append_right _ _ (by simp [cU]), show 3 + j - (cU x).length = j from by simp [cU], List.set_append_left _ _ (by rw [aT]; simp; omega)]
  unfold vals
  rw [List.map_set]
  rfl
theorem celR_cur (x : Ros) (c : Int) : (aH x).set 19 (.int .i64 c) = aH (curS x c) := by
  rw [celR_eq x, celR_eq (curS x c)]
  have e1 : cU (curS x c) = cU x := rfl
  rw [e1, List.set_append_right _ _ (by simp [cU]), show 19 - (cU x).length = 16 from rfl, List.set_append_right _ _ (by rw [aT]; simp), show 16 - (vals x.st.toList).length = 0 from by rw [aT]; simp]
  rfl
theorem bl.setW (h : bl w b x) (hy : (aH x).set o v = aH y) : bl (setW w b o v) b y := by
  have := heap_setCell_same w b o _ 28 v h
  rw [List.setIfInBounds_toArray, hy] at this
  exact this
theorem bl.there (h : bl w b x) {o n : Nat} (hn : o + n ≤ 21) : w.there b o n := ch h (by rw [bc]; exact hn)
end
section
variable {ρ : Operand → Value} {o : Oper} {x y : Operand} {w : World} {b off : Nat} {c d : Ros}
theorem cM (ho : o.op = .store 28 x y) (hx : ρ x = .pointer (some ⟨b, 0, none⟩)) (hy : ρ y = ros c) (h : bl w b d) : (execOp ρ o).run Tryz.prog w = .ok .skip (putW w b c) :=
  eD (by rw [bc]; exact sizeR) (celR_one c) ho hx hy (by rw [bc]; exact h.there (by omega))
theorem there1 (h : w.there b off 1) : ∃ v, w.cell? ⟨b, off, none⟩ = some v ∧ w.frozen? ⟨b, off, none⟩ = false := by
  have := h 0 (by omega)
  rw [Nat.add_zero] at this
  obtain ⟨h1, h2⟩ := this
  obtain ⟨v, hv⟩ := Option.isSome_iff_exists.1 h1
  exact ⟨v, hv, h2⟩
theorem exec_stS {u : Int} (ho : o.op = .store 5 x y) (hx : ρ x = .pointer (some ⟨b, off, none⟩)) (hy : ρ y = .int .u8 u) (h : w.there b off 1) : (execOp ρ o).run Tryz.prog w = .ok .skip (setW w b off (.int .u8 u)) := by
  obtain ⟨v, hc, hf⟩ := there1 h
  exact exec_st ho hx hy (by simp [go_sem, hc, hf, setW])
theorem exec_stI {u : Int} (ho : o.op = .store 3 x y) (hx : ρ x = .pointer (some ⟨b, off, none⟩)) (hy : ρ y = .int .i64 u) (h : w.there b off 1) : (execOp ρ o).run Tryz.prog w = .ok .skip (setW w b off (.int .i64 u)) := by
  obtain ⟨v, hc, hf⟩ := there1 h
  exact exec_st ho hx hy (by simp [go_sem, hc, hf, setW])
theorem aM (ho : o.op = .load 28 x) (hx : ρ x = .pointer (some ⟨b, 0, none⟩)) (h : bl w b c) : (execOp ρ o).run Tryz.prog w = .ok (.value (ros c)) w := aR ho hx h.range
theorem run_bldR0 (w : World) : (Instr.build 28 #[]).run Tryz.prog w = .ok (ros aZ) w := by kernel_rfl
theorem exec_bldR0 (ho : o.op = .build 28 #[]) : (execOp ρ o).run Tryz.prog w = .ok (.value (ros aZ)) w := exec_bld0 ho (run_bldR0 w)
theorem ldBo {ad : Addr} {n : Bool} (h : w.cell? ad = some (.bool n)) : (Instr.loadAt 4 (.pointer (some ad))).run Tryz.prog w = .ok (.bool n) w := by simp [go_sem, h]
theorem faR3 {b : Nat} : (Instr.fieldAt 28 (.pointer (some ⟨b, 0, none⟩)) 3).run Tryz.prog w = .ok (.pointer (some ⟨b, 20, none⟩)) w := by kernel_rfl
theorem res_rt {fn : Func} {p u : Tmp} (h : fn.results = #[.cell p 28, .tmp u]) (tmps : Array Value) (w : World) (b : Nat) (hp : tmps.getD p undef = .pointer (some ⟨b, 0, none⟩)) (hc : bl w b c) :
    (results fn tmps).run Tryz.prog w = .ok (.tuple #[ros c, tmps.getD u undef]) w := by
  have hl : (loadVar 28 ⟨b, 0, none⟩).run Tryz.prog w = .ok (ros c) w := run_loadVar_mid w b 0 28 (aH c) _ hc.range Tryz.underlying28 rfl (by rw [bc]; exact sizeR)
  have hp' : tmps[p]?.getD undef = .pointer (some ⟨b, 0, none⟩) := by simpa using hp
  simp [results, h, hp', asAddr, hl]
end
structure TwoR (w0 w : World) (x y : Ros) : Prop where
  bel : Below w0.heap.size w0 w
  at0 : bl w w0.heap.size x
  at1 : bl w (w0.heap.size + 1) y
theorem TwoR.new (w : World) (x : Ros) : TwoR w ((w.alloc (.cells (aH x).toArray 28)).alloc (.cells (aH aZ).toArray 28)) x aZ := by
  refine ⟨((Below.refl _ w).alloc (Nat.le_refl _) _).alloc (by simp) _, (bl.new w x).past _, ?_⟩
  have := bl.new (w.alloc (.cells (aH x).toArray 28)) aZ
  rwa [World.size_alloc] at this
section
variable {w0 w w' : World} {x y z : Ros}
theorem TwoR.call (h : TwoR w0 w x y) (hb : Below w.heap.size w w') : TwoR w0 w' x y :=
  ⟨h.bel.trans (hb.mono h.bel.size), h.at0.below (aD h.at0) hb, h.at1.below (aD h.at1) hb⟩
theorem TwoR.put (h : TwoR w0 w x y) (z : Ros) : TwoR w0 (putW w (w0.heap.size + 1) z) x z :=
  ⟨eJ h.bel (by omega), (putW_off (by omega)).trans h.at0, putW_at h.at1⟩
theorem TwoR.set (h : TwoR w0 w x y) {o : Nat} {v : Value} (hy : (aH x).set o v = aH z) : TwoR w0 (setW w w0.heap.size o v) z y :=
  ⟨setW_below h.bel (Nat.le_refl _), h.at0.setW hy, (setW_off (by omega)).trans h.at1⟩
end
end Go.Proofs.YtnliphgjcaippaaGreatDoor
