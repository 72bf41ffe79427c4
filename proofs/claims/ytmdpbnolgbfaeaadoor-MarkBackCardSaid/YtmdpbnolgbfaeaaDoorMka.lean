/-
  The program's mark: which count, which mark may be; the slot. The document's.
-/
import Derived.Test.YtmdpbnolgbfaeaaDoorMrk
import Derived.Test.YtmdpbnolgbfaeaaDoorSkip
import Derived.Deep.DeepCutAuto
namespace Go.Proofs.YtmdpbnolgbfaeaaDoor
open Go.RowKit
set_option linter.unusedVariables false
set_option linter.unusedSimpArgs false
set_option maxRecDepth 100000

section
variable {w : World} {b : Nat}
theorem faM0 : (Instr.fieldAt 24 (.pointer (some ⟨b, 0, none⟩)) 0).run Tryd.prog w = .ok (.pointer (some ⟨b, 0, none⟩)) w := by kernel_rfl
theorem faM1 : (Instr.fieldAt 24 (.pointer (some ⟨b, 0, none⟩)) 1).run Tryd.prog w = .ok (.pointer (some ⟨b, 1, none⟩)) w := by kernel_rfl
theorem faM2 : (Instr.fieldAt 24 (.pointer (some ⟨b, 0, none⟩)) 2).run Tryd.prog w = .ok (.pointer (some ⟨b, 2, none⟩)) w := by kernel_rfl
theorem faM3 : (Instr.fieldAt 24 (.pointer (some ⟨b, 0, none⟩)) 3).run Tryd.prog w = .ok (.pointer (some ⟨b, 3, none⟩)) w := by kernel_rfl
end
def ringB (r : Int) : Bool := decide (40 ≤ r ∧ r ≤ 256)
theorem of_ringB {r : Int} (h : ringB r = true) : 40 ≤ r ∧ r ≤ 256 := of_decide_eq_true h
theorem no_ringB {r : Int} (h : ringB r = false) : ¬ (40 ≤ r ∧ r ≤ 256) := of_decide_eq_false h
theorem pcount (n : Nat) (w : World) : Calls Tryd.prog 19 #[.int .u64 n] w fun e w' => e = .returned (.bool (evB n)) ∧ w = w' := by
  by_cases h : 1 ≤ n
  · go_enter Tryd.func19, Tryd.ntmps19
    go_wp2
    go_ret
    refine ⟨ret_bool ?_, rfl⟩
    unfold evB
    rw [decide_eq_decide]
    omega
  · have h0 : n = 0 := by omega
    subst h0
    go_enter Tryd.func19, Tryd.ntmps19
    go_wp2
    go_ret
    exact ⟨rfl, rfl⟩
theorem pcount_b (n : Nat) (w : World) {b : Bool} (h : evB n = b) : Calls Tryd.prog 19 #[.int .u64 n] w fun e w' => e = .returned (.bool b) ∧ w = w' := by
  subst h
  exact pcount n w
theorem pcount_d (n : Nat) (w : World) {b : Bool} (h : evB n = b) : Calls Tryd.prog 19 #[.int .u64 n] w fun e w' => e = .returned (.bool b) ∧ Below w.heap.size w w' :=
  (pcount_b n w h).mono fun e w' ⟨he, hw⟩ => ⟨he, hw ▸ Below.refl _ _⟩
theorem pfirst (n : Nat) (w : World) : Calls Tryd.prog 24 #[.int .u64 n] w fun e w' => e = .returned (.bool (evB n)) ∧ w = w' := by
  by_cases h : 1 ≤ n
  · go_enter Tryd.func24, Tryd.ntmps24
    go_wp2
    go_ret
    refine ⟨ret_bool ?_, rfl⟩
    unfold evB
    rw [decide_eq_decide]
    omega
  · have h0 : n = 0 := by omega
    subst h0
    go_enter Tryd.func24, Tryd.ntmps24
    go_wp2
    go_ret
    exact ⟨rfl, rfl⟩
theorem pfirst_b (n : Nat) (w : World) {b : Bool} (h : evB n = b) : Calls Tryd.prog 24 #[.int .u64 n] w fun e w' => e = .returned (.bool b) ∧ w = w' := by
  subst h
  exact pfirst n w
theorem pfirst_d (n : Nat) (w : World) {b : Bool} (h : evB n = b) : Calls Tryd.prog 24 #[.int .u64 n] w fun e w' => e = .returned (.bool b) ∧ Below w.heap.size w w' :=
  (pfirst_b n w h).mono fun e w' ⟨he, hw⟩ => ⟨he, hw ▸ Below.refl _ _⟩
theorem pring (r : Int) (w : World) : Calls Tryd.prog 23 #[.int .i64 r] w fun e w' => e = .returned (.bool (ringB r)) ∧ w = w' := by
  by_cases h : 40 ≤ r
  · go_enter Tryd.func23, Tryd.ntmps23
    go_wp2
    go_ret
    refine ⟨ret_bool ?_, rfl⟩
    unfold ringB
    rw [decide_eq_decide]
    omega
  · go_enter Tryd.func23, Tryd.ntmps23
    go_wp2
    go_ret
    refine ⟨ret_bool ?_, rfl⟩
    unfold ringB
    exact (decide_eq_false (by omega)).symm
theorem pring_b (r : Int) (w : World) {b : Bool} (h : ringB r = b) : Calls Tryd.prog 23 #[.int .i64 r] w fun e w' => e = .returned (.bool b) ∧ w = w' := by
  subst h
  exact pring r w
theorem pmslot (n : Nat) (w : World) (hn : n < 18446744073709551616) : Calls Tryd.prog 11 #[.int .u64 n] w fun e w' => e = .returned (.int .i64 ((n % 2 : Nat) : Int)) ∧ w = w' := by
  go_enter Tryd.func11, Tryd.ntmps11
  go_wp2
  go_ret
  exact ⟨ret_int (by omega), rfl⟩
theorem rmslot (n : Nat) (w : World) (hn : n < 18446744073709551616) : Calls Tryd.prog 12 #[.int .u64 n] w fun e w' => e = .returned (.int .i64 ((n % 2 : Nat) : Int)) ∧ w = w' := by
  go_enter Tryd.func12, Tryd.ntmps12
  go_wp2
  go_ret
  exact ⟨ret_int (by omega), rfl⟩
set_option maxHeartbeats 2000000 in
theorem pmmay (m : Mrk) (w : World) : Calls Tryd.prog 9 #[mrk m] w fun e w' => e = .returned (.bool (mrkB m)) ∧ Below w.heap.size w w' := by
  obtain ⟨h1, h2, _⟩ := boxM_new w m
  have HM := Lib.hid h1
  have HB := Lib.hid h2
  clear h1 h2
  go_enter Tryd.func9, Tryd.ntmps9
  go_upto_region 1 with (first | (refine wpList_valn rfl (exec_boxM rfl rfl) ?_) | fail)
  generalize w.alloc (.cells (celM m).toArray 24) = w1 at *
  by_cases k0 : m.id = 0
  · have H0 : Hid (((m.id : Int) != 0) = false) := Lib.hid (by simp; omega)
    have HV : Hid (mrkB m = false) := Lib.hid (decide_eq_false (by omega))
    clear k0
    refine wp_region_lit ?_
    refine wpList_valn rfl (exec_faddr rfl (ev rfl) faM0) ?_
    simp only [Act.put, List.setIfInBounds_toArray, List.set_cons_succ, List.set_cons_zero]
    refine wpList_valn rfl (exec_ld rfl (ev rfl) (ldU64 HM.out.cells.1)) ?_
    simp only [Act.put, List.setIfInBounds_toArray, List.set_cons_succ, List.set_cons_zero]
    refine wpList_valn (v := .bool false) rfl (exec_neInt false rfl (ev rfl) evk H0.out) ?_
    simp only [Act.put, List.setIfInBounds_toArray, List.set_cons_succ, List.set_cons_zero]
    refine wpList_skips 3 (v := .bool false) rfl (exec_mv rfl (ev rfl)) (by kernel_rfl) ?_
    simp only [skipAct, List.take_succ_cons, List.take_zero, List.drop_succ_cons, List.drop_zero, Act.put, List.setIfInBounds_toArray, List.set_cons_succ, List.set_cons_zero]
    refine wpList_valn (v := .bool false) rfl (exec_pf rfl (ev rfl) evk) ?_
    simp only [Act.put, List.setIfInBounds_toArray, List.set_cons_succ, List.set_cons_zero]
    refine wpList_skips 3 (v := .bool false) rfl (exec_mv rfl (ev rfl)) (by kernel_rfl) ?_
    simp only [skipAct, List.take_succ_cons, List.take_zero, List.drop_succ_cons, List.drop_zero, Act.put, List.setIfInBounds_toArray, List.set_cons_succ, List.set_cons_zero]
    refine wpList_valn (v := .bool false) rfl (exec_pf rfl (ev rfl) evk) ?_
    simp only [Act.put, List.setIfInBounds_toArray, List.set_cons_succ, List.set_cons_zero]
    refine wpList_skips 3 (v := .bool false) rfl (exec_mv rfl (ev rfl)) (by kernel_rfl) ?_
    simp only [skipAct, List.take_succ_cons, List.take_zero, List.drop_succ_cons, List.drop_zero, Act.put, List.setIfInBounds_toArray, List.set_cons_succ, List.set_cons_zero]
    refine wpList_valn (v := .bool false) rfl (exec_pf rfl (ev rfl) evk) ?_
    simp only [Act.put, List.setIfInBounds_toArray, List.set_cons_succ, List.set_cons_zero]
    refine wpList_valn (v := .bool false) rfl (exec_as rfl (ev rfl)) ?_
    simp only [Act.put, List.setIfInBounds_toArray, List.set_cons_succ, List.set_cons_zero]
    refine wpList_nil ?_
    go_wp2_with fail
    go_ret
    exact ⟨ret_bool (by rw [HV.out]), HB.out⟩
  · have H0 : Hid (((m.id : Int) != 0) = true) := Lib.hid (by simp; omega)
    by_cases k1 : 40 ≤ m.ring ∧ m.ring ≤ 256
    · have H1 : Hid (ringB m.ring = true) := Lib.hid (decide_eq_true k1)
      by_cases k2 : 1 ≤ m.first ∧ m.first ≤ 4611686018427387904
      · have H2 : Hid (evB m.first = true) := Lib.hid (decide_eq_true k2)
        by_cases k3 : m.pos ≤ 4611686018427387904
        · have H3 : Hid (decide ((m.pos : Int) ≤ 4611686018427387904) = true) := Lib.hid (decide_eq_true (by omega))
          have HV : Hid (mrkB m = true) := Lib.hid (decide_eq_true (by omega))
          clear k0 k1 k2 k3
          refine wp_region_lit ?_
          refine wpList_valn rfl (exec_faddr rfl (ev rfl) faM0) ?_
          simp only [Act.put, List.setIfInBounds_toArray, List.set_cons_succ, List.set_cons_zero]
          refine wpList_valn rfl (exec_ld rfl (ev rfl) (ldU64 HM.out.cells.1)) ?_
          simp only [Act.put, List.setIfInBounds_toArray, List.set_cons_succ, List.set_cons_zero]
          refine wpList_valn (v := .bool true) rfl (exec_neInt true rfl (ev rfl) evk H0.out) ?_
          simp only [Act.put, List.setIfInBounds_toArray, List.set_cons_succ, List.set_cons_zero]
          refine wpList_valn (v := .bool true) rfl (exec_mv rfl (ev rfl)) ?_
          simp only [Act.put, List.setIfInBounds_toArray, List.set_cons_succ, List.set_cons_zero]
          refine wpList_val (wanted_of rfl rfl rfl rfl) (exec_faddr rfl (ev rfl) faM1) ?_
          simp only [Act.put, List.setIfInBounds_toArray, List.set_cons_succ, List.set_cons_zero]
          refine wpList_val (wanted_of rfl rfl rfl rfl) (exec_ld rfl (ev rfl) (ldInt HM.out.cells.2.1)) ?_
          simp only [Act.put, List.setIfInBounds_toArray, List.set_cons_succ, List.set_cons_zero]
          refine wpList_call (wanted_of rfl rfl rfl rfl) (exec_cl Tryd.call23 rfl (evc (ev rfl) evn)) ?_
          refine (pring_b m.ring _ H1.out).mono ?_
          rintro e w' ⟨rfl, rfl⟩
          refine ⟨_, rfl, ?_⟩
          simp only [Act.put, List.setIfInBounds_toArray, List.set_cons_succ, List.set_cons_zero]
          refine wpList_valn (v := .bool true) rfl (exec_pt rfl (ev rfl) (ev rfl)) ?_
          simp only [Act.put, List.setIfInBounds_toArray, List.set_cons_succ, List.set_cons_zero]
          refine wpList_valn (v := .bool true) rfl (exec_mv rfl (ev rfl)) ?_
          simp only [Act.put, List.setIfInBounds_toArray, List.set_cons_succ, List.set_cons_zero]
          refine wpList_val (wanted_of rfl rfl rfl rfl) (exec_faddr rfl (ev rfl) faM2) ?_
          simp only [Act.put, List.setIfInBounds_toArray, List.set_cons_succ, List.set_cons_zero]
          refine wpList_val (wanted_of rfl rfl rfl rfl) (exec_ld rfl (ev rfl) (ldU64 HM.out.cells.2.2.1)) ?_
          simp only [Act.put, List.setIfInBounds_toArray, List.set_cons_succ, List.set_cons_zero]
          refine wpList_call (wanted_of rfl rfl rfl rfl) (exec_cl Tryd.call24 rfl (evc (ev rfl) evn)) ?_
          refine (pfirst_b m.first _ H2.out).mono ?_
          rintro e w' ⟨rfl, rfl⟩
          refine ⟨_, rfl, ?_⟩
          simp only [Act.put, List.setIfInBounds_toArray, List.set_cons_succ, List.set_cons_zero]
          refine wpList_valn (v := .bool true) rfl (exec_pt rfl (ev rfl) (ev rfl)) ?_
          simp only [Act.put, List.setIfInBounds_toArray, List.set_cons_succ, List.set_cons_zero]
          refine wpList_valn (v := .bool true) rfl (exec_mv rfl (ev rfl)) ?_
          simp only [Act.put, List.setIfInBounds_toArray, List.set_cons_succ, List.set_cons_zero]
          refine wpList_val (wanted_of rfl rfl rfl rfl) (exec_faddr rfl (ev rfl) faM3) ?_
          simp only [Act.put, List.setIfInBounds_toArray, List.set_cons_succ, List.set_cons_zero]
          refine wpList_val (wanted_of rfl rfl rfl rfl) (exec_ld rfl (ev rfl) (ldU64 HM.out.cells.2.2.2)) ?_
          simp only [Act.put, List.setIfInBounds_toArray, List.set_cons_succ, List.set_cons_zero]
          refine wpList_val (v := .bool true) (wanted_of rfl rfl rfl rfl) (exec_leq true rfl (ev rfl) evk H3.out) ?_
          simp only [Act.put, List.setIfInBounds_toArray, List.set_cons_succ, List.set_cons_zero]
          refine wpList_valn (v := .bool true) rfl (exec_pt rfl (ev rfl) (ev rfl)) ?_
          simp only [Act.put, List.setIfInBounds_toArray, List.set_cons_succ, List.set_cons_zero]
          refine wpList_valn (v := .bool true) rfl (exec_as rfl (ev rfl)) ?_
          simp only [Act.put, List.setIfInBounds_toArray, List.set_cons_succ, List.set_cons_zero]
          refine wpList_nil ?_
          go_wp2_with fail
          go_ret
          exact ⟨ret_bool (by rw [HV.out]), HB.out⟩
        · have H3 : Hid (decide ((m.pos : Int) ≤ 4611686018427387904) = false) := Lib.hid (decide_eq_false (by omega))
          have HV : Hid (mrkB m = false) := Lib.hid (decide_eq_false (by omega))
          clear k0 k1 k2 k3
          refine wp_region_lit ?_
          refine wpList_valn rfl (exec_faddr rfl (ev rfl) faM0) ?_
          simp only [Act.put, List.setIfInBounds_toArray, List.set_cons_succ, List.set_cons_zero]
          refine wpList_valn rfl (exec_ld rfl (ev rfl) (ldU64 HM.out.cells.1)) ?_
          simp only [Act.put, List.setIfInBounds_toArray, List.set_cons_succ, List.set_cons_zero]
          refine wpList_valn (v := .bool true) rfl (exec_neInt true rfl (ev rfl) evk H0.out) ?_
          simp only [Act.put, List.setIfInBounds_toArray, List.set_cons_succ, List.set_cons_zero]
          refine wpList_valn (v := .bool true) rfl (exec_mv rfl (ev rfl)) ?_
          simp only [Act.put, List.setIfInBounds_toArray, List.set_cons_succ, List.set_cons_zero]
          refine wpList_val (wanted_of rfl rfl rfl rfl) (exec_faddr rfl (ev rfl) faM1) ?_
          simp only [Act.put, List.setIfInBounds_toArray, List.set_cons_succ, List.set_cons_zero]
          refine wpList_val (wanted_of rfl rfl rfl rfl) (exec_ld rfl (ev rfl) (ldInt HM.out.cells.2.1)) ?_
          simp only [Act.put, List.setIfInBounds_toArray, List.set_cons_succ, List.set_cons_zero]
          refine wpList_call (wanted_of rfl rfl rfl rfl) (exec_cl Tryd.call23 rfl (evc (ev rfl) evn)) ?_
          refine (pring_b m.ring _ H1.out).mono ?_
          rintro e w' ⟨rfl, rfl⟩
          refine ⟨_, rfl, ?_⟩
          simp only [Act.put, List.setIfInBounds_toArray, List.set_cons_succ, List.set_cons_zero]
          refine wpList_valn (v := .bool true) rfl (exec_pt rfl (ev rfl) (ev rfl)) ?_
          simp only [Act.put, List.setIfInBounds_toArray, List.set_cons_succ, List.set_cons_zero]
          refine wpList_valn (v := .bool true) rfl (exec_mv rfl (ev rfl)) ?_
          simp only [Act.put, List.setIfInBounds_toArray, List.set_cons_succ, List.set_cons_zero]
          refine wpList_val (wanted_of rfl rfl rfl rfl) (exec_faddr rfl (ev rfl) faM2) ?_
          simp only [Act.put, List.setIfInBounds_toArray, List.set_cons_succ, List.set_cons_zero]
          refine wpList_val (wanted_of rfl rfl rfl rfl) (exec_ld rfl (ev rfl) (ldU64 HM.out.cells.2.2.1)) ?_
          simp only [Act.put, List.setIfInBounds_toArray, List.set_cons_succ, List.set_cons_zero]
          refine wpList_call (wanted_of rfl rfl rfl rfl) (exec_cl Tryd.call24 rfl (evc (ev rfl) evn)) ?_
          refine (pfirst_b m.first _ H2.out).mono ?_
          rintro e w' ⟨rfl, rfl⟩
          refine ⟨_, rfl, ?_⟩
          simp only [Act.put, List.setIfInBounds_toArray, List.set_cons_succ, List.set_cons_zero]
          refine wpList_valn (v := .bool true) rfl (exec_pt rfl (ev rfl) (ev rfl)) ?_
          simp only [Act.put, List.setIfInBounds_toArray, List.set_cons_succ, List.set_cons_zero]
          refine wpList_valn (v := .bool true) rfl (exec_mv rfl (ev rfl)) ?_
          simp only [Act.put, List.setIfInBounds_toArray, List.set_cons_succ, List.set_cons_zero]
          refine wpList_val (wanted_of rfl rfl rfl rfl) (exec_faddr rfl (ev rfl) faM3) ?_
          simp only [Act.put, List.setIfInBounds_toArray, List.set_cons_succ, List.set_cons_zero]
          refine wpList_val (wanted_of rfl rfl rfl rfl) (exec_ld rfl (ev rfl) (ldU64 HM.out.cells.2.2.2)) ?_
          simp only [Act.put, List.setIfInBounds_toArray, List.set_cons_succ, List.set_cons_zero]
          refine wpList_val (v := .bool false) (wanted_of rfl rfl rfl rfl) (exec_leq false rfl (ev rfl) evk H3.out) ?_
          simp only [Act.put, List.setIfInBounds_toArray, List.set_cons_succ, List.set_cons_zero]
          refine wpList_valn (v := .bool false) rfl (exec_pt rfl (ev rfl) (ev rfl)) ?_
          simp only [Act.put, List.setIfInBounds_toArray, List.set_cons_succ, List.set_cons_zero]
          refine wpList_valn (v := .bool false) rfl (exec_as rfl (ev rfl)) ?_
          simp only [Act.put, List.setIfInBounds_toArray, List.set_cons_succ, List.set_cons_zero]
          refine wpList_nil ?_
          go_wp2_with fail
          go_ret
          exact ⟨ret_bool (by rw [HV.out]), HB.out⟩
      · have H2 : Hid (evB m.first = false) := Lib.hid (decide_eq_false k2)
        have HV : Hid (mrkB m = false) := Lib.hid (decide_eq_false (by omega))
        clear k0 k1 k2
        refine wp_region_lit ?_
        refine wpList_valn rfl (exec_faddr rfl (ev rfl) faM0) ?_
        simp only [Act.put, List.setIfInBounds_toArray, List.set_cons_succ, List.set_cons_zero]
        refine wpList_valn rfl (exec_ld rfl (ev rfl) (ldU64 HM.out.cells.1)) ?_
        simp only [Act.put, List.setIfInBounds_toArray, List.set_cons_succ, List.set_cons_zero]
        refine wpList_valn (v := .bool true) rfl (exec_neInt true rfl (ev rfl) evk H0.out) ?_
        simp only [Act.put, List.setIfInBounds_toArray, List.set_cons_succ, List.set_cons_zero]
        refine wpList_valn (v := .bool true) rfl (exec_mv rfl (ev rfl)) ?_
        simp only [Act.put, List.setIfInBounds_toArray, List.set_cons_succ, List.set_cons_zero]
        refine wpList_val (wanted_of rfl rfl rfl rfl) (exec_faddr rfl (ev rfl) faM1) ?_
        simp only [Act.put, List.setIfInBounds_toArray, List.set_cons_succ, List.set_cons_zero]
        refine wpList_val (wanted_of rfl rfl rfl rfl) (exec_ld rfl (ev rfl) (ldInt HM.out.cells.2.1)) ?_
        simp only [Act.put, List.setIfInBounds_toArray, List.set_cons_succ, List.set_cons_zero]
        refine wpList_call (wanted_of rfl rfl rfl rfl) (exec_cl Tryd.call23 rfl (evc (ev rfl) evn)) ?_
        refine (pring_b m.ring _ H1.out).mono ?_
        rintro e w' ⟨rfl, rfl⟩
        refine ⟨_, rfl, ?_⟩
        simp only [Act.put, List.setIfInBounds_toArray, List.set_cons_succ, List.set_cons_zero]
        refine wpList_valn (v := .bool true) rfl (exec_pt rfl (ev rfl) (ev rfl)) ?_
        simp only [Act.put, List.setIfInBounds_toArray, List.set_cons_succ, List.set_cons_zero]
        refine wpList_valn (v := .bool true) rfl (exec_mv rfl (ev rfl)) ?_
        simp only [Act.put, List.setIfInBounds_toArray, List.set_cons_succ, List.set_cons_zero]
        refine wpList_val (wanted_of rfl rfl rfl rfl) (exec_faddr rfl (ev rfl) faM2) ?_
        simp only [Act.put, List.setIfInBounds_toArray, List.set_cons_succ, List.set_cons_zero]
        refine wpList_val (wanted_of rfl rfl rfl rfl) (exec_ld rfl (ev rfl) (ldU64 HM.out.cells.2.2.1)) ?_
        simp only [Act.put, List.setIfInBounds_toArray, List.set_cons_succ, List.set_cons_zero]
        refine wpList_call (wanted_of rfl rfl rfl rfl) (exec_cl Tryd.call24 rfl (evc (ev rfl) evn)) ?_
        refine (pfirst_b m.first _ H2.out).mono ?_
        rintro e w' ⟨rfl, rfl⟩
        refine ⟨_, rfl, ?_⟩
        simp only [Act.put, List.setIfInBounds_toArray, List.set_cons_succ, List.set_cons_zero]
        refine wpList_valn (v := .bool false) rfl (exec_pt rfl (ev rfl) (ev rfl)) ?_
        simp only [Act.put, List.setIfInBounds_toArray, List.set_cons_succ, List.set_cons_zero]
        refine wpList_skips 3 (v := .bool false) rfl (exec_mv rfl (ev rfl)) (by kernel_rfl) ?_
        simp only [skipAct, List.take_succ_cons, List.take_zero, List.drop_succ_cons, List.drop_zero, Act.put, List.setIfInBounds_toArray, List.set_cons_succ, List.set_cons_zero]
        refine wpList_valn (v := .bool false) rfl (exec_pf rfl (ev rfl) evk) ?_
        simp only [Act.put, List.setIfInBounds_toArray, List.set_cons_succ, List.set_cons_zero]
        refine wpList_valn (v := .bool false) rfl (exec_as rfl (ev rfl)) ?_
        simp only [Act.put, List.setIfInBounds_toArray, List.set_cons_succ, List.set_cons_zero]
        refine wpList_nil ?_
        go_wp2_with fail
        go_ret
        exact ⟨ret_bool (by rw [HV.out]), HB.out⟩
    · have H1 : Hid (ringB m.ring = false) := Lib.hid (decide_eq_false k1)
      have HV : Hid (mrkB m = false) := Lib.hid (decide_eq_false (by omega))
      clear k0 k1
      refine wp_region_lit ?_
      refine wpList_valn rfl (exec_faddr rfl (ev rfl) faM0) ?_
      simp only [Act.put, List.setIfInBounds_toArray, List.set_cons_succ, List.set_cons_zero]
      refine wpList_valn rfl (exec_ld rfl (ev rfl) (ldU64 HM.out.cells.1)) ?_
      simp only [Act.put, List.setIfInBounds_toArray, List.set_cons_succ, List.set_cons_zero]
      refine wpList_valn (v := .bool true) rfl (exec_neInt true rfl (ev rfl) evk H0.out) ?_
      simp only [Act.put, List.setIfInBounds_toArray, List.set_cons_succ, List.set_cons_zero]
      refine wpList_valn (v := .bool true) rfl (exec_mv rfl (ev rfl)) ?_
      simp only [Act.put, List.setIfInBounds_toArray, List.set_cons_succ, List.set_cons_zero]
      refine wpList_val (wanted_of rfl rfl rfl rfl) (exec_faddr rfl (ev rfl) faM1) ?_
      simp only [Act.put, List.setIfInBounds_toArray, List.set_cons_succ, List.set_cons_zero]
      refine wpList_val (wanted_of rfl rfl rfl rfl) (exec_ld rfl (ev rfl) (ldInt HM.out.cells.2.1)) ?_
      simp only [Act.put, List.setIfInBounds_toArray, List.set_cons_succ, List.set_cons_zero]
      refine wpList_call (wanted_of rfl rfl rfl rfl) (exec_cl Tryd.call23 rfl (evc (ev rfl) evn)) ?_
      refine (pring_b m.ring _ H1.out).mono ?_
      rintro e w' ⟨rfl, rfl⟩
      refine ⟨_, rfl, ?_⟩
      simp only [Act.put, List.setIfInBounds_toArray, List.set_cons_succ, List.set_cons_zero]
      refine wpList_valn (v := .bool false) rfl (exec_pt rfl (ev rfl) (ev rfl)) ?_
      simp only [Act.put, List.setIfInBounds_toArray, List.set_cons_succ, List.set_cons_zero]
      refine wpList_skips 3 (v := .bool false) rfl (exec_mv rfl (ev rfl)) (by kernel_rfl) ?_
      simp only [skipAct, List.take_succ_cons, List.take_zero, List.drop_succ_cons, List.drop_zero, Act.put, List.setIfInBounds_toArray, List.set_cons_succ, List.set_cons_zero]
      refine wpList_valn (v := .bool false) rfl (exec_pf rfl (ev rfl) evk) ?_
      simp only [Act.put, List.setIfInBounds_toArray, List.set_cons_succ, List.set_cons_zero]
      refine wpList_skips 3 (v := .bool false) rfl (exec_mv rfl (ev rfl)) (by kernel_rfl) ?_
      simp only [skipAct, List.take_succ_cons, List.take_zero, List.drop_succ_cons, List.drop_zero, Act.put, List.setIfInBounds_toArray, List.set_cons_succ, List.set_cons_zero]
      refine wpList_valn (v := .bool false) rfl (exec_pf rfl (ev rfl) evk) ?_
      simp only [Act.put, List.setIfInBounds_toArray, List.set_cons_succ, List.set_cons_zero]
      refine wpList_valn (v := .bool false) rfl (exec_as rfl (ev rfl)) ?_
      simp only [Act.put, List.setIfInBounds_toArray, List.set_cons_succ, List.set_cons_zero]
      refine wpList_nil ?_
      go_wp2_with fail
      go_ret
      exact ⟨ret_bool (by rw [HV.out]), HB.out⟩
set_option maxHeartbeats 2000000 in
theorem rmmay (m : Mrk) (w : World) : Calls Tryd.prog 10 #[mrk m] w fun e w' => e = .returned (.bool (mrkB m)) ∧ Below w.heap.size w w' := by
  obtain ⟨h1, h2, _⟩ := boxM_new w m
  have HM := Lib.hid h1
  have HB := Lib.hid h2
  clear h1 h2
  go_enter Tryd.func10, Tryd.ntmps10
  go_upto_region 1 with (first | (refine wpList_valn rfl (exec_boxM rfl rfl) ?_) | fail)
  generalize w.alloc (.cells (celM m).toArray 24) = w1 at *
  by_cases k0 : ¬ m.id = 0
  · have H0 : Hid (((m.id : Int) != 0) = true) := Lib.hid (by simp; omega)
    by_cases k1 : 40 ≤ m.ring
    · have H1 : Hid (decide ((40 : Int) ≤ m.ring) = true) := Lib.hid (decide_eq_true (by omega))
      by_cases k2 : m.ring ≤ 256
      · have H2 : Hid (decide (m.ring ≤ (256 : Int)) = true) := Lib.hid (decide_eq_true (by omega))
        by_cases k3 : 1 ≤ m.first
        · have H3 : Hid (decide ((1 : Int) ≤ (m.first : Int)) = true) := Lib.hid (decide_eq_true (by omega))
          by_cases k4 : m.first ≤ 4611686018427387904
          · have H4 : Hid (decide ((m.first : Int) ≤ 4611686018427387904) = true) := Lib.hid (decide_eq_true (by omega))
            by_cases k5 : m.pos ≤ 4611686018427387904
            · have H5 : Hid (decide ((m.pos : Int) ≤ 4611686018427387904) = true) := Lib.hid (decide_eq_true (by omega))
              have HV : Hid (mrkB m = true) := Lib.hid (decide_eq_true (by omega))
              clear k0 k1 k2 k3 k4 k5
              refine wp_region_lit ?_
              refine wpList_valn rfl (exec_faddr rfl (ev rfl) faM0) ?_
              simp only [Act.put, List.setIfInBounds_toArray, List.set_cons_succ, List.set_cons_zero]
              refine wpList_valn rfl (exec_ld rfl (ev rfl) (ldU64 HM.out.cells.1)) ?_
              simp only [Act.put, List.setIfInBounds_toArray, List.set_cons_succ, List.set_cons_zero]
              refine wpList_valn (v := .bool true) rfl (exec_neInt true rfl (ev rfl) evk H0.out) ?_
              simp only [Act.put, List.setIfInBounds_toArray, List.set_cons_succ, List.set_cons_zero]
              refine wpList_valn (v := .bool true) rfl (exec_mv rfl (ev rfl)) ?_
              simp only [Act.put, List.setIfInBounds_toArray, List.set_cons_succ, List.set_cons_zero]
              refine wpList_val (wanted_of rfl rfl rfl rfl) (exec_faddr rfl (ev rfl) faM1) ?_
              simp only [Act.put, List.setIfInBounds_toArray, List.set_cons_succ, List.set_cons_zero]
              refine wpList_val (wanted_of rfl rfl rfl rfl) (exec_ld rfl (ev rfl) (ldInt HM.out.cells.2.1)) ?_
              simp only [Act.put, List.setIfInBounds_toArray, List.set_cons_succ, List.set_cons_zero]
              refine wpList_val (v := .bool true) (wanted_of rfl rfl rfl rfl) (exec_geq true rfl (ev rfl) evk H1.out) ?_
              simp only [Act.put, List.setIfInBounds_toArray, List.set_cons_succ, List.set_cons_zero]
              refine wpList_valn (v := .bool true) rfl (exec_pt rfl (ev rfl) (ev rfl)) ?_
              simp only [Act.put, List.setIfInBounds_toArray, List.set_cons_succ, List.set_cons_zero]
              refine wpList_valn (v := .bool true) rfl (exec_mv rfl (ev rfl)) ?_
              simp only [Act.put, List.setIfInBounds_toArray, List.set_cons_succ, List.set_cons_zero]
              refine wpList_val (wanted_of rfl rfl rfl rfl) (exec_faddr rfl (ev rfl) faM1) ?_
              simp only [Act.put, List.setIfInBounds_toArray, List.set_cons_succ, List.set_cons_zero]
              refine wpList_val (wanted_of rfl rfl rfl rfl) (exec_ld rfl (ev rfl) (ldInt HM.out.cells.2.1)) ?_
              simp only [Act.put, List.setIfInBounds_toArray, List.set_cons_succ, List.set_cons_zero]
              refine wpList_val (v := .bool true) (wanted_of rfl rfl rfl rfl) (exec_leq true rfl (ev rfl) evk H2.out) ?_
              simp only [Act.put, List.setIfInBounds_toArray, List.set_cons_succ, List.set_cons_zero]
              refine wpList_valn (v := .bool true) rfl (exec_pt rfl (ev rfl) (ev rfl)) ?_
              simp only [Act.put, List.setIfInBounds_toArray, List.set_cons_succ, List.set_cons_zero]
              refine wpList_valn (v := .bool true) rfl (exec_mv rfl (ev rfl)) ?_
              simp only [Act.put, List.setIfInBounds_toArray, List.set_cons_succ, List.set_cons_zero]
              refine wpList_val (wanted_of rfl rfl rfl rfl) (exec_faddr rfl (ev rfl) faM2) ?_
              simp only [Act.put, List.setIfInBounds_toArray, List.set_cons_succ, List.set_cons_zero]
              refine wpList_val (wanted_of rfl rfl rfl rfl) (exec_ld rfl (ev rfl) (ldU64 HM.out.cells.2.2.1)) ?_
              simp only [Act.put, List.setIfInBounds_toArray, List.set_cons_succ, List.set_cons_zero]
              refine wpList_val (v := .bool true) (wanted_of rfl rfl rfl rfl) (exec_geq true rfl (ev rfl) evk H3.out) ?_
              simp only [Act.put, List.setIfInBounds_toArray, List.set_cons_succ, List.set_cons_zero]
              refine wpList_valn (v := .bool true) rfl (exec_pt rfl (ev rfl) (ev rfl)) ?_
              simp only [Act.put, List.setIfInBounds_toArray, List.set_cons_succ, List.set_cons_zero]
              refine wpList_valn (v := .bool true) rfl (exec_mv rfl (ev rfl)) ?_
              simp only [Act.put, List.setIfInBounds_toArray, List.set_cons_succ, List.set_cons_zero]
              refine wpList_val (wanted_of rfl rfl rfl rfl) (exec_faddr rfl (ev rfl) faM2) ?_
              simp only [Act.put, List.setIfInBounds_toArray, List.set_cons_succ, List.set_cons_zero]
              refine wpList_val (wanted_of rfl rfl rfl rfl) (exec_ld rfl (ev rfl) (ldU64 HM.out.cells.2.2.1)) ?_
              simp only [Act.put, List.setIfInBounds_toArray, List.set_cons_succ, List.set_cons_zero]
              refine wpList_val (v := .bool true) (wanted_of rfl rfl rfl rfl) (exec_leq true rfl (ev rfl) evk H4.out) ?_
              simp only [Act.put, List.setIfInBounds_toArray, List.set_cons_succ, List.set_cons_zero]
              refine wpList_valn (v := .bool true) rfl (exec_pt rfl (ev rfl) (ev rfl)) ?_
              simp only [Act.put, List.setIfInBounds_toArray, List.set_cons_succ, List.set_cons_zero]
              refine wpList_valn (v := .bool true) rfl (exec_mv rfl (ev rfl)) ?_
              simp only [Act.put, List.setIfInBounds_toArray, List.set_cons_succ, List.set_cons_zero]
              refine wpList_val (wanted_of rfl rfl rfl rfl) (exec_faddr rfl (ev rfl) faM3) ?_
              simp only [Act.put, List.setIfInBounds_toArray, List.set_cons_succ, List.set_cons_zero]
              refine wpList_val (wanted_of rfl rfl rfl rfl) (exec_ld rfl (ev rfl) (ldU64 HM.out.cells.2.2.2)) ?_
              simp only [Act.put, List.setIfInBounds_toArray, List.set_cons_succ, List.set_cons_zero]
              refine wpList_val (v := .bool true) (wanted_of rfl rfl rfl rfl) (exec_leq true rfl (ev rfl) evk H5.out) ?_
              simp only [Act.put, List.setIfInBounds_toArray, List.set_cons_succ, List.set_cons_zero]
              refine wpList_valn (v := .bool true) rfl (exec_pt rfl (ev rfl) (ev rfl)) ?_
              simp only [Act.put, List.setIfInBounds_toArray, List.set_cons_succ, List.set_cons_zero]
              refine wpList_valn (v := .bool true) rfl (exec_as rfl (ev rfl)) ?_
              simp only [Act.put, List.setIfInBounds_toArray, List.set_cons_succ, List.set_cons_zero]
              refine wpList_nil ?_
              go_wp2_with fail
              go_ret
              exact ⟨ret_bool (by rw [HV.out]), HB.out⟩
            · have H5 : Hid (decide ((m.pos : Int) ≤ 4611686018427387904) = false) := Lib.hid (decide_eq_false (by omega))
              have HV : Hid (mrkB m = false) := Lib.hid (decide_eq_false (by omega))
              clear k0 k1 k2 k3 k4 k5
              refine wp_region_lit ?_
              refine wpList_valn rfl (exec_faddr rfl (ev rfl) faM0) ?_
              simp only [Act.put, List.setIfInBounds_toArray, List.set_cons_succ, List.set_cons_zero]
              refine wpList_valn rfl (exec_ld rfl (ev rfl) (ldU64 HM.out.cells.1)) ?_
              simp only [Act.put, List.setIfInBounds_toArray, List.set_cons_succ, List.set_cons_zero]
              refine wpList_valn (v := .bool true) rfl (exec_neInt true rfl (ev rfl) evk H0.out) ?_
              simp only [Act.put, List.setIfInBounds_toArray, List.set_cons_succ, List.set_cons_zero]
              refine wpList_valn (v := .bool true) rfl (exec_mv rfl (ev rfl)) ?_
              simp only [Act.put, List.setIfInBounds_toArray, List.set_cons_succ, List.set_cons_zero]
              refine wpList_val (wanted_of rfl rfl rfl rfl) (exec_faddr rfl (ev rfl) faM1) ?_
              simp only [Act.put, List.setIfInBounds_toArray, List.set_cons_succ, List.set_cons_zero]
              refine wpList_val (wanted_of rfl rfl rfl rfl) (exec_ld rfl (ev rfl) (ldInt HM.out.cells.2.1)) ?_
              simp only [Act.put, List.setIfInBounds_toArray, List.set_cons_succ, List.set_cons_zero]
              refine wpList_val (v := .bool true) (wanted_of rfl rfl rfl rfl) (exec_geq true rfl (ev rfl) evk H1.out) ?_
              simp only [Act.put, List.setIfInBounds_toArray, List.set_cons_succ, List.set_cons_zero]
              refine wpList_valn (v := .bool true) rfl (exec_pt rfl (ev rfl) (ev rfl)) ?_
              simp only [Act.put, List.setIfInBounds_toArray, List.set_cons_succ, List.set_cons_zero]
              refine wpList_valn (v := .bool true) rfl (exec_mv rfl (ev rfl)) ?_
              simp only [Act.put, List.setIfInBounds_toArray, List.set_cons_succ, List.set_cons_zero]
              refine wpList_val (wanted_of rfl rfl rfl rfl) (exec_faddr rfl (ev rfl) faM1) ?_
              simp only [Act.put, List.setIfInBounds_toArray, List.set_cons_succ, List.set_cons_zero]
              refine wpList_val (wanted_of rfl rfl rfl rfl) (exec_ld rfl (ev rfl) (ldInt HM.out.cells.2.1)) ?_
              simp only [Act.put, List.setIfInBounds_toArray, List.set_cons_succ, List.set_cons_zero]
              refine wpList_val (v := .bool true) (wanted_of rfl rfl rfl rfl) (exec_leq true rfl (ev rfl) evk H2.out) ?_
              simp only [Act.put, List.setIfInBounds_toArray, List.set_cons_succ, List.set_cons_zero]
              refine wpList_valn (v := .bool true) rfl (exec_pt rfl (ev rfl) (ev rfl)) ?_
              simp only [Act.put, List.setIfInBounds_toArray, List.set_cons_succ, List.set_cons_zero]
              refine wpList_valn (v := .bool true) rfl (exec_mv rfl (ev rfl)) ?_
              simp only [Act.put, List.setIfInBounds_toArray, List.set_cons_succ, List.set_cons_zero]
              refine wpList_val (wanted_of rfl rfl rfl rfl) (exec_faddr rfl (ev rfl) faM2) ?_
              simp only [Act.put, List.setIfInBounds_toArray, List.set_cons_succ, List.set_cons_zero]
              refine wpList_val (wanted_of rfl rfl rfl rfl) (exec_ld rfl (ev rfl) (ldU64 HM.out.cells.2.2.1)) ?_
              simp only [Act.put, List.setIfInBounds_toArray, List.set_cons_succ, List.set_cons_zero]
              refine wpList_val (v := .bool true) (wanted_of rfl rfl rfl rfl) (exec_geq true rfl (ev rfl) evk H3.out) ?_
              simp only [Act.put, List.setIfInBounds_toArray, List.set_cons_succ, List.set_cons_zero]
              refine wpList_valn (v := .bool true) rfl (exec_pt rfl (ev rfl) (ev rfl)) ?_
              simp only [Act.put, List.setIfInBounds_toArray, List.set_cons_succ, List.set_cons_zero]
              refine wpList_valn (v := .bool true) rfl (exec_mv rfl (ev rfl)) ?_
              simp only [Act.put, List.setIfInBounds_toArray, List.set_cons_succ, List.set_cons_zero]
              refine wpList_val (wanted_of rfl rfl rfl rfl) (exec_faddr rfl (ev rfl) faM2) ?_
              simp only [Act.put, List.setIfInBounds_toArray, List.set_cons_succ, List.set_cons_zero]
              refine wpList_val (wanted_of rfl rfl rfl rfl) (exec_ld rfl (ev rfl) (ldU64 HM.out.cells.2.2.1)) ?_
              simp only [Act.put, List.setIfInBounds_toArray, List.set_cons_succ, List.set_cons_zero]
              refine wpList_val (v := .bool true) (wanted_of rfl rfl rfl rfl) (exec_leq true rfl (ev rfl) evk H4.out) ?_
              simp only [Act.put, List.setIfInBounds_toArray, List.set_cons_succ, List.set_cons_zero]
              refine wpList_valn (v := .bool true) rfl (exec_pt rfl (ev rfl) (ev rfl)) ?_
              simp only [Act.put, List.setIfInBounds_toArray, List.set_cons_succ, List.set_cons_zero]
              refine wpList_valn (v := .bool true) rfl (exec_mv rfl (ev rfl)) ?_
              simp only [Act.put, List.setIfInBounds_toArray, List.set_cons_succ, List.set_cons_zero]
              refine wpList_val (wanted_of rfl rfl rfl rfl) (exec_faddr rfl (ev rfl) faM3) ?_
              simp only [Act.put, List.setIfInBounds_toArray, List.set_cons_succ, List.set_cons_zero]
              refine wpList_val (wanted_of rfl rfl rfl rfl) (exec_ld rfl (ev rfl) (ldU64 HM.out.cells.2.2.2)) ?_
              simp only [Act.put, List.setIfInBounds_toArray, List.set_cons_succ, List.set_cons_zero]
              refine wpList_val (v := .bool false) (wanted_of rfl rfl rfl rfl) (exec_leq false rfl (ev rfl) evk H5.out) ?_
              simp only [Act.put, List.setIfInBounds_toArray, List.set_cons_succ, List.set_cons_zero]
              refine wpList_valn (v := .bool false) rfl (exec_pt rfl (ev rfl) (ev rfl)) ?_
              simp only [Act.put, List.setIfInBounds_toArray, List.set_cons_succ, List.set_cons_zero]
              refine wpList_valn (v := .bool false) rfl (exec_as rfl (ev rfl)) ?_
              simp only [Act.put, List.setIfInBounds_toArray, List.set_cons_succ, List.set_cons_zero]
              refine wpList_nil ?_
              go_wp2_with fail
              go_ret
              exact ⟨ret_bool (by rw [HV.out]), HB.out⟩
          · have H4 : Hid (decide ((m.first : Int) ≤ 4611686018427387904) = false) := Lib.hid (decide_eq_false (by omega))
            have HV : Hid (mrkB m = false) := Lib.hid (decide_eq_false (by omega))
            clear k0 k1 k2 k3 k4
            refine wp_region_lit ?_
            refine wpList_valn rfl (exec_faddr rfl (ev rfl) faM0) ?_
            simp only [Act.put, List.setIfInBounds_toArray, List.set_cons_succ, List.set_cons_zero]
            refine wpList_valn rfl (exec_ld rfl (ev rfl) (ldU64 HM.out.cells.1)) ?_
            simp only [Act.put, List.setIfInBounds_toArray, List.set_cons_succ, List.set_cons_zero]
            refine wpList_valn (v := .bool true) rfl (exec_neInt true rfl (ev rfl) evk H0.out) ?_
            simp only [Act.put, List.setIfInBounds_toArray, List.set_cons_succ, List.set_cons_zero]
            refine wpList_valn (v := .bool true) rfl (exec_mv rfl (ev rfl)) ?_
            simp only [Act.put, List.setIfInBounds_toArray, List.set_cons_succ, List.set_cons_zero]
            refine wpList_val (wanted_of rfl rfl rfl rfl) (exec_faddr rfl (ev rfl) faM1) ?_
            simp only [Act.put, List.setIfInBounds_toArray, List.set_cons_succ, List.set_cons_zero]
            refine wpList_val (wanted_of rfl rfl rfl rfl) (exec_ld rfl (ev rfl) (ldInt HM.out.cells.2.1)) ?_
            simp only [Act.put, List.setIfInBounds_toArray, List.set_cons_succ, List.set_cons_zero]
            refine wpList_val (v := .bool true) (wanted_of rfl rfl rfl rfl) (exec_geq true rfl (ev rfl) evk H1.out) ?_
            simp only [Act.put, List.setIfInBounds_toArray, List.set_cons_succ, List.set_cons_zero]
            refine wpList_valn (v := .bool true) rfl (exec_pt rfl (ev rfl) (ev rfl)) ?_
            simp only [Act.put, List.setIfInBounds_toArray, List.set_cons_succ, List.set_cons_zero]
            refine wpList_valn (v := .bool true) rfl (exec_mv rfl (ev rfl)) ?_
            simp only [Act.put, List.setIfInBounds_toArray, List.set_cons_succ, List.set_cons_zero]
            refine wpList_val (wanted_of rfl rfl rfl rfl) (exec_faddr rfl (ev rfl) faM1) ?_
            simp only [Act.put, List.setIfInBounds_toArray, List.set_cons_succ, List.set_cons_zero]
            refine wpList_val (wanted_of rfl rfl rfl rfl) (exec_ld rfl (ev rfl) (ldInt HM.out.cells.2.1)) ?_
            simp only [Act.put, List.setIfInBounds_toArray, List.set_cons_succ, List.set_cons_zero]
            refine wpList_val (v := .bool true) (wanted_of rfl rfl rfl rfl) (exec_leq true rfl (ev rfl) evk H2.out) ?_
            simp only [Act.put, List.setIfInBounds_toArray, List.set_cons_succ, List.set_cons_zero]
            refine wpList_valn (v := .bool true) rfl (exec_pt rfl (ev rfl) (ev rfl)) ?_
            simp only [Act.put, List.setIfInBounds_toArray, List.set_cons_succ, List.set_cons_zero]
            refine wpList_valn (v := .bool true) rfl (exec_mv rfl (ev rfl)) ?_
            simp only [Act.put, List.setIfInBounds_toArray, List.set_cons_succ, List.set_cons_zero]
            refine wpList_val (wanted_of rfl rfl rfl rfl) (exec_faddr rfl (ev rfl) faM2) ?_
            simp only [Act.put, List.setIfInBounds_toArray, List.set_cons_succ, List.set_cons_zero]
            refine wpList_val (wanted_of rfl rfl rfl rfl) (exec_ld rfl (ev rfl) (ldU64 HM.out.cells.2.2.1)) ?_
            simp only [Act.put, List.setIfInBounds_toArray, List.set_cons_succ, List.set_cons_zero]
            refine wpList_val (v := .bool true) (wanted_of rfl rfl rfl rfl) (exec_geq true rfl (ev rfl) evk H3.out) ?_
            simp only [Act.put, List.setIfInBounds_toArray, List.set_cons_succ, List.set_cons_zero]
            refine wpList_valn (v := .bool true) rfl (exec_pt rfl (ev rfl) (ev rfl)) ?_
            simp only [Act.put, List.setIfInBounds_toArray, List.set_cons_succ, List.set_cons_zero]
            refine wpList_valn (v := .bool true) rfl (exec_mv rfl (ev rfl)) ?_
            simp only [Act.put, List.setIfInBounds_toArray, List.set_cons_succ, List.set_cons_zero]
            refine wpList_val (wanted_of rfl rfl rfl rfl) (exec_faddr rfl (ev rfl) faM2) ?_
            simp only [Act.put, List.setIfInBounds_toArray, List.set_cons_succ, List.set_cons_zero]
            refine wpList_val (wanted_of rfl rfl rfl rfl) (exec_ld rfl (ev rfl) (ldU64 HM.out.cells.2.2.1)) ?_
            simp only [Act.put, List.setIfInBounds_toArray, List.set_cons_succ, List.set_cons_zero]
            refine wpList_val (v := .bool false) (wanted_of rfl rfl rfl rfl) (exec_leq false rfl (ev rfl) evk H4.out) ?_
            simp only [Act.put, List.setIfInBounds_toArray, List.set_cons_succ, List.set_cons_zero]
            refine wpList_valn (v := .bool false) rfl (exec_pt rfl (ev rfl) (ev rfl)) ?_
            simp only [Act.put, List.setIfInBounds_toArray, List.set_cons_succ, List.set_cons_zero]
            refine wpList_skips 3 (v := .bool false) rfl (exec_mv rfl (ev rfl)) (by kernel_rfl) ?_
            simp only [skipAct, List.take_succ_cons, List.take_zero, List.drop_succ_cons, List.drop_zero, Act.put, List.setIfInBounds_toArray, List.set_cons_succ, List.set_cons_zero]
            refine wpList_valn (v := .bool false) rfl (exec_pf rfl (ev rfl) evk) ?_
            simp only [Act.put, List.setIfInBounds_toArray, List.set_cons_succ, List.set_cons_zero]
            refine wpList_valn (v := .bool false) rfl (exec_as rfl (ev rfl)) ?_
            simp only [Act.put, List.setIfInBounds_toArray, List.set_cons_succ, List.set_cons_zero]
            refine wpList_nil ?_
            go_wp2_with fail
            go_ret
            exact ⟨ret_bool (by rw [HV.out]), HB.out⟩
        · have H3 : Hid (decide ((1 : Int) ≤ (m.first : Int)) = false) := Lib.hid (decide_eq_false (by omega))
          have HV : Hid (mrkB m = false) := Lib.hid (decide_eq_false (by omega))
          clear k0 k1 k2 k3
          refine wp_region_lit ?_
          refine wpList_valn rfl (exec_faddr rfl (ev rfl) faM0) ?_
          simp only [Act.put, List.setIfInBounds_toArray, List.set_cons_succ, List.set_cons_zero]
          refine wpList_valn rfl (exec_ld rfl (ev rfl) (ldU64 HM.out.cells.1)) ?_
          simp only [Act.put, List.setIfInBounds_toArray, List.set_cons_succ, List.set_cons_zero]
          refine wpList_valn (v := .bool true) rfl (exec_neInt true rfl (ev rfl) evk H0.out) ?_
          simp only [Act.put, List.setIfInBounds_toArray, List.set_cons_succ, List.set_cons_zero]
          refine wpList_valn (v := .bool true) rfl (exec_mv rfl (ev rfl)) ?_
          simp only [Act.put, List.setIfInBounds_toArray, List.set_cons_succ, List.set_cons_zero]
          refine wpList_val (wanted_of rfl rfl rfl rfl) (exec_faddr rfl (ev rfl) faM1) ?_
          simp only [Act.put, List.setIfInBounds_toArray, List.set_cons_succ, List.set_cons_zero]
          refine wpList_val (wanted_of rfl rfl rfl rfl) (exec_ld rfl (ev rfl) (ldInt HM.out.cells.2.1)) ?_
          simp only [Act.put, List.setIfInBounds_toArray, List.set_cons_succ, List.set_cons_zero]
          refine wpList_val (v := .bool true) (wanted_of rfl rfl rfl rfl) (exec_geq true rfl (ev rfl) evk H1.out) ?_
          simp only [Act.put, List.setIfInBounds_toArray, List.set_cons_succ, List.set_cons_zero]
          refine wpList_valn (v := .bool true) rfl (exec_pt rfl (ev rfl) (ev rfl)) ?_
          simp only [Act.put, List.setIfInBounds_toArray, List.set_cons_succ, List.set_cons_zero]
          refine wpList_valn (v := .bool true) rfl (exec_mv rfl (ev rfl)) ?_
          simp only [Act.put, List.setIfInBounds_toArray, List.set_cons_succ, List.set_cons_zero]
          refine wpList_val (wanted_of rfl rfl rfl rfl) (exec_faddr rfl (ev rfl) faM1) ?_
          simp only [Act.put, List.setIfInBounds_toArray, List.set_cons_succ, List.set_cons_zero]
          refine wpList_val (wanted_of rfl rfl rfl rfl) (exec_ld rfl (ev rfl) (ldInt HM.out.cells.2.1)) ?_
          simp only [Act.put, List.setIfInBounds_toArray, List.set_cons_succ, List.set_cons_zero]
          refine wpList_val (v := .bool true) (wanted_of rfl rfl rfl rfl) (exec_leq true rfl (ev rfl) evk H2.out) ?_
          simp only [Act.put, List.setIfInBounds_toArray, List.set_cons_succ, List.set_cons_zero]
          refine wpList_valn (v := .bool true) rfl (exec_pt rfl (ev rfl) (ev rfl)) ?_
          simp only [Act.put, List.setIfInBounds_toArray, List.set_cons_succ, List.set_cons_zero]
          refine wpList_valn (v := .bool true) rfl (exec_mv rfl (ev rfl)) ?_
          simp only [Act.put, List.setIfInBounds_toArray, List.set_cons_succ, List.set_cons_zero]
          refine wpList_val (wanted_of rfl rfl rfl rfl) (exec_faddr rfl (ev rfl) faM2) ?_
          simp only [Act.put, List.setIfInBounds_toArray, List.set_cons_succ, List.set_cons_zero]
          refine wpList_val (wanted_of rfl rfl rfl rfl) (exec_ld rfl (ev rfl) (ldU64 HM.out.cells.2.2.1)) ?_
          simp only [Act.put, List.setIfInBounds_toArray, List.set_cons_succ, List.set_cons_zero]
          refine wpList_val (v := .bool false) (wanted_of rfl rfl rfl rfl) (exec_geq false rfl (ev rfl) evk H3.out) ?_
          simp only [Act.put, List.setIfInBounds_toArray, List.set_cons_succ, List.set_cons_zero]
          refine wpList_valn (v := .bool false) rfl (exec_pt rfl (ev rfl) (ev rfl)) ?_
          simp only [Act.put, List.setIfInBounds_toArray, List.set_cons_succ, List.set_cons_zero]
          refine wpList_skips 3 (v := .bool false) rfl (exec_mv rfl (ev rfl)) (by kernel_rfl) ?_
          simp only [skipAct, List.take_succ_cons, List.take_zero, List.drop_succ_cons, List.drop_zero, Act.put, List.setIfInBounds_toArray, List.set_cons_succ, List.set_cons_zero]
          refine wpList_valn (v := .bool false) rfl (exec_pf rfl (ev rfl) evk) ?_
          simp only [Act.put, List.setIfInBounds_toArray, List.set_cons_succ, List.set_cons_zero]
          refine wpList_skips 3 (v := .bool false) rfl (exec_mv rfl (ev rfl)) (by kernel_rfl) ?_
          simp only [skipAct, List.take_succ_cons, List.take_zero, List.drop_succ_cons, List.drop_zero, Act.put, List.setIfInBounds_toArray, List.set_cons_succ, List.set_cons_zero]
          refine wpList_valn (v := .bool false) rfl (exec_pf rfl (ev rfl) evk) ?_
          simp only [Act.put, List.setIfInBounds_toArray, List.set_cons_succ, List.set_cons_zero]
          refine wpList_valn (v := .bool false) rfl (exec_as rfl (ev rfl)) ?_
          simp only [Act.put, List.setIfInBounds_toArray, List.set_cons_succ, List.set_cons_zero]
          refine wpList_nil ?_
          go_wp2_with fail
          go_ret
          exact ⟨ret_bool (by rw [HV.out]), HB.out⟩
      · have H2 : Hid (decide (m.ring ≤ (256 : Int)) = false) := Lib.hid (decide_eq_false (by omega))
        have HV : Hid (mrkB m = false) := Lib.hid (decide_eq_false (by omega))
        clear k0 k1 k2
        refine wp_region_lit ?_
        refine wpList_valn rfl (exec_faddr rfl (ev rfl) faM0) ?_
        simp only [Act.put, List.setIfInBounds_toArray, List.set_cons_succ, List.set_cons_zero]
        refine wpList_valn rfl (exec_ld rfl (ev rfl) (ldU64 HM.out.cells.1)) ?_
        simp only [Act.put, List.setIfInBounds_toArray, List.set_cons_succ, List.set_cons_zero]
        refine wpList_valn (v := .bool true) rfl (exec_neInt true rfl (ev rfl) evk H0.out) ?_
        simp only [Act.put, List.setIfInBounds_toArray, List.set_cons_succ, List.set_cons_zero]
        refine wpList_valn (v := .bool true) rfl (exec_mv rfl (ev rfl)) ?_
        simp only [Act.put, List.setIfInBounds_toArray, List.set_cons_succ, List.set_cons_zero]
        refine wpList_val (wanted_of rfl rfl rfl rfl) (exec_faddr rfl (ev rfl) faM1) ?_
        simp only [Act.put, List.setIfInBounds_toArray, List.set_cons_succ, List.set_cons_zero]
        refine wpList_val (wanted_of rfl rfl rfl rfl) (exec_ld rfl (ev rfl) (ldInt HM.out.cells.2.1)) ?_
        simp only [Act.put, List.setIfInBounds_toArray, List.set_cons_succ, List.set_cons_zero]
        refine wpList_val (v := .bool true) (wanted_of rfl rfl rfl rfl) (exec_geq true rfl (ev rfl) evk H1.out) ?_
        simp only [Act.put, List.setIfInBounds_toArray, List.set_cons_succ, List.set_cons_zero]
        refine wpList_valn (v := .bool true) rfl (exec_pt rfl (ev rfl) (ev rfl)) ?_
        simp only [Act.put, List.setIfInBounds_toArray, List.set_cons_succ, List.set_cons_zero]
        refine wpList_valn (v := .bool true) rfl (exec_mv rfl (ev rfl)) ?_
        simp only [Act.put, List.setIfInBounds_toArray, List.set_cons_succ, List.set_cons_zero]
        refine wpList_val (wanted_of rfl rfl rfl rfl) (exec_faddr rfl (ev rfl) faM1) ?_
        simp only [Act.put, List.setIfInBounds_toArray, List.set_cons_succ, List.set_cons_zero]
        refine wpList_val (wanted_of rfl rfl rfl rfl) (exec_ld rfl (ev rfl) (ldInt HM.out.cells.2.1)) ?_
        simp only [Act.put, List.setIfInBounds_toArray, List.set_cons_succ, List.set_cons_zero]
        refine wpList_val (v := .bool false) (wanted_of rfl rfl rfl rfl) (exec_leq false rfl (ev rfl) evk H2.out) ?_
        simp only [Act.put, List.setIfInBounds_toArray, List.set_cons_succ, List.set_cons_zero]
        refine wpList_valn (v := .bool false) rfl (exec_pt rfl (ev rfl) (ev rfl)) ?_
        simp only [Act.put, List.setIfInBounds_toArray, List.set_cons_succ, List.set_cons_zero]
        refine wpList_skips 3 (v := .bool false) rfl (exec_mv rfl (ev rfl)) (by kernel_rfl) ?_
        simp only [skipAct, List.take_succ_cons, List.take_zero, List.drop_succ_cons, List.drop_zero, Act.put, List.setIfInBounds_toArray, List.set_cons_succ, List.set_cons_zero]
        refine wpList_valn (v := .bool false) rfl (exec_pf rfl (ev rfl) evk) ?_
        simp only [Act.put, List.setIfInBounds_toArray, List.set_cons_succ, List.set_cons_zero]
        refine wpList_skips 3 (v := .bool false) rfl (exec_mv rfl (ev rfl)) (by kernel_rfl) ?_
        simp only [skipAct, List.take_succ_cons, List.take_zero, List.drop_succ_cons, List.drop_zero, Act.put, List.setIfInBounds_toArray, List.set_cons_succ, List.set_cons_zero]
        refine wpList_valn (v := .bool false) rfl (exec_pf rfl (ev rfl) evk) ?_
        simp only [Act.put, List.setIfInBounds_toArray, List.set_cons_succ, List.set_cons_zero]
        refine wpList_skips 3 (v := .bool false) rfl (exec_mv rfl (ev rfl)) (by kernel_rfl) ?_
        simp only [skipAct, List.take_succ_cons, List.take_zero, List.drop_succ_cons, List.drop_zero, Act.put, List.setIfInBounds_toArray, List.set_cons_succ, List.set_cons_zero]
        refine wpList_valn (v := .bool false) rfl (exec_pf rfl (ev rfl) evk) ?_
        simp only [Act.put, List.setIfInBounds_toArray, List.set_cons_succ, List.set_cons_zero]
        refine wpList_valn (v := .bool false) rfl (exec_as rfl (ev rfl)) ?_
        simp only [Act.put, List.setIfInBounds_toArray, List.set_cons_succ, List.set_cons_zero]
        refine wpList_nil ?_
        go_wp2_with fail
        go_ret
        exact ⟨ret_bool (by rw [HV.out]), HB.out⟩
    · have H1 : Hid (decide ((40 : Int) ≤ m.ring) = false) := Lib.hid (decide_eq_false (by omega))
      have HV : Hid (mrkB m = false) := Lib.hid (decide_eq_false (by omega))
      clear k0 k1
      refine wp_region_lit ?_
      refine wpList_valn rfl (exec_faddr rfl (ev rfl) faM0) ?_
      simp only [Act.put, List.setIfInBounds_toArray, List.set_cons_succ, List.set_cons_zero]
      refine wpList_valn rfl (exec_ld rfl (ev rfl) (ldU64 HM.out.cells.1)) ?_
      simp only [Act.put, List.setIfInBounds_toArray, List.set_cons_succ, List.set_cons_zero]
      refine wpList_valn (v := .bool true) rfl (exec_neInt true rfl (ev rfl) evk H0.out) ?_
      simp only [Act.put, List.setIfInBounds_toArray, List.set_cons_succ, List.set_cons_zero]
      refine wpList_valn (v := .bool true) rfl (exec_mv rfl (ev rfl)) ?_
      simp only [Act.put, List.setIfInBounds_toArray, List.set_cons_succ, List.set_cons_zero]
      refine wpList_val (wanted_of rfl rfl rfl rfl) (exec_faddr rfl (ev rfl) faM1) ?_
      simp only [Act.put, List.setIfInBounds_toArray, List.set_cons_succ, List.set_cons_zero]
      refine wpList_val (wanted_of rfl rfl rfl rfl) (exec_ld rfl (ev rfl) (ldInt HM.out.cells.2.1)) ?_
      simp only [Act.put, List.setIfInBounds_toArray, List.set_cons_succ, List.set_cons_zero]
      refine wpList_val (v := .bool false) (wanted_of rfl rfl rfl rfl) (exec_geq false rfl (ev rfl) evk H1.out) ?_
      simp only [Act.put, List.setIfInBounds_toArray, List.set_cons_succ, List.set_cons_zero]
      refine wpList_valn (v := .bool false) rfl (exec_pt rfl (ev rfl) (ev rfl)) ?_
      simp only [Act.put, List.setIfInBounds_toArray, List.set_cons_succ, List.set_cons_zero]
      refine wpList_skips 3 (v := .bool false) rfl (exec_mv rfl (ev rfl)) (by kernel_rfl) ?_
      simp only [skipAct, List.take_succ_cons, List.take_zero, List.drop_succ_cons, List.drop_zero, Act.put, List.setIfInBounds_toArray, List.set_cons_succ, List.set_cons_zero]
      refine wpList_valn (v := .bool false) rfl (exec_pf rfl (ev rfl) evk) ?_
      simp only [Act.put, List.setIfInBounds_toArray, List.set_cons_succ, List.set_cons_zero]
      refine wpList_skips 3 (v := .bool false) rfl (exec_mv rfl (ev rfl)) (by kernel_rfl) ?_
      simp only [skipAct, List.take_succ_cons, List.take_zero, List.drop_succ_cons, List.drop_zero, Act.put, List.setIfInBounds_toArray, List.set_cons_succ, List.set_cons_zero]
      refine wpList_valn (v := .bool false) rfl (exec_pf rfl (ev rfl) evk) ?_
      simp only [Act.put, List.setIfInBounds_toArray, List.set_cons_succ, List.set_cons_zero]
      refine wpList_skips 3 (v := .bool false) rfl (exec_mv rfl (ev rfl)) (by kernel_rfl) ?_
      simp only [skipAct, List.take_succ_cons, List.take_zero, List.drop_succ_cons, List.drop_zero, Act.put, List.setIfInBounds_toArray, List.set_cons_succ, List.set_cons_zero]
      refine wpList_valn (v := .bool false) rfl (exec_pf rfl (ev rfl) evk) ?_
      simp only [Act.put, List.setIfInBounds_toArray, List.set_cons_succ, List.set_cons_zero]
      refine wpList_skips 3 (v := .bool false) rfl (exec_mv rfl (ev rfl)) (by kernel_rfl) ?_
      simp only [skipAct, List.take_succ_cons, List.take_zero, List.drop_succ_cons, List.drop_zero, Act.put, List.setIfInBounds_toArray, List.set_cons_succ, List.set_cons_zero]
      refine wpList_valn (v := .bool false) rfl (exec_pf rfl (ev rfl) evk) ?_
      simp only [Act.put, List.setIfInBounds_toArray, List.set_cons_succ, List.set_cons_zero]
      refine wpList_valn (v := .bool false) rfl (exec_as rfl (ev rfl)) ?_
      simp only [Act.put, List.setIfInBounds_toArray, List.set_cons_succ, List.set_cons_zero]
      refine wpList_nil ?_
      go_wp2_with fail
      go_ret
      exact ⟨ret_bool (by rw [HV.out]), HB.out⟩
  · have H0 : Hid (((m.id : Int) != 0) = false) := Lib.hid (by simp; omega)
    have HV : Hid (mrkB m = false) := Lib.hid (decide_eq_false (by omega))
    clear k0
    refine wp_region_lit ?_
    refine wpList_valn rfl (exec_faddr rfl (ev rfl) faM0) ?_
    simp only [Act.put, List.setIfInBounds_toArray, List.set_cons_succ, List.set_cons_zero]
    refine wpList_valn rfl (exec_ld rfl (ev rfl) (ldU64 HM.out.cells.1)) ?_
    simp only [Act.put, List.setIfInBounds_toArray, List.set_cons_succ, List.set_cons_zero]
    refine wpList_valn (v := .bool false) rfl (exec_neInt false rfl (ev rfl) evk H0.out) ?_
    simp only [Act.put, List.setIfInBounds_toArray, List.set_cons_succ, List.set_cons_zero]
    refine wpList_skips 3 (v := .bool false) rfl (exec_mv rfl (ev rfl)) (by kernel_rfl) ?_
    simp only [skipAct, List.take_succ_cons, List.take_zero, List.drop_succ_cons, List.drop_zero, Act.put, List.setIfInBounds_toArray, List.set_cons_succ, List.set_cons_zero]
    refine wpList_valn (v := .bool false) rfl (exec_pf rfl (ev rfl) evk) ?_
    simp only [Act.put, List.setIfInBounds_toArray, List.set_cons_succ, List.set_cons_zero]
    refine wpList_skips 3 (v := .bool false) rfl (exec_mv rfl (ev rfl)) (by kernel_rfl) ?_
    simp only [skipAct, List.take_succ_cons, List.take_zero, List.drop_succ_cons, List.drop_zero, Act.put, List.setIfInBounds_toArray, List.set_cons_succ, List.set_cons_zero]
    refine wpList_valn (v := .bool false) rfl (exec_pf rfl (ev rfl) evk) ?_
    simp only [Act.put, List.setIfInBounds_toArray, List.set_cons_succ, List.set_cons_zero]
    refine wpList_skips 3 (v := .bool false) rfl (exec_mv rfl (ev rfl)) (by kernel_rfl) ?_
    simp only [skipAct, List.take_succ_cons, List.take_zero, List.drop_succ_cons, List.drop_zero, Act.put, List.setIfInBounds_toArray, List.set_cons_succ, List.set_cons_zero]
    refine wpList_valn (v := .bool false) rfl (exec_pf rfl (ev rfl) evk) ?_
    simp only [Act.put, List.setIfInBounds_toArray, List.set_cons_succ, List.set_cons_zero]
    refine wpList_skips 3 (v := .bool false) rfl (exec_mv rfl (ev rfl)) (by kernel_rfl) ?_
    simp only [skipAct, List.take_succ_cons, List.take_zero, List.drop_succ_cons, List.drop_zero, Act.put, List.setIfInBounds_toArray, List.set_cons_succ, List.set_cons_zero]
    refine wpList_valn (v := .bool false) rfl (exec_pf rfl (ev rfl) evk) ?_
    simp only [Act.put, List.setIfInBounds_toArray, List.set_cons_succ, List.set_cons_zero]
    refine wpList_skips 3 (v := .bool false) rfl (exec_mv rfl (ev rfl)) (by kernel_rfl) ?_
    simp only [skipAct, List.take_succ_cons, List.take_zero, List.drop_succ_cons, List.drop_zero, Act.put, List.setIfInBounds_toArray, List.set_cons_succ, List.set_cons_zero]
    refine wpList_valn (v := .bool false) rfl (exec_pf rfl (ev rfl) evk) ?_
    simp only [Act.put, List.setIfInBounds_toArray, List.set_cons_succ, List.set_cons_zero]
    refine wpList_valn (v := .bool false) rfl (exec_as rfl (ev rfl)) ?_
    simp only [Act.put, List.setIfInBounds_toArray, List.set_cons_succ, List.set_cons_zero]
    refine wpList_nil ?_
    go_wp2_with fail
    go_ret
    exact ⟨ret_bool (by rw [HV.out]), HB.out⟩
theorem pmmay_b (m : Mrk) (w : World) {b : Bool} (h : mrkB m = b) : Calls Tryd.prog 9 #[mrk m] w fun e w' => e = .returned (.bool b) ∧ Below w.heap.size w w' := by
  subst h
  exact pmmay m w
theorem rmmay_b (m : Mrk) (w : World) {b : Bool} (h : mrkB m = b) : Calls Tryd.prog 10 #[mrk m] w fun e w' => e = .returned (.bool b) ∧ Below w.heap.size w w' := by
  subst h
  exact rmmay m w
end Go.Proofs.YtmdpbnolgbfaeaaDoor
