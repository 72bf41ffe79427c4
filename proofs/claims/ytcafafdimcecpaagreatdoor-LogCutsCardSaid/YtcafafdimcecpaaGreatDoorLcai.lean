import Derived.Test.YtcafafdimcecpaaGreatDoorLcah
import Derived.Deep.DeepCutAuto
import Derived.Test.YtcafafdimcecpaaGreatDoorLcab
import Derived.Test.YtcafafdimcecpaaGreatDoorLcaf
import Derived.Test.YtcafafdimcecpaaGreatDoorLcaa
import Derived.Test.YtcafafdimcecpaaGreatDoorLcZ
namespace Go.Proofs.YtcafafdimcecpaaGreatDoor
open Go.RowKit
set_option linter.unusedVariables false
set_option linter.unusedSimpArgs false
set_option maxRecDepth 100000
section
variable {w : World} {b : Nat}
theorem faM0 : (Instr.fieldAt 67 (.pointer (some ⟨b, 0, none⟩)) 0).run Tryz.prog w = .ok (.pointer (some ⟨b, 0, none⟩)) w := by kernel_rfl
theorem faM1 : (Instr.fieldAt 67 (.pointer (some ⟨b, 0, none⟩)) 1).run Tryz.prog w = .ok (.pointer (some ⟨b, 1, none⟩)) w := by kernel_rfl
theorem faM2 : (Instr.fieldAt 67 (.pointer (some ⟨b, 0, none⟩)) 2).run Tryz.prog w = .ok (.pointer (some ⟨b, 2, none⟩)) w := by kernel_rfl
theorem faM3 : (Instr.fieldAt 67 (.pointer (some ⟨b, 0, none⟩)) 3).run Tryz.prog w = .ok (.pointer (some ⟨b, 3, none⟩)) w := by kernel_rfl
end
def ringB (r : Int) : Bool := decide (40 ≤ r ∧ r ≤ 256)
theorem pcount (n : Nat) (w : World) : Calls Tryz.prog 162 #[.int .u64 n] w fun e w' => e = .returned (.bool (evB n)) ∧ w = w' := by
  by_cases h : 1 ≤ n
  · go_enter Tryz.func162, Tryz.ntmps162
    go_wp2
    go_ret
    refine ⟨bO ?_, rfl⟩
    unfold evB
    rw [decide_eq_decide]
    omega
  · have h0 : n = 0 := by omega
    subst h0
    go_enter Tryz.func162, Tryz.ntmps162
    go_wp2
    go_ret
    exact ⟨rfl, rfl⟩
theorem pcount_b (n : Nat) (w : World) {b : Bool} (h : evB n = b) : Calls Tryz.prog 162 #[.int .u64 n] w fun e w' => e = .returned (.bool b) ∧ w = w' := by
  subst h
  exact pcount n w
theorem pcount_d (n : Nat) (w : World) {b : Bool} (h : evB n = b) : Calls Tryz.prog 162 #[.int .u64 n] w fun e w' => e = .returned (.bool b) ∧ Below w.heap.size w w' :=
  (pcount_b n w h).mono fun e w' ⟨he, hw⟩ => ⟨he, hw ▸ Below.refl _ _⟩
theorem pfirst (n : Nat) (w : World) : Calls Tryz.prog 157 #[.int .u64 n] w fun e w' => e = .returned (.bool (evB n)) ∧ w = w' := by
  by_cases h : 1 ≤ n
  · go_enter Tryz.func157, Tryz.ntmps157
    go_wp2
    go_ret
    refine ⟨bO ?_, rfl⟩
    unfold evB
    rw [decide_eq_decide]
    omega
  · have h0 : n = 0 := by omega
    subst h0
    go_enter Tryz.func157, Tryz.ntmps157
    go_wp2
    go_ret
    exact ⟨rfl, rfl⟩
theorem pfirst_b (n : Nat) (w : World) {b : Bool} (h : evB n = b) : Calls Tryz.prog 157 #[.int .u64 n] w fun e w' => e = .returned (.bool b) ∧ w = w' := by
  subst h
  exact pfirst n w
theorem pring (r : Int) (w : World) : Calls Tryz.prog 156 #[.int .i64 r] w fun e w' => e = .returned (.bool (ringB r)) ∧ w = w' := by
  by_cases h : 40 ≤ r
  · go_enter Tryz.func156, Tryz.ntmps156
    go_wp2
    go_ret
    refine ⟨bO ?_, rfl⟩
    unfold ringB
    rw [decide_eq_decide]
    omega
  · go_enter Tryz.func156, Tryz.ntmps156
    go_wp2
    go_ret
    refine ⟨bO ?_, rfl⟩
    unfold ringB
    exact (decide_eq_false (by omega)).symm
theorem pring_b (r : Int) (w : World) {b : Bool} (h : ringB r = b) : Calls Tryz.prog 156 #[.int .i64 r] w fun e w' => e = .returned (.bool b) ∧ w = w' := by
  subst h
  exact pring r w
theorem pmslot (n : Nat) (w : World) (hn : n < 18446744073709551616) : Calls Tryz.prog 118 #[.int .u64 n] w fun e w' => e = .returned (.int .i64 ((n % 2 : Nat) : Int)) ∧ w = w' := by
  go_enter Tryz.func118, Tryz.ntmps118
  go_wp2
  go_ret
  exact ⟨aQ (by omega), rfl⟩
set_option maxHeartbeats 2000000 in
theorem pmmay (m : Mrk) (w : World) : Calls Tryz.prog 101 #[mrk m] w fun e w' => e = .returned (.bool (mrkB m)) ∧ Below w.heap.size w w' := by
  obtain ⟨h1, h2, _⟩ := boxM_new w m
  have HM := Lib.hid h1
  have HB := Lib.hid h2
  clear h1 h2
  go_enter Tryz.func101, Tryz.ntmps101
  go_upto_region 1 with (first | (refine ag rfl (exec_boxM rfl rfl) ?_) | fail)
  generalize w.alloc (.cells (bk m).toArray 67) = w1 at *
  by_cases k0 : m.id = 0
  · have H0 : Hid (((m.id : Int) != 0) = false) := Lib.hid (by simp; omega)
    have HV : Hid (mrkB m = false) := Lib.hid (decide_eq_false (by omega))
    clear k0
    refine wp_region_lit ?_
    refine ag rfl (ak rfl (ev rfl) faM0) ?_
    simp only [Act.put, aa, ae, af]
    refine ag rfl (av rfl (ev rfl) (bR HM.out.cells.1)) ?_
    simp only [Act.put, aa, ae, af]
    refine ag (v := .bool false) rfl (aP false rfl (ev rfl) evk H0.out) ?_
    simp only [Act.put, aa, ae, af]
    refine aO 3 (v := .bool false) rfl (ah rfl (ev rfl)) (by kernel_rfl) ?_
    simp only [bc, List.take_succ_cons, List.take_zero, List.drop_succ_cons, List.drop_zero, Act.put, List.setIfInBounds_toArray, List.set_cons_succ, List.set_cons_zero]
    refine ag (v := .bool false) rfl (aN rfl (ev rfl) evk) ?_
    simp only [Act.put, aa, ae, af]
    refine aO 3 (v := .bool false) rfl (ah rfl (ev rfl)) (by kernel_rfl) ?_
    simp only [bc, List.take_succ_cons, List.take_zero, List.drop_succ_cons, List.drop_zero, Act.put, List.setIfInBounds_toArray, List.set_cons_succ, List.set_cons_zero]
    refine ag (v := .bool false) rfl (aN rfl (ev rfl) evk) ?_
    simp only [Act.put, aa, ae, af]
    refine aO 3 (v := .bool false) rfl (ah rfl (ev rfl)) (by kernel_rfl) ?_
    simp only [bc, List.take_succ_cons, List.take_zero, List.drop_succ_cons, List.drop_zero, Act.put, List.setIfInBounds_toArray, List.set_cons_succ, List.set_cons_zero]
    refine ag (v := .bool false) rfl (aN rfl (ev rfl) evk) ?_
    simp only [Act.put, aa, ae, af]
    refine ag (v := .bool false) rfl (aq rfl (ev rfl)) ?_
    simp only [Act.put, aa, ae, af]
    refine wpList_nil ?_
    go_wp2_with fail
    go_ret
    exact ⟨bO (by rw [HV.out]), HB.out⟩
  · have H0 : Hid (((m.id : Int) != 0) = true) := Lib.hid (by simp; omega)
    by_cases k1 : 40 ≤ m.ring ∧ m.ring ≤ 256
    · have H1 : Hid (ringB m.ring = true) := Lib.hid (decide_eq_true k1)
      by_cases k2 : 1 ≤ m.first ∧ m.first ≤ 4611686018427387904
      · have H2 : Hid (evB m.first = true) := Lib.hid (decide_eq_true k2)
        by_cases k3 : m.pos ≤ 4611686018427387904
        · have H3 : Hid (decide ((m.pos : Int) ≤ 4611686018427387904) = true) := Lib.hid (decide_eq_true (by omega))
          have HV : Hid (mrkB m = true) := Lib.hid (decide_eq_true (by omega))
          clear k0 k1 k2 k3
          refine wp_region_lit ?_
          refine ag rfl (ak rfl (ev rfl) faM0) ?_
          simp only [Act.put, aa, ae, af]
          refine ag rfl (av rfl (ev rfl) (bR HM.out.cells.1)) ?_
          simp only [Act.put, aa, ae, af]
          refine ag (v := .bool true) rfl (aP true rfl (ev rfl) evk H0.out) ?_
          simp only [Act.put, aa, ae, af]
          refine ag (v := .bool true) rfl (ah rfl (ev rfl)) ?_
          simp only [Act.put, aa, ae, af]
          refine ai (aj rfl rfl rfl rfl) (ak rfl (ev rfl) faM1) ?_
          simp only [Act.put, aa, ae, af]
          refine ai (aj rfl rfl rfl rfl) (av rfl (ev rfl) (bW HM.out.cells.2.1)) ?_
          simp only [Act.put, aa, ae, af]
          refine ao (aj rfl rfl rfl rfl) (au Tryz.call156 rfl (evc (ev rfl) evn)) ?_
          refine (pring_b m.ring _ H1.out).mono ?_
          rintro e w' ⟨rfl, rfl⟩
          refine ⟨_, rfl, ?_⟩
          simp only [Act.put, aa, ae, af]
          refine ag (v := .bool true) rfl (aM rfl (ev rfl) (ev rfl)) ?_
          simp only [Act.put, aa, ae, af]
          refine ag (v := .bool true) rfl (ah rfl (ev rfl)) ?_
          simp only [Act.put, aa, ae, af]
          refine ai (aj rfl rfl rfl rfl) (ak rfl (ev rfl) faM2) ?_
          simp only [Act.put, aa, ae, af]
          refine ai (aj rfl rfl rfl rfl) (av rfl (ev rfl) (bR HM.out.cells.2.2.1)) ?_
          simp only [Act.put, aa, ae, af]
          refine ao (aj rfl rfl rfl rfl) (au Tryz.call157 rfl (evc (ev rfl) evn)) ?_
          refine (pfirst_b m.first _ H2.out).mono ?_
          rintro e w' ⟨rfl, rfl⟩
          refine ⟨_, rfl, ?_⟩
          simp only [Act.put, aa, ae, af]
          refine ag (v := .bool true) rfl (aM rfl (ev rfl) (ev rfl)) ?_
          simp only [Act.put, aa, ae, af]
          refine ag (v := .bool true) rfl (ah rfl (ev rfl)) ?_
          simp only [Act.put, aa, ae, af]
          refine ai (aj rfl rfl rfl rfl) (ak rfl (ev rfl) faM3) ?_
          simp only [Act.put, aa, ae, af]
          refine ai (aj rfl rfl rfl rfl) (av rfl (ev rfl) (bR HM.out.cells.2.2.2)) ?_
          simp only [Act.put, aa, ae, af]
          refine ai (v := .bool true) (aj rfl rfl rfl rfl) (exec_leq true rfl (ev rfl) evk H3.out) ?_
          simp only [Act.put, aa, ae, af]
          refine ag (v := .bool true) rfl (aM rfl (ev rfl) (ev rfl)) ?_
          simp only [Act.put, aa, ae, af]
          refine ag (v := .bool true) rfl (aq rfl (ev rfl)) ?_
          simp only [Act.put, aa, ae, af]
          refine wpList_nil ?_
          go_wp2_with fail
          go_ret
          exact ⟨bO (by rw [HV.out]), HB.out⟩
        · have H3 : Hid (decide ((m.pos : Int) ≤ 4611686018427387904) = false) := Lib.hid (decide_eq_false (by omega))
          have HV : Hid (mrkB m = false) := Lib.hid (decide_eq_false (by omega))
          clear k0 k1 k2 k3
          refine wp_region_lit ?_
          refine ag rfl (ak rfl (ev rfl) faM0) ?_
          simp only [Act.put, aa, ae, af]
          refine ag rfl (av rfl (ev rfl) (bR HM.out.cells.1)) ?_
          simp only [Act.put, aa, ae, af]
          refine ag (v := .bool true) rfl (aP true rfl (ev rfl) evk H0.out) ?_
          simp only [Act.put, aa, ae, af]
          refine ag (v := .bool true) rfl (ah rfl (ev rfl)) ?_
          simp only [Act.put, aa, ae, af]
          refine ai (aj rfl rfl rfl rfl) (ak rfl (ev rfl) faM1) ?_
          simp only [Act.put, aa, ae, af]
          refine ai (aj rfl rfl rfl rfl) (av rfl (ev rfl) (bW HM.out.cells.2.1)) ?_
          simp only [Act.put, aa, ae, af]
          refine ao (aj rfl rfl rfl rfl) (au Tryz.call156 rfl (evc (ev rfl) evn)) ?_
          refine (pring_b m.ring _ H1.out).mono ?_
          rintro e w' ⟨rfl, rfl⟩
          refine ⟨_, rfl, ?_⟩
          simp only [Act.put, aa, ae, af]
          refine ag (v := .bool true) rfl (aM rfl (ev rfl) (ev rfl)) ?_
          simp only [Act.put, aa, ae, af]
          refine ag (v := .bool true) rfl (ah rfl (ev rfl)) ?_
          simp only [Act.put, aa, ae, af]
          refine ai (aj rfl rfl rfl rfl) (ak rfl (ev rfl) faM2) ?_
          simp only [Act.put, aa, ae, af]
          refine ai (aj rfl rfl rfl rfl) (av rfl (ev rfl) (bR HM.out.cells.2.2.1)) ?_
          simp only [Act.put, aa, ae, af]
          refine ao (aj rfl rfl rfl rfl) (au Tryz.call157 rfl (evc (ev rfl) evn)) ?_
          refine (pfirst_b m.first _ H2.out).mono ?_
          rintro e w' ⟨rfl, rfl⟩
          refine ⟨_, rfl, ?_⟩
          simp only [Act.put, aa, ae, af]
          refine ag (v := .bool true) rfl (aM rfl (ev rfl) (ev rfl)) ?_
          simp only [Act.put, aa, ae, af]
          refine ag (v := .bool true) rfl (ah rfl (ev rfl)) ?_
          simp only [Act.put, aa, ae, af]
          refine ai (aj rfl rfl rfl rfl) (ak rfl (ev rfl) faM3) ?_
          simp only [Act.put, aa, ae, af]
          refine ai (aj rfl rfl rfl rfl) (av rfl (ev rfl) (bR HM.out.cells.2.2.2)) ?_
          simp only [Act.put, aa, ae, af]
          refine ai (v := .bool false) (aj rfl rfl rfl rfl) (exec_leq false rfl (ev rfl) evk H3.out) ?_
          simp only [Act.put, aa, ae, af]
          refine ag (v := .bool false) rfl (aM rfl (ev rfl) (ev rfl)) ?_
          simp only [Act.put, aa, ae, af]
          refine ag (v := .bool false) rfl (aq rfl (ev rfl)) ?_
          simp only [Act.put, aa, ae, af]
          refine wpList_nil ?_
          go_wp2_with fail
          go_ret
          exact ⟨bO (by rw [HV.out]), HB.out⟩
      · have H2 : Hid (evB m.first = false) := Lib.hid (decide_eq_false k2)
        have HV : Hid (mrkB m = false) := Lib.hid (decide_eq_false (by omega))
        clear k0 k1 k2
        refine wp_region_lit ?_
        refine ag rfl (ak rfl (ev rfl) faM0) ?_
        simp only [Act.put, aa, ae, af]
        refine ag rfl (av rfl (ev rfl) (bR HM.out.cells.1)) ?_
        simp only [Act.put, aa, ae, af]
        refine ag (v := .bool true) rfl (aP true rfl (ev rfl) evk H0.out) ?_
        simp only [Act.put, aa, ae, af]
        refine ag (v := .bool true) rfl (ah rfl (ev rfl)) ?_
        simp only [Act.put, aa, ae, af]
        refine ai (aj rfl rfl rfl rfl) (ak rfl (ev rfl) faM1) ?_
        simp only [Act.put, aa, ae, af]
        refine ai (aj rfl rfl rfl rfl) (av rfl (ev rfl) (bW HM.out.cells.2.1)) ?_
        simp only [Act.put, aa, ae, af]
        refine ao (aj rfl rfl rfl rfl) (au Tryz.call156 rfl (evc (ev rfl) evn)) ?_
        refine (pring_b m.ring _ H1.out).mono ?_
        rintro e w' ⟨rfl, rfl⟩
        refine ⟨_, rfl, ?_⟩
        simp only [Act.put, aa, ae, af]
        refine ag (v := .bool true) rfl (aM rfl (ev rfl) (ev rfl)) ?_
        simp only [Act.put, aa, ae, af]
        refine ag (v := .bool true) rfl (ah rfl (ev rfl)) ?_
        simp only [Act.put, aa, ae, af]
        refine ai (aj rfl rfl rfl rfl) (ak rfl (ev rfl) faM2) ?_
        simp only [Act.put, aa, ae, af]
        refine ai (aj rfl rfl rfl rfl) (av rfl (ev rfl) (bR HM.out.cells.2.2.1)) ?_
        simp only [Act.put, aa, ae, af]
        refine ao (aj rfl rfl rfl rfl) (au Tryz.call157 rfl (evc (ev rfl) evn)) ?_
        refine (pfirst_b m.first _ H2.out).mono ?_
        rintro e w' ⟨rfl, rfl⟩
        refine ⟨_, rfl, ?_⟩
        simp only [Act.put, aa, ae, af]
        refine ag (v := .bool false) rfl (aM rfl (ev rfl) (ev rfl)) ?_
        simp only [Act.put, aa, ae, af]
        refine aO 3 (v := .bool false) rfl (ah rfl (ev rfl)) (by kernel_rfl) ?_
        simp only [bc, List.take_succ_cons, List.take_zero, List.drop_succ_cons, List.drop_zero, Act.put, List.setIfInBounds_toArray, List.set_cons_succ, List.set_cons_zero]
        refine ag (v := .bool false) rfl (aN rfl (ev rfl) evk) ?_
        simp only [Act.put, aa, ae, af]
        refine ag (v := .bool false) rfl (aq rfl (ev rfl)) ?_
        simp only [Act.put, aa, ae, af]
        refine wpList_nil ?_
        go_wp2_with fail
        go_ret
        exact ⟨bO (by rw [HV.out]), HB.out⟩
    · have H1 : Hid (ringB m.ring = false) := Lib.hid (decide_eq_false k1)
      have HV : Hid (mrkB m = false) := Lib.hid (decide_eq_false (by omega))
      clear k0 k1
      refine wp_region_lit ?_
      refine ag rfl (ak rfl (ev rfl) faM0) ?_
      simp only [Act.put, aa, ae, af]
      refine ag rfl (av rfl (ev rfl) (bR HM.out.cells.1)) ?_
      simp only [Act.put, aa, ae, af]
      refine ag (v := .bool true) rfl (aP true rfl (ev rfl) evk H0.out) ?_
      simp only [Act.put, aa, ae, af]
      refine ag (v := .bool true) rfl (ah rfl (ev rfl)) ?_
      simp only [Act.put, aa, ae, af]
      refine ai (aj rfl rfl rfl rfl) (ak rfl (ev rfl) faM1) ?_
      simp only [Act.put, aa, ae, af]
      refine ai (aj rfl rfl rfl rfl) (av rfl (ev rfl) (bW HM.out.cells.2.1)) ?_
      simp only [Act.put, aa, ae, af]
      refine ao (aj rfl rfl rfl rfl) (au Tryz.call156 rfl (evc (ev rfl) evn)) ?_
      refine (pring_b m.ring _ H1.out).mono ?_
      rintro e w' ⟨rfl, rfl⟩
      refine ⟨_, rfl, ?_⟩
      simp only [Act.put, aa, ae, af]
      refine ag (v := .bool false) rfl (aM rfl (ev rfl) (ev rfl)) ?_
      simp only [Act.put, aa, ae, af]
      refine aO 3 (v := .bool false) rfl (ah rfl (ev rfl)) (by kernel_rfl) ?_
      simp only [bc, List.take_succ_cons, List.take_zero, List.drop_succ_cons, List.drop_zero, Act.put, List.setIfInBounds_toArray, List.set_cons_succ, List.set_cons_zero]
      refine ag (v := .bool false) rfl (aN rfl (ev rfl) evk) ?_
      simp only [Act.put, aa, ae, af]
      refine aO 3 (v := .bool false) rfl (ah rfl (ev rfl)) (by kernel_rfl) ?_
      simp only [bc, List.take_succ_cons, List.take_zero, List.drop_succ_cons, List.drop_zero, Act.put, List.setIfInBounds_toArray, List.set_cons_succ, List.set_cons_zero]
      refine ag (v := .bool false) rfl (aN rfl (ev rfl) evk) ?_
      simp only [Act.put, aa, ae, af]
      refine ag (v := .bool false) rfl (aq rfl (ev rfl)) ?_
      simp only [Act.put, aa, ae, af]
      refine wpList_nil ?_
      go_wp2_with fail
      go_ret
      exact ⟨bO (by rw [HV.out]), HB.out⟩
theorem pmmay_b (m : Mrk) (w : World) {b : Bool} (h : mrkB m = b) : Calls Tryz.prog 101 #[mrk m] w fun e w' => e = .returned (.bool b) ∧ Below w.heap.size w w' := by
  subst h
  exact pmmay m w
def sizL : List Value := [.int .i64 8, .int .i64 2, .int .i64 8, .int .i64 8]
def sizV : Value := .agg sizL.toArray
def Siz (w : World) : Prop := w.rangeAt 0 0 sizL
theorem Siz.below {w w' : World} (h : Siz w) (hb : Below w.heap.size w w') : Siz w' :=
  cO h (World.block_lt_of_cell? w _ (h 0 _ rfl)) hb
structure TabM (w : World) : Prop where
  tab : Tab w
  siz : Siz w
theorem TabM.below {w w' : World} (h : TabM w) (hb : Below w.heap.size w w') : TabM w' := ⟨h.tab.below hb, h.siz.below hb⟩
theorem size4i : (Tryz.prog.info? 204).map (·.size) = some 4 := by kernel_rfl
section
variable {ρ : Operand → Value} {o : Oper} {x y : Operand} {w : World} {t : TypeId} {p q u : Value}
theorem exec_loadZ (ho : o.op = .load 204 x) (hx : ρ x = .pointer (some ⟨0, 0, none⟩)) (h : Siz w) : (execOp ρ o).run Tryz.prog w = .ok (.value sizV) w :=
  dy Tryz.underlying204 rfl size4i ho hx h
theorem exec_idx (ho : o.op = .index t x y) (hx : ρ x = p) (hy : ρ y = q) (h : (Instr.index t p q).run Tryz.prog w = .ok u w) : (execOp ρ o).run Tryz.prog w = .ok (.value u) w := by
  unfold execOp
  simp only [ho, hx, hy, Sem.run_bind, h, Result.andThen_ok, Sem.run_pure]
theorem ixZ0 : (Instr.index 204 sizV (.int .i64 0)).run Tryz.prog w = .ok (.int .i64 8) w := by kernel_rfl
theorem ixZ1 : (Instr.index 204 sizV (.int .i64 1)).run Tryz.prog w = .ok (.int .i64 2) w := by kernel_rfl
theorem ixZ2 : (Instr.index 204 sizV (.int .i64 2)).run Tryz.prog w = .ok (.int .i64 8) w := by kernel_rfl
theorem ixZ3 : (Instr.index 204 sizV (.int .i64 3)).run Tryz.prog w = .ok (.int .i64 8) w := by kernel_rfl
end
def celN (a b c d : Nat) : List Value := [.int .u64 a, .int .u64 b, .int .u64 c, .int .u64 d]
def numV (a b c d : Nat) : Value := .agg (celN a b c d).toArray
theorem celN_one (a b c d : Nat) : ∀ v ∈ celN a b c d, v.oneCell' = true := by
  intro v hv
  simp only [celN, List.mem_cons, List.not_mem_nil, or_false] at hv
  rcases hv with rfl | rfl | rfl | rfl <;> rfl
theorem sizeN : (Tryz.prog.info? 203).map (·.size) = some 4 := by kernel_rfl
theorem zeroN_info : (Tryz.prog.info? 203).map (fun i => i.zero) = some (some (numV 0 0 0 0)) := by kernel_rfl
def NumAt (w : World) (g a b c d : Nat) : Prop := w.heap[g]? = some (.cells (celN a b c d).toArray 203 (0, 0))
section
variable {w w' : World} {g a b c d : Nat}
theorem NumAt.cells (h : NumAt w g a b c d) : w.cell? ⟨g, 0, none⟩ = some (.int .u64 a) ∧ w.cell? ⟨g, 1, none⟩ = some (.int .u64 b) ∧ w.cell? ⟨g, 2, none⟩ = some (.int .u64 c) ∧ w.cell? ⟨g, 3, none⟩ = some (.int .u64 d) := by
  have hr := d7 h
  exact ⟨hr 0 _ rfl, hr 1 _ rfl, hr 2 _ rfl, hr 3 _ rfl⟩
theorem NumAt.free (h : NumAt w g a b c d) (j : Nat) : w.frozen? ⟨g, j, none⟩ = false := frozen_of_row w g j _ _ h
theorem NumAt.set {a' b' c' d' j n : Nat} (h : NumAt w g a b c d) (e : (celN a b c d).set j (.int .u64 n) = celN a' b' c' d') : NumAt (w.setCell ⟨g, j, none⟩ (.int .u64 n)) g a' b' c' d' := by
  have := heap_setCell_same w g j (celN a b c d).toArray 203 (.int .u64 n) h
  rw [List.setIfInBounds_toArray, e] at this
  exact this
end
section
variable {ρ : Operand → Value} {o : Oper} {x y z u v : Operand} {w : World} {g a b c d : Nat}
theorem exec_allocN (ho : o.op = .alloc 203) : (execOp ρ o).run Tryz.prog w = .ok (.value (.pointer (some ⟨w.heap.size, 0, none⟩))) (w.alloc (.cells (celN 0 0 0 0).toArray 203)) := df zeroN_info ho
theorem exec_fillNm (ho : o.op = .store 203 x y) (hx : ρ x = .pointer (some ⟨w.heap.size, 0, none⟩)) (hy : ρ y = numV a b c d) : (execOp ρ o).run Tryz.prog (w.alloc (.cells (celN 0 0 0 0).toArray 203)) = .ok .skip (w.alloc (.cells (celN a b c d).toArray 203)) :=
  dP sizeN rfl (celN_one a b c d) ho hx hy
theorem exec_bld4 {t : TypeId} {y0 y1 y2 y3 q : Value} (ho : o.op = .build t #[(0, x), (1, y), (2, z), (3, u)]) (h0 : ρ x = y0) (h1 : ρ y = y1) (h2 : ρ z = y2) (h3 : ρ u = y3)
    (h : (Instr.build t #[(0, y0), (1, y1), (2, y2), (3, y3)]).run Tryz.prog w = .ok q w) : (execOp ρ o).run Tryz.prog w = .ok (.value q) w := by
  subst h0 h1 h2 h3
  unfold execOp
  simp only [ho, List.map_toArray, List.map_cons, List.map_nil, Sem.run_bind, h, Result.andThen_ok, Sem.run_pure]
theorem run_bldN (a b c d : Nat) : (Instr.build 203 #[(0, .int .u64 a), (1, .int .u64 b), (2, .int .u64 c), (3, .int .u64 d)]).run Tryz.prog w = .ok (numV a b c d) w := by kernel_rfl
theorem exec_bldN4 (a b c d : Nat) (ho : o.op = .build 203 #[(0, x), (1, y), (2, z), (3, u)]) (h0 : ρ x = .int .u64 a) (h1 : ρ y = .int .u64 b) (h2 : ρ z = .int .u64 c) (h3 : ρ u = .int .u64 d) : (execOp ρ o).run Tryz.prog w = .ok (.value (numV a b c d)) w :=
  exec_bld4 ho h0 h1 h2 h3 (run_bldN a b c d)
theorem run_bldM4 (a : Nat) (r : Int) (c d : Nat) : (Instr.build 67 #[(0, .int .u64 a), (1, .int .i64 r), (2, .int .u64 c), (3, .int .u64 d)]).run Tryz.prog w = .ok (mrk ⟨a, r, c, d⟩) w := by kernel_rfl
theorem exec_bldM4 (a : Nat) (r : Int) (c d : Nat) (ho : o.op = .build 67 #[(0, x), (1, y), (2, z), (3, u)]) (h0 : ρ x = .int .u64 a) (h1 : ρ y = .int .i64 r) (h2 : ρ z = .int .u64 c) (h3 : ρ u = .int .u64 d) : (execOp ρ o).run Tryz.prog w = .ok (.value (mrk ⟨a, r, c, d⟩)) w :=
  exec_bld4 ho h0 h1 h2 h3 (run_bldM4 a r c d)
theorem ixN {j : Nat} (hj : j < 4) : (Instr.indexAt 203 (.pointer (some ⟨g, 0, none⟩)) (.int .i64 (j : Int))).run Tryz.prog w = .ok (.pointer (some ⟨g, j, none⟩)) w := by
  have e : (0 ≤ (j : Int) ∧ (j : Int) < 4) := by omega
  simp [Instr.indexAt, Instr.sureAddr, asIntOf, run_underlying Tryz.underlying203, Tryz.sizeOf35, Addr.add_mid, e, hj]
theorem ixN0 : (Instr.indexAt 203 (.pointer (some ⟨g, 0, none⟩)) (.int .i64 0)).run Tryz.prog w = .ok (.pointer (some ⟨g, 0, none⟩)) w := ixN (j := 0) (by omega)
theorem ixN1 : (Instr.indexAt 203 (.pointer (some ⟨g, 0, none⟩)) (.int .i64 1)).run Tryz.prog w = .ok (.pointer (some ⟨g, 1, none⟩)) w := ixN (j := 1) (by omega)
theorem ixN2 : (Instr.indexAt 203 (.pointer (some ⟨g, 0, none⟩)) (.int .i64 2)).run Tryz.prog w = .ok (.pointer (some ⟨g, 2, none⟩)) w := ixN (j := 2) (by omega)
theorem ixN3 : (Instr.indexAt 203 (.pointer (some ⟨g, 0, none⟩)) (.int .i64 3)).run Tryz.prog w = .ok (.pointer (some ⟨g, 3, none⟩)) w := ixN (j := 3) (by omega)
end
section
variable {ρ : Operand → Value} {o : Oper} {x y : Operand} {w : World} {g b : Nat} {k : Int} {n : Nat} {ad : Addr}
theorem exec_faM0 (ho : o.op = .fieldAddr 67 x 0) (hx : ρ x = .pointer (some ⟨b, 0, none⟩)) : (execOp ρ o).run Tryz.prog w = .ok (.value (.pointer (some ⟨b, 0, none⟩))) w := ak ho hx faM0
theorem exec_faM1 (ho : o.op = .fieldAddr 67 x 1) (hx : ρ x = .pointer (some ⟨b, 0, none⟩)) : (execOp ρ o).run Tryz.prog w = .ok (.value (.pointer (some ⟨b, 1, none⟩))) w := ak ho hx faM1
theorem exec_faM2 (ho : o.op = .fieldAddr 67 x 2) (hx : ρ x = .pointer (some ⟨b, 0, none⟩)) : (execOp ρ o).run Tryz.prog w = .ok (.value (.pointer (some ⟨b, 2, none⟩))) w := ak ho hx faM2
theorem exec_faM3 (ho : o.op = .fieldAddr 67 x 3) (hx : ρ x = .pointer (some ⟨b, 0, none⟩)) : (execOp ρ o).run Tryz.prog w = .ok (.value (.pointer (some ⟨b, 3, none⟩))) w := ak ho hx faM3
theorem exec_ixN0 (ho : o.op = .indexAddr 203 x y) (hy : ρ y = .int .i64 0) (hx : ρ x = .pointer (some ⟨g, 0, none⟩)) : (execOp ρ o).run Tryz.prog w = .ok (.value (.pointer (some ⟨g, 0, none⟩))) w := dS ho hx hy ixN0
theorem exec_ixN1 (ho : o.op = .indexAddr 203 x y) (hy : ρ y = .int .i64 1) (hx : ρ x = .pointer (some ⟨g, 0, none⟩)) : (execOp ρ o).run Tryz.prog w = .ok (.value (.pointer (some ⟨g, 1, none⟩))) w := dS ho hx hy ixN1
theorem exec_ixN2 (ho : o.op = .indexAddr 203 x y) (hy : ρ y = .int .i64 2) (hx : ρ x = .pointer (some ⟨g, 0, none⟩)) : (execOp ρ o).run Tryz.prog w = .ok (.value (.pointer (some ⟨g, 2, none⟩))) w := dS ho hx hy ixN2
theorem exec_ixN3 (ho : o.op = .indexAddr 203 x y) (hy : ρ y = .int .i64 3) (hx : ρ x = .pointer (some ⟨g, 0, none⟩)) : (execOp ρ o).run Tryz.prog w = .ok (.value (.pointer (some ⟨g, 3, none⟩))) w := dS ho hx hy ixN3
theorem exec_ixZ0 (ho : o.op = .index 204 x y) (hy : ρ y = .int .i64 0) (hx : ρ x = sizV) : (execOp ρ o).run Tryz.prog w = .ok (.value (.int .i64 8)) w := exec_idx ho hx hy ixZ0
theorem exec_ixZ1 (ho : o.op = .index 204 x y) (hy : ρ y = .int .i64 1) (hx : ρ x = sizV) : (execOp ρ o).run Tryz.prog w = .ok (.value (.int .i64 2)) w := exec_idx ho hx hy ixZ1
theorem exec_ixZ2 (ho : o.op = .index 204 x y) (hy : ρ y = .int .i64 2) (hx : ρ x = sizV) : (execOp ρ o).run Tryz.prog w = .ok (.value (.int .i64 8)) w := exec_idx ho hx hy ixZ2
theorem exec_ixZ3 (ho : o.op = .index 204 x y) (hy : ρ y = .int .i64 3) (hx : ρ x = sizV) : (execOp ρ o).run Tryz.prog w = .ok (.value (.int .i64 8)) w := exec_idx ho hx hy ixZ3
end
theorem size44m : (Tryz.prog.info? 187).map (·.size) = some 44 := by kernel_rfl
theorem zero44m_info : (Tryz.prog.info? 187).map (fun i => i.zero) = some (some (arr z44)) := by kernel_rfl
theorem guard44m : Tryz.prog.eqGuardType Tryz.prog.depth 187 = false := by kernel_rfl
section
variable {ρ : Operand → Value} {o : Oper} {x y : Operand} {w : World} {b off g c : Nat} {t : TypeId} {l : List UInt8}
theorem exec_load44m (hl : l.length = 44) (ho : o.op = .load 187 x) (hx : ρ x = .pointer (some ⟨b, off, none⟩)) (hc : w.rangeAt b off (vals l)) : (execOp ρ o).run Tryz.prog w = .ok (.value (arr l)) w :=
  dy Tryz.underlying187 rfl (by rw [bh, hl]; exact size44m) ho hx hc
theorem fK (ho : o.op = .alloc 187) : (execOp ρ o).run Tryz.prog w = .ok (.value (.pointer (some ⟨w.heap.size, 0, none⟩))) (w.alloc (.cells (vals z44).toArray 187)) := df zero44m_info ho
theorem exec_fill44m (hl : l.length = 44) (ho : o.op = .store 187 x y) (hx : ρ x = .pointer (some ⟨w.heap.size, 0, none⟩)) (hy : ρ y = arr l) :
    (execOp ρ o).run Tryz.prog (w.alloc (.cells (vals z44).toArray 187)) = .ok .skip (w.alloc (.cells (vals l).toArray 187)) :=
  dP (by rw [bh, hl]; exact size44m) (by rw [bh, bh, hl, z44_length]) (vals_one l) ho hx hy
theorem exec_put44m (hl : l.length = 44) (ho : o.op = .store 187 x y) (hx : ρ x = .pointer (some ⟨b, off, none⟩)) (hy : ρ y = arr l) (ht : w.there b off 44) : (execOp ρ o).run Tryz.prog w = .ok .skip (w.setCells b off (vals l)) :=
  exec_putT (by rw [bh, hl]; exact size44m) (vals_one l) ho hx hy (by rw [bh, hl]; exact ht)
theorem exec_ne44m {l' : List UInt8} (c : Bool) (ha : l.length = 44) (hb : l'.length = 44) (ho : o.op = .binOp .neq 187 x y t) (hx : ρ x = arr l) (hy : ρ y = arr l') (h : decide (l = l') = c) : (execOp ρ o).run Tryz.prog w = .ok (.value (.bool (!c))) w := by
  subst h; exact exec_neT guard44m (run_eqArr Tryz.underlying187 w l l' ha hb 9998) ho hx hy
theorem exec_all44m (ho : o.op = .slice 187 x none none none) (hx : ρ x = .pointer (some ⟨g, off, none⟩)) : (execOp ρ o).run Tryz.prog w = .ok (.value (.slice (some ⟨g, off, none⟩) 44 44)) w := by
  have h : (Instr.sliceAt 187 (.pointer (some ⟨g, off, none⟩)) none none none).run Tryz.prog w = .ok (.slice (some ⟨g, off, none⟩) 44 44) w := by
    simp [Instr.sliceAt, Instr.sliceBounds, Instr.sliceBound, Instr.sureAddr, asIntOf, run_underlying Tryz.underlying187, Tryz.sizeOf5, Addr.add_mid]
  unfold execOp
  simp only [ho, hx, Option.map_none, Sem.run_bind, h, Result.andThen_ok, Sem.run_pure]
theorem fo (p n : Nat) (hn : p + n = 44) (h0 : 0 < n) (ho : o.op = .slice 187 x (some y) none none) (hx : ρ x = .pointer (some ⟨g, 0, none⟩)) (hy : ρ y = .int .i64 (p : Int)) : (execOp ρ o).run Tryz.prog w = .ok (.value (.slice (some ⟨g, p, none⟩) n n)) w := by
  have e1 : (0 ≤ (p : Int) ∧ (p : Int) ≤ 44) := by omega
  have e2 : p ≤ 44 := by omega
  have e3 : 44 - p = n := by omega
  have e4 : n ≠ 0 := by omega
  have e5 : ¬ 44 = p := by omega
  have h : (Instr.sliceAt 187 (.pointer (some ⟨g, 0, none⟩)) (some (.int .i64 (p : Int))) none none).run Tryz.prog w = .ok (.slice (some ⟨g, p, none⟩) n n) w := by
    simp [Instr.sliceAt, Instr.sliceBounds, Instr.sliceBound, Instr.sureAddr, asIntOf, run_underlying Tryz.underlying187, Tryz.sizeOf5, Addr.add_mid, e1, e2, e3, e4, e5]
  unfold execOp
  simp only [ho, hx, hy, Option.map_none, Option.map_some, Sem.run_bind, h, Result.andThen_ok, Sem.run_pure]
theorem exec_s2am (ho : o.op = .sliceToArrayPointer 187 x) (hx : ρ x = .slice (some ⟨g, 0, none⟩) 44 c) : (execOp ρ o).run Tryz.prog w = .ok (.value (.pointer (some ⟨g, 0, none⟩))) w := by
  unfold execOp
  simp [ho, hx, Instr.arrayAt, run_underlying Tryz.underlying187]
end
section
variable {w : World} {b : Nat}
theorem faNt0 : (Instr.fieldAt 70 (.pointer (some ⟨b, 0, none⟩)) 0).run Tryz.prog w = .ok (.pointer (some ⟨b, 0, none⟩)) w := by kernel_rfl
theorem faNt1 : (Instr.fieldAt 70 (.pointer (some ⟨b, 0, none⟩)) 1).run Tryz.prog w = .ok (.pointer (some ⟨b, 1, none⟩)) w := by kernel_rfl
theorem faNt2 : (Instr.fieldAt 70 (.pointer (some ⟨b, 0, none⟩)) 2).run Tryz.prog w = .ok (.pointer (some ⟨b, 2, none⟩)) w := by kernel_rfl
theorem faNt3 : (Instr.fieldAt 70 (.pointer (some ⟨b, 0, none⟩)) 3).run Tryz.prog w = .ok (.pointer (some ⟨b, 3, none⟩)) w := by kernel_rfl
theorem ldU32 {ad : Addr} {k : Int} (h : w.cell? ad = some (.int .u32 k)) : (Instr.loadAt 68 (.pointer (some ad))).run Tryz.prog w = .ok (.int .u32 k) w := by simp [go_sem, h]
end
section
variable {ρ : Operand → Value} {o : Oper} {x y z u : Operand} {w : World} {t r : TypeId}
theorem dM {a b c : Int} (ho : o.op = .binOp .add t x y r) (hx : ρ x = .int .u64 a) (hy : ρ y = .int .u64 b) (h : IntKind.u64.wrap (a + b) = c) : (execOp ρ o).run Tryz.prog w = .ok (.value (.int .u64 c)) w := by
  unfold execOp
  simp [ho, hx, hy, eqGuard, binOp, Op.intArith, h]
theorem exec_adN {a b : Nat} (ho : o.op = .binOp .add t x y r) (hx : ρ x = .int .u64 (a : Nat)) (hy : ρ y = .int .u64 (b : Nat)) (h : a + b < 18446744073709551616) : (execOp ρ o).run Tryz.prog w = .ok (.value (.int .u64 ((a + b : Nat) : Int))) w :=
  dM ho hx hy (by rw [← Int.natCast_add]; exact IntWalk.u64_in _ ⟨by omega, by omega⟩)
theorem exec_cvIU {n : Nat} (ho : o.op = .convert 3 35 x) (hx : ρ x = .int .i64 (n : Int)) (hn : n < 18446744073709551616) : (execOp ρ o).run Tryz.prog w = .ok (.value (.int .u64 (n : Int))) w := by
  have h : IntKind.u64.wrap (n : Int) = (n : Int) := IntWalk.u64_in _ ⟨by omega, by omega⟩
  have hc : (convert 3 35 (.int .i64 (n : Int))).run Tryz.prog w = .ok (.int .u64 (n : Int)) w := by simp [convert, go_sem, h]
  unfold execOp
  simp only [ho, hx, Sem.run_bind, hc, Result.andThen_ok, Sem.run_pure]
theorem exec_bldf {q : Value} {y0 y1 y2 y3 : Value} (ho : o.op = .build t #[(0, x), (1, y), (2, z), (3, u)]) (h0 : ρ x = y0) (h1 : ρ y = y1) (h2 : ρ z = y2) (h3 : ρ u = y3)
    (h : (Instr.build t #[(0, y0), (1, y1), (2, y2), (3, y3)]).run Tryz.prog w = .ok q w) : (execOp ρ o).run Tryz.prog w = .ok (.value q) w := by
  subst h0 h1 h2 h3
  unfold execOp
  simp only [ho, List.map_toArray, List.map_cons, List.map_nil, Sem.run_bind, h, Result.andThen_ok, Sem.run_pure]
theorem run_bldNt4 (a b : Nat) (c : Int) (d : Nat) : (Instr.build 70 #[(0, .int .u64 a), (1, .int .u64 b), (2, .int .i64 c), (3, .int .u32 d)]).run Tryz.prog w = .ok (nte ⟨a, b, c, d⟩) w := by kernel_rfl
theorem exec_bldNt4 (a b : Nat) (c : Int) (d : Nat) (ho : o.op = .build 70 #[(0, x), (1, y), (2, z), (3, u)]) (h0 : ρ x = .int .u64 a) (h1 : ρ y = .int .u64 b) (h2 : ρ z = .int .i64 c) (h3 : ρ u = .int .u32 d) : (execOp ρ o).run Tryz.prog w = .ok (.value (nte ⟨a, b, c, d⟩)) w :=
  exec_bldf ho h0 h1 h2 h3 (run_bldNt4 a b c d)
end
def mcelB (c : Int) : Bool := decide (1 ≤ c ∧ c ≤ 32)
theorem pntseq (n : Nat) (w : World) : Calls Tryz.prog 193 #[.int .u64 n] w fun e w' => e = .returned (.bool (evB n)) ∧ w = w' := by
  by_cases h : 1 ≤ n
  · go_enter Tryz.func193, Tryz.ntmps193
    go_wp2
    go_ret
    refine ⟨bO ?_, rfl⟩
    unfold evB
    rw [decide_eq_decide]
    omega
  · have h0 : n = 0 := by omega
    subst h0
    go_enter Tryz.func193, Tryz.ntmps193
    go_wp2
    go_ret
    exact ⟨rfl, rfl⟩
theorem pntseq_b (n : Nat) (w : World) {b : Bool} (h : evB n = b) : Calls Tryz.prog 193 #[.int .u64 n] w fun e w' => e = .returned (.bool b) ∧ w = w' := by
  subst h
  exact pntseq n w
theorem pntcel (r : Int) (w : World) : Calls Tryz.prog 194 #[.int .i64 r] w fun e w' => e = .returned (.bool (mcelB r)) ∧ w = w' := by
  by_cases h : 1 ≤ r
  · go_enter Tryz.func194, Tryz.ntmps194
    go_wp2
    go_ret
    refine ⟨bO ?_, rfl⟩
    unfold mcelB
    rw [decide_eq_decide]
    omega
  · go_enter Tryz.func194, Tryz.ntmps194
    go_wp2
    go_ret
    refine ⟨bO ?_, rfl⟩
    unfold mcelB
    exact (decide_eq_false (by omega)).symm
theorem pntcel_b (r : Int) (w : World) {b : Bool} (h : mcelB r = b) : Calls Tryz.prog 194 #[.int .i64 r] w fun e w' => e = .returned (.bool b) ∧ w = w' := by
  subst h
  exact pntcel r w
theorem pntslot (n : Nat) (w : World) (hn : n < 18446744073709551616) : Calls Tryz.prog 130 #[.int .u64 n] w fun e w' => e = .returned (.int .i64 ((n % 8 : Nat) : Int)) ∧ w = w' := by
  go_enter Tryz.func130, Tryz.ntmps130
  go_wp2
  go_ret
  exact ⟨aQ (by omega), rfl⟩
set_option maxHeartbeats 2000000 in
theorem pntmay (m : Nte) (w : World) : Calls Tryz.prog 173 #[nte m] w fun e w' => e = .returned (.bool (nteB m)) ∧ Below w.heap.size w w' := by
  obtain ⟨h1, h2, _⟩ := dr w m
  have HM := Lib.hid h1
  have HB := Lib.hid h2
  clear h1 h2
  go_enter Tryz.func173, Tryz.ntmps173
  go_upto_region 1 with (first | (refine ag rfl (cI rfl rfl) ?_) | fail)
  generalize w.alloc (.cells (aS m).toArray 70) = w1 at *
  by_cases k0 : 1 ≤ m.seq ∧ m.seq ≤ 4611686018427387904
  · have H0 : Hid (evB m.seq = true) := Lib.hid (decide_eq_true k0)
    by_cases k1 : m.pos ≤ 4611686018427387904
    · have H1 : Hid (decide ((m.pos : Int) ≤ 4611686018427387904) = true) := Lib.hid (decide_eq_true (by omega))
      by_cases k2 : 1 ≤ m.cells ∧ m.cells ≤ 32
      · have H2 : Hid (mcelB m.cells = true) := Lib.hid (decide_eq_true k2)
        have HV : Hid (nteB m = true) := Lib.hid (decide_eq_true (by omega))
        clear k0 k1 k2
        refine wp_region_lit ?_
        refine ag rfl (ak rfl (ev rfl) faNt0) ?_
        simp only [Act.put, aa, ae, af]
        refine ag rfl (av rfl (ev rfl) (bR HM.out.cells.1)) ?_
        simp only [Act.put, aa, ae, af]
        refine ao rfl (au Tryz.call193 rfl (evc (ev rfl) evn)) ?_
        refine (pntseq_b m.seq _ H0.out).mono ?_
        rintro e w' ⟨rfl, rfl⟩
        refine ⟨_, rfl, ?_⟩
        simp only [Act.put, aa, ae, af]
        refine ag (v := .bool true) rfl (ah rfl (ev rfl)) ?_
        simp only [Act.put, aa, ae, af]
        refine ai (aj rfl rfl rfl rfl) (ak rfl (ev rfl) faNt1) ?_
        simp only [Act.put, aa, ae, af]
        refine ai (aj rfl rfl rfl rfl) (av rfl (ev rfl) (bR HM.out.cells.2.1)) ?_
        simp only [Act.put, aa, ae, af]
        refine ai (v := .bool true) (aj rfl rfl rfl rfl) (exec_leq true rfl (ev rfl) evk H1.out) ?_
        simp only [Act.put, aa, ae, af]
        refine ag (v := .bool true) rfl (aM rfl (ev rfl) (ev rfl)) ?_
        simp only [Act.put, aa, ae, af]
        refine ag (v := .bool true) rfl (ah rfl (ev rfl)) ?_
        simp only [Act.put, aa, ae, af]
        refine ai (aj rfl rfl rfl rfl) (ak rfl (ev rfl) faNt2) ?_
        simp only [Act.put, aa, ae, af]
        refine ai (aj rfl rfl rfl rfl) (av rfl (ev rfl) (bW HM.out.cells.2.2.1)) ?_
        simp only [Act.put, aa, ae, af]
        refine ao (aj rfl rfl rfl rfl) (au Tryz.call194 rfl (evc (ev rfl) evn)) ?_
        refine (pntcel_b m.cells _ H2.out).mono ?_
        rintro e w' ⟨rfl, rfl⟩
        refine ⟨_, rfl, ?_⟩
        simp only [Act.put, aa, ae, af]
        refine ag (v := .bool true) rfl (aM rfl (ev rfl) (ev rfl)) ?_
        simp only [Act.put, aa, ae, af]
        refine ag (v := .bool true) rfl (aq rfl (ev rfl)) ?_
        simp only [Act.put, aa, ae, af]
        refine wpList_nil ?_
        go_wp2_with fail
        go_ret
        exact ⟨bO (by rw [HV.out]), HB.out⟩
      · have H2 : Hid (mcelB m.cells = false) := Lib.hid (decide_eq_false k2)
        have HV : Hid (nteB m = false) := Lib.hid (decide_eq_false (by omega))
        clear k0 k1 k2
        refine wp_region_lit ?_
        refine ag rfl (ak rfl (ev rfl) faNt0) ?_
        simp only [Act.put, aa, ae, af]
        refine ag rfl (av rfl (ev rfl) (bR HM.out.cells.1)) ?_
        simp only [Act.put, aa, ae, af]
        refine ao rfl (au Tryz.call193 rfl (evc (ev rfl) evn)) ?_
        refine (pntseq_b m.seq _ H0.out).mono ?_
        rintro e w' ⟨rfl, rfl⟩
        refine ⟨_, rfl, ?_⟩
        simp only [Act.put, aa, ae, af]
        refine ag (v := .bool true) rfl (ah rfl (ev rfl)) ?_
        simp only [Act.put, aa, ae, af]
        refine ai (aj rfl rfl rfl rfl) (ak rfl (ev rfl) faNt1) ?_
        simp only [Act.put, aa, ae, af]
        refine ai (aj rfl rfl rfl rfl) (av rfl (ev rfl) (bR HM.out.cells.2.1)) ?_
        simp only [Act.put, aa, ae, af]
        refine ai (v := .bool true) (aj rfl rfl rfl rfl) (exec_leq true rfl (ev rfl) evk H1.out) ?_
        simp only [Act.put, aa, ae, af]
        refine ag (v := .bool true) rfl (aM rfl (ev rfl) (ev rfl)) ?_
        simp only [Act.put, aa, ae, af]
        refine ag (v := .bool true) rfl (ah rfl (ev rfl)) ?_
        simp only [Act.put, aa, ae, af]
        refine ai (aj rfl rfl rfl rfl) (ak rfl (ev rfl) faNt2) ?_
        simp only [Act.put, aa, ae, af]
        refine ai (aj rfl rfl rfl rfl) (av rfl (ev rfl) (bW HM.out.cells.2.2.1)) ?_
        simp only [Act.put, aa, ae, af]
        refine ao (aj rfl rfl rfl rfl) (au Tryz.call194 rfl (evc (ev rfl) evn)) ?_
        refine (pntcel_b m.cells _ H2.out).mono ?_
        rintro e w' ⟨rfl, rfl⟩
        refine ⟨_, rfl, ?_⟩
        simp only [Act.put, aa, ae, af]
        refine ag (v := .bool false) rfl (aM rfl (ev rfl) (ev rfl)) ?_
        simp only [Act.put, aa, ae, af]
        refine ag (v := .bool false) rfl (aq rfl (ev rfl)) ?_
        simp only [Act.put, aa, ae, af]
        refine wpList_nil ?_
        go_wp2_with fail
        go_ret
        exact ⟨bO (by rw [HV.out]), HB.out⟩
    · have H1 : Hid (decide ((m.pos : Int) ≤ 4611686018427387904) = false) := Lib.hid (decide_eq_false (by omega))
      have HV : Hid (nteB m = false) := Lib.hid (decide_eq_false (by omega))
      clear k0 k1
      refine wp_region_lit ?_
      refine ag rfl (ak rfl (ev rfl) faNt0) ?_
      simp only [Act.put, aa, ae, af]
      refine ag rfl (av rfl (ev rfl) (bR HM.out.cells.1)) ?_
      simp only [Act.put, aa, ae, af]
      refine ao rfl (au Tryz.call193 rfl (evc (ev rfl) evn)) ?_
      refine (pntseq_b m.seq _ H0.out).mono ?_
      rintro e w' ⟨rfl, rfl⟩
      refine ⟨_, rfl, ?_⟩
      simp only [Act.put, aa, ae, af]
      refine ag (v := .bool true) rfl (ah rfl (ev rfl)) ?_
      simp only [Act.put, aa, ae, af]
      refine ai (aj rfl rfl rfl rfl) (ak rfl (ev rfl) faNt1) ?_
      simp only [Act.put, aa, ae, af]
      refine ai (aj rfl rfl rfl rfl) (av rfl (ev rfl) (bR HM.out.cells.2.1)) ?_
      simp only [Act.put, aa, ae, af]
      refine ai (v := .bool false) (aj rfl rfl rfl rfl) (exec_leq false rfl (ev rfl) evk H1.out) ?_
      simp only [Act.put, aa, ae, af]
      refine ag (v := .bool false) rfl (aM rfl (ev rfl) (ev rfl)) ?_
      simp only [Act.put, aa, ae, af]
      refine aO 3 (v := .bool false) rfl (ah rfl (ev rfl)) (by kernel_rfl) ?_
      simp only [bc, List.take_succ_cons, List.take_zero, List.drop_succ_cons, List.drop_zero, Act.put, List.setIfInBounds_toArray, List.set_cons_succ, List.set_cons_zero]
      refine ag (v := .bool false) rfl (aN rfl (ev rfl) evk) ?_
      simp only [Act.put, aa, ae, af]
      refine ag (v := .bool false) rfl (aq rfl (ev rfl)) ?_
      simp only [Act.put, aa, ae, af]
      refine wpList_nil ?_
      go_wp2_with fail
      go_ret
      exact ⟨bO (by rw [HV.out]), HB.out⟩
  · have H0 : Hid (evB m.seq = false) := Lib.hid (decide_eq_false k0)
    have HV : Hid (nteB m = false) := Lib.hid (decide_eq_false (by omega))
    clear k0
    refine wp_region_lit ?_
    refine ag rfl (ak rfl (ev rfl) faNt0) ?_
    simp only [Act.put, aa, ae, af]
    refine ag rfl (av rfl (ev rfl) (bR HM.out.cells.1)) ?_
    simp only [Act.put, aa, ae, af]
    refine ao rfl (au Tryz.call193 rfl (evc (ev rfl) evn)) ?_
    refine (pntseq_b m.seq _ H0.out).mono ?_
    rintro e w' ⟨rfl, rfl⟩
    refine ⟨_, rfl, ?_⟩
    simp only [Act.put, aa, ae, af]
    refine aO 3 (v := .bool false) rfl (ah rfl (ev rfl)) (by kernel_rfl) ?_
    simp only [bc, List.take_succ_cons, List.take_zero, List.drop_succ_cons, List.drop_zero, Act.put, List.setIfInBounds_toArray, List.set_cons_succ, List.set_cons_zero]
    refine ag (v := .bool false) rfl (aN rfl (ev rfl) evk) ?_
    simp only [Act.put, aa, ae, af]
    refine aO 3 (v := .bool false) rfl (ah rfl (ev rfl)) (by kernel_rfl) ?_
    simp only [bc, List.take_succ_cons, List.take_zero, List.drop_succ_cons, List.drop_zero, Act.put, List.setIfInBounds_toArray, List.set_cons_succ, List.set_cons_zero]
    refine ag (v := .bool false) rfl (aN rfl (ev rfl) evk) ?_
    simp only [Act.put, aa, ae, af]
    refine ag (v := .bool false) rfl (aq rfl (ev rfl)) ?_
    simp only [Act.put, aa, ae, af]
    refine wpList_nil ?_
    go_wp2_with fail
    go_ret
    exact ⟨bO (by rw [HV.out]), HB.out⟩
theorem pntmay_b (m : Nte) (w : World) {b : Bool} (h : nteB m = b) : Calls Tryz.prog 173 #[nte m] w fun e w' => e = .returned (.bool b) ∧ Below w.heap.size w w' := by
  subst h
  exact pntmay m w
def sizLn : List Value := [.int .i64 8, .int .i64 2, .int .i64 4]
def sizVn : Value := .agg sizLn.toArray
def SizNt (w : World) : Prop := w.rangeAt 1 0 sizLn
theorem SizNt.below {w w' : World} (h : SizNt w) (hb : Below w.heap.size w w') : SizNt w' :=
  cO h (World.block_lt_of_cell? w _ (h 0 _ rfl)) hb
structure TabNt (w : World) : Prop where
  tab : Tab w
  siz : SizNt w
theorem TabNt.below {w w' : World} (h : TabNt w) (hb : Below w.heap.size w w') : TabNt w' := ⟨h.tab.below hb, h.siz.below hb⟩
theorem size3i : (Tryz.prog.info? 214).map (·.size) = some 3 := by kernel_rfl
section
variable {ρ : Operand → Value} {o : Oper} {x y : Operand} {w : World} {t : TypeId} {p q u : Value}
theorem exec_loadZn (ho : o.op = .load 214 x) (hx : ρ x = .pointer (some ⟨1, 0, none⟩)) (h : SizNt w) : (execOp ρ o).run Tryz.prog w = .ok (.value sizVn) w :=
  dy Tryz.underlying214 rfl size3i ho hx h
theorem exec_idxn (ho : o.op = .index t x y) (hx : ρ x = p) (hy : ρ y = q) (h : (Instr.index t p q).run Tryz.prog w = .ok u w) : (execOp ρ o).run Tryz.prog w = .ok (.value u) w := by
  unfold execOp
  simp only [ho, hx, hy, Sem.run_bind, h, Result.andThen_ok, Sem.run_pure]
theorem ixZn0 : (Instr.index 214 sizVn (.int .i64 0)).run Tryz.prog w = .ok (.int .i64 8) w := by kernel_rfl
theorem ixZn1 : (Instr.index 214 sizVn (.int .i64 1)).run Tryz.prog w = .ok (.int .i64 2) w := by kernel_rfl
theorem ixZn2 : (Instr.index 214 sizVn (.int .i64 2)).run Tryz.prog w = .ok (.int .i64 4) w := by kernel_rfl
theorem exec_ixZn0 (ho : o.op = .index 214 x y) (hy : ρ y = .int .i64 0) (hx : ρ x = sizVn) : (execOp ρ o).run Tryz.prog w = .ok (.value (.int .i64 8)) w := exec_idxn ho hx hy ixZn0
theorem exec_ixZn1 (ho : o.op = .index 214 x y) (hy : ρ y = .int .i64 1) (hx : ρ x = sizVn) : (execOp ρ o).run Tryz.prog w = .ok (.value (.int .i64 2)) w := exec_idxn ho hx hy ixZn1
theorem exec_ixZn2 (ho : o.op = .index 214 x y) (hy : ρ y = .int .i64 2) (hx : ρ x = sizVn) : (execOp ρ o).run Tryz.prog w = .ok (.value (.int .i64 4)) w := exec_idxn ho hx hy ixZn2
end
def dW (a b c : Nat) : List Value := [.int .u64 a, .int .u64 b, .int .u64 c]
def numVn (a b c : Nat) : Value := .agg (dW a b c).toArray
theorem celNn_one (a b c : Nat) : ∀ v ∈ dW a b c, v.oneCell' = true := by
  intro v hv
  simp only [dW, List.mem_cons, List.not_mem_nil, or_false] at hv
  rcases hv with rfl | rfl | rfl <;> rfl
theorem sizeNn : (Tryz.prog.info? 213).map (·.size) = some 3 := by kernel_rfl
theorem zeroNn_info : (Tryz.prog.info? 213).map (fun i => i.zero) = some (some (numVn 0 0 0)) := by kernel_rfl
def NumAtn (w : World) (g a b c : Nat) : Prop := w.heap[g]? = some (.cells (dW a b c).toArray 213 (0, 0))
section
variable {w w' : World} {g a b c : Nat}
theorem NumAtn.cells (h : NumAtn w g a b c) : w.cell? ⟨g, 0, none⟩ = some (.int .u64 a) ∧ w.cell? ⟨g, 1, none⟩ = some (.int .u64 b) ∧ w.cell? ⟨g, 2, none⟩ = some (.int .u64 c) := by
  have hr := d7 h
  exact ⟨hr 0 _ rfl, hr 1 _ rfl, hr 2 _ rfl⟩
theorem NumAtn.free (h : NumAtn w g a b c) (j : Nat) : w.frozen? ⟨g, j, none⟩ = false := frozen_of_row w g j _ _ h
theorem NumAtn.set {a' b' c' j n : Nat} (h : NumAtn w g a b c) (e : (dW a b c).set j (.int .u64 n) = dW a' b' c') : NumAtn (w.setCell ⟨g, j, none⟩ (.int .u64 n)) g a' b' c' := by
  have := heap_setCell_same w g j (dW a b c).toArray 213 (.int .u64 n) h
  rw [List.setIfInBounds_toArray, e] at this
  exact this
end
section
variable {ρ : Operand → Value} {o : Oper} {x y z u v : Operand} {w : World} {g a b c : Nat}
theorem exec_allocNn (ho : o.op = .alloc 213) : (execOp ρ o).run Tryz.prog w = .ok (.value (.pointer (some ⟨w.heap.size, 0, none⟩))) (w.alloc (.cells (dW 0 0 0).toArray 213)) := df zeroNn_info ho
theorem exec_fillNn (ho : o.op = .store 213 x y) (hx : ρ x = .pointer (some ⟨w.heap.size, 0, none⟩)) (hy : ρ y = numVn a b c) : (execOp ρ o).run Tryz.prog (w.alloc (.cells (dW 0 0 0).toArray 213)) = .ok .skip (w.alloc (.cells (dW a b c).toArray 213)) :=
  dP sizeNn rfl (celNn_one a b c) ho hx hy
theorem exec_bld3n {t : TypeId} {y0 y1 y2 q : Value} (ho : o.op = .build t #[(0, x), (1, y), (2, z)]) (h0 : ρ x = y0) (h1 : ρ y = y1) (h2 : ρ z = y2)
    (h : (Instr.build t #[(0, y0), (1, y1), (2, y2)]).run Tryz.prog w = .ok q w) : (execOp ρ o).run Tryz.prog w = .ok (.value q) w := by
  subst h0 h1 h2
  unfold execOp
  simp only [ho, List.map_toArray, List.map_cons, List.map_nil, Sem.run_bind, h, Result.andThen_ok, Sem.run_pure]
theorem run_bldNn (a b c : Nat) : (Instr.build 213 #[(0, .int .u64 a), (1, .int .u64 b), (2, .int .u64 c)]).run Tryz.prog w = .ok (numVn a b c) w := by kernel_rfl
theorem exec_bldNn3 (a b c : Nat) (ho : o.op = .build 213 #[(0, x), (1, y), (2, z)]) (h0 : ρ x = .int .u64 a) (h1 : ρ y = .int .u64 b) (h2 : ρ z = .int .u64 c) : (execOp ρ o).run Tryz.prog w = .ok (.value (numVn a b c)) w :=
  exec_bld3n ho h0 h1 h2 (run_bldNn a b c)
theorem ixNn {j : Nat} (hj : j < 3) : (Instr.indexAt 213 (.pointer (some ⟨g, 0, none⟩)) (.int .i64 (j : Int))).run Tryz.prog w = .ok (.pointer (some ⟨g, j, none⟩)) w := by
  have e : (0 ≤ (j : Int) ∧ (j : Int) < 3) := by omega
  simp [Instr.indexAt, Instr.sureAddr, asIntOf, run_underlying Tryz.underlying213, Tryz.sizeOf35, Addr.add_mid, e, hj]
theorem ixNn0 : (Instr.indexAt 213 (.pointer (some ⟨g, 0, none⟩)) (.int .i64 0)).run Tryz.prog w = .ok (.pointer (some ⟨g, 0, none⟩)) w := ixNn (j := 0) (by omega)
theorem ixNn1 : (Instr.indexAt 213 (.pointer (some ⟨g, 0, none⟩)) (.int .i64 1)).run Tryz.prog w = .ok (.pointer (some ⟨g, 1, none⟩)) w := ixNn (j := 1) (by omega)
theorem ixNn2 : (Instr.indexAt 213 (.pointer (some ⟨g, 0, none⟩)) (.int .i64 2)).run Tryz.prog w = .ok (.pointer (some ⟨g, 2, none⟩)) w := ixNn (j := 2) (by omega)
theorem exec_ixNn0 (ho : o.op = .indexAddr 213 x y) (hy : ρ y = .int .i64 0) (hx : ρ x = .pointer (some ⟨g, 0, none⟩)) : (execOp ρ o).run Tryz.prog w = .ok (.value (.pointer (some ⟨g, 0, none⟩))) w := dS ho hx hy ixNn0
theorem exec_ixNn1 (ho : o.op = .indexAddr 213 x y) (hy : ρ y = .int .i64 1) (hx : ρ x = .pointer (some ⟨g, 0, none⟩)) : (execOp ρ o).run Tryz.prog w = .ok (.value (.pointer (some ⟨g, 1, none⟩))) w := dS ho hx hy ixNn1
theorem exec_ixNn2 (ho : o.op = .indexAddr 213 x y) (hy : ρ y = .int .i64 2) (hx : ρ x = .pointer (some ⟨g, 0, none⟩)) : (execOp ρ o).run Tryz.prog w = .ok (.value (.pointer (some ⟨g, 2, none⟩))) w := dS ho hx hy ixNn2
theorem exec_faNt1 {b : Nat} (ho : o.op = .fieldAddr 70 x 1) (hx : ρ x = .pointer (some ⟨b, 0, none⟩)) : (execOp ρ o).run Tryz.prog w = .ok (.value (.pointer (some ⟨b, 1, none⟩))) w := ak ho hx faNt1
theorem exec_faNt2 {b : Nat} (ho : o.op = .fieldAddr 70 x 2) (hx : ρ x = .pointer (some ⟨b, 0, none⟩)) : (execOp ρ o).run Tryz.prog w = .ok (.value (.pointer (some ⟨b, 2, none⟩))) w := ak ho hx faNt2
theorem exec_faNt3 {b : Nat} (ho : o.op = .fieldAddr 70 x 3) (hx : ρ x = .pointer (some ⟨b, 0, none⟩)) : (execOp ρ o).run Tryz.prog w = .ok (.value (.pointer (some ⟨b, 3, none⟩))) w := ak ho hx faNt3
end
theorem size44n : (Tryz.prog.info? 194).map (·.size) = some 44 := by kernel_rfl
theorem zero44n_info : (Tryz.prog.info? 194).map (fun i => i.zero) = some (some (arr z44)) := by kernel_rfl
theorem guard44n : Tryz.prog.eqGuardType Tryz.prog.depth 194 = false := by kernel_rfl
section
variable {ρ : Operand → Value} {o : Oper} {x y : Operand} {w : World} {b off g c : Nat} {t : TypeId} {l : List UInt8}
theorem exec_load44n (hl : l.length = 44) (ho : o.op = .load 194 x) (hx : ρ x = .pointer (some ⟨b, off, none⟩)) (hc : w.rangeAt b off (vals l)) : (execOp ρ o).run Tryz.prog w = .ok (.value (arr l)) w :=
  dy Tryz.underlying194 rfl (by rw [bh, hl]; exact size44n) ho hx hc
theorem fN (ho : o.op = .alloc 194) : (execOp ρ o).run Tryz.prog w = .ok (.value (.pointer (some ⟨w.heap.size, 0, none⟩))) (w.alloc (.cells (vals z44).toArray 194)) := df zero44n_info ho
theorem exec_fill44n (hl : l.length = 44) (ho : o.op = .store 194 x y) (hx : ρ x = .pointer (some ⟨w.heap.size, 0, none⟩)) (hy : ρ y = arr l) :
    (execOp ρ o).run Tryz.prog (w.alloc (.cells (vals z44).toArray 194)) = .ok .skip (w.alloc (.cells (vals l).toArray 194)) :=
  dP (by rw [bh, hl]; exact size44n) (by rw [bh, bh, hl, z44_length]) (vals_one l) ho hx hy
theorem exec_put44n (hl : l.length = 44) (ho : o.op = .store 194 x y) (hx : ρ x = .pointer (some ⟨b, off, none⟩)) (hy : ρ y = arr l) (ht : w.there b off 44) : (execOp ρ o).run Tryz.prog w = .ok .skip (w.setCells b off (vals l)) :=
  exec_putT (by rw [bh, hl]; exact size44n) (vals_one l) ho hx hy (by rw [bh, hl]; exact ht)
theorem exec_ne44n {l' : List UInt8} (c : Bool) (ha : l.length = 44) (hb : l'.length = 44) (ho : o.op = .binOp .neq 194 x y t) (hx : ρ x = arr l) (hy : ρ y = arr l') (h : decide (l = l') = c) : (execOp ρ o).run Tryz.prog w = .ok (.value (.bool (!c))) w := by
  subst h; exact exec_neT guard44n (run_eqArr Tryz.underlying194 w l l' ha hb 9998) ho hx hy
theorem exec_all44n (ho : o.op = .slice 194 x none none none) (hx : ρ x = .pointer (some ⟨g, off, none⟩)) : (execOp ρ o).run Tryz.prog w = .ok (.value (.slice (some ⟨g, off, none⟩) 44 44)) w := by
  have h : (Instr.sliceAt 194 (.pointer (some ⟨g, off, none⟩)) none none none).run Tryz.prog w = .ok (.slice (some ⟨g, off, none⟩) 44 44) w := by
    simp [Instr.sliceAt, Instr.sliceBounds, Instr.sliceBound, Instr.sureAddr, asIntOf, run_underlying Tryz.underlying194, Tryz.sizeOf5, Addr.add_mid]
  unfold execOp
  simp only [ho, hx, Option.map_none, Sem.run_bind, h, Result.andThen_ok, Sem.run_pure]
theorem exec_from44n (p n : Nat) (hn : p + n = 44) (h0 : 0 < n) (ho : o.op = .slice 194 x (some y) none none) (hx : ρ x = .pointer (some ⟨g, 0, none⟩)) (hy : ρ y = .int .i64 (p : Int)) : (execOp ρ o).run Tryz.prog w = .ok (.value (.slice (some ⟨g, p, none⟩) n n)) w := by
  have e1 : (0 ≤ (p : Int) ∧ (p : Int) ≤ 44) := by omega
  have e2 : p ≤ 44 := by omega
  have e3 : 44 - p = n := by omega
  have e4 : n ≠ 0 := by omega
  have e5 : ¬ 44 = p := by omega
  have h : (Instr.sliceAt 194 (.pointer (some ⟨g, 0, none⟩)) (some (.int .i64 (p : Int))) none none).run Tryz.prog w = .ok (.slice (some ⟨g, p, none⟩) n n) w := by
    simp [Instr.sliceAt, Instr.sliceBounds, Instr.sliceBound, Instr.sureAddr, asIntOf, run_underlying Tryz.underlying194, Tryz.sizeOf5, Addr.add_mid, e1, e2, e3, e4, e5]
  unfold execOp
  simp only [ho, hx, hy, Option.map_none, Option.map_some, Sem.run_bind, h, Result.andThen_ok, Sem.run_pure]
theorem exec_s2an (ho : o.op = .sliceToArrayPointer 194 x) (hx : ρ x = .slice (some ⟨g, 0, none⟩) 44 c) : (execOp ρ o).run Tryz.prog w = .ok (.value (.pointer (some ⟨g, 0, none⟩))) w := by
  unfold execOp
  simp [ho, hx, Instr.arrayAt, run_underlying Tryz.underlying194]
end
def tblk (b : Nat) : Prop := b = 2 ∨ b = 0 ∨ b = 1
structure Tbs (w : World) : Prop where
  m : TabM w
  n : TabNt w
theorem lt_of_cell {w : World} {b j : Nat} {v : Value} (h : w.cell? ⟨b, j, none⟩ = some v) : b < w.heap.size := by
  rcases Nat.lt_or_ge b w.heap.size with h' | h'
  · exact h'
  · have : w.heap[b]? = none := Array.getElem?_eq_none h'
    simp [World.cell?, this] at h
theorem Tbs.lt {w : World} (h : Tbs w) {b : Nat} (hb : tblk b) : b < w.heap.size := by
  rcases hb with rfl | rfl | rfl
  · exact lt_of_cell (h.m.tab 0 (by omega))
  · exact lt_of_cell (h.m.siz 0 _ rfl)
  · exact lt_of_cell (h.n.siz 0 _ rfl)
theorem Tbs.keep {w w' : World} (h : Tbs w) (hk : ∀ b, tblk b → w'.heap[b]? = w.heap[b]?) : Tbs w' := by
  have h1 := hk _ (.inl rfl)
  have h2 := hk _ (.inr (.inl rfl))
  have h3 := hk _ (.inr (.inr rfl))
  have ht : Tab w' := fun i hi => (World.cell?_of_block (w := w) h1).trans (h.m.tab i hi)
  exact ⟨⟨ht, fun j v hj => (World.cell?_of_block (w := w) h2).trans (h.m.siz j v hj)⟩, ⟨ht, fun j v hj => (World.cell?_of_block (w := w) h3).trans (h.n.siz j v hj)⟩⟩
theorem Tbs.only {w w' : World} {G : Nat → Prop} (h : Tbs w) (ho : Only G w w') (hn : ∀ b, tblk b → ¬ G b) : Tbs w' := h.keep fun b hb => ho.block b (h.lt hb) (hn b hb)
theorem Tbs.below {w w' : World} (h : Tbs w) (hb : Below w.heap.size w w') : Tbs w' := h.keep fun b hb' => hb.block b (h.lt hb')
structure TbG (w : World) (G : Nat → Prop) : Prop where
  t : Tbs w
  off : ∀ b, tblk b → ¬ G b
structure Bas (w0 : World) (B : Nat) : Prop where
  le : B ≤ w0.heap.size
  t : Tbs w0
  lo : ∀ b, tblk b → b < B
theorem Bas.start {w : World} (h : Tbs w) : Bas w w.heap.size := ⟨Nat.le_refl _, h, fun b hb => h.lt hb⟩
theorem Bas.tab {w0 w : World} {B : Nat} (h : Bas w0 B) (hb : Below B w0 w) : Tbs w := h.t.keep fun b hb' => hb.block b (h.lo b hb')
theorem Bas.tabG {w0 w : World} {B : Nat} {G : Nat → Prop} (h : Bas w0 B) (hb : Below B w0 w) (hG : ∀ b, G b → B ≤ b) : TbG w G := ⟨h.tab hb, fun b h1 h2 => by have := h.lo b h1; have := hG b h2; omega⟩
end Go.Proofs.YtcafafdimcecpaaGreatDoor
