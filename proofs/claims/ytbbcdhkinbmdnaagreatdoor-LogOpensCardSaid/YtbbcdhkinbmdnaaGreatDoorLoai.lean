import Derived.Test.YtbbcdhkinbmdnaaGreatDoorLoaf
import Derived.Test.YtbbcdhkinbmdnaaGreatDoorLoah
import Derived.Deep.DeepCutAuto
import Derived.Test.YtbbcdhkinbmdnaaGreatDoorLoaa
import Derived.Laws.AppendOwn
import Derived.Laws.OwnMore
import Derived.Test.YtbbcdhkinbmdnaaGreatDoorLoad
import Derived.Test.YtbbcdhkinbmdnaaGreatDoorLoab
import Derived.Test.YtbbcdhkinbmdnaaGreatDoorLoac
import Derived.Test.YtbbcdhkinbmdnaaGreatDoorLoZ
namespace Go.Proofs.YtbbcdhkinbmdnaaGreatDoor
open Go.RowKit
set_option linter.unusedVariables false
set_option linter.unusedSimpArgs false
set_option maxRecDepth 100000
section
variable {w : World} {b : Nat}
theorem faNt0 : (Instr.fieldAt 35 (.pointer (some ⟨b, 0, none⟩)) 0).run Tryz.prog w = .ok (.pointer (some ⟨b, 0, none⟩)) w := by kernel_rfl
theorem faNt1 : (Instr.fieldAt 35 (.pointer (some ⟨b, 0, none⟩)) 1).run Tryz.prog w = .ok (.pointer (some ⟨b, 1, none⟩)) w := by kernel_rfl
theorem faNt2 : (Instr.fieldAt 35 (.pointer (some ⟨b, 0, none⟩)) 2).run Tryz.prog w = .ok (.pointer (some ⟨b, 2, none⟩)) w := by kernel_rfl
theorem faNt3 : (Instr.fieldAt 35 (.pointer (some ⟨b, 0, none⟩)) 3).run Tryz.prog w = .ok (.pointer (some ⟨b, 3, none⟩)) w := by kernel_rfl
theorem ldU32 {ad : Addr} {k : Int} (h : w.cell? ad = some (.int .u32 k)) : (Instr.loadAt 33 (.pointer (some ad))).run Tryz.prog w = .ok (.int .u32 k) w := by simp [go_sem, h]
end
section
variable {ρ : Operand → Value} {o : Oper} {x y z u : Operand} {w : World} {t r : TypeId}
theorem exec_adU {a b c : Int} (ho : o.op = .binOp .add t x y r) (hx : ρ x = .int .u64 a) (hy : ρ y = .int .u64 b) (h : IntKind.u64.wrap (a + b) = c) : (execOp ρ o).run Tryz.prog w = .ok (.value (.int .u64 c)) w := by
 unfold execOp
 simp [ho, hx, hy, eqGuard, binOp, Op.intArith, h]
theorem exec_adN {a b : Nat} (ho : o.op = .binOp .add t x y r) (hx : ρ x = .int .u64 (a : Nat)) (hy : ρ y = .int .u64 (b : Nat)) (h : a + b < 18446744073709551616) : (execOp ρ o).run Tryz.prog w = .ok (.value (.int .u64 ((a + b : Nat) : Int))) w :=
 exec_adU ho hx hy (by rw [← Int.natCast_add]; exact IntWalk.u64_in _ ⟨by omega, by omega⟩)
theorem exec_cvIU {n : Nat} (ho : o.op = .convert 3 30 x) (hx : ρ x = .int .i64 (n : Int)) (hn : n < 18446744073709551616) : (execOp ρ o).run Tryz.prog w = .ok (.value (.int .u64 (n : Int))) w := by
 have h : IntKind.u64.wrap (n : Int) = (n : Int) := IntWalk.u64_in _ ⟨by omega, by omega⟩
 have hc : (convert 3 30 (.int .i64 (n : Int))).run Tryz.prog w = .ok (.int .u64 (n : Int)) w := by simp [convert, go_sem, h]
 unfold execOp
 simp only [ho, hx, Sem.run_bind, hc, Result.andThen_ok, Sem.run_pure]
theorem exec_bldf {q : Value} {y0 y1 y2 y3 : Value} (ho : o.op = .build t #[(0, x), (1, y), (2, z), (3, u)]) (h0 : ρ x = y0) (h1 : ρ y = y1) (h2 : ρ z = y2) (h3 : ρ u = y3)
  (h : (Instr.build t #[(0, y0), (1, y1), (2, y2), (3, y3)]).run Tryz.prog w = .ok q w) : (execOp ρ o).run Tryz.prog w = .ok (.value q) w := by
 subst h0 h1 h2 h3
 unfold execOp
 simp only [ho, List.map_toArray, List.map_cons, List.map_nil, Sem.run_bind, h, Result.andThen_ok, Sem.run_pure]
theorem run_bldNt4 (a b : Nat) (c : Int) (d : Nat) : (Instr.build 35 #[(0, .int .u64 a), (1, .int .u64 b), (2, .int .i64 c), (3, .int .u32 d)]).run Tryz.prog w = .ok (nte ⟨a, b, c, d⟩) w := by kernel_rfl
theorem exec_bldNt4 (a b : Nat) (c : Int) (d : Nat) (ho : o.op = .build 35 #[(0, x), (1, y), (2, z), (3, u)]) (h0 : ρ x = .int .u64 a) (h1 : ρ y = .int .u64 b) (h2 : ρ z = .int .i64 c) (h3 : ρ u = .int .u32 d) : (execOp ρ o).run Tryz.prog w = .ok (.value (nte ⟨a, b, c, d⟩)) w :=
 exec_bldf ho h0 h1 h2 h3 (run_bldNt4 a b c d)
end
def mcelB (c : Int) : Bool := decide (1 ≤ c ∧ c ≤ 32)
theorem pntseq (n : Nat) (w : World) : Calls Tryz.prog 148 #[.int .u64 n] w fun e w' => e = .returned (.bool (evB n)) ∧ w = w' := by
 by_cases h : 1 ≤ n
 ·go_enter Tryz.func148, Tryz.ntmps148
  go_wp2
  go_ret
  refine ⟨bm ?_, rfl⟩
  unfold evB
  rw [decide_eq_decide]
  omega
 ·have h0 : n = 0 := by omega
  subst h0
  go_enter Tryz.func148, Tryz.ntmps148
  go_wp2
  go_ret
  exact ⟨rfl, rfl⟩
theorem pntseq_b (n : Nat) (w : World) {b : Bool} (h : evB n = b) : Calls Tryz.prog 148 #[.int .u64 n] w fun e w' => e = .returned (.bool b) ∧ w = w' := by
 subst h
 exact pntseq n w
theorem pntcel (r : Int) (w : World) : Calls Tryz.prog 149 #[.int .i64 r] w fun e w' => e = .returned (.bool (mcelB r)) ∧ w = w' := by
 by_cases h : 1 ≤ r
 ·go_enter Tryz.func149, Tryz.ntmps149
  go_wp2
  go_ret
  refine ⟨bm ?_, rfl⟩
  unfold mcelB
  rw [decide_eq_decide]
  omega
 ·go_enter Tryz.func149, Tryz.ntmps149
  go_wp2
  go_ret
  refine ⟨bm ?_, rfl⟩
  unfold mcelB
  exact (decide_eq_false (by omega)).symm
theorem pntcel_b (r : Int) (w : World) {b : Bool} (h : mcelB r = b) : Calls Tryz.prog 149 #[.int .i64 r] w fun e w' => e = .returned (.bool b) ∧ w = w' := by
 subst h
 exact pntcel r w
theorem pntslot (n : Nat) (w : World) (hn : n < 18446744073709551616) : Calls Tryz.prog 70 #[.int .u64 n] w fun e w' => e = .returned (.int .i64 ((n % 8 : Nat) : Int)) ∧ w = w' := by
 go_enter Tryz.func70, Tryz.ntmps70
 go_wp2
 go_ret
 exact ⟨bD (by omega), rfl⟩
theorem rntslot (n : Nat) (w : World) (hn : n < 18446744073709551616) : Calls Tryz.prog 35 #[.int .u64 n] w fun e w' => e = .returned (.int .i64 ((n % 8 : Nat) : Int)) ∧ w = w' := by
 go_enter Tryz.func35, Tryz.ntmps35
 go_wp2
 go_ret
 exact ⟨bD (by omega), rfl⟩
set_option maxHeartbeats 2000000 in
theorem pntmay (m : Nte) (w : World) : Calls Tryz.prog 111 #[nte m] w fun e w' => e = .returned (.bool (nteB m)) ∧ Below w.heap.size w w' := by
 obtain ⟨h1, h2, _⟩ := dm w m
 have HM := af h1
 have HB := af h2
 clear h1 h2
 go_enter Tryz.func111, Tryz.ntmps111
 go_upto_region 1 with (first | (refine ai rfl (cO rfl rfl) ?_) | fail)
 generalize w.alloc (.cells (aQ m).toArray 35) = w1 at *
 refine ag ?_
 refine ai rfl (am rfl (ev rfl) faNt0) ?_;simp only [aa]
 refine ai rfl (au rfl (ev rfl) (bL HM.out.cells.1)) ?_;simp only [aa]
 refine ar rfl (av Tryz.call148 rfl (evc (ev rfl) evn)) ?_
 by_cases k0 : 1 ≤ m.seq ∧ m.seq ≤ 4611686018427387904
 ·have H0 : Hid (evB m.seq = true) := af (decide_eq_true k0)
  refine (pntseq_b m.seq _ H0.out).mono ?_
  rintro e w' ⟨rfl, rfl⟩
  refine ⟨_, rfl, ?_⟩
  simp only [aa]
  refine ai (v := .bool true) rfl (aj rfl (ev rfl)) ?_;simp only [aa]
  refine al gr (am rfl (ev rfl) faNt1) ?_;simp only [aa]
  refine al gr (au rfl (ev rfl) (bL HM.out.cells.2.1)) ?_;simp only [aa]
  by_cases k1 : m.pos ≤ 4611686018427387904
  ·have H1 : Hid (decide ((m.pos : Int) ≤ 4611686018427387904) = true) := af (decide_eq_true (by omega))
   refine al (v := .bool true) gr (di true rfl (ev rfl) evk H1.out) ?_;simp only [aa]
   refine ai (v := .bool true) rfl (aG rfl (ev rfl) (ev rfl)) ?_;simp only [aa]
   refine ai (v := .bool true) rfl (aj rfl (ev rfl)) ?_;simp only [aa]
   refine al gr (am rfl (ev rfl) faNt2) ?_;simp only [aa]
   refine al gr (au rfl (ev rfl) (bj HM.out.cells.2.2.1)) ?_;simp only [aa]
   refine ar gr (av Tryz.call149 rfl (evc (ev rfl) evn)) ?_
   by_cases k2 : 1 ≤ m.cells ∧ m.cells ≤ 32
   ·have H2 : Hid (mcelB m.cells = true) := af (decide_eq_true k2)
    have HV : Hid (nteB m = true) := af (decide_eq_true (by omega))
    clear k0 k1 k2
    refine (pntcel_b m.cells _ H2.out).mono ?_
    rintro e w' ⟨rfl, rfl⟩
    refine ⟨_, rfl, ?_⟩
    simp only [aa]
    refine ai (v := .bool true) rfl (aG rfl (ev rfl) (ev rfl)) ?_;simp only [aa]
    refine ai (v := .bool true) rfl (aq rfl (ev rfl)) ?_;simp only [aa]
    refine ah ?_
    go_wp2_with fail
    go_ret
    exact ⟨bm (by rw [HV.out]), HB.out⟩
   ·have H2 : Hid (mcelB m.cells = false) := af (decide_eq_false k2)
    have HV : Hid (nteB m = false) := af (decide_eq_false (by omega))
    clear k0 k1 k2
    refine (pntcel_b m.cells _ H2.out).mono ?_
    rintro e w' ⟨rfl, rfl⟩
    refine ⟨_, rfl, ?_⟩
    simp only [aa]
    refine ai (v := .bool false) rfl (aG rfl (ev rfl) (ev rfl)) ?_;simp only [aa]
    refine ai (v := .bool false) rfl (aq rfl (ev rfl)) ?_;simp only [aa]
    refine ah ?_
    go_wp2_with fail
    go_ret
    exact ⟨bm (by rw [HV.out]), HB.out⟩
  ·have H1 : Hid (decide ((m.pos : Int) ≤ 4611686018427387904) = false) := af (decide_eq_false (by omega))
   have HV : Hid (nteB m = false) := af (decide_eq_false (by omega))
   clear k0 k1
   refine al (v := .bool false) gr (di false rfl (ev rfl) evk H1.out) ?_;simp only [aa]
   refine ai (v := .bool false) rfl (aG rfl (ev rfl) (ev rfl)) ?_;simp only [aa]
   refine aC 3 (v := .bool false) rfl (aj rfl (ev rfl)) (by kernel_rfl) ?_
   simp only [aJ, ae, aa]
   refine ai (v := .bool false) rfl (aE rfl (ev rfl) evk) ?_;simp only [aa]
   refine ai (v := .bool false) rfl (aq rfl (ev rfl)) ?_;simp only [aa]
   refine ah ?_
   go_wp2_with fail
   go_ret
   exact ⟨bm (by rw [HV.out]), HB.out⟩
 ·have H0 : Hid (evB m.seq = false) := af (decide_eq_false k0)
  have HV : Hid (nteB m = false) := af (decide_eq_false (by omega))
  clear k0
  refine (pntseq_b m.seq _ H0.out).mono ?_
  rintro e w' ⟨rfl, rfl⟩
  refine ⟨_, rfl, ?_⟩
  simp only [aa]
  refine aC 3 (v := .bool false) rfl (aj rfl (ev rfl)) (by kernel_rfl) ?_
  simp only [aJ, ae, aa]
  refine ai (v := .bool false) rfl (aE rfl (ev rfl) evk) ?_;simp only [aa]
  refine aC 3 (v := .bool false) rfl (aj rfl (ev rfl)) (by kernel_rfl) ?_
  simp only [aJ, ae, aa]
  refine ai (v := .bool false) rfl (aE rfl (ev rfl) evk) ?_;simp only [aa]
  refine ai (v := .bool false) rfl (aq rfl (ev rfl)) ?_;simp only [aa]
  refine ah ?_
  go_wp2_with fail
  go_ret
  exact ⟨bm (by rw [HV.out]), HB.out⟩
theorem pntmay_b (m : Nte) (w : World) {b : Bool} (h : nteB m = b) : Calls Tryz.prog 111 #[nte m] w fun e w' => e = .returned (.bool b) ∧ Below w.heap.size w w' := by
 subst h
 exact pntmay m w
set_option maxHeartbeats 2000000 in
theorem rntmay (m : Nte) (w : World) : Calls Tryz.prog 61 #[nte m] w fun e w' => e = .returned (.bool (nteB m)) ∧ Below w.heap.size w w' := by
 obtain ⟨h1, h2, _⟩ := dm w m
 have HM := af h1
 have HB := af h2
 clear h1 h2
 go_enter Tryz.func61, Tryz.ntmps61
 go_upto_region 1 with (first | (refine ai rfl (cO rfl rfl) ?_) | fail)
 generalize w.alloc (.cells (aQ m).toArray 35) = w1 at *
 refine ag ?_
 refine ai rfl (am rfl (ev rfl) faNt0) ?_;simp only [aa]
 refine ai rfl (au rfl (ev rfl) (bL HM.out.cells.1)) ?_;simp only [aa]
 by_cases k0 : 1 ≤ m.seq
 ·have H0 : Hid (decide ((1 : Int) ≤ (m.seq : Int)) = true) := af (decide_eq_true (by omega))
  refine ai (v := .bool true) rfl (ce true rfl (ev rfl) evk H0.out) ?_;simp only [aa]
  refine ai (v := .bool true) rfl (aj rfl (ev rfl)) ?_;simp only [aa]
  refine al gr (am rfl (ev rfl) faNt0) ?_;simp only [aa]
  refine al gr (au rfl (ev rfl) (bL HM.out.cells.1)) ?_;simp only [aa]
  by_cases k1 : m.seq ≤ 4611686018427387904
  ·have H1 : Hid (decide ((m.seq : Int) ≤ 4611686018427387904) = true) := af (decide_eq_true (by omega))
   refine al (v := .bool true) gr (di true rfl (ev rfl) evk H1.out) ?_;simp only [aa]
   refine ai (v := .bool true) rfl (aG rfl (ev rfl) (ev rfl)) ?_;simp only [aa]
   refine ai (v := .bool true) rfl (aj rfl (ev rfl)) ?_;simp only [aa]
   refine al gr (am rfl (ev rfl) faNt1) ?_;simp only [aa]
   refine al gr (au rfl (ev rfl) (bL HM.out.cells.2.1)) ?_;simp only [aa]
   by_cases k2 : m.pos ≤ 4611686018427387904
   ·have H2 : Hid (decide ((m.pos : Int) ≤ 4611686018427387904) = true) := af (decide_eq_true (by omega))
    refine al (v := .bool true) gr (di true rfl (ev rfl) evk H2.out) ?_;simp only [aa]
    refine ai (v := .bool true) rfl (aG rfl (ev rfl) (ev rfl)) ?_;simp only [aa]
    refine ai (v := .bool true) rfl (aj rfl (ev rfl)) ?_;simp only [aa]
    refine al gr (am rfl (ev rfl) faNt2) ?_;simp only [aa]
    refine al gr (au rfl (ev rfl) (bj HM.out.cells.2.2.1)) ?_;simp only [aa]
    by_cases k3 : 1 ≤ m.cells
    ·have H3 : Hid (decide ((1 : Int) ≤ m.cells) = true) := af (decide_eq_true (by omega))
     refine al (v := .bool true) gr (ce true rfl (ev rfl) evk H3.out) ?_;simp only [aa]
     refine ai (v := .bool true) rfl (aG rfl (ev rfl) (ev rfl)) ?_;simp only [aa]
     refine ai (v := .bool true) rfl (aj rfl (ev rfl)) ?_;simp only [aa]
     refine al gr (am rfl (ev rfl) faNt2) ?_;simp only [aa]
     refine al gr (au rfl (ev rfl) (bj HM.out.cells.2.2.1)) ?_;simp only [aa]
     by_cases k4 : m.cells ≤ 32
     ·have H4 : Hid (decide (m.cells ≤ (32 : Int)) = true) := af (decide_eq_true (by omega))
      have HV : Hid (nteB m = true) := af (decide_eq_true (by omega))
      clear k0 k1 k2 k3 k4
      refine al (v := .bool true) gr (di true rfl (ev rfl) evk H4.out) ?_;simp only [aa]
      refine ai (v := .bool true) rfl (aG rfl (ev rfl) (ev rfl)) ?_;simp only [aa]
      refine ai (v := .bool true) rfl (aq rfl (ev rfl)) ?_;simp only [aa]
      refine ah ?_
      go_wp2_with fail
      go_ret
      exact ⟨bm (by rw [HV.out]), HB.out⟩
     ·have H4 : Hid (decide (m.cells ≤ (32 : Int)) = false) := af (decide_eq_false (by omega))
      have HV : Hid (nteB m = false) := af (decide_eq_false (by omega))
      clear k0 k1 k2 k3 k4
      refine al (v := .bool false) gr (di false rfl (ev rfl) evk H4.out) ?_;simp only [aa]
      refine ai (v := .bool false) rfl (aG rfl (ev rfl) (ev rfl)) ?_;simp only [aa]
      refine ai (v := .bool false) rfl (aq rfl (ev rfl)) ?_;simp only [aa]
      refine ah ?_
      go_wp2_with fail
      go_ret
      exact ⟨bm (by rw [HV.out]), HB.out⟩
    ·have H3 : Hid (decide ((1 : Int) ≤ m.cells) = false) := af (decide_eq_false (by omega))
     have HV : Hid (nteB m = false) := af (decide_eq_false (by omega))
     clear k0 k1 k2 k3
     refine al (v := .bool false) gr (ce false rfl (ev rfl) evk H3.out) ?_;simp only [aa]
     refine ai (v := .bool false) rfl (aG rfl (ev rfl) (ev rfl)) ?_;simp only [aa]
     refine aC 3 (v := .bool false) rfl (aj rfl (ev rfl)) (by kernel_rfl) ?_
     simp only [aJ, ae, aa]
     refine ai (v := .bool false) rfl (aE rfl (ev rfl) evk) ?_;simp only [aa]
     refine ai (v := .bool false) rfl (aq rfl (ev rfl)) ?_;simp only [aa]
     refine ah ?_
     go_wp2_with fail
     go_ret
     exact ⟨bm (by rw [HV.out]), HB.out⟩
   ·have H2 : Hid (decide ((m.pos : Int) ≤ 4611686018427387904) = false) := af (decide_eq_false (by omega))
    have HV : Hid (nteB m = false) := af (decide_eq_false (by omega))
    clear k0 k1 k2
    refine al (v := .bool false) gr (di false rfl (ev rfl) evk H2.out) ?_;simp only [aa]
    refine ai (v := .bool false) rfl (aG rfl (ev rfl) (ev rfl)) ?_;simp only [aa]
    refine aC 3 (v := .bool false) rfl (aj rfl (ev rfl)) (by kernel_rfl) ?_
    simp only [aJ, ae, aa]
    refine ai (v := .bool false) rfl (aE rfl (ev rfl) evk) ?_;simp only [aa]
    refine aC 3 (v := .bool false) rfl (aj rfl (ev rfl)) (by kernel_rfl) ?_
    simp only [aJ, ae, aa]
    refine ai (v := .bool false) rfl (aE rfl (ev rfl) evk) ?_;simp only [aa]
    refine ai (v := .bool false) rfl (aq rfl (ev rfl)) ?_;simp only [aa]
    refine ah ?_
    go_wp2_with fail
    go_ret
    exact ⟨bm (by rw [HV.out]), HB.out⟩
  ·have H1 : Hid (decide ((m.seq : Int) ≤ 4611686018427387904) = false) := af (decide_eq_false (by omega))
   have HV : Hid (nteB m = false) := af (decide_eq_false (by omega))
   clear k0 k1
   refine al (v := .bool false) gr (di false rfl (ev rfl) evk H1.out) ?_;simp only [aa]
   refine ai (v := .bool false) rfl (aG rfl (ev rfl) (ev rfl)) ?_;simp only [aa]
   refine aC 3 (v := .bool false) rfl (aj rfl (ev rfl)) (by kernel_rfl) ?_
   simp only [aJ, ae, aa]
   refine ai (v := .bool false) rfl (aE rfl (ev rfl) evk) ?_;simp only [aa]
   refine aC 3 (v := .bool false) rfl (aj rfl (ev rfl)) (by kernel_rfl) ?_
   simp only [aJ, ae, aa]
   refine ai (v := .bool false) rfl (aE rfl (ev rfl) evk) ?_;simp only [aa]
   refine aC 3 (v := .bool false) rfl (aj rfl (ev rfl)) (by kernel_rfl) ?_
   simp only [aJ, ae, aa]
   refine ai (v := .bool false) rfl (aE rfl (ev rfl) evk) ?_;simp only [aa]
   refine ai (v := .bool false) rfl (aq rfl (ev rfl)) ?_;simp only [aa]
   refine ah ?_
   go_wp2_with fail
   go_ret
   exact ⟨bm (by rw [HV.out]), HB.out⟩
 ·have H0 : Hid (decide ((1 : Int) ≤ (m.seq : Int)) = false) := af (decide_eq_false (by omega))
  have HV : Hid (nteB m = false) := af (decide_eq_false (by omega))
  clear k0
  refine ai (v := .bool false) rfl (ce false rfl (ev rfl) evk H0.out) ?_;simp only [aa]
  refine aC 3 (v := .bool false) rfl (aj rfl (ev rfl)) (by kernel_rfl) ?_
  simp only [aJ, ae, aa]
  refine ai (v := .bool false) rfl (aE rfl (ev rfl) evk) ?_;simp only [aa]
  refine aC 3 (v := .bool false) rfl (aj rfl (ev rfl)) (by kernel_rfl) ?_
  simp only [aJ, ae, aa]
  refine ai (v := .bool false) rfl (aE rfl (ev rfl) evk) ?_;simp only [aa]
  refine aC 3 (v := .bool false) rfl (aj rfl (ev rfl)) (by kernel_rfl) ?_
  simp only [aJ, ae, aa]
  refine ai (v := .bool false) rfl (aE rfl (ev rfl) evk) ?_;simp only [aa]
  refine aC 3 (v := .bool false) rfl (aj rfl (ev rfl)) (by kernel_rfl) ?_
  simp only [aJ, ae, aa]
  refine ai (v := .bool false) rfl (aE rfl (ev rfl) evk) ?_;simp only [aa]
  refine ai (v := .bool false) rfl (aq rfl (ev rfl)) ?_;simp only [aa]
  refine ah ?_
  go_wp2_with fail
  go_ret
  exact ⟨bm (by rw [HV.out]), HB.out⟩
theorem bodyNt_eq (x : Nte) {R : Nat} (h : x.cells.toNat = R) : aX 8 8 x.pos ++ (aX 8 2 R ++ aX 8 4 x.sum) = dG x := by
 unfold dG
 rw [h]
set_option maxHeartbeats 4000000 in
theorem rntput (x : Nte) (w : World) (hf : x.fit) :
  Calls Tryz.prog 16 #[nte x] w fun e w' => e = .returned (.tuple #[blk (aL.pB x), .int .i64 (aL.pE x : Nat)]) ∧ Below w.heap.size w w' := by
 obtain ⟨h1, h2, h3⟩ := dm w x
 have HS := af (h1.past (.cells (cel ap).toArray 29))
 have HB := af (h2.alloc h2.size (.cells (cel ap).toArray 29))
 have HI := af hf
 have HR : Hid (((w.alloc (.cells (aQ x).toArray 35)).alloc (.cells (cel ap).toArray 29)).there (w.heap.size + 1) 0 64) := af (by
  have := dl (w.alloc (.cells (aQ x).toArray 35)) ap 29
  rwa [World.size_alloc] at this)
 have HZ : Hid (w.heap.size + 1 < ((w.alloc (.cells (aQ x).toArray 35)).alloc (.cells (cel ap).toArray 29)).heap.size) := af (by simp only [World.size_alloc]; omega)
 clear h1 h2 h3 hf
 go_enter Tryz.func16, Tryz.ntmps16
 go_wp2_with (first | (refine ai rfl (cO rfl rfl) ?_) | (refine ai rfl (aT rfl) ?_) | (refine ai rfl (bh (c := x) rfl rfl ?_) ?_; (with_reducible exact HS.out.range)) | fail)
 try simp only [World.size_alloc]
 generalize (w.alloc (.cells (aQ x).toArray 35)).alloc (.cells (cel ap).toArray 29) = w1 at *
 refine (rntmay x w1).mono ?_
 rintro e a0 ⟨rfl, hb⟩
 have HS0 := af (HS.out.below (aK HS.out) hb)
 have HB2 := af (HB.out.trans (hb.mono HB.out.size))
 have HR2 := af (aO HR.out HZ.out hb)
 have HZ2 : Hid (w.heap.size + 1 < a0.heap.size) := af (by have := hb.size; have := HZ.out; omega)
 clear hb HS HB HR HZ
 by_cases hm : nteB x = true
 ·rw [hm]
  have HM := af hm
  obtain ⟨-, -, -, q1, q2⟩ := eX hm
  obtain ⟨f1, f2, f3⟩ := HI.out
  obtain ⟨R, hR⟩ : ∃ R : Nat, x.cells.toNat = R := ⟨_, rfl⟩
  have HBD := af (bodyNt_eq x hR)
  have hR32 : R ≤ 32 := by omega
  have HPB : Hid (aL.pB x = dL x.seq (dG x)) := af (aL.pB_ok hm)
  have HPE := af (aL.pE_ok hm)
  have HN0 : Hid (x.seq ≠ 0) := af (by have := (eX hm).1; omega)
  have HC : Hid (∀ w' s, bI w' s x → w'.cell? ⟨s, 0, none⟩ = some (.int .u64 x.seq) ∧ w'.cell? ⟨s, 1, none⟩ = some (.int .u64 x.pos) ∧ w'.cell? ⟨s, 2, none⟩ = some (.int .i64 (R : Nat)) ∧ w'.cell? ⟨s, 3, none⟩ = some (.int .u32 x.sum)) := af fun w' s h => by
   have := h.cells
   rw [show x.cells = (R : Int) from by omega] at this
   exact this
  have HF1 := af f1
  have HF2 := af f2
  have HF3 := af f3
  have HB0 := af (Below.refl a0.heap.size a0)
  have HSB := HS0
  have HT0 := af (Nat.le_refl a0.heap.size)
  clear q1 q2 f1 f2 f3 hR hm
  obtain ⟨c0, c1, c2, c3⟩ := HC.out _ _ HS0.out
  go_wp2_with (first | (refine ai rfl (fb rfl rfl HF3.out) ?_) | fail)
  clear c0 c1 c2 c3
  refine (fJ x.pos 8 _ a0 (af rfl) HF2.out (by omega) (by omega) (by have := HF2.out; simpa using this)).mono ?_
  rintro e a1 ⟨v1, rfl, hm, hb⟩
  have HM1 := af hm
  have HU1 : Hid (∀ k, v1.ownBlock = some k → k < a1.heap.size) := af fun k hk => (hm.lt k hk).2
  have HS1 := af (HS0.out.below (aK HS0.out) hb)
  have HBq1 := af (HB0.out.trans (hb.mono HT0.out))
  have HT1 : Hid (a0.heap.size ≤ a1.heap.size) := af (Nat.le_trans HT0.out hb.size)
  have HL1 := af hb.size
  clear hm hb HS0 HB0
  obtain ⟨c0, c1, c2, c3⟩ := HC.out _ _ HS1.out
  go_wp2_with (first | (refine ai rfl (fb rfl rfl HF3.out) ?_) | fail)
  clear c0 c1 c2 c3
  refine (fJ R 2 _ a1 (af rfl) (by omega) (by omega) (by omega) (by omega)).mono ?_
  rintro e a2 ⟨v2, rfl, hm, hb⟩
  have HM2 := af hm
  have HM1 := af (HM1.out.below hb)
  have HS2 := af (HS1.out.below (aK HS1.out) hb)
  have HBq2 := af (HBq1.out.trans (hb.mono HT1.out))
  have HT2 : Hid (a0.heap.size ≤ a2.heap.size) := af (Nat.le_trans HT1.out hb.size)
  have HL2 := af hb.size
  clear hm hb HS1 HBq1
  obtain ⟨c0, c1, c2, c3⟩ := HC.out _ _ HS2.out
  go_wp2_with (first | (refine ai rfl (fb rfl rfl HF3.out) ?_) | fail)
  clear c0 c1 c2 c3
  refine (fJ x.sum 4 _ a2 (af rfl) (by have := HF3.out; omega) (by omega) (by omega) (by have := HF3.out; simpa using this)).mono ?_
  rintro e a3 ⟨v3, rfl, hm, hb⟩
  have HM3 := af hm
  have HU3 : Hid (∀ k, v3.ownBlock = some k → a2.heap.size ≤ k) := af fun k hk => (hm.lt k hk).1
  have HM1 := af (HM1.out.below hb)
  have HM2 := af (HM2.out.below hb)
  have HS3 := af (HS2.out.below (aK HS2.out) hb)
  have HBq3 := af (HBq2.out.trans (hb.mono HT2.out))
  have HT3 : Hid (a0.heap.size ≤ a3.heap.size) := af (Nat.le_trans HT2.out hb.size)
  have HL3 := af hb.size
  clear hm hb HS2 HBq2
  have HG1 : Hid (Made a3 a0.heap.size v1 (aX 8 8 x.pos)) := HM1
  have HE1 := af (ay 8 8 x.pos)
  have HE2 := af (ay 8 2 R)
  have HE3 := af (ay 8 4 x.sum)
  obtain ⟨A2, c2, rfl, hr2, _, _⟩ := HM2.out.open_ HE2.out
  have HRD2 := af hr2
  clear hr2
  go_wp2_with (first | (refine fY rfl _ _ rfl a0.heap.size _ 2 c2 v1 (aX 8 8 x.pos) (aX 8 2 R) A2 rfl rfl HG1.out HRD2.out (by omega) HT3.out (by rw [HE1.out]; omega) ?_) | fail)
  intro u1 a4 hm hg hw
  have HG2 := af hm
  have HM3' := af (HM3.out.apart hg (fun k hk e => by have := HU1.out k e; have := HU3.out k hk; have := HL2.out; omega))
  have HBq4 : Hid (Below a0.heap.size a0 a4) := af (HBq3.out.grown hg HT3.out (fun k hk => (HG1.out.lt k hk).1))
  have HT4 : Hid (a0.heap.size ≤ a4.heap.size) := af (Nat.le_trans HT3.out hg.size)
  clear hm hg hw HG1 HRD2 HBq3 HM1 HM2 HM3
  obtain ⟨A3, c3, rfl, hr3, _, _⟩ := HM3'.out.open_ HE3.out
  have HRD3 := af hr3
  clear hr3
  go_wp2_with (first | (refine fY rfl _ _ rfl a0.heap.size _ 4 c3 u1 (aX 8 8 x.pos ++ aX 8 2 R) (aX 8 4 x.sum) A3 rfl rfl HG2.out HRD3.out (by omega) HT4.out (by rw [List.length_append, HE1.out, HE2.out]; omega) ?_) | fail)
  intro u2 a5 hm hg hw
  rw [HBD.out] at hm
  have HBq5 : Hid (Below a0.heap.size a0 a5) := af (HBq4.out.grown hg HT4.out (fun k hk => (HG2.out.lt k hk).1))
  obtain ⟨A4, c4, rfl, hr4, _, _⟩ := hm.open_ (gl x)
  have HRD4 := af hr4
  have HS5 := af (HSB.out.below (aK HSB.out) HBq5.out)
  have HB5 := af (HB2.out.trans (HBq5.out.mono HB2.out.size))
  have HR5 := af (aO HR2.out HZ2.out HBq5.out)
  have HZ5 : Hid (w.heap.size + 1 < a5.heap.size) := af (Nat.lt_of_lt_of_le HZ2.out HBq5.out.size)
  obtain ⟨c0, -, -, -⟩ := HC.out _ _ HS5.out
  clear hm hg hw hr4 HG2 HRD3 HM3' HBq4
  go_wp2_with fail
  clear c0
  refine (rsput_all x.seq 14 c4 _ A4 (dG x) a5 HF1.out HRD4.out (Nat.le_refl _) (by unfold maxLen; omega)).mono ?_
  rintro e a6 ⟨rfl, hb⟩
  rw [show dW x.seq (dG x) = 0 from aL.body_putE x HN0.out]
  have HR6 := af (aO HR5.out HZ5.out hb)
  have HB6 := af (HB5.out.trans (hb.mono HB5.out.size))
  clear hb HRD4 HR5 HZ5 HB5
  generalize dL x.seq (dG x) = pb at *
  go_wp2_with (first | (refine az rfl (aR (c := pb) rfl rfl rfl ?_) ?_; (with_reducible exact HR6.out)) | fail)
  refine bodyPost_ret (bZ rfl _ _ _ rfl (World.rangeAt_setCells_same _ _ _ _ (by rw [aA]; exact HR6.out))) rfl ⟨by rw [HPB.out, HPE.out]; rfl, below_setCells HB6.out (Nat.le_succ _) _⟩
 ·have hm' : nteB x = false := by simpa using hm
  have hmay : ¬ aL.may x = true := hm
  have HPB := af (aL.pB_no hmay)
  have HPE := af (aL.pE_no hmay)
  rw [hm']
  clear hm hm' hmay
  go_wp2_with (first | (refine ai rfl (b8 (c := ap) (parts := []) rfl rfl) ?_) | (refine az rfl (aR (c := ap) rfl rfl rfl ?_) ?_; (with_reducible exact HR2.out)) | fail)
  refine bodyPost_ret (bZ rfl _ _ _ rfl (World.rangeAt_setCells_same _ _ _ _ (by rw [aA]; exact HR2.out))) rfl ⟨by rw [HPB.out, HPE.out]; rfl, below_setCells HB2.out (Nat.le_succ _) _⟩
structure Only (F : Nat → Prop) (w w' : World) : Prop where
 os : w'.os = w.os
 tape : w'.tape = w.tape
 output : w'.output = w.output
 size : w.heap.size ≤ w'.heap.size
 block : ∀ k, k < w.heap.size → ¬ F k → w'.heap[k]? = w.heap[k]?
section
variable {F G : Nat → Prop} {w w1 w2 a : World} {B : Nat}
theorem Only.refl (F : Nat → Prop) (w : World) : Only F w w := ⟨rfl, rfl, rfl, Nat.le_refl _, fun _ _ _ => rfl⟩
theorem Only.trans (h : Only F w w1) (k : Only G w1 w2) (hG : ∀ b, G b → F b ∨ w.heap.size ≤ b) : Only F w w2 :=
 ⟨k.os.trans h.os, k.tape.trans h.tape, k.output.trans h.output, Nat.le_trans h.size k.size, fun b hb hn =>
  (k.block b (Nat.lt_of_lt_of_le hb h.size) (fun hg => by rcases hG b hg with e | e; exact hn e; omega)).trans (h.block b hb hn)⟩
theorem Only.widen (h : Only F w w1) (hG : ∀ b, F b → G b) : Only G w w1 := ⟨h.os, h.tape, h.output, h.size, fun b hb hn => h.block b hb fun e => hn (hG b e)⟩
theorem Only.of_below (F : Nat → Prop) (h : Below w.heap.size w w1) : Only F w w1 := ⟨h.os, h.tape, h.output, h.size, fun b hb _ => h.block b hb⟩
theorem Only.below (h : Only F w w1) (hF : ∀ b, F b → B ≤ b) (hB : B ≤ w.heap.size) : Below B w w1 := ⟨h.os, h.tape, h.output, h.size, fun b hb => h.block b (by omega) fun e => by have := hF b e; omega⟩
theorem Only.dH (h : Only F w w1) (k : Below w1.heap.size w1 w2) : Only F w w2 := h.trans (Only.of_below F k) fun _ hb => .inl hb
theorem Only.drew (h : Only F w w1) : Only F w w1.drew := ⟨h.os, h.tape, h.output, h.size, h.block⟩
theorem Only.alloc (h : Only F w w1) (o : Obj) : Only F w (w1.alloc o) := h.dH ((Below.refl _ _).alloc (Nat.le_refl _) o)
theorem Only.setCell (h : Only F w w1) {p : Addr} (hp : F p.block ∨ w.heap.size ≤ p.block) (u : Value) : Only F w (w1.setCell p u) :=
 ⟨h.os, h.tape, h.output, by have := h.size; simpa [World.setCell] using this, fun b hb hn => (Below.heap_setCell w1 p u b (fun e => by subst e; rcases hp with e | e; exact hn e; omega)).trans (h.block b hb hn)⟩
theorem Only.grown {row : Option Nat} (h : Only F w w1) (hg : w1.grownBy w2 row) (hr : ∀ k, row = some k → F k ∨ w.heap.size ≤ k) : Only F w w2 :=
 ⟨hg.os.trans h.os, hg.tape.trans h.tape, hg.output.trans h.output, Nat.le_trans h.size hg.size, fun b hb hn =>
  (hg.block b (Nat.lt_of_lt_of_le hb h.size) (fun e => by rcases hr b e.symm with e | e; exact hn e; omega)).trans (h.block b hb hn)⟩
theorem Only.keep {o : Obj} {b : Nat} (h : Only F w w1) (hb : w.heap[b]? = some o) (hn : ¬ F b) : w1.heap[b]? = some o := (h.block b (Array.getElem?_eq_some_iff.1 hb).1 hn).trans hb
end
def BlkE : Elt Blk where
 s := 123
 t := 29
 n := 64
 by_ := 64
 cel := cel
 d := ap
 z := blk ap
 pos := by omega
 small := by omega
 len := aA
 one := cel_one
 und := Tryz.underlying123
 info := infoB
 zc := by rw [er]; simp [aA]
def ex (p : Int × Blk) : List Value := .int .i64 p.1 :: cel p.2
def pairV (n : Int) (b : Blk) : Value := .agg (.int .i64 n :: cel b).toArray
theorem cel65_length (p : Int × Blk) : (ex p).length = 65 := by simp [ex, aA]
theorem cel65_one (p : Int × Blk) : ∀ v ∈ ex p, v.oneCell' = true := by
 intro v hv
 simp only [ex, List.mem_cons] at hv
 rcases hv with rfl | hv
 ·rfl
 ·exact cel_one p.2 v hv
def pairE (s t : TypeId) (und : Tryz.prog.underlying s = some (.slice t)) (info : (Tryz.prog.info? t).map (fun i => (i.zero, i.size, i.bytes)) = some (some (pairV 0 ap), 65, 72)) : Elt (Int × Blk) where
 s := s
 t := t
 n := 65
 by_ := 72
 cel := ex
 d := (0, ap)
 z := pairV 0 ap
 pos := by omega
 small := by omega
 len := cel65_length
 one := cel65_one
 und := und
 info := info
 zc := by show (Value.cells (.agg _)).size = 65; simp [Value.cells, aA]
section
variable {s t : TypeId} {und : Tryz.prog.underlying s = some (.slice t)} {info : (Tryz.prog.info? t).map (fun i => (i.zero, i.size, i.bytes)) = some (some (pairV 0 ap), 65, 72)} {w : World} {B n k : Nat} {A : Option Addr} {l : List (Int × Blk)}
theorem RdE.pair (h : RdE (pairE s t und info) w B A n l) (hk : k < n) : ∃ b off, A = some ⟨b, off, none⟩ ∧ b < B ∧ w.cell? ⟨b, off + k * 65, none⟩ = some (.int .i64 (l.getD k (0, ap)).1) ∧ w.rangeAt b (off + k * 65 + 1) (cel (l.getD k (0, ap)).2) := by
 obtain ⟨b, off, e, hb, hc⟩ := h.2 k hk
 refine ⟨b, off, e, hb, hc 0 _ rfl, fun j v hj => ?_⟩
 have := hc (j + 1) v hj
 rwa [show off + k * (pairE s t und info).n + (j + 1) = off + k * 65 + 1 + j from by show off + k * 65 + (j + 1) = _; omega] at this
end
theorem RdE.blk {w : World} {B n k : Nat} {A : Option Addr} {l : List Blk} (h : RdE BlkE w B A n l) (hk : k < n) : ∃ b off, A = some ⟨b, off, none⟩ ∧ b < B ∧ w.rangeAt b (off + k * 64) (cel (l.getD k ap)) := h.2 k hk
theorem Only.setCells {F : Nat → Prop} {w w1 : World} {b : Nat} (h : Only F w w1) (hb : F b ∨ w.heap.size ≤ b) : ∀ (vs : List Value) (o : Nat), Only F w (w1.setCells b o vs) := by
 intro vs
 induction vs generalizing w1 with
 | nil => intro o; exact h
 | cons v r ih => intro o; exact ih (h.setCell (p := ⟨b, o, none⟩) hb v) (o + 1)
theorem blk_laid {w : World} {b : Nat} {t : TypeId} {c d : Blk} (h : w.heap[b]? = some (.cells (cel c).toArray t (0, 0))) : (w.setCells b 0 (cel d)).heap[b]? = some (.cells (cel d).toArray t (0, 0)) := by
 have := heap_put b t [] (cel d) (cel c) [] w (by rw [aA, aA]) (by simpa using h)
 simpa using this
theorem blk_range {w : World} {b : Nat} {t : TypeId} {c : Blk} (h : w.heap[b]? = some (.cells (cel c).toArray t (0, 0))) : w.rangeAt b 0 (cel c) := fun j v hj => by
 rw [cell_of_row _ _ (0 + j) (cel c).toArray t (0, 0) h]
 simpa using hj
theorem blk_there {w : World} {b : Nat} {t : TypeId} {c : Blk} (h : w.heap[b]? = some (.cells (cel c).toArray t (0, 0))) : w.there b 0 64 := fun j hj => by
 rw [cell_of_row _ _ (0 + j) _ t (0, 0) h, frozen_of_row _ _ (0 + j) _ t h]
 exact ⟨by simp [aA]; omega, rfl⟩
def cE (w : World) (g : Nat) (bs : List Blk) : Prop := w.heap[g]? = some (.cells (flat bs).toArray 29 (0, 0))
theorem flat_split {bs : List Blk} {k : Nat} (hk : k < bs.length) : flat bs = flat (bs.take k) ++ (cel (bs.getD k ap) ++ flat (bs.drop (k + 1))) := by
 have h1 : bs = bs.take k ++ (bs.getD k ap :: bs.drop (k + 1)) := by
  rw [List.getD, List.getElem?_eq_getElem hk, Option.getD_some, List.getElem_cons_drop, List.take_append_drop]
 conv => lhs; rw [h1]
 rw [flat_append, fO]
theorem flat_set {bs : List Blk} {k : Nat} (hk : k < bs.length) (c : Blk) : flat (bs.set k c) = flat (bs.take k) ++ (cel c ++ flat (bs.drop (k + 1))) := by
 have h2 : bs.set k c = bs.take k ++ (c :: bs.drop (k + 1)) := List.set_eq_take_append_cons_drop.trans (by rw [if_pos hk])
 rw [h2, flat_append, fO]
theorem heap_write (g : Nat) (t : TypeId) (post : List Value) : ∀ (vs mid pre : List Value) (w : World), mid.length = vs.length → w.heap[g]? = some (.cells (pre ++ mid ++ post).toArray t (0, 0)) →
  (w.setCells g pre.length vs).heap[g]? = some (.cells (pre ++ vs ++ post).toArray t (0, 0))
 | [], mid, pre, w, h, hg => by
  have : mid = [] := List.eq_nil_of_length_eq_zero h
  subst this
  exact hg
 | v :: vs, mid, pre, w, h, hg => by
  match mid, h with
  | m :: ms, h =>
   rw [World.setCells]
   have h1 := heap_setCell_same w g pre.length _ t v hg
   have hset : (pre ++ m :: ms ++ post).toArray.setIfInBounds pre.length v = ((pre ++ [v]) ++ ms ++ post).toArray := by
    rw [List.setIfInBounds_toArray]
    congr 1
    rw [List.append_assoc, List.set_append_right _ _ (by simp), Nat.sub_self]
    simp
   rw [hset] at h1
   have := heap_write g t post vs ms (pre ++ [v]) _ (by simpa using h) h1
   rw [List.length_append, List.length_singleton] at this
   rw [this]
   simp
section
variable {w w' : World} {g k B : Nat} {bs : List Blk} {c : Blk}
theorem cE.lt (h : cE w g bs) : g < w.heap.size := (Array.getElem?_eq_some_iff.1 h).1
theorem cE.of_block (h : cE w g bs) (e : w'.heap[g]? = w.heap[g]?) : cE w' g bs := e.trans h
theorem cE.below (h : cE w g bs) (hb : Below w.heap.size w w') : cE w' g bs := h.of_block (hb.block g h.lt)
theorem cE.store (h : cE w g bs) (hk : k < bs.length) (c : Blk) : cE (w.setCells g (k * 64) (cel c)) g (bs.set k c) := by
 unfold cE at *
 rw [flat_split hk, ← List.append_assoc] at h
 have := heap_write g _ (flat (bs.drop (k + 1))) (cel c) _ _ w (by rw [aA, aA]) h
 rw [dO, List.length_take, Nat.min_eq_left (by omega)] at this
 rw [this, flat_set hk, List.append_assoc]
theorem cE.cell (h : cE w g bs) (j : Nat) : w.cell? ⟨g, j, none⟩ = (flat bs)[j]? := by
 rw [cell_of_row w g j _ _ (0, 0) h]
 simp
theorem cE.frozen (h : cE w g bs) (j : Nat) : w.frozen? ⟨g, j, none⟩ = false := frozen_of_row w g j _ _ h
theorem cE.byteAt (h : cE w g bs) (hk : k < bs.length) {r : Nat} (hr : r < 64) : w.cell? ⟨g, k * 64 + r, none⟩ = some (.int .u8 (byt (bs.getD k ap) r)) := by
 rw [h.cell, flat_at bs hk hr, cel_at _ hr]
theorem cE.there (h : cE w g bs) (hk : k < bs.length) : w.there g (k * 64) 64 := fun j hj => ⟨by rw [h.byteAt hk hj]; rfl, h.frozen _⟩
theorem cE.rd (h : cE w g bs) (m : Nat) (hm : m ≤ bs.length) : RdB w w.heap.size (some ⟨g, 0, none⟩) m (bs.take m) := by
 have : RdB w w.heap.size (some ⟨g, 0, none⟩) bs.length bs := rdB_of h.lt fun j v hj => by rw [Nat.zero_add, h.cell]; exact hj
 exact this.head hm
end
section
variable {ρ : Operand → Value} {o : Oper} {x y : Operand} {w : World} {n : Nat}
theorem exec_make (ho : o.op = .makeSlice 123 x y) (hx : ρ x = .int .i64 (n : Int)) (hy : ρ y = .int .i64 (n : Int)) (hn : n ≤ 4398046511104) :
  (execOp ρ o).run Tryz.prog w = .ok (.value (.slice (some ⟨w.heap.size, 0, none⟩) n n)) (w.alloc (.cells (madeCells (cel ap).toArray (n * 64)) 29)) := by
 obtain ⟨i0, hi, hz0, hz1, hz2⟩ := info_parts infoB
 have hr := run_make (P := Tryz.prog) w 123 29 i0 (blk ap) underS hi hz0 .i64 .i64 n n (by omega) (Int.le_refl _) (by rw [hz2]; omega) (by omega)
 rw [hz1, er] at hr
 simp only [Int.toNat_natCast] at hr
 unfold execOp
 simp only [ho, hx, hy, Sem.run_bind, hr, Result.andThen_ok, Sem.run_pure]
end
theorem flat_zeros (n : Nat) : (flat (List.replicate n ap)).toArray = madeCells (cel ap).toArray (n * 64) := by
 apply Array.ext
 ·rw [size_madeCells, List.size_toArray, dO, List.length_replicate]
 ·intro j h1 h2
  rw [size_madeCells] at h2
  have hk : j / 64 < (List.replicate n ap).length := by rw [List.length_replicate]; omega
  have := flat_at (List.replicate n ap) hk (j := j % 64) (by omega)
  rw [show j / 64 * 64 + j % 64 = j from by omega] at this
  have hz : (List.replicate n ap).getD (j / 64) ap = ap := by
   rw [List.getD, List.getElem?_replicate]
   split <;> rfl
  rw [hz, cel_at ap (by omega)] at this
  have hc := cel_at ap (j := j % 64) (by omega)
  have e1 : (flat (List.replicate n ap)).toArray[j] = .int .u8 (byt ap (j % 64)) := by
   rw [List.getElem?_eq_getElem (by simpa using h1)] at this
   simpa using this
  have e2 : (madeCells (cel ap).toArray (n * 64))[j]'(by rw [size_madeCells]; exact h2) = .int .u8 (byt ap (j % 64)) := by
   have hj : j % 64 < (cel ap).length := by rw [aA]; omega
   rw [List.getElem?_eq_getElem hj] at hc
   simp only [madeCells, Array.getElem_map, Array.getElem_range, List.size_toArray, aA]
   rw [getElem!_pos (cel ap).toArray (j % 64) (by simpa using hj)]
   simpa using hc
  rw [e1, e2]
theorem holdsB_made (w : World) (n : Nat) : cE (w.alloc (.cells (madeCells (cel ap).toArray (n * 64)) 29)) w.heap.size (List.replicate n ap) := by
 unfold cE
 rw [heap_alloc_new, flat_zeros]
end Go.Proofs.YtbbcdhkinbmdnaaGreatDoor
