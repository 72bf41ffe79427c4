import Derived.Test.YtbbcdhkinbmdnaaGreatDoorLoaf
import Derived.Deep.DeepCutAuto
import Derived.Test.YtbbcdhkinbmdnaaGreatDoorLoab
import Derived.Test.YtbbcdhkinbmdnaaGreatDoorLoaa
import Derived.Laws.AppendOwn
import Derived.Laws.OwnMore
import Derived.Test.YtbbcdhkinbmdnaaGreatDoorLoae
import Derived.Test.YtbbcdhkinbmdnaaGreatDoorLoZ
namespace Go.Proofs.YtbbcdhkinbmdnaaGreatDoor
open Go.RowKit
set_option linter.unusedVariables false
set_option linter.unusedSimpArgs false
set_option maxRecDepth 100000
section
variable {w : World} {b : Nat}
theorem faM0 : (Instr.fieldAt 32 (.pointer (some ⟨b, 0, none⟩)) 0).run Tryz.prog w = .ok (.pointer (some ⟨b, 0, none⟩)) w := by kernel_rfl
theorem faM1 : (Instr.fieldAt 32 (.pointer (some ⟨b, 0, none⟩)) 1).run Tryz.prog w = .ok (.pointer (some ⟨b, 1, none⟩)) w := by kernel_rfl
theorem faM2 : (Instr.fieldAt 32 (.pointer (some ⟨b, 0, none⟩)) 2).run Tryz.prog w = .ok (.pointer (some ⟨b, 2, none⟩)) w := by kernel_rfl
theorem faM3 : (Instr.fieldAt 32 (.pointer (some ⟨b, 0, none⟩)) 3).run Tryz.prog w = .ok (.pointer (some ⟨b, 3, none⟩)) w := by kernel_rfl
end
def ringB (r : Int) : Bool := decide (40 ≤ r ∧ r ≤ 256)
theorem pcount (n : Nat) (w : World) : Calls Tryz.prog 143 #[.int .u64 n] w fun e w' => e = .returned (.bool (evB n)) ∧ w = w' := by
 by_cases h : 1 ≤ n
 ·go_enter Tryz.func143, Tryz.ntmps143
  go_wp2
  go_ret
  refine ⟨bm ?_, rfl⟩
  unfold evB
  rw [decide_eq_decide]
  omega
 ·have h0 : n = 0 := by omega
  subst h0
  go_enter Tryz.func143, Tryz.ntmps143
  go_wp2
  go_ret
  exact ⟨rfl, rfl⟩
theorem pcount_b (n : Nat) (w : World) {b : Bool} (h : evB n = b) : Calls Tryz.prog 143 #[.int .u64 n] w fun e w' => e = .returned (.bool b) ∧ w = w' := by
 subst h
 exact pcount n w
theorem pcount_d (n : Nat) (w : World) {b : Bool} (h : evB n = b) : Calls Tryz.prog 143 #[.int .u64 n] w fun e w' => e = .returned (.bool b) ∧ Below w.heap.size w w' :=
 (pcount_b n w h).mono fun e w' ⟨he, hw⟩ => ⟨he, hw ▸ Below.refl _ _⟩
theorem pfirst (n : Nat) (w : World) : Calls Tryz.prog 140 #[.int .u64 n] w fun e w' => e = .returned (.bool (evB n)) ∧ w = w' := by
 by_cases h : 1 ≤ n
 ·go_enter Tryz.func140, Tryz.ntmps140
  go_wp2
  go_ret
  refine ⟨bm ?_, rfl⟩
  unfold evB
  rw [decide_eq_decide]
  omega
 ·have h0 : n = 0 := by omega
  subst h0
  go_enter Tryz.func140, Tryz.ntmps140
  go_wp2
  go_ret
  exact ⟨rfl, rfl⟩
theorem pfirst_b (n : Nat) (w : World) {b : Bool} (h : evB n = b) : Calls Tryz.prog 140 #[.int .u64 n] w fun e w' => e = .returned (.bool b) ∧ w = w' := by
 subst h
 exact pfirst n w
theorem pring (r : Int) (w : World) : Calls Tryz.prog 139 #[.int .i64 r] w fun e w' => e = .returned (.bool (ringB r)) ∧ w = w' := by
 by_cases h : 40 ≤ r
 ·go_enter Tryz.func139, Tryz.ntmps139
  go_wp2
  go_ret
  refine ⟨bm ?_, rfl⟩
  unfold ringB
  rw [decide_eq_decide]
  omega
 ·go_enter Tryz.func139, Tryz.ntmps139
  go_wp2
  go_ret
  refine ⟨bm ?_, rfl⟩
  unfold ringB
  exact (decide_eq_false (by omega)).symm
theorem pring_b (r : Int) (w : World) {b : Bool} (h : ringB r = b) : Calls Tryz.prog 139 #[.int .i64 r] w fun e w' => e = .returned (.bool b) ∧ w = w' := by
 subst h
 exact pring r w
theorem pmslot (n : Nat) (w : World) (hn : n < 18446744073709551616) : Calls Tryz.prog 137 #[.int .u64 n] w fun e w' => e = .returned (.int .i64 ((n % 2 : Nat) : Int)) ∧ w = w' := by
 go_enter Tryz.func137, Tryz.ntmps137
 go_wp2
 go_ret
 exact ⟨bD (by omega), rfl⟩
set_option maxHeartbeats 2000000 in
theorem pmmay (m : Mrk) (w : World) : Calls Tryz.prog 99 #[mrk m] w fun e w' => e = .returned (.bool (dq m)) ∧ Below w.heap.size w w' := by
 obtain ⟨h1, h2, _⟩ := eZ w m
 have HM := af h1
 have HB := af h2
 clear h1 h2
 go_enter Tryz.func99, Tryz.ntmps99
 go_upto_region 1 with (first | (refine ai rfl (fk rfl rfl) ?_) | fail)
 generalize w.alloc (.cells (a8 m).toArray 32) = w1 at *
 refine ag ?_
 refine ai rfl (am rfl (ev rfl) faM0) ?_;simp only [aa]
 refine ai rfl (au rfl (ev rfl) (bL HM.out.cells.1)) ?_;simp only [aa]
 by_cases k0 : m.id = 0
 ·have H0 : Hid (((m.id : Int) != 0) = false) := af (by simp; omega)
  have HV : Hid (dq m = false) := af (decide_eq_false (by omega))
  clear k0
  refine ai (v := .bool false) rfl (aU false rfl (ev rfl) evk H0.out) ?_;simp only [aa]
  refine aC 3 (v := .bool false) rfl (aj rfl (ev rfl)) (by kernel_rfl) ?_
  simp only [aJ, ae, aa]
  refine ai (v := .bool false) rfl (aE rfl (ev rfl) evk) ?_;simp only [aa]
  refine aC 3 (v := .bool false) rfl (aj rfl (ev rfl)) (by kernel_rfl) ?_
  simp only [aJ, ae, aa]
  refine ai (v := .bool false) rfl (aE rfl (ev rfl) evk) ?_;simp only [aa]
  refine aC 3 (v := .bool false) rfl (aj rfl (ev rfl)) (by kernel_rfl) ?_
  simp only [aJ, ae, aa]
  refine ai (v := .bool false) rfl (aE rfl (ev rfl) evk) ?_;simp only [aa]
  refine ai (v := .bool false) rfl (aq rfl (ev rfl)) ?_;simp only [aa]
  refine ah ?_
  go_wp2_with fail
  go_ret
  exact ⟨bm (by rw [HV.out]), HB.out⟩
 ·have H0 : Hid (((m.id : Int) != 0) = true) := af (by simp; omega)
  refine ai (v := .bool true) rfl (aU true rfl (ev rfl) evk H0.out) ?_;simp only [aa]
  refine ai (v := .bool true) rfl (aj rfl (ev rfl)) ?_;simp only [aa]
  refine al gr (am rfl (ev rfl) faM1) ?_;simp only [aa]
  refine al gr (au rfl (ev rfl) (bj HM.out.cells.2.1)) ?_;simp only [aa]
  refine ar gr (av Tryz.call139 rfl (evc (ev rfl) evn)) ?_
  by_cases k1 : 40 ≤ m.ring ∧ m.ring ≤ 256
  ·have H1 : Hid (ringB m.ring = true) := af (decide_eq_true k1)
   refine (pring_b m.ring _ H1.out).mono ?_
   rintro e w' ⟨rfl, rfl⟩
   refine ⟨_, rfl, ?_⟩
   simp only [aa]
   refine ai (v := .bool true) rfl (aG rfl (ev rfl) (ev rfl)) ?_;simp only [aa]
   refine ai (v := .bool true) rfl (aj rfl (ev rfl)) ?_;simp only [aa]
   refine al gr (am rfl (ev rfl) faM2) ?_;simp only [aa]
   refine al gr (au rfl (ev rfl) (bL HM.out.cells.2.2.1)) ?_;simp only [aa]
   refine ar gr (av Tryz.call140 rfl (evc (ev rfl) evn)) ?_
   by_cases k2 : 1 ≤ m.first ∧ m.first ≤ 4611686018427387904
   ·have H2 : Hid (evB m.first = true) := af (decide_eq_true k2)
    refine (pfirst_b m.first _ H2.out).mono ?_
    rintro e w' ⟨rfl, rfl⟩
    refine ⟨_, rfl, ?_⟩
    simp only [aa]
    refine ai (v := .bool true) rfl (aG rfl (ev rfl) (ev rfl)) ?_;simp only [aa]
    refine ai (v := .bool true) rfl (aj rfl (ev rfl)) ?_;simp only [aa]
    refine al gr (am rfl (ev rfl) faM3) ?_;simp only [aa]
    refine al gr (au rfl (ev rfl) (bL HM.out.cells.2.2.2)) ?_;simp only [aa]
    by_cases k3 : m.pos ≤ 4611686018427387904
    ·have H3 : Hid (decide ((m.pos : Int) ≤ 4611686018427387904) = true) := af (decide_eq_true (by omega))
     have HV : Hid (dq m = true) := af (decide_eq_true (by omega))
     clear k0 k1 k2 k3
     refine al (v := .bool true) gr (di true rfl (ev rfl) evk H3.out) ?_;simp only [aa]
     refine ai (v := .bool true) rfl (aG rfl (ev rfl) (ev rfl)) ?_;simp only [aa]
     refine ai (v := .bool true) rfl (aq rfl (ev rfl)) ?_;simp only [aa]
     refine ah ?_
     go_wp2_with fail
     go_ret
     exact ⟨bm (by rw [HV.out]), HB.out⟩
    ·have H3 : Hid (decide ((m.pos : Int) ≤ 4611686018427387904) = false) := af (decide_eq_false (by omega))
     have HV : Hid (dq m = false) := af (decide_eq_false (by omega))
     clear k0 k1 k2 k3
     refine al (v := .bool false) gr (di false rfl (ev rfl) evk H3.out) ?_;simp only [aa]
     refine ai (v := .bool false) rfl (aG rfl (ev rfl) (ev rfl)) ?_;simp only [aa]
     refine ai (v := .bool false) rfl (aq rfl (ev rfl)) ?_;simp only [aa]
     refine ah ?_
     go_wp2_with fail
     go_ret
     exact ⟨bm (by rw [HV.out]), HB.out⟩
   ·have H2 : Hid (evB m.first = false) := af (decide_eq_false k2)
    have HV : Hid (dq m = false) := af (decide_eq_false (by omega))
    clear k0 k1 k2
    refine (pfirst_b m.first _ H2.out).mono ?_
    rintro e w' ⟨rfl, rfl⟩
    refine ⟨_, rfl, ?_⟩
    simp only [aa]
    refine ai (v := .bool false) rfl (aG rfl (ev rfl) (ev rfl)) ?_;simp only [aa]
    refine aC 3 (v := .bool false) rfl (aj rfl (ev rfl)) (by kernel_rfl) ?_
    simp only [aJ, ae, aa]
    refine ai (v := .bool false) rfl (aE rfl (ev rfl) evk) ?_;simp only [aa]
    refine ai (v := .bool false) rfl (aq rfl (ev rfl)) ?_;simp only [aa]
    refine ah ?_
    go_wp2_with fail
    go_ret
    exact ⟨bm (by rw [HV.out]), HB.out⟩
  ·have H1 : Hid (ringB m.ring = false) := af (decide_eq_false k1)
   have HV : Hid (dq m = false) := af (decide_eq_false (by omega))
   clear k0 k1
   refine (pring_b m.ring _ H1.out).mono ?_
   rintro e w' ⟨rfl, rfl⟩
   refine ⟨_, rfl, ?_⟩
   simp only [aa]
   refine ai (v := .bool false) rfl (aG rfl (ev rfl) (ev rfl)) ?_;simp only [aa]
   refine aC 3 (v := .bool false) rfl (aj rfl (ev rfl)) (by kernel_rfl) ?_
   simp only [aJ, ae, aa]
   refine ai (v := .bool false) rfl (aE rfl (ev rfl) evk) ?_;simp only [aa]
   refine aC 3 (v := .bool false) rfl (aj rfl (ev rfl)) (by kernel_rfl) ?_
   simp only [aJ, ae, aa]
   refine ai (v := .bool false) rfl (aE rfl (ev rfl) evk) ?_;simp only [aa]
   refine ai (v := .bool false) rfl (aq rfl (ev rfl)) ?_;simp only [aa]
   refine ah ?_
   go_wp2_with fail
   go_ret
   exact ⟨bm (by rw [HV.out]), HB.out⟩
set_option maxHeartbeats 2000000 in
theorem rmmay (m : Mrk) (w : World) : Calls Tryz.prog 58 #[mrk m] w fun e w' => e = .returned (.bool (dq m)) ∧ Below w.heap.size w w' := by
 obtain ⟨h1, h2, _⟩ := eZ w m
 have HM := af h1
 have HB := af h2
 clear h1 h2
 go_enter Tryz.func58, Tryz.ntmps58
 go_upto_region 1 with (first | (refine ai rfl (fk rfl rfl) ?_) | fail)
 generalize w.alloc (.cells (a8 m).toArray 32) = w1 at *
 refine ag ?_
 refine ai rfl (am rfl (ev rfl) faM0) ?_;simp only [aa]
 refine ai rfl (au rfl (ev rfl) (bL HM.out.cells.1)) ?_;simp only [aa]
 by_cases k0 : ¬ m.id = 0
 ·have H0 : Hid (((m.id : Int) != 0) = true) := af (by simp; omega)
  refine ai (v := .bool true) rfl (aU true rfl (ev rfl) evk H0.out) ?_;simp only [aa]
  refine ai (v := .bool true) rfl (aj rfl (ev rfl)) ?_;simp only [aa]
  refine al gr (am rfl (ev rfl) faM1) ?_;simp only [aa]
  refine al gr (au rfl (ev rfl) (bj HM.out.cells.2.1)) ?_;simp only [aa]
  by_cases k1 : 40 ≤ m.ring
  ·have H1 : Hid (decide ((40 : Int) ≤ m.ring) = true) := af (decide_eq_true (by omega))
   refine al (v := .bool true) gr (ce true rfl (ev rfl) evk H1.out) ?_;simp only [aa]
   refine ai (v := .bool true) rfl (aG rfl (ev rfl) (ev rfl)) ?_;simp only [aa]
   refine ai (v := .bool true) rfl (aj rfl (ev rfl)) ?_;simp only [aa]
   refine al gr (am rfl (ev rfl) faM1) ?_;simp only [aa]
   refine al gr (au rfl (ev rfl) (bj HM.out.cells.2.1)) ?_;simp only [aa]
   by_cases k2 : m.ring ≤ 256
   ·have H2 : Hid (decide (m.ring ≤ (256 : Int)) = true) := af (decide_eq_true (by omega))
    refine al (v := .bool true) gr (di true rfl (ev rfl) evk H2.out) ?_;simp only [aa]
    refine ai (v := .bool true) rfl (aG rfl (ev rfl) (ev rfl)) ?_;simp only [aa]
    refine ai (v := .bool true) rfl (aj rfl (ev rfl)) ?_;simp only [aa]
    refine al gr (am rfl (ev rfl) faM2) ?_;simp only [aa]
    refine al gr (au rfl (ev rfl) (bL HM.out.cells.2.2.1)) ?_;simp only [aa]
    by_cases k3 : 1 ≤ m.first
    ·have H3 : Hid (decide ((1 : Int) ≤ (m.first : Int)) = true) := af (decide_eq_true (by omega))
     refine al (v := .bool true) gr (ce true rfl (ev rfl) evk H3.out) ?_;simp only [aa]
     refine ai (v := .bool true) rfl (aG rfl (ev rfl) (ev rfl)) ?_;simp only [aa]
     refine ai (v := .bool true) rfl (aj rfl (ev rfl)) ?_;simp only [aa]
     refine al gr (am rfl (ev rfl) faM2) ?_;simp only [aa]
     refine al gr (au rfl (ev rfl) (bL HM.out.cells.2.2.1)) ?_;simp only [aa]
     by_cases k4 : m.first ≤ 4611686018427387904
     ·have H4 : Hid (decide ((m.first : Int) ≤ 4611686018427387904) = true) := af (decide_eq_true (by omega))
      refine al (v := .bool true) gr (di true rfl (ev rfl) evk H4.out) ?_;simp only [aa]
      refine ai (v := .bool true) rfl (aG rfl (ev rfl) (ev rfl)) ?_;simp only [aa]
      refine ai (v := .bool true) rfl (aj rfl (ev rfl)) ?_;simp only [aa]
      refine al gr (am rfl (ev rfl) faM3) ?_;simp only [aa]
      refine al gr (au rfl (ev rfl) (bL HM.out.cells.2.2.2)) ?_;simp only [aa]
      by_cases k5 : m.pos ≤ 4611686018427387904
      ·have H5 : Hid (decide ((m.pos : Int) ≤ 4611686018427387904) = true) := af (decide_eq_true (by omega))
       have HV : Hid (dq m = true) := af (decide_eq_true (by omega))
       clear k0 k1 k2 k3 k4 k5
       refine al (v := .bool true) gr (di true rfl (ev rfl) evk H5.out) ?_;simp only [aa]
       refine ai (v := .bool true) rfl (aG rfl (ev rfl) (ev rfl)) ?_;simp only [aa]
       refine ai (v := .bool true) rfl (aq rfl (ev rfl)) ?_;simp only [aa]
       refine ah ?_
       go_wp2_with fail
       go_ret
       exact ⟨bm (by rw [HV.out]), HB.out⟩
      ·have H5 : Hid (decide ((m.pos : Int) ≤ 4611686018427387904) = false) := af (decide_eq_false (by omega))
       have HV : Hid (dq m = false) := af (decide_eq_false (by omega))
       clear k0 k1 k2 k3 k4 k5
       refine al (v := .bool false) gr (di false rfl (ev rfl) evk H5.out) ?_;simp only [aa]
       refine ai (v := .bool false) rfl (aG rfl (ev rfl) (ev rfl)) ?_;simp only [aa]
       refine ai (v := .bool false) rfl (aq rfl (ev rfl)) ?_;simp only [aa]
       refine ah ?_
       go_wp2_with fail
       go_ret
       exact ⟨bm (by rw [HV.out]), HB.out⟩
     ·have H4 : Hid (decide ((m.first : Int) ≤ 4611686018427387904) = false) := af (decide_eq_false (by omega))
      have HV : Hid (dq m = false) := af (decide_eq_false (by omega))
      clear k0 k1 k2 k3 k4
      refine al (v := .bool false) gr (di false rfl (ev rfl) evk H4.out) ?_;simp only [aa]
      refine ai (v := .bool false) rfl (aG rfl (ev rfl) (ev rfl)) ?_;simp only [aa]
      refine aC 3 (v := .bool false) rfl (aj rfl (ev rfl)) (by kernel_rfl) ?_
      simp only [aJ, ae, aa]
      refine ai (v := .bool false) rfl (aE rfl (ev rfl) evk) ?_;simp only [aa]
      refine ai (v := .bool false) rfl (aq rfl (ev rfl)) ?_;simp only [aa]
      refine ah ?_
      go_wp2_with fail
      go_ret
      exact ⟨bm (by rw [HV.out]), HB.out⟩
    ·have H3 : Hid (decide ((1 : Int) ≤ (m.first : Int)) = false) := af (decide_eq_false (by omega))
     have HV : Hid (dq m = false) := af (decide_eq_false (by omega))
     clear k0 k1 k2 k3
     refine al (v := .bool false) gr (ce false rfl (ev rfl) evk H3.out) ?_;simp only [aa]
     refine ai (v := .bool false) rfl (aG rfl (ev rfl) (ev rfl)) ?_;simp only [aa]
     refine aC 3 (v := .bool false) rfl (aj rfl (ev rfl)) (by kernel_rfl) ?_
     simp only [aJ, ae, aa]
     refine ai (v := .bool false) rfl (aE rfl (ev rfl) evk) ?_;simp only [aa]
     refine aC 3 (v := .bool false) rfl (aj rfl (ev rfl)) (by kernel_rfl) ?_
     simp only [aJ, ae, aa]
     refine ai (v := .bool false) rfl (aE rfl (ev rfl) evk) ?_;simp only [aa]
     refine ai (v := .bool false) rfl (aq rfl (ev rfl)) ?_;simp only [aa]
     refine ah ?_
     go_wp2_with fail
     go_ret
     exact ⟨bm (by rw [HV.out]), HB.out⟩
   ·have H2 : Hid (decide (m.ring ≤ (256 : Int)) = false) := af (decide_eq_false (by omega))
    have HV : Hid (dq m = false) := af (decide_eq_false (by omega))
    clear k0 k1 k2
    refine al (v := .bool false) gr (di false rfl (ev rfl) evk H2.out) ?_;simp only [aa]
    refine ai (v := .bool false) rfl (aG rfl (ev rfl) (ev rfl)) ?_;simp only [aa]
    refine aC 3 (v := .bool false) rfl (aj rfl (ev rfl)) (by kernel_rfl) ?_
    simp only [aJ, ae, aa]
    refine ai (v := .bool false) rfl (aE rfl (ev rfl) evk) ?_;simp only [aa]
    refine aC 3 (v := .bool false) rfl (aj rfl (ev rfl)) (by kernel_rfl) ?_
    simp only [aJ, ae, aa]
    refine ai (v := .bool false) rfl (aE rfl (ev rfl) evk) ?_;simp only [aa]
    refine aC 3 (v := .bool false) rfl (aj rfl (ev rfl)) (by kernel_rfl) ?_
    simp only [aJ, ae, aa]
    refine ai (v := .bool false) rfl (aE rfl (ev rfl) evk) ?_;simp only [aa]
    refine ai (v := .bool false) rfl (aq rfl (ev rfl)) ?_;simp only [aa]
    refine ah ?_
    go_wp2_with fail
    go_ret
    exact ⟨bm (by rw [HV.out]), HB.out⟩
  ·have H1 : Hid (decide ((40 : Int) ≤ m.ring) = false) := af (decide_eq_false (by omega))
   have HV : Hid (dq m = false) := af (decide_eq_false (by omega))
   clear k0 k1
   refine al (v := .bool false) gr (ce false rfl (ev rfl) evk H1.out) ?_;simp only [aa]
   refine ai (v := .bool false) rfl (aG rfl (ev rfl) (ev rfl)) ?_;simp only [aa]
   refine aC 3 (v := .bool false) rfl (aj rfl (ev rfl)) (by kernel_rfl) ?_
   simp only [aJ, ae, aa]
   refine ai (v := .bool false) rfl (aE rfl (ev rfl) evk) ?_;simp only [aa]
   refine aC 3 (v := .bool false) rfl (aj rfl (ev rfl)) (by kernel_rfl) ?_
   simp only [aJ, ae, aa]
   refine ai (v := .bool false) rfl (aE rfl (ev rfl) evk) ?_;simp only [aa]
   refine aC 3 (v := .bool false) rfl (aj rfl (ev rfl)) (by kernel_rfl) ?_
   simp only [aJ, ae, aa]
   refine ai (v := .bool false) rfl (aE rfl (ev rfl) evk) ?_;simp only [aa]
   refine aC 3 (v := .bool false) rfl (aj rfl (ev rfl)) (by kernel_rfl) ?_
   simp only [aJ, ae, aa]
   refine ai (v := .bool false) rfl (aE rfl (ev rfl) evk) ?_;simp only [aa]
   refine ai (v := .bool false) rfl (aq rfl (ev rfl)) ?_;simp only [aa]
   refine ah ?_
   go_wp2_with fail
   go_ret
   exact ⟨bm (by rw [HV.out]), HB.out⟩
 ·have H0 : Hid (((m.id : Int) != 0) = false) := af (by simp; omega)
  have HV : Hid (dq m = false) := af (decide_eq_false (by omega))
  clear k0
  refine ai (v := .bool false) rfl (aU false rfl (ev rfl) evk H0.out) ?_;simp only [aa]
  refine aC 3 (v := .bool false) rfl (aj rfl (ev rfl)) (by kernel_rfl) ?_
  simp only [aJ, ae, aa]
  refine ai (v := .bool false) rfl (aE rfl (ev rfl) evk) ?_;simp only [aa]
  refine aC 3 (v := .bool false) rfl (aj rfl (ev rfl)) (by kernel_rfl) ?_
  simp only [aJ, ae, aa]
  refine ai (v := .bool false) rfl (aE rfl (ev rfl) evk) ?_;simp only [aa]
  refine aC 3 (v := .bool false) rfl (aj rfl (ev rfl)) (by kernel_rfl) ?_
  simp only [aJ, ae, aa]
  refine ai (v := .bool false) rfl (aE rfl (ev rfl) evk) ?_;simp only [aa]
  refine aC 3 (v := .bool false) rfl (aj rfl (ev rfl)) (by kernel_rfl) ?_
  simp only [aJ, ae, aa]
  refine ai (v := .bool false) rfl (aE rfl (ev rfl) evk) ?_;simp only [aa]
  refine aC 3 (v := .bool false) rfl (aj rfl (ev rfl)) (by kernel_rfl) ?_
  simp only [aJ, ae, aa]
  refine ai (v := .bool false) rfl (aE rfl (ev rfl) evk) ?_;simp only [aa]
  refine ai (v := .bool false) rfl (aq rfl (ev rfl)) ?_;simp only [aa]
  refine ah ?_
  go_wp2_with fail
  go_ret
  exact ⟨bm (by rw [HV.out]), HB.out⟩
theorem pmmay_b (m : Mrk) (w : World) {b : Bool} (h : dq m = b) : Calls Tryz.prog 99 #[mrk m] w fun e w' => e = .returned (.bool b) ∧ Below w.heap.size w w' := by
 subst h
 exact pmmay m w
theorem rmmay_b (m : Mrk) (w : World) {b : Bool} (h : dq m = b) : Calls Tryz.prog 58 #[mrk m] w fun e w' => e = .returned (.bool b) ∧ Below w.heap.size w w' := by
 subst h
 exact rmmay m w
section
variable {ρ : Operand → Value} {o : Oper} {x y z : Operand} {w : World} {b off n c t u : Nat}
theorem undU : Tryz.prog.underlying 118 = some (.slice 5) := Tryz.underlying118
theorem run_headU (h : t ≤ c) : (Instr.sliceAt 118 (.slice (some ⟨b, off, none⟩) n c) none (some (.int .i64 (t : Int))) none).run Tryz.prog w = .ok (.slice (some ⟨b, off, none⟩) t c) w := by
 simp [Instr.sliceAt, Instr.slice, Instr.sliceBounds, Instr.sliceBound, asIntOf, run_underlying undU, Tryz.sizeOf5, Addr.add_mid]
 intro hh; omega
theorem run_midU (h1 : u ≤ t) (h : t ≤ c) (h2 : u < c) : (Instr.sliceAt 118 (.slice (some ⟨b, off, none⟩) n c) (some (.int .i64 (u : Int))) (some (.int .i64 (t : Int))) none).run Tryz.prog w = .ok (.slice (some ⟨b, off + u, none⟩) (t - u) (c - u)) w := by
 have e1 : (0 ≤ (t : Int) ∧ (t : Int) ≤ (c : Int)) := by omega
 have e2 : (0 ≤ (u : Int) ∧ (u : Int) ≤ (t : Int)) := by omega
 have e3 : c ≠ u := by omega
 simp [Instr.sliceAt, Instr.slice, Instr.sliceBounds, Instr.sliceBound, asIntOf, run_underlying undU, Tryz.sizeOf5, Addr.add_mid, e1, e2, e3, h, h1]
theorem exec_cutH (t : Nat) (ho : o.op = .slice 118 x none (some y) none) (hx : ρ x = .slice (some ⟨b, off, none⟩) n c) (hy : ρ y = .int .i64 (t : Int)) (h : t ≤ c) : (execOp ρ o).run Tryz.prog w = .ok (.value (.slice (some ⟨b, off, none⟩) t c)) w := by
 unfold execOp
 simp only [ho, hx, hy, Option.map_some, Option.map_none, Sem.run_bind, run_headU h, Result.andThen_ok, Sem.run_pure]
theorem exec_cutM (u t : Nat) (ho : o.op = .slice 118 x (some z) (some y) none) (hx : ρ x = .slice (some ⟨b, off, none⟩) n c) (hz : ρ z = .int .i64 (u : Int)) (hy : ρ y = .int .i64 (t : Int)) (h1 : u ≤ t) (h : t ≤ c) (h2 : u < c) : (execOp ρ o).run Tryz.prog w = .ok (.value (.slice (some ⟨b, off + u, none⟩) (t - u) (c - u))) w := by
 unfold execOp
 simp only [ho, hx, hy, hz, Option.map_some, Option.map_none, Sem.run_bind, run_midU h1 h h2, Result.andThen_ok, Sem.run_pure]
theorem run_allB : (Instr.sliceAt 29 (.pointer (some ⟨b, off, none⟩)) none none none).run Tryz.prog w = .ok (.slice (some ⟨b, off, none⟩) 64 64) w := by
 simp [Instr.sliceAt, Instr.sliceBounds, Instr.sureAddr, run_underlying undB, Tryz.sizeOf5, Addr.add_mid]
theorem exec_allB (ho : o.op = .slice 29 x none none none) (hx : ρ x = .pointer (some ⟨b, off, none⟩)) : (execOp ρ o).run Tryz.prog w = .ok (.value (.slice (some ⟨b, off, none⟩) 64 64)) w := by
 unfold execOp
 simp only [ho, hx, Option.map_none, Sem.run_bind, run_allB, Result.andThen_ok, Sem.run_pure]
end
section
variable {w : World} {b off n c j : Nat} {k : Int}
theorem ixU (hj : j < n) : (Instr.indexAt 118 (.slice (some ⟨b, off, none⟩) n c) (.int .i64 (j : Int))).run Tryz.prog w = .ok (.pointer (some ⟨b, off + j, none⟩)) w := by
 simp [Instr.indexAt, asIntOf, run_underlying Tryz.underlying118, Tryz.sizeOf5, Addr.add_mid, hj]
end
theorem Rd.sub {w : World} {N g q n p k : Nat} {l : List UInt8} (h : Rd w N (some ⟨g, q, none⟩) n l) (hk : p + k ≤ n) : Rd w N (some ⟨g, q + p, none⟩) k (piece l p k) :=
 ⟨bi (by have := h.1; omega), fun j hj => by
  obtain ⟨b, off, e, hb, hc⟩ := h.2 (p + j) (by omega)
  injection e with e
  injection e with e1 e2
  subst e1 e2
  refine ⟨g, q + p, rfl, hb, ?_⟩
  rw [dy hj, ← hc, Nat.add_assoc]⟩
theorem gc {w : World} {N n : Nat} {ad : Addr} {l : List UInt8} (h : Rd w N (some ad) n l) : ∀ (j : Nat) (u : Value), (l.map fun u => Value.int .u8 (u.toNat : Int))[j]? = some u → w.cell? (ad.add j) = some u := by
 intro j u hu
 have hj : j < l.length := by
  rcases Nat.lt_or_ge j l.length with hlt | hge
  ·exact hlt
  ·rw [List.getElem?_eq_none (by simpa using hge)] at hu
   cases hu
 obtain ⟨b, off, e, _, hc⟩ := h.2 j (by have := h.1; omega)
 injection e with e
 subst e
 have hadd : (⟨b, off, none⟩ : Addr).add j = ⟨b, off + j, none⟩ := by unfold Addr.add; split <;> simp_all
 rw [hadd, hc, fi hj]
 rw [List.getElem?_map, List.getElem?_eq_getElem hj] at hu
 simpa using hu
theorem run_app (w : World) (ty B N m c : Nat) (v : Value) (l l' : List UInt8) (A : Option Addr) (hm : Made w B v l) (hr : Rd w N A m l') (hB : B ≤ w.heap.size) (hsum : l.length + m ≤ 140737488355328) :
  ∃ v' w', (Builtin.append_ #[118, 118] ty #[v, .slice A m c]).run Tryz.prog w = .ok v' w' ∧ Made w' B v' (l ++ l') ∧ w.grownBy w' v.ownBlock := by
 obtain ⟨i0, hi, hz0, hz1, hz2⟩ := info_parts u8info
 rcases A with _ | ad
 ·have h0 : m = 0 := by
   rcases Nat.eq_zero_or_pos m with h | h
   ·exact h
   ·obtain ⟨b, off, e, _⟩ := hr.2 0 h
    cases e
  subst h0
  have hn : l' = [] := List.eq_nil_of_length_eq_zero hr.1
  subst hn
  refine ⟨v, w, ?_, by rw [List.append_nil]; exact hm, World.grownBy.refl w _⟩
  rcases hm.2 with ⟨rfl, _⟩ | ⟨g, cap, cur, rfl, _, _, hnc, _⟩
  ·simp [Builtin.append_, run_underlying Tryz.underlying118, sizeOf, typeInfo, hi, Builtin.lenOf, Builtin.firstCells]
  ·simp [Builtin.append_, run_underlying Tryz.underlying118, sizeOf, typeInfo, hi, Builtin.lenOf, Builtin.firstCells, hnc, storeCells]
 ·obtain ⟨v', w', h1, h2, h3, _⟩ := run_append_own (P := Tryz.prog) w B 118 ty 5 i0 (.int .u8 0) 1 1 Tryz.underlying118 hi hz0 hz1 hz2 rfl (by decide) v l.length _ hm ad m c (l'.map fun u => .int .u8 (u.toNat : Int))
   (by have := hr.1; simpa using this) (gc hr) (by intro u hu; simp at hu; obtain ⟨x, _, rfl⟩ := hu; rfl) (by unfold maxLen; omega) (by omega) hB
  refine ⟨v', w', h1, ?_, h3⟩
  rw [← List.map_append] at h2
  exact Made.of_own h2
theorem fc {w : World} {ops : Array Oper} {rest : List Oper} {o : Oper} {a : Act} {Q : Exit → Act → World → Prop} (hgd : o.guard = none) (s x : Operand)
  (ho : o.op = .call { callee := .builtin .append, args := #[s, x], argTypes := #[118, 118] })
  (B N m c : Nat) (v : Value) (l l' : List UInt8) (A : Option Addr) (hs : a.eval s = v) (hx : a.eval x = .slice A m c) (hm : Made w B v l) (hr : Rd w N A m l') (hB : B ≤ w.heap.size) (hsum : l.length + m ≤ 140737488355328)
  (h : ∀ v' w', Made w' B v' (l ++ l') → w.grownBy w' v.ownBlock → wpList Tryz.prog ops Q rest (a.put o.dst v') w') : wpList Tryz.prog ops Q (o :: rest) a w := by
 refine wpList_plain hgd fun K hK => ?_
 obtain ⟨v', w', hrun, h1, h2⟩ := run_app w o.type B N m c v l l' A hm hr hB hsum
 unfold Oper.wp
 simp [execOp, ho, resolve, invoke, builtin, hs, hx, hrun, Result.andThen]
 exact hK _ _ (h v' w' h1 h2)
theorem fV (A : Option Addr) (n c N B : Nat) (b : List UInt8) (w : World) (HB : Hid (B = w.heap.size)) (hb : Rd w N A n b) (hN : N ≤ B) (hn : n ≤ 140737488351232) :
  Calls Tryz.prog 101 #[.slice A n c] w fun e w' => ∃ v, e = .returned v ∧ Made w' B v b ∧ Below B w w' := by
 have hBle := Nat.le_of_eq HB.out
 go_enter Tryz.func101, Tryz.ntmps101
 go_wp2_with (at_builtin; refine fc rfl _ _ rfl B N n c _ [] b A rfl rfl (World.ownsRow_nil _ _ _ _) hb hBle ?c1 ?_)
 case c1 => simp; omega
 intro v1 w1 hm1 hg1
 go_wp2
 go_ret
 exact ⟨_, rfl, hm1, (Below.refl _ _).grown hg1 hBle (by simp [Value.ownBlock])⟩
theorem Made.smn {w : World} {B : Nat} {v : Value} {l : List UInt8} (h : Made w B v l) (h0 : 0 < l.length) : ∃ g c, v = .slice (some ⟨g, 0, none⟩) l.length c ∧ B ≤ g ∧ l.length ≤ c ∧ c ≤ maxLen := by
 rcases h.2 with ⟨_, h1⟩ | ⟨g, cap, cur, rfl, hB, _, h1, h2, _⟩
 ·omega
 ·exact ⟨g, cap, rfl, hB, h1, h2⟩
section
variable {ρ : Operand → Value} {o : Oper} {x y z : Operand} {w : World} {b off n c t u : Nat}
theorem head52 (h : 64 ≤ c) : (Instr.sliceAt 118 (.slice (some ⟨b, off, none⟩) n c) none (some (.int .i64 52)) none).run Tryz.prog w = .ok (.slice (some ⟨b, off, none⟩) 52 c) w := run_headU (t := 52) (by omega)
theorem mid852 (h : 64 ≤ c) : (Instr.sliceAt 118 (.slice (some ⟨b, 0, none⟩) n c) (some (.int .i64 8)) (some (.int .i64 52)) none).run Tryz.prog w = .ok (.slice (some ⟨b, 8, none⟩) 44 (c - 8)) w := by
 have := run_midU (b := b) (off := 0) (n := n) (w := w) (u := 8) (t := 52) (c := c) (by omega) (by omega) (by omega)
 simpa using this
theorem exec_headU (ho : o.op = .slice 118 x none (some (.const (.int .i64 52))) none) (hx : ρ x = .slice (some ⟨b, off, none⟩) n c) (hy : ρ (.const (.int .i64 52)) = .int .i64 52) (h : 64 ≤ c) : (execOp ρ o).run Tryz.prog w = .ok (.value (.slice (some ⟨b, off, none⟩) 52 c)) w := by
 unfold execOp
 simp only [ho, hx, hy, Option.map_some, Option.map_none, Sem.run_bind, head52 h, Result.andThen_ok, Sem.run_pure]
theorem exec_midU (ho : o.op = .slice 118 x (some (.const (.int .i64 8))) (some (.const (.int .i64 52))) none) (hx : ρ x = .slice (some ⟨b, 0, none⟩) n c) (hy : ρ (.const (.int .i64 52)) = .int .i64 52) (hz : ρ (.const (.int .i64 8)) = .int .i64 8) (h : 64 ≤ c) : (execOp ρ o).run Tryz.prog w = .ok (.value (.slice (some ⟨b, 8, none⟩) 44 (c - 8))) w := by
 unfold execOp
 simp only [ho, hx, hy, hz, Option.map_some, Option.map_none, Sem.run_bind, mid852 h, Result.andThen_ok, Sem.run_pure]
theorem run_wholeB : (Instr.sliceAt 29 (.pointer (some ⟨b, 0, none⟩)) none none none).run Tryz.prog w = .ok (.slice (some ⟨b, 0, none⟩) 64 64) w := by
 simp [Instr.sliceAt, Instr.sliceBounds, Instr.sureAddr, run_underlying undB, Tryz.sizeOf5, Addr.add_mid]
theorem gh (ho : o.op = .slice 29 x none none none) (hx : ρ x = .pointer (some ⟨b, 0, none⟩)) : (execOp ρ o).run Tryz.prog w = .ok (.value (.slice (some ⟨b, 0, none⟩) 64 64)) w := by
 unfold execOp
 simp only [ho, hx, Option.map_none, Sem.run_bind, run_wholeB, Result.andThen_ok, Sem.run_pure]
end
theorem Rd.piece {w : World} {N g n p k : Nat} {l : List UInt8} (h : Rd w N (some ⟨g, 0, none⟩) n l) (hk : p + k ≤ n) : Rd w N (some ⟨g, p, none⟩) k (piece l p k) :=
 ⟨bi (by have := h.1; omega), fun j hj => by
  obtain ⟨b, off, e, hb, hc⟩ := h.2 (p + j) (by omega)
  injection e with e
  injection e with e1 e2
  subst e1 e2
  refine ⟨g, p, rfl, hb, ?_⟩
  rw [dy hj, ← hc, Nat.zero_add]⟩
set_option maxHeartbeats 4000000 in
theorem rget_zero (b : Blk) (B : Nat) (w : World) (HB : Hid (B = w.heap.size)) (h0 : cH b.toList = 0) :
  Calls Tryz.prog 76 #[blk b] w fun e w' => ∃ v, e = .returned (.tuple #[.int .u64 (cP b.toList : Nat), v, .int .i64 (cu b.toList : Nat)]) ∧ Made w' B v (cv b.toList) ∧ Below B w w' := by
 have hA := bR.blk w b 29
 have hbA := (Below.refl w.heap.size w).alloc (Nat.le_refl _) (.cells (cel b).toArray 29)
 have hRA := hA.rd (p := 0) (k := 64) (by simp)
 rw [df (bz b)] at hRA
 have HRA := af hRA
 have HBA := af hbA
 have HL := af (bz b)
 have hE := getE_form (.inl h0)
 have HE := af hE
 have HN := af (getN_no (l := b.toList) (by omega))
 have HBB := af (getB_no (l := b.toList) (by omega))
 have HX : Hid (val 8 (piece b.toList 0 8) = 0) := af h0
 obtain ⟨y, hy⟩ : ∃ y, agO b.toList = y := ⟨_, rfl⟩
 have HY : Hid (val 8 (piece b.toList 56 8) = y) := af hy
 clear hE h0 hy
 clear hA hbA hRA
 go_enter Tryz.func76, Tryz.ntmps76
 go_wp2_with (first | (refine al rfl (bE rfl rfl) ?_) | (refine al rfl (gh rfl rfl) ?_) | fail)
 refine (fV _ 64 64 _ _ b.toList _ (af rfl) HRA.out (Nat.le_refl _) (by omega)).mono ?_
 rintro e w1 ⟨v1, rfl, hm1, hb1⟩
 obtain ⟨q, c, rfl, hq, hc1, hc2⟩ := hm1.smn (by rw [HL.out]; omega)
 rw [HL.out] at hm1 hc1 ⊢
 have hrd := hm1.rd
 have HBL := af (HBA.out.trans (hb1.mono (by simp only [World.size_alloc]; omega)))
 have HR := af hrd
 have HC2 := af hc2
 clear hb1 hrd hm1 HBA HRA hq hc2
 generalize hrr : w.heap.size = r at *
 have HSZ : Hid (r ≤ w1.heap.size) := af (Nat.le_trans (Nat.le_of_eq hrr.symm) HBL.out.size)
 clear hrr
 go_wp2_with fail
 refine (dz _ 64 c _ b.toList 0 8 _ HR.out (by unfold maxLen; omega) (by omega) (by omega) (by omega)).mono ?_
 rintro e w2 ⟨rfl, rfl⟩
 rw [HX.out]
 go_wp2_with fail
 refine (dz _ 64 c _ b.toList 56 8 _ HR.out (by unfold maxLen; omega) (by omega) (by omega) (by omega)).mono ?_
 rintro e w2 ⟨rfl, rfl⟩
 rw [HY.out]
 go_wp2_with fail
 refine bodyPost_ret (v := .tuple #[.int .u64 0, .slice none 0 0, .int .i64 5]) (by simp [results, Tryz.results76, go_sem]) rfl ⟨_, by rw [HE.out, HN.out]; rfl, by rw [HBB.out]; exact World.ownsRow_nil _ _ _ _, by rw [HB.out]; exact HBL.out⟩
set_option maxHeartbeats 4000000 in
theorem rget_unlike (b : Blk) (B : Nat) (w : World) (HB : Hid (B = w.heap.size)) (h0 : cH b.toList ≠ 0) (h1 : cH b.toList ≠ agO b.toList) :
  Calls Tryz.prog 76 #[blk b] w fun e w' => ∃ v, e = .returned (.tuple #[.int .u64 (cP b.toList : Nat), v, .int .i64 (cu b.toList : Nat)]) ∧ Made w' B v (cv b.toList) ∧ Below B w w' := by
 have hA := bR.blk w b 29
 have hbA := (Below.refl w.heap.size w).alloc (Nat.le_refl _) (.cells (cel b).toArray 29)
 have hRA := hA.rd (p := 0) (k := 64) (by simp)
 rw [df (bz b)] at hRA
 have HRA := af hRA
 have HBA := af hbA
 have HL := af (bz b)
 have hE := getE_form (.inr h1)
 have HE := af hE
 have HN := af (getN_no (l := b.toList) (by omega))
 have HBB := af (getB_no (l := b.toList) (by omega))
 obtain ⟨x, hx⟩ : ∃ x, cH b.toList = x := ⟨_, rfl⟩
 have HX : Hid (val 8 (piece b.toList 0 8) = x) := af hx
 obtain ⟨y, hy⟩ : ∃ y, agO b.toList = y := ⟨_, rfl⟩
 have HY : Hid (val 8 (piece b.toList 56 8) = y) := af hy
 rw [hx] at h0 h1
 rw [hy] at h1
 have hz : ((x : Int) == 0) = false := by simp; omega
 have hn : ((x : Int) != (y : Int)) = true := by simp; omega
 clear hE h0 h1 hx hy
 clear hA hbA hRA
 go_enter Tryz.func76, Tryz.ntmps76
 go_wp2_with (first | (refine al rfl (bE rfl rfl) ?_) | (refine al rfl (gh rfl rfl) ?_) | fail)
 refine (fV _ 64 64 _ _ b.toList _ (af rfl) HRA.out (Nat.le_refl _) (by omega)).mono ?_
 rintro e w1 ⟨v1, rfl, hm1, hb1⟩
 obtain ⟨q, c, rfl, hq, hc1, hc2⟩ := hm1.smn (by rw [HL.out]; omega)
 rw [HL.out] at hm1 hc1 ⊢
 have hrd := hm1.rd
 have HBL := af (HBA.out.trans (hb1.mono (by simp only [World.size_alloc]; omega)))
 have HR := af hrd
 have HC2 := af hc2
 clear hb1 hrd hm1 HBA HRA hq hc2
 generalize hrr : w.heap.size = r at *
 have HSZ : Hid (r ≤ w1.heap.size) := af (Nat.le_trans (Nat.le_of_eq hrr.symm) HBL.out.size)
 clear hrr
 go_wp2_with fail
 refine (dz _ 64 c _ b.toList 0 8 _ HR.out (by unfold maxLen; omega) (by omega) (by omega) (by omega)).mono ?_
 rintro e w2 ⟨rfl, rfl⟩
 rw [HX.out]
 go_wp2_with fail
 refine (dz _ 64 c _ b.toList 56 8 _ HR.out (by unfold maxLen; omega) (by omega) (by omega) (by omega)).mono ?_
 rintro e w2 ⟨rfl, rfl⟩
 rw [HY.out]
 go_wp2_with fail
 refine bodyPost_ret (v := .tuple #[.int .u64 0, .slice none 0 0, .int .i64 5]) (by simp [results, Tryz.results76, go_sem]) rfl ⟨_, by rw [HE.out, HN.out]; rfl, by rw [HBB.out]; exact World.ownsRow_nil _ _ _ _, by rw [HB.out]; exact HBL.out⟩
set_option maxHeartbeats 4000000 in
theorem rget_sum (b : Blk) (B : Nat) (w : World) (HB : Hid (B = w.heap.size)) (h0 : cH b.toList ≠ 0) (h1 : cH b.toList = agO b.toList) (h2 : sumO b.toList ≠ crcO b.toList) :
  Calls Tryz.prog 76 #[blk b] w fun e w' => ∃ v, e = .returned (.tuple #[.int .u64 (cP b.toList : Nat), v, .int .i64 (cu b.toList : Nat)]) ∧ Made w' B v (cv b.toList) ∧ Below B w w' := by
 have hA := bR.blk w b 29
 have hbA := (Below.refl w.heap.size w).alloc (Nat.le_refl _) (.cells (cel b).toArray 29)
 have hRA := hA.rd (p := 0) (k := 64) (by simp)
 rw [df (bz b)] at hRA
 have HRA := af hRA
 have HBA := af hbA
 have HL := af (bz b)
 have hE := getE_sum h0 h1 h2
 have HE := af hE
 have HN := af (getN_no (l := b.toList) (by omega))
 have HBB := af (getB_no (l := b.toList) (by omega))
 obtain ⟨x, hx⟩ : ∃ x, cH b.toList = x := ⟨_, rfl⟩
 have HX : Hid (val 8 (piece b.toList 0 8) = x) := af hx
 have HY : Hid (val 8 (piece b.toList 56 8) = x) := af (by rw [← hx]; exact h1.symm)
 rw [hx] at h0
 obtain ⟨s, hs⟩ : ∃ s, sumO b.toList = s := ⟨_, rfl⟩
 obtain ⟨k, hk⟩ : ∃ k, crcO b.toList = k := ⟨_, rfl⟩
 have HSU : Hid (val 8 (piece b.toList 52 4) = s) := af hs
 have HCR : Hid (more 0 (piece b.toList 0 52) = k) := af hk
 have hsl := sumO_lt (bz b)
 have hkl := crcO_lt b.toList
 rw [hs] at hsl h2
 rw [hk] at hkl h2
 have hz : ((x : Int) == 0) = false := by simp; omega
 have hn : ((x : Int) != (x : Int)) = false := by simp
 have hc : ((k : Int) != (s : Int)) = true := by simp; omega
 clear hE h0 h1 hx h2 hs hk
 clear hA hbA hRA
 go_enter Tryz.func76, Tryz.ntmps76
 go_wp2_with (first | (refine al rfl (bE rfl rfl) ?_) | (refine al rfl (gh rfl rfl) ?_) | fail)
 refine (fV _ 64 64 _ _ b.toList _ (af rfl) HRA.out (Nat.le_refl _) (by omega)).mono ?_
 rintro e w1 ⟨v1, rfl, hm1, hb1⟩
 obtain ⟨q, c, rfl, hq, hc1, hc2⟩ := hm1.smn (by rw [HL.out]; omega)
 rw [HL.out] at hm1 hc1 ⊢
 have hrd := hm1.rd
 have HBL := af (HBA.out.trans (hb1.mono (by simp only [World.size_alloc]; omega)))
 have HR := af hrd
 have HC2 := af hc2
 clear hb1 hrd hm1 HBA HRA hq hc2
 generalize hrr : w.heap.size = r at *
 have HSZ : Hid (r ≤ w1.heap.size) := af (Nat.le_trans (Nat.le_of_eq hrr.symm) HBL.out.size)
 clear hrr
 go_wp2_with fail
 refine (dz _ 64 c _ b.toList 0 8 _ HR.out (by unfold maxLen; omega) (by omega) (by omega) (by omega)).mono ?_
 rintro e w2 ⟨rfl, rfl⟩
 rw [HX.out]
 go_wp2_with fail
 refine (dz _ 64 c _ b.toList 56 8 _ HR.out (by unfold maxLen; omega) (by omega) (by omega) (by omega)).mono ?_
 rintro e w2 ⟨rfl, rfl⟩
 rw [HY.out]
 go_wp2_with fail
 refine (dz _ 64 c _ b.toList 52 4 _ HR.out (by unfold maxLen; omega) (by omega) (by omega) (by omega)).mono ?_
 rintro e w2 ⟨rfl, rfl⟩
 rw [HSU.out]
 go_wp2_with (first | (refine al rfl (exec_headU rfl rfl rfl hc1) ?_) | fail)
 refine (refOf_any _ 52 c _ (piece b.toList 0 52) _ (HR.out.piece (p := 0) (k := 52) (by omega)) (by unfold maxLen; omega)).mono ?_
 rintro e w2 ⟨rfl, rfl⟩
 rw [HCR.out]
 go_wp2_with fail
 refine bodyPost_ret (v := .tuple #[.int .u64 0, .slice none 0 0, .int .i64 6]) (by simp [results, Tryz.results76, go_sem]) rfl ⟨_, by rw [HE.out, HN.out]; rfl, by rw [HBB.out]; exact World.ownsRow_nil _ _ _ _, by rw [HB.out]; exact HBL.out⟩
set_option maxHeartbeats 4000000 in
theorem rget_fine (b : Blk) (B : Nat) (w : World) (HB : Hid (B = w.heap.size)) (h0 : cH b.toList ≠ 0) (h1 : cH b.toList = agO b.toList) (h2 : sumO b.toList = crcO b.toList) :
  Calls Tryz.prog 76 #[blk b] w fun e w' => ∃ v, e = .returned (.tuple #[.int .u64 (cP b.toList : Nat), v, .int .i64 (cu b.toList : Nat)]) ∧ Made w' B v (cv b.toList) ∧ Below B w w' := by
 have hA := bR.blk w b 29
 have hbA := (Below.refl w.heap.size w).alloc (Nat.le_refl _) (.cells (cel b).toArray 29)
 have hRA := hA.rd (p := 0) (k := 64) (by simp)
 rw [df (bz b)] at hRA
 have HRA := af hRA
 have HBA := af hbA
 have HL := af (bz b)
 have hE := getE_ok h0 h1 h2
 have HE := af hE
 have HN := af (getN_of hE)
 have HBB := af (getB_of hE)
 obtain ⟨x, hx⟩ : ∃ x, cH b.toList = x := ⟨_, rfl⟩
 have HX : Hid (val 8 (piece b.toList 0 8) = x) := af hx
 have HY : Hid (val 8 (piece b.toList 56 8) = x) := af (by rw [← hx]; exact h1.symm)
 rw [hx] at h0
 obtain ⟨s, hs⟩ : ∃ s, sumO b.toList = s := ⟨_, rfl⟩
 obtain ⟨k, hk⟩ : ∃ k, crcO b.toList = k := ⟨_, rfl⟩
 have HSU : Hid (val 8 (piece b.toList 52 4) = s) := af hs
 have HCR : Hid (more 0 (piece b.toList 0 52) = k) := af hk
 have hsl := sumO_lt (bz b)
 have hkl := crcO_lt b.toList
 rw [hs] at hsl h2
 rw [hk] at hkl h2
 have hz : ((x : Int) == 0) = false := by simp; omega
 have hn : ((x : Int) != (x : Int)) = false := by simp
 have hc : ((k : Int) != (s : Int)) = false := by simp; omega
 have HXX := af hx
 clear hE h0 h1 hx h2 hs hk
 clear hA hbA hRA
 go_enter Tryz.func76, Tryz.ntmps76
 go_wp2_with (first | (refine al rfl (bE rfl rfl) ?_) | (refine al rfl (gh rfl rfl) ?_) | fail)
 refine (fV _ 64 64 _ _ b.toList _ (af rfl) HRA.out (Nat.le_refl _) (by omega)).mono ?_
 rintro e w1 ⟨v1, rfl, hm1, hb1⟩
 obtain ⟨q, c, rfl, hq, hc1, hc2⟩ := hm1.smn (by rw [HL.out]; omega)
 rw [HL.out] at hm1 hc1 ⊢
 have hrd := hm1.rd
 have HBL := af (HBA.out.trans (hb1.mono (by simp only [World.size_alloc]; omega)))
 have HR := af hrd
 have HC2 := af hc2
 clear hb1 hrd hm1 HBA HRA hq hc2
 generalize hrr : w.heap.size = r at *
 have HSZ : Hid (r ≤ w1.heap.size) := af (Nat.le_trans (Nat.le_of_eq hrr.symm) HBL.out.size)
 clear hrr
 go_wp2_with fail
 refine (dz _ 64 c _ b.toList 0 8 _ HR.out (by unfold maxLen; omega) (by omega) (by omega) (by omega)).mono ?_
 rintro e w2 ⟨rfl, rfl⟩
 rw [HX.out]
 go_wp2_with fail
 refine (dz _ 64 c _ b.toList 56 8 _ HR.out (by unfold maxLen; omega) (by omega) (by omega) (by omega)).mono ?_
 rintro e w2 ⟨rfl, rfl⟩
 rw [HY.out]
 go_wp2_with fail
 refine (dz _ 64 c _ b.toList 52 4 _ HR.out (by unfold maxLen; omega) (by omega) (by omega) (by omega)).mono ?_
 rintro e w2 ⟨rfl, rfl⟩
 rw [HSU.out]
 go_wp2_with (first | (refine al rfl (exec_headU rfl rfl rfl hc1) ?_) | fail)
 refine (refOf_any _ 52 c _ (piece b.toList 0 52) _ (HR.out.piece (p := 0) (k := 52) (by omega)) (by unfold maxLen; omega)).mono ?_
 rintro e w2 ⟨rfl, rfl⟩
 rw [HCR.out]
 go_wp2_with (first | (refine al rfl (exec_midU rfl rfl rfl rfl hc1) ?_) | fail)
 refine (fV _ 44 (c - 8) _ _ (piece b.toList 8 44) _ (af rfl) (HR.out.piece (p := 8) (k := 44) (by omega)) (Nat.le_refl _) (by omega)).mono ?_
 rintro e w2 ⟨v2, rfl, hm2, hb2⟩
 have HM2 := af hm2
 have HB2 := af (HBL.out.trans (hb2.mono HSZ.out))
 clear hm2 hb2
 go_wp2_with fail
 refine bodyPost_ret (v := .tuple #[.int .u64 (x : Int), v2, .int .i64 0]) (by simp [results, Tryz.results76, go_sem]) rfl ⟨_, by rw [HE.out, HN.out, HXX.out]; rfl, by rw [HBB.out, HB.out]; exact HM2.out.base HSZ.out, by rw [HB.out]; exact HB2.out⟩
theorem rget_any (b : Blk) (B : Nat) (w : World) (HB : Hid (B = w.heap.size)) : Calls Tryz.prog 76 #[blk b] w fun e w' => ∃ v, e = .returned (.tuple #[.int .u64 (cP b.toList : Nat), v, .int .i64 (cu b.toList : Nat)]) ∧ Made w' B v (cv b.toList) ∧ Below B w w' := by
 by_cases h0 : cH b.toList = 0
 ·exact rget_zero b B w HB h0
 ·by_cases h1 : cH b.toList = agO b.toList
  ·by_cases h2 : sumO b.toList = crcO b.toList
   ·exact rget_fine b B w HB h0 h1 h2
   ·exact rget_sum b B w HB h0 h1 h2
  ·exact rget_unlike b B w HB h0 h1
end Go.Proofs.YtbbcdhkinbmdnaaGreatDoor
