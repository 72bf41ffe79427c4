/-
  PlanReads' walk.
-/
import Derived.Test.YtplanbjjfaihbaaPnL
import Derived.Test.YtplanbjjfaihbaaPnG
import Derived.Test.YtplanbjjfaihbaaSkq
namespace Go.Proofs.Ytplanbjjfaihbaa
open Go.RowKit
set_option linter.unusedVariables false
set_option linter.unusedSimpArgs false
set_option maxRecDepth 100000

section
variable {ρ : Operand → Value} {o : Oper} {x y : Operand} {w : World} {r : TypeId}
theorem exec_neBool {a b : Bool} (c : Bool) (ho : o.op = .binOp .neq 4 x y r) (hx : ρ x = .bool a) (hy : ρ y = .bool b) (h : (a != b) = c) : (execOp ρ o).run Try.prog w = .ok (.value (.bool c)) w := by
  subst h
  unfold execOp
  simp only [ho, hx, hy]
  cases a <;> cases b <;> kernel_rfl
end
theorem RdE.two {w : World} {B n : Nat} {A : Option Addr} {l : List Int} (h : RdE IntE w B A n l) {i j : Nat} (hi : i < n) (hj : j < n) : ∃ b off, A = some ⟨b, off, none⟩ ∧ w.cell? ⟨b, off + i * IntE.n, none⟩ = some (.int .i64 (l.getD i 0)) ∧ w.cell? ⟨b, off + j * IntE.n, none⟩ = some (.int .i64 (l.getD j 0)) := by
  obtain ⟨b, off, e, _, h1⟩ := h.int hi
  obtain ⟨b', off', e', _, h2⟩ := h.int hj
  rw [e] at e'
  injection e' with e'
  injection e' with e1 e2
  subst e1 e2
  refine ⟨b, off, e, ?_, ?_⟩
  · show w.cell? ⟨b, off + i * 1, none⟩ = _
    rw [Nat.mul_one]; exact h1
  · show w.cell? ⟨b, off + j * 1, none⟩ = _
    rw [Nat.mul_one]; exact h2
set_option maxHeartbeats 8000000 in
theorem wplanReads (A B' : Option Addr) (n c m c' : Nat) (l k : List Bool) (par : Bool) (lost : Int) (w : World) (hl : RdE BoE w w.heap.size A n l) (hk : RdE BoE w w.heap.size B' m k) (hn : n ≤ maxLen ∧ m ≤ maxLen) :
    Calls Try.prog 6 #[.slice A n c, .slice B' m c', .bool par, .int .i64 lost] w fun e w' => e = .returned (.bool true) ∧ Below w.heap.size w w' := by
  have HW := Lib.hid (Upto.refl w)
  have HL := Lib.hid hl
  have HK := Lib.hid hk
  have HN := Lib.hid hn
  have HLL := Lib.hid hl.1
  have HKL := Lib.hid hk.1
  obtain ⟨z, hz⟩ : ∃ z, plW l k par lost = z := ⟨_, rfl⟩
  obtain ⟨e0, he⟩ : ∃ z, plE l k lost = z := ⟨_, rfl⟩
  obtain ⟨r, hr⟩ : ∃ z, plR l k par lost = z := ⟨_, rfl⟩
  have HZ := Lib.hid hz
  have HE := Lib.hid he
  have HR := Lib.hid hr
  clear hl hk hn hz he hr
  go_enter Try.func6, Try.ntmps6
  go_upto_region 1 with fail
  refine wp_region_lit ?_
  refine wpList_valn rfl (exec_mv rfl (ev rfl)) ?_
  simp only [Act.put, List.setIfInBounds_toArray, List.set_cons_succ, List.set_cons_zero]
  refine wpList_valn rfl (exec_mv rfl (ev rfl)) ?_
  simp only [Act.put, List.setIfInBounds_toArray, List.set_cons_succ, List.set_cons_zero]
  refine wpList_valn rfl (exec_mv rfl (ev rfl)) ?_
  simp only [Act.put, List.setIfInBounds_toArray, List.set_cons_succ, List.set_cons_zero]
  refine wpList_valn rfl (exec_mv rfl (ev rfl)) ?_
  simp only [Act.put, List.setIfInBounds_toArray, List.set_cons_succ, List.set_cons_zero]
  refine wpList_call rfl (exec_cl Try.call8 rfl (evc (ev rfl) (evc (ev rfl) (evc (ev rfl) (evc (ev rfl) evn))))) ?_
  refine (pplan_v A B' n c m c' l k par lost w HZ.out HE.out HR.out (HW.out.rd HL.out) (HW.out.rd HK.out) HN.out).mono ?_
  rintro e w1 ⟨A1', c1', rfl, hm, hb⟩
  have HWn := Lib.hid (HW.out.to hb)
  clear HW
  have HW := HWn
  clear HWn
  have HMx := Lib.hid hm
  clear hm hb
  refine ⟨_, rfl, ?_⟩
  simp only [Act.put, List.setIfInBounds_toArray, List.set_cons_succ, List.set_cons_zero]
  refine wpList_valn rfl (exec_mv rfl (ev rfl)) ?_
  simp only [Act.put, List.setIfInBounds_toArray, List.set_cons_succ, List.set_cons_zero]
  refine wpList_valn rfl (exec_ext rfl (ev rfl) rfl) ?_
  simp only [Act.put, List.setIfInBounds_toArray, List.set_cons_succ, List.set_cons_zero]
  refine wpList_valn rfl (exec_ext rfl (ev rfl) rfl) ?_
  simp only [Act.put, List.setIfInBounds_toArray, List.set_cons_succ, List.set_cons_zero]
  refine wpList_valn rfl (exec_allocT zinfoPl rfl) ?_
  simp only [Act.put, List.setIfInBounds_toArray, List.set_cons_succ, List.set_cons_zero]
  refine wpList_nuln rfl (exec_fillPl rfl (ev rfl) (ev rfl)) ?_
  simp only [Act.put, List.setIfInBounds_toArray, List.set_cons_succ, List.set_cons_zero]
  obtain ⟨w2, q1, hw_, hq_, hp, hb, hmm⟩ := pl_lay HMx.out
  rw [hw_, hq_]
  have HWn := Lib.hid (HW.out.to hb)
  clear HW
  have HW := HWn
  clear HWn
  have P1 := Lib.hid hp
  clear hw_ hq_ hp hb hmm HMx
  refine wpList_valn rfl (exec_as rfl (ev rfl)) ?_
  simp only [Act.put, List.setIfInBounds_toArray, List.set_cons_succ, List.set_cons_zero]
  refine wpList_nil ?_
  go_upto_region 2 with fail
  refine wp_region_lit ?_
  refine wpList_valn rfl (exec_mv rfl (ev rfl)) ?_
  simp only [Act.put, List.setIfInBounds_toArray, List.set_cons_succ, List.set_cons_zero]
  refine wpList_valn rfl (exec_lenQ Try.underlying22 rfl (ev rfl)) ?_
  simp only [Act.put, List.setIfInBounds_toArray, List.set_cons_succ, List.set_cons_zero]
  refine wpList_valn rfl (exec_as rfl (ev rfl)) ?_
  simp only [Act.put, List.setIfInBounds_toArray, List.set_cons_succ, List.set_cons_zero]
  refine wpList_nil ?_
  by_cases h0 : ¬ e0 = 0
  · have T0 : Hid ((e0 != 0) = true) := Lib.hid (by simp only [bne_iff_ne, ne_eq]; exact h0)
    have hpe := pl_err (w := l) (k := k) (par := par) (lost := lost) (by rw [HE.out]; exact h0)
    rw [HZ.out, HR.out] at hpe
    obtain ⟨rfl, rfl⟩ := hpe
    have T1 : Hid (((0 : Int) == 0) = true) := Lib.hid (by decide)
    have T2 : Hid (((([] : List Int).length : Int) == 0) = true) := Lib.hid (by decide)
    clear h0
    go_upto_region 3 with fail
    refine wp_region_lit ?_
    refine wpList_valn rfl (exec_mv rfl (ev rfl)) ?_
    simp only [Act.put, List.setIfInBounds_toArray, List.set_cons_succ, List.set_cons_zero]
    refine wpList_valn (v := .bool true) rfl (exec_neInt true rfl (ev rfl) evk T0.out) ?_
    simp only [Act.put, List.setIfInBounds_toArray, List.set_cons_succ, List.set_cons_zero]
    refine wpList_nil ?_
    go_upto_region 4 with fail
    refine wp_region_lit ?_
    refine wpList_valn rfl (exec_faddr rfl (ev rfl) faPn0) ?_
    simp only [Act.put, List.setIfInBounds_toArray, List.set_cons_succ, List.set_cons_zero]
    refine wpList_valn rfl (exec_ld rfl (ev rfl) (ldU8 (P1.out.1).c0)) ?_
    simp only [Act.put, List.setIfInBounds_toArray, List.set_cons_succ, List.set_cons_zero]
    refine wpList_valn (v := .bool true) rfl (exec_eqInt true rfl (ev rfl) evk T1.out) ?_
    simp only [Act.put, List.setIfInBounds_toArray, List.set_cons_succ, List.set_cons_zero]
    refine wpList_valn (v := .bool true) rfl (exec_mv rfl (ev rfl)) ?_
    simp only [Act.put, List.setIfInBounds_toArray, List.set_cons_succ, List.set_cons_zero]
    refine wpList_val (wanted_of rfl rfl rfl rfl) (exec_faddr rfl (ev rfl) faPn1) ?_
    simp only [Act.put, List.setIfInBounds_toArray, List.set_cons_succ, List.set_cons_zero]
    refine wpList_val (wanted_of rfl rfl rfl rfl) (exec_ld rfl (ev rfl) (ldIsP (P1.out.1).c1)) ?_
    simp only [Act.put, List.setIfInBounds_toArray, List.set_cons_succ, List.set_cons_zero]
    refine wpList_val (wanted_of rfl rfl rfl rfl) (exec_lenQ Try.underlying23 rfl (ev rfl)) ?_
    simp only [Act.put, List.setIfInBounds_toArray, List.set_cons_succ, List.set_cons_zero]
    refine wpList_val (v := .bool true) (wanted_of rfl rfl rfl rfl) (exec_eqInt true rfl (ev rfl) evk T2.out) ?_
    simp only [Act.put, List.setIfInBounds_toArray, List.set_cons_succ, List.set_cons_zero]
    refine wpList_valn (v := .bool true) rfl (exec_pt rfl (ev rfl) (ev rfl)) ?_
    simp only [Act.put, List.setIfInBounds_toArray, List.set_cons_succ, List.set_cons_zero]
    refine wpList_valn (v := .bool true) rfl (exec_mv rfl (ev rfl)) ?_
    simp only [Act.put, List.setIfInBounds_toArray, List.set_cons_succ, List.set_cons_zero]
    refine wpList_call (wanted_of rfl rfl rfl rfl) (exec_cl Try.call11 rfl evn) ?_
    refine (nlives w2).mono ?_
    rintro e w3 ⟨rfl, hb⟩
    have HWn := Lib.hid (HW.out.to hb)
    clear HW
    have HW := HWn
    clear HWn
    have P1n := Lib.hid (P1.out.below hb)
    clear P1
    have P1 := P1n
    clear P1n
    clear hb
    refine ⟨_, rfl, ?_⟩
    simp only [Act.put, List.setIfInBounds_toArray, List.set_cons_succ, List.set_cons_zero]
    refine wpList_valn (v := .bool true) rfl (exec_pt rfl (ev rfl) (ev rfl)) ?_
    simp only [Act.put, List.setIfInBounds_toArray, List.set_cons_succ, List.set_cons_zero]
    refine wpList_valn (v := .bool true) rfl (exec_as rfl (ev rfl)) ?_
    simp only [Act.put, List.setIfInBounds_toArray, List.set_cons_succ, List.set_cons_zero]
    refine wpList_nil ?_
    go_wp2_with fail
    go_ret
    exact ⟨rfl, HW.out.1⟩
  have T0 : Hid ((e0 != 0) = false) := Lib.hid (by simp only [bne_eq_false_iff_eq]; omega)
  have hq := pl_ok (w := l) (k := k) (lost := lost) (by rw [HE.out]; omega)
  have hf := pl_f (par := par) hq
  rw [HZ.out, HR.out] at hf
  have HF := Lib.hid hf
  have HQ := Lib.hid hq
  have HN15 : Hid (n ≤ 15) := Lib.hid (by have := (of_decide_eq_true hq).2.1; rw [HLL.out] at this; exact this)
  have HMN : Hid (m = n) := Lib.hid (by have := (of_decide_eq_true hq).2.2.1; rw [HLL.out, HKL.out] at this; exact this)
  have HRL : Hid (r.length ≤ 100) := Lib.hid (by rw [← HR.out]; exact plR_len _ _ _ _)
  have T1 : Hid (decide (z < 1) = false) := Lib.hid (decide_eq_false (by have := hf.lo; omega))
  have T2 : Hid (decide (4 < z) = false) := Lib.hid (decide_eq_false (by have := hf.hi; omega))
  obtain ⟨t1, ht1⟩ : ∃ t, (z == 1) = t := ⟨_, rfl⟩
  have T3 := Lib.hid ht1
  have T4 : Hid ((lost == (n : Int)) = t1) := Lib.hid (by rw [← ht1, hf.none, HLL.out])
  obtain ⟨t4, ht4⟩ : ∃ t, (z == 4) = t := ⟨_, rfl⟩
  have T5 := Lib.hid ht4
  clear h0 hf hq ht1 ht4
  go_upto_region 3 with fail
  refine wp_region_lit ?_
  refine wpList_valn rfl (exec_mv rfl (ev rfl)) ?_
  simp only [Act.put, List.setIfInBounds_toArray, List.set_cons_succ, List.set_cons_zero]
  refine wpList_valn (v := .bool false) rfl (exec_neInt false rfl (ev rfl) evk T0.out) ?_
  simp only [Act.put, List.setIfInBounds_toArray, List.set_cons_succ, List.set_cons_zero]
  refine wpList_nil ?_
  go_upto_region 5 with fail
  refine wp_region_lit ?_
  refine wpList_valn rfl (exec_faddr rfl (ev rfl) faPn0) ?_
  simp only [Act.put, List.setIfInBounds_toArray, List.set_cons_succ, List.set_cons_zero]
  refine wpList_valn rfl (exec_ld rfl (ev rfl) (ldU8 (P1.out.1).c0)) ?_
  simp only [Act.put, List.setIfInBounds_toArray, List.set_cons_succ, List.set_cons_zero]
  refine wpList_valn (v := .bool false) rfl (exec_lss false rfl (ev rfl) evk T1.out) ?_
  simp only [Act.put, List.setIfInBounds_toArray, List.set_cons_succ, List.set_cons_zero]
  refine wpList_valn (v := .bool false) rfl (exec_mv rfl (ev rfl)) ?_
  simp only [Act.put, List.setIfInBounds_toArray, List.set_cons_succ, List.set_cons_zero]
  refine wpList_val (wanted_of rfl rfl rfl rfl) (exec_faddr rfl (ev rfl) faPn0) ?_
  simp only [Act.put, List.setIfInBounds_toArray, List.set_cons_succ, List.set_cons_zero]
  refine wpList_val (wanted_of rfl rfl rfl rfl) (exec_ld rfl (ev rfl) (ldU8 (P1.out.1).c0)) ?_
  simp only [Act.put, List.setIfInBounds_toArray, List.set_cons_succ, List.set_cons_zero]
  refine wpList_val (v := .bool false) (wanted_of rfl rfl rfl rfl) (exec_gtr false rfl (ev rfl) evk T2.out) ?_
  simp only [Act.put, List.setIfInBounds_toArray, List.set_cons_succ, List.set_cons_zero]
  refine wpList_valn (v := .bool false) rfl (exec_pf rfl (ev rfl) (ev rfl)) ?_
  simp only [Act.put, List.setIfInBounds_toArray, List.set_cons_succ, List.set_cons_zero]
  refine wpList_valn (v := .bool false) rfl (exec_mv rfl (ev rfl)) ?_
  simp only [Act.put, List.setIfInBounds_toArray, List.set_cons_succ, List.set_cons_zero]
  refine wpList_val (wanted_of rfl rfl rfl rfl) (exec_faddr rfl (ev rfl) faPn0) ?_
  simp only [Act.put, List.setIfInBounds_toArray, List.set_cons_succ, List.set_cons_zero]
  refine wpList_val (wanted_of rfl rfl rfl rfl) (exec_ld rfl (ev rfl) (ldU8 (P1.out.1).c0)) ?_
  simp only [Act.put, List.setIfInBounds_toArray, List.set_cons_succ, List.set_cons_zero]
  refine wpList_val (wanted_of rfl rfl rfl rfl) (exec_eqInt t1 rfl (ev rfl) evk T3.out) ?_
  simp only [Act.put, List.setIfInBounds_toArray, List.set_cons_succ, List.set_cons_zero]
  refine wpList_val (wanted_of rfl rfl rfl rfl) (exec_mv rfl (ev rfl)) ?_
  simp only [Act.put, List.setIfInBounds_toArray, List.set_cons_succ, List.set_cons_zero]
  refine wpList_val (wanted_of rfl rfl rfl rfl) (exec_mv rfl (ev rfl)) ?_
  simp only [Act.put, List.setIfInBounds_toArray, List.set_cons_succ, List.set_cons_zero]
  refine wpList_val (wanted_of rfl rfl rfl rfl) (exec_eqInt t1 rfl (ev rfl) (ev rfl) T4.out) ?_
  simp only [Act.put, List.setIfInBounds_toArray, List.set_cons_succ, List.set_cons_zero]
  refine wpList_val (v := .bool false) (wanted_of rfl rfl rfl rfl) (exec_neBool false rfl (ev rfl) (ev rfl) (bne_self_eq_false t1)) ?_
  simp only [Act.put, List.setIfInBounds_toArray, List.set_cons_succ, List.set_cons_zero]
  refine wpList_valn (v := .bool false) rfl (exec_pf rfl (ev rfl) (ev rfl)) ?_
  simp only [Act.put, List.setIfInBounds_toArray, List.set_cons_succ, List.set_cons_zero]
  refine wpList_nil ?_
  go_upto_region 7 with fail
  refine wp_region_lit ?_
  refine wpList_valn rfl (exec_as rfl evk) ?_
  simp only [Act.put, List.setIfInBounds_toArray, List.set_cons_succ, List.set_cons_zero]
  refine wpList_nil ?_
  go_wp2_with fail
  go_loopw [12] (fun v wr => ∃ i : Nat, v = .int .i64 i ∧ i ≤ r.length ∧ PlR wr q1 z A1' r.length c1' r ∧ Upto w.heap.size w wr) (fun v _ => r.length - (intOf v).toNat)
  case atStart => exact ⟨0, by go_num, by omega, P1.out, HW.out⟩
  case round =>
    obtain ⟨i, rfl, hi, hp, hu⟩ := hrel
    have HP := Lib.hid hp
    have HU := Lib.hid hu
    clear hp hu
    by_cases hlt : i < r.length
    · have HI := Lib.hid hlt
      have HT : Hid (decide ((i : Int) < (r.length : Int)) = true) := Lib.hid (decide_eq_true (by omega))
      obtain ⟨X, hX, hXn, hXl, hXe, hXk⟩ := HF.out.at_ hlt
      rw [HLL.out] at hXn hXe hXk
      obtain ⟨br, or_, rfl, hci, hcj⟩ := HP.out.2.two hlt (show i - 1 < r.length by omega)
      rw [hX] at hci
      have HCI := Lib.hid hci
      have HCJ := Lib.hid hcj
      have U0 : Hid (decide ((X : Int) < 0) = false) := Lib.hid (decide_eq_false (by omega))
      have U1 : Hid (decide ((X : Int) > (n : Int)) = false) := Lib.hid (decide_eq_false (by omega))
      have U2 : Hid (((X : Int) == lost) = false) := Lib.hid (beq_eq_false_iff_ne.2 hXl)
      have U4 : Hid (0 < i → decide (r.getD (i - 1) 0 ≥ (X : Int)) = false) := Lib.hid fun h => decide_eq_false (by have := HF.out.up hlt h; rw [hX] at this; omega)
      have HSB : Hid (0 < i → IntKind.i64.wrap ((i : Int) - 1) = ((i - 1 : Nat) : Int)) := Lib.hid fun h => by have := HRL.out; rw [i64k ⟨by omega, by omega⟩]; omega
      have HAJ : Hid (IntKind.i64.wrap ((i : Int) + 1) = ((i + 1 : Nat) : Int)) := Lib.hid (by have := HRL.out; rw [i64k ⟨by omega, by omega⟩]; omega)
      have HJ1 : Hid (i - 1 < r.length) := Lib.hid (by omega)
      have HXN := Lib.hid hXn
      have HXE := Lib.hid hXe
      have HXK := Lib.hid hXk
      obtain ⟨y, hy⟩ : ∃ y, r.getD (i - 1) 0 = y := ⟨_, rfl⟩
      rw [hy] at HCJ U4
      clear hX hXn hXl hXe hXk hci hcj hlt hi hy
      go_upto_region 8 with fail
      refine wp_region_lit ?_
      refine wpList_valn rfl (exec_mv rfl (ev rfl)) ?_
      simp only [Act.put, List.setIfInBounds_toArray, List.set_cons_succ, List.set_cons_zero]
      refine wpList_valn rfl (exec_faddr rfl (ev rfl) faPn1) ?_
      simp only [Act.put, List.setIfInBounds_toArray, List.set_cons_succ, List.set_cons_zero]
      refine wpList_valn rfl (exec_ld rfl (ev rfl) (ldIsP (HP.out.1).c1)) ?_
      simp only [Act.put, List.setIfInBounds_toArray, List.set_cons_succ, List.set_cons_zero]
      refine wpList_valn rfl (exec_lenQ Try.underlying23 rfl (ev rfl)) ?_
      simp only [Act.put, List.setIfInBounds_toArray, List.set_cons_succ, List.set_cons_zero]
      refine wpList_valn (v := .bool true) rfl (exec_lss true rfl (ev rfl) (ev rfl) HT.out) ?_
      simp only [Act.put, List.setIfInBounds_toArray, List.set_cons_succ, List.set_cons_zero]
      refine wpList_nil ?_
      go_upto_region 10 with fail
      refine wp_region_lit ?_
      refine wpList_valn rfl (exec_faddr rfl (ev rfl) faPn1) ?_
      simp only [Act.put, List.setIfInBounds_toArray, List.set_cons_succ, List.set_cons_zero]
      refine wpList_valn rfl (exec_ld rfl (ev rfl) (ldIsP (HP.out.1).c1)) ?_
      simp only [Act.put, List.setIfInBounds_toArray, List.set_cons_succ, List.set_cons_zero]
      refine wpList_valn rfl (exec_mv rfl (ev rfl)) ?_
      simp only [Act.put, List.setIfInBounds_toArray, List.set_cons_succ, List.set_cons_zero]
      refine wpList_valn rfl (exec_indexE (E := IntE) rfl (ev rfl) (ev rfl) HI.out) ?_
      simp only [Act.put, List.setIfInBounds_toArray, List.set_cons_succ, List.set_cons_zero]
      refine wpList_valn rfl (exec_ld rfl (ev rfl) (ldInP HCI.out)) ?_
      simp only [Act.put, List.setIfInBounds_toArray, List.set_cons_succ, List.set_cons_zero]
      refine wpList_valn rfl (exec_as rfl (ev rfl)) ?_
      simp only [Act.put, List.setIfInBounds_toArray, List.set_cons_succ, List.set_cons_zero]
      refine wpList_nil ?_
      by_cases hip : 0 < i
      · have HIP := Lib.hid hip
        have V0 : Hid (decide ((i : Int) > 0) = true) := Lib.hid (decide_eq_true (by omega))
        clear hip
        go_upto_region 11 with fail
        refine wp_region_lit ?_
        refine wpList_valn rfl (exec_mv rfl (ev rfl)) ?_
        simp only [Act.put, List.setIfInBounds_toArray, List.set_cons_succ, List.set_cons_zero]
        refine wpList_valn (v := .bool false) rfl (exec_lss false rfl (ev rfl) evk U0.out) ?_
        simp only [Act.put, List.setIfInBounds_toArray, List.set_cons_succ, List.set_cons_zero]
        refine wpList_valn (v := .bool false) rfl (exec_mv rfl (ev rfl)) ?_
        simp only [Act.put, List.setIfInBounds_toArray, List.set_cons_succ, List.set_cons_zero]
        refine wpList_val (wanted_of rfl rfl rfl rfl) (exec_mv rfl (ev rfl)) ?_
        simp only [Act.put, List.setIfInBounds_toArray, List.set_cons_succ, List.set_cons_zero]
        refine wpList_val (wanted_of rfl rfl rfl rfl) (exec_mv rfl (ev rfl)) ?_
        simp only [Act.put, List.setIfInBounds_toArray, List.set_cons_succ, List.set_cons_zero]
        refine wpList_val (v := .bool false) (wanted_of rfl rfl rfl rfl) (exec_gtr false rfl (ev rfl) (ev rfl) U1.out) ?_
        simp only [Act.put, List.setIfInBounds_toArray, List.set_cons_succ, List.set_cons_zero]
        refine wpList_valn (v := .bool false) rfl (exec_pf rfl (ev rfl) (ev rfl)) ?_
        simp only [Act.put, List.setIfInBounds_toArray, List.set_cons_succ, List.set_cons_zero]
        refine wpList_valn (v := .bool false) rfl (exec_mv rfl (ev rfl)) ?_
        simp only [Act.put, List.setIfInBounds_toArray, List.set_cons_succ, List.set_cons_zero]
        refine wpList_val (wanted_of rfl rfl rfl rfl) (exec_mv rfl (ev rfl)) ?_
        simp only [Act.put, List.setIfInBounds_toArray, List.set_cons_succ, List.set_cons_zero]
        refine wpList_val (wanted_of rfl rfl rfl rfl) (exec_mv rfl (ev rfl)) ?_
        simp only [Act.put, List.setIfInBounds_toArray, List.set_cons_succ, List.set_cons_zero]
        refine wpList_val (v := .bool false) (wanted_of rfl rfl rfl rfl) (exec_eqInt false rfl (ev rfl) (ev rfl) U2.out) ?_
        simp only [Act.put, List.setIfInBounds_toArray, List.set_cons_succ, List.set_cons_zero]
        refine wpList_valn (v := .bool false) rfl (exec_pf rfl (ev rfl) (ev rfl)) ?_
        simp only [Act.put, List.setIfInBounds_toArray, List.set_cons_succ, List.set_cons_zero]
        refine wpList_valn (v := .bool false) rfl (exec_mv rfl (ev rfl)) ?_
        simp only [Act.put, List.setIfInBounds_toArray, List.set_cons_succ, List.set_cons_zero]
        refine wpList_val (wanted_of rfl rfl rfl rfl) (exec_mv rfl (ev rfl)) ?_
        simp only [Act.put, List.setIfInBounds_toArray, List.set_cons_succ, List.set_cons_zero]
        refine wpList_val (v := .bool true) (wanted_of rfl rfl rfl rfl) (exec_gtr true rfl (ev rfl) evk V0.out) ?_
        simp only [Act.put, List.setIfInBounds_toArray, List.set_cons_succ, List.set_cons_zero]
        refine wpList_val (v := .bool true) (wanted_of rfl rfl rfl rfl) (exec_mv rfl (ev rfl)) ?_
        simp only [Act.put, List.setIfInBounds_toArray, List.set_cons_succ, List.set_cons_zero]
        refine wpList_val (wanted_of rfl rfl rfl rfl) (exec_faddr rfl (ev rfl) faPn1) ?_
        simp only [Act.put, List.setIfInBounds_toArray, List.set_cons_succ, List.set_cons_zero]
        refine wpList_val (wanted_of rfl rfl rfl rfl) (exec_ld rfl (ev rfl) (ldIsP (HP.out.1).c1)) ?_
        simp only [Act.put, List.setIfInBounds_toArray, List.set_cons_succ, List.set_cons_zero]
        refine wpList_val (wanted_of rfl rfl rfl rfl) (exec_mv rfl (ev rfl)) ?_
        simp only [Act.put, List.setIfInBounds_toArray, List.set_cons_succ, List.set_cons_zero]
        refine wpList_val (wanted_of rfl rfl rfl rfl) (exec_sub rfl (ev rfl) evk (HSB.out HIP.out)) ?_
        simp only [Act.put, List.setIfInBounds_toArray, List.set_cons_succ, List.set_cons_zero]
        refine wpList_val (wanted_of rfl rfl rfl rfl) (exec_indexE (E := IntE) rfl (ev rfl) (ev rfl) HJ1.out) ?_
        simp only [Act.put, List.setIfInBounds_toArray, List.set_cons_succ, List.set_cons_zero]
        refine wpList_val (wanted_of rfl rfl rfl rfl) (exec_ld rfl (ev rfl) (ldInP HCJ.out)) ?_
        simp only [Act.put, List.setIfInBounds_toArray, List.set_cons_succ, List.set_cons_zero]
        refine wpList_val (wanted_of rfl rfl rfl rfl) (exec_mv rfl (ev rfl)) ?_
        simp only [Act.put, List.setIfInBounds_toArray, List.set_cons_succ, List.set_cons_zero]
        refine wpList_val (v := .bool false) (wanted_of rfl rfl rfl rfl) (exec_geq false rfl (ev rfl) (ev rfl) (U4.out HIP.out)) ?_
        simp only [Act.put, List.setIfInBounds_toArray, List.set_cons_succ, List.set_cons_zero]
        refine wpList_val (v := .bool false) (wanted_of rfl rfl rfl rfl) (exec_pt rfl (ev rfl) (ev rfl)) ?_
        simp only [Act.put, List.setIfInBounds_toArray, List.set_cons_succ, List.set_cons_zero]
        refine wpList_valn (v := .bool false) rfl (exec_pf rfl (ev rfl) (ev rfl)) ?_
        simp only [Act.put, List.setIfInBounds_toArray, List.set_cons_succ, List.set_cons_zero]
        refine wpList_nil ?_
        by_cases hXN : X = n
        · have V1 : Hid (((X : Int) == (n : Int)) = true) := Lib.hid (by rw [beq_iff_eq]; omega)
          have V3 : Hid (decide ((X : Int) < (n : Int)) = false) := Lib.hid (decide_eq_false (by omega))
          have hpz := HXE.out hXN
          obtain ⟨rfl, rfl⟩ := hpz
          have V2 : Hid (((4 : Int) != 4) = false) := Lib.hid (by decide)
          clear hXN
          go_upto_region 13 with fail
          refine wp_region_lit ?_
          refine wpList_valn rfl (exec_mv rfl (ev rfl)) ?_
          simp only [Act.put, List.setIfInBounds_toArray, List.set_cons_succ, List.set_cons_zero]
          refine wpList_valn rfl (exec_mv rfl (ev rfl)) ?_
          simp only [Act.put, List.setIfInBounds_toArray, List.set_cons_succ, List.set_cons_zero]
          refine wpList_valn (v := .bool true) rfl (exec_eqInt true rfl (ev rfl) (ev rfl) V1.out) ?_
          simp only [Act.put, List.setIfInBounds_toArray, List.set_cons_succ, List.set_cons_zero]
          refine wpList_valn (v := .bool true) rfl (exec_mv rfl (ev rfl)) ?_
          simp only [Act.put, List.setIfInBounds_toArray, List.set_cons_succ, List.set_cons_zero]
          refine wpList_val (v := .bool false) (wanted_of rfl rfl rfl rfl) (exec_mv rfl (ev rfl)) ?_
          simp only [Act.put, List.setIfInBounds_toArray, List.set_cons_succ, List.set_cons_zero]
          refine wpList_val (v := .bool false) (wanted_of rfl rfl rfl rfl) (exec_mv rfl (ev rfl)) ?_
          simp only [Act.put, List.setIfInBounds_toArray, List.set_cons_succ, List.set_cons_zero]
          refine wpList_val (wanted_of rfl rfl rfl rfl) (exec_faddr rfl (ev rfl) faPn0) ?_
          simp only [Act.put, List.setIfInBounds_toArray, List.set_cons_succ, List.set_cons_zero]
          refine wpList_val (wanted_of rfl rfl rfl rfl) (exec_ld rfl (ev rfl) (ldU8 (HP.out.1).c0)) ?_
          simp only [Act.put, List.setIfInBounds_toArray, List.set_cons_succ, List.set_cons_zero]
          refine wpList_val (v := .bool false) (wanted_of rfl rfl rfl rfl) (exec_neInt false rfl (ev rfl) evk V2.out) ?_
          simp only [Act.put, List.setIfInBounds_toArray, List.set_cons_succ, List.set_cons_zero]
          refine wpList_val (v := .bool false) (wanted_of rfl rfl rfl rfl) (exec_pf rfl (ev rfl) (ev rfl)) ?_
          simp only [Act.put, List.setIfInBounds_toArray, List.set_cons_succ, List.set_cons_zero]
          refine wpList_valn (v := .bool false) rfl (exec_pt rfl (ev rfl) (ev rfl)) ?_
          simp only [Act.put, List.setIfInBounds_toArray, List.set_cons_succ, List.set_cons_zero]
          refine wpList_nil ?_
          go_upto_region 15 with fail
          refine wp_region_above (B := wr.heap.size) (by kernel_rfl) ?_
          refine qv_val rfl (fun w' hw => exec_mv rfl (ev rfl)) ?_
          simp only [Act.put, List.setIfInBounds_toArray, List.set_cons_succ, List.set_cons_zero]
          refine qv_val rfl (fun w' hw => exec_mv rfl (ev rfl)) ?_
          simp only [Act.put, List.setIfInBounds_toArray, List.set_cons_succ, List.set_cons_zero]
          refine qv_val (v := .bool false) rfl (fun w' hw => exec_lss false rfl (ev rfl) (ev rfl) V3.out) ?_
          simp only [Act.put, List.setIfInBounds_toArray, List.set_cons_succ, List.set_cons_zero]
          refine qv_vals 14 (v := .bool false) rfl (fun w' hw => exec_mv rfl (ev rfl)) (by kernel_rfl) ?_
          simp only [skipAct, List.take_succ_cons, List.take_zero, List.drop_succ_cons, List.drop_zero, Act.put, List.setIfInBounds_toArray, List.set_cons_succ, List.set_cons_zero]
          refine qv_val (v := .bool false) rfl (fun w' hw => exec_pf rfl (ev rfl) evk) ?_
          simp only [Act.put, List.setIfInBounds_toArray, List.set_cons_succ, List.set_cons_zero]
          refine wpQuiet_nil ?_
          intro w3 hw
          have HP3 := Lib.hid (HP.out.below hw)
          have HU3 := Lib.hid (HU.out.to hw)
          clear hw
          go_upto_region 9 with fail
          refine wp_region_lit ?_
          refine wpList_valn rfl (exec_mv rfl (ev rfl)) ?_
          simp only [Act.put, List.setIfInBounds_toArray, List.set_cons_succ, List.set_cons_zero]
          refine wpList_valn rfl (exec_add rfl (ev rfl) evk HAJ.out) ?_
          simp only [Act.put, List.setIfInBounds_toArray, List.set_cons_succ, List.set_cons_zero]
          refine wpList_valn rfl (exec_as rfl (ev rfl)) ?_
          simp only [Act.put, List.setIfInBounds_toArray, List.set_cons_succ, List.set_cons_zero]
          refine wpList_nil ?_
          go_wp2_with fail
          go_roundw
          case rel => exact ⟨i + 1, by go_num, HI.out, HP3.out, HU3.out⟩
          case measure => have := HI.out; simp [intOf]; omega
        have V1 : Hid (((X : Int) == (n : Int)) = false) := Lib.hid (beq_eq_false_iff_ne.2 (by omega))
        have V3 : Hid (decide ((X : Int) < (n : Int)) = true) := Lib.hid (decide_eq_true (by have := HXN.out; omega))
        have HXL : Hid (X < n) := Lib.hid (by have := HXN.out; omega)
        have HXM : Hid (X < m) := Lib.hid (by have := HXN.out; have := HMN.out; omega)
        clear hXN
        have hkk := HXK.out HXL.out
        obtain ⟨bq, oq, rfl, hbq, hq⟩ := (HU.out.rd HL.out).bo HXL.out
        obtain ⟨bk, ok, rfl, hbk, hk⟩ := (HU.out.rd HK.out).bo HXM.out
        rw [hkk.2, T5.out] at hq
        rw [hkk.1] at hk
        have HQC : Hid (∀ w', Below wr.heap.size wr w' → w'.cell? ⟨bq, oq + X * BoE.n, none⟩ = some (.bool t4)) := Lib.hid fun w' h => by
          show w'.cell? ⟨bq, oq + X * 1, none⟩ = _
          rw [Nat.mul_one]
          exact (World.cell?_of_block (w := wr) (h.block bq hbq)).trans hq
        have HKC : Hid (∀ w', Below wr.heap.size wr w' → w'.cell? ⟨bk, ok + X * BoE.n, none⟩ = some (.bool false)) := Lib.hid fun w' h => by
          show w'.cell? ⟨bk, ok + X * 1, none⟩ = _
          rw [Nat.mul_one]
          exact (World.cell?_of_block (w := wr) (h.block bk hbk)).trans hk
        clear hkk hbq hq hbk hk
        go_upto_region 13 with fail
        refine wp_region_lit ?_
        refine wpList_valn rfl (exec_mv rfl (ev rfl)) ?_
        simp only [Act.put, List.setIfInBounds_toArray, List.set_cons_succ, List.set_cons_zero]
        refine wpList_valn rfl (exec_mv rfl (ev rfl)) ?_
        simp only [Act.put, List.setIfInBounds_toArray, List.set_cons_succ, List.set_cons_zero]
        refine wpList_valn (v := .bool false) rfl (exec_eqInt false rfl (ev rfl) (ev rfl) V1.out) ?_
        simp only [Act.put, List.setIfInBounds_toArray, List.set_cons_succ, List.set_cons_zero]
        refine wpList_skips 6 (v := .bool false) rfl (exec_mv rfl (ev rfl)) (by kernel_rfl) ?_
        simp only [skipAct, List.take_succ_cons, List.take_zero, List.drop_succ_cons, List.drop_zero, Act.put, List.setIfInBounds_toArray, List.set_cons_succ, List.set_cons_zero]
        refine wpList_valn (v := .bool false) rfl (exec_pf rfl (ev rfl) evk) ?_
        simp only [Act.put, List.setIfInBounds_toArray, List.set_cons_succ, List.set_cons_zero]
        refine wpList_nil ?_
        go_upto_region 15 with fail
        refine wp_region_above (B := wr.heap.size) (by kernel_rfl) ?_
        refine qv_val rfl (fun w' hw => exec_mv rfl (ev rfl)) ?_
        simp only [Act.put, List.setIfInBounds_toArray, List.set_cons_succ, List.set_cons_zero]
        refine qv_val rfl (fun w' hw => exec_mv rfl (ev rfl)) ?_
        simp only [Act.put, List.setIfInBounds_toArray, List.set_cons_succ, List.set_cons_zero]
        refine qv_val (v := .bool true) rfl (fun w' hw => exec_lss true rfl (ev rfl) (ev rfl) V3.out) ?_
        simp only [Act.put, List.setIfInBounds_toArray, List.set_cons_succ, List.set_cons_zero]
        refine qv_val (v := .bool true) rfl (fun w' hw => exec_mv rfl (ev rfl)) ?_
        simp only [Act.put, List.setIfInBounds_toArray, List.set_cons_succ, List.set_cons_zero]
        refine qv_val (wanted_of rfl rfl rfl rfl) (fun w' hw => exec_mv rfl (ev rfl)) ?_
        simp only [Act.put, List.setIfInBounds_toArray, List.set_cons_succ, List.set_cons_zero]
        refine qv_val (wanted_of rfl rfl rfl rfl) (fun w' hw => exec_mv rfl (ev rfl)) ?_
        simp only [Act.put, List.setIfInBounds_toArray, List.set_cons_succ, List.set_cons_zero]
        refine qv_val (wanted_of rfl rfl rfl rfl) (fun w' hw => exec_indexE (E := BoE) rfl (ev rfl) (ev rfl) HXM.out) ?_
        simp only [Act.put, List.setIfInBounds_toArray, List.set_cons_succ, List.set_cons_zero]
        refine qv_val (v := .bool false) (wanted_of rfl rfl rfl rfl) (fun w' hw => exec_ld rfl (ev rfl) (ldBoE (HKC.out _ hw))) ?_
        simp only [Act.put, List.setIfInBounds_toArray, List.set_cons_succ, List.set_cons_zero]
        refine qv_val (v := .bool false) (wanted_of rfl rfl rfl rfl) (fun w' hw => exec_mv rfl (ev rfl)) ?_
        simp only [Act.put, List.setIfInBounds_toArray, List.set_cons_succ, List.set_cons_zero]
        refine qv_val (wanted_of rfl rfl rfl rfl) (fun w' hw => exec_mv rfl (ev rfl)) ?_
        simp only [Act.put, List.setIfInBounds_toArray, List.set_cons_succ, List.set_cons_zero]
        refine qv_val (wanted_of rfl rfl rfl rfl) (fun w' hw => exec_mv rfl (ev rfl)) ?_
        simp only [Act.put, List.setIfInBounds_toArray, List.set_cons_succ, List.set_cons_zero]
        refine qv_val (wanted_of rfl rfl rfl rfl) (fun w' hw => exec_indexE (E := BoE) rfl (ev rfl) (ev rfl) HXL.out) ?_
        simp only [Act.put, List.setIfInBounds_toArray, List.set_cons_succ, List.set_cons_zero]
        refine qv_val (wanted_of rfl rfl rfl rfl) (fun w' hw => exec_ld rfl (ev rfl) (ldBoE (HQC.out _ hw))) ?_
        simp only [Act.put, List.setIfInBounds_toArray, List.set_cons_succ, List.set_cons_zero]
        refine qv_val (wanted_of rfl rfl rfl rfl) (fun w' hw => exec_faddr rfl (ev rfl) faPn0) ?_
        simp only [Act.put, List.setIfInBounds_toArray, List.set_cons_succ, List.set_cons_zero]
        refine qv_val (wanted_of rfl rfl rfl rfl) (fun w' hw => exec_ld rfl (ev rfl) (ldU8 ((HP.out.1.below hw)).c0)) ?_
        simp only [Act.put, List.setIfInBounds_toArray, List.set_cons_succ, List.set_cons_zero]
        refine qv_val (wanted_of rfl rfl rfl rfl) (fun w' hw => exec_eqInt t4 rfl (ev rfl) evk T5.out) ?_
        simp only [Act.put, List.setIfInBounds_toArray, List.set_cons_succ, List.set_cons_zero]
        refine qv_val (v := .bool false) (wanted_of rfl rfl rfl rfl) (fun w' hw => exec_neBool false rfl (ev rfl) (ev rfl) (bne_self_eq_false t4)) ?_
        simp only [Act.put, List.setIfInBounds_toArray, List.set_cons_succ, List.set_cons_zero]
        refine qv_val (v := .bool false) (wanted_of rfl rfl rfl rfl) (fun w' hw => exec_pf rfl (ev rfl) (ev rfl)) ?_
        simp only [Act.put, List.setIfInBounds_toArray, List.set_cons_succ, List.set_cons_zero]
        refine qv_val (v := .bool false) rfl (fun w' hw => exec_pt rfl (ev rfl) (ev rfl)) ?_
        simp only [Act.put, List.setIfInBounds_toArray, List.set_cons_succ, List.set_cons_zero]
        refine wpQuiet_nil ?_
        intro w3 hw
        have HP3 := Lib.hid (HP.out.below hw)
        have HU3 := Lib.hid (HU.out.to hw)
        clear hw
        go_upto_region 9 with fail
        refine wp_region_lit ?_
        refine wpList_valn rfl (exec_mv rfl (ev rfl)) ?_
        simp only [Act.put, List.setIfInBounds_toArray, List.set_cons_succ, List.set_cons_zero]
        refine wpList_valn rfl (exec_add rfl (ev rfl) evk HAJ.out) ?_
        simp only [Act.put, List.setIfInBounds_toArray, List.set_cons_succ, List.set_cons_zero]
        refine wpList_valn rfl (exec_as rfl (ev rfl)) ?_
        simp only [Act.put, List.setIfInBounds_toArray, List.set_cons_succ, List.set_cons_zero]
        refine wpList_nil ?_
        go_wp2_with fail
        go_roundw
        case rel => exact ⟨i + 1, by go_num, HI.out, HP3.out, HU3.out⟩
        case measure => have := HI.out; simp [intOf]; omega
      have V0 : Hid (decide ((i : Int) > 0) = false) := Lib.hid (decide_eq_false (by omega))
      clear hip
      go_upto_region 11 with fail
      refine wp_region_lit ?_
      refine wpList_valn rfl (exec_mv rfl (ev rfl)) ?_
      simp only [Act.put, List.setIfInBounds_toArray, List.set_cons_succ, List.set_cons_zero]
      refine wpList_valn (v := .bool false) rfl (exec_lss false rfl (ev rfl) evk U0.out) ?_
      simp only [Act.put, List.setIfInBounds_toArray, List.set_cons_succ, List.set_cons_zero]
      refine wpList_valn (v := .bool false) rfl (exec_mv rfl (ev rfl)) ?_
      simp only [Act.put, List.setIfInBounds_toArray, List.set_cons_succ, List.set_cons_zero]
      refine wpList_val (wanted_of rfl rfl rfl rfl) (exec_mv rfl (ev rfl)) ?_
      simp only [Act.put, List.setIfInBounds_toArray, List.set_cons_succ, List.set_cons_zero]
      refine wpList_val (wanted_of rfl rfl rfl rfl) (exec_mv rfl (ev rfl)) ?_
      simp only [Act.put, List.setIfInBounds_toArray, List.set_cons_succ, List.set_cons_zero]
      refine wpList_val (v := .bool false) (wanted_of rfl rfl rfl rfl) (exec_gtr false rfl (ev rfl) (ev rfl) U1.out) ?_
      simp only [Act.put, List.setIfInBounds_toArray, List.set_cons_succ, List.set_cons_zero]
      refine wpList_valn (v := .bool false) rfl (exec_pf rfl (ev rfl) (ev rfl)) ?_
      simp only [Act.put, List.setIfInBounds_toArray, List.set_cons_succ, List.set_cons_zero]
      refine wpList_valn (v := .bool false) rfl (exec_mv rfl (ev rfl)) ?_
      simp only [Act.put, List.setIfInBounds_toArray, List.set_cons_succ, List.set_cons_zero]
      refine wpList_val (wanted_of rfl rfl rfl rfl) (exec_mv rfl (ev rfl)) ?_
      simp only [Act.put, List.setIfInBounds_toArray, List.set_cons_succ, List.set_cons_zero]
      refine wpList_val (wanted_of rfl rfl rfl rfl) (exec_mv rfl (ev rfl)) ?_
      simp only [Act.put, List.setIfInBounds_toArray, List.set_cons_succ, List.set_cons_zero]
      refine wpList_val (v := .bool false) (wanted_of rfl rfl rfl rfl) (exec_eqInt false rfl (ev rfl) (ev rfl) U2.out) ?_
      simp only [Act.put, List.setIfInBounds_toArray, List.set_cons_succ, List.set_cons_zero]
      refine wpList_valn (v := .bool false) rfl (exec_pf rfl (ev rfl) (ev rfl)) ?_
      simp only [Act.put, List.setIfInBounds_toArray, List.set_cons_succ, List.set_cons_zero]
      refine wpList_valn (v := .bool false) rfl (exec_mv rfl (ev rfl)) ?_
      simp only [Act.put, List.setIfInBounds_toArray, List.set_cons_succ, List.set_cons_zero]
      refine wpList_val (wanted_of rfl rfl rfl rfl) (exec_mv rfl (ev rfl)) ?_
      simp only [Act.put, List.setIfInBounds_toArray, List.set_cons_succ, List.set_cons_zero]
      refine wpList_val (v := .bool false) (wanted_of rfl rfl rfl rfl) (exec_gtr false rfl (ev rfl) evk V0.out) ?_
      simp only [Act.put, List.setIfInBounds_toArray, List.set_cons_succ, List.set_cons_zero]
      refine wpList_skips 8 (v := .bool false) (wanted_of rfl rfl rfl rfl) (exec_mv rfl (ev rfl)) (by kernel_rfl) ?_
      simp only [skipAct, List.take_succ_cons, List.take_zero, List.drop_succ_cons, List.drop_zero, Act.put, List.setIfInBounds_toArray, List.set_cons_succ, List.set_cons_zero]
      refine wpList_val (v := .bool false) (wanted_of rfl rfl rfl rfl) (exec_pf rfl (ev rfl) evk) ?_
      simp only [Act.put, List.setIfInBounds_toArray, List.set_cons_succ, List.set_cons_zero]
      refine wpList_valn (v := .bool false) rfl (exec_pf rfl (ev rfl) (ev rfl)) ?_
      simp only [Act.put, List.setIfInBounds_toArray, List.set_cons_succ, List.set_cons_zero]
      refine wpList_nil ?_
      by_cases hXN : X = n
      · have V1 : Hid (((X : Int) == (n : Int)) = true) := Lib.hid (by rw [beq_iff_eq]; omega)
        have V3 : Hid (decide ((X : Int) < (n : Int)) = false) := Lib.hid (decide_eq_false (by omega))
        have hpz := HXE.out hXN
        obtain ⟨rfl, rfl⟩ := hpz
        have V2 : Hid (((4 : Int) != 4) = false) := Lib.hid (by decide)
        clear hXN
        go_upto_region 13 with fail
        refine wp_region_lit ?_
        refine wpList_valn rfl (exec_mv rfl (ev rfl)) ?_
        simp only [Act.put, List.setIfInBounds_toArray, List.set_cons_succ, List.set_cons_zero]
        refine wpList_valn rfl (exec_mv rfl (ev rfl)) ?_
        simp only [Act.put, List.setIfInBounds_toArray, List.set_cons_succ, List.set_cons_zero]
        refine wpList_valn (v := .bool true) rfl (exec_eqInt true rfl (ev rfl) (ev rfl) V1.out) ?_
        simp only [Act.put, List.setIfInBounds_toArray, List.set_cons_succ, List.set_cons_zero]
        refine wpList_valn (v := .bool true) rfl (exec_mv rfl (ev rfl)) ?_
        simp only [Act.put, List.setIfInBounds_toArray, List.set_cons_succ, List.set_cons_zero]
        refine wpList_val (v := .bool false) (wanted_of rfl rfl rfl rfl) (exec_mv rfl (ev rfl)) ?_
        simp only [Act.put, List.setIfInBounds_toArray, List.set_cons_succ, List.set_cons_zero]
        refine wpList_val (v := .bool false) (wanted_of rfl rfl rfl rfl) (exec_mv rfl (ev rfl)) ?_
        simp only [Act.put, List.setIfInBounds_toArray, List.set_cons_succ, List.set_cons_zero]
        refine wpList_val (wanted_of rfl rfl rfl rfl) (exec_faddr rfl (ev rfl) faPn0) ?_
        simp only [Act.put, List.setIfInBounds_toArray, List.set_cons_succ, List.set_cons_zero]
        refine wpList_val (wanted_of rfl rfl rfl rfl) (exec_ld rfl (ev rfl) (ldU8 (HP.out.1).c0)) ?_
        simp only [Act.put, List.setIfInBounds_toArray, List.set_cons_succ, List.set_cons_zero]
        refine wpList_val (v := .bool false) (wanted_of rfl rfl rfl rfl) (exec_neInt false rfl (ev rfl) evk V2.out) ?_
        simp only [Act.put, List.setIfInBounds_toArray, List.set_cons_succ, List.set_cons_zero]
        refine wpList_val (v := .bool false) (wanted_of rfl rfl rfl rfl) (exec_pf rfl (ev rfl) (ev rfl)) ?_
        simp only [Act.put, List.setIfInBounds_toArray, List.set_cons_succ, List.set_cons_zero]
        refine wpList_valn (v := .bool false) rfl (exec_pt rfl (ev rfl) (ev rfl)) ?_
        simp only [Act.put, List.setIfInBounds_toArray, List.set_cons_succ, List.set_cons_zero]
        refine wpList_nil ?_
        go_upto_region 15 with fail
        refine wp_region_above (B := wr.heap.size) (by kernel_rfl) ?_
        refine qv_val rfl (fun w' hw => exec_mv rfl (ev rfl)) ?_
        simp only [Act.put, List.setIfInBounds_toArray, List.set_cons_succ, List.set_cons_zero]
        refine qv_val rfl (fun w' hw => exec_mv rfl (ev rfl)) ?_
        simp only [Act.put, List.setIfInBounds_toArray, List.set_cons_succ, List.set_cons_zero]
        refine qv_val (v := .bool false) rfl (fun w' hw => exec_lss false rfl (ev rfl) (ev rfl) V3.out) ?_
        simp only [Act.put, List.setIfInBounds_toArray, List.set_cons_succ, List.set_cons_zero]
        refine qv_vals 14 (v := .bool false) rfl (fun w' hw => exec_mv rfl (ev rfl)) (by kernel_rfl) ?_
        simp only [skipAct, List.take_succ_cons, List.take_zero, List.drop_succ_cons, List.drop_zero, Act.put, List.setIfInBounds_toArray, List.set_cons_succ, List.set_cons_zero]
        refine qv_val (v := .bool false) rfl (fun w' hw => exec_pf rfl (ev rfl) evk) ?_
        simp only [Act.put, List.setIfInBounds_toArray, List.set_cons_succ, List.set_cons_zero]
        refine wpQuiet_nil ?_
        intro w3 hw
        have HP3 := Lib.hid (HP.out.below hw)
        have HU3 := Lib.hid (HU.out.to hw)
        clear hw
        go_upto_region 9 with fail
        refine wp_region_lit ?_
        refine wpList_valn rfl (exec_mv rfl (ev rfl)) ?_
        simp only [Act.put, List.setIfInBounds_toArray, List.set_cons_succ, List.set_cons_zero]
        refine wpList_valn rfl (exec_add rfl (ev rfl) evk HAJ.out) ?_
        simp only [Act.put, List.setIfInBounds_toArray, List.set_cons_succ, List.set_cons_zero]
        refine wpList_valn rfl (exec_as rfl (ev rfl)) ?_
        simp only [Act.put, List.setIfInBounds_toArray, List.set_cons_succ, List.set_cons_zero]
        refine wpList_nil ?_
        go_wp2_with fail
        go_roundw
        case rel => exact ⟨i + 1, by go_num, HI.out, HP3.out, HU3.out⟩
        case measure => have := HI.out; simp [intOf]; omega
      have V1 : Hid (((X : Int) == (n : Int)) = false) := Lib.hid (beq_eq_false_iff_ne.2 (by omega))
      have V3 : Hid (decide ((X : Int) < (n : Int)) = true) := Lib.hid (decide_eq_true (by have := HXN.out; omega))
      have HXL : Hid (X < n) := Lib.hid (by have := HXN.out; omega)
      have HXM : Hid (X < m) := Lib.hid (by have := HXN.out; have := HMN.out; omega)
      clear hXN
      have hkk := HXK.out HXL.out
      obtain ⟨bq, oq, rfl, hbq, hq⟩ := (HU.out.rd HL.out).bo HXL.out
      obtain ⟨bk, ok, rfl, hbk, hk⟩ := (HU.out.rd HK.out).bo HXM.out
      rw [hkk.2, T5.out] at hq
      rw [hkk.1] at hk
      have HQC : Hid (∀ w', Below wr.heap.size wr w' → w'.cell? ⟨bq, oq + X * BoE.n, none⟩ = some (.bool t4)) := Lib.hid fun w' h => by
        show w'.cell? ⟨bq, oq + X * 1, none⟩ = _
        rw [Nat.mul_one]
        exact (World.cell?_of_block (w := wr) (h.block bq hbq)).trans hq
      have HKC : Hid (∀ w', Below wr.heap.size wr w' → w'.cell? ⟨bk, ok + X * BoE.n, none⟩ = some (.bool false)) := Lib.hid fun w' h => by
        show w'.cell? ⟨bk, ok + X * 1, none⟩ = _
        rw [Nat.mul_one]
        exact (World.cell?_of_block (w := wr) (h.block bk hbk)).trans hk
      clear hkk hbq hq hbk hk
      go_upto_region 13 with fail
      refine wp_region_lit ?_
      refine wpList_valn rfl (exec_mv rfl (ev rfl)) ?_
      simp only [Act.put, List.setIfInBounds_toArray, List.set_cons_succ, List.set_cons_zero]
      refine wpList_valn rfl (exec_mv rfl (ev rfl)) ?_
      simp only [Act.put, List.setIfInBounds_toArray, List.set_cons_succ, List.set_cons_zero]
      refine wpList_valn (v := .bool false) rfl (exec_eqInt false rfl (ev rfl) (ev rfl) V1.out) ?_
      simp only [Act.put, List.setIfInBounds_toArray, List.set_cons_succ, List.set_cons_zero]
      refine wpList_skips 6 (v := .bool false) rfl (exec_mv rfl (ev rfl)) (by kernel_rfl) ?_
      simp only [skipAct, List.take_succ_cons, List.take_zero, List.drop_succ_cons, List.drop_zero, Act.put, List.setIfInBounds_toArray, List.set_cons_succ, List.set_cons_zero]
      refine wpList_valn (v := .bool false) rfl (exec_pf rfl (ev rfl) evk) ?_
      simp only [Act.put, List.setIfInBounds_toArray, List.set_cons_succ, List.set_cons_zero]
      refine wpList_nil ?_
      go_upto_region 15 with fail
      refine wp_region_above (B := wr.heap.size) (by kernel_rfl) ?_
      refine qv_val rfl (fun w' hw => exec_mv rfl (ev rfl)) ?_
      simp only [Act.put, List.setIfInBounds_toArray, List.set_cons_succ, List.set_cons_zero]
      refine qv_val rfl (fun w' hw => exec_mv rfl (ev rfl)) ?_
      simp only [Act.put, List.setIfInBounds_toArray, List.set_cons_succ, List.set_cons_zero]
      refine qv_val (v := .bool true) rfl (fun w' hw => exec_lss true rfl (ev rfl) (ev rfl) V3.out) ?_
      simp only [Act.put, List.setIfInBounds_toArray, List.set_cons_succ, List.set_cons_zero]
      refine qv_val (v := .bool true) rfl (fun w' hw => exec_mv rfl (ev rfl)) ?_
      simp only [Act.put, List.setIfInBounds_toArray, List.set_cons_succ, List.set_cons_zero]
      refine qv_val (wanted_of rfl rfl rfl rfl) (fun w' hw => exec_mv rfl (ev rfl)) ?_
      simp only [Act.put, List.setIfInBounds_toArray, List.set_cons_succ, List.set_cons_zero]
      refine qv_val (wanted_of rfl rfl rfl rfl) (fun w' hw => exec_mv rfl (ev rfl)) ?_
      simp only [Act.put, List.setIfInBounds_toArray, List.set_cons_succ, List.set_cons_zero]
      refine qv_val (wanted_of rfl rfl rfl rfl) (fun w' hw => exec_indexE (E := BoE) rfl (ev rfl) (ev rfl) HXM.out) ?_
      simp only [Act.put, List.setIfInBounds_toArray, List.set_cons_succ, List.set_cons_zero]
      refine qv_val (v := .bool false) (wanted_of rfl rfl rfl rfl) (fun w' hw => exec_ld rfl (ev rfl) (ldBoE (HKC.out _ hw))) ?_
      simp only [Act.put, List.setIfInBounds_toArray, List.set_cons_succ, List.set_cons_zero]
      refine qv_val (v := .bool false) (wanted_of rfl rfl rfl rfl) (fun w' hw => exec_mv rfl (ev rfl)) ?_
      simp only [Act.put, List.setIfInBounds_toArray, List.set_cons_succ, List.set_cons_zero]
      refine qv_val (wanted_of rfl rfl rfl rfl) (fun w' hw => exec_mv rfl (ev rfl)) ?_
      simp only [Act.put, List.setIfInBounds_toArray, List.set_cons_succ, List.set_cons_zero]
      refine qv_val (wanted_of rfl rfl rfl rfl) (fun w' hw => exec_mv rfl (ev rfl)) ?_
      simp only [Act.put, List.setIfInBounds_toArray, List.set_cons_succ, List.set_cons_zero]
      refine qv_val (wanted_of rfl rfl rfl rfl) (fun w' hw => exec_indexE (E := BoE) rfl (ev rfl) (ev rfl) HXL.out) ?_
      simp only [Act.put, List.setIfInBounds_toArray, List.set_cons_succ, List.set_cons_zero]
      refine qv_val (wanted_of rfl rfl rfl rfl) (fun w' hw => exec_ld rfl (ev rfl) (ldBoE (HQC.out _ hw))) ?_
      simp only [Act.put, List.setIfInBounds_toArray, List.set_cons_succ, List.set_cons_zero]
      refine qv_val (wanted_of rfl rfl rfl rfl) (fun w' hw => exec_faddr rfl (ev rfl) faPn0) ?_
      simp only [Act.put, List.setIfInBounds_toArray, List.set_cons_succ, List.set_cons_zero]
      refine qv_val (wanted_of rfl rfl rfl rfl) (fun w' hw => exec_ld rfl (ev rfl) (ldU8 ((HP.out.1.below hw)).c0)) ?_
      simp only [Act.put, List.setIfInBounds_toArray, List.set_cons_succ, List.set_cons_zero]
      refine qv_val (wanted_of rfl rfl rfl rfl) (fun w' hw => exec_eqInt t4 rfl (ev rfl) evk T5.out) ?_
      simp only [Act.put, List.setIfInBounds_toArray, List.set_cons_succ, List.set_cons_zero]
      refine qv_val (v := .bool false) (wanted_of rfl rfl rfl rfl) (fun w' hw => exec_neBool false rfl (ev rfl) (ev rfl) (bne_self_eq_false t4)) ?_
      simp only [Act.put, List.setIfInBounds_toArray, List.set_cons_succ, List.set_cons_zero]
      refine qv_val (v := .bool false) (wanted_of rfl rfl rfl rfl) (fun w' hw => exec_pf rfl (ev rfl) (ev rfl)) ?_
      simp only [Act.put, List.setIfInBounds_toArray, List.set_cons_succ, List.set_cons_zero]
      refine qv_val (v := .bool false) rfl (fun w' hw => exec_pt rfl (ev rfl) (ev rfl)) ?_
      simp only [Act.put, List.setIfInBounds_toArray, List.set_cons_succ, List.set_cons_zero]
      refine wpQuiet_nil ?_
      intro w3 hw
      have HP3 := Lib.hid (HP.out.below hw)
      have HU3 := Lib.hid (HU.out.to hw)
      clear hw
      go_upto_region 9 with fail
      refine wp_region_lit ?_
      refine wpList_valn rfl (exec_mv rfl (ev rfl)) ?_
      simp only [Act.put, List.setIfInBounds_toArray, List.set_cons_succ, List.set_cons_zero]
      refine wpList_valn rfl (exec_add rfl (ev rfl) evk HAJ.out) ?_
      simp only [Act.put, List.setIfInBounds_toArray, List.set_cons_succ, List.set_cons_zero]
      refine wpList_valn rfl (exec_as rfl (ev rfl)) ?_
      simp only [Act.put, List.setIfInBounds_toArray, List.set_cons_succ, List.set_cons_zero]
      refine wpList_nil ?_
      go_wp2_with fail
      go_roundw
      case rel => exact ⟨i + 1, by go_num, HI.out, HP3.out, HU3.out⟩
      case measure => have := HI.out; simp [intOf]; omega
    have hin : i = r.length := by omega
    subst hin
    have HT : Hid (decide ((r.length : Int) < (r.length : Int)) = false) := Lib.hid (decide_eq_false (by omega))
    clear hlt hi HW P1
    have HW := HU
    have P1 := HP
    clear HU HP
    obtain ⟨wA, rfl⟩ : ∃ x, x = wr := ⟨_, rfl⟩
    go_upto_region 8 with fail
    refine wp_region_lit ?_
    refine wpList_valn rfl (exec_mv rfl (ev rfl)) ?_
    simp only [Act.put, List.setIfInBounds_toArray, List.set_cons_succ, List.set_cons_zero]
    refine wpList_valn rfl (exec_faddr rfl (ev rfl) faPn1) ?_
    simp only [Act.put, List.setIfInBounds_toArray, List.set_cons_succ, List.set_cons_zero]
    refine wpList_valn rfl (exec_ld rfl (ev rfl) (ldIsP (P1.out.1).c1)) ?_
    simp only [Act.put, List.setIfInBounds_toArray, List.set_cons_succ, List.set_cons_zero]
    refine wpList_valn rfl (exec_lenQ Try.underlying23 rfl (ev rfl)) ?_
    simp only [Act.put, List.setIfInBounds_toArray, List.set_cons_succ, List.set_cons_zero]
    refine wpList_valn (v := .bool false) rfl (exec_lss false rfl (ev rfl) (ev rfl) HT.out) ?_
    simp only [Act.put, List.setIfInBounds_toArray, List.set_cons_succ, List.set_cons_zero]
    refine wpList_nil ?_
    by_cases h1 : z = 1
    · have V0 : Hid ((z == 1) = true) := Lib.hid (by rw [beq_iff_eq]; exact h1)
      have V3 : Hid (((r.length : Int) == 0) = true) := Lib.hid (by rw [HF.out.nil (.inl h1)]; rfl)
      clear h1
      go_upto_region 17 with fail
      refine wp_region_lit ?_
      refine wpList_valn rfl (exec_faddr rfl (ev rfl) faPn0) ?_
      simp only [Act.put, List.setIfInBounds_toArray, List.set_cons_succ, List.set_cons_zero]
      refine wpList_valn rfl (exec_ld rfl (ev rfl) (ldU8 (P1.out.1).c0)) ?_
      simp only [Act.put, List.setIfInBounds_toArray, List.set_cons_succ, List.set_cons_zero]
      refine wpList_valn (v := .bool true) rfl (exec_eqInt true rfl (ev rfl) evk V0.out) ?_
      simp only [Act.put, List.setIfInBounds_toArray, List.set_cons_succ, List.set_cons_zero]
      refine wpList_skips 3 (v := .bool true) rfl (exec_mv rfl (ev rfl)) (by kernel_rfl) ?_
      simp only [skipAct, List.take_succ_cons, List.take_zero, List.drop_succ_cons, List.drop_zero, Act.put, List.setIfInBounds_toArray, List.set_cons_succ, List.set_cons_zero]
      refine wpList_valn (v := .bool true) rfl (exec_pt rfl (ev rfl) evk) ?_
      simp only [Act.put, List.setIfInBounds_toArray, List.set_cons_succ, List.set_cons_zero]
      refine wpList_nil ?_
      go_upto_region 18 with fail
      refine wp_region_lit ?_
      refine wpList_valn rfl (exec_faddr rfl (ev rfl) faPn1) ?_
      simp only [Act.put, List.setIfInBounds_toArray, List.set_cons_succ, List.set_cons_zero]
      refine wpList_valn rfl (exec_ld rfl (ev rfl) (ldIsP (P1.out.1).c1)) ?_
      simp only [Act.put, List.setIfInBounds_toArray, List.set_cons_succ, List.set_cons_zero]
      refine wpList_valn rfl (exec_lenQ Try.underlying23 rfl (ev rfl)) ?_
      simp only [Act.put, List.setIfInBounds_toArray, List.set_cons_succ, List.set_cons_zero]
      refine wpList_valn (v := .bool true) rfl (exec_eqInt true rfl (ev rfl) evk V3.out) ?_
      simp only [Act.put, List.setIfInBounds_toArray, List.set_cons_succ, List.set_cons_zero]
      refine wpList_valn (v := .bool true) rfl (exec_mv rfl (ev rfl)) ?_
      simp only [Act.put, List.setIfInBounds_toArray, List.set_cons_succ, List.set_cons_zero]
      refine wpList_call (wanted_of rfl rfl rfl rfl) (exec_cl Try.call11 rfl evn) ?_
      refine (nlives wA).mono ?_
      rintro e w21 ⟨rfl, hb⟩
      have HWn := Lib.hid (HW.out.to hb)
      clear HW
      have HW := HWn
      clear HWn
      have P1n := Lib.hid (P1.out.below hb)
      clear P1
      have P1 := P1n
      clear P1n
      clear hb
      refine ⟨_, rfl, ?_⟩
      simp only [Act.put, List.setIfInBounds_toArray, List.set_cons_succ, List.set_cons_zero]
      refine wpList_valn (v := .bool true) rfl (exec_pt rfl (ev rfl) (ev rfl)) ?_
      simp only [Act.put, List.setIfInBounds_toArray, List.set_cons_succ, List.set_cons_zero]
      refine wpList_valn (v := .bool true) rfl (exec_as rfl (ev rfl)) ?_
      simp only [Act.put, List.setIfInBounds_toArray, List.set_cons_succ, List.set_cons_zero]
      refine wpList_nil ?_
      go_wp2_with fail
      go_ret
      exact ⟨rfl, HW.out.1⟩
    have V0 : Hid ((z == 1) = false) := Lib.hid (beq_eq_false_iff_ne.2 h1)
    by_cases h2 : z = 2
    · have V1 : Hid ((z == 2) = true) := Lib.hid (by rw [beq_iff_eq]; exact h2)
      have V3 : Hid (((r.length : Int) == 0) = true) := Lib.hid (by rw [HF.out.nil (.inr h2)]; rfl)
      clear h1 h2
      go_upto_region 17 with fail
      refine wp_region_lit ?_
      refine wpList_valn rfl (exec_faddr rfl (ev rfl) faPn0) ?_
      simp only [Act.put, List.setIfInBounds_toArray, List.set_cons_succ, List.set_cons_zero]
      refine wpList_valn rfl (exec_ld rfl (ev rfl) (ldU8 (P1.out.1).c0)) ?_
      simp only [Act.put, List.setIfInBounds_toArray, List.set_cons_succ, List.set_cons_zero]
      refine wpList_valn (v := .bool false) rfl (exec_eqInt false rfl (ev rfl) evk V0.out) ?_
      simp only [Act.put, List.setIfInBounds_toArray, List.set_cons_succ, List.set_cons_zero]
      refine wpList_valn (v := .bool false) rfl (exec_mv rfl (ev rfl)) ?_
      simp only [Act.put, List.setIfInBounds_toArray, List.set_cons_succ, List.set_cons_zero]
      refine wpList_val (wanted_of rfl rfl rfl rfl) (exec_faddr rfl (ev rfl) faPn0) ?_
      simp only [Act.put, List.setIfInBounds_toArray, List.set_cons_succ, List.set_cons_zero]
      refine wpList_val (wanted_of rfl rfl rfl rfl) (exec_ld rfl (ev rfl) (ldU8 (P1.out.1).c0)) ?_
      simp only [Act.put, List.setIfInBounds_toArray, List.set_cons_succ, List.set_cons_zero]
      refine wpList_val (v := .bool true) (wanted_of rfl rfl rfl rfl) (exec_eqInt true rfl (ev rfl) evk V1.out) ?_
      simp only [Act.put, List.setIfInBounds_toArray, List.set_cons_succ, List.set_cons_zero]
      refine wpList_valn (v := .bool true) rfl (exec_pf rfl (ev rfl) (ev rfl)) ?_
      simp only [Act.put, List.setIfInBounds_toArray, List.set_cons_succ, List.set_cons_zero]
      refine wpList_nil ?_
      go_upto_region 18 with fail
      refine wp_region_lit ?_
      refine wpList_valn rfl (exec_faddr rfl (ev rfl) faPn1) ?_
      simp only [Act.put, List.setIfInBounds_toArray, List.set_cons_succ, List.set_cons_zero]
      refine wpList_valn rfl (exec_ld rfl (ev rfl) (ldIsP (P1.out.1).c1)) ?_
      simp only [Act.put, List.setIfInBounds_toArray, List.set_cons_succ, List.set_cons_zero]
      refine wpList_valn rfl (exec_lenQ Try.underlying23 rfl (ev rfl)) ?_
      simp only [Act.put, List.setIfInBounds_toArray, List.set_cons_succ, List.set_cons_zero]
      refine wpList_valn (v := .bool true) rfl (exec_eqInt true rfl (ev rfl) evk V3.out) ?_
      simp only [Act.put, List.setIfInBounds_toArray, List.set_cons_succ, List.set_cons_zero]
      refine wpList_valn (v := .bool true) rfl (exec_mv rfl (ev rfl)) ?_
      simp only [Act.put, List.setIfInBounds_toArray, List.set_cons_succ, List.set_cons_zero]
      refine wpList_call (wanted_of rfl rfl rfl rfl) (exec_cl Try.call11 rfl evn) ?_
      refine (nlives wA).mono ?_
      rintro e w21 ⟨rfl, hb⟩
      have HWn := Lib.hid (HW.out.to hb)
      clear HW
      have HW := HWn
      clear HWn
      have P1n := Lib.hid (P1.out.below hb)
      clear P1
      have P1 := P1n
      clear P1n
      clear hb
      refine ⟨_, rfl, ?_⟩
      simp only [Act.put, List.setIfInBounds_toArray, List.set_cons_succ, List.set_cons_zero]
      refine wpList_valn (v := .bool true) rfl (exec_pt rfl (ev rfl) (ev rfl)) ?_
      simp only [Act.put, List.setIfInBounds_toArray, List.set_cons_succ, List.set_cons_zero]
      refine wpList_valn (v := .bool true) rfl (exec_as rfl (ev rfl)) ?_
      simp only [Act.put, List.setIfInBounds_toArray, List.set_cons_succ, List.set_cons_zero]
      refine wpList_nil ?_
      go_wp2_with fail
      go_ret
      exact ⟨rfl, HW.out.1⟩
    have V1 : Hid ((z == 2) = false) := Lib.hid (beq_eq_false_iff_ne.2 h2)
    have HCN : Hid (r.length = (redL l k t4).length + (if t4 = true ∧ par = false then 1 else 0)) := Lib.hid (by
      have h := HF.out.cnt (by have := HF.out.lo; have := HF.out.hi; omega)
      rw [T5.out] at h
      exact h)
    clear h1 h2
    go_upto_region 17 with fail
    refine wp_region_lit ?_
    refine wpList_valn rfl (exec_faddr rfl (ev rfl) faPn0) ?_
    simp only [Act.put, List.setIfInBounds_toArray, List.set_cons_succ, List.set_cons_zero]
    refine wpList_valn rfl (exec_ld rfl (ev rfl) (ldU8 (P1.out.1).c0)) ?_
    simp only [Act.put, List.setIfInBounds_toArray, List.set_cons_succ, List.set_cons_zero]
    refine wpList_valn (v := .bool false) rfl (exec_eqInt false rfl (ev rfl) evk V0.out) ?_
    simp only [Act.put, List.setIfInBounds_toArray, List.set_cons_succ, List.set_cons_zero]
    refine wpList_valn (v := .bool false) rfl (exec_mv rfl (ev rfl)) ?_
    simp only [Act.put, List.setIfInBounds_toArray, List.set_cons_succ, List.set_cons_zero]
    refine wpList_val (wanted_of rfl rfl rfl rfl) (exec_faddr rfl (ev rfl) faPn0) ?_
    simp only [Act.put, List.setIfInBounds_toArray, List.set_cons_succ, List.set_cons_zero]
    refine wpList_val (wanted_of rfl rfl rfl rfl) (exec_ld rfl (ev rfl) (ldU8 (P1.out.1).c0)) ?_
    simp only [Act.put, List.setIfInBounds_toArray, List.set_cons_succ, List.set_cons_zero]
    refine wpList_val (v := .bool false) (wanted_of rfl rfl rfl rfl) (exec_eqInt false rfl (ev rfl) evk V1.out) ?_
    simp only [Act.put, List.setIfInBounds_toArray, List.set_cons_succ, List.set_cons_zero]
    refine wpList_valn (v := .bool false) rfl (exec_pf rfl (ev rfl) (ev rfl)) ?_
    simp only [Act.put, List.setIfInBounds_toArray, List.set_cons_succ, List.set_cons_zero]
    refine wpList_nil ?_
    go_upto_region 19 with fail
    refine wp_region_lit ?_
    refine wpList_valn rfl (exec_as rfl evk) ?_
    simp only [Act.put, List.setIfInBounds_toArray, List.set_cons_succ, List.set_cons_zero]
    refine wpList_nil ?_
    go_upto_region 20 with fail
    refine wp_region_lit ?_
    refine wpList_valn rfl (exec_as rfl evk) ?_
    simp only [Act.put, List.setIfInBounds_toArray, List.set_cons_succ, List.set_cons_zero]
    refine wpList_nil ?_
    go_wp2_with fail
    go_loopw [14, 15] (fun v u wx => ∃ i : Nat, u = .int .i64 i ∧ i ≤ n ∧ v = .int .i64 (((redN l k t4 i).length : Nat) : Int) ∧ PlR wx q1 z A1' r.length c1' r ∧ Upto w.heap.size w wx) (fun _ v _ => n - (intOf v).toNat)
    case atStart => exact ⟨0, by go_num, by omega, rfl, P1.out, HW.out⟩
    case round =>
      obtain ⟨i, rfl, hi, rfl, hp, hu⟩ := hrel
      have HP := Lib.hid hp
      have HU := Lib.hid hu
      clear hp hu
      by_cases hlt : i < n
      · have HI := Lib.hid hlt
        have HIM : Hid (i < m) := Lib.hid (by have := HMN.out; omega)
        have HTT : Hid (decide ((i : Int) < (n : Int)) = true) := Lib.hid (decide_eq_true (by omega))
        obtain ⟨bq, oq, rfl, hbq, hq⟩ := (HU.out.rd HL.out).bo hlt
        obtain ⟨bk, ok, rfl, hbk, hk⟩ := (HU.out.rd HK.out).bo HIM.out
        obtain ⟨x, hx⟩ : ∃ x, l.getD i false = x := ⟨_, rfl⟩
        obtain ⟨y, hy⟩ : ∃ x, k.getD i false = x := ⟨_, rfl⟩
        rw [hx] at hq
        rw [hy] at hk
        have HXY := Lib.hid (And.intro hx hy)
        have HQC : Hid (∀ w', Below wr.heap.size wr w' → w'.cell? ⟨bq, oq + i * BoE.n, none⟩ = some (.bool x)) := Lib.hid fun w' h => by
          show w'.cell? ⟨bq, oq + i * 1, none⟩ = _
          rw [Nat.mul_one]
          exact (World.cell?_of_block (w := wr) (h.block bq hbq)).trans hq
        have HKC : Hid (∀ w', Below wr.heap.size wr w' → w'.cell? ⟨bk, ok + i * BoE.n, none⟩ = some (.bool y)) := Lib.hid fun w' h => by
          show w'.cell? ⟨bk, ok + i * 1, none⟩ = _
          rw [Nat.mul_one]
          exact (World.cell?_of_block (w := wr) (h.block bk hbk)).trans hk
        have HAJ : Hid (IntKind.i64.wrap ((i : Int) + 1) = ((i + 1 : Nat) : Int)) := Lib.hid (by have := HN15.out; rw [i64k ⟨by omega, by omega⟩]; omega)
        have HAM : Hid (IntKind.i64.wrap ((((redN l k t4 i).length : Nat) : Int) + 1) = (((redN l k t4 i).length + 1 : Nat) : Int)) := Lib.hid (by have := HN15.out; have := redN_len (w := l) (k := k) (o := t4) i; rw [i64k ⟨by omega, by omega⟩]; omega)
        clear hq hk hbq hbk hx hy hlt hi
        go_upto_region 21 with fail
        refine wp_region_lit ?_
        refine wpList_valn rfl (exec_mv rfl (ev rfl)) ?_
        simp only [Act.put, List.setIfInBounds_toArray, List.set_cons_succ, List.set_cons_zero]
        refine wpList_valn rfl (exec_mv rfl (ev rfl)) ?_
        simp only [Act.put, List.setIfInBounds_toArray, List.set_cons_succ, List.set_cons_zero]
        refine wpList_valn (v := .bool true) rfl (exec_lss true rfl (ev rfl) (ev rfl) HTT.out) ?_
        simp only [Act.put, List.setIfInBounds_toArray, List.set_cons_succ, List.set_cons_zero]
        refine wpList_nil ?_
        cases y
        rotate_left 1
        · have HQQ : Hid ((x == t4 && !true) = false) := Lib.hid (by simp)
          go_upto_region 23 with fail
          refine wp_region_above (B := wr.heap.size) (by kernel_rfl) ?_
          refine qv_val rfl (fun w' hw => exec_mv rfl (ev rfl)) ?_
          simp only [Act.put, List.setIfInBounds_toArray, List.set_cons_succ, List.set_cons_zero]
          refine qv_val rfl (fun w' hw => exec_mv rfl (ev rfl)) ?_
          simp only [Act.put, List.setIfInBounds_toArray, List.set_cons_succ, List.set_cons_zero]
          refine qv_val rfl (fun w' hw => exec_indexE (E := BoE) rfl (ev rfl) (ev rfl) HIM.out) ?_
          simp only [Act.put, List.setIfInBounds_toArray, List.set_cons_succ, List.set_cons_zero]
          refine qv_val (v := .bool true) rfl (fun w' hw => exec_ld rfl (ev rfl) (ldBoE (HKC.out _ hw))) ?_
          simp only [Act.put, List.setIfInBounds_toArray, List.set_cons_succ, List.set_cons_zero]
          refine qv_val (v := .bool false) rfl (fun w' hw => exec_not true rfl (ev rfl)) ?_
          simp only [Act.put, List.setIfInBounds_toArray, List.set_cons_succ, List.set_cons_zero]
          refine qv_vals 8 (v := .bool false) rfl (fun w' hw => exec_mv rfl (ev rfl)) (by kernel_rfl) ?_
          simp only [skipAct, List.take_succ_cons, List.take_zero, List.drop_succ_cons, List.drop_zero, Act.put, List.setIfInBounds_toArray, List.set_cons_succ, List.set_cons_zero]
          refine qv_val (v := .bool false) rfl (fun w' hw => exec_pf rfl (ev rfl) evk) ?_
          simp only [Act.put, List.setIfInBounds_toArray, List.set_cons_succ, List.set_cons_zero]
          refine wpQuiet_nil ?_
          intro w3 hw
          have HP3 := Lib.hid (HP.out.below hw)
          have HU3 := Lib.hid (HU.out.to hw)
          clear hw
          go_upto_region 22 with fail
          refine wp_region_lit ?_
          refine wpList_valn rfl (exec_mv rfl (ev rfl)) ?_
          simp only [Act.put, List.setIfInBounds_toArray, List.set_cons_succ, List.set_cons_zero]
          refine wpList_valn rfl (exec_add rfl (ev rfl) evk HAJ.out) ?_
          simp only [Act.put, List.setIfInBounds_toArray, List.set_cons_succ, List.set_cons_zero]
          refine wpList_valn rfl (exec_as rfl (ev rfl)) ?_
          simp only [Act.put, List.setIfInBounds_toArray, List.set_cons_succ, List.set_cons_zero]
          refine wpList_nil ?_
          go_wp2_with fail
          go_roundw
          case rel => exact ⟨i + 1, by go_num, HI.out, by rw [redN_f (by rw [HXY.out.1, HXY.out.2]; exact HQQ.out)], HP3.out, HU3.out⟩
          case measure => have := HI.out; simp [intOf]; omega
        by_cases hxt : (x == t4) = true
        · have V5 := Lib.hid hxt
          have HQQ : Hid ((x == t4 && !false) = true) := Lib.hid (by rw [hxt]; rfl)
          clear hxt
          go_upto_region 23 with fail
          refine wp_region_above (B := wr.heap.size) (by kernel_rfl) ?_
          refine qv_val rfl (fun w' hw => exec_mv rfl (ev rfl)) ?_
          simp only [Act.put, List.setIfInBounds_toArray, List.set_cons_succ, List.set_cons_zero]
          refine qv_val rfl (fun w' hw => exec_mv rfl (ev rfl)) ?_
          simp only [Act.put, List.setIfInBounds_toArray, List.set_cons_succ, List.set_cons_zero]
          refine qv_val rfl (fun w' hw => exec_indexE (E := BoE) rfl (ev rfl) (ev rfl) HIM.out) ?_
          simp only [Act.put, List.setIfInBounds_toArray, List.set_cons_succ, List.set_cons_zero]
          refine qv_val (v := .bool false) rfl (fun w' hw => exec_ld rfl (ev rfl) (ldBoE (HKC.out _ hw))) ?_
          simp only [Act.put, List.setIfInBounds_toArray, List.set_cons_succ, List.set_cons_zero]
          refine qv_val (v := .bool true) rfl (fun w' hw => exec_not false rfl (ev rfl)) ?_
          simp only [Act.put, List.setIfInBounds_toArray, List.set_cons_succ, List.set_cons_zero]
          refine qv_val (v := .bool true) rfl (fun w' hw => exec_mv rfl (ev rfl)) ?_
          simp only [Act.put, List.setIfInBounds_toArray, List.set_cons_succ, List.set_cons_zero]
          refine qv_val (wanted_of rfl rfl rfl rfl) (fun w' hw => exec_mv rfl (ev rfl)) ?_
          simp only [Act.put, List.setIfInBounds_toArray, List.set_cons_succ, List.set_cons_zero]
          refine qv_val (wanted_of rfl rfl rfl rfl) (fun w' hw => exec_mv rfl (ev rfl)) ?_
          simp only [Act.put, List.setIfInBounds_toArray, List.set_cons_succ, List.set_cons_zero]
          refine qv_val (wanted_of rfl rfl rfl rfl) (fun w' hw => exec_indexE (E := BoE) rfl (ev rfl) (ev rfl) HI.out) ?_
          simp only [Act.put, List.setIfInBounds_toArray, List.set_cons_succ, List.set_cons_zero]
          refine qv_val (wanted_of rfl rfl rfl rfl) (fun w' hw => exec_ld rfl (ev rfl) (ldBoE (HQC.out _ hw))) ?_
          simp only [Act.put, List.setIfInBounds_toArray, List.set_cons_succ, List.set_cons_zero]
          refine qv_val (wanted_of rfl rfl rfl rfl) (fun w' hw => exec_faddr rfl (ev rfl) faPn0) ?_
          simp only [Act.put, List.setIfInBounds_toArray, List.set_cons_succ, List.set_cons_zero]
          refine qv_val (wanted_of rfl rfl rfl rfl) (fun w' hw => exec_ld rfl (ev rfl) (ldU8 ((HP.out.1.below hw)).c0)) ?_
          simp only [Act.put, List.setIfInBounds_toArray, List.set_cons_succ, List.set_cons_zero]
          refine qv_val (wanted_of rfl rfl rfl rfl) (fun w' hw => exec_eqInt t4 rfl (ev rfl) evk T5.out) ?_
          simp only [Act.put, List.setIfInBounds_toArray, List.set_cons_succ, List.set_cons_zero]
          refine qv_val (v := .bool true) (wanted_of rfl rfl rfl rfl) (fun w' hw => exec_eqBool true rfl (ev rfl) (ev rfl) V5.out) ?_
          simp only [Act.put, List.setIfInBounds_toArray, List.set_cons_succ, List.set_cons_zero]
          refine qv_val (v := .bool true) rfl (fun w' hw => exec_pt rfl (ev rfl) (ev rfl)) ?_
          simp only [Act.put, List.setIfInBounds_toArray, List.set_cons_succ, List.set_cons_zero]
          refine wpQuiet_nil ?_
          intro w3 hw
          have HP3 := Lib.hid (HP.out.below hw)
          have HU3 := Lib.hid (HU.out.to hw)
          clear hw
          go_upto_region 24 with fail
          refine wp_region_lit ?_
          refine wpList_valn rfl (exec_mv rfl (ev rfl)) ?_
          simp only [Act.put, List.setIfInBounds_toArray, List.set_cons_succ, List.set_cons_zero]
          refine wpList_valn rfl (exec_add rfl (ev rfl) evk HAM.out) ?_
          simp only [Act.put, List.setIfInBounds_toArray, List.set_cons_succ, List.set_cons_zero]
          refine wpList_valn rfl (exec_as rfl (ev rfl)) ?_
          simp only [Act.put, List.setIfInBounds_toArray, List.set_cons_succ, List.set_cons_zero]
          refine wpList_nil ?_
          go_upto_region 22 with fail
          refine wp_region_lit ?_
          refine wpList_valn rfl (exec_mv rfl (ev rfl)) ?_
          simp only [Act.put, List.setIfInBounds_toArray, List.set_cons_succ, List.set_cons_zero]
          refine wpList_valn rfl (exec_add rfl (ev rfl) evk HAJ.out) ?_
          simp only [Act.put, List.setIfInBounds_toArray, List.set_cons_succ, List.set_cons_zero]
          refine wpList_valn rfl (exec_as rfl (ev rfl)) ?_
          simp only [Act.put, List.setIfInBounds_toArray, List.set_cons_succ, List.set_cons_zero]
          refine wpList_nil ?_
          go_wp2_with fail
          go_roundw
          case rel => exact ⟨i + 1, by go_num, HI.out, by rw [redN_t (by rw [HXY.out.1, HXY.out.2]; exact HQQ.out), List.length_append]; rfl, HP3.out, HU3.out⟩
          case measure => have := HI.out; simp [intOf]; omega
        have V5 : Hid ((x == t4) = false) := Lib.hid (by simpa using hxt)
        have HQQ : Hid ((x == t4 && !false) = false) := Lib.hid (by rw [V5.out]; rfl)
        clear hxt
        go_upto_region 23 with fail
        refine wp_region_above (B := wr.heap.size) (by kernel_rfl) ?_
        refine qv_val rfl (fun w' hw => exec_mv rfl (ev rfl)) ?_
        simp only [Act.put, List.setIfInBounds_toArray, List.set_cons_succ, List.set_cons_zero]
        refine qv_val rfl (fun w' hw => exec_mv rfl (ev rfl)) ?_
        simp only [Act.put, List.setIfInBounds_toArray, List.set_cons_succ, List.set_cons_zero]
        refine qv_val rfl (fun w' hw => exec_indexE (E := BoE) rfl (ev rfl) (ev rfl) HIM.out) ?_
        simp only [Act.put, List.setIfInBounds_toArray, List.set_cons_succ, List.set_cons_zero]
        refine qv_val (v := .bool false) rfl (fun w' hw => exec_ld rfl (ev rfl) (ldBoE (HKC.out _ hw))) ?_
        simp only [Act.put, List.setIfInBounds_toArray, List.set_cons_succ, List.set_cons_zero]
        refine qv_val (v := .bool true) rfl (fun w' hw => exec_not false rfl (ev rfl)) ?_
        simp only [Act.put, List.setIfInBounds_toArray, List.set_cons_succ, List.set_cons_zero]
        refine qv_val (v := .bool true) rfl (fun w' hw => exec_mv rfl (ev rfl)) ?_
        simp only [Act.put, List.setIfInBounds_toArray, List.set_cons_succ, List.set_cons_zero]
        refine qv_val (wanted_of rfl rfl rfl rfl) (fun w' hw => exec_mv rfl (ev rfl)) ?_
        simp only [Act.put, List.setIfInBounds_toArray, List.set_cons_succ, List.set_cons_zero]
        refine qv_val (wanted_of rfl rfl rfl rfl) (fun w' hw => exec_mv rfl (ev rfl)) ?_
        simp only [Act.put, List.setIfInBounds_toArray, List.set_cons_succ, List.set_cons_zero]
        refine qv_val (wanted_of rfl rfl rfl rfl) (fun w' hw => exec_indexE (E := BoE) rfl (ev rfl) (ev rfl) HI.out) ?_
        simp only [Act.put, List.setIfInBounds_toArray, List.set_cons_succ, List.set_cons_zero]
        refine qv_val (wanted_of rfl rfl rfl rfl) (fun w' hw => exec_ld rfl (ev rfl) (ldBoE (HQC.out _ hw))) ?_
        simp only [Act.put, List.setIfInBounds_toArray, List.set_cons_succ, List.set_cons_zero]
        refine qv_val (wanted_of rfl rfl rfl rfl) (fun w' hw => exec_faddr rfl (ev rfl) faPn0) ?_
        simp only [Act.put, List.setIfInBounds_toArray, List.set_cons_succ, List.set_cons_zero]
        refine qv_val (wanted_of rfl rfl rfl rfl) (fun w' hw => exec_ld rfl (ev rfl) (ldU8 ((HP.out.1.below hw)).c0)) ?_
        simp only [Act.put, List.setIfInBounds_toArray, List.set_cons_succ, List.set_cons_zero]
        refine qv_val (wanted_of rfl rfl rfl rfl) (fun w' hw => exec_eqInt t4 rfl (ev rfl) evk T5.out) ?_
        simp only [Act.put, List.setIfInBounds_toArray, List.set_cons_succ, List.set_cons_zero]
        refine qv_val (v := .bool false) (wanted_of rfl rfl rfl rfl) (fun w' hw => exec_eqBool false rfl (ev rfl) (ev rfl) V5.out) ?_
        simp only [Act.put, List.setIfInBounds_toArray, List.set_cons_succ, List.set_cons_zero]
        refine qv_val (v := .bool false) rfl (fun w' hw => exec_pt rfl (ev rfl) (ev rfl)) ?_
        simp only [Act.put, List.setIfInBounds_toArray, List.set_cons_succ, List.set_cons_zero]
        refine wpQuiet_nil ?_
        intro w3 hw
        have HP3 := Lib.hid (HP.out.below hw)
        have HU3 := Lib.hid (HU.out.to hw)
        clear hw
        go_upto_region 22 with fail
        refine wp_region_lit ?_
        refine wpList_valn rfl (exec_mv rfl (ev rfl)) ?_
        simp only [Act.put, List.setIfInBounds_toArray, List.set_cons_succ, List.set_cons_zero]
        refine wpList_valn rfl (exec_add rfl (ev rfl) evk HAJ.out) ?_
        simp only [Act.put, List.setIfInBounds_toArray, List.set_cons_succ, List.set_cons_zero]
        refine wpList_valn rfl (exec_as rfl (ev rfl)) ?_
        simp only [Act.put, List.setIfInBounds_toArray, List.set_cons_succ, List.set_cons_zero]
        refine wpList_nil ?_
        go_wp2_with fail
        go_roundw
        case rel => exact ⟨i + 1, by go_num, HI.out, by rw [redN_f (by rw [HXY.out.1, HXY.out.2]; exact HQQ.out)], HP3.out, HU3.out⟩
        case measure => have := HI.out; simp [intOf]; omega
      have hin : i = n := by omega
      subst hin
      have HTT : Hid (decide ((i : Int) < (i : Int)) = false) := Lib.hid (decide_eq_false (by omega))
      have HRD : Hid ((redL l k t4).length = (redN l k t4 i).length) := Lib.hid (by unfold redL; rw [HLL.out])
      clear hlt hi HW P1
      have HW := HU
      have P1 := HP
      clear HU HP
      go_upto_region 21 with fail
      refine wp_region_lit ?_
      refine wpList_valn rfl (exec_mv rfl (ev rfl)) ?_
      simp only [Act.put, List.setIfInBounds_toArray, List.set_cons_succ, List.set_cons_zero]
      refine wpList_valn rfl (exec_mv rfl (ev rfl)) ?_
      simp only [Act.put, List.setIfInBounds_toArray, List.set_cons_succ, List.set_cons_zero]
      refine wpList_valn (v := .bool false) rfl (exec_lss false rfl (ev rfl) (ev rfl) HTT.out) ?_
      simp only [Act.put, List.setIfInBounds_toArray, List.set_cons_succ, List.set_cons_zero]
      refine wpList_nil ?_
      cases t4
      · have V6 : Hid (((((redN l k false i).length : Nat) : Int) == (r.length : Int)) = true) := Lib.hid (by rw [beq_iff_eq]; have h := HCN.out; rw [HRD.out] at h; simp at h; omega)
        go_upto_region 25 with fail
        refine wp_region_lit ?_
        refine wpList_valn rfl (exec_faddr rfl (ev rfl) faPn0) ?_
        simp only [Act.put, List.setIfInBounds_toArray, List.set_cons_succ, List.set_cons_zero]
        refine wpList_valn rfl (exec_ld rfl (ev rfl) (ldU8 (P1.out.1).c0)) ?_
        simp only [Act.put, List.setIfInBounds_toArray, List.set_cons_succ, List.set_cons_zero]
        refine wpList_valn (v := .bool false) rfl (exec_eqInt false rfl (ev rfl) evk T5.out) ?_
        simp only [Act.put, List.setIfInBounds_toArray, List.set_cons_succ, List.set_cons_zero]
        refine wpList_skips 2 (v := .bool false) rfl (exec_mv rfl (ev rfl)) (by kernel_rfl) ?_
        simp only [skipAct, List.take_succ_cons, List.take_zero, List.drop_succ_cons, List.drop_zero, Act.put, List.setIfInBounds_toArray, List.set_cons_succ, List.set_cons_zero]
        refine wpList_valn (v := .bool false) rfl (exec_pf rfl (ev rfl) evk) ?_
        simp only [Act.put, List.setIfInBounds_toArray, List.set_cons_succ, List.set_cons_zero]
        refine wpList_nil ?_
        go_upto_region 27 with fail
        refine wp_region_lit ?_
        refine wpList_valn rfl (exec_mv rfl (ev rfl)) ?_
        simp only [Act.put, List.setIfInBounds_toArray, List.set_cons_succ, List.set_cons_zero]
        refine wpList_valn rfl (exec_faddr rfl (ev rfl) faPn1) ?_
        simp only [Act.put, List.setIfInBounds_toArray, List.set_cons_succ, List.set_cons_zero]
        refine wpList_valn rfl (exec_ld rfl (ev rfl) (ldIsP (P1.out.1).c1)) ?_
        simp only [Act.put, List.setIfInBounds_toArray, List.set_cons_succ, List.set_cons_zero]
        refine wpList_valn rfl (exec_lenQ Try.underlying23 rfl (ev rfl)) ?_
        simp only [Act.put, List.setIfInBounds_toArray, List.set_cons_succ, List.set_cons_zero]
        refine wpList_valn (v := .bool true) rfl (exec_eqInt true rfl (ev rfl) (ev rfl) V6.out) ?_
        simp only [Act.put, List.setIfInBounds_toArray, List.set_cons_succ, List.set_cons_zero]
        refine wpList_valn (v := .bool true) rfl (exec_mv rfl (ev rfl)) ?_
        simp only [Act.put, List.setIfInBounds_toArray, List.set_cons_succ, List.set_cons_zero]
        refine wpList_call (wanted_of rfl rfl rfl rfl) (exec_cl Try.call11 rfl evn) ?_
        refine (nlives wr).mono ?_
        rintro e w31 ⟨rfl, hb⟩
        have HWn := Lib.hid (HW.out.to hb)
        clear HW
        have HW := HWn
        clear HWn
        have P1n := Lib.hid (P1.out.below hb)
        clear P1
        have P1 := P1n
        clear P1n
        clear hb
        refine ⟨_, rfl, ?_⟩
        simp only [Act.put, List.setIfInBounds_toArray, List.set_cons_succ, List.set_cons_zero]
        refine wpList_valn (v := .bool true) rfl (exec_pt rfl (ev rfl) (ev rfl)) ?_
        simp only [Act.put, List.setIfInBounds_toArray, List.set_cons_succ, List.set_cons_zero]
        refine wpList_valn (v := .bool true) rfl (exec_as rfl (ev rfl)) ?_
        simp only [Act.put, List.setIfInBounds_toArray, List.set_cons_succ, List.set_cons_zero]
        refine wpList_nil ?_
        go_wp2_with fail
        go_ret
        exact ⟨rfl, HW.out.1⟩
      cases par
      rotate_left 1
      · have V6 : Hid (((((redN l k true i).length : Nat) : Int) == (r.length : Int)) = true) := Lib.hid (by rw [beq_iff_eq]; have h := HCN.out; rw [HRD.out] at h; simp at h; omega)
        go_upto_region 25 with fail
        refine wp_region_lit ?_
        refine wpList_valn rfl (exec_faddr rfl (ev rfl) faPn0) ?_
        simp only [Act.put, List.setIfInBounds_toArray, List.set_cons_succ, List.set_cons_zero]
        refine wpList_valn rfl (exec_ld rfl (ev rfl) (ldU8 (P1.out.1).c0)) ?_
        simp only [Act.put, List.setIfInBounds_toArray, List.set_cons_succ, List.set_cons_zero]
        refine wpList_valn (v := .bool true) rfl (exec_eqInt true rfl (ev rfl) evk T5.out) ?_
        simp only [Act.put, List.setIfInBounds_toArray, List.set_cons_succ, List.set_cons_zero]
        refine wpList_valn (v := .bool true) rfl (exec_mv rfl (ev rfl)) ?_
        simp only [Act.put, List.setIfInBounds_toArray, List.set_cons_succ, List.set_cons_zero]
        refine wpList_val (v := .bool true) (wanted_of rfl rfl rfl rfl) (exec_mv rfl (ev rfl)) ?_
        simp only [Act.put, List.setIfInBounds_toArray, List.set_cons_succ, List.set_cons_zero]
        refine wpList_val (v := .bool false) (wanted_of rfl rfl rfl rfl) (exec_not true rfl (ev rfl)) ?_
        simp only [Act.put, List.setIfInBounds_toArray, List.set_cons_succ, List.set_cons_zero]
        refine wpList_valn (v := .bool false) rfl (exec_pt rfl (ev rfl) (ev rfl)) ?_
        simp only [Act.put, List.setIfInBounds_toArray, List.set_cons_succ, List.set_cons_zero]
        refine wpList_nil ?_
        go_upto_region 27 with fail
        refine wp_region_lit ?_
        refine wpList_valn rfl (exec_mv rfl (ev rfl)) ?_
        simp only [Act.put, List.setIfInBounds_toArray, List.set_cons_succ, List.set_cons_zero]
        refine wpList_valn rfl (exec_faddr rfl (ev rfl) faPn1) ?_
        simp only [Act.put, List.setIfInBounds_toArray, List.set_cons_succ, List.set_cons_zero]
        refine wpList_valn rfl (exec_ld rfl (ev rfl) (ldIsP (P1.out.1).c1)) ?_
        simp only [Act.put, List.setIfInBounds_toArray, List.set_cons_succ, List.set_cons_zero]
        refine wpList_valn rfl (exec_lenQ Try.underlying23 rfl (ev rfl)) ?_
        simp only [Act.put, List.setIfInBounds_toArray, List.set_cons_succ, List.set_cons_zero]
        refine wpList_valn (v := .bool true) rfl (exec_eqInt true rfl (ev rfl) (ev rfl) V6.out) ?_
        simp only [Act.put, List.setIfInBounds_toArray, List.set_cons_succ, List.set_cons_zero]
        refine wpList_valn (v := .bool true) rfl (exec_mv rfl (ev rfl)) ?_
        simp only [Act.put, List.setIfInBounds_toArray, List.set_cons_succ, List.set_cons_zero]
        refine wpList_call (wanted_of rfl rfl rfl rfl) (exec_cl Try.call11 rfl evn) ?_
        refine (nlives wr).mono ?_
        rintro e w31 ⟨rfl, hb⟩
        have HWn := Lib.hid (HW.out.to hb)
        clear HW
        have HW := HWn
        clear HWn
        have P1n := Lib.hid (P1.out.below hb)
        clear P1
        have P1 := P1n
        clear P1n
        clear hb
        refine ⟨_, rfl, ?_⟩
        simp only [Act.put, List.setIfInBounds_toArray, List.set_cons_succ, List.set_cons_zero]
        refine wpList_valn (v := .bool true) rfl (exec_pt rfl (ev rfl) (ev rfl)) ?_
        simp only [Act.put, List.setIfInBounds_toArray, List.set_cons_succ, List.set_cons_zero]
        refine wpList_valn (v := .bool true) rfl (exec_as rfl (ev rfl)) ?_
        simp only [Act.put, List.setIfInBounds_toArray, List.set_cons_succ, List.set_cons_zero]
        refine wpList_nil ?_
        go_wp2_with fail
        go_ret
        exact ⟨rfl, HW.out.1⟩
      have V6 : Hid (((((redN l k true i).length + 1 : Nat) : Int) == (r.length : Int)) = true) := Lib.hid (by rw [beq_iff_eq]; have h := HCN.out; rw [HRD.out] at h; simp at h; omega)
      have HAM : Hid (IntKind.i64.wrap ((((redN l k true i).length : Nat) : Int) + 1) = (((redN l k true i).length + 1 : Nat) : Int)) := Lib.hid (by have := HN15.out; have := redN_len (w := l) (k := k) (o := true) i; rw [i64k ⟨by omega, by omega⟩]; omega)
      go_upto_region 25 with fail
      refine wp_region_lit ?_
      refine wpList_valn rfl (exec_faddr rfl (ev rfl) faPn0) ?_
      simp only [Act.put, List.setIfInBounds_toArray, List.set_cons_succ, List.set_cons_zero]
      refine wpList_valn rfl (exec_ld rfl (ev rfl) (ldU8 (P1.out.1).c0)) ?_
      simp only [Act.put, List.setIfInBounds_toArray, List.set_cons_succ, List.set_cons_zero]
      refine wpList_valn (v := .bool true) rfl (exec_eqInt true rfl (ev rfl) evk T5.out) ?_
      simp only [Act.put, List.setIfInBounds_toArray, List.set_cons_succ, List.set_cons_zero]
      refine wpList_valn (v := .bool true) rfl (exec_mv rfl (ev rfl)) ?_
      simp only [Act.put, List.setIfInBounds_toArray, List.set_cons_succ, List.set_cons_zero]
      refine wpList_val (v := .bool false) (wanted_of rfl rfl rfl rfl) (exec_mv rfl (ev rfl)) ?_
      simp only [Act.put, List.setIfInBounds_toArray, List.set_cons_succ, List.set_cons_zero]
      refine wpList_val (v := .bool true) (wanted_of rfl rfl rfl rfl) (exec_not false rfl (ev rfl)) ?_
      simp only [Act.put, List.setIfInBounds_toArray, List.set_cons_succ, List.set_cons_zero]
      refine wpList_valn (v := .bool true) rfl (exec_pt rfl (ev rfl) (ev rfl)) ?_
      simp only [Act.put, List.setIfInBounds_toArray, List.set_cons_succ, List.set_cons_zero]
      refine wpList_nil ?_
      go_upto_region 26 with fail
      refine wp_region_lit ?_
      refine wpList_valn rfl (exec_mv rfl (ev rfl)) ?_
      simp only [Act.put, List.setIfInBounds_toArray, List.set_cons_succ, List.set_cons_zero]
      refine wpList_valn rfl (exec_add rfl (ev rfl) evk HAM.out) ?_
      simp only [Act.put, List.setIfInBounds_toArray, List.set_cons_succ, List.set_cons_zero]
      refine wpList_valn rfl (exec_as rfl (ev rfl)) ?_
      simp only [Act.put, List.setIfInBounds_toArray, List.set_cons_succ, List.set_cons_zero]
      refine wpList_nil ?_
      go_upto_region 27 with fail
      refine wp_region_lit ?_
      refine wpList_valn rfl (exec_mv rfl (ev rfl)) ?_
      simp only [Act.put, List.setIfInBounds_toArray, List.set_cons_succ, List.set_cons_zero]
      refine wpList_valn rfl (exec_faddr rfl (ev rfl) faPn1) ?_
      simp only [Act.put, List.setIfInBounds_toArray, List.set_cons_succ, List.set_cons_zero]
      refine wpList_valn rfl (exec_ld rfl (ev rfl) (ldIsP (P1.out.1).c1)) ?_
      simp only [Act.put, List.setIfInBounds_toArray, List.set_cons_succ, List.set_cons_zero]
      refine wpList_valn rfl (exec_lenQ Try.underlying23 rfl (ev rfl)) ?_
      simp only [Act.put, List.setIfInBounds_toArray, List.set_cons_succ, List.set_cons_zero]
      refine wpList_valn (v := .bool true) rfl (exec_eqInt true rfl (ev rfl) (ev rfl) V6.out) ?_
      simp only [Act.put, List.setIfInBounds_toArray, List.set_cons_succ, List.set_cons_zero]
      refine wpList_valn (v := .bool true) rfl (exec_mv rfl (ev rfl)) ?_
      simp only [Act.put, List.setIfInBounds_toArray, List.set_cons_succ, List.set_cons_zero]
      refine wpList_call (wanted_of rfl rfl rfl rfl) (exec_cl Try.call11 rfl evn) ?_
      refine (nlives wr).mono ?_
      rintro e w31 ⟨rfl, hb⟩
      have HWn := Lib.hid (HW.out.to hb)
      clear HW
      have HW := HWn
      clear HWn
      have P1n := Lib.hid (P1.out.below hb)
      clear P1
      have P1 := P1n
      clear P1n
      clear hb
      refine ⟨_, rfl, ?_⟩
      simp only [Act.put, List.setIfInBounds_toArray, List.set_cons_succ, List.set_cons_zero]
      refine wpList_valn (v := .bool true) rfl (exec_pt rfl (ev rfl) (ev rfl)) ?_
      simp only [Act.put, List.setIfInBounds_toArray, List.set_cons_succ, List.set_cons_zero]
      refine wpList_valn (v := .bool true) rfl (exec_as rfl (ev rfl)) ?_
      simp only [Act.put, List.setIfInBounds_toArray, List.set_cons_succ, List.set_cons_zero]
      refine wpList_nil ?_
      go_wp2_with fail
      go_ret
      exact ⟨rfl, HW.out.1⟩
end Go.Proofs.Ytplanbjjfaihbaa
