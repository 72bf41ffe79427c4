/-
  PlanOf's walk.
-/
import Derived.Test.YtplanbjjfaihbaaPnL
namespace Go.Proofs.Ytplanbjjfaihbaa
open Go.RowKit
set_option linter.unusedVariables false
set_option linter.unusedSimpArgs false
set_option maxRecDepth 100000

set_option maxHeartbeats 2000000 in
theorem wplanOf (A B' : Option Addr) (n c m c' : Nat) (l k : List Bool) (par : Bool) (lost : Int) (w : World) (hl : RdE BoE w w.heap.size A n l) (hk : RdE BoE w w.heap.size B' m k) (hn : n ≤ maxLen ∧ m ≤ maxLen) :
    Calls Try.prog 3 #[.slice A n c, .slice B' m c', .bool par, .int .i64 lost] w fun e w' => e = .returned (.bool true) ∧ Below w.heap.size w w' := by
  have HW := Lib.hid (Upto.refl w)
  have HL := Lib.hid hl
  have HK := Lib.hid hk
  have HN := Lib.hid hn
  obtain ⟨z, hz⟩ : ∃ z, plW l k par lost = z := ⟨_, rfl⟩
  obtain ⟨e0, he⟩ : ∃ z, plE l k lost = z := ⟨_, rfl⟩
  obtain ⟨r, hr⟩ : ∃ z, plR l k par lost = z := ⟨_, rfl⟩
  have HZ := Lib.hid hz
  have HE := Lib.hid he
  have HR := Lib.hid hr
  have HRL : Hid (r.length ≤ 100) := Lib.hid (by rw [← hr]; exact plR_len _ _ _ _)
  clear hl hk hn hz he hr
  go_enter Try.func3, Try.ntmps3
  go_upto_region 1 with fail
  refine wp_region_lit ?_
  refine wpList_valn rfl (exec_mv rfl (ev rfl)) ?_
  simp only [Act.put, List.setIfInBounds_toArray, List.set_cons_succ, List.set_cons_zero]
  refine wpList_valn rfl (exec_mv rfl (ev rfl)) ?_
  simp only [Act.put, List.setIfInBounds_toArray, List.set_cons_succ, List.set_cons_zero]
  refine wpList_valn rfl (exec_mv rfl (ev rfl)) ?_
  simp only [Act.put, List.setIfInBounds_toArray, List.set_cons_succ, List.set_cons_zero]
  refine wpList_valn rfl (exec_mv rfl (ev rfl)) ?_
  simp only [Act.put, List.setIfInBounds_toArray, List.set_cons_succ, List.set_cons_zero]
  refine wpList_call rfl (exec_cl Try.call8 rfl (evc (ev rfl) (evc (ev rfl) (evc (ev rfl) (evc (ev rfl) evn))))) ?_
  refine (pplan_v A B' n c m c' l k par lost w HZ.out HE.out HR.out (HW.out.rd HL.out) (HW.out.rd HK.out) HN.out).mono ?_
  rintro e w1 ⟨A1', c1', rfl, hm, hb⟩
  have HWn := Lib.hid (HW.out.to hb)
  clear HW
  have HW := HWn
  clear HWn
  have HMx := Lib.hid hm
  clear hm hb
  refine ⟨_, rfl, ?_⟩
  simp only [Act.put, List.setIfInBounds_toArray, List.set_cons_succ, List.set_cons_zero]
  refine wpList_valn rfl (exec_mv rfl (ev rfl)) ?_
  simp only [Act.put, List.setIfInBounds_toArray, List.set_cons_succ, List.set_cons_zero]
  refine wpList_valn rfl (exec_ext rfl (ev rfl) rfl) ?_
  simp only [Act.put, List.setIfInBounds_toArray, List.set_cons_succ, List.set_cons_zero]
  refine wpList_valn rfl (exec_ext rfl (ev rfl) rfl) ?_
  simp only [Act.put, List.setIfInBounds_toArray, List.set_cons_succ, List.set_cons_zero]
  refine wpList_valn rfl (exec_allocT zinfoPl rfl) ?_
  simp only [Act.put, List.setIfInBounds_toArray, List.set_cons_succ, List.set_cons_zero]
  refine wpList_nuln rfl (exec_fillPl rfl (ev rfl) (ev rfl)) ?_
  simp only [Act.put, List.setIfInBounds_toArray, List.set_cons_succ, List.set_cons_zero]
  obtain ⟨w2, q1, hw_, hq_, hp, hb, hmm⟩ := pl_lay HMx.out
  rw [hw_, hq_]
  have HWn := Lib.hid (HW.out.to hb)
  clear HW
  have HW := HWn
  clear HWn
  have P1 := Lib.hid hp
  clear hw_ hq_ hp hb hmm HMx
  refine wpList_valn rfl (exec_as rfl (ev rfl)) ?_
  simp only [Act.put, List.setIfInBounds_toArray, List.set_cons_succ, List.set_cons_zero]
  refine wpList_nil ?_
  go_upto_region 2 with fail
  refine wp_region_lit ?_
  refine wpList_valn rfl (exec_mv rfl (ev rfl)) ?_
  simp only [Act.put, List.setIfInBounds_toArray, List.set_cons_succ, List.set_cons_zero]
  refine wpList_valn rfl (exec_mv rfl (ev rfl)) ?_
  simp only [Act.put, List.setIfInBounds_toArray, List.set_cons_succ, List.set_cons_zero]
  refine wpList_valn rfl (exec_mv rfl (ev rfl)) ?_
  simp only [Act.put, List.setIfInBounds_toArray, List.set_cons_succ, List.set_cons_zero]
  refine wpList_valn rfl (exec_mv rfl (ev rfl)) ?_
  simp only [Act.put, List.setIfInBounds_toArray, List.set_cons_succ, List.set_cons_zero]
  refine wpList_call rfl (exec_cl Try.call9 rfl (evc (ev rfl) (evc (ev rfl) (evc (ev rfl) (evc (ev rfl) evn))))) ?_
  refine (rplan_v A B' n c m c' l k par lost w2 HZ.out HE.out HR.out (HW.out.rd HL.out) (HW.out.rd HK.out) HN.out).mono ?_
  rintro e w3 ⟨A2', c2', rfl, hm, hb⟩
  have HWn := Lib.hid (HW.out.to hb)
  clear HW
  have HW := HWn
  clear HWn
  have P1n := Lib.hid (P1.out.below hb)
  clear P1
  have P1 := P1n
  clear P1n
  have HMx := Lib.hid hm
  clear hm hb
  refine ⟨_, rfl, ?_⟩
  simp only [Act.put, List.setIfInBounds_toArray, List.set_cons_succ, List.set_cons_zero]
  refine wpList_valn rfl (exec_mv rfl (ev rfl)) ?_
  simp only [Act.put, List.setIfInBounds_toArray, List.set_cons_succ, List.set_cons_zero]
  refine wpList_valn rfl (exec_ext rfl (ev rfl) rfl) ?_
  simp only [Act.put, List.setIfInBounds_toArray, List.set_cons_succ, List.set_cons_zero]
  refine wpList_valn rfl (exec_ext rfl (ev rfl) rfl) ?_
  simp only [Act.put, List.setIfInBounds_toArray, List.set_cons_succ, List.set_cons_zero]
  refine wpList_valn rfl (exec_allocT zinfoPl rfl) ?_
  simp only [Act.put, List.setIfInBounds_toArray, List.set_cons_succ, List.set_cons_zero]
  refine wpList_nuln rfl (exec_fillPl rfl (ev rfl) (ev rfl)) ?_
  simp only [Act.put, List.setIfInBounds_toArray, List.set_cons_succ, List.set_cons_zero]
  obtain ⟨w4, q2, hw_, hq_, hp, hb, hmm⟩ := pl_lay HMx.out
  rw [hw_, hq_]
  have HWn := Lib.hid (HW.out.to hb)
  clear HW
  have HW := HWn
  clear HWn
  have P1n := Lib.hid (P1.out.below hb)
  clear P1
  have P1 := P1n
  clear P1n
  have P2 := Lib.hid hp
  clear hw_ hq_ hp hb hmm HMx
  refine wpList_valn rfl (exec_as rfl (ev rfl)) ?_
  simp only [Act.put, List.setIfInBounds_toArray, List.set_cons_succ, List.set_cons_zero]
  refine wpList_nil ?_
  go_upto_region 3 with fail
  refine wp_region_lit ?_
  refine wpList_valn rfl (exec_loadPl rfl (ev rfl) P1.out) ?_
  simp only [Act.put, List.setIfInBounds_toArray, List.set_cons_succ, List.set_cons_zero]
  refine wpList_valn rfl (exec_loadPl rfl (ev rfl) P2.out) ?_
  simp only [Act.put, List.setIfInBounds_toArray, List.set_cons_succ, List.set_cons_zero]
  refine wpList_call rfl (exec_cl Try.call10 rfl (evc (ev rfl) (evc (ev rfl) evn))) ?_
  refine (rsame_v w4 (t := true) (decide_eq_true ⟨rfl, rfl⟩) P1.out.2 P2.out.2 (by have := HRL.out; omega)).mono ?_
  rintro e w5 ⟨rfl, hb⟩
  have HWn := Lib.hid (HW.out.to hb)
  clear HW
  have HW := HWn
  clear HWn
  have P1n := Lib.hid (P1.out.below hb)
  clear P1
  have P1 := P1n
  clear P1n
  have P2n := Lib.hid (P2.out.below hb)
  clear P2
  have P2 := P2n
  clear P2n
  clear hb
  refine ⟨_, rfl, ?_⟩
  simp only [Act.put, List.setIfInBounds_toArray, List.set_cons_succ, List.set_cons_zero]
  refine wpList_valn (v := .bool true) rfl (exec_mv rfl (ev rfl)) ?_
  simp only [Act.put, List.setIfInBounds_toArray, List.set_cons_succ, List.set_cons_zero]
  refine wpList_val (wanted_of rfl rfl rfl rfl) (exec_mv rfl (ev rfl)) ?_
  simp only [Act.put, List.setIfInBounds_toArray, List.set_cons_succ, List.set_cons_zero]
  refine wpList_val (wanted_of rfl rfl rfl rfl) (exec_mv rfl (ev rfl)) ?_
  simp only [Act.put, List.setIfInBounds_toArray, List.set_cons_succ, List.set_cons_zero]
  refine wpList_val (v := .bool true) (wanted_of rfl rfl rfl rfl) (exec_eqInt true rfl (ev rfl) (ev rfl) (beq_self_eq_true _)) ?_
  simp only [Act.put, List.setIfInBounds_toArray, List.set_cons_succ, List.set_cons_zero]
  refine wpList_valn (v := .bool true) rfl (exec_pt rfl (ev rfl) (ev rfl)) ?_
  simp only [Act.put, List.setIfInBounds_toArray, List.set_cons_succ, List.set_cons_zero]
  refine wpList_valn (v := .bool true) rfl (exec_mv rfl (ev rfl)) ?_
  simp only [Act.put, List.setIfInBounds_toArray, List.set_cons_succ, List.set_cons_zero]
  refine wpList_call (wanted_of rfl rfl rfl rfl) (exec_cl Try.call11 rfl evn) ?_
  refine (nlives w5).mono ?_
  rintro e w6 ⟨rfl, hb⟩
  have HWn := Lib.hid (HW.out.to hb)
  clear HW
  have HW := HWn
  clear HWn
  have P1n := Lib.hid (P1.out.below hb)
  clear P1
  have P1 := P1n
  clear P1n
  have P2n := Lib.hid (P2.out.below hb)
  clear P2
  have P2 := P2n
  clear P2n
  clear hb
  refine ⟨_, rfl, ?_⟩
  simp only [Act.put, List.setIfInBounds_toArray, List.set_cons_succ, List.set_cons_zero]
  refine wpList_valn (v := .bool true) rfl (exec_pt rfl (ev rfl) (ev rfl)) ?_
  simp only [Act.put, List.setIfInBounds_toArray, List.set_cons_succ, List.set_cons_zero]
  refine wpList_valn (v := .bool true) rfl (exec_as rfl (ev rfl)) ?_
  simp only [Act.put, List.setIfInBounds_toArray, List.set_cons_succ, List.set_cons_zero]
  refine wpList_nil ?_
  go_wp2_with fail
  go_ret
  exact ⟨rfl, HW.out.1⟩
end Go.Proofs.Ytplanbjjfaihbaa
