/-
  The program's plan: how many may be, what is not seen, which way is cheaper.
-/
import Derived.Test.YtplanbjjfaihbaaPnC
namespace Go.Proofs.Ytplanbjjfaihbaa
open Go.RowKit
set_option linter.unusedVariables false
set_option linter.unusedSimpArgs false
set_option maxRecDepth 100000

def mayN (n : Int) : Bool := decide (2 ≤ n ∧ n ≤ 15)
set_option maxHeartbeats 400000 in
theorem pmayd (n : Int) (w : World) : Calls Try.prog 16 #[.int .i64 n] w fun e w' => e = .returned (.bool (mayN n)) ∧ w = w' := by
  go_enter Try.func16, Try.ntmps16
  go_upto_region 1 with fail
  by_cases h0 : 2 ≤ n
  · have T0 : Hid (decide (n ≥ 2) = true) := Lib.hid (decide_eq_true h0)
    by_cases h1 : n ≤ 15
    · have T1 : Hid (decide (n ≤ 15) = true) := Lib.hid (decide_eq_true h1)
      have HM : Hid (mayN n = true) := Lib.hid (decide_eq_true ⟨h0, h1⟩)
      clear h0 h1
      refine wp_region_lit ?_
      refine wpList_valn rfl (exec_mv rfl (ev rfl)) ?_
      simp only [Act.put, List.setIfInBounds_toArray, List.set_cons_succ, List.set_cons_zero]
      refine wpList_valn (v := .bool true) rfl (exec_geq true rfl (ev rfl) evk T0.out) ?_
      simp only [Act.put, List.setIfInBounds_toArray, List.set_cons_succ, List.set_cons_zero]
      refine wpList_valn (v := .bool true) rfl (exec_mv rfl (ev rfl)) ?_
      simp only [Act.put, List.setIfInBounds_toArray, List.set_cons_succ, List.set_cons_zero]
      refine wpList_val (wanted_of rfl rfl rfl rfl) (exec_mv rfl (ev rfl)) ?_
      simp only [Act.put, List.setIfInBounds_toArray, List.set_cons_succ, List.set_cons_zero]
      refine wpList_val (v := .bool true) (wanted_of rfl rfl rfl rfl) (exec_leq true rfl (ev rfl) evk T1.out) ?_
      simp only [Act.put, List.setIfInBounds_toArray, List.set_cons_succ, List.set_cons_zero]
      refine wpList_valn (v := .bool true) rfl (exec_pt rfl (ev rfl) (ev rfl)) ?_
      simp only [Act.put, List.setIfInBounds_toArray, List.set_cons_succ, List.set_cons_zero]
      refine wpList_valn (v := .bool true) rfl (exec_as rfl (ev rfl)) ?_
      simp only [Act.put, List.setIfInBounds_toArray, List.set_cons_succ, List.set_cons_zero]
      refine wpList_nil ?_
      go_wp2_with fail
      go_ret
      exact ⟨ret_bool (Eq.symm (HM.out)), rfl⟩
    have T1 : Hid (decide (n ≤ 15) = false) := Lib.hid (decide_eq_false h1)
    have HM : Hid (mayN n = false) := Lib.hid (decide_eq_false fun h => h1 h.2)
    clear h0 h1
    refine wp_region_lit ?_
    refine wpList_valn rfl (exec_mv rfl (ev rfl)) ?_
    simp only [Act.put, List.setIfInBounds_toArray, List.set_cons_succ, List.set_cons_zero]
    refine wpList_valn (v := .bool true) rfl (exec_geq true rfl (ev rfl) evk T0.out) ?_
    simp only [Act.put, List.setIfInBounds_toArray, List.set_cons_succ, List.set_cons_zero]
    refine wpList_valn (v := .bool true) rfl (exec_mv rfl (ev rfl)) ?_
    simp only [Act.put, List.setIfInBounds_toArray, List.set_cons_succ, List.set_cons_zero]
    refine wpList_val (wanted_of rfl rfl rfl rfl) (exec_mv rfl (ev rfl)) ?_
    simp only [Act.put, List.setIfInBounds_toArray, List.set_cons_succ, List.set_cons_zero]
    refine wpList_val (v := .bool false) (wanted_of rfl rfl rfl rfl) (exec_leq false rfl (ev rfl) evk T1.out) ?_
    simp only [Act.put, List.setIfInBounds_toArray, List.set_cons_succ, List.set_cons_zero]
    refine wpList_valn (v := .bool false) rfl (exec_pt rfl (ev rfl) (ev rfl)) ?_
    simp only [Act.put, List.setIfInBounds_toArray, List.set_cons_succ, List.set_cons_zero]
    refine wpList_valn (v := .bool false) rfl (exec_as rfl (ev rfl)) ?_
    simp only [Act.put, List.setIfInBounds_toArray, List.set_cons_succ, List.set_cons_zero]
    refine wpList_nil ?_
    go_wp2_with fail
    go_ret
    exact ⟨ret_bool (Eq.symm (HM.out)), rfl⟩
  have T0 : Hid (decide (n ≥ 2) = false) := Lib.hid (decide_eq_false h0)
  have HM : Hid (mayN n = false) := Lib.hid (decide_eq_false fun h => h0 h.1)
  clear h0
  refine wp_region_lit ?_
  refine wpList_valn rfl (exec_mv rfl (ev rfl)) ?_
  simp only [Act.put, List.setIfInBounds_toArray, List.set_cons_succ, List.set_cons_zero]
  refine wpList_valn (v := .bool false) rfl (exec_geq false rfl (ev rfl) evk T0.out) ?_
  simp only [Act.put, List.setIfInBounds_toArray, List.set_cons_succ, List.set_cons_zero]
  refine wpList_skips 2 (v := .bool false) rfl (exec_mv rfl (ev rfl)) (by kernel_rfl) ?_
  simp only [skipAct, List.take_succ_cons, List.take_zero, List.drop_succ_cons, List.drop_zero, Act.put, List.setIfInBounds_toArray, List.set_cons_succ, List.set_cons_zero]
  refine wpList_valn (v := .bool false) rfl (exec_pf rfl (ev rfl) evk) ?_
  simp only [Act.put, List.setIfInBounds_toArray, List.set_cons_succ, List.set_cons_zero]
  refine wpList_valn (v := .bool false) rfl (exec_as rfl (ev rfl)) ?_
  simp only [Act.put, List.setIfInBounds_toArray, List.set_cons_succ, List.set_cons_zero]
  refine wpList_nil ?_
  go_wp2_with fail
  go_ret
  exact ⟨ret_bool (Eq.symm (HM.out)), rfl⟩
set_option maxHeartbeats 1600000 in
theorem punseen (A B' : Option Addr) (n c m c' N N' : Nat) (l k : List Bool) (ob : Bool) (B : Nat) (w : World) (HBE : Hid (B = w.heap.size)) (hl : RdE BoE w N A n l) (hk : RdE BoE w N' B' m k) (hN : N ≤ B ∧ N' ≤ B) (hm : m = n) (hn : n ≤ 1000) :
    Calls Try.prog 20 #[.slice A n c, .slice B' m c', .bool ob] w fun e w' => ∃ v, e = .returned v ∧ MadeE IntE w' B v (redL l k ob) ∧ Below B w w' := by
  subst hm
  have HL := Lib.hid hl
  have HK := Lib.hid hk
  have HNB := Lib.hid hN
  have HN := Lib.hid hn
  have HLN := Lib.hid hl.1
  clear hl hk hN hn
  go_enter Try.func20, Try.ntmps20
  go_upto_region 1 with fail
  refine wp_region_lit ?_
  refine wpList_valn rfl (exec_as rfl evk) ?_
  simp only [Act.put, List.setIfInBounds_toArray, List.set_cons_succ, List.set_cons_zero]
  refine wpList_nil ?_
  go_upto_region 2 with fail
  refine wp_region_lit ?_
  refine wpList_valn rfl (exec_mv rfl (ev rfl)) ?_
  simp only [Act.put, List.setIfInBounds_toArray, List.set_cons_succ, List.set_cons_zero]
  refine wpList_valn rfl (exec_lenQ Try.underlying22 rfl (ev rfl)) ?_
  simp only [Act.put, List.setIfInBounds_toArray, List.set_cons_succ, List.set_cons_zero]
  refine wpList_valn rfl (exec_mv rfl evk) ?_
  simp only [Act.put, List.setIfInBounds_toArray, List.set_cons_succ, List.set_cons_zero]
  refine wpList_nil ?_
  go_wp2_with fail
  go_loopw [7, 12] (fun v z wr => ∃ j : Nat, z = .int .i64 j ∧ j ≤ m ∧ MadeE IntE wr B v (redN l k ob j) ∧ Below B w wr) (fun _ z _ => m - (intOf z).toNat)
  case atStart => exact ⟨0, by go_num, by omega, MadeE.nil _ _, Below.refl _ _⟩
  case round =>
    obtain ⟨j, rfl, hj, hm, hb⟩ := hrel
    have HM := Lib.hid hm
    have HW := Lib.hid hb
    have HBS : Hid (B ≤ wr.heap.size) := Lib.hid (by have := hb.size; rw [HBE.out]; exact this)
    by_cases hlt : j < m
    · have HI := Lib.hid hlt
      have HT : Hid (decide ((j : Int) < (m : Int)) = true) := Lib.hid (decide_eq_true (by omega))
      obtain ⟨ba, oa, rfl, _, ha⟩ := (HL.out.below (hb.mono HNB.out.1)).bo hlt
      obtain ⟨bk, ok, rfl, _, hk⟩ := (HK.out.below (hb.mono HNB.out.2)).bo hlt
      obtain ⟨x, hx⟩ : ∃ x, l.getD j false = x := ⟨_, rfl⟩
      obtain ⟨y, hy⟩ : ∃ y, k.getD j false = y := ⟨_, rfl⟩
      rw [hx] at ha
      rw [hy] at hk
      have HXY := Lib.hid (And.intro hx hy)
      have HA : Hid (wr.cell? ⟨ba, oa + j * BoE.n, none⟩ = some (.bool x)) := Lib.hid (by show wr.cell? ⟨ba, oa + j * 1, none⟩ = _; rw [Nat.mul_one]; exact ha)
      have HKC : Hid (wr.cell? ⟨bk, ok + j * BoE.n, none⟩ = some (.bool y)) := Lib.hid (by show wr.cell? ⟨bk, ok + j * 1, none⟩ = _; rw [Nat.mul_one]; exact hk)
      have HAJ : Hid (IntKind.i64.wrap ((j : Int) + 1) = ((j + 1 : Nat) : Int)) := Lib.hid (by have := HN.out; rw [i64k ⟨by omega, by omega⟩]; omega)
      clear hm hb ha hk hx hy hlt hj
      go_upto_region 3 with fail
      refine wp_region_lit ?_
      refine wpList_valn (v := .bool true) rfl (exec_lss true rfl (ev rfl) (ev rfl) HT.out) ?_
      simp only [Act.put, List.setIfInBounds_toArray, List.set_cons_succ, List.set_cons_zero]
      refine wpList_nil ?_
      go_upto_region 4 with fail
      refine wp_region_lit ?_
      refine wpList_valn rfl (exec_mv rfl (ev rfl)) ?_
      simp only [Act.put, List.setIfInBounds_toArray, List.set_cons_succ, List.set_cons_zero]
      refine wpList_valn rfl (exec_indexE (E := BoE) rfl (ev rfl) (ev rfl) HI.out) ?_
      simp only [Act.put, List.setIfInBounds_toArray, List.set_cons_succ, List.set_cons_zero]
      refine wpList_valn rfl (exec_ld rfl (ev rfl) (ldBoE HA.out)) ?_
      simp only [Act.put, List.setIfInBounds_toArray, List.set_cons_succ, List.set_cons_zero]
      refine wpList_valn rfl (exec_as rfl (ev rfl)) ?_
      simp only [Act.put, List.setIfInBounds_toArray, List.set_cons_succ, List.set_cons_zero]
      refine wpList_valn rfl (exec_as rfl (ev rfl)) ?_
      simp only [Act.put, List.setIfInBounds_toArray, List.set_cons_succ, List.set_cons_zero]
      refine wpList_nil ?_
      go_upto_region 5 with fail
      by_cases hc : (x == ob) = true
      rotate_left 1
      · have HC : Hid ((x == ob) = false) := Lib.hid (by simpa using hc)
        have HQ : Hid ((x == ob && !y) = false) := Lib.hid (by rw [HC.out]; rfl)
        clear hc
        refine wp_region_lit ?_
        refine wpList_valn rfl (exec_mv rfl (ev rfl)) ?_
        simp only [Act.put, List.setIfInBounds_toArray, List.set_cons_succ, List.set_cons_zero]
        refine wpList_valn rfl (exec_mv rfl (ev rfl)) ?_
        simp only [Act.put, List.setIfInBounds_toArray, List.set_cons_succ, List.set_cons_zero]
        refine wpList_valn (v := .bool false) rfl (exec_eqBool false rfl (ev rfl) (ev rfl) HC.out) ?_
        simp only [Act.put, List.setIfInBounds_toArray, List.set_cons_succ, List.set_cons_zero]
        refine wpList_skips 5 (v := .bool false) rfl (exec_mv rfl (ev rfl)) (by kernel_rfl) ?_
        simp only [skipAct, List.take_succ_cons, List.take_zero, List.drop_succ_cons, List.drop_zero, Act.put, List.setIfInBounds_toArray, List.set_cons_succ, List.set_cons_zero]
        refine wpList_valn (v := .bool false) rfl (exec_pf rfl (ev rfl) evk) ?_
        simp only [Act.put, List.setIfInBounds_toArray, List.set_cons_succ, List.set_cons_zero]
        refine wpList_nil ?_
        go_upto_region 7 with fail
        refine wp_region_lit ?_
        refine wpList_valn rfl (exec_add rfl (ev rfl) evk HAJ.out) ?_
        simp only [Act.put, List.setIfInBounds_toArray, List.set_cons_succ, List.set_cons_zero]
        refine wpList_valn rfl (exec_mv rfl (ev rfl)) ?_
        simp only [Act.put, List.setIfInBounds_toArray, List.set_cons_succ, List.set_cons_zero]
        refine wpList_nil ?_
        go_wp2_with fail
        go_roundw
        case rel => exact ⟨j + 1, by go_num, HI.out, by rw [redN_f (by rw [HXY.out.1, HXY.out.2]; exact HQ.out)]; exact HM.out, HW.out⟩
        case measure => have := HI.out; simp [intOf]; omega
      have HC := Lib.hid hc
      clear hc
      by_cases hy : y = true
      · have HY := Lib.hid hy
        have HQ : Hid ((x == ob && !y) = false) := Lib.hid (by rw [HC.out, HY.out]; rfl)
        clear hy
        refine wp_region_lit ?_
        refine wpList_valn rfl (exec_mv rfl (ev rfl)) ?_
        simp only [Act.put, List.setIfInBounds_toArray, List.set_cons_succ, List.set_cons_zero]
        refine wpList_valn rfl (exec_mv rfl (ev rfl)) ?_
        simp only [Act.put, List.setIfInBounds_toArray, List.set_cons_succ, List.set_cons_zero]
        refine wpList_valn (v := .bool true) rfl (exec_eqBool true rfl (ev rfl) (ev rfl) HC.out) ?_
        simp only [Act.put, List.setIfInBounds_toArray, List.set_cons_succ, List.set_cons_zero]
        refine wpList_valn (v := .bool true) rfl (exec_mv rfl (ev rfl)) ?_
        simp only [Act.put, List.setIfInBounds_toArray, List.set_cons_succ, List.set_cons_zero]
        refine wpList_val (wanted_of rfl rfl rfl rfl) (exec_mv rfl (ev rfl)) ?_
        simp only [Act.put, List.setIfInBounds_toArray, List.set_cons_succ, List.set_cons_zero]
        refine wpList_val (wanted_of rfl rfl rfl rfl) (exec_mv rfl (ev rfl)) ?_
        simp only [Act.put, List.setIfInBounds_toArray, List.set_cons_succ, List.set_cons_zero]
        refine wpList_val (wanted_of rfl rfl rfl rfl) (exec_indexE (E := BoE) rfl (ev rfl) (ev rfl) HI.out) ?_
        simp only [Act.put, List.setIfInBounds_toArray, List.set_cons_succ, List.set_cons_zero]
        refine wpList_val (v := .bool true) (wanted_of rfl rfl rfl rfl) (exec_ld rfl (ev rfl) (ldBoE (by rw [HKC.out, HY.out]))) ?_
        simp only [Act.put, List.setIfInBounds_toArray, List.set_cons_succ, List.set_cons_zero]
        refine wpList_val (v := .bool false) (wanted_of rfl rfl rfl rfl) (exec_not true rfl (ev rfl)) ?_
        simp only [Act.put, List.setIfInBounds_toArray, List.set_cons_succ, List.set_cons_zero]
        refine wpList_valn (v := .bool false) rfl (exec_pt rfl (ev rfl) (ev rfl)) ?_
        simp only [Act.put, List.setIfInBounds_toArray, List.set_cons_succ, List.set_cons_zero]
        refine wpList_nil ?_
        go_upto_region 7 with fail
        refine wp_region_lit ?_
        refine wpList_valn rfl (exec_add rfl (ev rfl) evk HAJ.out) ?_
        simp only [Act.put, List.setIfInBounds_toArray, List.set_cons_succ, List.set_cons_zero]
        refine wpList_valn rfl (exec_mv rfl (ev rfl)) ?_
        simp only [Act.put, List.setIfInBounds_toArray, List.set_cons_succ, List.set_cons_zero]
        refine wpList_nil ?_
        go_wp2_with fail
        go_roundw
        case rel => exact ⟨j + 1, by go_num, HI.out, by rw [redN_f (by rw [HXY.out.1, HXY.out.2]; exact HQ.out)]; exact HM.out, HW.out⟩
        case measure => have := HI.out; simp [intOf]; omega
      have HY : Hid (y = false) := Lib.hid (by simpa using hy)
      have HQ : Hid ((x == ob && !y) = true) := Lib.hid (by rw [HC.out, HY.out]; rfl)
      clear hy
      have hb1 : Below B wr (wr.alloc (.cells #[.int .i64 (j : Int)] 3)) := (Below.refl _ _).alloc HBS.out _
      have hsz : (wr.alloc (.cells #[.int .i64 (j : Int)] 3)).heap.size = wr.heap.size + 1 := World.size_alloc ..
      obtain ⟨v2, w2, hrun, hm2, hg2⟩ := run_appE IntE (wr.alloc (.cells #[.int .i64 (j : Int)] 3)) 23 B (wr.heap.size + 1) 1 1 u7 (redN l k ob j) [(j : Int)] (some ⟨wr.heap.size, 0, none⟩) (MadeE.below HM.out ((Below.refl _ _).alloc (Nat.le_refl _) _)) (rdE_new (E := IntE) (l := [(j : Int)]) wr #[.int .i64 (j : Int)] 3 rfl) (by have := HBS.out; omega) (by have := redN_len (w := l) (k := k) (o := ob) j; have := HI.out; have := HN.out; simp; omega)
      have HRUN := Lib.hid hrun
      have HM2 : Hid (MadeE IntE w2 B v2 (redN l k ob (j + 1))) := Lib.hid (by rw [redN_t (by rw [HXY.out.1, HXY.out.2]; exact HQ.out)]; exact hm2)
      have HW2 : Hid (Below B w w2) := Lib.hid ((HW.out.trans hb1).grown hg2 (by have := HBS.out; omega) (fun j' hj' => HM.out.lt_own j' hj'))
      clear hb1 hsz hrun hm2 hg2
      refine wp_region_lit ?_
      refine wpList_valn rfl (exec_mv rfl (ev rfl)) ?_
      simp only [Act.put, List.setIfInBounds_toArray, List.set_cons_succ, List.set_cons_zero]
      refine wpList_valn rfl (exec_mv rfl (ev rfl)) ?_
      simp only [Act.put, List.setIfInBounds_toArray, List.set_cons_succ, List.set_cons_zero]
      refine wpList_valn (v := .bool true) rfl (exec_eqBool true rfl (ev rfl) (ev rfl) HC.out) ?_
      simp only [Act.put, List.setIfInBounds_toArray, List.set_cons_succ, List.set_cons_zero]
      refine wpList_valn (v := .bool true) rfl (exec_mv rfl (ev rfl)) ?_
      simp only [Act.put, List.setIfInBounds_toArray, List.set_cons_succ, List.set_cons_zero]
      refine wpList_val (wanted_of rfl rfl rfl rfl) (exec_mv rfl (ev rfl)) ?_
      simp only [Act.put, List.setIfInBounds_toArray, List.set_cons_succ, List.set_cons_zero]
      refine wpList_val (wanted_of rfl rfl rfl rfl) (exec_mv rfl (ev rfl)) ?_
      simp only [Act.put, List.setIfInBounds_toArray, List.set_cons_succ, List.set_cons_zero]
      refine wpList_val (wanted_of rfl rfl rfl rfl) (exec_indexE (E := BoE) rfl (ev rfl) (ev rfl) HI.out) ?_
      simp only [Act.put, List.setIfInBounds_toArray, List.set_cons_succ, List.set_cons_zero]
      refine wpList_val (v := .bool false) (wanted_of rfl rfl rfl rfl) (exec_ld rfl (ev rfl) (ldBoE (by rw [HKC.out, HY.out]))) ?_
      simp only [Act.put, List.setIfInBounds_toArray, List.set_cons_succ, List.set_cons_zero]
      refine wpList_val (v := .bool true) (wanted_of rfl rfl rfl rfl) (exec_not false rfl (ev rfl)) ?_
      simp only [Act.put, List.setIfInBounds_toArray, List.set_cons_succ, List.set_cons_zero]
      refine wpList_valn (v := .bool true) rfl (exec_pt rfl (ev rfl) (ev rfl)) ?_
      simp only [Act.put, List.setIfInBounds_toArray, List.set_cons_succ, List.set_cons_zero]
      refine wpList_nil ?_
      go_upto_region 6 with fail
      refine wp_region_lit ?_
      refine wpList_valn rfl (exec_mv rfl (ev rfl)) ?_
      simp only [Act.put, List.setIfInBounds_toArray, List.set_cons_succ, List.set_cons_zero]
      refine wpList_valn rfl (exec_mv rfl (ev rfl)) ?_
      simp only [Act.put, List.setIfInBounds_toArray, List.set_cons_succ, List.set_cons_zero]
      refine wpList_valn rfl (exec_mk1E (E := IntE) (a := (j : Int)) rfl (ev rfl) rfl (by decide)) ?_
      simp only [Act.put, List.setIfInBounds_toArray, List.set_cons_succ, List.set_cons_zero]
      refine wpList_valn rfl (exec_appR rfl (ev rfl) (ev rfl) HRUN.out) ?_
      simp only [Act.put, List.setIfInBounds_toArray, List.set_cons_succ, List.set_cons_zero]
      refine wpList_valn rfl (exec_as rfl (ev rfl)) ?_
      simp only [Act.put, List.setIfInBounds_toArray, List.set_cons_succ, List.set_cons_zero]
      refine wpList_nil ?_
      go_upto_region 7 with fail
      refine wp_region_lit ?_
      refine wpList_valn rfl (exec_add rfl (ev rfl) evk HAJ.out) ?_
      simp only [Act.put, List.setIfInBounds_toArray, List.set_cons_succ, List.set_cons_zero]
      refine wpList_valn rfl (exec_mv rfl (ev rfl)) ?_
      simp only [Act.put, List.setIfInBounds_toArray, List.set_cons_succ, List.set_cons_zero]
      refine wpList_nil ?_
      go_wp2_with fail
      go_roundw
      case rel => exact ⟨j + 1, by go_num, HI.out, HM2.out, HW2.out⟩
      case measure => have := HI.out; simp [intOf]; omega
    have hin : j = m := by omega
    subst hin
    have HT : Hid (decide ((j : Int) < (j : Int)) = false) := Lib.hid (decide_eq_false (by omega))
    clear hlt hj hm hb
    go_upto_region 3 with fail
    refine wp_region_lit ?_
    refine wpList_valn (v := .bool false) rfl (exec_lss false rfl (ev rfl) (ev rfl) HT.out) ?_
    simp only [Act.put, List.setIfInBounds_toArray, List.set_cons_succ, List.set_cons_zero]
    refine wpList_nil ?_
    go_upto_region 8 with fail
    refine wp_region_lit ?_
    refine wpList_valn rfl (exec_mv rfl (ev rfl)) ?_
    simp only [Act.put, List.setIfInBounds_toArray, List.set_cons_succ, List.set_cons_zero]
    refine wpList_valn rfl (exec_as rfl (ev rfl)) ?_
    simp only [Act.put, List.setIfInBounds_toArray, List.set_cons_succ, List.set_cons_zero]
    refine wpList_nil ?_
    go_wp2_with fail
    go_ret
    exact ⟨_, rfl, by unfold redL; rw [HLN.out]; exact HM.out, HW.out⟩
def cheC (r d : List Int) (lost : Int) (A A' : Option Addr) (n c m c' : Nat) : List Value := if cheB r d lost = true then plC 3 (.slice A n c) else plC 4 (.slice A' m c')
set_option maxHeartbeats 1600000 in
theorem pcheap (A A' : Option Addr) (n c m c' N N' : Nat) (r d : List Int) (lost : Int) (B : Nat) (w : World) (HBE : Hid (B = w.heap.size)) (hr : RdE IntE w N A n r) (hd : RdE IntE w N' A' m d) (hN : N ≤ B ∧ N' ≤ B) (hn : n ≤ maxLen ∧ m ≤ maxLen) :
    Calls Try.prog 19 #[.slice A n c, .slice A' m c', .int .i64 lost] w fun e w' => e = .returned (.agg (cheC r d lost A A' n c m c').toArray) ∧ Below B w w' := by
  have HNB := Lib.hid hN
  have HNM := Lib.hid hn
  have HLL := Lib.hid (And.intro hr.1 hd.1)
  have hb := (Below.refl w.heap.size w).alloc (Nat.le_refl _) (.cells (plC 0 (.slice none 0 0)).toArray 25)
  have HW : Hid (Below B w (w.alloc (.cells (plC 0 (.slice none 0 0)).toArray 25))) := Lib.hid (by rw [HBE.out]; exact hb)
  have HP : Hid ((w.alloc (.cells (plC 0 (.slice none 0 0)).toArray 25)).heap[B]? = some (.cells (plC 0 (.slice none 0 0)).toArray 25 (0, 0))) := Lib.hid (by rw [HBE.out]; exact heap_alloc_new w _)
  have HR := Lib.hid (hr.below (HW.out.mono HNB.out.1))
  have HDD := Lib.hid (hd.below (HW.out.mono HNB.out.2))
  clear hr hd hN hn hb
  go_enter Try.func19, Try.ntmps19
  go_upto_region 1 with (first | (refine wpList_valn rfl (exec_allocT zinfoPl rfl) ?_) | fail)
  rw [← HBE.out]
  generalize w.alloc (.cells (plC 0 (.slice none 0 0)).toArray 25) = w1 at *
  go_upto_region 1 with fail
  by_cases h0 : d.length < r.length
  · have T0 : Hid (decide ((n : Int) > (m : Int)) = true) := Lib.hid (decide_eq_true (by have := HLL.out.1; have := HLL.out.2; omega))
    have HG := Lib.hid (decide_eq_true h0)
    clear h0
    by_cases h1 : lost ∈ d
    · have T1 := Lib.hid (decide_eq_true h1)
      clear h1
      by_cases h2 : lost ∈ r
      · have T2 := Lib.hid (decide_eq_true h2)
        have HCB : Hid (cheB r d lost = false) := Lib.hid (by unfold cheB; rw [HG.out, T1.out, T2.out]; rfl)
        clear h2
        refine wp_region_lit ?_
        refine wpList_valn rfl (exec_mv rfl (ev rfl)) ?_
        simp only [Act.put, List.setIfInBounds_toArray, List.set_cons_succ, List.set_cons_zero]
        refine wpList_valn rfl (exec_lenQ Try.underlying23 rfl (ev rfl)) ?_
        simp only [Act.put, List.setIfInBounds_toArray, List.set_cons_succ, List.set_cons_zero]
        refine wpList_valn rfl (exec_mv rfl (ev rfl)) ?_
        simp only [Act.put, List.setIfInBounds_toArray, List.set_cons_succ, List.set_cons_zero]
        refine wpList_valn rfl (exec_lenQ Try.underlying23 rfl (ev rfl)) ?_
        simp only [Act.put, List.setIfInBounds_toArray, List.set_cons_succ, List.set_cons_zero]
        refine wpList_valn (v := .bool true) rfl (exec_gtr true rfl (ev rfl) (ev rfl) T0.out) ?_
        simp only [Act.put, List.setIfInBounds_toArray, List.set_cons_succ, List.set_cons_zero]
        refine wpList_valn (v := .bool true) rfl (exec_mv rfl (ev rfl)) ?_
        simp only [Act.put, List.setIfInBounds_toArray, List.set_cons_succ, List.set_cons_zero]
        refine wpList_val (wanted_of rfl rfl rfl rfl) (exec_mv rfl (ev rfl)) ?_
        simp only [Act.put, List.setIfInBounds_toArray, List.set_cons_succ, List.set_cons_zero]
        refine wpList_val (wanted_of rfl rfl rfl rfl) (exec_mv rfl (ev rfl)) ?_
        simp only [Act.put, List.setIfInBounds_toArray, List.set_cons_succ, List.set_cons_zero]
        refine wpList_call (wanted_of rfl rfl rfl rfl) (exec_cl Try.call29 rfl (evc (ev rfl) (evc (ev rfl) evn))) ?_
        refine (pcontI A' m c' N' d lost w1 HDD.out HNM.out.2).mono ?_
        rintro e w' ⟨rfl, rfl⟩
        rw [T1.out]
        refine ⟨_, rfl, ?_⟩
        simp only [Act.put, List.setIfInBounds_toArray, List.set_cons_succ, List.set_cons_zero]
        refine wpList_val (v := .bool false) (wanted_of rfl rfl rfl rfl) (exec_not true rfl (ev rfl)) ?_
        simp only [Act.put, List.setIfInBounds_toArray, List.set_cons_succ, List.set_cons_zero]
        refine wpList_valn (v := .bool false) rfl (exec_pt rfl (ev rfl) (ev rfl)) ?_
        simp only [Act.put, List.setIfInBounds_toArray, List.set_cons_succ, List.set_cons_zero]
        refine wpList_valn (v := .bool false) rfl (exec_as rfl (ev rfl)) ?_
        simp only [Act.put, List.setIfInBounds_toArray, List.set_cons_succ, List.set_cons_zero]
        refine wpList_nil ?_
        go_upto_region 2 with fail
        refine wp_region_lit ?_
        refine wpList_valn (v := .bool false) rfl (exec_mv rfl (ev rfl)) ?_
        simp only [Act.put, List.setIfInBounds_toArray, List.set_cons_succ, List.set_cons_zero]
        refine wpList_valn (v := .bool false) rfl (exec_mv rfl (ev rfl)) ?_
        simp only [Act.put, List.setIfInBounds_toArray, List.set_cons_succ, List.set_cons_zero]
        refine wpList_val (wanted_of rfl rfl rfl rfl) (exec_mv rfl (ev rfl)) ?_
        simp only [Act.put, List.setIfInBounds_toArray, List.set_cons_succ, List.set_cons_zero]
        refine wpList_val (wanted_of rfl rfl rfl rfl) (exec_mv rfl (ev rfl)) ?_
        simp only [Act.put, List.setIfInBounds_toArray, List.set_cons_succ, List.set_cons_zero]
        refine wpList_call (wanted_of rfl rfl rfl rfl) (exec_cl Try.call29 rfl (evc (ev rfl) (evc (ev rfl) evn))) ?_
        refine (pcontI A n c N r lost w1 HR.out HNM.out.1).mono ?_
        rintro e w' ⟨rfl, rfl⟩
        rw [T2.out]
        refine ⟨_, rfl, ?_⟩
        simp only [Act.put, List.setIfInBounds_toArray, List.set_cons_succ, List.set_cons_zero]
        refine wpList_valn (v := .bool true) rfl (exec_pf rfl (ev rfl) (ev rfl)) ?_
        simp only [Act.put, List.setIfInBounds_toArray, List.set_cons_succ, List.set_cons_zero]
        refine wpList_nil ?_
        go_upto_region 3 with fail
        refine wp_region_lit ?_
        refine wpList_valn rfl (exec_mv rfl (ev rfl)) ?_
        simp only [Act.put, List.setIfInBounds_toArray, List.set_cons_succ, List.set_cons_zero]
        refine wpList_valn rfl (exec_bldP2 rfl evk (ev rfl)) ?_
        simp only [Act.put, List.setIfInBounds_toArray, List.set_cons_succ, List.set_cons_zero]
        refine wpList_nuln rfl (exec_putPl A' m c' rfl (ev rfl) (ev rfl) (there_at (o := 0) (n := 2) HP.out (Nat.le_refl _))) ?_
        simp only [Act.put, List.setIfInBounds_toArray, List.set_cons_succ, List.set_cons_zero]
        refine wpList_nil ?_
        go_wp2_with fail
        (try simp only [Exit.inBlock, Exit.then])
        have HE : Hid (cheC r d lost A A' n c m c' = plC 4 (.slice A' m c')) := Lib.hid (if_neg (by rw [HCB.out]; decide))
        refine bodyPost_ret (res_rng (cs := plC 4 (.slice A' m c')) rfl _ _ B rfl (World.rangeAt_setCells_same _ _ _ _ (there_at (o := 0) (n := 2) HP.out (Nat.le_refl _))) Try.underlying25 rfl (by kernel_rfl)) rfl ⟨by rw [HE.out], below_setCells (b := B) (o := 0) HW.out (Nat.le_refl _) _⟩
      have T2 := Lib.hid (decide_eq_false h2)
      have HCB : Hid (cheB r d lost = true) := Lib.hid (by unfold cheB; rw [HG.out, T1.out, T2.out]; rfl)
      clear h2
      refine wp_region_lit ?_
      refine wpList_valn rfl (exec_mv rfl (ev rfl)) ?_
      simp only [Act.put, List.setIfInBounds_toArray, List.set_cons_succ, List.set_cons_zero]
      refine wpList_valn rfl (exec_lenQ Try.underlying23 rfl (ev rfl)) ?_
      simp only [Act.put, List.setIfInBounds_toArray, List.set_cons_succ, List.set_cons_zero]
      refine wpList_valn rfl (exec_mv rfl (ev rfl)) ?_
      simp only [Act.put, List.setIfInBounds_toArray, List.set_cons_succ, List.set_cons_zero]
      refine wpList_valn rfl (exec_lenQ Try.underlying23 rfl (ev rfl)) ?_
      simp only [Act.put, List.setIfInBounds_toArray, List.set_cons_succ, List.set_cons_zero]
      refine wpList_valn (v := .bool true) rfl (exec_gtr true rfl (ev rfl) (ev rfl) T0.out) ?_
      simp only [Act.put, List.setIfInBounds_toArray, List.set_cons_succ, List.set_cons_zero]
      refine wpList_valn (v := .bool true) rfl (exec_mv rfl (ev rfl)) ?_
      simp only [Act.put, List.setIfInBounds_toArray, List.set_cons_succ, List.set_cons_zero]
      refine wpList_val (wanted_of rfl rfl rfl rfl) (exec_mv rfl (ev rfl)) ?_
      simp only [Act.put, List.setIfInBounds_toArray, List.set_cons_succ, List.set_cons_zero]
      refine wpList_val (wanted_of rfl rfl rfl rfl) (exec_mv rfl (ev rfl)) ?_
      simp only [Act.put, List.setIfInBounds_toArray, List.set_cons_succ, List.set_cons_zero]
      refine wpList_call (wanted_of rfl rfl rfl rfl) (exec_cl Try.call29 rfl (evc (ev rfl) (evc (ev rfl) evn))) ?_
      refine (pcontI A' m c' N' d lost w1 HDD.out HNM.out.2).mono ?_
      rintro e w' ⟨rfl, rfl⟩
      rw [T1.out]
      refine ⟨_, rfl, ?_⟩
      simp only [Act.put, List.setIfInBounds_toArray, List.set_cons_succ, List.set_cons_zero]
      refine wpList_val (v := .bool false) (wanted_of rfl rfl rfl rfl) (exec_not true rfl (ev rfl)) ?_
      simp only [Act.put, List.setIfInBounds_toArray, List.set_cons_succ, List.set_cons_zero]
      refine wpList_valn (v := .bool false) rfl (exec_pt rfl (ev rfl) (ev rfl)) ?_
      simp only [Act.put, List.setIfInBounds_toArray, List.set_cons_succ, List.set_cons_zero]
      refine wpList_valn (v := .bool false) rfl (exec_as rfl (ev rfl)) ?_
      simp only [Act.put, List.setIfInBounds_toArray, List.set_cons_succ, List.set_cons_zero]
      refine wpList_nil ?_
      go_upto_region 2 with fail
      refine wp_region_lit ?_
      refine wpList_valn (v := .bool false) rfl (exec_mv rfl (ev rfl)) ?_
      simp only [Act.put, List.setIfInBounds_toArray, List.set_cons_succ, List.set_cons_zero]
      refine wpList_valn (v := .bool false) rfl (exec_mv rfl (ev rfl)) ?_
      simp only [Act.put, List.setIfInBounds_toArray, List.set_cons_succ, List.set_cons_zero]
      refine wpList_val (wanted_of rfl rfl rfl rfl) (exec_mv rfl (ev rfl)) ?_
      simp only [Act.put, List.setIfInBounds_toArray, List.set_cons_succ, List.set_cons_zero]
      refine wpList_val (wanted_of rfl rfl rfl rfl) (exec_mv rfl (ev rfl)) ?_
      simp only [Act.put, List.setIfInBounds_toArray, List.set_cons_succ, List.set_cons_zero]
      refine wpList_call (wanted_of rfl rfl rfl rfl) (exec_cl Try.call29 rfl (evc (ev rfl) (evc (ev rfl) evn))) ?_
      refine (pcontI A n c N r lost w1 HR.out HNM.out.1).mono ?_
      rintro e w' ⟨rfl, rfl⟩
      rw [T2.out]
      refine ⟨_, rfl, ?_⟩
      simp only [Act.put, List.setIfInBounds_toArray, List.set_cons_succ, List.set_cons_zero]
      refine wpList_valn (v := .bool false) rfl (exec_pf rfl (ev rfl) (ev rfl)) ?_
      simp only [Act.put, List.setIfInBounds_toArray, List.set_cons_succ, List.set_cons_zero]
      refine wpList_nil ?_
      go_upto_region 4 with fail
      refine wp_region_lit ?_
      refine wpList_valn rfl (exec_mv rfl (ev rfl)) ?_
      simp only [Act.put, List.setIfInBounds_toArray, List.set_cons_succ, List.set_cons_zero]
      refine wpList_valn rfl (exec_bldP2 rfl evk (ev rfl)) ?_
      simp only [Act.put, List.setIfInBounds_toArray, List.set_cons_succ, List.set_cons_zero]
      refine wpList_nuln rfl (exec_putPl A n c rfl (ev rfl) (ev rfl) (there_at (o := 0) (n := 2) HP.out (Nat.le_refl _))) ?_
      simp only [Act.put, List.setIfInBounds_toArray, List.set_cons_succ, List.set_cons_zero]
      refine wpList_nil ?_
      go_wp2_with fail
      (try simp only [Exit.inBlock, Exit.then])
      have HE : Hid (cheC r d lost A A' n c m c' = plC 3 (.slice A n c)) := Lib.hid (if_pos (by rw [HCB.out]))
      refine bodyPost_ret (res_rng (cs := plC 3 (.slice A n c)) rfl _ _ B rfl (World.rangeAt_setCells_same _ _ _ _ (there_at (o := 0) (n := 2) HP.out (Nat.le_refl _))) Try.underlying25 rfl (by kernel_rfl)) rfl ⟨by rw [HE.out], below_setCells (b := B) (o := 0) HW.out (Nat.le_refl _) _⟩
    have T1 := Lib.hid (decide_eq_false h1)
    have HCB : Hid (cheB r d lost = false) := Lib.hid (by unfold cheB; rw [HG.out, T1.out]; rfl)
    clear h1
    refine wp_region_lit ?_
    refine wpList_valn rfl (exec_mv rfl (ev rfl)) ?_
    simp only [Act.put, List.setIfInBounds_toArray, List.set_cons_succ, List.set_cons_zero]
    refine wpList_valn rfl (exec_lenQ Try.underlying23 rfl (ev rfl)) ?_
    simp only [Act.put, List.setIfInBounds_toArray, List.set_cons_succ, List.set_cons_zero]
    refine wpList_valn rfl (exec_mv rfl (ev rfl)) ?_
    simp only [Act.put, List.setIfInBounds_toArray, List.set_cons_succ, List.set_cons_zero]
    refine wpList_valn rfl (exec_lenQ Try.underlying23 rfl (ev rfl)) ?_
    simp only [Act.put, List.setIfInBounds_toArray, List.set_cons_succ, List.set_cons_zero]
    refine wpList_valn (v := .bool true) rfl (exec_gtr true rfl (ev rfl) (ev rfl) T0.out) ?_
    simp only [Act.put, List.setIfInBounds_toArray, List.set_cons_succ, List.set_cons_zero]
    refine wpList_valn (v := .bool true) rfl (exec_mv rfl (ev rfl)) ?_
    simp only [Act.put, List.setIfInBounds_toArray, List.set_cons_succ, List.set_cons_zero]
    refine wpList_val (wanted_of rfl rfl rfl rfl) (exec_mv rfl (ev rfl)) ?_
    simp only [Act.put, List.setIfInBounds_toArray, List.set_cons_succ, List.set_cons_zero]
    refine wpList_val (wanted_of rfl rfl rfl rfl) (exec_mv rfl (ev rfl)) ?_
    simp only [Act.put, List.setIfInBounds_toArray, List.set_cons_succ, List.set_cons_zero]
    refine wpList_call (wanted_of rfl rfl rfl rfl) (exec_cl Try.call29 rfl (evc (ev rfl) (evc (ev rfl) evn))) ?_
    refine (pcontI A' m c' N' d lost w1 HDD.out HNM.out.2).mono ?_
    rintro e w' ⟨rfl, rfl⟩
    rw [T1.out]
    refine ⟨_, rfl, ?_⟩
    simp only [Act.put, List.setIfInBounds_toArray, List.set_cons_succ, List.set_cons_zero]
    refine wpList_val (v := .bool true) (wanted_of rfl rfl rfl rfl) (exec_not false rfl (ev rfl)) ?_
    simp only [Act.put, List.setIfInBounds_toArray, List.set_cons_succ, List.set_cons_zero]
    refine wpList_valn (v := .bool true) rfl (exec_pt rfl (ev rfl) (ev rfl)) ?_
    simp only [Act.put, List.setIfInBounds_toArray, List.set_cons_succ, List.set_cons_zero]
    refine wpList_valn (v := .bool true) rfl (exec_as rfl (ev rfl)) ?_
    simp only [Act.put, List.setIfInBounds_toArray, List.set_cons_succ, List.set_cons_zero]
    refine wpList_nil ?_
    go_upto_region 2 with fail
    refine wp_region_lit ?_
    refine wpList_valn (v := .bool true) rfl (exec_mv rfl (ev rfl)) ?_
    simp only [Act.put, List.setIfInBounds_toArray, List.set_cons_succ, List.set_cons_zero]
    refine wpList_skips 3 (v := .bool true) rfl (exec_mv rfl (ev rfl)) (by kernel_rfl) ?_
    simp only [skipAct, List.take_succ_cons, List.take_zero, List.drop_succ_cons, List.drop_zero, Act.put, List.setIfInBounds_toArray, List.set_cons_succ, List.set_cons_zero]
    refine wpList_valn (v := .bool true) rfl (exec_pt rfl (ev rfl) evk) ?_
    simp only [Act.put, List.setIfInBounds_toArray, List.set_cons_succ, List.set_cons_zero]
    refine wpList_nil ?_
    go_upto_region 3 with fail
    refine wp_region_lit ?_
    refine wpList_valn rfl (exec_mv rfl (ev rfl)) ?_
    simp only [Act.put, List.setIfInBounds_toArray, List.set_cons_succ, List.set_cons_zero]
    refine wpList_valn rfl (exec_bldP2 rfl evk (ev rfl)) ?_
    simp only [Act.put, List.setIfInBounds_toArray, List.set_cons_succ, List.set_cons_zero]
    refine wpList_nuln rfl (exec_putPl A' m c' rfl (ev rfl) (ev rfl) (there_at (o := 0) (n := 2) HP.out (Nat.le_refl _))) ?_
    simp only [Act.put, List.setIfInBounds_toArray, List.set_cons_succ, List.set_cons_zero]
    refine wpList_nil ?_
    go_wp2_with fail
    (try simp only [Exit.inBlock, Exit.then])
    have HE : Hid (cheC r d lost A A' n c m c' = plC 4 (.slice A' m c')) := Lib.hid (if_neg (by rw [HCB.out]; decide))
    refine bodyPost_ret (res_rng (cs := plC 4 (.slice A' m c')) rfl _ _ B rfl (World.rangeAt_setCells_same _ _ _ _ (there_at (o := 0) (n := 2) HP.out (Nat.le_refl _))) Try.underlying25 rfl (by kernel_rfl)) rfl ⟨by rw [HE.out], below_setCells (b := B) (o := 0) HW.out (Nat.le_refl _) _⟩
  have T0 : Hid (decide ((n : Int) > (m : Int)) = false) := Lib.hid (decide_eq_false (by have := HLL.out.1; have := HLL.out.2; omega))
  have HG := Lib.hid (decide_eq_false h0)
  clear h0
  by_cases h2 : lost ∈ r
  · have T2 := Lib.hid (decide_eq_true h2)
    have HCB : Hid (cheB r d lost = false) := Lib.hid (by unfold cheB; rw [HG.out, T2.out]; rfl)
    clear h2
    refine wp_region_lit ?_
    refine wpList_valn rfl (exec_mv rfl (ev rfl)) ?_
    simp only [Act.put, List.setIfInBounds_toArray, List.set_cons_succ, List.set_cons_zero]
    refine wpList_valn rfl (exec_lenQ Try.underlying23 rfl (ev rfl)) ?_
    simp only [Act.put, List.setIfInBounds_toArray, List.set_cons_succ, List.set_cons_zero]
    refine wpList_valn rfl (exec_mv rfl (ev rfl)) ?_
    simp only [Act.put, List.setIfInBounds_toArray, List.set_cons_succ, List.set_cons_zero]
    refine wpList_valn rfl (exec_lenQ Try.underlying23 rfl (ev rfl)) ?_
    simp only [Act.put, List.setIfInBounds_toArray, List.set_cons_succ, List.set_cons_zero]
    refine wpList_valn (v := .bool false) rfl (exec_gtr false rfl (ev rfl) (ev rfl) T0.out) ?_
    simp only [Act.put, List.setIfInBounds_toArray, List.set_cons_succ, List.set_cons_zero]
    refine wpList_skips 4 (v := .bool false) rfl (exec_mv rfl (ev rfl)) (by kernel_rfl) ?_
    simp only [skipAct, List.take_succ_cons, List.take_zero, List.drop_succ_cons, List.drop_zero, Act.put, List.setIfInBounds_toArray, List.set_cons_succ, List.set_cons_zero]
    refine wpList_valn (v := .bool false) rfl (exec_pf rfl (ev rfl) evk) ?_
    simp only [Act.put, List.setIfInBounds_toArray, List.set_cons_succ, List.set_cons_zero]
    refine wpList_valn (v := .bool false) rfl (exec_as rfl (ev rfl)) ?_
    simp only [Act.put, List.setIfInBounds_toArray, List.set_cons_succ, List.set_cons_zero]
    refine wpList_nil ?_
    go_upto_region 2 with fail
    refine wp_region_lit ?_
    refine wpList_valn (v := .bool false) rfl (exec_mv rfl (ev rfl)) ?_
    simp only [Act.put, List.setIfInBounds_toArray, List.set_cons_succ, List.set_cons_zero]
    refine wpList_valn (v := .bool false) rfl (exec_mv rfl (ev rfl)) ?_
    simp only [Act.put, List.setIfInBounds_toArray, List.set_cons_succ, List.set_cons_zero]
    refine wpList_val (wanted_of rfl rfl rfl rfl) (exec_mv rfl (ev rfl)) ?_
    simp only [Act.put, List.setIfInBounds_toArray, List.set_cons_succ, List.set_cons_zero]
    refine wpList_val (wanted_of rfl rfl rfl rfl) (exec_mv rfl (ev rfl)) ?_
    simp only [Act.put, List.setIfInBounds_toArray, List.set_cons_succ, List.set_cons_zero]
    refine wpList_call (wanted_of rfl rfl rfl rfl) (exec_cl Try.call29 rfl (evc (ev rfl) (evc (ev rfl) evn))) ?_
    refine (pcontI A n c N r lost w1 HR.out HNM.out.1).mono ?_
    rintro e w' ⟨rfl, rfl⟩
    rw [T2.out]
    refine ⟨_, rfl, ?_⟩
    simp only [Act.put, List.setIfInBounds_toArray, List.set_cons_succ, List.set_cons_zero]
    refine wpList_valn (v := .bool true) rfl (exec_pf rfl (ev rfl) (ev rfl)) ?_
    simp only [Act.put, List.setIfInBounds_toArray, List.set_cons_succ, List.set_cons_zero]
    refine wpList_nil ?_
    go_upto_region 3 with fail
    refine wp_region_lit ?_
    refine wpList_valn rfl (exec_mv rfl (ev rfl)) ?_
    simp only [Act.put, List.setIfInBounds_toArray, List.set_cons_succ, List.set_cons_zero]
    refine wpList_valn rfl (exec_bldP2 rfl evk (ev rfl)) ?_
    simp only [Act.put, List.setIfInBounds_toArray, List.set_cons_succ, List.set_cons_zero]
    refine wpList_nuln rfl (exec_putPl A' m c' rfl (ev rfl) (ev rfl) (there_at (o := 0) (n := 2) HP.out (Nat.le_refl _))) ?_
    simp only [Act.put, List.setIfInBounds_toArray, List.set_cons_succ, List.set_cons_zero]
    refine wpList_nil ?_
    go_wp2_with fail
    (try simp only [Exit.inBlock, Exit.then])
    have HE : Hid (cheC r d lost A A' n c m c' = plC 4 (.slice A' m c')) := Lib.hid (if_neg (by rw [HCB.out]; decide))
    refine bodyPost_ret (res_rng (cs := plC 4 (.slice A' m c')) rfl _ _ B rfl (World.rangeAt_setCells_same _ _ _ _ (there_at (o := 0) (n := 2) HP.out (Nat.le_refl _))) Try.underlying25 rfl (by kernel_rfl)) rfl ⟨by rw [HE.out], below_setCells (b := B) (o := 0) HW.out (Nat.le_refl _) _⟩
  have T2 := Lib.hid (decide_eq_false h2)
  have HCB : Hid (cheB r d lost = true) := Lib.hid (by unfold cheB; rw [HG.out, T2.out]; rfl)
  clear h2
  refine wp_region_lit ?_
  refine wpList_valn rfl (exec_mv rfl (ev rfl)) ?_
  simp only [Act.put, List.setIfInBounds_toArray, List.set_cons_succ, List.set_cons_zero]
  refine wpList_valn rfl (exec_lenQ Try.underlying23 rfl (ev rfl)) ?_
  simp only [Act.put, List.setIfInBounds_toArray, List.set_cons_succ, List.set_cons_zero]
  refine wpList_valn rfl (exec_mv rfl (ev rfl)) ?_
  simp only [Act.put, List.setIfInBounds_toArray, List.set_cons_succ, List.set_cons_zero]
  refine wpList_valn rfl (exec_lenQ Try.underlying23 rfl (ev rfl)) ?_
  simp only [Act.put, List.setIfInBounds_toArray, List.set_cons_succ, List.set_cons_zero]
  refine wpList_valn (v := .bool false) rfl (exec_gtr false rfl (ev rfl) (ev rfl) T0.out) ?_
  simp only [Act.put, List.setIfInBounds_toArray, List.set_cons_succ, List.set_cons_zero]
  refine wpList_skips 4 (v := .bool false) rfl (exec_mv rfl (ev rfl)) (by kernel_rfl) ?_
  simp only [skipAct, List.take_succ_cons, List.take_zero, List.drop_succ_cons, List.drop_zero, Act.put, List.setIfInBounds_toArray, List.set_cons_succ, List.set_cons_zero]
  refine wpList_valn (v := .bool false) rfl (exec_pf rfl (ev rfl) evk) ?_
  simp only [Act.put, List.setIfInBounds_toArray, List.set_cons_succ, List.set_cons_zero]
  refine wpList_valn (v := .bool false) rfl (exec_as rfl (ev rfl)) ?_
  simp only [Act.put, List.setIfInBounds_toArray, List.set_cons_succ, List.set_cons_zero]
  refine wpList_nil ?_
  go_upto_region 2 with fail
  refine wp_region_lit ?_
  refine wpList_valn (v := .bool false) rfl (exec_mv rfl (ev rfl)) ?_
  simp only [Act.put, List.setIfInBounds_toArray, List.set_cons_succ, List.set_cons_zero]
  refine wpList_valn (v := .bool false) rfl (exec_mv rfl (ev rfl)) ?_
  simp only [Act.put, List.setIfInBounds_toArray, List.set_cons_succ, List.set_cons_zero]
  refine wpList_val (wanted_of rfl rfl rfl rfl) (exec_mv rfl (ev rfl)) ?_
  simp only [Act.put, List.setIfInBounds_toArray, List.set_cons_succ, List.set_cons_zero]
  refine wpList_val (wanted_of rfl rfl rfl rfl) (exec_mv rfl (ev rfl)) ?_
  simp only [Act.put, List.setIfInBounds_toArray, List.set_cons_succ, List.set_cons_zero]
  refine wpList_call (wanted_of rfl rfl rfl rfl) (exec_cl Try.call29 rfl (evc (ev rfl) (evc (ev rfl) evn))) ?_
  refine (pcontI A n c N r lost w1 HR.out HNM.out.1).mono ?_
  rintro e w' ⟨rfl, rfl⟩
  rw [T2.out]
  refine ⟨_, rfl, ?_⟩
  simp only [Act.put, List.setIfInBounds_toArray, List.set_cons_succ, List.set_cons_zero]
  refine wpList_valn (v := .bool false) rfl (exec_pf rfl (ev rfl) (ev rfl)) ?_
  simp only [Act.put, List.setIfInBounds_toArray, List.set_cons_succ, List.set_cons_zero]
  refine wpList_nil ?_
  go_upto_region 4 with fail
  refine wp_region_lit ?_
  refine wpList_valn rfl (exec_mv rfl (ev rfl)) ?_
  simp only [Act.put, List.setIfInBounds_toArray, List.set_cons_succ, List.set_cons_zero]
  refine wpList_valn rfl (exec_bldP2 rfl evk (ev rfl)) ?_
  simp only [Act.put, List.setIfInBounds_toArray, List.set_cons_succ, List.set_cons_zero]
  refine wpList_nuln rfl (exec_putPl A n c rfl (ev rfl) (ev rfl) (there_at (o := 0) (n := 2) HP.out (Nat.le_refl _))) ?_
  simp only [Act.put, List.setIfInBounds_toArray, List.set_cons_succ, List.set_cons_zero]
  refine wpList_nil ?_
  go_wp2_with fail
  (try simp only [Exit.inBlock, Exit.then])
  have HE : Hid (cheC r d lost A A' n c m c' = plC 3 (.slice A n c)) := Lib.hid (if_pos (by rw [HCB.out]))
  refine bodyPost_ret (res_rng (cs := plC 3 (.slice A n c)) rfl _ _ B rfl (World.rangeAt_setCells_same _ _ _ _ (there_at (o := 0) (n := 2) HP.out (Nat.le_refl _))) Try.underlying25 rfl (by kernel_rfl)) rfl ⟨by rw [HE.out], below_setCells (b := B) (o := 0) HW.out (Nat.le_refl _) _⟩
end Go.Proofs.Ytplanbjjfaihbaa
