/-
  The document's plans: how many are written, what a way reads.
-/
import Derived.Test.YtplanbjjfaihbaaPnM
import Derived.Test.YtplanbjjfaihbaaEltOps
import Derived.Test.YtplanbjjfaihbaaTypA
import Derived.Test.YtplanbjjfaihbaaSkip
import Derived.Test.YtplanbjjfaihbaaPre
import Derived.Deep.DeepCutAuto
namespace Go.Proofs.Ytplanbjjfaihbaa
open Go.RowKit
set_option linter.unusedVariables false
set_option linter.unusedSimpArgs false
set_option maxRecDepth 100000

theorem i64k {a : Int} (h : -9223372036854775808 ≤ a ∧ a ≤ 9223372036854775807) : IntKind.i64.wrap a = a := IntWalk.i64_in _ ⟨by omega, by omega⟩
set_option maxHeartbeats 1000000 in
theorem rcount (A : Option Addr) (n c N : Nat) (l : List Bool) (w : World) (hl : RdE BoE w N A n l) (hn : n ≤ maxLen) : Calls Try.prog 21 #[.slice A n c] w fun e w' => e = .returned (.int .i64 (cntN l n : Nat)) ∧ w = w' := by
  have HL := Lib.hid hl
  have HN : Hid (n ≤ 9223372036854775807) := Lib.hid (by unfold maxLen at hn; omega)
  clear hl hn
  go_enter Try.func21, Try.ntmps21
  go_wp2_with fail
  go_loopw [3, 4] (fun m v wr => ∃ i : Nat, v = .int .i64 i ∧ i ≤ n ∧ m = .int .i64 (cntN l i : Nat) ∧ w = wr) (fun _ v _ => n - (intOf v).toNat)
  case atStart => exact ⟨0, by go_num, by omega, rfl, rfl⟩
  case round =>
    obtain ⟨i, rfl, hi, rfl, rfl⟩ := hrel
    by_cases hlt : i < n
    · have HI := Lib.hid hlt
      have HT : Hid (decide ((i : Int) < (n : Int)) = true) := Lib.hid (decide_eq_true (by omega))
      obtain ⟨b, off, rfl, hb, hc⟩ := HL.out.bo hlt
      obtain ⟨x, hx⟩ : ∃ x, l.getD i false = x := ⟨_, rfl⟩
      rw [hx] at hc
      have HX := Lib.hid hx
      have HC := Lib.hid hc
      have HA : Hid (IntKind.i64.wrap ((i : Int) + 1) = ((i + 1 : Nat) : Int)) := Lib.hid (by have := HN.out; rw [i64k ⟨by omega, by omega⟩]; omega)
      have HB : Hid (IntKind.i64.wrap ((cntN l i : Int) + 1) = ((cntN l i + 1 : Nat) : Int)) := Lib.hid (by have := HN.out; have := cntN_le l i; rw [i64k ⟨by omega, by omega⟩]; omega)
      clear hb hc hx hlt hi
      go_upto_region 3 with fail
      refine wp_region_lit ?_
      refine wpList_valn rfl (exec_mv rfl (ev rfl)) ?_
      simp only [Act.put, List.setIfInBounds_toArray, List.set_cons_succ, List.set_cons_zero]
      refine wpList_valn rfl (exec_mv rfl (ev rfl)) ?_
      simp only [Act.put, List.setIfInBounds_toArray, List.set_cons_succ, List.set_cons_zero]
      refine wpList_valn rfl (exec_lenQ Try.underlying22 rfl (ev rfl)) ?_
      simp only [Act.put, List.setIfInBounds_toArray, List.set_cons_succ, List.set_cons_zero]
      refine wpList_valn (v := .bool true) rfl (exec_lss true rfl (ev rfl) (ev rfl) HT.out) ?_
      simp only [Act.put, List.setIfInBounds_toArray, List.set_cons_succ, List.set_cons_zero]
      refine wpList_nil ?_
      go_upto_region 5 with fail
      refine wp_region_lit ?_
      refine wpList_valn rfl (exec_mv rfl (ev rfl)) ?_
      simp only [Act.put, List.setIfInBounds_toArray, List.set_cons_succ, List.set_cons_zero]
      refine wpList_valn rfl (exec_mv rfl (ev rfl)) ?_
      simp only [Act.put, List.setIfInBounds_toArray, List.set_cons_succ, List.set_cons_zero]
      refine wpList_valn rfl (exec_indexE (E := BoE) rfl (ev rfl) (ev rfl) HI.out) ?_
      simp only [Act.put, List.setIfInBounds_toArray, List.set_cons_succ, List.set_cons_zero]
      refine wpList_valn rfl (exec_ld rfl (ev rfl) (ldBoE (by show w.cell? ⟨b, off + i * 1, none⟩ = _; rw [Nat.mul_one]; exact HC.out))) ?_
      simp only [Act.put, List.setIfInBounds_toArray, List.set_cons_succ, List.set_cons_zero]
      refine wpList_nil ?_
      cases x
      · go_upto_region 4 with fail
        refine wp_region_lit ?_
        refine wpList_valn rfl (exec_mv rfl (ev rfl)) ?_
        simp only [Act.put, List.setIfInBounds_toArray, List.set_cons_succ, List.set_cons_zero]
        refine wpList_valn rfl (exec_add rfl (ev rfl) evk HA.out) ?_
        simp only [Act.put, List.setIfInBounds_toArray, List.set_cons_succ, List.set_cons_zero]
        refine wpList_valn rfl (exec_as rfl (ev rfl)) ?_
        simp only [Act.put, List.setIfInBounds_toArray, List.set_cons_succ, List.set_cons_zero]
        refine wpList_nil ?_
        go_wp2_with fail
        go_roundw
        case rel => exact ⟨i + 1, by go_num, HI.out, by rw [cntN_f HX.out], by first | rfl | trivial⟩
        case measure => have := HI.out; simp [intOf]; omega
      · go_upto_region 6 with fail
        refine wp_region_lit ?_
        refine wpList_valn rfl (exec_mv rfl (ev rfl)) ?_
        simp only [Act.put, List.setIfInBounds_toArray, List.set_cons_succ, List.set_cons_zero]
        refine wpList_valn rfl (exec_add rfl (ev rfl) evk HB.out) ?_
        simp only [Act.put, List.setIfInBounds_toArray, List.set_cons_succ, List.set_cons_zero]
        refine wpList_valn rfl (exec_as rfl (ev rfl)) ?_
        simp only [Act.put, List.setIfInBounds_toArray, List.set_cons_succ, List.set_cons_zero]
        refine wpList_nil ?_
        go_upto_region 4 with fail
        refine wp_region_lit ?_
        refine wpList_valn rfl (exec_mv rfl (ev rfl)) ?_
        simp only [Act.put, List.setIfInBounds_toArray, List.set_cons_succ, List.set_cons_zero]
        refine wpList_valn rfl (exec_add rfl (ev rfl) evk HA.out) ?_
        simp only [Act.put, List.setIfInBounds_toArray, List.set_cons_succ, List.set_cons_zero]
        refine wpList_valn rfl (exec_as rfl (ev rfl)) ?_
        simp only [Act.put, List.setIfInBounds_toArray, List.set_cons_succ, List.set_cons_zero]
        refine wpList_nil ?_
        go_wp2_with fail
        go_roundw
        case rel => exact ⟨i + 1, by go_num, HI.out, by rw [cntN_t HX.out], by first | rfl | trivial⟩
        case measure => have := HI.out; simp [intOf]; omega
    have hin : i = n := by omega
    subst hin
    have HT : Hid (decide ((i : Int) < (i : Int)) = false) := Lib.hid (decide_eq_false (by omega))
    clear hlt hi
    go_upto_region 3 with fail
    refine wp_region_lit ?_
    refine wpList_valn rfl (exec_mv rfl (ev rfl)) ?_
    simp only [Act.put, List.setIfInBounds_toArray, List.set_cons_succ, List.set_cons_zero]
    refine wpList_valn rfl (exec_mv rfl (ev rfl)) ?_
    simp only [Act.put, List.setIfInBounds_toArray, List.set_cons_succ, List.set_cons_zero]
    refine wpList_valn rfl (exec_lenQ Try.underlying22 rfl (ev rfl)) ?_
    simp only [Act.put, List.setIfInBounds_toArray, List.set_cons_succ, List.set_cons_zero]
    refine wpList_valn (v := .bool false) rfl (exec_lss false rfl (ev rfl) (ev rfl) HT.out) ?_
    simp only [Act.put, List.setIfInBounds_toArray, List.set_cons_succ, List.set_cons_zero]
    refine wpList_nil ?_
    go_wp2_with fail
    go_ret
    exact ⟨rfl, rfl⟩
theorem exec_appI {o : Oper} {a : Act} {w w' : World} {s x : Operand} {A : Option Addr} {m c : Nat} {v v' : Value} (ho : o.op = .call { callee := .builtin .append, args := #[s, x], argTypes := #[23, 23] }) (hs : a.eval s = v) (hx : a.eval x = .slice A m c)
    (hrun : (Builtin.append_ #[23, 23] o.type #[v, .slice A m c]).run Try.prog w = .ok v' w') : (execOp a.eval o).run Try.prog w = .ok (.value v') w' := by
  simp [execOp, ho, resolve, invoke, builtin, hs, hx, hrun, Result.andThen]
set_option maxHeartbeats 1600000 in
theorem rreads (A B' : Option Addr) (n c c' N N' : Nat) (l k : List Bool) (ob : Bool) (lost : Int) (B : Nat) (w : World) (HBE : Hid (B = w.heap.size)) (hl : RdE BoE w N A n l) (hk : RdE BoE w N' B' n k) (hN : N ≤ B ∧ N' ≤ B) (hn : n ≤ 15) :
    Calls Try.prog 22 #[.slice A n c, .slice B' n c', .bool ob, .int .i64 lost] w fun e w' => ∃ v, e = .returned (.tuple #[v, .bool (!hitB l k ob lost)]) ∧ MadeE IntE w' B v (redR l k ob lost) ∧ Below B w w' := by
  have HL := Lib.hid hl
  have HK := Lib.hid hk
  have HNB := Lib.hid hN
  have HN := Lib.hid hn
  have HLN := Lib.hid hl.1
  clear hl hk hN hn
  go_enter Try.func22, Try.ntmps22
  go_wp2_with fail
  go_loopw [10, 11] (fun v z wr => ∃ j : Nat, z = .int .i64 j ∧ j ≤ n ∧ MadeE IntE wr B v (redN l k ob j) ∧ lost ∉ redN l k ob j ∧ Below B w wr) (fun _ z _ => n - (intOf z).toNat)
  case atStart => exact ⟨0, by go_num, by omega, MadeE.nil _ _, (fun h => by cases h), Below.refl _ _⟩
  case round =>
    obtain ⟨j, rfl, hj, hm, hlo, hb⟩ := hrel
    have HM := Lib.hid hm
    have HLO := Lib.hid hlo
    have HW := Lib.hid hb
    have HBS : Hid (B ≤ wr.heap.size) := Lib.hid (by have := hb.size; rw [HBE.out]; exact this)
    by_cases hlt : j < n
    · have HI := Lib.hid hlt
      have HT : Hid (decide ((j : Int) < (n : Int)) = true) := Lib.hid (decide_eq_true (by omega))
      obtain ⟨ba, oa, rfl, _, ha⟩ := (HL.out.below (hb.mono HNB.out.1)).bo hlt
      obtain ⟨bk, ok, rfl, _, hk⟩ := (HK.out.below (hb.mono HNB.out.2)).bo hlt
      obtain ⟨x, hx⟩ : ∃ x, l.getD j false = x := ⟨_, rfl⟩
      obtain ⟨y, hy⟩ : ∃ y, k.getD j false = y := ⟨_, rfl⟩
      rw [hx] at ha
      rw [hy] at hk
      have HXY := Lib.hid (And.intro hx hy)
      have HA : Hid (wr.cell? ⟨ba, oa + j * BoE.n, none⟩ = some (.bool x)) := Lib.hid (by show wr.cell? ⟨ba, oa + j * 1, none⟩ = _; rw [Nat.mul_one]; exact ha)
      have HKC : Hid (wr.cell? ⟨bk, ok + j * BoE.n, none⟩ = some (.bool y)) := Lib.hid (by show wr.cell? ⟨bk, ok + j * 1, none⟩ = _; rw [Nat.mul_one]; exact hk)
      have HAJ : Hid (IntKind.i64.wrap ((j : Int) + 1) = ((j + 1 : Nat) : Int)) := Lib.hid (by have := HN.out; rw [i64k ⟨by omega, by omega⟩]; omega)
      clear hm hlo hb ha hk hx hy hlt hj
      go_upto_region 3 with fail
      refine wp_region_lit ?_
      refine wpList_valn rfl (exec_mv rfl (ev rfl)) ?_
      simp only [Act.put, List.setIfInBounds_toArray, List.set_cons_succ, List.set_cons_zero]
      refine wpList_valn rfl (exec_mv rfl (ev rfl)) ?_
      simp only [Act.put, List.setIfInBounds_toArray, List.set_cons_succ, List.set_cons_zero]
      refine wpList_valn rfl (exec_lenQ Try.underlying22 rfl (ev rfl)) ?_
      simp only [Act.put, List.setIfInBounds_toArray, List.set_cons_succ, List.set_cons_zero]
      refine wpList_valn (v := .bool true) rfl (exec_lss true rfl (ev rfl) (ev rfl) HT.out) ?_
      simp only [Act.put, List.setIfInBounds_toArray, List.set_cons_succ, List.set_cons_zero]
      refine wpList_nil ?_
      go_upto_region 5 with fail
      by_cases hc : (x == ob) = true
      rotate_left 1
      · have HC : Hid ((x == ob) = false) := Lib.hid (by simpa using hc)
        have HQ : Hid ((x == ob && !y) = false) := Lib.hid (by rw [HC.out]; rfl)
        clear hc
        refine wp_region_lit ?_
        refine wpList_valn rfl (exec_mv rfl (ev rfl)) ?_
        simp only [Act.put, List.setIfInBounds_toArray, List.set_cons_succ, List.set_cons_zero]
        refine wpList_valn rfl (exec_mv rfl (ev rfl)) ?_
        simp only [Act.put, List.setIfInBounds_toArray, List.set_cons_succ, List.set_cons_zero]
        refine wpList_valn rfl (exec_indexE (E := BoE) rfl (ev rfl) (ev rfl) HI.out) ?_
        simp only [Act.put, List.setIfInBounds_toArray, List.set_cons_succ, List.set_cons_zero]
        refine wpList_valn rfl (exec_ld rfl (ev rfl) (ldBoE HA.out)) ?_
        simp only [Act.put, List.setIfInBounds_toArray, List.set_cons_succ, List.set_cons_zero]
        refine wpList_valn rfl (exec_mv rfl (ev rfl)) ?_
        simp only [Act.put, List.setIfInBounds_toArray, List.set_cons_succ, List.set_cons_zero]
        refine wpList_valn (v := .bool false) rfl (exec_eqBool false rfl (ev rfl) (ev rfl) HC.out) ?_
        simp only [Act.put, List.setIfInBounds_toArray, List.set_cons_succ, List.set_cons_zero]
        refine wpList_skips 5 (v := .bool false) rfl (exec_mv rfl (ev rfl)) (by kernel_rfl) ?_
        simp only [skipAct, List.take_succ_cons, List.take_zero, List.drop_succ_cons, List.drop_zero, Act.put, List.setIfInBounds_toArray, List.set_cons_succ, List.set_cons_zero]
        refine wpList_valn (v := .bool false) rfl (exec_pf rfl (ev rfl) evk) ?_
        simp only [Act.put, List.setIfInBounds_toArray, List.set_cons_succ, List.set_cons_zero]
        refine wpList_nil ?_
        go_upto_region 4 with fail
        refine wp_region_lit ?_
        refine wpList_valn rfl (exec_mv rfl (ev rfl)) ?_
        simp only [Act.put, List.setIfInBounds_toArray, List.set_cons_succ, List.set_cons_zero]
        refine wpList_valn rfl (exec_add rfl (ev rfl) evk HAJ.out) ?_
        simp only [Act.put, List.setIfInBounds_toArray, List.set_cons_succ, List.set_cons_zero]
        refine wpList_valn rfl (exec_as rfl (ev rfl)) ?_
        simp only [Act.put, List.setIfInBounds_toArray, List.set_cons_succ, List.set_cons_zero]
        refine wpList_nil ?_
        go_wp2_with fail
        go_roundw
        case rel => exact ⟨j + 1, by go_num, HI.out, by rw [redN_f (by rw [HXY.out.1, HXY.out.2]; exact HQ.out)]; exact HM.out, by rw [redN_f (by rw [HXY.out.1, HXY.out.2]; exact HQ.out)]; exact HLO.out, HW.out⟩
        case measure => have := HI.out; simp [intOf]; omega
      have HC := Lib.hid hc
      clear hc
      by_cases hy : y = true
      · have HY := Lib.hid hy
        have HQ : Hid ((x == ob && !y) = false) := Lib.hid (by rw [HC.out, HY.out]; rfl)
        clear hy
        refine wp_region_lit ?_
        refine wpList_valn rfl (exec_mv rfl (ev rfl)) ?_
        simp only [Act.put, List.setIfInBounds_toArray, List.set_cons_succ, List.set_cons_zero]
        refine wpList_valn rfl (exec_mv rfl (ev rfl)) ?_
        simp only [Act.put, List.setIfInBounds_toArray, List.set_cons_succ, List.set_cons_zero]
        refine wpList_valn rfl (exec_indexE (E := BoE) rfl (ev rfl) (ev rfl) HI.out) ?_
        simp only [Act.put, List.setIfInBounds_toArray, List.set_cons_succ, List.set_cons_zero]
        refine wpList_valn rfl (exec_ld rfl (ev rfl) (ldBoE HA.out)) ?_
        simp only [Act.put, List.setIfInBounds_toArray, List.set_cons_succ, List.set_cons_zero]
        refine wpList_valn rfl (exec_mv rfl (ev rfl)) ?_
        simp only [Act.put, List.setIfInBounds_toArray, List.set_cons_succ, List.set_cons_zero]
        refine wpList_valn (v := .bool true) rfl (exec_eqBool true rfl (ev rfl) (ev rfl) HC.out) ?_
        simp only [Act.put, List.setIfInBounds_toArray, List.set_cons_succ, List.set_cons_zero]
        refine wpList_valn (v := .bool true) rfl (exec_mv rfl (ev rfl)) ?_
        simp only [Act.put, List.setIfInBounds_toArray, List.set_cons_succ, List.set_cons_zero]
        refine wpList_val (wanted_of rfl rfl rfl rfl) (exec_mv rfl (ev rfl)) ?_
        simp only [Act.put, List.setIfInBounds_toArray, List.set_cons_succ, List.set_cons_zero]
        refine wpList_val (wanted_of rfl rfl rfl rfl) (exec_mv rfl (ev rfl)) ?_
        simp only [Act.put, List.setIfInBounds_toArray, List.set_cons_succ, List.set_cons_zero]
        refine wpList_val (wanted_of rfl rfl rfl rfl) (exec_indexE (E := BoE) rfl (ev rfl) (ev rfl) HI.out) ?_
        simp only [Act.put, List.setIfInBounds_toArray, List.set_cons_succ, List.set_cons_zero]
        refine wpList_val (v := .bool true) (wanted_of rfl rfl rfl rfl) (exec_ld rfl (ev rfl) (ldBoE (by rw [HKC.out, HY.out]))) ?_
        simp only [Act.put, List.setIfInBounds_toArray, List.set_cons_succ, List.set_cons_zero]
        refine wpList_val (v := .bool false) (wanted_of rfl rfl rfl rfl) (exec_not true rfl (ev rfl)) ?_
        simp only [Act.put, List.setIfInBounds_toArray, List.set_cons_succ, List.set_cons_zero]
        refine wpList_valn (v := .bool false) rfl (exec_pt rfl (ev rfl) (ev rfl)) ?_
        simp only [Act.put, List.setIfInBounds_toArray, List.set_cons_succ, List.set_cons_zero]
        refine wpList_nil ?_
        go_upto_region 4 with fail
        refine wp_region_lit ?_
        refine wpList_valn rfl (exec_mv rfl (ev rfl)) ?_
        simp only [Act.put, List.setIfInBounds_toArray, List.set_cons_succ, List.set_cons_zero]
        refine wpList_valn rfl (exec_add rfl (ev rfl) evk HAJ.out) ?_
        simp only [Act.put, List.setIfInBounds_toArray, List.set_cons_succ, List.set_cons_zero]
        refine wpList_valn rfl (exec_as rfl (ev rfl)) ?_
        simp only [Act.put, List.setIfInBounds_toArray, List.set_cons_succ, List.set_cons_zero]
        refine wpList_nil ?_
        go_wp2_with fail
        go_roundw
        case rel => exact ⟨j + 1, by go_num, HI.out, by rw [redN_f (by rw [HXY.out.1, HXY.out.2]; exact HQ.out)]; exact HM.out, by rw [redN_f (by rw [HXY.out.1, HXY.out.2]; exact HQ.out)]; exact HLO.out, HW.out⟩
        case measure => have := HI.out; simp [intOf]; omega
      have HY : Hid (y = false) := Lib.hid (by simpa using hy)
      have HQ : Hid ((x == ob && !y) = true) := Lib.hid (by rw [HC.out, HY.out]; rfl)
      clear hy
      refine wp_region_lit ?_
      refine wpList_valn rfl (exec_mv rfl (ev rfl)) ?_
      simp only [Act.put, List.setIfInBounds_toArray, List.set_cons_succ, List.set_cons_zero]
      refine wpList_valn rfl (exec_mv rfl (ev rfl)) ?_
      simp only [Act.put, List.setIfInBounds_toArray, List.set_cons_succ, List.set_cons_zero]
      refine wpList_valn rfl (exec_indexE (E := BoE) rfl (ev rfl) (ev rfl) HI.out) ?_
      simp only [Act.put, List.setIfInBounds_toArray, List.set_cons_succ, List.set_cons_zero]
      refine wpList_valn rfl (exec_ld rfl (ev rfl) (ldBoE HA.out)) ?_
      simp only [Act.put, List.setIfInBounds_toArray, List.set_cons_succ, List.set_cons_zero]
      refine wpList_valn rfl (exec_mv rfl (ev rfl)) ?_
      simp only [Act.put, List.setIfInBounds_toArray, List.set_cons_succ, List.set_cons_zero]
      refine wpList_valn (v := .bool true) rfl (exec_eqBool true rfl (ev rfl) (ev rfl) HC.out) ?_
      simp only [Act.put, List.setIfInBounds_toArray, List.set_cons_succ, List.set_cons_zero]
      refine wpList_valn (v := .bool true) rfl (exec_mv rfl (ev rfl)) ?_
      simp only [Act.put, List.setIfInBounds_toArray, List.set_cons_succ, List.set_cons_zero]
      refine wpList_val (wanted_of rfl rfl rfl rfl) (exec_mv rfl (ev rfl)) ?_
      simp only [Act.put, List.setIfInBounds_toArray, List.set_cons_succ, List.set_cons_zero]
      refine wpList_val (wanted_of rfl rfl rfl rfl) (exec_mv rfl (ev rfl)) ?_
      simp only [Act.put, List.setIfInBounds_toArray, List.set_cons_succ, List.set_cons_zero]
      refine wpList_val (wanted_of rfl rfl rfl rfl) (exec_indexE (E := BoE) rfl (ev rfl) (ev rfl) HI.out) ?_
      simp only [Act.put, List.setIfInBounds_toArray, List.set_cons_succ, List.set_cons_zero]
      refine wpList_val (v := .bool false) (wanted_of rfl rfl rfl rfl) (exec_ld rfl (ev rfl) (ldBoE (by rw [HKC.out, HY.out]))) ?_
      simp only [Act.put, List.setIfInBounds_toArray, List.set_cons_succ, List.set_cons_zero]
      refine wpList_val (v := .bool true) (wanted_of rfl rfl rfl rfl) (exec_not false rfl (ev rfl)) ?_
      simp only [Act.put, List.setIfInBounds_toArray, List.set_cons_succ, List.set_cons_zero]
      refine wpList_valn (v := .bool true) rfl (exec_pt rfl (ev rfl) (ev rfl)) ?_
      simp only [Act.put, List.setIfInBounds_toArray, List.set_cons_succ, List.set_cons_zero]
      refine wpList_nil ?_
      by_cases hlj : (j : Int) = lost
      · have HE : Hid (((j : Int) == lost) = true) := Lib.hid (by rw [hlj]; exact beq_self_eq_true _)
        have HH : Hid (hitB l k ob lost = true) := Lib.hid (hit_of (i := j + 1) (by rw [redN_t (by rw [HXY.out.1, HXY.out.2]; exact HQ.out)]; rw [← hlj]; simp) (by have := HLN.out; have := HI.out; omega))
        clear hlj
        go_upto_region 6 with fail
        refine wp_region_lit ?_
        refine wpList_valn rfl (exec_mv rfl (ev rfl)) ?_
        simp only [Act.put, List.setIfInBounds_toArray, List.set_cons_succ, List.set_cons_zero]
        refine wpList_valn rfl (exec_mv rfl (ev rfl)) ?_
        simp only [Act.put, List.setIfInBounds_toArray, List.set_cons_succ, List.set_cons_zero]
        refine wpList_valn (v := .bool true) rfl (exec_eqInt true rfl (ev rfl) (ev rfl) HE.out) ?_
        simp only [Act.put, List.setIfInBounds_toArray, List.set_cons_succ, List.set_cons_zero]
        refine wpList_nil ?_
        go_upto_region 7 with fail
        refine wp_region_lit ?_
        refine wpList_valn rfl (exec_as rfl evk) ?_
        simp only [Act.put, List.setIfInBounds_toArray, List.set_cons_succ, List.set_cons_zero]
        refine wpList_valn (v := .bool false) rfl (exec_as rfl evk) ?_
        simp only [Act.put, List.setIfInBounds_toArray, List.set_cons_succ, List.set_cons_zero]
        refine wpList_nil ?_
        go_wp2_with fail
        go_ret2
        exact ⟨.slice none 0 0, by rw [HH.out]; rfl, by unfold redR; rw [if_pos HH.out]; exact MadeE.nil _ _, HW.out⟩
      have HE : Hid (((j : Int) == lost) = false) := Lib.hid (beq_eq_false_iff_ne.2 hlj)
      have HLJ := Lib.hid hlj
      clear hlj
      go_upto_region 6 with fail
      refine wp_region_lit ?_
      refine wpList_valn rfl (exec_mv rfl (ev rfl)) ?_
      simp only [Act.put, List.setIfInBounds_toArray, List.set_cons_succ, List.set_cons_zero]
      refine wpList_valn rfl (exec_mv rfl (ev rfl)) ?_
      simp only [Act.put, List.setIfInBounds_toArray, List.set_cons_succ, List.set_cons_zero]
      refine wpList_valn (v := .bool false) rfl (exec_eqInt false rfl (ev rfl) (ev rfl) HE.out) ?_
      simp only [Act.put, List.setIfInBounds_toArray, List.set_cons_succ, List.set_cons_zero]
      refine wpList_nil ?_
      have hb1 : Below B wr (wr.alloc (.cells #[.int .i64 (j : Int)] 3)) := (Below.refl _ _).alloc HBS.out _
      have hsz : (wr.alloc (.cells #[.int .i64 (j : Int)] 3)).heap.size = wr.heap.size + 1 := World.size_alloc ..
      obtain ⟨v2, w2, hrun, hm2, hg2⟩ := run_appE IntE (wr.alloc (.cells #[.int .i64 (j : Int)] 3)) 23 B (wr.heap.size + 1) 1 1 u10 (redN l k ob j) [(j : Int)] (some ⟨wr.heap.size, 0, none⟩) (MadeE.below HM.out ((Below.refl _ _).alloc (Nat.le_refl _) _)) (rdE_new (E := IntE) (l := [(j : Int)]) wr #[.int .i64 (j : Int)] 3 rfl) (by have := HBS.out; omega) (by have := redN_len (w := l) (k := k) (o := ob) j; have := HI.out; have := HN.out; simp; omega)
      have HRUN := Lib.hid hrun
      have HM2 : Hid (MadeE IntE w2 B v2 (redN l k ob (j + 1))) := Lib.hid (by rw [redN_t (by rw [HXY.out.1, HXY.out.2]; exact HQ.out)]; exact hm2)
      have HW2 : Hid (Below B w w2) := Lib.hid ((HW.out.trans hb1).grown hg2 (by have := HBS.out; omega) (fun j' hj' => HM.out.lt_own j' hj'))
      have HLO2 : Hid (lost ∉ redN l k ob (j + 1)) := Lib.hid (by
        rw [redN_t (by rw [HXY.out.1, HXY.out.2]; exact HQ.out)]
        intro h
        rcases List.mem_append.1 h with h | h
        · exact HLO.out h
        · exact HLJ.out (List.mem_singleton.1 h).symm)
      clear hb1 hsz hrun hm2 hg2
      go_upto_region 8 with fail
      refine wp_region_lit ?_
      refine wpList_valn rfl (exec_mv rfl (ev rfl)) ?_
      simp only [Act.put, List.setIfInBounds_toArray, List.set_cons_succ, List.set_cons_zero]
      refine wpList_valn rfl (exec_mv rfl (ev rfl)) ?_
      simp only [Act.put, List.setIfInBounds_toArray, List.set_cons_succ, List.set_cons_zero]
      refine wpList_valn rfl (exec_mk1E (E := IntE) (a := (j : Int)) rfl (ev rfl) rfl (by decide)) ?_
      simp only [Act.put, List.setIfInBounds_toArray, List.set_cons_succ, List.set_cons_zero]
      refine wpList_valn rfl (exec_appI rfl (ev rfl) (ev rfl) HRUN.out) ?_
      simp only [Act.put, List.setIfInBounds_toArray, List.set_cons_succ, List.set_cons_zero]
      refine wpList_valn rfl (exec_as rfl (ev rfl)) ?_
      simp only [Act.put, List.setIfInBounds_toArray, List.set_cons_succ, List.set_cons_zero]
      refine wpList_nil ?_
      go_upto_region 4 with fail
      refine wp_region_lit ?_
      refine wpList_valn rfl (exec_mv rfl (ev rfl)) ?_
      simp only [Act.put, List.setIfInBounds_toArray, List.set_cons_succ, List.set_cons_zero]
      refine wpList_valn rfl (exec_add rfl (ev rfl) evk HAJ.out) ?_
      simp only [Act.put, List.setIfInBounds_toArray, List.set_cons_succ, List.set_cons_zero]
      refine wpList_valn rfl (exec_as rfl (ev rfl)) ?_
      simp only [Act.put, List.setIfInBounds_toArray, List.set_cons_succ, List.set_cons_zero]
      refine wpList_nil ?_
      go_wp2_with fail
      go_roundw
      case rel => exact ⟨j + 1, by go_num, HI.out, HM2.out, HLO2.out, HW2.out⟩
      case measure => have := HI.out; simp [intOf]; omega
    have hin : j = n := by omega
    subst hin
    have HT : Hid (decide ((j : Int) < (j : Int)) = false) := Lib.hid (decide_eq_false (by omega))
    have HH : Hid (hitB l k ob lost = false) := Lib.hid (decide_eq_false (by unfold redL; rw [HLN.out]; exact HLO.out))
    clear hlt hj hm hlo hb
    go_upto_region 3 with fail
    refine wp_region_lit ?_
    refine wpList_valn rfl (exec_mv rfl (ev rfl)) ?_
    simp only [Act.put, List.setIfInBounds_toArray, List.set_cons_succ, List.set_cons_zero]
    refine wpList_valn rfl (exec_mv rfl (ev rfl)) ?_
    simp only [Act.put, List.setIfInBounds_toArray, List.set_cons_succ, List.set_cons_zero]
    refine wpList_valn rfl (exec_lenQ Try.underlying22 rfl (ev rfl)) ?_
    simp only [Act.put, List.setIfInBounds_toArray, List.set_cons_succ, List.set_cons_zero]
    refine wpList_valn (v := .bool false) rfl (exec_lss false rfl (ev rfl) (ev rfl) HT.out) ?_
    simp only [Act.put, List.setIfInBounds_toArray, List.set_cons_succ, List.set_cons_zero]
    refine wpList_nil ?_
    go_upto_region 9 with fail
    refine wp_region_lit ?_
    refine wpList_valn rfl (exec_mv rfl (ev rfl)) ?_
    simp only [Act.put, List.setIfInBounds_toArray, List.set_cons_succ, List.set_cons_zero]
    refine wpList_valn rfl (exec_as rfl (ev rfl)) ?_
    simp only [Act.put, List.setIfInBounds_toArray, List.set_cons_succ, List.set_cons_zero]
    refine wpList_valn (v := .bool true) rfl (exec_as rfl evk) ?_
    simp only [Act.put, List.setIfInBounds_toArray, List.set_cons_succ, List.set_cons_zero]
    refine wpList_nil ?_
    go_wp2_with fail
    go_ret2
    exact ⟨u10, by rw [HH.out]; rfl, by unfold redR redL; rw [HH.out, HLN.out]; exact HM.out, HW.out⟩
end Go.Proofs.Ytplanbjjfaihbaa
