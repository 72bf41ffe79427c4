/-
  PlanSame's walk.
-/
import Derived.Test.YtplanbjjfaihbaaPnB
namespace Go.Proofs.Ytplanbjjfaihbaa
open Go.RowKit
set_option linter.unusedVariables false
set_option linter.unusedSimpArgs false
set_option maxRecDepth 100000

section
variable {ρ : Operand → Value} {o : Oper} {x y z u : Operand} {w : World}
theorem exec_min4 {ts : Array TypeId} {a b c m : Nat} (ho : o.op = .call { callee := .builtin .min, args := #[x, y, z, u], argTypes := ts }) (hx : ρ x = .int .i64 (a : Int)) (hy : ρ y = .int .i64 (b : Int)) (hz : ρ z = .int .i64 (c : Int)) (hu : ρ u = .int .i64 15) (h : min (min (min a b) c) 15 = m) : (execOp ρ o).run Try.prog w = .ok (.value (.int .i64 (m : Int))) w := by
  subst h
  have h1 : (if (b : Int) < (a : Int) then (b : Int) else a) = ((min a b : Nat) : Int) := by omega
  have h2 : (if (c : Int) < ((min a b : Nat) : Int) then (c : Int) else ((min a b : Nat) : Int)) = ((min (min a b) c : Nat) : Int) := by omega
  have h3 : (if (15 : Int) < ((min (min a b) c : Nat) : Int) then (15 : Int) else ((min (min a b) c : Nat) : Int)) = ((min (min (min a b) c) 15 : Nat) : Int) := by omega
  have hrun : (Builtin.min_ ts o.type #[.int .i64 (a : Int), .int .i64 (b : Int), .int .i64 (c : Int), .int .i64 15]).run Try.prog w = .ok (.int .i64 ((min (min (min a b) c) 15 : Nat) : Int)) w := by
    simp only [Builtin.min_, List.foldlM_cons, List.foldlM_nil, Builtin.min2, Sem.run_bind, Sem.run_pure, Result.andThen_ok]
    rw [h1, h2, h3]
  simp [execOp, ho, resolve, invoke, builtin, hx, hy, hz, hu, hrun, Result.andThen]
end
theorem res_three {fn : Func} {p q u : Tmp} (h : fn.results = #[.tmp p, .tmp q, .tmp u]) (tmps : Array Value) (w : World) :
    (results fn tmps).run Try.prog w = .ok (.tuple #[tmps.getD p undef, tmps.getD q undef, tmps.getD u undef]) w := by
  simp [results, h]
/-- Of the first i all are written. -/
def allB (w : List Bool) : Nat → Bool
  | 0 => true
  | i + 1 => allB w i && w.getD i false
theorem allB_all {w : List Bool} : ∀ {i : Nat}, allB w i = true → ∀ j, j < i → w.getD j false = true
  | 0, _, j, hj => absurd hj (by omega)
  | i + 1, h, j, hj => by
    have h' := (Bool.and_eq_true _ _).mp h
    by_cases e : j = i
    · rw [e]; exact h'.2
    · exact allB_all h'.1 j (by omega)
set_option maxHeartbeats 1000000 in
theorem rcut (A A1 A2 : Option Addr) (n c n1 c1 n2 c2 m : Nat) (w : World) (hm : min (min (min n n1) n2) 15 = m) (hc : n ≤ c ∧ n1 ≤ c1 ∧ n2 ≤ c2) :
    Calls Try.prog 14 #[.slice A n c, .slice A1 n1 c1, .slice A2 n2 c2] w fun e w' => e = .returned (.tuple #[.slice A m c, .slice A1 m c1, .slice A2 m c2]) ∧ Below w.heap.size w w' := by
  have HM := Lib.hid hm
  have HC : Hid (m ≤ c ∧ m ≤ c1 ∧ m ≤ c2) := Lib.hid (by omega)
  clear hm hc
  go_enter Try.func14, Try.ntmps14
  go_upto_region 1 with fail
  refine wp_region_lit ?_
  refine wpList_valn rfl (exec_mv rfl (ev rfl)) ?_
  simp only [Act.put, List.setIfInBounds_toArray, List.set_cons_succ, List.set_cons_zero]
  refine wpList_valn rfl (exec_lenQ Try.underlying22 rfl (ev rfl)) ?_
  simp only [Act.put, List.setIfInBounds_toArray, List.set_cons_succ, List.set_cons_zero]
  refine wpList_valn rfl (exec_mv rfl (ev rfl)) ?_
  simp only [Act.put, List.setIfInBounds_toArray, List.set_cons_succ, List.set_cons_zero]
  refine wpList_valn rfl (exec_lenQ Try.underlying32 rfl (ev rfl)) ?_
  simp only [Act.put, List.setIfInBounds_toArray, List.set_cons_succ, List.set_cons_zero]
  refine wpList_valn rfl (exec_mv rfl (ev rfl)) ?_
  simp only [Act.put, List.setIfInBounds_toArray, List.set_cons_succ, List.set_cons_zero]
  refine wpList_valn rfl (exec_lenQ Try.underlying32 rfl (ev rfl)) ?_
  simp only [Act.put, List.setIfInBounds_toArray, List.set_cons_succ, List.set_cons_zero]
  refine wpList_valn rfl (exec_min4 rfl (ev rfl) (ev rfl) (ev rfl) evk HM.out) ?_
  simp only [Act.put, List.setIfInBounds_toArray, List.set_cons_succ, List.set_cons_zero]
  refine wpList_valn rfl (exec_as rfl (ev rfl)) ?_
  simp only [Act.put, List.setIfInBounds_toArray, List.set_cons_succ, List.set_cons_zero]
  refine wpList_nil ?_
  go_upto_region 2 with fail
  refine wp_region_above (B := w.heap.size) (by kernel_rfl) ?_
  refine qv_val rfl (fun w' hw => exec_mv rfl (ev rfl)) ?_
  simp only [Act.put, List.setIfInBounds_toArray, List.set_cons_succ, List.set_cons_zero]
  refine qv_val rfl (fun w' hw => exec_mv rfl (ev rfl)) ?_
  simp only [Act.put, List.setIfInBounds_toArray, List.set_cons_succ, List.set_cons_zero]
  refine qv_val rfl (fun w' hw => exec_headE (E := BoE) rfl (ev rfl) (ev rfl) HC.out.1) ?_
  simp only [Act.put, List.setIfInBounds_toArray, List.set_cons_succ, List.set_cons_zero]
  refine qv_val rfl (fun w' hw => exec_mv rfl (ev rfl)) ?_
  simp only [Act.put, List.setIfInBounds_toArray, List.set_cons_succ, List.set_cons_zero]
  refine qv_val rfl (fun w' hw => exec_mv rfl (ev rfl)) ?_
  simp only [Act.put, List.setIfInBounds_toArray, List.set_cons_succ, List.set_cons_zero]
  refine qv_val rfl (fun w' hw => exec_headE (E := BlkE) rfl (ev rfl) (ev rfl) HC.out.2.1) ?_
  simp only [Act.put, List.setIfInBounds_toArray, List.set_cons_succ, List.set_cons_zero]
  refine qv_val rfl (fun w' hw => exec_mv rfl (ev rfl)) ?_
  simp only [Act.put, List.setIfInBounds_toArray, List.set_cons_succ, List.set_cons_zero]
  refine qv_val rfl (fun w' hw => exec_mv rfl (ev rfl)) ?_
  simp only [Act.put, List.setIfInBounds_toArray, List.set_cons_succ, List.set_cons_zero]
  refine qv_val rfl (fun w' hw => exec_headE (E := BlkE) rfl (ev rfl) (ev rfl) HC.out.2.2) ?_
  simp only [Act.put, List.setIfInBounds_toArray, List.set_cons_succ, List.set_cons_zero]
  refine qv_val rfl (fun w' hw => exec_as rfl (ev rfl)) ?_
  simp only [Act.put, List.setIfInBounds_toArray, List.set_cons_succ, List.set_cons_zero]
  refine qv_val rfl (fun w' hw => exec_as rfl (ev rfl)) ?_
  simp only [Act.put, List.setIfInBounds_toArray, List.set_cons_succ, List.set_cons_zero]
  refine qv_val rfl (fun w' hw => exec_as rfl (ev rfl)) ?_
  simp only [Act.put, List.setIfInBounds_toArray, List.set_cons_succ, List.set_cons_zero]
  refine wpQuiet_nil ?_
  intro w1 hw
  have HW := Lib.hid hw
  clear hw
  go_wp2_with fail
  refine bodyPost_ret (res_three rfl _ _) rfl ⟨rfl, HW.out⟩
set_option maxHeartbeats 4000000 in
theorem wplanSame (A A1 A2 : Option Addr) (n c n1 c1 n2 c2 : Nat) (l0 : List Bool) (a0 b0 : List Blk) (w : World) (hl : RdE BoE w w.heap.size A n l0) (ha : RdB w w.heap.size A1 n1 a0) (hbb : RdB w w.heap.size A2 n2 b0) (hc : n ≤ c ∧ n1 ≤ c1 ∧ n2 ≤ c2) :
    Calls Try.prog 5 #[.slice A n c, .slice A1 n1 c1, .slice A2 n2 c2] w fun e w' => e = .returned (.bool true) ∧ Below w.heap.size w w' := by
  have HW := Lib.hid (Upto.refl w)
  obtain ⟨m, hm⟩ : ∃ m, min (min (min n n1) n2) 15 = m := ⟨_, rfl⟩
  have HM := Lib.hid hm
  have HC := Lib.hid hc
  have HM15 : Hid (m ≤ 15) := Lib.hid (by omega)
  obtain ⟨l, hll⟩ : ∃ l, l0.take m = l := ⟨_, rfl⟩
  obtain ⟨a, haa⟩ : ∃ l, a0.take m = l := ⟨_, rfl⟩
  obtain ⟨b, hbe⟩ : ∃ l, b0.take m = l := ⟨_, rfl⟩
  have HL : Hid (RdE BoE w w.heap.size A m l) := Lib.hid (by rw [← hll]; exact hl.headP (by omega))
  have HA : Hid (RdB w w.heap.size A1 m a) := Lib.hid (by rw [← haa]; exact RdB.head ha (by omega))
  have HB : Hid (RdB w w.heap.size A2 m b) := Lib.hid (by rw [← hbe]; exact RdB.head hbb (by omega))
  have HLN : Hid (l.length = m ∧ a.length = m ∧ b.length = m) := Lib.hid ⟨HL.out.1, HA.out.1, HB.out.1⟩
  clear hl ha hbb hc hm hll haa hbe l0 a0 b0
  go_enter Try.func5, Try.ntmps5
  go_upto_region 1 with fail
  refine wp_region_lit ?_
  refine wpList_valn rfl (exec_mv rfl (ev rfl)) ?_
  simp only [Act.put, List.setIfInBounds_toArray, List.set_cons_succ, List.set_cons_zero]
  refine wpList_valn rfl (exec_mv rfl (ev rfl)) ?_
  simp only [Act.put, List.setIfInBounds_toArray, List.set_cons_succ, List.set_cons_zero]
  refine wpList_valn rfl (exec_mv rfl (ev rfl)) ?_
  simp only [Act.put, List.setIfInBounds_toArray, List.set_cons_succ, List.set_cons_zero]
  refine wpList_call rfl (exec_cl Try.call14 rfl (evc (ev rfl) (evc (ev rfl) (evc (ev rfl) evn)))) ?_
  refine (rcut A A1 A2 n c n1 c1 n2 c2 m w HM.out HC.out).mono ?_
  rintro e w1 ⟨rfl, hb⟩
  have HWn := Lib.hid (HW.out.to hb)
  clear HW
  have HW := HWn
  clear HWn
  clear hb
  refine ⟨_, rfl, ?_⟩
  simp only [Act.put, List.setIfInBounds_toArray, List.set_cons_succ, List.set_cons_zero]
  refine wpList_valn rfl (exec_mv rfl (ev rfl)) ?_
  simp only [Act.put, List.setIfInBounds_toArray, List.set_cons_succ, List.set_cons_zero]
  refine wpList_valn rfl (exec_ext rfl (ev rfl) rfl) ?_
  simp only [Act.put, List.setIfInBounds_toArray, List.set_cons_succ, List.set_cons_zero]
  refine wpList_valn rfl (exec_ext rfl (ev rfl) rfl) ?_
  simp only [Act.put, List.setIfInBounds_toArray, List.set_cons_succ, List.set_cons_zero]
  refine wpList_valn rfl (exec_ext rfl (ev rfl) rfl) ?_
  simp only [Act.put, List.setIfInBounds_toArray, List.set_cons_succ, List.set_cons_zero]
  refine wpList_valn rfl (exec_as rfl (ev rfl)) ?_
  simp only [Act.put, List.setIfInBounds_toArray, List.set_cons_succ, List.set_cons_zero]
  refine wpList_valn rfl (exec_as rfl (ev rfl)) ?_
  simp only [Act.put, List.setIfInBounds_toArray, List.set_cons_succ, List.set_cons_zero]
  refine wpList_valn rfl (exec_as rfl (ev rfl)) ?_
  simp only [Act.put, List.setIfInBounds_toArray, List.set_cons_succ, List.set_cons_zero]
  refine wpList_nil ?_
  by_cases h2 : m < 2
  · have T0 : Hid (decide ((m : Int) < 2) = true) := Lib.hid (decide_eq_true (by omega))
    clear h2
    go_upto_region 2 with fail
    refine wp_region_lit ?_
    refine wpList_valn rfl (exec_mv rfl (ev rfl)) ?_
    simp only [Act.put, List.setIfInBounds_toArray, List.set_cons_succ, List.set_cons_zero]
    refine wpList_valn rfl (exec_lenQ Try.underlying22 rfl (ev rfl)) ?_
    simp only [Act.put, List.setIfInBounds_toArray, List.set_cons_succ, List.set_cons_zero]
    refine wpList_valn (v := .bool true) rfl (exec_lss true rfl (ev rfl) evk T0.out) ?_
    simp only [Act.put, List.setIfInBounds_toArray, List.set_cons_succ, List.set_cons_zero]
    refine wpList_nil ?_
    go_upto_region 3 with fail
    refine wp_region_lit ?_
    refine wpList_call rfl (exec_cl Try.call11 rfl evn) ?_
    refine (nlives w1).mono ?_
    rintro e w2 ⟨rfl, hb⟩
    have HWn := Lib.hid (HW.out.to hb)
    clear HW
    have HW := HWn
    clear HWn
    clear hb
    refine ⟨_, rfl, ?_⟩
    simp only [Act.put, List.setIfInBounds_toArray, List.set_cons_succ, List.set_cons_zero]
    refine wpList_valn (v := .bool true) rfl (exec_as rfl (ev rfl)) ?_
    simp only [Act.put, List.setIfInBounds_toArray, List.set_cons_succ, List.set_cons_zero]
    refine wpList_nil ?_
    go_wp2_with fail
    go_ret
    exact ⟨rfl, HW.out.1⟩
  have T0 : Hid (decide ((m : Int) < 2) = false) := Lib.hid (decide_eq_false (by omega))
  have HQ : Hid (parQ l a b = true) := Lib.hid (decide_eq_true (by have := HLN.out; have := HM15.out; omega))
  clear h2
  go_upto_region 2 with fail
  refine wp_region_lit ?_
  refine wpList_valn rfl (exec_mv rfl (ev rfl)) ?_
  simp only [Act.put, List.setIfInBounds_toArray, List.set_cons_succ, List.set_cons_zero]
  refine wpList_valn rfl (exec_lenQ Try.underlying22 rfl (ev rfl)) ?_
  simp only [Act.put, List.setIfInBounds_toArray, List.set_cons_succ, List.set_cons_zero]
  refine wpList_valn (v := .bool false) rfl (exec_lss false rfl (ev rfl) evk T0.out) ?_
  simp only [Act.put, List.setIfInBounds_toArray, List.set_cons_succ, List.set_cons_zero]
  refine wpList_nil ?_
  go_upto_region 4 with fail
  refine wp_region_lit ?_
  refine wpList_valn (v := .bool true) rfl (exec_as rfl evk) ?_
  simp only [Act.put, List.setIfInBounds_toArray, List.set_cons_succ, List.set_cons_zero]
  refine wpList_nil ?_
  go_upto_region 5 with fail
  refine wp_region_lit ?_
  refine wpList_valn rfl (exec_as rfl evk) ?_
  simp only [Act.put, List.setIfInBounds_toArray, List.set_cons_succ, List.set_cons_zero]
  refine wpList_nil ?_
  go_upto_region 6 with fail
  refine wp_region_lit ?_
  refine wpList_valn rfl (exec_as rfl evk) ?_
  simp only [Act.put, List.setIfInBounds_toArray, List.set_cons_succ, List.set_cons_zero]
  refine wpList_nil ?_
  go_wp2_with fail
  go_loopw [7, 8, 9] (fun t v z wr => ∃ i : Nat, z = .int .i64 i ∧ i ≤ m ∧ t = .bool (allB l i) ∧ MadeE BlkE wr w.heap.size v (mixN l a b i) ∧ Upto w.heap.size w wr) (fun _ _ z _ => m - (intOf z).toNat)
  case atStart => exact ⟨0, by go_num, by omega, rfl, MadeE.nil _ _, HW.out⟩
  case round =>
    obtain ⟨i, rfl, hi, rfl, hm, hu⟩ := hrel
    have HMD := Lib.hid hm
    have HU := Lib.hid hu
    clear hm hu
    by_cases hlt : i < m
    · have HI := Lib.hid hlt
      have HT : Hid (decide ((i : Int) < (m : Int)) = true) := Lib.hid (decide_eq_true (by omega))
      obtain ⟨bq, oq, rfl, _, hq⟩ := (HU.out.rd HL.out).bo hlt
      obtain ⟨ba, oa, rfl, hba, hca⟩ := (HU.out.rdb HA.out).2 i hlt
      obtain ⟨bb, ob, rfl, hbb, hcb⟩ := (HU.out.rdb HB.out).2 i hlt
      obtain ⟨x, hx⟩ : ∃ x, l.getD i false = x := ⟨_, rfl⟩
      rw [hx] at hq
      have HX := Lib.hid hx
      have HQC : Hid (wr.cell? ⟨bq, oq + i * BoE.n, none⟩ = some (.bool x)) := Lib.hid (by show wr.cell? ⟨bq, oq + i * 1, none⟩ = _; rw [Nat.mul_one]; exact hq)
      obtain ⟨ya, hya⟩ : ∃ y, a.getD i zeroB = y := ⟨_, rfl⟩
      obtain ⟨yb, hyb⟩ : ∃ y, b.getD i zeroB = y := ⟨_, rfl⟩
      rw [hya] at hca
      rw [hyb] at hcb
      have HYA := Lib.hid hya
      have HYB := Lib.hid hyb
      have HCA := Lib.hid hca
      have HCB := Lib.hid hcb
      have HAJ : Hid (IntKind.i64.wrap ((i : Int) + 1) = ((i + 1 : Nat) : Int)) := Lib.hid (by have := HM15.out; rw [i64k ⟨by omega, by omega⟩]; omega)
      have happ : ∀ y : Blk, ∃ v2 w2, (Builtin.append_ #[32, 32] 32 #[u8, .slice (some ⟨wr.heap.size, 0, none⟩) 1 1]).run Try.prog (wr.alloc (.cells (cel y).toArray 34)) = .ok v2 w2 ∧ MadeE BlkE w2 w.heap.size v2 (mixN l a b i ++ [y]) ∧ Upto w.heap.size w w2 := fun y => by
        have hb1 : Below wr.heap.size wr (wr.alloc (.cells (cel y).toArray 34)) := (Below.refl _ _).alloc (Nat.le_refl _) _
        have hu1 := HU.out.to hb1
        obtain ⟨v2, w2, h1, h2, h3⟩ := run_appE BlkE (wr.alloc (.cells (cel y).toArray 34)) 32 w.heap.size (wr.heap.size + 1) 1 1 u8 (mixN l a b i) [y] (some ⟨wr.heap.size, 0, none⟩) (HMD.out.below hb1) (rdE_new (E := BlkE) (l := [y]) wr (cel y).toArray 34 (by simp [flatE, BlkE])) hu1.2 (by rw [mixN_len]; have := HM15.out; have := HI.out; omega)
        exact ⟨v2, w2, h1, h2, hu1.1.grown h3 hu1.2 (fun j hj => (HMD.out.below hb1).lt_own j hj), Nat.le_trans hu1.2 h3.size⟩
      obtain ⟨va, wa, hra, hma, hua⟩ := happ ya
      obtain ⟨vb, wb, hrb, hmb, hub⟩ := happ yb
      have HRA := Lib.hid hra
      have HRB := Lib.hid hrb
      have HMA := Lib.hid hma
      have HMB := Lib.hid hmb
      have HUA := Lib.hid hua
      have HUB := Lib.hid hub
      obtain ⟨t, ht⟩ : ∃ t, allB l i = t := ⟨_, rfl⟩
      have HTT := Lib.hid ht
      rw [ht]
      clear hq hca hcb hx hya hyb hba hbb hlt hi happ hra hrb hma hmb hua hub ht
      go_upto_region 7 with fail
      refine wp_region_lit ?_
      refine wpList_valn rfl (exec_mv rfl (ev rfl)) ?_
      simp only [Act.put, List.setIfInBounds_toArray, List.set_cons_succ, List.set_cons_zero]
      refine wpList_valn rfl (exec_mv rfl (ev rfl)) ?_
      simp only [Act.put, List.setIfInBounds_toArray, List.set_cons_succ, List.set_cons_zero]
      refine wpList_valn rfl (exec_lenQ Try.underlying22 rfl (ev rfl)) ?_
      simp only [Act.put, List.setIfInBounds_toArray, List.set_cons_succ, List.set_cons_zero]
      refine wpList_valn (v := .bool true) rfl (exec_lss true rfl (ev rfl) (ev rfl) HT.out) ?_
      simp only [Act.put, List.setIfInBounds_toArray, List.set_cons_succ, List.set_cons_zero]
      refine wpList_nil ?_
      cases t
      · cases x
        · go_upto_region 9 with fail
          refine wp_region_lit ?_
          refine wpList_valn (v := .bool false) rfl (exec_mv rfl (ev rfl)) ?_
          simp only [Act.put, List.setIfInBounds_toArray, List.set_cons_succ, List.set_cons_zero]
          refine wpList_skips 4 (v := .bool false) rfl (exec_mv rfl (ev rfl)) (by kernel_rfl) ?_
          simp only [skipAct, List.take_succ_cons, List.take_zero, List.drop_succ_cons, List.drop_zero, Act.put, List.setIfInBounds_toArray, List.set_cons_succ, List.set_cons_zero]
          refine wpList_valn (v := .bool false) rfl (exec_pf rfl (ev rfl) evk) ?_
          simp only [Act.put, List.setIfInBounds_toArray, List.set_cons_succ, List.set_cons_zero]
          refine wpList_valn (v := .bool false) rfl (exec_as rfl (ev rfl)) ?_
          simp only [Act.put, List.setIfInBounds_toArray, List.set_cons_succ, List.set_cons_zero]
          refine wpList_nil ?_
          go_upto_region 10 with fail
          refine wp_region_lit ?_
          refine wpList_valn rfl (exec_mv rfl (ev rfl)) ?_
          simp only [Act.put, List.setIfInBounds_toArray, List.set_cons_succ, List.set_cons_zero]
          refine wpList_valn rfl (exec_mv rfl (ev rfl)) ?_
          simp only [Act.put, List.setIfInBounds_toArray, List.set_cons_succ, List.set_cons_zero]
          refine wpList_valn rfl (exec_indexE (E := BoE) rfl (ev rfl) (ev rfl) HI.out) ?_
          simp only [Act.put, List.setIfInBounds_toArray, List.set_cons_succ, List.set_cons_zero]
          refine wpList_valn (v := .bool false) rfl (exec_ld rfl (ev rfl) (ldBoE HQC.out)) ?_
          simp only [Act.put, List.setIfInBounds_toArray, List.set_cons_succ, List.set_cons_zero]
          refine wpList_nil ?_
          go_upto_region 12 with fail
          refine wp_region_lit ?_
          refine wpList_valn rfl (exec_mv rfl (ev rfl)) ?_
          simp only [Act.put, List.setIfInBounds_toArray, List.set_cons_succ, List.set_cons_zero]
          refine wpList_valn rfl (exec_mv rfl (ev rfl)) ?_
          simp only [Act.put, List.setIfInBounds_toArray, List.set_cons_succ, List.set_cons_zero]
          refine wpList_valn rfl (exec_mv rfl (ev rfl)) ?_
          simp only [Act.put, List.setIfInBounds_toArray, List.set_cons_succ, List.set_cons_zero]
          refine wpList_valn rfl (exec_index rfl (ev rfl) (ev rfl) HI.out) ?_
          simp only [Act.put, List.setIfInBounds_toArray, List.set_cons_succ, List.set_cons_zero]
          refine wpList_valn rfl (exec_load rfl (ev rfl) HCA.out) ?_
          simp only [Act.put, List.setIfInBounds_toArray, List.set_cons_succ, List.set_cons_zero]
          refine wpList_valn rfl (exec_mk1E (E := BlkE) (a := ya) rfl (ev rfl) (cells_blk _) (by decide)) ?_
          simp only [Act.put, List.setIfInBounds_toArray, List.set_cons_succ, List.set_cons_zero]
          refine wpList_valn rfl (exec_appR rfl (ev rfl) (ev rfl) HRA.out) ?_
          simp only [Act.put, List.setIfInBounds_toArray, List.set_cons_succ, List.set_cons_zero]
          refine wpList_valn rfl (exec_as rfl (ev rfl)) ?_
          simp only [Act.put, List.setIfInBounds_toArray, List.set_cons_succ, List.set_cons_zero]
          refine wpList_nil ?_
          go_upto_region 8 with fail
          refine wp_region_lit ?_
          refine wpList_valn rfl (exec_mv rfl (ev rfl)) ?_
          simp only [Act.put, List.setIfInBounds_toArray, List.set_cons_succ, List.set_cons_zero]
          refine wpList_valn rfl (exec_add rfl (ev rfl) evk HAJ.out) ?_
          simp only [Act.put, List.setIfInBounds_toArray, List.set_cons_succ, List.set_cons_zero]
          refine wpList_valn rfl (exec_as rfl (ev rfl)) ?_
          simp only [Act.put, List.setIfInBounds_toArray, List.set_cons_succ, List.set_cons_zero]
          refine wpList_nil ?_
          go_wp2_with fail
          go_roundw
          case rel => exact ⟨i + 1, by go_num, HI.out, by show _ = Value.bool (allB l i && l.getD i false); rw [HTT.out, HX.out]; rfl, by rw [mixN_f HX.out, HYA.out]; exact HMA.out, HUA.out⟩
          case measure => have := HI.out; simp [intOf]; omega
        · go_upto_region 9 with fail
          refine wp_region_lit ?_
          refine wpList_valn (v := .bool false) rfl (exec_mv rfl (ev rfl)) ?_
          simp only [Act.put, List.setIfInBounds_toArray, List.set_cons_succ, List.set_cons_zero]
          refine wpList_skips 4 (v := .bool false) rfl (exec_mv rfl (ev rfl)) (by kernel_rfl) ?_
          simp only [skipAct, List.take_succ_cons, List.take_zero, List.drop_succ_cons, List.drop_zero, Act.put, List.setIfInBounds_toArray, List.set_cons_succ, List.set_cons_zero]
          refine wpList_valn (v := .bool false) rfl (exec_pf rfl (ev rfl) evk) ?_
          simp only [Act.put, List.setIfInBounds_toArray, List.set_cons_succ, List.set_cons_zero]
          refine wpList_valn (v := .bool false) rfl (exec_as rfl (ev rfl)) ?_
          simp only [Act.put, List.setIfInBounds_toArray, List.set_cons_succ, List.set_cons_zero]
          refine wpList_nil ?_
          go_upto_region 10 with fail
          refine wp_region_lit ?_
          refine wpList_valn rfl (exec_mv rfl (ev rfl)) ?_
          simp only [Act.put, List.setIfInBounds_toArray, List.set_cons_succ, List.set_cons_zero]
          refine wpList_valn rfl (exec_mv rfl (ev rfl)) ?_
          simp only [Act.put, List.setIfInBounds_toArray, List.set_cons_succ, List.set_cons_zero]
          refine wpList_valn rfl (exec_indexE (E := BoE) rfl (ev rfl) (ev rfl) HI.out) ?_
          simp only [Act.put, List.setIfInBounds_toArray, List.set_cons_succ, List.set_cons_zero]
          refine wpList_valn (v := .bool true) rfl (exec_ld rfl (ev rfl) (ldBoE HQC.out)) ?_
          simp only [Act.put, List.setIfInBounds_toArray, List.set_cons_succ, List.set_cons_zero]
          refine wpList_nil ?_
          go_upto_region 11 with fail
          refine wp_region_lit ?_
          refine wpList_valn rfl (exec_mv rfl (ev rfl)) ?_
          simp only [Act.put, List.setIfInBounds_toArray, List.set_cons_succ, List.set_cons_zero]
          refine wpList_valn rfl (exec_mv rfl (ev rfl)) ?_
          simp only [Act.put, List.setIfInBounds_toArray, List.set_cons_succ, List.set_cons_zero]
          refine wpList_valn rfl (exec_mv rfl (ev rfl)) ?_
          simp only [Act.put, List.setIfInBounds_toArray, List.set_cons_succ, List.set_cons_zero]
          refine wpList_valn rfl (exec_index rfl (ev rfl) (ev rfl) HI.out) ?_
          simp only [Act.put, List.setIfInBounds_toArray, List.set_cons_succ, List.set_cons_zero]
          refine wpList_valn rfl (exec_load rfl (ev rfl) HCB.out) ?_
          simp only [Act.put, List.setIfInBounds_toArray, List.set_cons_succ, List.set_cons_zero]
          refine wpList_valn rfl (exec_mk1E (E := BlkE) (a := yb) rfl (ev rfl) (cells_blk _) (by decide)) ?_
          simp only [Act.put, List.setIfInBounds_toArray, List.set_cons_succ, List.set_cons_zero]
          refine wpList_valn rfl (exec_appR rfl (ev rfl) (ev rfl) HRB.out) ?_
          simp only [Act.put, List.setIfInBounds_toArray, List.set_cons_succ, List.set_cons_zero]
          refine wpList_valn rfl (exec_as rfl (ev rfl)) ?_
          simp only [Act.put, List.setIfInBounds_toArray, List.set_cons_succ, List.set_cons_zero]
          refine wpList_nil ?_
          go_upto_region 8 with fail
          refine wp_region_lit ?_
          refine wpList_valn rfl (exec_mv rfl (ev rfl)) ?_
          simp only [Act.put, List.setIfInBounds_toArray, List.set_cons_succ, List.set_cons_zero]
          refine wpList_valn rfl (exec_add rfl (ev rfl) evk HAJ.out) ?_
          simp only [Act.put, List.setIfInBounds_toArray, List.set_cons_succ, List.set_cons_zero]
          refine wpList_valn rfl (exec_as rfl (ev rfl)) ?_
          simp only [Act.put, List.setIfInBounds_toArray, List.set_cons_succ, List.set_cons_zero]
          refine wpList_nil ?_
          go_wp2_with fail
          go_roundw
          case rel => exact ⟨i + 1, by go_num, HI.out, by show _ = Value.bool (allB l i && l.getD i false); rw [HTT.out, HX.out]; rfl, by rw [mixN_t HX.out, HYB.out]; exact HMB.out, HUB.out⟩
          case measure => have := HI.out; simp [intOf]; omega
      · cases x
        · go_upto_region 9 with fail
          refine wp_region_lit ?_
          refine wpList_valn (v := .bool true) rfl (exec_mv rfl (ev rfl)) ?_
          simp only [Act.put, List.setIfInBounds_toArray, List.set_cons_succ, List.set_cons_zero]
          refine wpList_valn (v := .bool true) rfl (exec_mv rfl (ev rfl)) ?_
          simp only [Act.put, List.setIfInBounds_toArray, List.set_cons_succ, List.set_cons_zero]
          refine wpList_val (wanted_of rfl rfl rfl rfl) (exec_mv rfl (ev rfl)) ?_
          simp only [Act.put, List.setIfInBounds_toArray, List.set_cons_succ, List.set_cons_zero]
          refine wpList_val (wanted_of rfl rfl rfl rfl) (exec_mv rfl (ev rfl)) ?_
          simp only [Act.put, List.setIfInBounds_toArray, List.set_cons_succ, List.set_cons_zero]
          refine wpList_val (wanted_of rfl rfl rfl rfl) (exec_indexE (E := BoE) rfl (ev rfl) (ev rfl) HI.out) ?_
          simp only [Act.put, List.setIfInBounds_toArray, List.set_cons_succ, List.set_cons_zero]
          refine wpList_val (v := .bool false) (wanted_of rfl rfl rfl rfl) (exec_ld rfl (ev rfl) (ldBoE HQC.out)) ?_
          simp only [Act.put, List.setIfInBounds_toArray, List.set_cons_succ, List.set_cons_zero]
          refine wpList_valn (v := .bool false) rfl (exec_pt rfl (ev rfl) (ev rfl)) ?_
          simp only [Act.put, List.setIfInBounds_toArray, List.set_cons_succ, List.set_cons_zero]
          refine wpList_valn (v := .bool false) rfl (exec_as rfl (ev rfl)) ?_
          simp only [Act.put, List.setIfInBounds_toArray, List.set_cons_succ, List.set_cons_zero]
          refine wpList_nil ?_
          go_upto_region 10 with fail
          refine wp_region_lit ?_
          refine wpList_valn rfl (exec_mv rfl (ev rfl)) ?_
          simp only [Act.put, List.setIfInBounds_toArray, List.set_cons_succ, List.set_cons_zero]
          refine wpList_valn rfl (exec_mv rfl (ev rfl)) ?_
          simp only [Act.put, List.setIfInBounds_toArray, List.set_cons_succ, List.set_cons_zero]
          refine wpList_valn rfl (exec_indexE (E := BoE) rfl (ev rfl) (ev rfl) HI.out) ?_
          simp only [Act.put, List.setIfInBounds_toArray, List.set_cons_succ, List.set_cons_zero]
          refine wpList_valn (v := .bool false) rfl (exec_ld rfl (ev rfl) (ldBoE HQC.out)) ?_
          simp only [Act.put, List.setIfInBounds_toArray, List.set_cons_succ, List.set_cons_zero]
          refine wpList_nil ?_
          go_upto_region 12 with fail
          refine wp_region_lit ?_
          refine wpList_valn rfl (exec_mv rfl (ev rfl)) ?_
          simp only [Act.put, List.setIfInBounds_toArray, List.set_cons_succ, List.set_cons_zero]
          refine wpList_valn rfl (exec_mv rfl (ev rfl)) ?_
          simp only [Act.put, List.setIfInBounds_toArray, List.set_cons_succ, List.set_cons_zero]
          refine wpList_valn rfl (exec_mv rfl (ev rfl)) ?_
          simp only [Act.put, List.setIfInBounds_toArray, List.set_cons_succ, List.set_cons_zero]
          refine wpList_valn rfl (exec_index rfl (ev rfl) (ev rfl) HI.out) ?_
          simp only [Act.put, List.setIfInBounds_toArray, List.set_cons_succ, List.set_cons_zero]
          refine wpList_valn rfl (exec_load rfl (ev rfl) HCA.out) ?_
          simp only [Act.put, List.setIfInBounds_toArray, List.set_cons_succ, List.set_cons_zero]
          refine wpList_valn rfl (exec_mk1E (E := BlkE) (a := ya) rfl (ev rfl) (cells_blk _) (by decide)) ?_
          simp only [Act.put, List.setIfInBounds_toArray, List.set_cons_succ, List.set_cons_zero]
          refine wpList_valn rfl (exec_appR rfl (ev rfl) (ev rfl) HRA.out) ?_
          simp only [Act.put, List.setIfInBounds_toArray, List.set_cons_succ, List.set_cons_zero]
          refine wpList_valn rfl (exec_as rfl (ev rfl)) ?_
          simp only [Act.put, List.setIfInBounds_toArray, List.set_cons_succ, List.set_cons_zero]
          refine wpList_nil ?_
          go_upto_region 8 with fail
          refine wp_region_lit ?_
          refine wpList_valn rfl (exec_mv rfl (ev rfl)) ?_
          simp only [Act.put, List.setIfInBounds_toArray, List.set_cons_succ, List.set_cons_zero]
          refine wpList_valn rfl (exec_add rfl (ev rfl) evk HAJ.out) ?_
          simp only [Act.put, List.setIfInBounds_toArray, List.set_cons_succ, List.set_cons_zero]
          refine wpList_valn rfl (exec_as rfl (ev rfl)) ?_
          simp only [Act.put, List.setIfInBounds_toArray, List.set_cons_succ, List.set_cons_zero]
          refine wpList_nil ?_
          go_wp2_with fail
          go_roundw
          case rel => exact ⟨i + 1, by go_num, HI.out, by show _ = Value.bool (allB l i && l.getD i false); rw [HTT.out, HX.out]; rfl, by rw [mixN_f HX.out, HYA.out]; exact HMA.out, HUA.out⟩
          case measure => have := HI.out; simp [intOf]; omega
        · go_upto_region 9 with fail
          refine wp_region_lit ?_
          refine wpList_valn (v := .bool true) rfl (exec_mv rfl (ev rfl)) ?_
          simp only [Act.put, List.setIfInBounds_toArray, List.set_cons_succ, List.set_cons_zero]
          refine wpList_valn (v := .bool true) rfl (exec_mv rfl (ev rfl)) ?_
          simp only [Act.put, List.setIfInBounds_toArray, List.set_cons_succ, List.set_cons_zero]
          refine wpList_val (wanted_of rfl rfl rfl rfl) (exec_mv rfl (ev rfl)) ?_
          simp only [Act.put, List.setIfInBounds_toArray, List.set_cons_succ, List.set_cons_zero]
          refine wpList_val (wanted_of rfl rfl rfl rfl) (exec_mv rfl (ev rfl)) ?_
          simp only [Act.put, List.setIfInBounds_toArray, List.set_cons_succ, List.set_cons_zero]
          refine wpList_val (wanted_of rfl rfl rfl rfl) (exec_indexE (E := BoE) rfl (ev rfl) (ev rfl) HI.out) ?_
          simp only [Act.put, List.setIfInBounds_toArray, List.set_cons_succ, List.set_cons_zero]
          refine wpList_val (v := .bool true) (wanted_of rfl rfl rfl rfl) (exec_ld rfl (ev rfl) (ldBoE HQC.out)) ?_
          simp only [Act.put, List.setIfInBounds_toArray, List.set_cons_succ, List.set_cons_zero]
          refine wpList_valn (v := .bool true) rfl (exec_pt rfl (ev rfl) (ev rfl)) ?_
          simp only [Act.put, List.setIfInBounds_toArray, List.set_cons_succ, List.set_cons_zero]
          refine wpList_valn (v := .bool true) rfl (exec_as rfl (ev rfl)) ?_
          simp only [Act.put, List.setIfInBounds_toArray, List.set_cons_succ, List.set_cons_zero]
          refine wpList_nil ?_
          go_upto_region 10 with fail
          refine wp_region_lit ?_
          refine wpList_valn rfl (exec_mv rfl (ev rfl)) ?_
          simp only [Act.put, List.setIfInBounds_toArray, List.set_cons_succ, List.set_cons_zero]
          refine wpList_valn rfl (exec_mv rfl (ev rfl)) ?_
          simp only [Act.put, List.setIfInBounds_toArray, List.set_cons_succ, List.set_cons_zero]
          refine wpList_valn rfl (exec_indexE (E := BoE) rfl (ev rfl) (ev rfl) HI.out) ?_
          simp only [Act.put, List.setIfInBounds_toArray, List.set_cons_succ, List.set_cons_zero]
          refine wpList_valn (v := .bool true) rfl (exec_ld rfl (ev rfl) (ldBoE HQC.out)) ?_
          simp only [Act.put, List.setIfInBounds_toArray, List.set_cons_succ, List.set_cons_zero]
          refine wpList_nil ?_
          go_upto_region 11 with fail
          refine wp_region_lit ?_
          refine wpList_valn rfl (exec_mv rfl (ev rfl)) ?_
          simp only [Act.put, List.setIfInBounds_toArray, List.set_cons_succ, List.set_cons_zero]
          refine wpList_valn rfl (exec_mv rfl (ev rfl)) ?_
          simp only [Act.put, List.setIfInBounds_toArray, List.set_cons_succ, List.set_cons_zero]
          refine wpList_valn rfl (exec_mv rfl (ev rfl)) ?_
          simp only [Act.put, List.setIfInBounds_toArray, List.set_cons_succ, List.set_cons_zero]
          refine wpList_valn rfl (exec_index rfl (ev rfl) (ev rfl) HI.out) ?_
          simp only [Act.put, List.setIfInBounds_toArray, List.set_cons_succ, List.set_cons_zero]
          refine wpList_valn rfl (exec_load rfl (ev rfl) HCB.out) ?_
          simp only [Act.put, List.setIfInBounds_toArray, List.set_cons_succ, List.set_cons_zero]
          refine wpList_valn rfl (exec_mk1E (E := BlkE) (a := yb) rfl (ev rfl) (cells_blk _) (by decide)) ?_
          simp only [Act.put, List.setIfInBounds_toArray, List.set_cons_succ, List.set_cons_zero]
          refine wpList_valn rfl (exec_appR rfl (ev rfl) (ev rfl) HRB.out) ?_
          simp only [Act.put, List.setIfInBounds_toArray, List.set_cons_succ, List.set_cons_zero]
          refine wpList_valn rfl (exec_as rfl (ev rfl)) ?_
          simp only [Act.put, List.setIfInBounds_toArray, List.set_cons_succ, List.set_cons_zero]
          refine wpList_nil ?_
          go_upto_region 8 with fail
          refine wp_region_lit ?_
          refine wpList_valn rfl (exec_mv rfl (ev rfl)) ?_
          simp only [Act.put, List.setIfInBounds_toArray, List.set_cons_succ, List.set_cons_zero]
          refine wpList_valn rfl (exec_add rfl (ev rfl) evk HAJ.out) ?_
          simp only [Act.put, List.setIfInBounds_toArray, List.set_cons_succ, List.set_cons_zero]
          refine wpList_valn rfl (exec_as rfl (ev rfl)) ?_
          simp only [Act.put, List.setIfInBounds_toArray, List.set_cons_succ, List.set_cons_zero]
          refine wpList_nil ?_
          go_wp2_with fail
          go_roundw
          case rel => exact ⟨i + 1, by go_num, HI.out, by show _ = Value.bool (allB l i && l.getD i false); rw [HTT.out, HX.out]; rfl, by rw [mixN_t HX.out, HYB.out]; exact HMB.out, HUB.out⟩
          case measure => have := HI.out; simp [intOf]; omega
    have hin : i = m := by omega
    subst hin
    have HT : Hid (decide ((i : Int) < (i : Int)) = false) := Lib.hid (decide_eq_false (by omega))
    obtain ⟨As, cs, rfl, hrs, _, _⟩ := HMD.out.open_ (mixN_len i)
    have HRS := Lib.hid hrs
    obtain ⟨x, hx⟩ : ∃ x, fold (mixN l a b i) = x := ⟨_, rfl⟩
    have HV3 : Hid (parB 3 l a b zeroB = x) := Lib.hid ((if_pos HQ.out).trans ((if_neg (by omega)).trans ((if_pos rfl).trans (by rw [HLN.out.1]; exact hx))))
    have HV4 : Hid (parB 4 l a b (fold a) = x) := Lib.hid ((if_pos HQ.out).trans ((if_neg (by omega)).trans ((if_neg (by omega)).trans ((if_pos rfl).trans (by
      have h := par_mix (w := l) (a := a) (b := b) i (by have := HLN.out.2.1; omega)
      rw [List.take_of_length_le (by have := HLN.out.2.1; omega)] at h
      rw [HLN.out.1, h]
      exact hx)))))
    have HV2 : Hid (parB 2 l a b zeroB = fold b) := Lib.hid ((if_pos HQ.out).trans (if_pos rfl))
    have HE3 : Hid (parE 3 l a b = 0) := Lib.hid ((if_pos HQ.out).trans (if_pos (by omega)))
    have HE4 : Hid (parE 4 l a b = 0) := Lib.hid ((if_pos HQ.out).trans (if_pos (by omega)))
    have HE2 : Hid (parE 2 l a b = 0) := Lib.hid ((if_pos HQ.out).trans (if_pos (by omega)))
    have HALL : Hid (allB l i = true → fold b = x) := Lib.hid fun h => by
      have h1 := mixN_all (a := a) (b := b) (allB_all h) (by have := HLN.out.2.2; omega)
      rw [List.take_of_length_le (by have := HLN.out.2.2; omega)] at h1
      rw [← hx, h1]
    have HXX := Lib.hid hx
    clear hlt hi hrs hx HW
    have HW := HU
    clear HU
    go_upto_region 7 with fail
    refine wp_region_lit ?_
    refine wpList_valn rfl (exec_mv rfl (ev rfl)) ?_
    simp only [Act.put, List.setIfInBounds_toArray, List.set_cons_succ, List.set_cons_zero]
    refine wpList_valn rfl (exec_mv rfl (ev rfl)) ?_
    simp only [Act.put, List.setIfInBounds_toArray, List.set_cons_succ, List.set_cons_zero]
    refine wpList_valn rfl (exec_lenQ Try.underlying22 rfl (ev rfl)) ?_
    simp only [Act.put, List.setIfInBounds_toArray, List.set_cons_succ, List.set_cons_zero]
    refine wpList_valn (v := .bool false) rfl (exec_lss false rfl (ev rfl) (ev rfl) HT.out) ?_
    simp only [Act.put, List.setIfInBounds_toArray, List.set_cons_succ, List.set_cons_zero]
    refine wpList_nil ?_
    go_upto_region 13 with fail
    refine wp_region_lit ?_
    refine wpList_valn rfl (exec_mv rfl (ev rfl)) ?_
    simp only [Act.put, List.setIfInBounds_toArray, List.set_cons_succ, List.set_cons_zero]
    refine wpList_call rfl (exec_cl Try.call15 rfl (evc (ev rfl) evn)) ?_
    refine (refFold_any As i cs wr.heap.size (mixN l a b i) wr HRS.out (Nat.le_refl _) (by have := HM15.out; unfold maxLen; omega)).mono ?_
    rintro e w11 ⟨rfl, hb⟩
    have HWn := Lib.hid (HW.out.to hb)
    clear HW
    have HW := HWn
    clear HWn
    clear hb
    rw [HXX.out]
    refine ⟨_, rfl, ?_⟩
    simp only [Act.put, List.setIfInBounds_toArray, List.set_cons_succ, List.set_cons_zero]
    refine wpList_valn rfl (exec_alloc rfl) ?_
    simp only [Act.put, List.setIfInBounds_toArray, List.set_cons_succ, List.set_cons_zero]
    refine wpList_nuln rfl (exec_fill rfl (ev rfl) (ev rfl)) ?_
    simp only [Act.put, List.setIfInBounds_toArray, List.set_cons_succ, List.set_cons_zero]
    obtain ⟨w12, r1, hw_, hq_, hp, hb⟩ := cel_lay w11 x
    rw [hw_, hq_]
    have HWn := Lib.hid (HW.out.to hb)
    clear HW
    have HW := HWn
    clear HWn
    have C1 := Lib.hid hp
    clear hw_ hq_ hp hb
    refine wpList_nil ?_
    go_upto_region 14 with fail
    refine wp_region_lit ?_
    refine wpList_valn rfl (exec_mv rfl (ev rfl)) ?_
    simp only [Act.put, List.setIfInBounds_toArray, List.set_cons_succ, List.set_cons_zero]
    refine wpList_valn rfl (exec_mv rfl (ev rfl)) ?_
    simp only [Act.put, List.setIfInBounds_toArray, List.set_cons_succ, List.set_cons_zero]
    refine wpList_valn rfl (exec_mv rfl (ev rfl)) ?_
    simp only [Act.put, List.setIfInBounds_toArray, List.set_cons_succ, List.set_cons_zero]
    refine wpList_valn rfl (exec_build (c := zeroB) (parts := []) rfl rfl) ?_
    simp only [Act.put, List.setIfInBounds_toArray, List.set_cons_succ, List.set_cons_zero]
    refine wpList_call rfl (exec_cl Try.call12 rfl (evc evk (evc (ev rfl) (evc (ev rfl) (evc (ev rfl) (evc (ev rfl) evn)))))) ?_
    refine (pparity_v 3 A A1 A2 i c i c1 i c2 l a b zeroB w12 HV3.out HE3.out (HW.out.rd HL.out) (HW.out.rdb HA.out) (HW.out.rdb HB.out) (by have := HM15.out; unfold maxLen; omega)).mono ?_
    rintro e w13 ⟨rfl, hb⟩
    have HWn := Lib.hid (HW.out.to hb)
    clear HW
    have HW := HWn
    clear HWn
    have C1n := Lib.hid (C1.out.below hb)
    clear C1
    have C1 := C1n
    clear C1n
    clear hb
    refine ⟨_, rfl, ?_⟩
    simp only [Act.put, List.setIfInBounds_toArray, List.set_cons_succ, List.set_cons_zero]
    refine wpList_valn rfl (exec_mv rfl (ev rfl)) ?_
    simp only [Act.put, List.setIfInBounds_toArray, List.set_cons_succ, List.set_cons_zero]
    refine wpList_valn rfl (exec_ext rfl (ev rfl) rfl) ?_
    simp only [Act.put, List.setIfInBounds_toArray, List.set_cons_succ, List.set_cons_zero]
    refine wpList_valn rfl (exec_ext rfl (ev rfl) rfl) ?_
    simp only [Act.put, List.setIfInBounds_toArray, List.set_cons_succ, List.set_cons_zero]
    refine wpList_valn rfl (exec_alloc rfl) ?_
    simp only [Act.put, List.setIfInBounds_toArray, List.set_cons_succ, List.set_cons_zero]
    refine wpList_nuln rfl (exec_fill rfl (ev rfl) (ev rfl)) ?_
    simp only [Act.put, List.setIfInBounds_toArray, List.set_cons_succ, List.set_cons_zero]
    obtain ⟨w14, r2, hw_, hq_, hp, hb⟩ := cel_lay w13 x
    rw [hw_, hq_]
    have HWn := Lib.hid (HW.out.to hb)
    clear HW
    have HW := HWn
    clear HWn
    have C1n := Lib.hid (C1.out.below hb)
    clear C1
    have C1 := C1n
    clear C1n
    have C2 := Lib.hid hp
    clear hw_ hq_ hp hb
    refine wpList_valn rfl (exec_as rfl (ev rfl)) ?_
    simp only [Act.put, List.setIfInBounds_toArray, List.set_cons_succ, List.set_cons_zero]
    refine wpList_nil ?_
    go_upto_region 15 with fail
    refine wp_region_lit ?_
    refine wpList_valn rfl (exec_mv rfl (ev rfl)) ?_
    simp only [Act.put, List.setIfInBounds_toArray, List.set_cons_succ, List.set_cons_zero]
    refine wpList_valn rfl (exec_mv rfl (ev rfl)) ?_
    simp only [Act.put, List.setIfInBounds_toArray, List.set_cons_succ, List.set_cons_zero]
    refine wpList_valn rfl (exec_mv rfl (ev rfl)) ?_
    simp only [Act.put, List.setIfInBounds_toArray, List.set_cons_succ, List.set_cons_zero]
    refine wpList_valn rfl (exec_mv rfl (ev rfl)) ?_
    simp only [Act.put, List.setIfInBounds_toArray, List.set_cons_succ, List.set_cons_zero]
    refine wpList_call rfl (exec_cl Try.call15 rfl (evc (ev rfl) evn)) ?_
    refine (refFold_any A1 i c1 w14.heap.size a w14 (HW.out.rdb HA.out) (Nat.le_refl _) (by have := HM15.out; unfold maxLen; omega)).mono ?_
    rintro e w15 ⟨rfl, hb⟩
    have HWn := Lib.hid (HW.out.to hb)
    clear HW
    have HW := HWn
    clear HWn
    have C1n := Lib.hid (C1.out.below hb)
    clear C1
    have C1 := C1n
    clear C1n
    have C2n := Lib.hid (C2.out.below hb)
    clear C2
    have C2 := C2n
    clear C2n
    clear hb
    refine ⟨_, rfl, ?_⟩
    simp only [Act.put, List.setIfInBounds_toArray, List.set_cons_succ, List.set_cons_zero]
    refine wpList_call rfl (exec_cl Try.call12 rfl (evc evk (evc (ev rfl) (evc (ev rfl) (evc (ev rfl) (evc (ev rfl) evn)))))) ?_
    refine (pparity_v 4 A A1 A2 i c i c1 i c2 l a b (fold a) w15 HV4.out HE4.out (HW.out.rd HL.out) (HW.out.rdb HA.out) (HW.out.rdb HB.out) (by have := HM15.out; unfold maxLen; omega)).mono ?_
    rintro e w16 ⟨rfl, hb⟩
    have HWn := Lib.hid (HW.out.to hb)
    clear HW
    have HW := HWn
    clear HWn
    have C1n := Lib.hid (C1.out.below hb)
    clear C1
    have C1 := C1n
    clear C1n
    have C2n := Lib.hid (C2.out.below hb)
    clear C2
    have C2 := C2n
    clear C2n
    clear hb
    refine ⟨_, rfl, ?_⟩
    simp only [Act.put, List.setIfInBounds_toArray, List.set_cons_succ, List.set_cons_zero]
    refine wpList_valn rfl (exec_mv rfl (ev rfl)) ?_
    simp only [Act.put, List.setIfInBounds_toArray, List.set_cons_succ, List.set_cons_zero]
    refine wpList_valn rfl (exec_ext rfl (ev rfl) rfl) ?_
    simp only [Act.put, List.setIfInBounds_toArray, List.set_cons_succ, List.set_cons_zero]
    refine wpList_valn rfl (exec_ext rfl (ev rfl) rfl) ?_
    simp only [Act.put, List.setIfInBounds_toArray, List.set_cons_succ, List.set_cons_zero]
    refine wpList_valn rfl (exec_alloc rfl) ?_
    simp only [Act.put, List.setIfInBounds_toArray, List.set_cons_succ, List.set_cons_zero]
    refine wpList_nuln rfl (exec_fill rfl (ev rfl) (ev rfl)) ?_
    simp only [Act.put, List.setIfInBounds_toArray, List.set_cons_succ, List.set_cons_zero]
    obtain ⟨w17, r3, hw_, hq_, hp, hb⟩ := cel_lay w16 x
    rw [hw_, hq_]
    have HWn := Lib.hid (HW.out.to hb)
    clear HW
    have HW := HWn
    clear HWn
    have C1n := Lib.hid (C1.out.below hb)
    clear C1
    have C1 := C1n
    clear C1n
    have C2n := Lib.hid (C2.out.below hb)
    clear C2
    have C2 := C2n
    clear C2n
    have C3 := Lib.hid hp
    clear hw_ hq_ hp hb
    refine wpList_valn rfl (exec_as rfl (ev rfl)) ?_
    simp only [Act.put, List.setIfInBounds_toArray, List.set_cons_succ, List.set_cons_zero]
    refine wpList_nil ?_
    go_upto_region 16 with fail
    refine wp_region_lit ?_
    refine wpList_valn rfl (exec_mv rfl (ev rfl)) ?_
    simp only [Act.put, List.setIfInBounds_toArray, List.set_cons_succ, List.set_cons_zero]
    refine wpList_valn rfl (exec_mv rfl (ev rfl)) ?_
    simp only [Act.put, List.setIfInBounds_toArray, List.set_cons_succ, List.set_cons_zero]
    refine wpList_valn rfl (exec_mv rfl (ev rfl)) ?_
    simp only [Act.put, List.setIfInBounds_toArray, List.set_cons_succ, List.set_cons_zero]
    refine wpList_valn rfl (exec_build (c := zeroB) (parts := []) rfl rfl) ?_
    simp only [Act.put, List.setIfInBounds_toArray, List.set_cons_succ, List.set_cons_zero]
    refine wpList_call rfl (exec_cl Try.call12 rfl (evc evk (evc (ev rfl) (evc (ev rfl) (evc (ev rfl) (evc (ev rfl) evn)))))) ?_
    refine (pparity_v 2 A A1 A2 i c i c1 i c2 l a b zeroB w17 HV2.out HE2.out (HW.out.rd HL.out) (HW.out.rdb HA.out) (HW.out.rdb HB.out) (by have := HM15.out; unfold maxLen; omega)).mono ?_
    rintro e w18 ⟨rfl, hb⟩
    have HWn := Lib.hid (HW.out.to hb)
    clear HW
    have HW := HWn
    clear HWn
    have C1n := Lib.hid (C1.out.below hb)
    clear C1
    have C1 := C1n
    clear C1n
    have C2n := Lib.hid (C2.out.below hb)
    clear C2
    have C2 := C2n
    clear C2n
    have C3n := Lib.hid (C3.out.below hb)
    clear C3
    have C3 := C3n
    clear C3n
    clear hb
    refine ⟨_, rfl, ?_⟩
    simp only [Act.put, List.setIfInBounds_toArray, List.set_cons_succ, List.set_cons_zero]
    refine wpList_valn rfl (exec_mv rfl (ev rfl)) ?_
    simp only [Act.put, List.setIfInBounds_toArray, List.set_cons_succ, List.set_cons_zero]
    refine wpList_valn rfl (exec_ext rfl (ev rfl) rfl) ?_
    simp only [Act.put, List.setIfInBounds_toArray, List.set_cons_succ, List.set_cons_zero]
    refine wpList_valn rfl (exec_ext rfl (ev rfl) rfl) ?_
    simp only [Act.put, List.setIfInBounds_toArray, List.set_cons_succ, List.set_cons_zero]
    refine wpList_valn rfl (exec_alloc rfl) ?_
    simp only [Act.put, List.setIfInBounds_toArray, List.set_cons_succ, List.set_cons_zero]
    refine wpList_nuln rfl (exec_fill rfl (ev rfl) (ev rfl)) ?_
    simp only [Act.put, List.setIfInBounds_toArray, List.set_cons_succ, List.set_cons_zero]
    obtain ⟨w19, r4, hw_, hq_, hp, hb⟩ := cel_lay w18 (fold b)
    rw [hw_, hq_]
    have HWn := Lib.hid (HW.out.to hb)
    clear HW
    have HW := HWn
    clear HWn
    have C1n := Lib.hid (C1.out.below hb)
    clear C1
    have C1 := C1n
    clear C1n
    have C2n := Lib.hid (C2.out.below hb)
    clear C2
    have C2 := C2n
    clear C2n
    have C3n := Lib.hid (C3.out.below hb)
    clear C3
    have C3 := C3n
    clear C3n
    have C4 := Lib.hid hp
    clear hw_ hq_ hp hb
    refine wpList_valn rfl (exec_as rfl (ev rfl)) ?_
    simp only [Act.put, List.setIfInBounds_toArray, List.set_cons_succ, List.set_cons_zero]
    refine wpList_nil ?_
    obtain ⟨t, ht⟩ : ∃ t, allB l i = t := ⟨_, rfl⟩
    have HTT := Lib.hid ht
    rw [ht]
    clear ht
    cases t
    · go_upto_region 17 with fail
      refine wp_region_lit ?_
      refine wpList_valn rfl (exec_mv rfl (ev rfl)) ?_
      simp only [Act.put, List.setIfInBounds_toArray, List.set_cons_succ, List.set_cons_zero]
      refine wpList_valn (v := .bool true) rfl (exec_eqInt true rfl (ev rfl) evk (by decide)) ?_
      simp only [Act.put, List.setIfInBounds_toArray, List.set_cons_succ, List.set_cons_zero]
      refine wpList_valn (v := .bool true) rfl (exec_mv rfl (ev rfl)) ?_
      simp only [Act.put, List.setIfInBounds_toArray, List.set_cons_succ, List.set_cons_zero]
      refine wpList_val (wanted_of rfl rfl rfl rfl) (exec_mv rfl (ev rfl)) ?_
      simp only [Act.put, List.setIfInBounds_toArray, List.set_cons_succ, List.set_cons_zero]
      refine wpList_val (v := .bool true) (wanted_of rfl rfl rfl rfl) (exec_eqInt true rfl (ev rfl) evk (by decide)) ?_
      simp only [Act.put, List.setIfInBounds_toArray, List.set_cons_succ, List.set_cons_zero]
      refine wpList_valn (v := .bool true) rfl (exec_pt rfl (ev rfl) (ev rfl)) ?_
      simp only [Act.put, List.setIfInBounds_toArray, List.set_cons_succ, List.set_cons_zero]
      refine wpList_valn (v := .bool true) rfl (exec_mv rfl (ev rfl)) ?_
      simp only [Act.put, List.setIfInBounds_toArray, List.set_cons_succ, List.set_cons_zero]
      refine wpList_val (wanted_of rfl rfl rfl rfl) (exec_mv rfl (ev rfl)) ?_
      simp only [Act.put, List.setIfInBounds_toArray, List.set_cons_succ, List.set_cons_zero]
      refine wpList_val (v := .bool true) (wanted_of rfl rfl rfl rfl) (exec_eqInt true rfl (ev rfl) evk (by decide)) ?_
      simp only [Act.put, List.setIfInBounds_toArray, List.set_cons_succ, List.set_cons_zero]
      refine wpList_valn (v := .bool true) rfl (exec_pt rfl (ev rfl) (ev rfl)) ?_
      simp only [Act.put, List.setIfInBounds_toArray, List.set_cons_succ, List.set_cons_zero]
      refine wpList_valn (v := .bool true) rfl (exec_mv rfl (ev rfl)) ?_
      simp only [Act.put, List.setIfInBounds_toArray, List.set_cons_succ, List.set_cons_zero]
      refine wpList_val (wanted_of rfl rfl rfl rfl) (exec_load rfl (ev rfl) C2.out.rng) ?_
      simp only [Act.put, List.setIfInBounds_toArray, List.set_cons_succ, List.set_cons_zero]
      refine wpList_val (wanted_of rfl rfl rfl rfl) (exec_load rfl (ev rfl) C1.out.rng) ?_
      simp only [Act.put, List.setIfInBounds_toArray, List.set_cons_succ, List.set_cons_zero]
      refine wpList_val (v := .bool true) (wanted_of rfl rfl rfl rfl) (exec_eqlB true rfl (ev rfl) (ev rfl) (decide_eq_true rfl)) ?_
      simp only [Act.put, List.setIfInBounds_toArray, List.set_cons_succ, List.set_cons_zero]
      refine wpList_valn (v := .bool true) rfl (exec_pt rfl (ev rfl) (ev rfl)) ?_
      simp only [Act.put, List.setIfInBounds_toArray, List.set_cons_succ, List.set_cons_zero]
      refine wpList_valn (v := .bool true) rfl (exec_mv rfl (ev rfl)) ?_
      simp only [Act.put, List.setIfInBounds_toArray, List.set_cons_succ, List.set_cons_zero]
      refine wpList_val (wanted_of rfl rfl rfl rfl) (exec_load rfl (ev rfl) C3.out.rng) ?_
      simp only [Act.put, List.setIfInBounds_toArray, List.set_cons_succ, List.set_cons_zero]
      refine wpList_val (wanted_of rfl rfl rfl rfl) (exec_load rfl (ev rfl) C1.out.rng) ?_
      simp only [Act.put, List.setIfInBounds_toArray, List.set_cons_succ, List.set_cons_zero]
      refine wpList_val (v := .bool true) (wanted_of rfl rfl rfl rfl) (exec_eqlB true rfl (ev rfl) (ev rfl) (decide_eq_true rfl)) ?_
      simp only [Act.put, List.setIfInBounds_toArray, List.set_cons_succ, List.set_cons_zero]
      refine wpList_valn (v := .bool true) rfl (exec_pt rfl (ev rfl) (ev rfl)) ?_
      simp only [Act.put, List.setIfInBounds_toArray, List.set_cons_succ, List.set_cons_zero]
      refine wpList_valn (v := .bool true) rfl (exec_mv rfl (ev rfl)) ?_
      simp only [Act.put, List.setIfInBounds_toArray, List.set_cons_succ, List.set_cons_zero]
      refine wpList_val (v := .bool false) (wanted_of rfl rfl rfl rfl) (exec_mv rfl (ev rfl)) ?_
      simp only [Act.put, List.setIfInBounds_toArray, List.set_cons_succ, List.set_cons_zero]
      refine wpList_val (v := .bool true) (wanted_of rfl rfl rfl rfl) (exec_not false rfl (ev rfl)) ?_
      simp only [Act.put, List.setIfInBounds_toArray, List.set_cons_succ, List.set_cons_zero]
      refine wpList_skips 3 (v := .bool true) (wanted_of rfl rfl rfl rfl) (exec_mv rfl (ev rfl)) (by kernel_rfl) ?_
      simp only [skipAct, List.take_succ_cons, List.take_zero, List.drop_succ_cons, List.drop_zero, Act.put, List.setIfInBounds_toArray, List.set_cons_succ, List.set_cons_zero]
      refine wpList_val (v := .bool true) (wanted_of rfl rfl rfl rfl) (exec_pt rfl (ev rfl) evk) ?_
      simp only [Act.put, List.setIfInBounds_toArray, List.set_cons_succ, List.set_cons_zero]
      refine wpList_valn (v := .bool true) rfl (exec_pt rfl (ev rfl) (ev rfl)) ?_
      simp only [Act.put, List.setIfInBounds_toArray, List.set_cons_succ, List.set_cons_zero]
      refine wpList_valn (v := .bool true) rfl (exec_mv rfl (ev rfl)) ?_
      simp only [Act.put, List.setIfInBounds_toArray, List.set_cons_succ, List.set_cons_zero]
      refine wpList_call (wanted_of rfl rfl rfl rfl) (exec_cl Try.call11 rfl evn) ?_
      refine (nlives w19).mono ?_
      rintro e w20 ⟨rfl, hb⟩
      have HWn := Lib.hid (HW.out.to hb)
      clear HW
      have HW := HWn
      clear HWn
      have C1n := Lib.hid (C1.out.below hb)
      clear C1
      have C1 := C1n
      clear C1n
      have C2n := Lib.hid (C2.out.below hb)
      clear C2
      have C2 := C2n
      clear C2n
      have C3n := Lib.hid (C3.out.below hb)
      clear C3
      have C3 := C3n
      clear C3n
      have C4n := Lib.hid (C4.out.below hb)
      clear C4
      have C4 := C4n
      clear C4n
      clear hb
      refine ⟨_, rfl, ?_⟩
      simp only [Act.put, List.setIfInBounds_toArray, List.set_cons_succ, List.set_cons_zero]
      refine wpList_valn (v := .bool true) rfl (exec_pt rfl (ev rfl) (ev rfl)) ?_
      simp only [Act.put, List.setIfInBounds_toArray, List.set_cons_succ, List.set_cons_zero]
      refine wpList_valn (v := .bool true) rfl (exec_as rfl (ev rfl)) ?_
      simp only [Act.put, List.setIfInBounds_toArray, List.set_cons_succ, List.set_cons_zero]
      refine wpList_nil ?_
      go_wp2_with fail
      go_ret
      exact ⟨rfl, HW.out.1⟩
    · go_upto_region 17 with fail
      refine wp_region_lit ?_
      refine wpList_valn rfl (exec_mv rfl (ev rfl)) ?_
      simp only [Act.put, List.setIfInBounds_toArray, List.set_cons_succ, List.set_cons_zero]
      refine wpList_valn (v := .bool true) rfl (exec_eqInt true rfl (ev rfl) evk (by decide)) ?_
      simp only [Act.put, List.setIfInBounds_toArray, List.set_cons_succ, List.set_cons_zero]
      refine wpList_valn (v := .bool true) rfl (exec_mv rfl (ev rfl)) ?_
      simp only [Act.put, List.setIfInBounds_toArray, List.set_cons_succ, List.set_cons_zero]
      refine wpList_val (wanted_of rfl rfl rfl rfl) (exec_mv rfl (ev rfl)) ?_
      simp only [Act.put, List.setIfInBounds_toArray, List.set_cons_succ, List.set_cons_zero]
      refine wpList_val (v := .bool true) (wanted_of rfl rfl rfl rfl) (exec_eqInt true rfl (ev rfl) evk (by decide)) ?_
      simp only [Act.put, List.setIfInBounds_toArray, List.set_cons_succ, List.set_cons_zero]
      refine wpList_valn (v := .bool true) rfl (exec_pt rfl (ev rfl) (ev rfl)) ?_
      simp only [Act.put, List.setIfInBounds_toArray, List.set_cons_succ, List.set_cons_zero]
      refine wpList_valn (v := .bool true) rfl (exec_mv rfl (ev rfl)) ?_
      simp only [Act.put, List.setIfInBounds_toArray, List.set_cons_succ, List.set_cons_zero]
      refine wpList_val (wanted_of rfl rfl rfl rfl) (exec_mv rfl (ev rfl)) ?_
      simp only [Act.put, List.setIfInBounds_toArray, List.set_cons_succ, List.set_cons_zero]
      refine wpList_val (v := .bool true) (wanted_of rfl rfl rfl rfl) (exec_eqInt true rfl (ev rfl) evk (by decide)) ?_
      simp only [Act.put, List.setIfInBounds_toArray, List.set_cons_succ, List.set_cons_zero]
      refine wpList_valn (v := .bool true) rfl (exec_pt rfl (ev rfl) (ev rfl)) ?_
      simp only [Act.put, List.setIfInBounds_toArray, List.set_cons_succ, List.set_cons_zero]
      refine wpList_valn (v := .bool true) rfl (exec_mv rfl (ev rfl)) ?_
      simp only [Act.put, List.setIfInBounds_toArray, List.set_cons_succ, List.set_cons_zero]
      refine wpList_val (wanted_of rfl rfl rfl rfl) (exec_load rfl (ev rfl) C2.out.rng) ?_
      simp only [Act.put, List.setIfInBounds_toArray, List.set_cons_succ, List.set_cons_zero]
      refine wpList_val (wanted_of rfl rfl rfl rfl) (exec_load rfl (ev rfl) C1.out.rng) ?_
      simp only [Act.put, List.setIfInBounds_toArray, List.set_cons_succ, List.set_cons_zero]
      refine wpList_val (v := .bool true) (wanted_of rfl rfl rfl rfl) (exec_eqlB true rfl (ev rfl) (ev rfl) (decide_eq_true rfl)) ?_
      simp only [Act.put, List.setIfInBounds_toArray, List.set_cons_succ, List.set_cons_zero]
      refine wpList_valn (v := .bool true) rfl (exec_pt rfl (ev rfl) (ev rfl)) ?_
      simp only [Act.put, List.setIfInBounds_toArray, List.set_cons_succ, List.set_cons_zero]
      refine wpList_valn (v := .bool true) rfl (exec_mv rfl (ev rfl)) ?_
      simp only [Act.put, List.setIfInBounds_toArray, List.set_cons_succ, List.set_cons_zero]
      refine wpList_val (wanted_of rfl rfl rfl rfl) (exec_load rfl (ev rfl) C3.out.rng) ?_
      simp only [Act.put, List.setIfInBounds_toArray, List.set_cons_succ, List.set_cons_zero]
      refine wpList_val (wanted_of rfl rfl rfl rfl) (exec_load rfl (ev rfl) C1.out.rng) ?_
      simp only [Act.put, List.setIfInBounds_toArray, List.set_cons_succ, List.set_cons_zero]
      refine wpList_val (v := .bool true) (wanted_of rfl rfl rfl rfl) (exec_eqlB true rfl (ev rfl) (ev rfl) (decide_eq_true rfl)) ?_
      simp only [Act.put, List.setIfInBounds_toArray, List.set_cons_succ, List.set_cons_zero]
      refine wpList_valn (v := .bool true) rfl (exec_pt rfl (ev rfl) (ev rfl)) ?_
      simp only [Act.put, List.setIfInBounds_toArray, List.set_cons_succ, List.set_cons_zero]
      refine wpList_valn (v := .bool true) rfl (exec_mv rfl (ev rfl)) ?_
      simp only [Act.put, List.setIfInBounds_toArray, List.set_cons_succ, List.set_cons_zero]
      refine wpList_val (v := .bool true) (wanted_of rfl rfl rfl rfl) (exec_mv rfl (ev rfl)) ?_
      simp only [Act.put, List.setIfInBounds_toArray, List.set_cons_succ, List.set_cons_zero]
      refine wpList_val (v := .bool false) (wanted_of rfl rfl rfl rfl) (exec_not true rfl (ev rfl)) ?_
      simp only [Act.put, List.setIfInBounds_toArray, List.set_cons_succ, List.set_cons_zero]
      refine wpList_val (v := .bool false) (wanted_of rfl rfl rfl rfl) (exec_mv rfl (ev rfl)) ?_
      simp only [Act.put, List.setIfInBounds_toArray, List.set_cons_succ, List.set_cons_zero]
      refine wpList_val (wanted_of rfl rfl rfl rfl) (exec_load rfl (ev rfl) C4.out.rng) ?_
      simp only [Act.put, List.setIfInBounds_toArray, List.set_cons_succ, List.set_cons_zero]
      refine wpList_val (wanted_of rfl rfl rfl rfl) (exec_load rfl (ev rfl) C1.out.rng) ?_
      simp only [Act.put, List.setIfInBounds_toArray, List.set_cons_succ, List.set_cons_zero]
      refine wpList_val (v := .bool true) (wanted_of rfl rfl rfl rfl) (exec_eqlB true rfl (ev rfl) (ev rfl) (decide_eq_true (HALL.out HTT.out))) ?_
      simp only [Act.put, List.setIfInBounds_toArray, List.set_cons_succ, List.set_cons_zero]
      refine wpList_val (v := .bool true) (wanted_of rfl rfl rfl rfl) (exec_pf rfl (ev rfl) (ev rfl)) ?_
      simp only [Act.put, List.setIfInBounds_toArray, List.set_cons_succ, List.set_cons_zero]
      refine wpList_valn (v := .bool true) rfl (exec_pt rfl (ev rfl) (ev rfl)) ?_
      simp only [Act.put, List.setIfInBounds_toArray, List.set_cons_succ, List.set_cons_zero]
      refine wpList_valn (v := .bool true) rfl (exec_mv rfl (ev rfl)) ?_
      simp only [Act.put, List.setIfInBounds_toArray, List.set_cons_succ, List.set_cons_zero]
      refine wpList_call (wanted_of rfl rfl rfl rfl) (exec_cl Try.call11 rfl evn) ?_
      refine (nlives w19).mono ?_
      rintro e w20 ⟨rfl, hb⟩
      have HWn := Lib.hid (HW.out.to hb)
      clear HW
      have HW := HWn
      clear HWn
      have C1n := Lib.hid (C1.out.below hb)
      clear C1
      have C1 := C1n
      clear C1n
      have C2n := Lib.hid (C2.out.below hb)
      clear C2
      have C2 := C2n
      clear C2n
      have C3n := Lib.hid (C3.out.below hb)
      clear C3
      have C3 := C3n
      clear C3n
      have C4n := Lib.hid (C4.out.below hb)
      clear C4
      have C4 := C4n
      clear C4n
      clear hb
      refine ⟨_, rfl, ?_⟩
      simp only [Act.put, List.setIfInBounds_toArray, List.set_cons_succ, List.set_cons_zero]
      refine wpList_valn (v := .bool true) rfl (exec_pt rfl (ev rfl) (ev rfl)) ?_
      simp only [Act.put, List.setIfInBounds_toArray, List.set_cons_succ, List.set_cons_zero]
      refine wpList_valn (v := .bool true) rfl (exec_as rfl (ev rfl)) ?_
      simp only [Act.put, List.setIfInBounds_toArray, List.set_cons_succ, List.set_cons_zero]
      refine wpList_nil ?_
      go_wp2_with fail
      go_ret
      exact ⟨rfl, HW.out.1⟩
end Go.Proofs.Ytplanbjjfaihbaa
