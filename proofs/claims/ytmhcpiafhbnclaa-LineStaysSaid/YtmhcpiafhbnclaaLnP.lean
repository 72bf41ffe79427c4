/-
  The program's line: its functions over its block; what they answer and leave, as the interface asks.
-/
import Derived.Test.YtmhcpiafhbnclaaLnI
import Derived.Test.YtmhcpiafhbnclaaLnK
namespace Go.Proofs.Ytmhcpiafhbnclaa
open Go.RowKit
set_option linter.unusedVariables false
set_option linter.unusedSimpArgs false
set_option maxRecDepth 100000

/-! ### Its type -/
theorem zeroPl : (Try.prog.info? 54).map (fun i => i.zero) = some (some (.agg (lnCs (lf0 0)).toArray)) := by kernel_rfl
theorem no16_zero : (Try.prog.info? 51).map (fun i => i.zero) = some (some (.agg no16.toArray)) := by kernel_rfl
theorem no16_size : (Try.prog.info? 51).map (·.size) = some 16 := by kernel_rfl
section
variable {ρ : Operand → Value} {o : Oper} {x y z : Operand} {w : World} {b off p j : Nat} {c : Blk}
theorem faPl0 : (Instr.fieldAt 54 (.pointer (some ⟨b, 0, none⟩)) 0).run Try.prog w = .ok (.pointer (some ⟨b, 0, none⟩)) w := by kernel_rfl
theorem faPl1 : (Instr.fieldAt 54 (.pointer (some ⟨b, 0, none⟩)) 1).run Try.prog w = .ok (.pointer (some ⟨b, 1, none⟩)) w := by kernel_rfl
theorem faPl2 : (Instr.fieldAt 54 (.pointer (some ⟨b, 0, none⟩)) 2).run Try.prog w = .ok (.pointer (some ⟨b, 17, none⟩)) w := by kernel_rfl
theorem faPl3 : (Instr.fieldAt 54 (.pointer (some ⟨b, 0, none⟩)) 3).run Try.prog w = .ok (.pointer (some ⟨b, 33, none⟩)) w := by kernel_rfl
theorem faPl4 : (Instr.fieldAt 54 (.pointer (some ⟨b, 0, none⟩)) 4).run Try.prog w = .ok (.pointer (some ⟨b, 1057, none⟩)) w := by kernel_rfl
theorem ixPb (hj : j < 16) : (Instr.indexAt 51 (.pointer (some ⟨b, off, none⟩)) (.int .i64 (j : Int))).run Try.prog w = .ok (.pointer (some ⟨b, off + j, none⟩)) w := by
  have e : (0 ≤ (j : Int) ∧ (j : Int) < 16) := by omega
  simp [Instr.indexAt, Instr.sureAddr, asIntOf, run_underlying Try.underlying51, Try.sizeOf4, Addr.add_mid, e, hj]
theorem ixPk (hj : j < 16) : (Instr.indexAt 52 (.pointer (some ⟨b, off, none⟩)) (.int .i64 (j : Int))).run Try.prog w = .ok (.pointer (some ⟨b, off + j * 64, none⟩)) w := by
  have e : (0 ≤ (j : Int) ∧ (j : Int) < 16) := by omega
  simp [Instr.indexAt, Instr.sureAddr, asIntOf, run_underlying Try.underlying52, Try.sizeOf33, Addr.add_mid, e, hj]
theorem stU64_ {ad : Addr} {u : Value} {n : Int} (h : w.cell? ad = some u) (hf : w.frozen? ad = false) : (Instr.storeAt 34 (.pointer (some ad)) (.int .u64 n)).run Try.prog w = .ok () (w.setCell ad (.int .u64 n)) := by simp [go_sem, h, hf]
theorem lnCs_head (n : Int) : lnCs (lf0 n) = .int .i64 n :: (lnCs (lf0 0)).tail := by
  refine List.ext_getElem? fun i => ?_
  cases i with
  | zero => rw [lnCs_at _ (by omega)]; rfl
  | succ i =>
    rw [List.getElem?_cons_succ, List.getElem?_tail]
    by_cases hi : i + 1 < 1058
    · rw [lnCs_at _ hi, lnCs_at _ hi]; unfold lnCel; rw [if_neg (show ¬ i + 1 = 0 by omega)]; rfl
    · rw [List.getElem?_eq_none (by rw [lnCs_len]; omega), List.getElem?_eq_none (by rw [lnCs_len]; omega)]
theorem run_bldPl0 : (Instr.build 54 #[]).run Try.prog w = .ok (.agg (lnCs (lf0 0)).toArray) w := by kernel_rfl
theorem run_bldPl (n : Int) : (Instr.build 54 #[(0, .int .i64 n)]).run Try.prog w = .ok (.agg (lnCs (lf0 n)).toArray) w := by
  have hz := run_zeroT zeroPl w
  have h1 := fill_one (place := fun i => (#[(0, 1), (1, 16), (17, 16), (33, 1024), (1057, 1)] : Array (Nat × Nat))[i]?) (i := 0) (off := 0) (size := 1) (v := .int .i64 n) (pre := []) (mid := [.int .i64 0]) (post := (lnCs (lf0 0)).tail) (vs := [.int .i64 n]) (rest := []) rfl rfl rfl rfl rfl
  simp only [List.nil_append, List.append_nil, List.cons_append] at h1
  rw [← lnCs_head n, ← lnCs_head 0] at h1
  have hc : (Value.agg (lnCs (lf0 0)).toArray).cells = (lnCs (lf0 0)).toArray := rfl
  simp only [Instr.build, Sem.run_bind, hz, run_underlying Try.underlying54, Result.andThen_ok, hc]
  refine Eq.trans (congrArg (fun r => Result.andThen r _) (?h : _ = Result.ok #[(0, 1), (1, 16), (17, 16), (33, 1024), (1057, 1)] w)) ?_
  case h => kernel_rfl
  simp only [Result.andThen_ok]
  have h4 : Instr.fill (fun i => (#[(0, 1), (1, 16), (17, 16), (33, 1024), (1057, 1)] : Array (Nat × Nat))[i]?) (lnCs (lf0 n)).toArray [] = some (lnCs (lf0 n)).toArray := by rw [Instr.fill]
  rw [h1.trans h4]
  rfl
theorem run_no16 : (Instr.build 51 #[]).run Try.prog w = .ok (.agg no16.toArray) w := by kernel_rfl
theorem exec_put16 (ho : o.op = .store 51 x y) (hx : ρ x = .pointer (some ⟨b, off, none⟩)) (hy : ρ y = .agg no16.toArray) (ht : w.there b off 16) : (execOp ρ o).run Try.prog w = .ok .skip (w.setCells b off no16) :=
  exec_putT no16_size (fun v hv => by simp [no16] at hv; subst hv; rfl) ho hx hy ht
end
/-! ### What it turns -/
/-- Of the program's kind. -/
def isPn : Obj → Prop
  | .cells _ t _ => t = 54
  | _ => False
section
variable {w w' : World} {p B : Nat} {x : LnF} {s : LnS}
theorem LnA.keep (h : LnA w p x) (hk : ∀ (b : Nat) (o : Obj), w.heap[b]? = some o → isPn o → w'.heap[b]? = some o) : LnA w' p x := hk _ _ h rfl
theorem LnA.below (h : LnA w p x) (hb : Below w.heap.size w w') : LnA w' p x := blk_keep h hb
theorem LnA.drew (h : LnA w p x) : LnA w.drew p x := h
theorem LnA.t1 {w0 : World} (h : LnA w p x) (ht : Turn isPn B w0 w) (hB : B ≤ p) (j : Nat) (u : Value) : Turn isPn B w0 (w.setCell ⟨p, j, none⟩ u) := ht.setCell (p := ⟨p, j, none⟩) hB h rfl u
theorem LnA.tn {w0 : World} (h : LnA w p x) (ht : Turn isPn B w0 w) (hB : B ≤ p) (o : Nat) (vs : List Value) : Turn isPn B w0 (w.setCells p o vs) := ht.setCells hB h (fun _ => rfl) o vs
end
theorem pl_members (w : World) {p : Nat} {x : LnF} (h : LnA w p x) : Calls Try.prog 20 #[.pointer (some ⟨p, 0, none⟩)] w fun e w' => e = .returned (.int .i64 x.n) ∧ w = w' := by
  have HL := Lib.hid h
  clear h
  go_enter Try.func20, Try.ntmps20
  go_upto_region 1 with fail
  refine wp_region_lit ?_
  refine wpList_valn rfl (exec_mv rfl (ev rfl)) ?_
  simp only [Act.put, List.setIfInBounds_toArray, List.set_cons_succ, List.set_cons_zero]
  refine wpList_valn (v := .bool false) rfl (exec_eqNil false Try.underlying23 rfl (ev rfl) evk rfl) ?_
  simp only [Act.put, List.setIfInBounds_toArray, List.set_cons_succ, List.set_cons_zero]
  refine wpList_nil ?_
  go_upto_region 3 with fail
  refine wp_region_lit ?_
  refine wpList_valn rfl (exec_mv rfl (ev rfl)) ?_
  simp only [Act.put, List.setIfInBounds_toArray, List.set_cons_succ, List.set_cons_zero]
  refine wpList_valn rfl (exec_nil rfl (ev rfl)) ?_
  simp only [Act.put, List.setIfInBounds_toArray, List.set_cons_succ, List.set_cons_zero]
  refine wpList_valn rfl (exec_faddr rfl (ev rfl) faPl0) ?_
  simp only [Act.put, List.setIfInBounds_toArray, List.set_cons_succ, List.set_cons_zero]
  refine wpList_valn rfl (exec_ld rfl (ev rfl) (ldInt HL.out.cN)) ?_
  simp only [Act.put, List.setIfInBounds_toArray, List.set_cons_succ, List.set_cons_zero]
  refine wpList_valn rfl (exec_as rfl (ev rfl)) ?_
  simp only [Act.put, List.setIfInBounds_toArray, List.set_cons_succ, List.set_cons_zero]
  refine wpList_nil ?_
  go_wp2_with fail
  go_ret
  exact ⟨rfl, rfl⟩
theorem pl_members0 (w : World) : Calls Try.prog 20 #[.pointer none] w fun e w' => e = .returned (.int .i64 0) ∧ w = w' := by
  go_enter Try.func20, Try.ntmps20
  go_upto_region 1 with fail
  refine wp_region_lit ?_
  refine wpList_valn rfl (exec_mv rfl (ev rfl)) ?_
  simp only [Act.put, List.setIfInBounds_toArray, List.set_cons_succ, List.set_cons_zero]
  refine wpList_valn (v := .bool true) rfl (exec_eqNil true Try.underlying23 rfl (ev rfl) evk rfl) ?_
  simp only [Act.put, List.setIfInBounds_toArray, List.set_cons_succ, List.set_cons_zero]
  refine wpList_nil ?_
  go_wp2_with fail
  go_ret
  exact ⟨rfl, rfl⟩
/-- No line: nil, or a zero one. -/
def NoL (w : World) (v : Value) : Prop := v = .pointer none ∨ ∃ p, v = .pointer (some ⟨p, 0, none⟩) ∧ LnA w p (lf0 0)
theorem NoL.below {w w' : World} {v : Value} (h : NoL w v) (hb : Below w.heap.size w w') : NoL w' v := by
  rcases h with h | ⟨p, h, h1⟩
  · exact .inl h
  · exact .inr ⟨p, h, h1.below hb⟩
theorem pl_members_no (w : World) {v : Value} (h : NoL w v) : Calls Try.prog 20 #[v] w fun e w' => e = .returned (.int .i64 0) ∧ w = w' := by
  rcases h with rfl | ⟨p, rfl, h⟩
  · exact pl_members0 w
  · exact pl_members w h
theorem pl_made (w : World) {v : Value} {n : Int} (t : Bool) (h : Calls Try.prog 20 #[v] w fun e w' => e = .returned (.int .i64 n) ∧ w = w') (ht : decide (0 < n) = t) : Calls Try.prog 30 #[v] w fun e w' => e = .returned (.bool t) ∧ w = w' := by
  have HC := Lib.hid h
  have HT := Lib.hid ht
  clear h ht
  go_enter Try.func30, Try.ntmps30
  go_upto_region 1 with fail
  refine wp_region_lit ?_
  refine wpList_valn rfl (exec_mv rfl (ev rfl)) ?_
  simp only [Act.put, List.setIfInBounds_toArray, List.set_cons_succ, List.set_cons_zero]
  refine wpList_call rfl (exec_cl Try.call20 rfl (evc (ev rfl) evn)) ?_
  refine (HC.out).mono ?_
  rintro e w' ⟨rfl, rfl⟩
  refine ⟨_, rfl, ?_⟩
  simp only [Act.put, List.setIfInBounds_toArray, List.set_cons_succ, List.set_cons_zero]
  refine wpList_valn rfl (exec_gtr t rfl (ev rfl) evk HT.out) ?_
  simp only [Act.put, List.setIfInBounds_toArray, List.set_cons_succ, List.set_cons_zero]
  refine wpList_valn rfl (exec_as rfl (ev rfl)) ?_
  simp only [Act.put, List.setIfInBounds_toArray, List.set_cons_succ, List.set_cons_zero]
  refine wpList_nil ?_
  go_wp2_with fail
  go_ret
  exact ⟨rfl, rfl⟩
theorem pl_may_no (w : World) (v : Value) (m : Int) (h : NoL w v) : Calls Try.prog 28 #[v, .int .i64 m] w fun e w' => e = .returned (.int .i64 1) ∧ w = w' := by
  have HC := Lib.hid (pl_made w false (pl_members_no w h) (by decide))
  clear h
  go_enter Try.func28, Try.ntmps28
  go_upto_region 1 with fail
  refine wp_region_lit ?_
  refine wpList_valn rfl (exec_mv rfl (ev rfl)) ?_
  simp only [Act.put, List.setIfInBounds_toArray, List.set_cons_succ, List.set_cons_zero]
  refine wpList_call rfl (exec_cl Try.call30 rfl (evc (ev rfl) evn)) ?_
  refine (HC.out).mono ?_
  rintro e w' ⟨rfl, rfl⟩
  refine ⟨_, rfl, ?_⟩
  simp only [Act.put, List.setIfInBounds_toArray, List.set_cons_succ, List.set_cons_zero]
  refine wpList_valn (v := .bool true) rfl (exec_not false rfl (ev rfl)) ?_
  simp only [Act.put, List.setIfInBounds_toArray, List.set_cons_succ, List.set_cons_zero]
  refine wpList_valn (v := .bool true) rfl (exec_as rfl (ev rfl)) ?_
  simp only [Act.put, List.setIfInBounds_toArray, List.set_cons_succ, List.set_cons_zero]
  refine wpList_nil ?_
  go_wp2_with fail
  go_ret
  exact ⟨rfl, rfl⟩
theorem pl_may (w : World) (m : Int) {p : Nat} {s : LnS} (h : LnA w p (lf s)) (hs : LnOk s) : Calls Try.prog 28 #[.pointer (some ⟨p, 0, none⟩), .int .i64 m] w fun e w' => e = .returned (.int .i64 (lnE s m)) ∧ w = w' := by
  have HC := Lib.hid (pl_made w true (pl_members w h) (decide_eq_true (by have := hs.lo; show (0 : Int) < (s.l.length : Int); omega)))
  have HL := Lib.hid h
  clear h hs
  go_enter Try.func28, Try.ntmps28
  go_upto_region 1 with fail
  refine wp_region_lit ?_
  refine wpList_valn rfl (exec_mv rfl (ev rfl)) ?_
  simp only [Act.put, List.setIfInBounds_toArray, List.set_cons_succ, List.set_cons_zero]
  refine wpList_call rfl (exec_cl Try.call30 rfl (evc (ev rfl) evn)) ?_
  refine (HC.out).mono ?_
  rintro e w' ⟨rfl, rfl⟩
  refine ⟨_, rfl, ?_⟩
  simp only [Act.put, List.setIfInBounds_toArray, List.set_cons_succ, List.set_cons_zero]
  refine wpList_valn (v := .bool false) rfl (exec_not true rfl (ev rfl)) ?_
  simp only [Act.put, List.setIfInBounds_toArray, List.set_cons_succ, List.set_cons_zero]
  refine wpList_valn (v := .bool false) rfl (exec_as rfl (ev rfl)) ?_
  simp only [Act.put, List.setIfInBounds_toArray, List.set_cons_succ, List.set_cons_zero]
  refine wpList_nil ?_
  by_cases h0 : m < 0
  · have H0 : Hid (decide (m < 0) = true) := Lib.hid (decide_eq_true h0)
    have HE : Hid (lnE s m = 2) := Lib.hid (lnE_no (by unfold lnR; rw [decide_eq_false (by omega)]; rfl))
    clear h0
    go_upto_region 3 with fail
    refine wp_region_lit ?_
    refine wpList_valn rfl (exec_mv rfl (ev rfl)) ?_
    simp only [Act.put, List.setIfInBounds_toArray, List.set_cons_succ, List.set_cons_zero]
    refine wpList_valn (v := .bool true) rfl (exec_lss true rfl (ev rfl) evk H0.out) ?_
    simp only [Act.put, List.setIfInBounds_toArray, List.set_cons_succ, List.set_cons_zero]
    refine wpList_skips 6 (v := .bool true) rfl (exec_mv rfl (ev rfl)) (by kernel_rfl) ?_
    simp only [skipAct, List.take_succ_cons, List.take_zero, List.drop_succ_cons, List.drop_zero, Act.put, List.setIfInBounds_toArray, List.set_cons_succ, List.set_cons_zero]
    refine wpList_valn (v := .bool true) rfl (exec_pt rfl (ev rfl) evk) ?_
    simp only [Act.put, List.setIfInBounds_toArray, List.set_cons_succ, List.set_cons_zero]
    refine wpList_valn (v := .bool true) rfl (exec_as rfl (ev rfl)) ?_
    simp only [Act.put, List.setIfInBounds_toArray, List.set_cons_succ, List.set_cons_zero]
    refine wpList_nil ?_
    go_wp2_with fail
    go_ret
    exact ⟨by rw [HE.out]; rfl, rfl⟩
  have H0 : Hid (decide (m < 0) = false) := Lib.hid (decide_eq_false h0)
  by_cases h1 : (s.l.length : Int) ≤ m
  · have H1 : Hid (decide ((s.l.length : Int) ≤ m) = true) := Lib.hid (decide_eq_true h1)
    have HE : Hid (lnE s m = 2) := Lib.hid (lnE_no (by unfold lnR; rw [decide_eq_false (p := m < (s.l.length : Int)) (by omega), Bool.and_false]))
    clear h0 h1
    go_upto_region 3 with fail
    refine wp_region_lit ?_
    refine wpList_valn rfl (exec_mv rfl (ev rfl)) ?_
    simp only [Act.put, List.setIfInBounds_toArray, List.set_cons_succ, List.set_cons_zero]
    refine wpList_valn (v := .bool false) rfl (exec_lss false rfl (ev rfl) evk H0.out) ?_
    simp only [Act.put, List.setIfInBounds_toArray, List.set_cons_succ, List.set_cons_zero]
    refine wpList_valn (v := .bool false) rfl (exec_mv rfl (ev rfl)) ?_
    simp only [Act.put, List.setIfInBounds_toArray, List.set_cons_succ, List.set_cons_zero]
    refine wpList_val (wanted_of rfl rfl rfl rfl) (exec_mv rfl (ev rfl)) ?_
    simp only [Act.put, List.setIfInBounds_toArray, List.set_cons_succ, List.set_cons_zero]
    refine wpList_val (wanted_of rfl rfl rfl rfl) (exec_mv rfl (ev rfl)) ?_
    simp only [Act.put, List.setIfInBounds_toArray, List.set_cons_succ, List.set_cons_zero]
    refine wpList_val (wanted_of rfl rfl rfl rfl) (exec_nil rfl (ev rfl)) ?_
    simp only [Act.put, List.setIfInBounds_toArray, List.set_cons_succ, List.set_cons_zero]
    refine wpList_val (wanted_of rfl rfl rfl rfl) (exec_faddr rfl (ev rfl) faPl0) ?_
    simp only [Act.put, List.setIfInBounds_toArray, List.set_cons_succ, List.set_cons_zero]
    refine wpList_val (wanted_of rfl rfl rfl rfl) (exec_ld rfl (ev rfl) (ldInt HL.out.cN)) ?_
    simp only [Act.put, List.setIfInBounds_toArray, List.set_cons_succ, List.set_cons_zero]
    refine wpList_val (v := .bool true) (wanted_of rfl rfl rfl rfl) (exec_geq true rfl (ev rfl) (ev rfl) H1.out) ?_
    simp only [Act.put, List.setIfInBounds_toArray, List.set_cons_succ, List.set_cons_zero]
    refine wpList_valn (v := .bool true) rfl (exec_pf rfl (ev rfl) (ev rfl)) ?_
    simp only [Act.put, List.setIfInBounds_toArray, List.set_cons_succ, List.set_cons_zero]
    refine wpList_valn (v := .bool true) rfl (exec_as rfl (ev rfl)) ?_
    simp only [Act.put, List.setIfInBounds_toArray, List.set_cons_succ, List.set_cons_zero]
    refine wpList_nil ?_
    go_wp2_with fail
    go_ret
    exact ⟨by rw [HE.out]; rfl, rfl⟩
  have H1 : Hid (decide ((s.l.length : Int) ≤ m) = false) := Lib.hid (decide_eq_false h1)
  have HE : Hid (lnE s m = 0) := Lib.hid (by unfold lnE lnR; rw [decide_eq_true (p := 0 ≤ m) (by omega), decide_eq_true (p := m < (s.l.length : Int)) (by omega)]; rfl)
  clear h0 h1
  go_upto_region 3 with fail
  refine wp_region_lit ?_
  refine wpList_valn rfl (exec_mv rfl (ev rfl)) ?_
  simp only [Act.put, List.setIfInBounds_toArray, List.set_cons_succ, List.set_cons_zero]
  refine wpList_valn (v := .bool false) rfl (exec_lss false rfl (ev rfl) evk H0.out) ?_
  simp only [Act.put, List.setIfInBounds_toArray, List.set_cons_succ, List.set_cons_zero]
  refine wpList_valn (v := .bool false) rfl (exec_mv rfl (ev rfl)) ?_
  simp only [Act.put, List.setIfInBounds_toArray, List.set_cons_succ, List.set_cons_zero]
  refine wpList_val (wanted_of rfl rfl rfl rfl) (exec_mv rfl (ev rfl)) ?_
  simp only [Act.put, List.setIfInBounds_toArray, List.set_cons_succ, List.set_cons_zero]
  refine wpList_val (wanted_of rfl rfl rfl rfl) (exec_mv rfl (ev rfl)) ?_
  simp only [Act.put, List.setIfInBounds_toArray, List.set_cons_succ, List.set_cons_zero]
  refine wpList_val (wanted_of rfl rfl rfl rfl) (exec_nil rfl (ev rfl)) ?_
  simp only [Act.put, List.setIfInBounds_toArray, List.set_cons_succ, List.set_cons_zero]
  refine wpList_val (wanted_of rfl rfl rfl rfl) (exec_faddr rfl (ev rfl) faPl0) ?_
  simp only [Act.put, List.setIfInBounds_toArray, List.set_cons_succ, List.set_cons_zero]
  refine wpList_val (wanted_of rfl rfl rfl rfl) (exec_ld rfl (ev rfl) (ldInt HL.out.cN)) ?_
  simp only [Act.put, List.setIfInBounds_toArray, List.set_cons_succ, List.set_cons_zero]
  refine wpList_val (v := .bool false) (wanted_of rfl rfl rfl rfl) (exec_geq false rfl (ev rfl) (ev rfl) H1.out) ?_
  simp only [Act.put, List.setIfInBounds_toArray, List.set_cons_succ, List.set_cons_zero]
  refine wpList_valn (v := .bool false) rfl (exec_pf rfl (ev rfl) (ev rfl)) ?_
  simp only [Act.put, List.setIfInBounds_toArray, List.set_cons_succ, List.set_cons_zero]
  refine wpList_valn (v := .bool false) rfl (exec_as rfl (ev rfl)) ?_
  simp only [Act.put, List.setIfInBounds_toArray, List.set_cons_succ, List.set_cons_zero]
  refine wpList_nil ?_
  go_wp2_with fail
  go_ret
  exact ⟨by rw [HE.out]; rfl, rfl⟩
theorem pl_may_v (w : World) {m e : Int} {p : Nat} {s : LnS} (h : LnA w p (lf s)) (hs : LnOk s) (he : lnE s m = e) : Calls Try.prog 28 #[.pointer (some ⟨p, 0, none⟩), .int .i64 m] w fun a w' => a = .returned (.int .i64 e) ∧ w = w' := by
  subst he; exact pl_may w m h hs
theorem pl_know (w : World) (k : Nat) (b : Blk) {B p : Nat} {x : LnF} (h : LnA w p x) (hk : k < 16) (hB : B ≤ p) : Calls Try.prog 29 #[.pointer (some ⟨p, 0, none⟩), .int .i64 (k : Int), blk b] w fun e w' => e = .returned (.tuple #[]) ∧ LnA w' p { x with kn := updF x.kn k true, bl := updF x.bl k b } ∧ Turn isPn B w w' := by
  have HK := Lib.hid hk
  have hne : w.heap.size ≠ p := by have := h.lt; omega
  have HB1 : Hid (Below w.heap.size w (w.alloc (.cells (cel b).toArray 33))) := Lib.hid ((Below.refl _ _).alloc (Nat.le_refl _) _)
  have HL : Hid (LnA (w.alloc (.cells (cel b).toArray 33)) p x) := Lib.hid (h.below HB1.out)
  have HX : Hid ((w.alloc (.cells (cel b).toArray 33)).rangeAt w.heap.size 0 (cel b)) := Lib.hid (range_new w (cel b) _)
  have HNE := Lib.hid hne
  have HBp := Lib.hid hB
  clear h hk hne hB
  go_enter Try.func29, Try.ntmps29
  go_upto_region 0 with fail
  refine wp_region_lit ?_
  refine wpList_valn rfl (exec_box rfl (ev rfl)) ?_
  simp only [Act.put, List.setIfInBounds_toArray, List.set_cons_succ, List.set_cons_zero]
  refine wpList_nil ?_
  generalize w.alloc (.cells (cel b).toArray 33) = w1 at *
  have HXd : Hid ((World.drew w1).rangeAt w.heap.size 0 (cel b)) := Lib.hid HX.out
  have HX2 : Hid (((World.drew w1).setCell ⟨p, 1 + k, none⟩ (.bool true)).rangeAt w.heap.size 0 (cel b)) := Lib.hid (World.rangeAt_setCells_apart HXd.out p (1 + k) [.bool true] (.inl HNE.out))
  have HL2 : Hid (LnA ((World.drew w1).setCell ⟨p, 1 + k, none⟩ (.bool true)) p { x with kn := updF x.kn k true }) := Lib.hid (HL.out.drew.sK HK.out true)
  have HT2 : Hid (Turn isPn B w ((World.drew w1).setCell ⟨p, 1 + k, none⟩ (.bool true))) := Lib.hid (HL.out.drew.t1 (Turn.of_below HB1.out).drew HBp.out _ _)
  have HC2 := Lib.hid (HL.out.drew.cK HK.out)
  have HF2 := Lib.hid (HL.out.drew.fz (1 + k))
  go_upto_region 1 with fail
  refine wp_region_held (S := fun w' => w'.rangeAt w.heap.size 0 (cel b)) (by kernel_rfl) ?_
  change wpAnyH _ _ _ _ _ 13 _ _ w1.drew
  refine held_val 0 rfl (by kernel_rfl) (by kernel_rfl) (by kernel_rfl) rfl (fun w' hw => exec_mv rfl (ev rfl)) (fun _ _ _ h => h) HXd.out ?_
  simp only [Act.put, List.setIfInBounds_toArray, List.set_cons_succ, List.set_cons_zero]
  refine held_val 1 rfl (by kernel_rfl) (by kernel_rfl) (by kernel_rfl) rfl (fun w' hw => exec_mv rfl (ev rfl)) (fun _ _ _ h => h) HXd.out ?_
  simp only [Act.put, List.setIfInBounds_toArray, List.set_cons_succ, List.set_cons_zero]
  refine held_val 2 rfl (by kernel_rfl) (by kernel_rfl) (by kernel_rfl) rfl (fun w' hw => exec_mv rfl (ev rfl)) (fun _ _ _ h => h) HXd.out ?_
  simp only [Act.put, List.setIfInBounds_toArray, List.set_cons_succ, List.set_cons_zero]
  refine held_val 3 rfl (by kernel_rfl) (by kernel_rfl) (by kernel_rfl) rfl (fun w' hw => exec_mv rfl (ev rfl)) (fun _ _ _ h => h) HXd.out ?_
  simp only [Act.put, List.setIfInBounds_toArray, List.set_cons_succ, List.set_cons_zero]
  refine held_val 4 rfl (by kernel_rfl) (by kernel_rfl) (by kernel_rfl) rfl (fun w' hw => exec_load rfl (ev rfl) hw) (fun _ _ _ h => h) HXd.out ?_
  simp only [Act.put, List.setIfInBounds_toArray, List.set_cons_succ, List.set_cons_zero]
  refine held_val 5 rfl (by kernel_rfl) (by kernel_rfl) (by kernel_rfl) rfl (fun w' hw => exec_nil rfl (ev rfl)) (fun _ _ _ h => h) HXd.out ?_
  simp only [Act.put, List.setIfInBounds_toArray, List.set_cons_succ, List.set_cons_zero]
  refine held_val 6 rfl (by kernel_rfl) (by kernel_rfl) (by kernel_rfl) rfl (fun w' hw => exec_faddr rfl (ev rfl) faPl1) (fun _ _ _ h => h) HXd.out ?_
  simp only [Act.put, List.setIfInBounds_toArray, List.set_cons_succ, List.set_cons_zero]
  refine held_val 7 rfl (by kernel_rfl) (by kernel_rfl) (by kernel_rfl) rfl (fun w' hw => exec_ix rfl (ev rfl) (ev rfl) (ixPb HK.out)) (fun _ _ _ h => h) HXd.out ?_
  simp only [Act.put, List.setIfInBounds_toArray, List.set_cons_succ, List.set_cons_zero]
  refine held_val 9 rfl (by kernel_rfl) (by kernel_rfl) (by kernel_rfl) rfl (fun w' hw => exec_nil rfl (ev rfl)) (fun _ _ _ h => h) HXd.out ?_
  simp only [Act.put, List.setIfInBounds_toArray, List.set_cons_succ, List.set_cons_zero]
  refine held_val 10 rfl (by kernel_rfl) (by kernel_rfl) (by kernel_rfl) rfl (fun w' hw => exec_faddr rfl (ev rfl) faPl3) (fun _ _ _ h => h) HXd.out ?_
  simp only [Act.put, List.setIfInBounds_toArray, List.set_cons_succ, List.set_cons_zero]
  refine held_nul 8 rfl (by kernel_rfl) rfl (exec_st rfl (ev rfl) evk (stBo_ HC2.out HF2.out)) HX2.out ?_
  simp only [Act.put]
  generalize (World.drew w1).setCell ⟨p, 1 + k, none⟩ (.bool true) = w2 at *
  have HTH := Lib.hid (HL2.out.there (o := 33 + k * 64) (m := 64) (by have := HK.out; omega))
  have HX3 : Hid ((w2.setCells p (33 + k * 64) (cel b)).rangeAt w.heap.size 0 (cel b)) := Lib.hid (World.rangeAt_setCells_apart HX2.out p _ _ (.inl HNE.out))
  have HL3 : Hid (LnA (w2.setCells p (33 + k * 64) (cel b)) p { x with kn := updF x.kn k true, bl := updF x.bl k b }) := Lib.hid (HL2.out.sB HK.out b)
  have HT3 : Hid (Turn isPn B w (w2.setCells p (33 + k * 64) (cel b))) := Lib.hid (HL2.out.tn HT2.out HBp.out _ _)
  refine held_val 11 rfl (by kernel_rfl) (by kernel_rfl) (by kernel_rfl) rfl (fun w' hw => exec_ix rfl (ev rfl) (ev rfl) (ixPk HK.out)) (fun _ _ _ h => h) HX2.out ?_
  simp only [Act.put, List.setIfInBounds_toArray, List.set_cons_succ, List.set_cons_zero]
  refine held_nul 12 rfl (by kernel_rfl) rfl (exec_store rfl (ev rfl) (ev rfl) HTH.out) HX3.out ?_
  simp only [Act.put]
  generalize w2.setCells p (33 + k * 64) (cel b) = w3 at *
  refine wpAnyH_done (by kernel_rfl) ?_ _
  go_wp2_with fail
  exact bodyPost_end (results_none rfl _ _ _) rfl ⟨rfl, HL3.out, HT3.out⟩
theorem pl_new (N : Nat) (w : World) (h1 : 1 ≤ N) (h2 : N ≤ 16) : Calls Try.prog 7 #[.int .i64 (N : Int)] w fun e w' => ∃ p, e = .returned (.tuple #[.pointer (some ⟨p, 0, none⟩), .int .i64 0]) ∧ (LnA w' p (lf (lnNew N)) ∧ w.heap.size ≤ p) ∧ Below w.heap.size w w' := by
  have H0 : Hid (decide ((N : Int) < 1) = false) := Lib.hid (decide_eq_false (by omega))
  have H1 : Hid (decide ((16 : Int) < (N : Int)) = false) := Lib.hid (decide_eq_false (by omega))
  clear h1 h2
  go_enter Try.func7, Try.ntmps7
  go_upto_region 1 with fail
  refine wp_region_lit ?_
  refine wpList_valn rfl (exec_mv rfl (ev rfl)) ?_
  simp only [Act.put, List.setIfInBounds_toArray, List.set_cons_succ, List.set_cons_zero]
  refine wpList_valn (v := .bool false) rfl (exec_lss false rfl (ev rfl) evk H0.out) ?_
  simp only [Act.put, List.setIfInBounds_toArray, List.set_cons_succ, List.set_cons_zero]
  refine wpList_valn (v := .bool false) rfl (exec_mv rfl (ev rfl)) ?_
  simp only [Act.put, List.setIfInBounds_toArray, List.set_cons_succ, List.set_cons_zero]
  refine wpList_val (wanted_of rfl rfl rfl rfl) (exec_mv rfl (ev rfl)) ?_
  simp only [Act.put, List.setIfInBounds_toArray, List.set_cons_succ, List.set_cons_zero]
  refine wpList_val (v := .bool false) (wanted_of rfl rfl rfl rfl) (exec_gtr false rfl (ev rfl) evk H1.out) ?_
  simp only [Act.put, List.setIfInBounds_toArray, List.set_cons_succ, List.set_cons_zero]
  refine wpList_valn (v := .bool false) rfl (exec_pf rfl (ev rfl) (ev rfl)) ?_
  simp only [Act.put, List.setIfInBounds_toArray, List.set_cons_succ, List.set_cons_zero]
  refine wpList_nil ?_
  go_upto_region 3 with fail
  refine wp_region_lit ?_
  refine wpList_valn rfl (exec_mv rfl (ev rfl)) ?_
  simp only [Act.put, List.setIfInBounds_toArray, List.set_cons_succ, List.set_cons_zero]
  refine wpList_valn rfl (exec_bld1 rfl (ev rfl) (run_bldPl _)) ?_
  simp only [Act.put, List.setIfInBounds_toArray, List.set_cons_succ, List.set_cons_zero]
  refine wpList_valn rfl (exec_boxT (cs := lnCs (lf0 (N : Int))) rfl (ev rfl)) ?_
  simp only [Act.put, List.setIfInBounds_toArray, List.set_cons_succ, List.set_cons_zero]
  refine wpList_valn rfl (exec_as rfl (ev rfl)) ?_
  simp only [Act.put, List.setIfInBounds_toArray, List.set_cons_succ, List.set_cons_zero]
  refine wpList_valn rfl (exec_as rfl evk) ?_
  simp only [Act.put, List.setIfInBounds_toArray, List.set_cons_succ, List.set_cons_zero]
  refine wpList_nil ?_
  go_wp2_with fail
  go_ret2
  refine ⟨_, rfl, ⟨?_, Nat.le_refl _⟩, (Below.refl _ _).alloc (Nat.le_refl _) _⟩
  rw [lf_new]
  exact heap_alloc_new w _
theorem pl_new_no (n : Int) (w : World) (h : ¬ (1 ≤ n ∧ n ≤ 16)) : Calls Try.prog 7 #[.int .i64 n] w fun e w' => e = .returned (.tuple #[.pointer none, .int .i64 2]) ∧ w = w' := by
  by_cases h0 : n < 1
  · have H0 : Hid (decide (n < (1 : Int)) = true) := Lib.hid (decide_eq_true h0)
    clear h h0
    go_enter Try.func7, Try.ntmps7
    go_upto_region 1 with fail
    refine wp_region_lit ?_
    refine wpList_valn rfl (exec_mv rfl (ev rfl)) ?_
    simp only [Act.put, List.setIfInBounds_toArray, List.set_cons_succ, List.set_cons_zero]
    refine wpList_valn (v := .bool true) rfl (exec_lss true rfl (ev rfl) evk H0.out) ?_
    simp only [Act.put, List.setIfInBounds_toArray, List.set_cons_succ, List.set_cons_zero]
    refine wpList_skips 2 (v := .bool true) rfl (exec_mv rfl (ev rfl)) (by kernel_rfl) ?_
    simp only [skipAct, List.take_succ_cons, List.take_zero, List.drop_succ_cons, List.drop_zero, Act.put, List.setIfInBounds_toArray, List.set_cons_succ, List.set_cons_zero]
    refine wpList_valn (v := .bool true) rfl (exec_pt rfl (ev rfl) evk) ?_
    simp only [Act.put, List.setIfInBounds_toArray, List.set_cons_succ, List.set_cons_zero]
    refine wpList_nil ?_
    go_wp2_with fail
    go_ret2
    exact ⟨rfl, rfl⟩
  have H0 : Hid (decide (n < (1 : Int)) = false) := Lib.hid (decide_eq_false h0)
  have H1 : Hid (decide ((16 : Int) < n) = true) := Lib.hid (decide_eq_true (by omega))
  clear h h0
  go_enter Try.func7, Try.ntmps7
  go_upto_region 1 with fail
  refine wp_region_lit ?_
  refine wpList_valn rfl (exec_mv rfl (ev rfl)) ?_
  simp only [Act.put, List.setIfInBounds_toArray, List.set_cons_succ, List.set_cons_zero]
  refine wpList_valn (v := .bool false) rfl (exec_lss false rfl (ev rfl) evk H0.out) ?_
  simp only [Act.put, List.setIfInBounds_toArray, List.set_cons_succ, List.set_cons_zero]
  refine wpList_valn (v := .bool false) rfl (exec_mv rfl (ev rfl)) ?_
  simp only [Act.put, List.setIfInBounds_toArray, List.set_cons_succ, List.set_cons_zero]
  refine wpList_val (wanted_of rfl rfl rfl rfl) (exec_mv rfl (ev rfl)) ?_
  simp only [Act.put, List.setIfInBounds_toArray, List.set_cons_succ, List.set_cons_zero]
  refine wpList_val (v := .bool true) (wanted_of rfl rfl rfl rfl) (exec_gtr true rfl (ev rfl) evk H1.out) ?_
  simp only [Act.put, List.setIfInBounds_toArray, List.set_cons_succ, List.set_cons_zero]
  refine wpList_valn (v := .bool true) rfl (exec_pf rfl (ev rfl) (ev rfl)) ?_
  simp only [Act.put, List.setIfInBounds_toArray, List.set_cons_succ, List.set_cons_zero]
  refine wpList_nil ?_
  go_wp2_with fail
  go_ret2
  exact ⟨rfl, rfl⟩
/-- A line of the program lies at p. -/
def PLn (w : World) (B p : Nat) (s : LnS) : Prop := LnA w p (lf s) ∧ B ≤ p ∧ LnOk s
theorem lf_lrn {s : LnS} {k : Nat} (b : Blk) (hs : LnOk s) (hk : k < s.l.length) (hn : (lnAt s k).kn = false) : lf (lnLrn s (k : Int) b) = { lf s with kn := updF (lf s).kn k true, bl := updF (lf s).bl k b } := by
  have hd : (lf s).dt k = false := by show (lnAt s k).dt = false; rw [hs.no k hk hn]; rfl
  rw [lnLrn_new hk hn, lf_set hk]
  exact congrArg (fun d => (⟨(s.l.length : Int), updF (lf s).kn k true, d, updF (lf s).bl k b, (s.f : Int)⟩ : LnF)) (updF_same hd)
theorem lf_stS {s : LnS} {k Q : Nat} (b : Blk) (hk : k < s.l.length) (hq : Q ≠ 0) : lf (lnSet s (k : Int) b Q) = { lf s with kn := updF (lf s).kn k true, bl := updF (lf s).bl k b, dt := updF (lf s).dt k true, f := (minF s.f Q : Nat) } := by
  rw [lnSet_ok hk hq, lf_set hk]; rfl
theorem lf_frg {s : LnS} {k : Nat} (hk : k < s.l.length) : lf (lnFrg s (k : Int)) = { lf s with kn := updF (lf s).kn k false, dt := updF (lf s).dt k false, bl := updF (lf s).bl k zeroB } := by
  rw [lnFrg_ok hk, lf_set hk]; rfl
theorem pl_learn (w : World) (m : Int) (b : Blk) {B p : Nat} {s : LnS} (h : PLn w B p s) : Calls Try.prog 12 #[.pointer (some ⟨p, 0, none⟩), .int .i64 m, blk b] w fun e w' => e = .returned (.int .i64 (lnE s m)) ∧ PLn w' B p (lnLrn s m b) ∧ Turn isPn B w w' := by
  obtain ⟨h, hB, hs⟩ := h
  have HB1 : Hid (Below w.heap.size w (w.alloc (.cells (cel b).toArray 33))) := Lib.hid ((Below.refl _ _).alloc (Nat.le_refl _) _)
  have HL : Hid (LnA (w.alloc (.cells (cel b).toArray 33)) p (lf s)) := Lib.hid (h.below HB1.out)
  have HX : Hid ((w.alloc (.cells (cel b).toArray 33)).rangeAt w.heap.size 0 (cel b)) := Lib.hid (range_new w (cel b) _)
  have HBp := Lib.hid hB
  have HS := Lib.hid hs
  clear h hB hs
  go_enter Try.func12, Try.ntmps12
  go_upto_region 0 with fail
  refine wp_region_lit ?_
  refine wpList_valn rfl (exec_box rfl (ev rfl)) ?_
  simp only [Act.put, List.setIfInBounds_toArray, List.set_cons_succ, List.set_cons_zero]
  refine wpList_valn rfl (exec_as rfl evk) ?_
  simp only [Act.put, List.setIfInBounds_toArray, List.set_cons_succ, List.set_cons_zero]
  refine wpList_nil ?_
  generalize w.alloc (.cells (cel b).toArray 33) = w1 at *
  cases hr : lnR s m
  · have HE := Lib.hid (lnE_no hr)
    have HR := Lib.hid hr
    clear hr
    go_upto_region 1 with fail
    refine wp_region_lit ?_
    refine wpList_valn rfl (exec_mv rfl (ev rfl)) ?_
    simp only [Act.put, List.setIfInBounds_toArray, List.set_cons_succ, List.set_cons_zero]
    refine wpList_valn rfl (exec_mv rfl (ev rfl)) ?_
    simp only [Act.put, List.setIfInBounds_toArray, List.set_cons_succ, List.set_cons_zero]
    refine wpList_call rfl (exec_cl Try.call28 rfl (evc (ev rfl) (evc (ev rfl) evn))) ?_
    refine (pl_may_v _ HL.out HS.out HE.out).mono ?_
    rintro e w' ⟨rfl, rfl⟩
    refine ⟨_, rfl, ?_⟩
    simp only [Act.put, List.setIfInBounds_toArray, List.set_cons_succ, List.set_cons_zero]
    refine wpList_valn rfl (exec_as rfl (ev rfl)) ?_
    simp only [Act.put, List.setIfInBounds_toArray, List.set_cons_succ, List.set_cons_zero]
    refine wpList_nil ?_
    go_upto_region 2 with fail
    refine wp_region_lit ?_
    refine wpList_valn rfl (exec_mv rfl (ev rfl)) ?_
    simp only [Act.put, List.setIfInBounds_toArray, List.set_cons_succ, List.set_cons_zero]
    refine wpList_valn (v := .bool true) rfl (exec_neInt true rfl (ev rfl) evk rfl) ?_
    simp only [Act.put, List.setIfInBounds_toArray, List.set_cons_succ, List.set_cons_zero]
    refine wpList_nil ?_
    go_wp2_with fail
    go_ret
    exact ⟨by rw [HE.out]; rfl, by rw [lnLrn_no HR.out]; exact ⟨HL.out, HBp.out, HS.out⟩, Turn.of_below HB1.out⟩
  obtain ⟨k, rfl, hk⟩ := lnR_get hr
  have HE := Lib.hid (lnE_ok hk)
  have HKL := Lib.hid hk
  have HK : Hid (k < 16) := Lib.hid (Nat.lt_of_lt_of_le hk HS.out.hi)
  clear hr hk
  go_upto_region 1 with fail
  refine wp_region_lit ?_
  refine wpList_valn rfl (exec_mv rfl (ev rfl)) ?_
  simp only [Act.put, List.setIfInBounds_toArray, List.set_cons_succ, List.set_cons_zero]
  refine wpList_valn rfl (exec_mv rfl (ev rfl)) ?_
  simp only [Act.put, List.setIfInBounds_toArray, List.set_cons_succ, List.set_cons_zero]
  refine wpList_call rfl (exec_cl Try.call28 rfl (evc (ev rfl) (evc (ev rfl) evn))) ?_
  refine (pl_may_v _ HL.out HS.out HE.out).mono ?_
  rintro e w' ⟨rfl, rfl⟩
  refine ⟨_, rfl, ?_⟩
  simp only [Act.put, List.setIfInBounds_toArray, List.set_cons_succ, List.set_cons_zero]
  refine wpList_valn rfl (exec_as rfl (ev rfl)) ?_
  simp only [Act.put, List.setIfInBounds_toArray, List.set_cons_succ, List.set_cons_zero]
  refine wpList_nil ?_
  go_upto_region 2 with fail
  refine wp_region_lit ?_
  refine wpList_valn rfl (exec_mv rfl (ev rfl)) ?_
  simp only [Act.put, List.setIfInBounds_toArray, List.set_cons_succ, List.set_cons_zero]
  refine wpList_valn (v := .bool false) rfl (exec_neInt false rfl (ev rfl) evk rfl) ?_
  simp only [Act.put, List.setIfInBounds_toArray, List.set_cons_succ, List.set_cons_zero]
  refine wpList_nil ?_
  cases hkn : (lnAt s k).kn
  rotate_left 1
  · have HKN := Lib.hid hkn
    clear hkn
    go_upto_region 4 with fail
    refine wp_region_lit ?_
    refine wpList_valn rfl (exec_mv rfl (ev rfl)) ?_
    simp only [Act.put, List.setIfInBounds_toArray, List.set_cons_succ, List.set_cons_zero]
    refine wpList_valn rfl (exec_mv rfl (ev rfl)) ?_
    simp only [Act.put, List.setIfInBounds_toArray, List.set_cons_succ, List.set_cons_zero]
    refine wpList_valn rfl (exec_nil rfl (ev rfl)) ?_
    simp only [Act.put, List.setIfInBounds_toArray, List.set_cons_succ, List.set_cons_zero]
    refine wpList_valn rfl (exec_faddr rfl (ev rfl) faPl1) ?_
    simp only [Act.put, List.setIfInBounds_toArray, List.set_cons_succ, List.set_cons_zero]
    refine wpList_valn rfl (exec_ix rfl (ev rfl) (ev rfl) (ixPb HK.out)) ?_
    simp only [Act.put, List.setIfInBounds_toArray, List.set_cons_succ, List.set_cons_zero]
    refine wpList_valn (v := .bool true) rfl (exec_ld rfl (ev rfl) (ldBo_ (by rw [HL.out.cK HK.out]; exact congrArg (fun t => some (Value.bool t)) HKN.out))) ?_
    simp only [Act.put, List.setIfInBounds_toArray, List.set_cons_succ, List.set_cons_zero]
    refine wpList_valn (v := .bool false) rfl (exec_not true rfl (ev rfl)) ?_
    simp only [Act.put, List.setIfInBounds_toArray, List.set_cons_succ, List.set_cons_zero]
    refine wpList_nil ?_
    go_wp2_with fail
    go_ret
    exact ⟨by rw [HE.out]; rfl, by rw [lnLrn_old HKL.out HKN.out]; exact ⟨HL.out, HBp.out, HS.out⟩, Turn.of_below HB1.out⟩
  have HKN := Lib.hid hkn
  clear hkn
  go_upto_region 4 with fail
  refine wp_region_lit ?_
  refine wpList_valn rfl (exec_mv rfl (ev rfl)) ?_
  simp only [Act.put, List.setIfInBounds_toArray, List.set_cons_succ, List.set_cons_zero]
  refine wpList_valn rfl (exec_mv rfl (ev rfl)) ?_
  simp only [Act.put, List.setIfInBounds_toArray, List.set_cons_succ, List.set_cons_zero]
  refine wpList_valn rfl (exec_nil rfl (ev rfl)) ?_
  simp only [Act.put, List.setIfInBounds_toArray, List.set_cons_succ, List.set_cons_zero]
  refine wpList_valn rfl (exec_faddr rfl (ev rfl) faPl1) ?_
  simp only [Act.put, List.setIfInBounds_toArray, List.set_cons_succ, List.set_cons_zero]
  refine wpList_valn rfl (exec_ix rfl (ev rfl) (ev rfl) (ixPb HK.out)) ?_
  simp only [Act.put, List.setIfInBounds_toArray, List.set_cons_succ, List.set_cons_zero]
  refine wpList_valn (v := .bool false) rfl (exec_ld rfl (ev rfl) (ldBo_ (by rw [HL.out.cK HK.out]; exact congrArg (fun t => some (Value.bool t)) HKN.out))) ?_
  simp only [Act.put, List.setIfInBounds_toArray, List.set_cons_succ, List.set_cons_zero]
  refine wpList_valn (v := .bool true) rfl (exec_not false rfl (ev rfl)) ?_
  simp only [Act.put, List.setIfInBounds_toArray, List.set_cons_succ, List.set_cons_zero]
  refine wpList_nil ?_
  go_upto_region 5 with fail
  refine wp_region_lit ?_
  refine wpList_valn rfl (exec_mv rfl (ev rfl)) ?_
  simp only [Act.put, List.setIfInBounds_toArray, List.set_cons_succ, List.set_cons_zero]
  refine wpList_valn rfl (exec_mv rfl (ev rfl)) ?_
  simp only [Act.put, List.setIfInBounds_toArray, List.set_cons_succ, List.set_cons_zero]
  refine wpList_valn rfl (exec_load rfl (ev rfl) HX.out) ?_
  simp only [Act.put, List.setIfInBounds_toArray, List.set_cons_succ, List.set_cons_zero]
  refine wpList_call rfl (exec_cl Try.call29 rfl (evc (ev rfl) (evc (ev rfl) (evc (ev rfl) evn)))) ?_
  refine (pl_know _ k b HL.out HK.out HBp.out).mono ?_
  rintro e w2 ⟨rfl, h2, t2⟩
  have HL2 := Lib.hid h2
  have HT2 := Lib.hid ((Turn.of_below HB1.out).trans t2)
  clear h2 t2
  refine ⟨_, rfl, ?_⟩
  simp only [Act.put, List.setIfInBounds_toArray, List.set_cons_succ, List.set_cons_zero]
  refine wpList_nil ?_
  go_wp2_with fail
  go_ret
  exact ⟨by rw [HE.out]; rfl, ⟨by rw [lf_lrn b HS.out HKL.out HKN.out]; exact HL2.out, HBp.out, HS.out.lrn _ _⟩, HT2.out⟩
theorem pl_set (w : World) (m : Int) (b : Blk) (Q : Nat) {B p : Nat} {s : LnS} (h : PLn w B p s) (hQ : Q < 18446744073709551616) : Calls Try.prog 13 #[.pointer (some ⟨p, 0, none⟩), .int .i64 m, blk b, .int .u64 (Q : Int)] w fun e w' => e = .returned (.int .i64 (lnSE s m Q)) ∧ PLn w' B p (lnSet s m b Q) ∧ Turn isPn B w w' := by
  obtain ⟨h, hB, hs⟩ := h
  have HQ := Lib.hid hQ
  clear hQ
  have HB1 : Hid (Below w.heap.size w (w.alloc (.cells (cel b).toArray 33))) := Lib.hid ((Below.refl _ _).alloc (Nat.le_refl _) _)
  have HL : Hid (LnA (w.alloc (.cells (cel b).toArray 33)) p (lf s)) := Lib.hid (h.below HB1.out)
  have HX : Hid ((w.alloc (.cells (cel b).toArray 33)).rangeAt w.heap.size 0 (cel b)) := Lib.hid (range_new w (cel b) _)
  have HBp := Lib.hid hB
  have HS := Lib.hid hs
  clear h hB hs
  go_enter Try.func13, Try.ntmps13
  go_upto_region 0 with fail
  refine wp_region_lit ?_
  refine wpList_valn rfl (exec_box rfl (ev rfl)) ?_
  simp only [Act.put, List.setIfInBounds_toArray, List.set_cons_succ, List.set_cons_zero]
  refine wpList_valn rfl (exec_as rfl evk) ?_
  simp only [Act.put, List.setIfInBounds_toArray, List.set_cons_succ, List.set_cons_zero]
  refine wpList_nil ?_
  generalize w.alloc (.cells (cel b).toArray 33) = w1 at *
  cases hr : lnR s m
  · have HE := Lib.hid (lnE_no hr)
    have HR := Lib.hid hr
    clear hr
    go_upto_region 1 with fail
    refine wp_region_lit ?_
    refine wpList_valn rfl (exec_mv rfl (ev rfl)) ?_
    simp only [Act.put, List.setIfInBounds_toArray, List.set_cons_succ, List.set_cons_zero]
    refine wpList_valn rfl (exec_mv rfl (ev rfl)) ?_
    simp only [Act.put, List.setIfInBounds_toArray, List.set_cons_succ, List.set_cons_zero]
    refine wpList_call rfl (exec_cl Try.call28 rfl (evc (ev rfl) (evc (ev rfl) evn))) ?_
    refine (pl_may_v _ HL.out HS.out HE.out).mono ?_
    rintro e w' ⟨rfl, rfl⟩
    refine ⟨_, rfl, ?_⟩
    simp only [Act.put, List.setIfInBounds_toArray, List.set_cons_succ, List.set_cons_zero]
    refine wpList_valn rfl (exec_as rfl (ev rfl)) ?_
    simp only [Act.put, List.setIfInBounds_toArray, List.set_cons_succ, List.set_cons_zero]
    refine wpList_nil ?_
    go_upto_region 2 with fail
    refine wp_region_lit ?_
    refine wpList_valn rfl (exec_mv rfl (ev rfl)) ?_
    simp only [Act.put, List.setIfInBounds_toArray, List.set_cons_succ, List.set_cons_zero]
    refine wpList_valn (v := .bool true) rfl (exec_neInt true rfl (ev rfl) evk rfl) ?_
    simp only [Act.put, List.setIfInBounds_toArray, List.set_cons_succ, List.set_cons_zero]
    refine wpList_nil ?_
    go_wp2_with fail
    go_ret
    exact ⟨by rw [lnSE_no HR.out]; rfl, by rw [lnSet_no HR.out]; exact ⟨HL.out, HBp.out, HS.out⟩, Turn.of_below HB1.out⟩
  obtain ⟨k, rfl, hk⟩ := lnR_get hr
  have HE := Lib.hid (lnE_ok hk)
  have HKL := Lib.hid hk
  have HK : Hid (k < 16) := Lib.hid (Nat.lt_of_lt_of_le hk HS.out.hi)
  clear hr hk
  go_upto_region 1 with fail
  refine wp_region_lit ?_
  refine wpList_valn rfl (exec_mv rfl (ev rfl)) ?_
  simp only [Act.put, List.setIfInBounds_toArray, List.set_cons_succ, List.set_cons_zero]
  refine wpList_valn rfl (exec_mv rfl (ev rfl)) ?_
  simp only [Act.put, List.setIfInBounds_toArray, List.set_cons_succ, List.set_cons_zero]
  refine wpList_call rfl (exec_cl Try.call28 rfl (evc (ev rfl) (evc (ev rfl) evn))) ?_
  refine (pl_may_v _ HL.out HS.out HE.out).mono ?_
  rintro e w' ⟨rfl, rfl⟩
  refine ⟨_, rfl, ?_⟩
  simp only [Act.put, List.setIfInBounds_toArray, List.set_cons_succ, List.set_cons_zero]
  refine wpList_valn rfl (exec_as rfl (ev rfl)) ?_
  simp only [Act.put, List.setIfInBounds_toArray, List.set_cons_succ, List.set_cons_zero]
  refine wpList_nil ?_
  go_upto_region 2 with fail
  refine wp_region_lit ?_
  refine wpList_valn rfl (exec_mv rfl (ev rfl)) ?_
  simp only [Act.put, List.setIfInBounds_toArray, List.set_cons_succ, List.set_cons_zero]
  refine wpList_valn (v := .bool false) rfl (exec_neInt false rfl (ev rfl) evk rfl) ?_
  simp only [Act.put, List.setIfInBounds_toArray, List.set_cons_succ, List.set_cons_zero]
  refine wpList_nil ?_
  by_cases hq0 : Q = 0
  · subst hq0
    have HZ : Hid ((((0 : Nat) : Int) == 0) = true) := Lib.hid rfl
    go_upto_region 4 with fail
    refine wp_region_lit ?_
    refine wpList_valn rfl (exec_mv rfl (ev rfl)) ?_
    simp only [Act.put, List.setIfInBounds_toArray, List.set_cons_succ, List.set_cons_zero]
    refine wpList_valn (v := .bool true) rfl (exec_eqInt true rfl (ev rfl) evk HZ.out) ?_
    simp only [Act.put, List.setIfInBounds_toArray, List.set_cons_succ, List.set_cons_zero]
    refine wpList_nil ?_
    go_wp2_with fail
    go_ret
    exact ⟨by rw [lnSE_0]; rfl, by rw [lnSet_0]; exact ⟨HL.out, HBp.out, HS.out⟩, Turn.of_below HB1.out⟩
  have HZ : Hid (((Q : Int) == 0) = false) := Lib.hid (beq_eq_false_iff_ne.2 (by omega))
  have HQ0 := Lib.hid hq0
  clear hq0
  go_upto_region 4 with fail
  refine wp_region_lit ?_
  refine wpList_valn rfl (exec_mv rfl (ev rfl)) ?_
  simp only [Act.put, List.setIfInBounds_toArray, List.set_cons_succ, List.set_cons_zero]
  refine wpList_valn (v := .bool false) rfl (exec_eqInt false rfl (ev rfl) evk HZ.out) ?_
  simp only [Act.put, List.setIfInBounds_toArray, List.set_cons_succ, List.set_cons_zero]
  refine wpList_nil ?_
  go_upto_region 6 with fail
  refine wp_region_lit ?_
  refine wpList_valn rfl (exec_mv rfl (ev rfl)) ?_
  simp only [Act.put, List.setIfInBounds_toArray, List.set_cons_succ, List.set_cons_zero]
  refine wpList_valn rfl (exec_mv rfl (ev rfl)) ?_
  simp only [Act.put, List.setIfInBounds_toArray, List.set_cons_succ, List.set_cons_zero]
  refine wpList_valn rfl (exec_load rfl (ev rfl) HX.out) ?_
  simp only [Act.put, List.setIfInBounds_toArray, List.set_cons_succ, List.set_cons_zero]
  refine wpList_call rfl (exec_cl Try.call29 rfl (evc (ev rfl) (evc (ev rfl) (evc (ev rfl) evn)))) ?_
  refine (pl_know _ k b HL.out HK.out HBp.out).mono ?_
  rintro e w2 ⟨rfl, h2, t2⟩
  have HL2 := Lib.hid h2
  have HT2 := Lib.hid ((Turn.of_below HB1.out).trans t2)
  clear h2 t2
  refine ⟨_, rfl, ?_⟩
  simp only [Act.put, List.setIfInBounds_toArray, List.set_cons_succ, List.set_cons_zero]
  refine wpList_nil ?_
  have HC2 := Lib.hid (HL2.out.cD HK.out)
  have HF2 := Lib.hid (HL2.out.fz (17 + k))
  have HL3 := Lib.hid (HL2.out.sD HK.out true)
  have HT3 := Lib.hid (HL2.out.t1 HT2.out HBp.out (17 + k) (.bool true))
  go_upto_region 7 with fail
  refine wp_region_lit ?_
  refine wpList_valn rfl (exec_mv rfl (ev rfl)) ?_
  simp only [Act.put, List.setIfInBounds_toArray, List.set_cons_succ, List.set_cons_zero]
  refine wpList_valn rfl (exec_mv rfl (ev rfl)) ?_
  simp only [Act.put, List.setIfInBounds_toArray, List.set_cons_succ, List.set_cons_zero]
  refine wpList_valn rfl (exec_nil rfl (ev rfl)) ?_
  simp only [Act.put, List.setIfInBounds_toArray, List.set_cons_succ, List.set_cons_zero]
  refine wpList_valn rfl (exec_faddr rfl (ev rfl) faPl2) ?_
  simp only [Act.put, List.setIfInBounds_toArray, List.set_cons_succ, List.set_cons_zero]
  refine wpList_valn rfl (exec_ix rfl (ev rfl) (ev rfl) (ixPb HK.out)) ?_
  simp only [Act.put, List.setIfInBounds_toArray, List.set_cons_succ, List.set_cons_zero]
  refine wpList_nuln rfl (exec_st rfl (ev rfl) evk (stBo_ HC2.out HF2.out)) ?_
  simp only [Act.put, List.setIfInBounds_toArray, List.set_cons_succ, List.set_cons_zero]
  generalize w2.setCell ⟨p, 17 + k, none⟩ (.bool true) = w3 at *
  refine wpList_nil ?_
  have HC3 : Hid (w3.cell? ⟨p, 1057, none⟩ = some (.int .u64 (s.f : Int))) := Lib.hid HL3.out.cF
  have HF3 := Lib.hid (HL3.out.fz 1057)
  have HL4 := Lib.hid (HL3.out.sF (Q : Int))
  have HT4 := Lib.hid (HL3.out.t1 HT3.out HBp.out 1057 (.int .u64 (Q : Int)))
  have HSE : Hid (lnSE s (k : Int) Q = 0) := Lib.hid (lnSE_ok HKL.out HQ0.out)
  have HOK : Hid (LnOk (lnSet s (k : Int) b Q)) := Lib.hid (HS.out.set _ _ HQ.out)
  by_cases hf : s.f = 0
  · have HZf : Hid (((s.f : Int) == 0) = true) := Lib.hid (beq_iff_eq.2 (by omega))
    have HM : Hid (minF s.f Q = Q) := Lib.hid (if_pos (.inl hf))
    clear hf
    go_upto_region 8 with fail
    refine wp_region_lit ?_
    refine wpList_valn rfl (exec_mv rfl (ev rfl)) ?_
    simp only [Act.put, List.setIfInBounds_toArray, List.set_cons_succ, List.set_cons_zero]
    refine wpList_valn rfl (exec_nil rfl (ev rfl)) ?_
    simp only [Act.put, List.setIfInBounds_toArray, List.set_cons_succ, List.set_cons_zero]
    refine wpList_valn rfl (exec_faddr rfl (ev rfl) faPl4) ?_
    simp only [Act.put, List.setIfInBounds_toArray, List.set_cons_succ, List.set_cons_zero]
    refine wpList_valn rfl (exec_ld rfl (ev rfl) (ldU64 HC3.out)) ?_
    simp only [Act.put, List.setIfInBounds_toArray, List.set_cons_succ, List.set_cons_zero]
    refine wpList_valn (v := .bool true) rfl (exec_eqInt true rfl (ev rfl) evk HZf.out) ?_
    simp only [Act.put, List.setIfInBounds_toArray, List.set_cons_succ, List.set_cons_zero]
    refine wpList_skips 6 (v := .bool true) rfl (exec_mv rfl (ev rfl)) (by kernel_rfl) ?_
    simp only [skipAct, List.take_succ_cons, List.take_zero, List.drop_succ_cons, List.drop_zero, Act.put, List.setIfInBounds_toArray, List.set_cons_succ, List.set_cons_zero]
    refine wpList_valn (v := .bool true) rfl (exec_pt rfl (ev rfl) evk) ?_
    simp only [Act.put, List.setIfInBounds_toArray, List.set_cons_succ, List.set_cons_zero]
    refine wpList_nil ?_
    go_upto_region 9 with fail
    refine wp_region_lit ?_
    refine wpList_valn rfl (exec_mv rfl (ev rfl)) ?_
    simp only [Act.put, List.setIfInBounds_toArray, List.set_cons_succ, List.set_cons_zero]
    refine wpList_valn rfl (exec_mv rfl (ev rfl)) ?_
    simp only [Act.put, List.setIfInBounds_toArray, List.set_cons_succ, List.set_cons_zero]
    refine wpList_valn rfl (exec_nil rfl (ev rfl)) ?_
    simp only [Act.put, List.setIfInBounds_toArray, List.set_cons_succ, List.set_cons_zero]
    refine wpList_valn rfl (exec_faddr rfl (ev rfl) faPl4) ?_
    simp only [Act.put, List.setIfInBounds_toArray, List.set_cons_succ, List.set_cons_zero]
    refine wpList_nuln rfl (exec_st rfl (ev rfl) (ev rfl) (stU64_ HC3.out HF3.out)) ?_
    simp only [Act.put, List.setIfInBounds_toArray, List.set_cons_succ, List.set_cons_zero]
    generalize w3.setCell ⟨p, 1057, none⟩ (.int .u64 (Q : Int)) = w4 at *
    refine wpList_nil ?_
    go_wp2_with fail
    go_ret
    exact ⟨by rw [HSE.out]; rfl, ⟨by rw [lf_stS b HKL.out HQ0.out, HM.out]; exact HL4.out, HBp.out, HOK.out⟩, HT4.out⟩
  have HZf : Hid (((s.f : Int) == 0) = false) := Lib.hid (beq_eq_false_iff_ne.2 (by omega))
  by_cases hl : Q < s.f
  · have HLS : Hid (decide ((Q : Int) < (s.f : Int)) = true) := Lib.hid (decide_eq_true (by omega))
    have HM : Hid (minF s.f Q = Q) := Lib.hid (if_pos (.inr hl))
    clear hf hl
    go_upto_region 8 with fail
    refine wp_region_lit ?_
    refine wpList_valn rfl (exec_mv rfl (ev rfl)) ?_
    simp only [Act.put, List.setIfInBounds_toArray, List.set_cons_succ, List.set_cons_zero]
    refine wpList_valn rfl (exec_nil rfl (ev rfl)) ?_
    simp only [Act.put, List.setIfInBounds_toArray, List.set_cons_succ, List.set_cons_zero]
    refine wpList_valn rfl (exec_faddr rfl (ev rfl) faPl4) ?_
    simp only [Act.put, List.setIfInBounds_toArray, List.set_cons_succ, List.set_cons_zero]
    refine wpList_valn rfl (exec_ld rfl (ev rfl) (ldU64 HC3.out)) ?_
    simp only [Act.put, List.setIfInBounds_toArray, List.set_cons_succ, List.set_cons_zero]
    refine wpList_valn (v := .bool false) rfl (exec_eqInt false rfl (ev rfl) evk HZf.out) ?_
    simp only [Act.put, List.setIfInBounds_toArray, List.set_cons_succ, List.set_cons_zero]
    refine wpList_valn (v := .bool false) rfl (exec_mv rfl (ev rfl)) ?_
    simp only [Act.put, List.setIfInBounds_toArray, List.set_cons_succ, List.set_cons_zero]
    refine wpList_val (wanted_of rfl rfl rfl rfl) (exec_mv rfl (ev rfl)) ?_
    simp only [Act.put, List.setIfInBounds_toArray, List.set_cons_succ, List.set_cons_zero]
    refine wpList_val (wanted_of rfl rfl rfl rfl) (exec_mv rfl (ev rfl)) ?_
    simp only [Act.put, List.setIfInBounds_toArray, List.set_cons_succ, List.set_cons_zero]
    refine wpList_val (wanted_of rfl rfl rfl rfl) (exec_nil rfl (ev rfl)) ?_
    simp only [Act.put, List.setIfInBounds_toArray, List.set_cons_succ, List.set_cons_zero]
    refine wpList_val (wanted_of rfl rfl rfl rfl) (exec_faddr rfl (ev rfl) faPl4) ?_
    simp only [Act.put, List.setIfInBounds_toArray, List.set_cons_succ, List.set_cons_zero]
    refine wpList_val (wanted_of rfl rfl rfl rfl) (exec_ld rfl (ev rfl) (ldU64 HC3.out)) ?_
    simp only [Act.put, List.setIfInBounds_toArray, List.set_cons_succ, List.set_cons_zero]
    refine wpList_val (v := .bool true) (wanted_of rfl rfl rfl rfl) (exec_lss true rfl (ev rfl) (ev rfl) HLS.out) ?_
    simp only [Act.put, List.setIfInBounds_toArray, List.set_cons_succ, List.set_cons_zero]
    refine wpList_valn (v := .bool true) rfl (exec_pf rfl (ev rfl) (ev rfl)) ?_
    simp only [Act.put, List.setIfInBounds_toArray, List.set_cons_succ, List.set_cons_zero]
    refine wpList_nil ?_
    go_upto_region 9 with fail
    refine wp_region_lit ?_
    refine wpList_valn rfl (exec_mv rfl (ev rfl)) ?_
    simp only [Act.put, List.setIfInBounds_toArray, List.set_cons_succ, List.set_cons_zero]
    refine wpList_valn rfl (exec_mv rfl (ev rfl)) ?_
    simp only [Act.put, List.setIfInBounds_toArray, List.set_cons_succ, List.set_cons_zero]
    refine wpList_valn rfl (exec_nil rfl (ev rfl)) ?_
    simp only [Act.put, List.setIfInBounds_toArray, List.set_cons_succ, List.set_cons_zero]
    refine wpList_valn rfl (exec_faddr rfl (ev rfl) faPl4) ?_
    simp only [Act.put, List.setIfInBounds_toArray, List.set_cons_succ, List.set_cons_zero]
    refine wpList_nuln rfl (exec_st rfl (ev rfl) (ev rfl) (stU64_ HC3.out HF3.out)) ?_
    simp only [Act.put, List.setIfInBounds_toArray, List.set_cons_succ, List.set_cons_zero]
    generalize w3.setCell ⟨p, 1057, none⟩ (.int .u64 (Q : Int)) = w4 at *
    refine wpList_nil ?_
    go_wp2_with fail
    go_ret
    exact ⟨by rw [HSE.out]; rfl, ⟨by rw [lf_stS b HKL.out HQ0.out, HM.out]; exact HL4.out, HBp.out, HOK.out⟩, HT4.out⟩
  have HLS : Hid (decide ((Q : Int) < (s.f : Int)) = false) := Lib.hid (decide_eq_false (by omega))
  have HM : Hid (minF s.f Q = s.f) := Lib.hid (if_neg (by omega))
  clear hf hl
  go_upto_region 8 with fail
  refine wp_region_lit ?_
  refine wpList_valn rfl (exec_mv rfl (ev rfl)) ?_
  simp only [Act.put, List.setIfInBounds_toArray, List.set_cons_succ, List.set_cons_zero]
  refine wpList_valn rfl (exec_nil rfl (ev rfl)) ?_
  simp only [Act.put, List.setIfInBounds_toArray, List.set_cons_succ, List.set_cons_zero]
  refine wpList_valn rfl (exec_faddr rfl (ev rfl) faPl4) ?_
  simp only [Act.put, List.setIfInBounds_toArray, List.set_cons_succ, List.set_cons_zero]
  refine wpList_valn rfl (exec_ld rfl (ev rfl) (ldU64 HC3.out)) ?_
  simp only [Act.put, List.setIfInBounds_toArray, List.set_cons_succ, List.set_cons_zero]
  refine wpList_valn (v := .bool false) rfl (exec_eqInt false rfl (ev rfl) evk HZf.out) ?_
  simp only [Act.put, List.setIfInBounds_toArray, List.set_cons_succ, List.set_cons_zero]
  refine wpList_valn (v := .bool false) rfl (exec_mv rfl (ev rfl)) ?_
  simp only [Act.put, List.setIfInBounds_toArray, List.set_cons_succ, List.set_cons_zero]
  refine wpList_val (wanted_of rfl rfl rfl rfl) (exec_mv rfl (ev rfl)) ?_
  simp only [Act.put, List.setIfInBounds_toArray, List.set_cons_succ, List.set_cons_zero]
  refine wpList_val (wanted_of rfl rfl rfl rfl) (exec_mv rfl (ev rfl)) ?_
  simp only [Act.put, List.setIfInBounds_toArray, List.set_cons_succ, List.set_cons_zero]
  refine wpList_val (wanted_of rfl rfl rfl rfl) (exec_nil rfl (ev rfl)) ?_
  simp only [Act.put, List.setIfInBounds_toArray, List.set_cons_succ, List.set_cons_zero]
  refine wpList_val (wanted_of rfl rfl rfl rfl) (exec_faddr rfl (ev rfl) faPl4) ?_
  simp only [Act.put, List.setIfInBounds_toArray, List.set_cons_succ, List.set_cons_zero]
  refine wpList_val (wanted_of rfl rfl rfl rfl) (exec_ld rfl (ev rfl) (ldU64 HC3.out)) ?_
  simp only [Act.put, List.setIfInBounds_toArray, List.set_cons_succ, List.set_cons_zero]
  refine wpList_val (v := .bool false) (wanted_of rfl rfl rfl rfl) (exec_lss false rfl (ev rfl) (ev rfl) HLS.out) ?_
  simp only [Act.put, List.setIfInBounds_toArray, List.set_cons_succ, List.set_cons_zero]
  refine wpList_valn (v := .bool false) rfl (exec_pf rfl (ev rfl) (ev rfl)) ?_
  simp only [Act.put, List.setIfInBounds_toArray, List.set_cons_succ, List.set_cons_zero]
  refine wpList_nil ?_
  go_wp2_with fail
  go_ret
  exact ⟨by rw [HSE.out]; rfl, ⟨by rw [lf_stS b HKL.out HQ0.out, HM.out]; exact HL3.out, HBp.out, HOK.out⟩, HT3.out⟩
theorem pl_forget (w : World) (m : Int) {B p : Nat} {s : LnS} (h : PLn w B p s) : Calls Try.prog 14 #[.pointer (some ⟨p, 0, none⟩), .int .i64 m] w fun e w' => e = .returned (.int .i64 (lnE s m)) ∧ PLn w' B p (lnFrg s m) ∧ Turn isPn B w w' := by
  obtain ⟨h, hB, hs⟩ := h
  have HL := Lib.hid h
  have HBp := Lib.hid hB
  have HS := Lib.hid hs
  clear h hB hs
  go_enter Try.func14, Try.ntmps14
  cases hr : lnR s m
  · have HE := Lib.hid (lnE_no hr)
    have HR := Lib.hid hr
    clear hr
    go_upto_region 1 with fail
    refine wp_region_lit ?_
    refine wpList_valn rfl (exec_mv rfl (ev rfl)) ?_
    simp only [Act.put, List.setIfInBounds_toArray, List.set_cons_succ, List.set_cons_zero]
    refine wpList_valn rfl (exec_mv rfl (ev rfl)) ?_
    simp only [Act.put, List.setIfInBounds_toArray, List.set_cons_succ, List.set_cons_zero]
    refine wpList_call rfl (exec_cl Try.call28 rfl (evc (ev rfl) (evc (ev rfl) evn))) ?_
    refine (pl_may_v _ HL.out HS.out HE.out).mono ?_
    rintro e w' ⟨rfl, rfl⟩
    refine ⟨_, rfl, ?_⟩
    simp only [Act.put, List.setIfInBounds_toArray, List.set_cons_succ, List.set_cons_zero]
    refine wpList_valn rfl (exec_as rfl (ev rfl)) ?_
    simp only [Act.put, List.setIfInBounds_toArray, List.set_cons_succ, List.set_cons_zero]
    refine wpList_nil ?_
    go_upto_region 2 with fail
    refine wp_region_lit ?_
    refine wpList_valn rfl (exec_mv rfl (ev rfl)) ?_
    simp only [Act.put, List.setIfInBounds_toArray, List.set_cons_succ, List.set_cons_zero]
    refine wpList_valn (v := .bool true) rfl (exec_neInt true rfl (ev rfl) evk rfl) ?_
    simp only [Act.put, List.setIfInBounds_toArray, List.set_cons_succ, List.set_cons_zero]
    refine wpList_nil ?_
    go_wp2_with fail
    go_ret
    exact ⟨by rw [HE.out]; rfl, by rw [lnFrg_no HR.out]; exact ⟨HL.out, HBp.out, HS.out⟩, Turn.refl _ _ _⟩
  obtain ⟨k, rfl, hk⟩ := lnR_get hr
  have HE := Lib.hid (lnE_ok hk)
  have HKL := Lib.hid hk
  have HK : Hid (k < 16) := Lib.hid (Nat.lt_of_lt_of_le hk HS.out.hi)
  clear hr hk
  go_upto_region 1 with fail
  refine wp_region_lit ?_
  refine wpList_valn rfl (exec_mv rfl (ev rfl)) ?_
  simp only [Act.put, List.setIfInBounds_toArray, List.set_cons_succ, List.set_cons_zero]
  refine wpList_valn rfl (exec_mv rfl (ev rfl)) ?_
  simp only [Act.put, List.setIfInBounds_toArray, List.set_cons_succ, List.set_cons_zero]
  refine wpList_call rfl (exec_cl Try.call28 rfl (evc (ev rfl) (evc (ev rfl) evn))) ?_
  refine (pl_may_v _ HL.out HS.out HE.out).mono ?_
  rintro e w' ⟨rfl, rfl⟩
  refine ⟨_, rfl, ?_⟩
  simp only [Act.put, List.setIfInBounds_toArray, List.set_cons_succ, List.set_cons_zero]
  refine wpList_valn rfl (exec_as rfl (ev rfl)) ?_
  simp only [Act.put, List.setIfInBounds_toArray, List.set_cons_succ, List.set_cons_zero]
  refine wpList_nil ?_
  go_upto_region 2 with fail
  refine wp_region_lit ?_
  refine wpList_valn rfl (exec_mv rfl (ev rfl)) ?_
  simp only [Act.put, List.setIfInBounds_toArray, List.set_cons_succ, List.set_cons_zero]
  refine wpList_valn (v := .bool false) rfl (exec_neInt false rfl (ev rfl) evk rfl) ?_
  simp only [Act.put, List.setIfInBounds_toArray, List.set_cons_succ, List.set_cons_zero]
  refine wpList_nil ?_
  have HC0 := Lib.hid (HL.out.drew.cK HK.out)
  have HF0 := Lib.hid (HL.out.drew.fz (1 + k))
  have HL1 := Lib.hid (HL.out.drew.sK HK.out false)
  have HT1 := Lib.hid (HL.out.drew.t1 (Turn.refl isPn B w).drew HBp.out (1 + k) (.bool false))
  go_upto_region 4 with fail
  refine wp_region_held (S := fun _ => True) (by kernel_rfl) ?_
  change wpAnyH _ _ _ _ _ 19 _ _ w.drew
  refine held_val 0 rfl (by kernel_rfl) (by kernel_rfl) (by kernel_rfl) rfl (fun w' hw => exec_mv rfl (ev rfl)) (fun _ _ _ h => h) trivial ?_
  simp only [Act.put, List.setIfInBounds_toArray, List.set_cons_succ, List.set_cons_zero]
  refine held_val 1 rfl (by kernel_rfl) (by kernel_rfl) (by kernel_rfl) rfl (fun w' hw => exec_mv rfl (ev rfl)) (fun _ _ _ h => h) trivial ?_
  simp only [Act.put, List.setIfInBounds_toArray, List.set_cons_succ, List.set_cons_zero]
  refine held_val 2 rfl (by kernel_rfl) (by kernel_rfl) (by kernel_rfl) rfl (fun w' hw => exec_mv rfl (ev rfl)) (fun _ _ _ h => h) trivial ?_
  simp only [Act.put, List.setIfInBounds_toArray, List.set_cons_succ, List.set_cons_zero]
  refine held_val 3 rfl (by kernel_rfl) (by kernel_rfl) (by kernel_rfl) rfl (fun w' hw => exec_mv rfl (ev rfl)) (fun _ _ _ h => h) trivial ?_
  simp only [Act.put, List.setIfInBounds_toArray, List.set_cons_succ, List.set_cons_zero]
  refine held_val 4 rfl (by kernel_rfl) (by kernel_rfl) (by kernel_rfl) rfl (fun w' hw => exec_mv rfl (ev rfl)) (fun _ _ _ h => h) trivial ?_
  simp only [Act.put, List.setIfInBounds_toArray, List.set_cons_succ, List.set_cons_zero]
  refine held_val 5 rfl (by kernel_rfl) (by kernel_rfl) (by kernel_rfl) rfl (fun w' hw => exec_mv rfl (ev rfl)) (fun _ _ _ h => h) trivial ?_
  simp only [Act.put, List.setIfInBounds_toArray, List.set_cons_succ, List.set_cons_zero]
  refine held_val 6 rfl (by kernel_rfl) (by kernel_rfl) (by kernel_rfl) rfl (fun w' hw => exec_build (c := zeroB) (parts := []) rfl rfl) (fun _ _ _ h => h) trivial ?_
  simp only [Act.put, List.setIfInBounds_toArray, List.set_cons_succ, List.set_cons_zero]
  refine held_val 7 rfl (by kernel_rfl) (by kernel_rfl) (by kernel_rfl) rfl (fun w' hw => exec_nil rfl (ev rfl)) (fun _ _ _ h => h) trivial ?_
  simp only [Act.put, List.setIfInBounds_toArray, List.set_cons_succ, List.set_cons_zero]
  refine held_val 8 rfl (by kernel_rfl) (by kernel_rfl) (by kernel_rfl) rfl (fun w' hw => exec_faddr rfl (ev rfl) faPl1) (fun _ _ _ h => h) trivial ?_
  simp only [Act.put, List.setIfInBounds_toArray, List.set_cons_succ, List.set_cons_zero]
  refine held_val 11 rfl (by kernel_rfl) (by kernel_rfl) (by kernel_rfl) rfl (fun w' hw => exec_nil rfl (ev rfl)) (fun _ _ _ h => h) trivial ?_
  simp only [Act.put, List.setIfInBounds_toArray, List.set_cons_succ, List.set_cons_zero]
  refine held_val 12 rfl (by kernel_rfl) (by kernel_rfl) (by kernel_rfl) rfl (fun w' hw => exec_faddr rfl (ev rfl) faPl2) (fun _ _ _ h => h) trivial ?_
  simp only [Act.put, List.setIfInBounds_toArray, List.set_cons_succ, List.set_cons_zero]
  refine held_val 15 rfl (by kernel_rfl) (by kernel_rfl) (by kernel_rfl) rfl (fun w' hw => exec_nil rfl (ev rfl)) (fun _ _ _ h => h) trivial ?_
  simp only [Act.put, List.setIfInBounds_toArray, List.set_cons_succ, List.set_cons_zero]
  refine held_val 16 rfl (by kernel_rfl) (by kernel_rfl) (by kernel_rfl) rfl (fun w' hw => exec_faddr rfl (ev rfl) faPl3) (fun _ _ _ h => h) trivial ?_
  simp only [Act.put, List.setIfInBounds_toArray, List.set_cons_succ, List.set_cons_zero]
  refine held_val 9 rfl (by kernel_rfl) (by kernel_rfl) (by kernel_rfl) rfl (fun w' hw => exec_ix rfl (ev rfl) (ev rfl) (ixPb HK.out)) (fun _ _ _ h => h) trivial ?_
  simp only [Act.put, List.setIfInBounds_toArray, List.set_cons_succ, List.set_cons_zero]
  refine held_nul 10 rfl (by kernel_rfl) rfl (exec_st rfl (ev rfl) evk (stBo_ HC0.out HF0.out)) trivial ?_
  simp only [Act.put]
  generalize (World.drew w).setCell ⟨p, 1 + k, none⟩ (.bool false) = w1 at *
  have HC1 := Lib.hid (HL1.out.cD HK.out)
  have HF1 := Lib.hid (HL1.out.fz (17 + k))
  have HL2 := Lib.hid (HL1.out.sD HK.out false)
  have HT2 := Lib.hid (HL1.out.t1 HT1.out HBp.out (17 + k) (.bool false))
  refine held_val 13 rfl (by kernel_rfl) (by kernel_rfl) (by kernel_rfl) rfl (fun w' hw => exec_ix rfl (ev rfl) (ev rfl) (ixPb HK.out)) (fun _ _ _ h => h) trivial ?_
  simp only [Act.put, List.setIfInBounds_toArray, List.set_cons_succ, List.set_cons_zero]
  refine held_nul 14 rfl (by kernel_rfl) rfl (exec_st rfl (ev rfl) evk (stBo_ HC1.out HF1.out)) trivial ?_
  simp only [Act.put]
  generalize w1.setCell ⟨p, 17 + k, none⟩ (.bool false) = w2 at *
  have HTH := Lib.hid (HL2.out.there (o := 33 + k * 64) (m := 64) (by have := HK.out; omega))
  have HL3 := Lib.hid (HL2.out.sB HK.out zeroB)
  have HT3 := Lib.hid (HL2.out.tn HT2.out HBp.out (33 + k * 64) (cel zeroB))
  refine held_val 17 rfl (by kernel_rfl) (by kernel_rfl) (by kernel_rfl) rfl (fun w' hw => exec_ix rfl (ev rfl) (ev rfl) (ixPk HK.out)) (fun _ _ _ h => h) trivial ?_
  simp only [Act.put, List.setIfInBounds_toArray, List.set_cons_succ, List.set_cons_zero]
  refine held_nul 18 rfl (by kernel_rfl) rfl (exec_store rfl (ev rfl) (ev rfl) HTH.out) trivial ?_
  simp only [Act.put]
  generalize w2.setCells p (33 + k * 64) (cel zeroB) = w3 at *
  refine wpAnyH_done (by kernel_rfl) ?_ _
  go_wp2_with fail
  go_ret
  exact ⟨by rw [HE.out]; rfl, ⟨by rw [lf_frg HKL.out]; exact HL3.out, HBp.out, HS.out.frg _⟩, HT3.out⟩
theorem pl_get (w : World) (m : Int) {B p : Nat} {s : LnS} (h : PLn w B p s) : Calls Try.prog 17 #[.pointer (some ⟨p, 0, none⟩), .int .i64 m] w fun e w' => e = .returned (.tuple #[blk (lnG s m).b, .bool (lnG s m).kn]) ∧ Below w.heap.size w w' := by
  obtain ⟨h, hB, hs⟩ := h
  have HB1 : Hid (Below w.heap.size w (w.alloc (.cells (cel zeroB).toArray 33))) := Lib.hid ((Below.refl _ _).alloc (Nat.le_refl _) _)
  have HL : Hid (LnA (w.alloc (.cells (cel zeroB).toArray 33)) p (lf s)) := Lib.hid (h.below HB1.out)
  have HT := Lib.hid (there_new w zeroB 33)
  have HNE : Hid (p ≠ w.heap.size) := Lib.hid (by have := h.lt; omega)
  have HS := Lib.hid hs
  clear h hB hs
  go_enter Try.func17, Try.ntmps17
  go_upto_region 0 with fail
  refine wp_region_lit ?_
  refine wpList_valn rfl (exec_alloc rfl) ?_
  simp only [Act.put, List.setIfInBounds_toArray, List.set_cons_succ, List.set_cons_zero]
  refine wpList_valn (v := .bool false) rfl (exec_as rfl evk) ?_
  simp only [Act.put, List.setIfInBounds_toArray, List.set_cons_succ, List.set_cons_zero]
  refine wpList_nil ?_
  generalize w.alloc (.cells (cel zeroB).toArray 33) = w1 at *
  cases hr : lnR s m
  · have HE := Lib.hid (lnE_no hr)
    have HR := Lib.hid hr
    clear hr
    go_upto_region 1 with fail
    refine wp_region_lit ?_
    refine wpList_valn rfl (exec_mv rfl (ev rfl)) ?_
    simp only [Act.put, List.setIfInBounds_toArray, List.set_cons_succ, List.set_cons_zero]
    refine wpList_valn rfl (exec_mv rfl (ev rfl)) ?_
    simp only [Act.put, List.setIfInBounds_toArray, List.set_cons_succ, List.set_cons_zero]
    refine wpList_call rfl (exec_cl Try.call28 rfl (evc (ev rfl) (evc (ev rfl) evn))) ?_
    refine (pl_may_v _ HL.out HS.out HE.out).mono ?_
    rintro e w' ⟨rfl, rfl⟩
    refine ⟨_, rfl, ?_⟩
    simp only [Act.put, List.setIfInBounds_toArray, List.set_cons_succ, List.set_cons_zero]
    refine wpList_valn (v := .bool true) rfl (exec_neInt true rfl (ev rfl) evk rfl) ?_
    simp only [Act.put, List.setIfInBounds_toArray, List.set_cons_succ, List.set_cons_zero]
    refine wpList_nil ?_
    go_upto_region 2 with fail
    refine wp_region_lit ?_
    refine wpList_valn rfl (exec_build (c := zeroB) (parts := []) rfl rfl) ?_
    simp only [Act.put, List.setIfInBounds_toArray, List.set_cons_succ, List.set_cons_zero]
    refine wpList_nuln rfl (exec_store rfl (ev rfl) (ev rfl) HT.out) ?_
    simp only [Act.put, List.setIfInBounds_toArray, List.set_cons_succ, List.set_cons_zero]
    refine wpList_valn (v := .bool false) rfl (exec_as rfl evk) ?_
    simp only [Act.put, List.setIfInBounds_toArray, List.set_cons_succ, List.set_cons_zero]
    refine wpList_nil ?_
    go_wp2_with fail
    exact bodyPost_ret (res_blk2 rfl _ _ _ rfl (World.rangeAt_setCells_same _ _ _ _ (by rw [cel_length]; exact HT.out))) rfl ⟨by rw [lnG_no HR.out]; rfl, below_setCells HB1.out (Nat.le_refl _) _⟩
  obtain ⟨k, rfl, hk⟩ := lnR_get hr
  have HE := Lib.hid (lnE_ok hk)
  have HKL := Lib.hid hk
  have HK : Hid (k < 16) := Lib.hid (Nat.lt_of_lt_of_le hk HS.out.hi)
  clear hr hk
  go_upto_region 1 with fail
  refine wp_region_lit ?_
  refine wpList_valn rfl (exec_mv rfl (ev rfl)) ?_
  simp only [Act.put, List.setIfInBounds_toArray, List.set_cons_succ, List.set_cons_zero]
  refine wpList_valn rfl (exec_mv rfl (ev rfl)) ?_
  simp only [Act.put, List.setIfInBounds_toArray, List.set_cons_succ, List.set_cons_zero]
  refine wpList_call rfl (exec_cl Try.call28 rfl (evc (ev rfl) (evc (ev rfl) evn))) ?_
  refine (pl_may_v _ HL.out HS.out HE.out).mono ?_
  rintro e w' ⟨rfl, rfl⟩
  refine ⟨_, rfl, ?_⟩
  simp only [Act.put, List.setIfInBounds_toArray, List.set_cons_succ, List.set_cons_zero]
  refine wpList_valn (v := .bool false) rfl (exec_neInt false rfl (ev rfl) evk rfl) ?_
  simp only [Act.put, List.setIfInBounds_toArray, List.set_cons_succ, List.set_cons_zero]
  refine wpList_nil ?_
  have HS1 : Hid (LnA (World.drew w1) p (lf s) ∧ (World.drew w1).there w.heap.size 0 64) := Lib.hid ⟨HL.out.drew, there_drew HT.out⟩
  have HW2 : Hid (LnA ((World.drew w1).setCells w.heap.size 0 (cel (lnAt s k).b)) p (lf s)) := Lib.hid (by
    show _ = _
    rw [blk_setCells w.heap.size _ _ _ p HNE.out]
    exact HL.out.drew)
  have HT2 : Hid (((World.drew w1).setCells w.heap.size 0 (cel (lnAt s k).b)).there w.heap.size 0 64) := Lib.hid (there_set (there_drew HT.out))
  have HR2 : Hid (((World.drew w1).setCells w.heap.size 0 (cel (lnAt s k).b)).rangeAt w.heap.size 0 (cel (lnAt s k).b)) := Lib.hid (World.rangeAt_setCells_same _ _ _ _ (by rw [cel_length]; exact there_drew HT.out))
  have HB2 : Hid (Below w.heap.size w ((World.drew w1).setCells w.heap.size 0 (cel (lnAt s k).b))) := Lib.hid (below_setCells HB1.out.drew (Nat.le_refl _) _)
  go_upto_region 3 with fail
  refine wp_region_held (S := fun w' => LnA w' p (lf s) ∧ w'.there w.heap.size 0 64) (by kernel_rfl) ?_
  change wpAnyH _ _ _ _ _ 14 _ _ w1.drew
  refine held_val 0 rfl (by kernel_rfl) (by kernel_rfl) (by kernel_rfl) rfl (fun w' hw => exec_mv rfl (ev rfl)) (fun _ _ _ h => h) HS1.out ?_
  simp only [Act.put, List.setIfInBounds_toArray, List.set_cons_succ, List.set_cons_zero]
  refine held_val 1 rfl (by kernel_rfl) (by kernel_rfl) (by kernel_rfl) rfl (fun w' hw => exec_mv rfl (ev rfl)) (fun _ _ _ h => h) HS1.out ?_
  simp only [Act.put, List.setIfInBounds_toArray, List.set_cons_succ, List.set_cons_zero]
  refine held_val 2 rfl (by kernel_rfl) (by kernel_rfl) (by kernel_rfl) rfl (fun w' hw => exec_nil rfl (ev rfl)) (fun _ _ _ h => h) HS1.out ?_
  simp only [Act.put, List.setIfInBounds_toArray, List.set_cons_succ, List.set_cons_zero]
  refine held_val 3 rfl (by kernel_rfl) (by kernel_rfl) (by kernel_rfl) rfl (fun w' hw => exec_faddr rfl (ev rfl) faPl3) (fun _ _ _ h => h) HS1.out ?_
  simp only [Act.put, List.setIfInBounds_toArray, List.set_cons_succ, List.set_cons_zero]
  refine held_val 4 rfl (by kernel_rfl) (by kernel_rfl) (by kernel_rfl) rfl (fun w' hw => exec_ix rfl (ev rfl) (ev rfl) (ixPk HK.out)) (fun _ _ _ h => h) HS1.out ?_
  simp only [Act.put, List.setIfInBounds_toArray, List.set_cons_succ, List.set_cons_zero]
  refine held_val 5 rfl (by kernel_rfl) (by kernel_rfl) (by kernel_rfl) rfl (fun w' hw => exec_load (c := (lnAt s k).b) rfl (ev rfl) (hw.1.cB HK.out)) (fun _ _ _ h => h) HS1.out ?_
  simp only [Act.put, List.setIfInBounds_toArray, List.set_cons_succ, List.set_cons_zero]
  refine held_val 6 rfl (by kernel_rfl) (by kernel_rfl) (by kernel_rfl) rfl (fun w' hw => exec_mv rfl (ev rfl)) (fun _ _ _ h => h) HS1.out ?_
  simp only [Act.put, List.setIfInBounds_toArray, List.set_cons_succ, List.set_cons_zero]
  refine held_val 7 rfl (by kernel_rfl) (by kernel_rfl) (by kernel_rfl) rfl (fun w' hw => exec_mv rfl (ev rfl)) (fun _ _ _ h => h) HS1.out ?_
  simp only [Act.put, List.setIfInBounds_toArray, List.set_cons_succ, List.set_cons_zero]
  refine held_val 8 rfl (by kernel_rfl) (by kernel_rfl) (by kernel_rfl) rfl (fun w' hw => exec_nil rfl (ev rfl)) (fun _ _ _ h => h) HS1.out ?_
  simp only [Act.put, List.setIfInBounds_toArray, List.set_cons_succ, List.set_cons_zero]
  refine held_val 9 rfl (by kernel_rfl) (by kernel_rfl) (by kernel_rfl) rfl (fun w' hw => exec_faddr rfl (ev rfl) faPl1) (fun _ _ _ h => h) HS1.out ?_
  simp only [Act.put, List.setIfInBounds_toArray, List.set_cons_succ, List.set_cons_zero]
  refine held_val 10 rfl (by kernel_rfl) (by kernel_rfl) (by kernel_rfl) rfl (fun w' hw => exec_ix rfl (ev rfl) (ev rfl) (ixPb HK.out)) (fun _ _ _ h => h) HS1.out ?_
  simp only [Act.put, List.setIfInBounds_toArray, List.set_cons_succ, List.set_cons_zero]
  refine held_val 11 rfl (by kernel_rfl) (by kernel_rfl) (by kernel_rfl) rfl (fun w' hw => exec_ld rfl (ev rfl) (ldBo_ (hw.1.cK HK.out))) (fun _ _ _ h => h) HS1.out ?_
  simp only [Act.put, List.setIfInBounds_toArray, List.set_cons_succ, List.set_cons_zero]
  refine held_nul 12 rfl (by kernel_rfl) rfl (exec_store rfl (ev rfl) (ev rfl) (there_drew HT.out)) ⟨HW2.out, HT2.out⟩ ?_
  simp only [Act.put]
  generalize (World.drew w1).setCells w.heap.size 0 (cel (lnAt s k).b) = w2 at *
  refine held_val 13 rfl (by kernel_rfl) (by kernel_rfl) (by kernel_rfl) rfl (fun w' hw => exec_as rfl (ev rfl)) (fun _ _ _ h => h) ⟨HW2.out, HT2.out⟩ ?_
  simp only [Act.put, List.setIfInBounds_toArray, List.set_cons_succ, List.set_cons_zero]
  refine wpAnyH_done (by kernel_rfl) ?_ _
  go_wp2_with fail
  exact bodyPost_ret (res_blk2 rfl _ _ _ rfl HR2.out) rfl ⟨by rw [lnG_ok HKL.out]; rfl, HB2.out⟩
theorem pl_dirty (w : World) {B p : Nat} {s : LnS} (h : PLn w B p s) : Calls Try.prog 16 #[.pointer (some ⟨p, 0, none⟩)] w fun e w' => ∃ v, e = .returned v ∧ MadeE IntE w' w.heap.size v (lnD s) ∧ Below w.heap.size w w' := by
  obtain ⟨h, hB, hs⟩ := h
  have HH := Lib.hid h
  have HN : Hid (s.l.length ≤ 16) := Lib.hid hs.hi
  have HC := Lib.hid (pl_members w h)
  clear h hB hs
  go_enter Try.func16, Try.ntmps16
  go_upto_region 2 with fail
  refine wp_region_lit ?_
  refine wpList_valn rfl (exec_mv rfl (ev rfl)) ?_
  simp only [Act.put, List.setIfInBounds_toArray, List.set_cons_succ, List.set_cons_zero]
  refine wpList_call rfl (exec_cl Try.call20 rfl (evc (ev rfl) evn)) ?_
  refine (HC.out).mono ?_
  rintro e w' ⟨rfl, rfl⟩
  refine ⟨_, rfl, ?_⟩
  simp only [Act.put, List.setIfInBounds_toArray, List.set_cons_succ, List.set_cons_zero]
  refine wpList_valn rfl (exec_mv rfl evk) ?_
  simp only [Act.put, List.setIfInBounds_toArray, List.set_cons_succ, List.set_cons_zero]
  refine wpList_nil ?_
  go_wp2_with fail
  go_loopw [3, 7] (fun z c wr => ∃ i : Nat, c = .int .i64 i ∧ i ≤ s.l.length ∧ MadeE IntE wr w.heap.size z (drtN s.l i) ∧ Below w.heap.size w wr) (fun _ c _ => s.l.length - (intOf c).toNat)
  case atStart => exact ⟨0, by go_num, Nat.zero_le _, MadeE.nil _ _, Below.refl _ _⟩
  case round =>
    obtain ⟨i, rfl, hi, hm, hb⟩ := hrel
    have HM := Lib.hid hm
    have HW := Lib.hid hb
    have HL := Lib.hid (HH.out.below hb)
    have HBS : Hid (w.heap.size ≤ wr.heap.size) := Lib.hid hb.size
    by_cases hlt : i < s.l.length
    · have HI := Lib.hid hlt
      have HK : Hid (i < 16) := Lib.hid (by have := HN.out; omega)
      have HT : Hid (decide ((i : Int) < (s.l.length : Int)) = true) := Lib.hid (decide_eq_true (by omega))
      have HA : Hid (IntKind.i64.wrap ((i : Int) + 1) = ((i + 1 : Nat) : Int)) := Lib.hid (by have := HN.out; rw [i64k_ ⟨by omega, by omega⟩]; omega)
      clear hm hb hi hlt
      go_upto_region 3 with fail
      refine wp_region_lit ?_
      refine wpList_valn (v := .bool true) rfl (exec_lss true rfl (ev rfl) (ev rfl) HT.out) ?_
      simp only [Act.put, List.setIfInBounds_toArray, List.set_cons_succ, List.set_cons_zero]
      refine wpList_nil ?_
      go_upto_region 4 with fail
      refine wp_region_lit ?_
      refine wpList_valn rfl (exec_mv rfl (ev rfl)) ?_
      simp only [Act.put, List.setIfInBounds_toArray, List.set_cons_succ, List.set_cons_zero]
      refine wpList_valn rfl (exec_as rfl (ev rfl)) ?_
      simp only [Act.put, List.setIfInBounds_toArray, List.set_cons_succ, List.set_cons_zero]
      refine wpList_nil ?_
      cases hd : (lnAt s i).dt
      · have HD := Lib.hid hd
        have HST : Hid (drtN s.l (i + 1) = drtN s.l i) := Lib.hid (by rw [drtN, show (s.l.getD i lc0).dt = false from HD.out]; simp)
        clear hd
        go_upto_region 5 with fail
        refine wp_region_lit ?_
        refine wpList_valn rfl (exec_mv rfl (ev rfl)) ?_
        simp only [Act.put, List.setIfInBounds_toArray, List.set_cons_succ, List.set_cons_zero]
        refine wpList_valn rfl (exec_mv rfl (ev rfl)) ?_
        simp only [Act.put, List.setIfInBounds_toArray, List.set_cons_succ, List.set_cons_zero]
        refine wpList_valn rfl (exec_nil rfl (ev rfl)) ?_
        simp only [Act.put, List.setIfInBounds_toArray, List.set_cons_succ, List.set_cons_zero]
        refine wpList_valn rfl (exec_faddr rfl (ev rfl) faPl2) ?_
        simp only [Act.put, List.setIfInBounds_toArray, List.set_cons_succ, List.set_cons_zero]
        refine wpList_valn rfl (exec_ix rfl (ev rfl) (ev rfl) (ixPb HK.out)) ?_
        simp only [Act.put, List.setIfInBounds_toArray, List.set_cons_succ, List.set_cons_zero]
        refine wpList_valn (v := .bool false) rfl (exec_ld rfl (ev rfl) (ldBo_ (by rw [HL.out.cD HK.out]; exact congrArg (fun t => some (Value.bool t)) HD.out))) ?_
        simp only [Act.put, List.setIfInBounds_toArray, List.set_cons_succ, List.set_cons_zero]
        refine wpList_nil ?_
        go_upto_region 7 with fail
        refine wp_region_lit ?_
        refine wpList_valn rfl (exec_add rfl (ev rfl) evk HA.out) ?_
        simp only [Act.put, List.setIfInBounds_toArray, List.set_cons_succ, List.set_cons_zero]
        refine wpList_valn rfl (exec_mv rfl (ev rfl)) ?_
        simp only [Act.put, List.setIfInBounds_toArray, List.set_cons_succ, List.set_cons_zero]
        refine wpList_nil ?_
        go_wp2_with fail
        go_roundw
        case rel => exact ⟨i + 1, by go_num, HI.out, by rw [HST.out]; exact HM.out, HW.out⟩
        case measure => have := HI.out; simp [intOf]; omega
      have HD := Lib.hid hd
      have HST : Hid (drtN s.l (i + 1) = drtN s.l i ++ [(i : Int)]) := Lib.hid (by rw [drtN, show (s.l.getD i lc0).dt = true from HD.out]; rfl)
      have hsz : (wr.alloc (.cells #[.int .i64 (i : Int)] 3)).heap.size = wr.heap.size + 1 := World.size_alloc ..
      obtain ⟨v2, w2, hrun, hm2, hg2⟩ := run_appE IntE (wr.alloc (.cells #[.int .i64 (i : Int)] 3)) 43 w.heap.size (wr.heap.size + 1) 1 1 u3 (drtN s.l i) [(i : Int)] (some ⟨wr.heap.size, 0, none⟩) (MadeE.below HM.out ((Below.refl _ _).alloc (Nat.le_refl _) _)) (rdE_new (E := IntE) (l := [(i : Int)]) wr #[.int .i64 (i : Int)] 3 rfl) (by have := HBS.out; omega) (by have := drt_len s.l i; have := HI.out; have := HN.out; simp; omega)
      have HRUN := Lib.hid hrun
      have HM2 : Hid (MadeE IntE w2 w.heap.size v2 (drtN s.l (i + 1))) := Lib.hid (by rw [HST.out]; exact hm2)
      have HW2 : Hid (Below w.heap.size w w2) := Lib.hid ((HW.out.trans ((Below.refl _ _).alloc HBS.out _)).grown hg2 (by have := HBS.out; omega) (fun j' hj' => HM.out.lt_own j' hj'))
      clear hd hsz hrun hm2 hg2
      go_upto_region 5 with fail
      refine wp_region_lit ?_
      refine wpList_valn rfl (exec_mv rfl (ev rfl)) ?_
      simp only [Act.put, List.setIfInBounds_toArray, List.set_cons_succ, List.set_cons_zero]
      refine wpList_valn rfl (exec_mv rfl (ev rfl)) ?_
      simp only [Act.put, List.setIfInBounds_toArray, List.set_cons_succ, List.set_cons_zero]
      refine wpList_valn rfl (exec_nil rfl (ev rfl)) ?_
      simp only [Act.put, List.setIfInBounds_toArray, List.set_cons_succ, List.set_cons_zero]
      refine wpList_valn rfl (exec_faddr rfl (ev rfl) faPl2) ?_
      simp only [Act.put, List.setIfInBounds_toArray, List.set_cons_succ, List.set_cons_zero]
      refine wpList_valn rfl (exec_ix rfl (ev rfl) (ev rfl) (ixPb HK.out)) ?_
      simp only [Act.put, List.setIfInBounds_toArray, List.set_cons_succ, List.set_cons_zero]
      refine wpList_valn (v := .bool true) rfl (exec_ld rfl (ev rfl) (ldBo_ (by rw [HL.out.cD HK.out]; exact congrArg (fun t => some (Value.bool t)) HD.out))) ?_
      simp only [Act.put, List.setIfInBounds_toArray, List.set_cons_succ, List.set_cons_zero]
      refine wpList_nil ?_
      go_upto_region 6 with fail
      refine wp_region_lit ?_
      refine wpList_valn rfl (exec_mv rfl (ev rfl)) ?_
      simp only [Act.put, List.setIfInBounds_toArray, List.set_cons_succ, List.set_cons_zero]
      refine wpList_valn rfl (exec_mv rfl (ev rfl)) ?_
      simp only [Act.put, List.setIfInBounds_toArray, List.set_cons_succ, List.set_cons_zero]
      refine wpList_valn rfl (exec_mk1E (E := IntE) (a := (i : Int)) rfl (ev rfl) rfl (by decide)) ?_
      simp only [Act.put, List.setIfInBounds_toArray, List.set_cons_succ, List.set_cons_zero]
      refine wpList_valn rfl (exec_appE (E := IntE) rfl (ev rfl) (ev rfl) HRUN.out) ?_
      simp only [Act.put, List.setIfInBounds_toArray, List.set_cons_succ, List.set_cons_zero]
      refine wpList_valn rfl (exec_as rfl (ev rfl)) ?_
      simp only [Act.put, List.setIfInBounds_toArray, List.set_cons_succ, List.set_cons_zero]
      refine wpList_nil ?_
      go_upto_region 7 with fail
      refine wp_region_lit ?_
      refine wpList_valn rfl (exec_add rfl (ev rfl) evk HA.out) ?_
      simp only [Act.put, List.setIfInBounds_toArray, List.set_cons_succ, List.set_cons_zero]
      refine wpList_valn rfl (exec_mv rfl (ev rfl)) ?_
      simp only [Act.put, List.setIfInBounds_toArray, List.set_cons_succ, List.set_cons_zero]
      refine wpList_nil ?_
      go_wp2_with fail
      go_roundw
      case rel => exact ⟨i + 1, by go_num, HI.out, HM2.out, HW2.out⟩
      case measure => have := HI.out; simp [intOf]; omega
    have hin : i = s.l.length := by omega
    subst hin
    have HT : Hid (decide ((s.l.length : Int) < (s.l.length : Int)) = false) := Lib.hid (decide_eq_false (by omega))
    clear hlt hi hm hb
    go_upto_region 3 with fail
    refine wp_region_lit ?_
    refine wpList_valn (v := .bool false) rfl (exec_lss false rfl (ev rfl) (ev rfl) HT.out) ?_
    simp only [Act.put, List.setIfInBounds_toArray, List.set_cons_succ, List.set_cons_zero]
    refine wpList_nil ?_
    go_wp2_with fail
    go_ret
    exact ⟨_, rfl, HM.out, HW.out⟩
theorem pl_first (w : World) {p : Nat} {x : LnF} (h : LnA w p x) : Calls Try.prog 18 #[.pointer (some ⟨p, 0, none⟩)] w fun e w' => e = .returned (.int .u64 x.f) ∧ w = w' := by
  have HL := Lib.hid h
  clear h
  go_enter Try.func18, Try.ntmps18
  go_upto_region 1 with fail
  refine wp_region_lit ?_
  refine wpList_valn rfl (exec_mv rfl (ev rfl)) ?_
  simp only [Act.put, List.setIfInBounds_toArray, List.set_cons_succ, List.set_cons_zero]
  refine wpList_valn (v := .bool false) rfl (exec_eqNil false Try.underlying23 rfl (ev rfl) evk rfl) ?_
  simp only [Act.put, List.setIfInBounds_toArray, List.set_cons_succ, List.set_cons_zero]
  refine wpList_nil ?_
  go_upto_region 3 with fail
  refine wp_region_lit ?_
  refine wpList_valn rfl (exec_mv rfl (ev rfl)) ?_
  simp only [Act.put, List.setIfInBounds_toArray, List.set_cons_succ, List.set_cons_zero]
  refine wpList_valn rfl (exec_nil rfl (ev rfl)) ?_
  simp only [Act.put, List.setIfInBounds_toArray, List.set_cons_succ, List.set_cons_zero]
  refine wpList_valn rfl (exec_faddr rfl (ev rfl) faPl4) ?_
  simp only [Act.put, List.setIfInBounds_toArray, List.set_cons_succ, List.set_cons_zero]
  refine wpList_valn rfl (exec_ld rfl (ev rfl) (ldU64 HL.out.cF)) ?_
  simp only [Act.put, List.setIfInBounds_toArray, List.set_cons_succ, List.set_cons_zero]
  refine wpList_valn rfl (exec_as rfl (ev rfl)) ?_
  simp only [Act.put, List.setIfInBounds_toArray, List.set_cons_succ, List.set_cons_zero]
  refine wpList_nil ?_
  go_wp2_with fail
  go_ret
  exact ⟨rfl, rfl⟩
theorem pl_first0 (w : World) : Calls Try.prog 18 #[.pointer none] w fun e w' => e = .returned (.int .u64 0) ∧ w = w' := by
  go_enter Try.func18, Try.ntmps18
  go_upto_region 1 with fail
  refine wp_region_lit ?_
  refine wpList_valn rfl (exec_mv rfl (ev rfl)) ?_
  simp only [Act.put, List.setIfInBounds_toArray, List.set_cons_succ, List.set_cons_zero]
  refine wpList_valn (v := .bool true) rfl (exec_eqNil true Try.underlying23 rfl (ev rfl) evk rfl) ?_
  simp only [Act.put, List.setIfInBounds_toArray, List.set_cons_succ, List.set_cons_zero]
  refine wpList_nil ?_
  go_wp2_with fail
  go_ret
  exact ⟨rfl, rfl⟩
theorem pl_clean (w : World) {B p : Nat} {s : LnS} (h : PLn w B p s) : Calls Try.prog 15 #[.pointer (some ⟨p, 0, none⟩)] w fun e w' => e = .returned (.int .i64 0) ∧ PLn w' B p (lnCln s) ∧ Turn isPn B w w' := by
  obtain ⟨h, hB, hs⟩ := h
  have HC := Lib.hid (pl_made w true (pl_members w h) (decide_eq_true (by have := hs.lo; show (0 : Int) < (s.l.length : Int); omega)))
  have HL := Lib.hid h
  have HBp := Lib.hid hB
  have HS := Lib.hid hs
  have HTH := Lib.hid (h.there (o := 17) (m := 16) (by omega))
  have HL1 := Lib.hid h.sD0
  have HT1 := Lib.hid (h.tn (Turn.refl isPn B w) hB 17 no16)
  clear h hB hs
  go_enter Try.func15, Try.ntmps15
  go_upto_region 1 with fail
  refine wp_region_lit ?_
  refine wpList_valn rfl (exec_mv rfl (ev rfl)) ?_
  simp only [Act.put, List.setIfInBounds_toArray, List.set_cons_succ, List.set_cons_zero]
  refine wpList_call rfl (exec_cl Try.call30 rfl (evc (ev rfl) evn)) ?_
  refine (HC.out).mono ?_
  rintro e w' ⟨rfl, rfl⟩
  refine ⟨_, rfl, ?_⟩
  simp only [Act.put, List.setIfInBounds_toArray, List.set_cons_succ, List.set_cons_zero]
  refine wpList_valn (v := .bool false) rfl (exec_not true rfl (ev rfl)) ?_
  simp only [Act.put, List.setIfInBounds_toArray, List.set_cons_succ, List.set_cons_zero]
  refine wpList_nil ?_
  go_upto_region 3 with fail
  refine wp_region_lit ?_
  refine wpList_valn rfl (exec_mv rfl (ev rfl)) ?_
  simp only [Act.put, List.setIfInBounds_toArray, List.set_cons_succ, List.set_cons_zero]
  refine wpList_valn rfl (exec_mv rfl (ev rfl)) ?_
  simp only [Act.put, List.setIfInBounds_toArray, List.set_cons_succ, List.set_cons_zero]
  refine wpList_valn rfl (exec_bld0 rfl run_no16) ?_
  simp only [Act.put, List.setIfInBounds_toArray, List.set_cons_succ, List.set_cons_zero]
  refine wpList_valn rfl (exec_nil rfl (ev rfl)) ?_
  simp only [Act.put, List.setIfInBounds_toArray, List.set_cons_succ, List.set_cons_zero]
  refine wpList_valn rfl (exec_faddr rfl (ev rfl) faPl2) ?_
  simp only [Act.put, List.setIfInBounds_toArray, List.set_cons_succ, List.set_cons_zero]
  refine wpList_nuln rfl (exec_put16 rfl (ev rfl) (ev rfl) HTH.out) ?_
  simp only [Act.put, List.setIfInBounds_toArray, List.set_cons_succ, List.set_cons_zero]
  generalize w.setCells p 17 no16 = w1 at *
  have HC1 := Lib.hid HL1.out.cF
  have HF1 := Lib.hid (HL1.out.fz 1057)
  have HL2 := Lib.hid (HL1.out.sF 0)
  have HT2 := Lib.hid (HL1.out.t1 HT1.out HBp.out 1057 (.int .u64 0))
  refine wpList_valn rfl (exec_nil rfl (ev rfl)) ?_
  simp only [Act.put, List.setIfInBounds_toArray, List.set_cons_succ, List.set_cons_zero]
  refine wpList_valn rfl (exec_faddr rfl (ev rfl) faPl4) ?_
  simp only [Act.put, List.setIfInBounds_toArray, List.set_cons_succ, List.set_cons_zero]
  refine wpList_nuln rfl (exec_st rfl (ev rfl) evk (stU64_ HC1.out HF1.out)) ?_
  simp only [Act.put, List.setIfInBounds_toArray, List.set_cons_succ, List.set_cons_zero]
  generalize w1.setCell ⟨p, 1057, none⟩ (.int .u64 0) = w2 at *
  refine wpList_nil ?_
  go_wp2_with fail
  go_ret
  exact ⟨rfl, ⟨by rw [lf_cln]; exact HL2.out, HBp.out, HS.out.cln⟩, HT2.out⟩
theorem pn_learn (w : World) (v : Value) (m : Int) (b : Blk) (h : NoL w v) : Calls Try.prog 12 #[v, .int .i64 m, blk b] w fun e w' => e = .returned (.int .i64 1) ∧ Below w.heap.size w w' := by
  have HB1 : Hid (Below w.heap.size w (w.alloc (.cells (cel b).toArray 33))) := Lib.hid ((Below.refl _ _).alloc (Nat.le_refl _) _)
  have HN := Lib.hid (h.below HB1.out)
  clear h
  go_enter Try.func12, Try.ntmps12
  go_upto_region 0 with fail
  refine wp_region_lit ?_
  refine wpList_valn rfl (exec_box rfl (ev rfl)) ?_
  simp only [Act.put, List.setIfInBounds_toArray, List.set_cons_succ, List.set_cons_zero]
  refine wpList_valn rfl (exec_as rfl evk) ?_
  simp only [Act.put, List.setIfInBounds_toArray, List.set_cons_succ, List.set_cons_zero]
  refine wpList_nil ?_
  generalize w.alloc (.cells (cel b).toArray 33) = w1 at *
  go_upto_region 1 with fail
  refine wp_region_lit ?_
  refine wpList_valn rfl (exec_mv rfl (ev rfl)) ?_
  simp only [Act.put, List.setIfInBounds_toArray, List.set_cons_succ, List.set_cons_zero]
  refine wpList_valn rfl (exec_mv rfl (ev rfl)) ?_
  simp only [Act.put, List.setIfInBounds_toArray, List.set_cons_succ, List.set_cons_zero]
  refine wpList_call rfl (exec_cl Try.call28 rfl (evc (ev rfl) (evc (ev rfl) evn))) ?_
  refine (pl_may_no _ _ m HN.out).mono ?_
  rintro e w' ⟨rfl, rfl⟩
  refine ⟨_, rfl, ?_⟩
  simp only [Act.put, List.setIfInBounds_toArray, List.set_cons_succ, List.set_cons_zero]
  refine wpList_valn rfl (exec_as rfl (ev rfl)) ?_
  simp only [Act.put, List.setIfInBounds_toArray, List.set_cons_succ, List.set_cons_zero]
  refine wpList_nil ?_
  go_upto_region 2 with fail
  refine wp_region_lit ?_
  refine wpList_valn rfl (exec_mv rfl (ev rfl)) ?_
  simp only [Act.put, List.setIfInBounds_toArray, List.set_cons_succ, List.set_cons_zero]
  refine wpList_valn (v := .bool true) rfl (exec_neInt true rfl (ev rfl) evk rfl) ?_
  simp only [Act.put, List.setIfInBounds_toArray, List.set_cons_succ, List.set_cons_zero]
  refine wpList_nil ?_
  go_wp2_with fail
  go_ret
  exact ⟨rfl, HB1.out⟩
theorem pn_set (w : World) (v : Value) (m : Int) (b : Blk) (Q : Nat) (h : NoL w v) : Calls Try.prog 13 #[v, .int .i64 m, blk b, .int .u64 (Q : Int)] w fun e w' => e = .returned (.int .i64 1) ∧ Below w.heap.size w w' := by
  have HB1 : Hid (Below w.heap.size w (w.alloc (.cells (cel b).toArray 33))) := Lib.hid ((Below.refl _ _).alloc (Nat.le_refl _) _)
  have HN := Lib.hid (h.below HB1.out)
  clear h
  go_enter Try.func13, Try.ntmps13
  go_upto_region 0 with fail
  refine wp_region_lit ?_
  refine wpList_valn rfl (exec_box rfl (ev rfl)) ?_
  simp only [Act.put, List.setIfInBounds_toArray, List.set_cons_succ, List.set_cons_zero]
  refine wpList_valn rfl (exec_as rfl evk) ?_
  simp only [Act.put, List.setIfInBounds_toArray, List.set_cons_succ, List.set_cons_zero]
  refine wpList_nil ?_
  generalize w.alloc (.cells (cel b).toArray 33) = w1 at *
  go_upto_region 1 with fail
  refine wp_region_lit ?_
  refine wpList_valn rfl (exec_mv rfl (ev rfl)) ?_
  simp only [Act.put, List.setIfInBounds_toArray, List.set_cons_succ, List.set_cons_zero]
  refine wpList_valn rfl (exec_mv rfl (ev rfl)) ?_
  simp only [Act.put, List.setIfInBounds_toArray, List.set_cons_succ, List.set_cons_zero]
  refine wpList_call rfl (exec_cl Try.call28 rfl (evc (ev rfl) (evc (ev rfl) evn))) ?_
  refine (pl_may_no _ _ m HN.out).mono ?_
  rintro e w' ⟨rfl, rfl⟩
  refine ⟨_, rfl, ?_⟩
  simp only [Act.put, List.setIfInBounds_toArray, List.set_cons_succ, List.set_cons_zero]
  refine wpList_valn rfl (exec_as rfl (ev rfl)) ?_
  simp only [Act.put, List.setIfInBounds_toArray, List.set_cons_succ, List.set_cons_zero]
  refine wpList_nil ?_
  go_upto_region 2 with fail
  refine wp_region_lit ?_
  refine wpList_valn rfl (exec_mv rfl (ev rfl)) ?_
  simp only [Act.put, List.setIfInBounds_toArray, List.set_cons_succ, List.set_cons_zero]
  refine wpList_valn (v := .bool true) rfl (exec_neInt true rfl (ev rfl) evk rfl) ?_
  simp only [Act.put, List.setIfInBounds_toArray, List.set_cons_succ, List.set_cons_zero]
  refine wpList_nil ?_
  go_wp2_with fail
  go_ret
  exact ⟨rfl, HB1.out⟩
theorem pn_forget (w : World) (v : Value) (m : Int) (h : NoL w v) : Calls Try.prog 14 #[v, .int .i64 m] w fun e w' => e = .returned (.int .i64 1) ∧ Below w.heap.size w w' := by
  have HN := Lib.hid h
  clear h
  go_enter Try.func14, Try.ntmps14
  go_upto_region 1 with fail
  refine wp_region_lit ?_
  refine wpList_valn rfl (exec_mv rfl (ev rfl)) ?_
  simp only [Act.put, List.setIfInBounds_toArray, List.set_cons_succ, List.set_cons_zero]
  refine wpList_valn rfl (exec_mv rfl (ev rfl)) ?_
  simp only [Act.put, List.setIfInBounds_toArray, List.set_cons_succ, List.set_cons_zero]
  refine wpList_call rfl (exec_cl Try.call28 rfl (evc (ev rfl) (evc (ev rfl) evn))) ?_
  refine (pl_may_no _ _ m HN.out).mono ?_
  rintro e w' ⟨rfl, rfl⟩
  refine ⟨_, rfl, ?_⟩
  simp only [Act.put, List.setIfInBounds_toArray, List.set_cons_succ, List.set_cons_zero]
  refine wpList_valn rfl (exec_as rfl (ev rfl)) ?_
  simp only [Act.put, List.setIfInBounds_toArray, List.set_cons_succ, List.set_cons_zero]
  refine wpList_nil ?_
  go_upto_region 2 with fail
  refine wp_region_lit ?_
  refine wpList_valn rfl (exec_mv rfl (ev rfl)) ?_
  simp only [Act.put, List.setIfInBounds_toArray, List.set_cons_succ, List.set_cons_zero]
  refine wpList_valn (v := .bool true) rfl (exec_neInt true rfl (ev rfl) evk rfl) ?_
  simp only [Act.put, List.setIfInBounds_toArray, List.set_cons_succ, List.set_cons_zero]
  refine wpList_nil ?_
  go_wp2_with fail
  go_ret
  exact ⟨rfl, Below.refl _ _⟩
theorem pn_clean (w : World) (v : Value) (h : NoL w v) : Calls Try.prog 15 #[v] w fun e w' => e = .returned (.int .i64 1) ∧ Below w.heap.size w w' := by
  have HC := Lib.hid (pl_made w false (pl_members_no w h) (by decide))
  clear h
  go_enter Try.func15, Try.ntmps15
  go_upto_region 1 with fail
  refine wp_region_lit ?_
  refine wpList_valn rfl (exec_mv rfl (ev rfl)) ?_
  simp only [Act.put, List.setIfInBounds_toArray, List.set_cons_succ, List.set_cons_zero]
  refine wpList_call rfl (exec_cl Try.call30 rfl (evc (ev rfl) evn)) ?_
  refine (HC.out).mono ?_
  rintro e w' ⟨rfl, rfl⟩
  refine ⟨_, rfl, ?_⟩
  simp only [Act.put, List.setIfInBounds_toArray, List.set_cons_succ, List.set_cons_zero]
  refine wpList_valn (v := .bool true) rfl (exec_not false rfl (ev rfl)) ?_
  simp only [Act.put, List.setIfInBounds_toArray, List.set_cons_succ, List.set_cons_zero]
  refine wpList_nil ?_
  go_wp2_with fail
  go_ret
  exact ⟨rfl, Below.refl _ _⟩
theorem pn_get (w : World) (v : Value) (m : Int) (h : NoL w v) : Calls Try.prog 17 #[v, .int .i64 m] w fun e w' => e = .returned (.tuple #[blk zeroB, .bool false]) ∧ Below w.heap.size w w' := by
  have HB1 : Hid (Below w.heap.size w (w.alloc (.cells (cel zeroB).toArray 33))) := Lib.hid ((Below.refl _ _).alloc (Nat.le_refl _) _)
  have HN := Lib.hid (h.below HB1.out)
  have HT := Lib.hid (there_new w zeroB 33)
  clear h
  go_enter Try.func17, Try.ntmps17
  go_upto_region 0 with fail
  refine wp_region_lit ?_
  refine wpList_valn rfl (exec_alloc rfl) ?_
  simp only [Act.put, List.setIfInBounds_toArray, List.set_cons_succ, List.set_cons_zero]
  refine wpList_valn (v := .bool false) rfl (exec_as rfl evk) ?_
  simp only [Act.put, List.setIfInBounds_toArray, List.set_cons_succ, List.set_cons_zero]
  refine wpList_nil ?_
  generalize w.alloc (.cells (cel zeroB).toArray 33) = w1 at *
  go_upto_region 1 with fail
  refine wp_region_lit ?_
  refine wpList_valn rfl (exec_mv rfl (ev rfl)) ?_
  simp only [Act.put, List.setIfInBounds_toArray, List.set_cons_succ, List.set_cons_zero]
  refine wpList_valn rfl (exec_mv rfl (ev rfl)) ?_
  simp only [Act.put, List.setIfInBounds_toArray, List.set_cons_succ, List.set_cons_zero]
  refine wpList_call rfl (exec_cl Try.call28 rfl (evc (ev rfl) (evc (ev rfl) evn))) ?_
  refine (pl_may_no _ _ m HN.out).mono ?_
  rintro e w' ⟨rfl, rfl⟩
  refine ⟨_, rfl, ?_⟩
  simp only [Act.put, List.setIfInBounds_toArray, List.set_cons_succ, List.set_cons_zero]
  refine wpList_valn (v := .bool true) rfl (exec_neInt true rfl (ev rfl) evk rfl) ?_
  simp only [Act.put, List.setIfInBounds_toArray, List.set_cons_succ, List.set_cons_zero]
  refine wpList_nil ?_
  go_upto_region 2 with fail
  refine wp_region_lit ?_
  refine wpList_valn rfl (exec_build (c := zeroB) (parts := []) rfl rfl) ?_
  simp only [Act.put, List.setIfInBounds_toArray, List.set_cons_succ, List.set_cons_zero]
  refine wpList_nuln rfl (exec_store rfl (ev rfl) (ev rfl) HT.out) ?_
  simp only [Act.put, List.setIfInBounds_toArray, List.set_cons_succ, List.set_cons_zero]
  refine wpList_valn (v := .bool false) rfl (exec_as rfl evk) ?_
  simp only [Act.put, List.setIfInBounds_toArray, List.set_cons_succ, List.set_cons_zero]
  refine wpList_nil ?_
  go_wp2_with fail
  exact bodyPost_ret (res_blk2 rfl _ _ _ rfl (World.rangeAt_setCells_same _ _ _ _ (by rw [cel_length]; exact HT.out))) rfl ⟨rfl, below_setCells HB1.out (Nat.le_refl _) _⟩
theorem pn_dirty (w : World) (v : Value) (h : NoL w v) : Calls Try.prog 16 #[v] w fun e w' => e = .returned (.slice none 0 0) ∧ Below w.heap.size w w' := by
  have HC := Lib.hid (pl_members_no w h)
  clear h
  go_enter Try.func16, Try.ntmps16
  go_upto_region 2 with fail
  refine wp_region_lit ?_
  refine wpList_valn rfl (exec_mv rfl (ev rfl)) ?_
  simp only [Act.put, List.setIfInBounds_toArray, List.set_cons_succ, List.set_cons_zero]
  refine wpList_call rfl (exec_cl Try.call20 rfl (evc (ev rfl) evn)) ?_
  refine (HC.out).mono ?_
  rintro e w' ⟨rfl, rfl⟩
  refine ⟨_, rfl, ?_⟩
  simp only [Act.put, List.setIfInBounds_toArray, List.set_cons_succ, List.set_cons_zero]
  refine wpList_valn rfl (exec_mv rfl evk) ?_
  simp only [Act.put, List.setIfInBounds_toArray, List.set_cons_succ, List.set_cons_zero]
  refine wpList_nil ?_
  go_wp2_with fail
  go_loopw [3, 7] (fun z c wr => c = .int .i64 0 ∧ z = .slice none 0 0 ∧ w = wr) (fun _ c _ => 0)
  case atStart => exact ⟨by first | rfl | trivial, by first | rfl | trivial, by first | rfl | trivial⟩
  case round =>
    obtain ⟨rfl, rfl, rfl⟩ := hrel
    go_upto_region 3 with fail
    refine wp_region_lit ?_
    refine wpList_valn (v := .bool false) rfl (exec_lss false rfl (ev rfl) (ev rfl) rfl) ?_
    simp only [Act.put, List.setIfInBounds_toArray, List.set_cons_succ, List.set_cons_zero]
    refine wpList_nil ?_
    go_wp2_with fail
    go_ret
    exact ⟨rfl, Below.refl _ _⟩
theorem pn_first (w : World) (v : Value) (h : NoL w v) : Calls Try.prog 18 #[v] w fun e w' => e = .returned (.int .u64 0) ∧ w = w' := by
  rcases h with rfl | ⟨p, rfl, h⟩
  · exact pl_first0 w
  · exact pl_first w h
theorem below_eq {w w' : World} (h : w = w') : Below w.heap.size w w' := by subst h; exact Below.refl _ _
/-- The program's line. -/
def theLine : LnI where
  P := PLn
  I := isPn
  keep h hk := ⟨h.1.keep hk, h.2.1, h.2.2⟩
  ok h := ⟨h.2.2, h.2.1, h.1.lt⟩
  rn o h hp := by
    cases o <;> first | exact h.elim | skip
    rename_i cs t fr
    have h1 : t = 60 ∨ t = 64 ∨ t = 34 := h
    have h2 : t = 54 := hp
    subst h2
    exact absurd h1 (by decide)
  own cs t fr h hp := by
    have h2 : t = 54 := hp
    subst h2
    exact absurd h (by decide)
  new_ok N w h1 h2 := (pl_new N w h1 h2).mono fun e w' ⟨p, he, ⟨h, hp⟩, hb⟩ => ⟨p, he, ⟨h, hp, LnOk.new h1 h2⟩, hb⟩
  new_no n w h := (pl_new_no n w h).mono fun e w' ⟨he, hw⟩ => ⟨he, below_eq hw⟩
  learn_ w m b _ _ _ h := pl_learn w m b h
  set_ w m b Q _ _ _ h hQ := pl_set w m b Q h hQ
  forget_ w m _ _ _ h := pl_forget w m h
  clean_ w _ _ _ h := pl_clean w h
  get_ w m _ _ _ h := pl_get w m h
  dirty_ w _ _ _ h := pl_dirty w h
  first_ w _ _ _ h := (pl_first w h.1).mono fun e w' ⟨he, hw⟩ => ⟨he, below_eq hw⟩
  members_ w _ _ _ h := (pl_members w h.1).mono fun e w' ⟨he, hw⟩ => ⟨he, below_eq hw⟩
  No := NoL
  zc := lnCs (lf0 0)
  no_nil w := .inl rfl
  bld0 w := run_bldPl0
  no_zero w := .inr ⟨_, rfl, heap_alloc_new w _⟩
  no_below h hb := h.below hb
  no_learn w v m b h := pn_learn w v m b h
  no_set w v m b Q h := pn_set w v m b Q h
  no_forget w v m h := pn_forget w v m h
  no_clean w v h := pn_clean w v h
  no_get w v m h := pn_get w v m h
  no_dirty w v h := pn_dirty w v h
  no_first w v h := (pn_first w v h).mono fun e w' ⟨he, hw⟩ => ⟨he, below_eq hw⟩
  no_members w v h := (pl_members_no w h).mono fun e w' ⟨he, hw⟩ => ⟨he, below_eq hw⟩
end Go.Proofs.Ytmhcpiafhbnclaa
