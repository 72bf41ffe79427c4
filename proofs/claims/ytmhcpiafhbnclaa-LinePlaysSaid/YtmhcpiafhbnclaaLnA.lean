/-
  LinePlays: the program's line and the document's, side by side.
-/
import Derived.Test.YtmhcpiafhbnclaaLnI
import Derived.OrdersHeld
namespace Go.Proofs.Ytmhcpiafhbnclaa
open Go.RowKit
set_option linter.unusedVariables false
set_option linter.unusedSimpArgs false
set_option maxRecDepth 100000

theorem exec_neBool_ {ρ : Operand → Value} {o : Oper} {x y : Operand} {w : World} {r : TypeId} {a b : Bool} (c : Bool) (ho : o.op = .binOp .neq 4 x y r) (hx : ρ x = .bool a) (hy : ρ y = .bool b) (h : (a != b) = c) : (execOp ρ o).run Try.prog w = .ok (.value (.bool c)) w := by
  have he := run_equalIn_bool' (P := Try.prog) w 9999 4 a b Try.underlying4
  subst h
  unfold execOp
  cases a <;> cases b <;> simp [ho, hx, hy, eqGuard, binOp, Op.equal, Op.maxDepth, he, bne]
theorem exec_neqB {ρ : Operand → Value} {o : Oper} {x y : Operand} {w : World} {c d : Blk} {t : TypeId} (b : Bool) (ho : o.op = .binOp .neq 33 x y t) (hx : ρ x = blk c) (hy : ρ y = blk d) (h : (!decide (c = d)) = b) : (execOp ρ o).run Try.prog w = .ok (.value (.bool b)) w := by
  subst h; exact exec_neq ho hx hy
theorem act_rn (cs : Array Value) (fr : Nat × Nat) : ¬ isRn (.cells cs 36 fr) := fun h => absurd (show 36 = 60 ∨ 36 = 64 ∨ 36 = 34 from h) (by decide)
section
variable {C : LnI} {w w' : World} {B p q n : Nat} {s : LnS} {a : Act17}
set_option maxHeartbeats 2000000 in
theorem act_learn (w : World) (hP : C.P w B p s) (hR : RN w B q n s) (hin : a.In w) (hn : n ≤ 999) (h0 : (a.Do == 0) = true) : Calls Try.prog 10 #[.pointer (some ⟨p, 0, none⟩), .pointer (some ⟨q, 0, none⟩), a.V] w fun e w' => e = .returned (.bool true) ∧ ∃ s', C.P w' B p s' ∧ RN w' B q (n + 1) s' ∧ s'.l.length = s.l.length ∧ Below B w w' := by
  obtain ⟨w1, hw1⟩ : ∃ w1, w.alloc (.cells a.C.toArray 36) = w1 := ⟨_, rfl⟩
  have hb1 : Below w.heap.size w w1 := by rw [← hw1]; exact (Below.refl _ _).alloc (Nat.le_refl _) _
  have hat : Act17.At_ w1 w.heap.size a := by rw [← hw1]; exact Act17.At_.new w a
  have HW1 := Lib.hid hw1
  have HB1 := Lib.hid (hb1.mono (Nat.le_of_lt (Nat.lt_of_le_of_lt (C.ok hP).2.1 (C.ok hP).2.2)))
  have HAT : Hid (Act17.At_ w1.drew w.heap.size a) := Lib.hid hat
  have HAS := Lib.hid hat
  have HP : Hid (C.P w1.drew B p s) := Lib.hid (C.keep (LnI.below hP hb1) fun _ _ h _ => h)
  have HR : Hid (RN w1.drew B q n s) := Lib.hid ((hR.below hb1).keep fun _ _ h _ => h)
  have HIN : Hid (a.Seq < 18446744073709551616) := Lib.hid hin.2.2
  have HN : Hid (n ≤ 1000) := Lib.hid (by omega)
  have HBS : Hid (B ≤ w1.heap.size) := Lib.hid (Nat.le_trans (Nat.le_of_lt (Nat.lt_of_le_of_lt (C.ok hP).2.1 (C.ok hP).2.2)) hb1.size)
  have H0 := Lib.hid h0
  clear hP hR hin hn hw1 hb1 hat h0
  go_enter Try.func10, Try.ntmps10
  go_upto_region 0 with fail
  refine wp_region_lit ?_
  refine wpList_valn rfl (exec_boxAct17 (a := a) rfl (ev rfl)) ?_
  simp only [Act.put, List.setIfInBounds_toArray, List.set_cons_succ, List.set_cons_zero]
  rw [HW1.out]
  refine wpList_valn (v := .bool false) rfl (exec_as rfl evk) ?_
  simp only [Act.put, List.setIfInBounds_toArray, List.set_cons_succ, List.set_cons_zero]
  refine wpList_nil ?_
  go_upto_region 1 with fail
  refine wp_region_lit ?_
  refine wpList_valn rfl (exec_faddr rfl (ev rfl) faAct170) ?_
  simp only [Act.put, List.setIfInBounds_toArray, List.set_cons_succ, List.set_cons_zero]
  refine wpList_valn rfl (exec_ld rfl (ev rfl) (ldInt HAS.out.f0)) ?_
  simp only [Act.put, List.setIfInBounds_toArray, List.set_cons_succ, List.set_cons_zero]
  refine wpList_nil ?_
  go_upto_region 2 with fail
  refine wp_region_lit ?_
  refine wpList_valn (v := .bool true) rfl (exec_eqInt true rfl (ev rfl) evk H0.out) ?_
  simp only [Act.put, List.setIfInBounds_toArray, List.set_cons_succ, List.set_cons_zero]
  refine wpList_valn (v := .bool true) rfl (exec_as rfl (ev rfl)) ?_
  simp only [Act.put, List.setIfInBounds_toArray, List.set_cons_succ, List.set_cons_zero]
  refine wpList_nil ?_
  go_upto_region 3 with fail
  refine wp_region_held (S := fun w' => Act17.At_ w' w.heap.size a) (by kernel_rfl) ?_
  change wpAnyH _ _ _ _ _ 14 _ _ w1.drew
  refine held_val 0 rfl (by kernel_rfl) (by kernel_rfl) (by kernel_rfl) rfl (fun w' hw => exec_mv rfl (ev rfl)) (fun _ _ _ h => h) HAT.out ?_
  simp only [Act.put, List.setIfInBounds_toArray, List.set_cons_succ, List.set_cons_zero]
  refine held_val 1 rfl (by kernel_rfl) (by kernel_rfl) (by kernel_rfl) rfl (fun w' hw => exec_faddr rfl (ev rfl) faAct171) (fun _ _ _ h => h) HAT.out ?_
  simp only [Act.put, List.setIfInBounds_toArray, List.set_cons_succ, List.set_cons_zero]
  refine held_val 2 rfl (by kernel_rfl) (by kernel_rfl) (by kernel_rfl) rfl (fun w' hw => exec_ld rfl (ev rfl) (ldInt hw.f1)) (fun _ _ _ h => h) HAT.out ?_
  simp only [Act.put, List.setIfInBounds_toArray, List.set_cons_succ, List.set_cons_zero]
  refine held_val 3 rfl (by kernel_rfl) (by kernel_rfl) (by kernel_rfl) rfl (fun w' hw => exec_faddr rfl (ev rfl) faAct172) (fun _ _ _ h => h) HAT.out ?_
  simp only [Act.put, List.setIfInBounds_toArray, List.set_cons_succ, List.set_cons_zero]
  refine held_val 4 rfl (by kernel_rfl) (by kernel_rfl) (by kernel_rfl) rfl (fun w' hw => exec_load rfl (ev rfl) hw.f2) (fun _ _ _ h => h) HAT.out ?_
  simp only [Act.put, List.setIfInBounds_toArray, List.set_cons_succ, List.set_cons_zero]
  refine held_val 6 rfl (by kernel_rfl) (by kernel_rfl) (by kernel_rfl) rfl (fun w' hw => exec_mv rfl (ev rfl)) (fun _ _ _ h => h) HAT.out ?_
  simp only [Act.put, List.setIfInBounds_toArray, List.set_cons_succ, List.set_cons_zero]
  refine held_val 7 rfl (by kernel_rfl) (by kernel_rfl) (by kernel_rfl) rfl (fun w' hw => exec_faddr rfl (ev rfl) faAct171) (fun _ _ _ h => h) HAT.out ?_
  simp only [Act.put, List.setIfInBounds_toArray, List.set_cons_succ, List.set_cons_zero]
  refine held_val 8 rfl (by kernel_rfl) (by kernel_rfl) (by kernel_rfl) rfl (fun w' hw => exec_ld rfl (ev rfl) (ldInt hw.f1)) (fun _ _ _ h => h) HAT.out ?_
  simp only [Act.put, List.setIfInBounds_toArray, List.set_cons_succ, List.set_cons_zero]
  refine held_val 9 rfl (by kernel_rfl) (by kernel_rfl) (by kernel_rfl) rfl (fun w' hw => exec_faddr rfl (ev rfl) faAct172) (fun _ _ _ h => h) HAT.out ?_
  simp only [Act.put, List.setIfInBounds_toArray, List.set_cons_succ, List.set_cons_zero]
  refine held_val 10 rfl (by kernel_rfl) (by kernel_rfl) (by kernel_rfl) rfl (fun w' hw => exec_load rfl (ev rfl) hw.f2) (fun _ _ _ h => h) HAT.out ?_
  simp only [Act.put, List.setIfInBounds_toArray, List.set_cons_succ, List.set_cons_zero]
  refine held_call 5 rfl (by kernel_rfl) rfl (exec_cl Try.call12 rfl (evc (ev rfl) (evc (ev rfl) (evc (ev rfl) evn)))) ?_
  refine (C.learn_ _ a.Mem a.B HP.out).mono ?_
  rintro e w2 ⟨rfl, h2, t2⟩
  have HP2 := Lib.hid h2
  have HT2 := Lib.hid t2
  have HA2 : Hid (Act17.At_ w2 w.heap.size a) := Lib.hid (t2.keep HAT.out (C.own _ _ _ (.inl rfl)))
  have HR2 := Lib.hid (HR.out.other t2 C.rn)
  clear h2 t2
  refine ⟨_, rfl, HA2.out, ?_⟩
  simp only [Act.put, List.setIfInBounds_toArray, List.set_cons_succ, List.set_cons_zero]
  refine held_call 11 rfl (by kernel_rfl) rfl (exec_cl Try.call21 rfl (evc (ev rfl) (evc (ev rfl) (evc (ev rfl) evn)))) ?_
  refine (r_learn _ a.Mem a.B HR2.out).mono ?_
  rintro e w3 ⟨rfl, h3, t3⟩
  have HR3 := Lib.hid h3
  have HT3 := Lib.hid t3
  have HA3 : Hid (Act17.At_ w3 w.heap.size a) := Lib.hid (t3.keep HA2.out (act_rn _ _))
  have HP3 := Lib.hid (LnI.other HP2.out t3 C.pr)
  clear h3 t3
  refine ⟨_, rfl, HA3.out, ?_⟩
  simp only [Act.put, List.setIfInBounds_toArray, List.set_cons_succ, List.set_cons_zero]
  refine held_val 12 rfl (by kernel_rfl) (by kernel_rfl) (by kernel_rfl) rfl (fun w' hw => exec_eqInt true rfl (ev rfl) (ev rfl) (beq_self_eq_true _)) (fun _ _ _ h => h) HA3.out ?_
  simp only [Act.put, List.setIfInBounds_toArray, List.set_cons_succ, List.set_cons_zero]
  refine held_val 13 rfl (by kernel_rfl) (by kernel_rfl) (by kernel_rfl) rfl (fun w' hw => exec_as rfl (ev rfl)) (fun _ _ _ h => h) HA3.out ?_
  simp only [Act.put, List.setIfInBounds_toArray, List.set_cons_succ, List.set_cons_zero]
  refine wpAnyH_done (by kernel_rfl) ?_ _
  go_wp2_with fail
  go_ret
  have hb2 : Below B w w2 := Turn.below HB1.out.drew HT2.out HBS.out
  exact ⟨rfl, _, HP3.out, HR3.out.more (by omega), len_lrn _ _, Turn.below hb2 HT3.out (Nat.le_trans HBS.out HT2.out.size)⟩
set_option maxHeartbeats 2000000 in
theorem act_set (w : World) (hP : C.P w B p s) (hR : RN w B q n s) (hin : a.In w) (hn : n ≤ 999) (h0 : (a.Do == 0) = false) (h1 : (a.Do == 1) = true) : Calls Try.prog 10 #[.pointer (some ⟨p, 0, none⟩), .pointer (some ⟨q, 0, none⟩), a.V] w fun e w' => e = .returned (.bool true) ∧ ∃ s', C.P w' B p s' ∧ RN w' B q (n + 1) s' ∧ s'.l.length = s.l.length ∧ Below B w w' := by
  obtain ⟨w1, hw1⟩ : ∃ w1, w.alloc (.cells a.C.toArray 36) = w1 := ⟨_, rfl⟩
  have hb1 : Below w.heap.size w w1 := by rw [← hw1]; exact (Below.refl _ _).alloc (Nat.le_refl _) _
  have hat : Act17.At_ w1 w.heap.size a := by rw [← hw1]; exact Act17.At_.new w a
  have HW1 := Lib.hid hw1
  have HB1 := Lib.hid (hb1.mono (Nat.le_of_lt (Nat.lt_of_le_of_lt (C.ok hP).2.1 (C.ok hP).2.2)))
  have HAT : Hid (Act17.At_ w1.drew w.heap.size a) := Lib.hid hat
  have HAS := Lib.hid hat
  have HP : Hid (C.P w1.drew B p s) := Lib.hid (C.keep (LnI.below hP hb1) fun _ _ h _ => h)
  have HR : Hid (RN w1.drew B q n s) := Lib.hid ((hR.below hb1).keep fun _ _ h _ => h)
  have HIN : Hid (a.Seq < 18446744073709551616) := Lib.hid hin.2.2
  have HN : Hid (n ≤ 1000) := Lib.hid (by omega)
  have HBS : Hid (B ≤ w1.heap.size) := Lib.hid (Nat.le_trans (Nat.le_of_lt (Nat.lt_of_le_of_lt (C.ok hP).2.1 (C.ok hP).2.2)) hb1.size)
  have H0 := Lib.hid h0
  have H1 := Lib.hid h1
  clear hP hR hin hn hw1 hb1 hat h0 h1
  go_enter Try.func10, Try.ntmps10
  go_upto_region 0 with fail
  refine wp_region_lit ?_
  refine wpList_valn rfl (exec_boxAct17 (a := a) rfl (ev rfl)) ?_
  simp only [Act.put, List.setIfInBounds_toArray, List.set_cons_succ, List.set_cons_zero]
  rw [HW1.out]
  refine wpList_valn (v := .bool false) rfl (exec_as rfl evk) ?_
  simp only [Act.put, List.setIfInBounds_toArray, List.set_cons_succ, List.set_cons_zero]
  refine wpList_nil ?_
  go_upto_region 1 with fail
  refine wp_region_lit ?_
  refine wpList_valn rfl (exec_faddr rfl (ev rfl) faAct170) ?_
  simp only [Act.put, List.setIfInBounds_toArray, List.set_cons_succ, List.set_cons_zero]
  refine wpList_valn rfl (exec_ld rfl (ev rfl) (ldInt HAS.out.f0)) ?_
  simp only [Act.put, List.setIfInBounds_toArray, List.set_cons_succ, List.set_cons_zero]
  refine wpList_nil ?_
  go_upto_region 2 with fail
  refine wp_region_lit ?_
  refine wpList_valn (v := .bool false) rfl (exec_eqInt false rfl (ev rfl) evk H0.out) ?_
  simp only [Act.put, List.setIfInBounds_toArray, List.set_cons_succ, List.set_cons_zero]
  refine wpList_valn (v := .bool false) rfl (exec_as rfl (ev rfl)) ?_
  simp only [Act.put, List.setIfInBounds_toArray, List.set_cons_succ, List.set_cons_zero]
  refine wpList_nil ?_
  go_upto_region 4 with fail
  refine wp_region_lit ?_
  refine wpList_valn (v := .bool true) rfl (exec_eqInt true rfl (ev rfl) evk H1.out) ?_
  simp only [Act.put, List.setIfInBounds_toArray, List.set_cons_succ, List.set_cons_zero]
  refine wpList_valn (v := .bool true) rfl (exec_as rfl (ev rfl)) ?_
  simp only [Act.put, List.setIfInBounds_toArray, List.set_cons_succ, List.set_cons_zero]
  refine wpList_nil ?_
  go_upto_region 5 with fail
  refine wp_region_held (S := fun w' => Act17.At_ w' w.heap.size a) (by kernel_rfl) ?_
  change wpAnyH _ _ _ _ _ 18 _ _ w1.drew
  refine held_val 0 rfl (by kernel_rfl) (by kernel_rfl) (by kernel_rfl) rfl (fun w' hw => exec_mv rfl (ev rfl)) (fun _ _ _ h => h) HAT.out ?_
  simp only [Act.put, List.setIfInBounds_toArray, List.set_cons_succ, List.set_cons_zero]
  refine held_val 1 rfl (by kernel_rfl) (by kernel_rfl) (by kernel_rfl) rfl (fun w' hw => exec_faddr rfl (ev rfl) faAct171) (fun _ _ _ h => h) HAT.out ?_
  simp only [Act.put, List.setIfInBounds_toArray, List.set_cons_succ, List.set_cons_zero]
  refine held_val 2 rfl (by kernel_rfl) (by kernel_rfl) (by kernel_rfl) rfl (fun w' hw => exec_ld rfl (ev rfl) (ldInt hw.f1)) (fun _ _ _ h => h) HAT.out ?_
  simp only [Act.put, List.setIfInBounds_toArray, List.set_cons_succ, List.set_cons_zero]
  refine held_val 3 rfl (by kernel_rfl) (by kernel_rfl) (by kernel_rfl) rfl (fun w' hw => exec_faddr rfl (ev rfl) faAct172) (fun _ _ _ h => h) HAT.out ?_
  simp only [Act.put, List.setIfInBounds_toArray, List.set_cons_succ, List.set_cons_zero]
  refine held_val 4 rfl (by kernel_rfl) (by kernel_rfl) (by kernel_rfl) rfl (fun w' hw => exec_load rfl (ev rfl) hw.f2) (fun _ _ _ h => h) HAT.out ?_
  simp only [Act.put, List.setIfInBounds_toArray, List.set_cons_succ, List.set_cons_zero]
  refine held_val 5 rfl (by kernel_rfl) (by kernel_rfl) (by kernel_rfl) rfl (fun w' hw => exec_faddr rfl (ev rfl) faAct173) (fun _ _ _ h => h) HAT.out ?_
  simp only [Act.put, List.setIfInBounds_toArray, List.set_cons_succ, List.set_cons_zero]
  refine held_val 6 rfl (by kernel_rfl) (by kernel_rfl) (by kernel_rfl) rfl (fun w' hw => exec_ld rfl (ev rfl) (ldU64 hw.f3)) (fun _ _ _ h => h) HAT.out ?_
  simp only [Act.put, List.setIfInBounds_toArray, List.set_cons_succ, List.set_cons_zero]
  refine held_val 8 rfl (by kernel_rfl) (by kernel_rfl) (by kernel_rfl) rfl (fun w' hw => exec_mv rfl (ev rfl)) (fun _ _ _ h => h) HAT.out ?_
  simp only [Act.put, List.setIfInBounds_toArray, List.set_cons_succ, List.set_cons_zero]
  refine held_val 9 rfl (by kernel_rfl) (by kernel_rfl) (by kernel_rfl) rfl (fun w' hw => exec_faddr rfl (ev rfl) faAct171) (fun _ _ _ h => h) HAT.out ?_
  simp only [Act.put, List.setIfInBounds_toArray, List.set_cons_succ, List.set_cons_zero]
  refine held_val 10 rfl (by kernel_rfl) (by kernel_rfl) (by kernel_rfl) rfl (fun w' hw => exec_ld rfl (ev rfl) (ldInt hw.f1)) (fun _ _ _ h => h) HAT.out ?_
  simp only [Act.put, List.setIfInBounds_toArray, List.set_cons_succ, List.set_cons_zero]
  refine held_val 11 rfl (by kernel_rfl) (by kernel_rfl) (by kernel_rfl) rfl (fun w' hw => exec_faddr rfl (ev rfl) faAct172) (fun _ _ _ h => h) HAT.out ?_
  simp only [Act.put, List.setIfInBounds_toArray, List.set_cons_succ, List.set_cons_zero]
  refine held_val 12 rfl (by kernel_rfl) (by kernel_rfl) (by kernel_rfl) rfl (fun w' hw => exec_load rfl (ev rfl) hw.f2) (fun _ _ _ h => h) HAT.out ?_
  simp only [Act.put, List.setIfInBounds_toArray, List.set_cons_succ, List.set_cons_zero]
  refine held_val 13 rfl (by kernel_rfl) (by kernel_rfl) (by kernel_rfl) rfl (fun w' hw => exec_faddr rfl (ev rfl) faAct173) (fun _ _ _ h => h) HAT.out ?_
  simp only [Act.put, List.setIfInBounds_toArray, List.set_cons_succ, List.set_cons_zero]
  refine held_val 14 rfl (by kernel_rfl) (by kernel_rfl) (by kernel_rfl) rfl (fun w' hw => exec_ld rfl (ev rfl) (ldU64 hw.f3)) (fun _ _ _ h => h) HAT.out ?_
  simp only [Act.put, List.setIfInBounds_toArray, List.set_cons_succ, List.set_cons_zero]
  refine held_call 7 rfl (by kernel_rfl) rfl (exec_cl Try.call13 rfl (evc (ev rfl) (evc (ev rfl) (evc (ev rfl) (evc (ev rfl) evn))))) ?_
  refine (C.set_ _ a.Mem a.B a.Seq HP.out HIN.out).mono ?_
  rintro e w2 ⟨rfl, h2, t2⟩
  have HP2 := Lib.hid h2
  have HT2 := Lib.hid t2
  have HA2 : Hid (Act17.At_ w2 w.heap.size a) := Lib.hid (t2.keep HAT.out (C.own _ _ _ (.inl rfl)))
  have HR2 := Lib.hid (HR.out.other t2 C.rn)
  clear h2 t2
  refine ⟨_, rfl, HA2.out, ?_⟩
  simp only [Act.put, List.setIfInBounds_toArray, List.set_cons_succ, List.set_cons_zero]
  refine held_call 15 rfl (by kernel_rfl) rfl (exec_cl Try.call22 rfl (evc (ev rfl) (evc (ev rfl) (evc (ev rfl) (evc (ev rfl) evn))))) ?_
  refine (r_set _ a.Mem a.B a.Seq HR2.out HIN.out HN.out).mono ?_
  rintro e w3 ⟨rfl, h3, t3⟩
  have HR3 := Lib.hid h3
  have HT3 := Lib.hid t3
  have HA3 : Hid (Act17.At_ w3 w.heap.size a) := Lib.hid (t3.keep HA2.out (act_rn _ _))
  have HP3 := Lib.hid (LnI.other HP2.out t3 C.pr)
  clear h3 t3
  refine ⟨_, rfl, HA3.out, ?_⟩
  simp only [Act.put, List.setIfInBounds_toArray, List.set_cons_succ, List.set_cons_zero]
  refine held_val 16 rfl (by kernel_rfl) (by kernel_rfl) (by kernel_rfl) rfl (fun w' hw => exec_eqInt true rfl (ev rfl) (ev rfl) (beq_self_eq_true _)) (fun _ _ _ h => h) HA3.out ?_
  simp only [Act.put, List.setIfInBounds_toArray, List.set_cons_succ, List.set_cons_zero]
  refine held_val 17 rfl (by kernel_rfl) (by kernel_rfl) (by kernel_rfl) rfl (fun w' hw => exec_as rfl (ev rfl)) (fun _ _ _ h => h) HA3.out ?_
  simp only [Act.put, List.setIfInBounds_toArray, List.set_cons_succ, List.set_cons_zero]
  refine wpAnyH_done (by kernel_rfl) ?_ _
  go_wp2_with fail
  go_ret
  have hb2 : Below B w w2 := Turn.below HB1.out.drew HT2.out HBS.out
  exact ⟨rfl, _, HP3.out, HR3.out.more (by omega), len_set _ _ _, Turn.below hb2 HT3.out (Nat.le_trans HBS.out HT2.out.size)⟩
set_option maxHeartbeats 2000000 in
theorem act_forget (w : World) (hP : C.P w B p s) (hR : RN w B q n s) (hin : a.In w) (hn : n ≤ 999) (h0 : (a.Do == 0) = false) (h1 : (a.Do == 1) = false) (h2 : (a.Do == 2) = true) : Calls Try.prog 10 #[.pointer (some ⟨p, 0, none⟩), .pointer (some ⟨q, 0, none⟩), a.V] w fun e w' => e = .returned (.bool true) ∧ ∃ s', C.P w' B p s' ∧ RN w' B q (n + 1) s' ∧ s'.l.length = s.l.length ∧ Below B w w' := by
  obtain ⟨w1, hw1⟩ : ∃ w1, w.alloc (.cells a.C.toArray 36) = w1 := ⟨_, rfl⟩
  have hb1 : Below w.heap.size w w1 := by rw [← hw1]; exact (Below.refl _ _).alloc (Nat.le_refl _) _
  have hat : Act17.At_ w1 w.heap.size a := by rw [← hw1]; exact Act17.At_.new w a
  have HW1 := Lib.hid hw1
  have HB1 := Lib.hid (hb1.mono (Nat.le_of_lt (Nat.lt_of_le_of_lt (C.ok hP).2.1 (C.ok hP).2.2)))
  have HAT : Hid (Act17.At_ w1.drew w.heap.size a) := Lib.hid hat
  have HAS := Lib.hid hat
  have HP : Hid (C.P w1.drew B p s) := Lib.hid (C.keep (LnI.below hP hb1) fun _ _ h _ => h)
  have HR : Hid (RN w1.drew B q n s) := Lib.hid ((hR.below hb1).keep fun _ _ h _ => h)
  have HIN : Hid (a.Seq < 18446744073709551616) := Lib.hid hin.2.2
  have HN : Hid (n ≤ 1000) := Lib.hid (by omega)
  have HBS : Hid (B ≤ w1.heap.size) := Lib.hid (Nat.le_trans (Nat.le_of_lt (Nat.lt_of_le_of_lt (C.ok hP).2.1 (C.ok hP).2.2)) hb1.size)
  have H0 := Lib.hid h0
  have H1 := Lib.hid h1
  have H2 := Lib.hid h2
  clear hP hR hin hn hw1 hb1 hat h0 h1 h2
  go_enter Try.func10, Try.ntmps10
  go_upto_region 0 with fail
  refine wp_region_lit ?_
  refine wpList_valn rfl (exec_boxAct17 (a := a) rfl (ev rfl)) ?_
  simp only [Act.put, List.setIfInBounds_toArray, List.set_cons_succ, List.set_cons_zero]
  rw [HW1.out]
  refine wpList_valn (v := .bool false) rfl (exec_as rfl evk) ?_
  simp only [Act.put, List.setIfInBounds_toArray, List.set_cons_succ, List.set_cons_zero]
  refine wpList_nil ?_
  go_upto_region 1 with fail
  refine wp_region_lit ?_
  refine wpList_valn rfl (exec_faddr rfl (ev rfl) faAct170) ?_
  simp only [Act.put, List.setIfInBounds_toArray, List.set_cons_succ, List.set_cons_zero]
  refine wpList_valn rfl (exec_ld rfl (ev rfl) (ldInt HAS.out.f0)) ?_
  simp only [Act.put, List.setIfInBounds_toArray, List.set_cons_succ, List.set_cons_zero]
  refine wpList_nil ?_
  go_upto_region 2 with fail
  refine wp_region_lit ?_
  refine wpList_valn (v := .bool false) rfl (exec_eqInt false rfl (ev rfl) evk H0.out) ?_
  simp only [Act.put, List.setIfInBounds_toArray, List.set_cons_succ, List.set_cons_zero]
  refine wpList_valn (v := .bool false) rfl (exec_as rfl (ev rfl)) ?_
  simp only [Act.put, List.setIfInBounds_toArray, List.set_cons_succ, List.set_cons_zero]
  refine wpList_nil ?_
  go_upto_region 4 with fail
  refine wp_region_lit ?_
  refine wpList_valn (v := .bool false) rfl (exec_eqInt false rfl (ev rfl) evk H1.out) ?_
  simp only [Act.put, List.setIfInBounds_toArray, List.set_cons_succ, List.set_cons_zero]
  refine wpList_valn (v := .bool false) rfl (exec_as rfl (ev rfl)) ?_
  simp only [Act.put, List.setIfInBounds_toArray, List.set_cons_succ, List.set_cons_zero]
  refine wpList_nil ?_
  go_upto_region 6 with fail
  refine wp_region_lit ?_
  refine wpList_valn (v := .bool true) rfl (exec_eqInt true rfl (ev rfl) evk H2.out) ?_
  simp only [Act.put, List.setIfInBounds_toArray, List.set_cons_succ, List.set_cons_zero]
  refine wpList_valn (v := .bool true) rfl (exec_as rfl (ev rfl)) ?_
  simp only [Act.put, List.setIfInBounds_toArray, List.set_cons_succ, List.set_cons_zero]
  refine wpList_nil ?_
  go_upto_region 7 with fail
  refine wp_region_held (S := fun w' => Act17.At_ w' w.heap.size a) (by kernel_rfl) ?_
  change wpAnyH _ _ _ _ _ 10 _ _ w1.drew
  refine held_val 0 rfl (by kernel_rfl) (by kernel_rfl) (by kernel_rfl) rfl (fun w' hw => exec_mv rfl (ev rfl)) (fun _ _ _ h => h) HAT.out ?_
  simp only [Act.put, List.setIfInBounds_toArray, List.set_cons_succ, List.set_cons_zero]
  refine held_val 1 rfl (by kernel_rfl) (by kernel_rfl) (by kernel_rfl) rfl (fun w' hw => exec_faddr rfl (ev rfl) faAct171) (fun _ _ _ h => h) HAT.out ?_
  simp only [Act.put, List.setIfInBounds_toArray, List.set_cons_succ, List.set_cons_zero]
  refine held_val 2 rfl (by kernel_rfl) (by kernel_rfl) (by kernel_rfl) rfl (fun w' hw => exec_ld rfl (ev rfl) (ldInt hw.f1)) (fun _ _ _ h => h) HAT.out ?_
  simp only [Act.put, List.setIfInBounds_toArray, List.set_cons_succ, List.set_cons_zero]
  refine held_val 4 rfl (by kernel_rfl) (by kernel_rfl) (by kernel_rfl) rfl (fun w' hw => exec_mv rfl (ev rfl)) (fun _ _ _ h => h) HAT.out ?_
  simp only [Act.put, List.setIfInBounds_toArray, List.set_cons_succ, List.set_cons_zero]
  refine held_val 5 rfl (by kernel_rfl) (by kernel_rfl) (by kernel_rfl) rfl (fun w' hw => exec_faddr rfl (ev rfl) faAct171) (fun _ _ _ h => h) HAT.out ?_
  simp only [Act.put, List.setIfInBounds_toArray, List.set_cons_succ, List.set_cons_zero]
  refine held_val 6 rfl (by kernel_rfl) (by kernel_rfl) (by kernel_rfl) rfl (fun w' hw => exec_ld rfl (ev rfl) (ldInt hw.f1)) (fun _ _ _ h => h) HAT.out ?_
  simp only [Act.put, List.setIfInBounds_toArray, List.set_cons_succ, List.set_cons_zero]
  refine held_call 3 rfl (by kernel_rfl) rfl (exec_cl Try.call14 rfl (evc (ev rfl) (evc (ev rfl) evn))) ?_
  refine (C.forget_ _ a.Mem HP.out).mono ?_
  rintro e w2 ⟨rfl, h2, t2⟩
  have HP2 := Lib.hid h2
  have HT2 := Lib.hid t2
  have HA2 : Hid (Act17.At_ w2 w.heap.size a) := Lib.hid (t2.keep HAT.out (C.own _ _ _ (.inl rfl)))
  have HR2 := Lib.hid (HR.out.other t2 C.rn)
  clear h2 t2
  refine ⟨_, rfl, HA2.out, ?_⟩
  simp only [Act.put, List.setIfInBounds_toArray, List.set_cons_succ, List.set_cons_zero]
  refine held_call 7 rfl (by kernel_rfl) rfl (exec_cl Try.call23 rfl (evc (ev rfl) (evc (ev rfl) evn))) ?_
  refine (r_forget _ a.Mem HR2.out).mono ?_
  rintro e w3 ⟨rfl, h3, t3⟩
  have HR3 := Lib.hid h3
  have HT3 := Lib.hid t3
  have HA3 : Hid (Act17.At_ w3 w.heap.size a) := Lib.hid (t3.keep HA2.out (act_rn _ _))
  have HP3 := Lib.hid (LnI.other HP2.out t3 C.pr)
  clear h3 t3
  refine ⟨_, rfl, HA3.out, ?_⟩
  simp only [Act.put, List.setIfInBounds_toArray, List.set_cons_succ, List.set_cons_zero]
  refine held_val 8 rfl (by kernel_rfl) (by kernel_rfl) (by kernel_rfl) rfl (fun w' hw => exec_eqInt true rfl (ev rfl) (ev rfl) (beq_self_eq_true _)) (fun _ _ _ h => h) HA3.out ?_
  simp only [Act.put, List.setIfInBounds_toArray, List.set_cons_succ, List.set_cons_zero]
  refine held_val 9 rfl (by kernel_rfl) (by kernel_rfl) (by kernel_rfl) rfl (fun w' hw => exec_as rfl (ev rfl)) (fun _ _ _ h => h) HA3.out ?_
  simp only [Act.put, List.setIfInBounds_toArray, List.set_cons_succ, List.set_cons_zero]
  refine wpAnyH_done (by kernel_rfl) ?_ _
  go_wp2_with fail
  go_ret
  have hb2 : Below B w w2 := Turn.below HB1.out.drew HT2.out HBS.out
  exact ⟨rfl, _, HP3.out, HR3.out.more (by omega), len_frg _, Turn.below hb2 HT3.out (Nat.le_trans HBS.out HT2.out.size)⟩
set_option maxHeartbeats 2000000 in
theorem act_clean (w : World) (hP : C.P w B p s) (hR : RN w B q n s) (hin : a.In w) (hn : n ≤ 999) (h0 : (a.Do == 0) = false) (h1 : (a.Do == 1) = false) (h2 : (a.Do == 2) = false) (h3 : (a.Do == 3) = true) : Calls Try.prog 10 #[.pointer (some ⟨p, 0, none⟩), .pointer (some ⟨q, 0, none⟩), a.V] w fun e w' => e = .returned (.bool true) ∧ ∃ s', C.P w' B p s' ∧ RN w' B q (n + 1) s' ∧ s'.l.length = s.l.length ∧ Below B w w' := by
  obtain ⟨w1, hw1⟩ : ∃ w1, w.alloc (.cells a.C.toArray 36) = w1 := ⟨_, rfl⟩
  have hb1 : Below w.heap.size w w1 := by rw [← hw1]; exact (Below.refl _ _).alloc (Nat.le_refl _) _
  have hat : Act17.At_ w1 w.heap.size a := by rw [← hw1]; exact Act17.At_.new w a
  have HW1 := Lib.hid hw1
  have HB1 := Lib.hid (hb1.mono (Nat.le_of_lt (Nat.lt_of_le_of_lt (C.ok hP).2.1 (C.ok hP).2.2)))
  have HAT : Hid (Act17.At_ w1.drew w.heap.size a) := Lib.hid hat
  have HAS := Lib.hid hat
  have HP : Hid (C.P w1.drew B p s) := Lib.hid (C.keep (LnI.below hP hb1) fun _ _ h _ => h)
  have HR : Hid (RN w1.drew B q n s) := Lib.hid ((hR.below hb1).keep fun _ _ h _ => h)
  have HIN : Hid (a.Seq < 18446744073709551616) := Lib.hid hin.2.2
  have HN : Hid (n ≤ 1000) := Lib.hid (by omega)
  have HBS : Hid (B ≤ w1.heap.size) := Lib.hid (Nat.le_trans (Nat.le_of_lt (Nat.lt_of_le_of_lt (C.ok hP).2.1 (C.ok hP).2.2)) hb1.size)
  have HPc : Hid (C.P w1 B p s) := Lib.hid (LnI.below hP hb1)
  have HRc : Hid (RN w1 B q n s) := Lib.hid (hR.below hb1)
  have H0 := Lib.hid h0
  have H1 := Lib.hid h1
  have H2 := Lib.hid h2
  have H3 := Lib.hid h3
  clear hP hR hin hn hw1 hb1 hat h0 h1 h2 h3
  go_enter Try.func10, Try.ntmps10
  go_upto_region 0 with fail
  refine wp_region_lit ?_
  refine wpList_valn rfl (exec_boxAct17 (a := a) rfl (ev rfl)) ?_
  simp only [Act.put, List.setIfInBounds_toArray, List.set_cons_succ, List.set_cons_zero]
  rw [HW1.out]
  refine wpList_valn (v := .bool false) rfl (exec_as rfl evk) ?_
  simp only [Act.put, List.setIfInBounds_toArray, List.set_cons_succ, List.set_cons_zero]
  refine wpList_nil ?_
  go_upto_region 1 with fail
  refine wp_region_lit ?_
  refine wpList_valn rfl (exec_faddr rfl (ev rfl) faAct170) ?_
  simp only [Act.put, List.setIfInBounds_toArray, List.set_cons_succ, List.set_cons_zero]
  refine wpList_valn rfl (exec_ld rfl (ev rfl) (ldInt HAS.out.f0)) ?_
  simp only [Act.put, List.setIfInBounds_toArray, List.set_cons_succ, List.set_cons_zero]
  refine wpList_nil ?_
  go_upto_region 2 with fail
  refine wp_region_lit ?_
  refine wpList_valn (v := .bool false) rfl (exec_eqInt false rfl (ev rfl) evk H0.out) ?_
  simp only [Act.put, List.setIfInBounds_toArray, List.set_cons_succ, List.set_cons_zero]
  refine wpList_valn (v := .bool false) rfl (exec_as rfl (ev rfl)) ?_
  simp only [Act.put, List.setIfInBounds_toArray, List.set_cons_succ, List.set_cons_zero]
  refine wpList_nil ?_
  go_upto_region 4 with fail
  refine wp_region_lit ?_
  refine wpList_valn (v := .bool false) rfl (exec_eqInt false rfl (ev rfl) evk H1.out) ?_
  simp only [Act.put, List.setIfInBounds_toArray, List.set_cons_succ, List.set_cons_zero]
  refine wpList_valn (v := .bool false) rfl (exec_as rfl (ev rfl)) ?_
  simp only [Act.put, List.setIfInBounds_toArray, List.set_cons_succ, List.set_cons_zero]
  refine wpList_nil ?_
  go_upto_region 6 with fail
  refine wp_region_lit ?_
  refine wpList_valn (v := .bool false) rfl (exec_eqInt false rfl (ev rfl) evk H2.out) ?_
  simp only [Act.put, List.setIfInBounds_toArray, List.set_cons_succ, List.set_cons_zero]
  refine wpList_valn (v := .bool false) rfl (exec_as rfl (ev rfl)) ?_
  simp only [Act.put, List.setIfInBounds_toArray, List.set_cons_succ, List.set_cons_zero]
  refine wpList_nil ?_
  go_upto_region 8 with fail
  refine wp_region_lit ?_
  refine wpList_valn (v := .bool true) rfl (exec_eqInt true rfl (ev rfl) evk H3.out) ?_
  simp only [Act.put, List.setIfInBounds_toArray, List.set_cons_succ, List.set_cons_zero]
  refine wpList_valn (v := .bool true) rfl (exec_as rfl (ev rfl)) ?_
  simp only [Act.put, List.setIfInBounds_toArray, List.set_cons_succ, List.set_cons_zero]
  refine wpList_nil ?_
  go_upto_region 9 with fail
  refine wp_region_lit ?_
  refine wpList_valn rfl (exec_mv rfl (ev rfl)) ?_
  simp only [Act.put, List.setIfInBounds_toArray, List.set_cons_succ, List.set_cons_zero]
  refine wpList_call rfl (exec_cl Try.call24 rfl (evc (ev rfl) evn)) ?_
  refine (r_clean w1 HRc.out).mono ?_
  rintro e w2 ⟨rfl, h2, t2⟩
  have HR2 := Lib.hid h2
  have HT2 := Lib.hid t2
  have HP2 := Lib.hid (LnI.other HPc.out t2 C.pr)
  clear h2 t2
  refine ⟨_, rfl, ?_⟩
  simp only [Act.put, List.setIfInBounds_toArray, List.set_cons_succ, List.set_cons_zero]
  refine wpList_nil ?_
  go_upto_region 10 with fail
  refine wp_region_lit ?_
  refine wpList_valn rfl (exec_mv rfl (ev rfl)) ?_
  simp only [Act.put, List.setIfInBounds_toArray, List.set_cons_succ, List.set_cons_zero]
  refine wpList_call rfl (exec_cl Try.call15 rfl (evc (ev rfl) evn)) ?_
  refine (C.clean_ w2 HP2.out).mono ?_
  rintro e w3 ⟨rfl, h3, t3⟩
  have HP3 := Lib.hid h3
  have HT3 := Lib.hid t3
  have HR3 := Lib.hid (HR2.out.other t3 C.rn)
  clear h3 t3
  refine ⟨_, rfl, ?_⟩
  simp only [Act.put, List.setIfInBounds_toArray, List.set_cons_succ, List.set_cons_zero]
  refine wpList_valn rfl (exec_eqInt true rfl (ev rfl) evk rfl) ?_
  simp only [Act.put, List.setIfInBounds_toArray, List.set_cons_succ, List.set_cons_zero]
  refine wpList_valn rfl (exec_as rfl (ev rfl)) ?_
  simp only [Act.put, List.setIfInBounds_toArray, List.set_cons_succ, List.set_cons_zero]
  refine wpList_nil ?_
  go_wp2_with fail
  go_ret
  have hb2 : Below B w w2 := Turn.below HB1.out HT2.out HBS.out
  exact ⟨rfl, _, HP3.out, HR3.out.more (by omega), len_cln, Turn.below hb2 HT3.out (Nat.le_trans HBS.out HT2.out.size)⟩
set_option maxHeartbeats 2000000 in
theorem act_none (w : World) (hP : C.P w B p s) (hR : RN w B q n s) (hin : a.In w) (hn : n ≤ 999) (h0 : (a.Do == 0) = false) (h1 : (a.Do == 1) = false) (h2 : (a.Do == 2) = false) (h3 : (a.Do == 3) = false) : Calls Try.prog 10 #[.pointer (some ⟨p, 0, none⟩), .pointer (some ⟨q, 0, none⟩), a.V] w fun e w' => e = .returned (.bool true) ∧ ∃ s', C.P w' B p s' ∧ RN w' B q (n + 1) s' ∧ s'.l.length = s.l.length ∧ Below B w w' := by
  obtain ⟨w1, hw1⟩ : ∃ w1, w.alloc (.cells a.C.toArray 36) = w1 := ⟨_, rfl⟩
  have hb1 : Below w.heap.size w w1 := by rw [← hw1]; exact (Below.refl _ _).alloc (Nat.le_refl _) _
  have hat : Act17.At_ w1 w.heap.size a := by rw [← hw1]; exact Act17.At_.new w a
  have HW1 := Lib.hid hw1
  have HB1 := Lib.hid (hb1.mono (Nat.le_of_lt (Nat.lt_of_le_of_lt (C.ok hP).2.1 (C.ok hP).2.2)))
  have HAT : Hid (Act17.At_ w1.drew w.heap.size a) := Lib.hid hat
  have HAS := Lib.hid hat
  have HP : Hid (C.P w1.drew B p s) := Lib.hid (C.keep (LnI.below hP hb1) fun _ _ h _ => h)
  have HR : Hid (RN w1.drew B q n s) := Lib.hid ((hR.below hb1).keep fun _ _ h _ => h)
  have HIN : Hid (a.Seq < 18446744073709551616) := Lib.hid hin.2.2
  have HN : Hid (n ≤ 1000) := Lib.hid (by omega)
  have HBS : Hid (B ≤ w1.heap.size) := Lib.hid (Nat.le_trans (Nat.le_of_lt (Nat.lt_of_le_of_lt (C.ok hP).2.1 (C.ok hP).2.2)) hb1.size)
  have HPc : Hid (C.P w1 B p s) := Lib.hid (LnI.below hP hb1)
  have HRc : Hid (RN w1 B q n s) := Lib.hid (hR.below hb1)
  have H0 := Lib.hid h0
  have H1 := Lib.hid h1
  have H2 := Lib.hid h2
  have H3 := Lib.hid h3
  clear hP hR hin hn hw1 hb1 hat h0 h1 h2 h3
  go_enter Try.func10, Try.ntmps10
  go_upto_region 0 with fail
  refine wp_region_lit ?_
  refine wpList_valn rfl (exec_boxAct17 (a := a) rfl (ev rfl)) ?_
  simp only [Act.put, List.setIfInBounds_toArray, List.set_cons_succ, List.set_cons_zero]
  rw [HW1.out]
  refine wpList_valn (v := .bool false) rfl (exec_as rfl evk) ?_
  simp only [Act.put, List.setIfInBounds_toArray, List.set_cons_succ, List.set_cons_zero]
  refine wpList_nil ?_
  go_upto_region 1 with fail
  refine wp_region_lit ?_
  refine wpList_valn rfl (exec_faddr rfl (ev rfl) faAct170) ?_
  simp only [Act.put, List.setIfInBounds_toArray, List.set_cons_succ, List.set_cons_zero]
  refine wpList_valn rfl (exec_ld rfl (ev rfl) (ldInt HAS.out.f0)) ?_
  simp only [Act.put, List.setIfInBounds_toArray, List.set_cons_succ, List.set_cons_zero]
  refine wpList_nil ?_
  go_upto_region 2 with fail
  refine wp_region_lit ?_
  refine wpList_valn (v := .bool false) rfl (exec_eqInt false rfl (ev rfl) evk H0.out) ?_
  simp only [Act.put, List.setIfInBounds_toArray, List.set_cons_succ, List.set_cons_zero]
  refine wpList_valn (v := .bool false) rfl (exec_as rfl (ev rfl)) ?_
  simp only [Act.put, List.setIfInBounds_toArray, List.set_cons_succ, List.set_cons_zero]
  refine wpList_nil ?_
  go_upto_region 4 with fail
  refine wp_region_lit ?_
  refine wpList_valn (v := .bool false) rfl (exec_eqInt false rfl (ev rfl) evk H1.out) ?_
  simp only [Act.put, List.setIfInBounds_toArray, List.set_cons_succ, List.set_cons_zero]
  refine wpList_valn (v := .bool false) rfl (exec_as rfl (ev rfl)) ?_
  simp only [Act.put, List.setIfInBounds_toArray, List.set_cons_succ, List.set_cons_zero]
  refine wpList_nil ?_
  go_upto_region 6 with fail
  refine wp_region_lit ?_
  refine wpList_valn (v := .bool false) rfl (exec_eqInt false rfl (ev rfl) evk H2.out) ?_
  simp only [Act.put, List.setIfInBounds_toArray, List.set_cons_succ, List.set_cons_zero]
  refine wpList_valn (v := .bool false) rfl (exec_as rfl (ev rfl)) ?_
  simp only [Act.put, List.setIfInBounds_toArray, List.set_cons_succ, List.set_cons_zero]
  refine wpList_nil ?_
  go_upto_region 8 with fail
  refine wp_region_lit ?_
  refine wpList_valn (v := .bool false) rfl (exec_eqInt false rfl (ev rfl) evk H3.out) ?_
  simp only [Act.put, List.setIfInBounds_toArray, List.set_cons_succ, List.set_cons_zero]
  refine wpList_valn (v := .bool false) rfl (exec_as rfl (ev rfl)) ?_
  simp only [Act.put, List.setIfInBounds_toArray, List.set_cons_succ, List.set_cons_zero]
  refine wpList_nil ?_
  go_wp2_with fail
  go_ret
  exact ⟨rfl, _, HPc.out, HRc.out.more (by omega), rfl, HB1.out⟩
theorem l_act (w : World) (hP : C.P w B p s) (hR : RN w B q n s) (hin : a.In w) (hn : n ≤ 999) : Calls Try.prog 10 #[.pointer (some ⟨p, 0, none⟩), .pointer (some ⟨q, 0, none⟩), a.V] w fun e w' => e = .returned (.bool true) ∧ ∃ s', C.P w' B p s' ∧ RN w' B q (n + 1) s' ∧ s'.l.length = s.l.length ∧ Below B w w' := by
  cases h0 : (a.Do == 0)
  · cases h1 : (a.Do == 1)
    · cases h2 : (a.Do == 2)
      · cases h3 : (a.Do == 3)
        · exact act_none w hP hR hin hn h0 h1 h2 h3
        · exact act_clean w hP hR hin hn h0 h1 h2 h3
      · exact act_forget w hP hR hin hn h0 h1 h2
    · exact act_set w hP hR hin hn h0 h1
  · exact act_learn w hP hR hin hn h0
set_option maxHeartbeats 4000000 in
theorem l_alike (w : World) (hP : C.P w B p s) (hR : RN w B q n s) (hn : n ≤ 1000) : Calls Try.prog 11 #[.pointer (some ⟨p, 0, none⟩), .pointer (some ⟨q, 0, none⟩)] w fun e w' => e = .returned (.bool true) ∧ Below w.heap.size w w' := by
  have HPP := Lib.hid hP
  have HRR := Lib.hid hR
  have HNN := Lib.hid hn
  have HOK : Hid (s.l.length ≤ 16) := Lib.hid hR.ok.hi
  clear hP hR hn
  go_enter Try.func11, Try.ntmps11
  go_wp2_with fail
  go_loopw [5] (fun z wr => ∃ j : Nat, z = .int .i64 ((j : Int) - 1) ∧ j ≤ s.l.length + 2 ∧ Below w.heap.size w wr) (fun z _ => s.l.length + 3 - (intOf z + 1).toNat)
  case atStart => exact ⟨0, rfl, Nat.zero_le _, Below.refl _ _⟩
  case round =>
    obtain ⟨j, rfl, hj, hb⟩ := hrel
    have HW := Lib.hid hb
    have HP := Lib.hid (LnI.below HPP.out hb)
    obtain ⟨g, v, LL, hL, hlen⟩ := HRR.out.below hb
    have HL := Lib.hid hL
    have HR : Hid (RN wr B q n s) := Lib.hid ⟨g, v, LL, hL, hlen⟩
    have hlen_ := hlen
    clear hL hlen hb
    by_cases hlt : j ≤ s.l.length + 1
    · have HJ := Lib.hid hlt
      have HT : Hid (decide ((j : Int) - 1 ≤ (s.l.length : Int)) = true) := Lib.hid (decide_eq_true (by omega))
      have HA : Hid (IntKind.i64.wrap ((j : Int) - 1 + 1) = ((j + 1 : Nat) : Int) - 1) := Lib.hid (by have := HOK.out; rw [i64k_ ⟨by omega, by omega⟩]; omega)
      clear hj hlt
      go_upto_region 2 with fail
      refine wp_region_lit ?_
      refine wpList_valn rfl (exec_mv rfl (ev rfl)) ?_
      simp only [Act.put, List.setIfInBounds_toArray, List.set_cons_succ, List.set_cons_zero]
      refine wpList_valn rfl (exec_mv rfl (ev rfl)) ?_
      simp only [Act.put, List.setIfInBounds_toArray, List.set_cons_succ, List.set_cons_zero]
      refine wpList_valn rfl (exec_nil rfl (ev rfl)) ?_
      simp only [Act.put, List.setIfInBounds_toArray, List.set_cons_succ, List.set_cons_zero]
      refine wpList_valn rfl (exec_faddr rfl (ev rfl) faRn0) ?_
      simp only [Act.put, List.setIfInBounds_toArray, List.set_cons_succ, List.set_cons_zero]
      refine wpList_valn rfl (exec_ld rfl (ev rfl) (ldLs HL.out.c0)) ?_
      simp only [Act.put, List.setIfInBounds_toArray, List.set_cons_succ, List.set_cons_zero]
      refine wpList_valn rfl (exec_lenE LcE rfl (ev rfl)) ?_
      simp only [Act.put, List.setIfInBounds_toArray, List.set_cons_succ, List.set_cons_zero]
      refine wpList_valn (v := .bool true) rfl (exec_leq true rfl (ev rfl) (ev rfl) HT.out) ?_
      simp only [Act.put, List.setIfInBounds_toArray, List.set_cons_succ, List.set_cons_zero]
      refine wpList_nil ?_
      go_upto_region 4 with fail
      refine wp_region_lit ?_
      refine wpList_valn rfl (exec_mv rfl (ev rfl)) ?_
      simp only [Act.put, List.setIfInBounds_toArray, List.set_cons_succ, List.set_cons_zero]
      refine wpList_valn rfl (exec_mv rfl (ev rfl)) ?_
      simp only [Act.put, List.setIfInBounds_toArray, List.set_cons_succ, List.set_cons_zero]
      refine wpList_call rfl (exec_cl Try.call17 rfl (evc (ev rfl) (evc (ev rfl) evn))) ?_
      refine (C.get_ wr ((j : Int) - 1) HP.out).mono ?_
      rintro e w2 ⟨rfl, b2⟩
      have HW2 := Lib.hid (HW.out.trans (b2.mono HW.out.size))
      have HR2 := Lib.hid (HR.out.below b2)
      clear b2
      refine ⟨_, rfl, ?_⟩
      simp only [Act.put, List.setIfInBounds_toArray, List.set_cons_succ, List.set_cons_zero]
      refine wpList_valn rfl (exec_mv rfl (ev rfl)) ?_
      simp only [Act.put, List.setIfInBounds_toArray, List.set_cons_succ, List.set_cons_zero]
      refine wpList_valn rfl (exec_ext rfl (ev rfl) rfl) ?_
      simp only [Act.put, List.setIfInBounds_toArray, List.set_cons_succ, List.set_cons_zero]
      refine wpList_valn rfl (exec_ext rfl (ev rfl) rfl) ?_
      simp only [Act.put, List.setIfInBounds_toArray, List.set_cons_succ, List.set_cons_zero]
      refine wpList_valn rfl (exec_alloc rfl) ?_
      simp only [Act.put, List.setIfInBounds_toArray, List.set_cons_succ, List.set_cons_zero]
      refine wpList_nuln rfl (exec_fillN rfl (ev rfl) (ev rfl)) ?_
      simp only [Act.put, List.setIfInBounds_toArray, List.set_cons_succ, List.set_cons_zero]
      have HA2 := Lib.hid ((Below.refl w2.heap.size w2).alloc (Nat.le_refl _) (.cells (cel (lnG s ((j : Int) - 1)).b).toArray 33))
      have HX := Lib.hid (range_new w2 (cel (lnG s ((j : Int) - 1)).b) 33)
      have HXL : Hid (w2.heap.size < (w2.alloc (.cells (cel (lnG s ((j : Int) - 1)).b).toArray 33)).heap.size) := Lib.hid (by rw [World.size_alloc]; omega)
      have HR3 := Lib.hid (HR2.out.below HA2.out)
      have HW3 := Lib.hid (HW2.out.trans (HA2.out.mono HW2.out.size))
      generalize w2.alloc (.cells (cel (lnG s ((j : Int) - 1)).b).toArray 33) = w3 at *
      refine wpList_valn rfl (exec_as rfl (ev rfl)) ?_
      simp only [Act.put, List.setIfInBounds_toArray, List.set_cons_succ, List.set_cons_zero]
      refine wpList_nil ?_
      go_upto_region 5 with fail
      refine wp_region_lit ?_
      refine wpList_valn rfl (exec_mv rfl (ev rfl)) ?_
      simp only [Act.put, List.setIfInBounds_toArray, List.set_cons_succ, List.set_cons_zero]
      refine wpList_valn rfl (exec_mv rfl (ev rfl)) ?_
      simp only [Act.put, List.setIfInBounds_toArray, List.set_cons_succ, List.set_cons_zero]
      refine wpList_call rfl (exec_cl Try.call25 rfl (evc (ev rfl) (evc (ev rfl) evn))) ?_
      refine (r_get w3 ((j : Int) - 1) HR3.out).mono ?_
      rintro e w4 ⟨rfl, b4⟩
      have HW4 := Lib.hid (HW3.out.trans (b4.mono HW3.out.size))
      have HX4 := Lib.hid (range_below HX.out HXL.out b4)
      have HXL4 := Lib.hid (Nat.lt_of_lt_of_le HXL.out b4.size)
      clear b4
      refine ⟨_, rfl, ?_⟩
      simp only [Act.put, List.setIfInBounds_toArray, List.set_cons_succ, List.set_cons_zero]
      refine wpList_valn rfl (exec_mv rfl (ev rfl)) ?_
      simp only [Act.put, List.setIfInBounds_toArray, List.set_cons_succ, List.set_cons_zero]
      refine wpList_valn rfl (exec_ext rfl (ev rfl) rfl) ?_
      simp only [Act.put, List.setIfInBounds_toArray, List.set_cons_succ, List.set_cons_zero]
      refine wpList_valn rfl (exec_ext rfl (ev rfl) rfl) ?_
      simp only [Act.put, List.setIfInBounds_toArray, List.set_cons_succ, List.set_cons_zero]
      refine wpList_valn rfl (exec_alloc rfl) ?_
      simp only [Act.put, List.setIfInBounds_toArray, List.set_cons_succ, List.set_cons_zero]
      refine wpList_nuln rfl (exec_fillN rfl (ev rfl) (ev rfl)) ?_
      simp only [Act.put, List.setIfInBounds_toArray, List.set_cons_succ, List.set_cons_zero]
      have HA4 := Lib.hid ((Below.refl w4.heap.size w4).alloc (Nat.le_refl _) (.cells (cel (lnG s ((j : Int) - 1)).b).toArray 33))
      have HX5 := Lib.hid (range_below HX4.out HXL4.out ((Below.refl w4.heap.size w4).alloc (Nat.le_refl _) (.cells (cel (lnG s ((j : Int) - 1)).b).toArray 33)))
      have HY5 := Lib.hid (range_new w4 (cel (lnG s ((j : Int) - 1)).b) 33)
      have HW5 := Lib.hid (HW4.out.trans (HA4.out.mono HW4.out.size))
      generalize w4.alloc (.cells (cel (lnG s ((j : Int) - 1)).b).toArray 33) = w5 at *
      refine wpList_valn rfl (exec_as rfl (ev rfl)) ?_
      simp only [Act.put, List.setIfInBounds_toArray, List.set_cons_succ, List.set_cons_zero]
      refine wpList_nil ?_
      go_upto_region 6 with fail
      refine wp_region_lit ?_
      refine wpList_valn rfl (exec_load rfl (ev rfl) HX5.out) ?_
      simp only [Act.put, List.setIfInBounds_toArray, List.set_cons_succ, List.set_cons_zero]
      refine wpList_valn rfl (exec_load rfl (ev rfl) HY5.out) ?_
      simp only [Act.put, List.setIfInBounds_toArray, List.set_cons_succ, List.set_cons_zero]
      refine wpList_valn (v := .bool false) rfl (exec_neqB false rfl (ev rfl) (ev rfl) (by simp)) ?_
      simp only [Act.put, List.setIfInBounds_toArray, List.set_cons_succ, List.set_cons_zero]
      refine wpList_valn (v := .bool false) rfl (exec_mv rfl (ev rfl)) ?_
      simp only [Act.put, List.setIfInBounds_toArray, List.set_cons_succ, List.set_cons_zero]
      refine wpList_val (wanted_of rfl rfl rfl rfl) (exec_mv rfl (ev rfl)) ?_
      simp only [Act.put, List.setIfInBounds_toArray, List.set_cons_succ, List.set_cons_zero]
      refine wpList_val (wanted_of rfl rfl rfl rfl) (exec_mv rfl (ev rfl)) ?_
      simp only [Act.put, List.setIfInBounds_toArray, List.set_cons_succ, List.set_cons_zero]
      refine wpList_val (v := .bool false) (wanted_of rfl rfl rfl rfl) (exec_neBool_ false rfl (ev rfl) (ev rfl) (bne_self_eq_false _)) ?_
      simp only [Act.put, List.setIfInBounds_toArray, List.set_cons_succ, List.set_cons_zero]
      refine wpList_valn (v := .bool false) rfl (exec_pf rfl (ev rfl) (ev rfl)) ?_
      simp only [Act.put, List.setIfInBounds_toArray, List.set_cons_succ, List.set_cons_zero]
      refine wpList_nil ?_
      go_upto_region 3 with fail
      refine wp_region_lit ?_
      refine wpList_valn rfl (exec_mv rfl (ev rfl)) ?_
      simp only [Act.put, List.setIfInBounds_toArray, List.set_cons_succ, List.set_cons_zero]
      refine wpList_valn rfl (exec_add rfl (ev rfl) evk HA.out) ?_
      simp only [Act.put, List.setIfInBounds_toArray, List.set_cons_succ, List.set_cons_zero]
      refine wpList_valn rfl (exec_as rfl (ev rfl)) ?_
      simp only [Act.put, List.setIfInBounds_toArray, List.set_cons_succ, List.set_cons_zero]
      refine wpList_nil ?_
      go_wp2_with fail
      go_roundw
      case rel => exact ⟨j + 1, by go_num, by have := HJ.out; omega, HW5.out⟩
      case measure => have := HJ.out; simp [intOf]; omega
    have HT : Hid (decide ((j : Int) - 1 ≤ (s.l.length : Int)) = false) := Lib.hid (decide_eq_false (by omega))
    clear hj hlt
    go_upto_region 2 with fail
    refine wp_region_lit ?_
    refine wpList_valn rfl (exec_mv rfl (ev rfl)) ?_
    simp only [Act.put, List.setIfInBounds_toArray, List.set_cons_succ, List.set_cons_zero]
    refine wpList_valn rfl (exec_mv rfl (ev rfl)) ?_
    simp only [Act.put, List.setIfInBounds_toArray, List.set_cons_succ, List.set_cons_zero]
    refine wpList_valn rfl (exec_nil rfl (ev rfl)) ?_
    simp only [Act.put, List.setIfInBounds_toArray, List.set_cons_succ, List.set_cons_zero]
    refine wpList_valn rfl (exec_faddr rfl (ev rfl) faRn0) ?_
    simp only [Act.put, List.setIfInBounds_toArray, List.set_cons_succ, List.set_cons_zero]
    refine wpList_valn rfl (exec_ld rfl (ev rfl) (ldLs HL.out.c0)) ?_
    simp only [Act.put, List.setIfInBounds_toArray, List.set_cons_succ, List.set_cons_zero]
    refine wpList_valn rfl (exec_lenE LcE rfl (ev rfl)) ?_
    simp only [Act.put, List.setIfInBounds_toArray, List.set_cons_succ, List.set_cons_zero]
    refine wpList_valn (v := .bool false) rfl (exec_leq false rfl (ev rfl) (ev rfl) HT.out) ?_
    simp only [Act.put, List.setIfInBounds_toArray, List.set_cons_succ, List.set_cons_zero]
    refine wpList_nil ?_
    have HS1 : Hid (RNu wr.drew B q g v s LL ∧ C.P wr.drew B p s) := Lib.hid ⟨HL.out.drew, C.keep HP.out fun _ _ h _ => h⟩
    have HW1 : Hid (Below w.heap.size w wr.drew) := Lib.hid HW.out.drew
    have HLL : Hid (LL.length ≤ n) := Lib.hid hlen_
    have HM1 : Hid (s.l.length ≤ maxLen) := Lib.hid (by have := HOK.out; unfold maxLen; omega)
    go_upto_region 8 with fail
    refine wp_region_held (S := fun w' => RNu w' B q g v s LL ∧ C.P w' B p s) (by kernel_rfl) ?_
    change wpAnyH _ _ _ _ _ 23 _ _ wr.drew
    refine held_val 0 rfl (by kernel_rfl) (by kernel_rfl) (by kernel_rfl) rfl (fun w' hw => exec_mv rfl (ev rfl)) (fun _ _ _ h => h) HS1.out ?_
    simp only [Act.put, List.setIfInBounds_toArray, List.set_cons_succ, List.set_cons_zero]
    refine held_val 2 rfl (by kernel_rfl) (by kernel_rfl) (by kernel_rfl) rfl (fun w' hw => exec_mv rfl (ev rfl)) (fun _ _ _ h => h) HS1.out ?_
    simp only [Act.put, List.setIfInBounds_toArray, List.set_cons_succ, List.set_cons_zero]
    refine held_val 3 rfl (by kernel_rfl) (by kernel_rfl) (by kernel_rfl) rfl (fun w' hw => exec_nil rfl (ev rfl)) (fun _ _ _ h => h) HS1.out ?_
    simp only [Act.put, List.setIfInBounds_toArray, List.set_cons_succ, List.set_cons_zero]
    refine held_val 4 rfl (by kernel_rfl) (by kernel_rfl) (by kernel_rfl) rfl (fun w' hw => exec_faddr rfl (ev rfl) faRn0) (fun _ _ _ h => h) HS1.out ?_
    simp only [Act.put, List.setIfInBounds_toArray, List.set_cons_succ, List.set_cons_zero]
    refine held_val 5 rfl (by kernel_rfl) (by kernel_rfl) (by kernel_rfl) rfl (fun w' hw => exec_ld rfl (ev rfl) (ldLs hw.1.c0)) (fun _ _ _ h => h) HS1.out ?_
    simp only [Act.put, List.setIfInBounds_toArray, List.set_cons_succ, List.set_cons_zero]
    refine held_val 6 rfl (by kernel_rfl) (by kernel_rfl) (by kernel_rfl) rfl (fun w' hw => exec_lenE LcE rfl (ev rfl)) (fun _ _ _ h => h) HS1.out ?_
    simp only [Act.put, List.setIfInBounds_toArray, List.set_cons_succ, List.set_cons_zero]
    refine held_call 1 rfl (by kernel_rfl) rfl (exec_cl Try.call20 rfl (evc (ev rfl) evn)) ?_
    refine (C.members_ _ HS1.out.2).mono ?_
    rintro e w2 ⟨rfl, b2⟩
    have HS2 : Hid (RNu w2 B q g v s LL ∧ C.P w2 B p s) := Lib.hid ⟨HS1.out.1.below b2, LnI.below HS1.out.2 b2⟩
    have HW2 := Lib.hid (HW1.out.trans (b2.mono HW1.out.size))
    clear b2
    refine ⟨_, rfl, HS2.out, ?_⟩
    simp only [Act.put, List.setIfInBounds_toArray, List.set_cons_succ, List.set_cons_zero]
    refine held_val 7 rfl (by kernel_rfl) (by kernel_rfl) (by kernel_rfl) rfl (fun w' hw => exec_eqInt true rfl (ev rfl) (ev rfl) (beq_self_eq_true _)) (fun _ _ _ h => h) HS2.out ?_
    simp only [Act.put, List.setIfInBounds_toArray, List.set_cons_succ, List.set_cons_zero]
    refine held_val 8 rfl (by kernel_rfl) (by kernel_rfl) (by kernel_rfl) rfl (fun w' hw => exec_mv rfl (ev rfl)) (fun _ _ _ h => h) HS2.out ?_
    simp only [Act.put, List.setIfInBounds_toArray, List.set_cons_succ, List.set_cons_zero]
    refine held_val 9 rfl (by kernel_rfl) (by kernel_rfl) (by kernel_rfl) (wanted_of rfl rfl rfl rfl) (fun w' hw => exec_mv rfl (ev rfl)) (fun _ _ _ h => h) HS2.out ?_
    simp only [Act.put, List.setIfInBounds_toArray, List.set_cons_succ, List.set_cons_zero]
    refine held_val 11 rfl (by kernel_rfl) (by kernel_rfl) (by kernel_rfl) (wanted_of rfl rfl rfl rfl) (fun w' hw => exec_mv rfl (ev rfl)) (fun _ _ _ h => h) HS2.out ?_
    simp only [Act.put, List.setIfInBounds_toArray, List.set_cons_succ, List.set_cons_zero]
    refine held_call 10 rfl (by kernel_rfl) (wanted_of rfl rfl rfl rfl) (exec_cl Try.call18 rfl (evc (ev rfl) evn)) ?_
    refine (C.first_ _ HS2.out.2).mono ?_
    rintro e w3 ⟨rfl, b3⟩
    have HS3 : Hid (RNu w3 B q g v s LL ∧ C.P w3 B p s) := Lib.hid ⟨HS2.out.1.below b3, LnI.below HS2.out.2 b3⟩
    have HW3 := Lib.hid (HW2.out.trans (b3.mono HW2.out.size))
    clear b3
    refine ⟨_, rfl, HS3.out, ?_⟩
    simp only [Act.put, List.setIfInBounds_toArray, List.set_cons_succ, List.set_cons_zero]
    refine held_call 12 rfl (by kernel_rfl) (wanted_of rfl rfl rfl rfl) (exec_cl Try.call26 rfl (evc (ev rfl) evn)) ?_
    refine (r_first _ (n := n) ⟨g, v, LL, HS3.out.1, HLL.out⟩ HNN.out).mono ?_
    rintro e w4 ⟨rfl, rfl⟩
    refine ⟨_, rfl, HS3.out, ?_⟩
    simp only [Act.put, List.setIfInBounds_toArray, List.set_cons_succ, List.set_cons_zero]
    refine held_val 13 rfl (by kernel_rfl) (by kernel_rfl) (by kernel_rfl) (wanted_of rfl rfl rfl rfl) (fun w' hw => exec_eqInt true rfl (ev rfl) (ev rfl) (beq_self_eq_true _)) (fun _ _ _ h => h) HS3.out ?_
    simp only [Act.put, List.setIfInBounds_toArray, List.set_cons_succ, List.set_cons_zero]
    refine held_val 14 rfl (by kernel_rfl) (by kernel_rfl) (by kernel_rfl) rfl (fun w' hw => exec_pt rfl (ev rfl) (ev rfl)) (fun _ _ _ h => h) HS3.out ?_
    simp only [Act.put, List.setIfInBounds_toArray, List.set_cons_succ, List.set_cons_zero]
    refine held_val 15 rfl (by kernel_rfl) (by kernel_rfl) (by kernel_rfl) rfl (fun w' hw => exec_mv rfl (ev rfl)) (fun _ _ _ h => h) HS3.out ?_
    simp only [Act.put, List.setIfInBounds_toArray, List.set_cons_succ, List.set_cons_zero]
    refine held_val 16 rfl (by kernel_rfl) (by kernel_rfl) (by kernel_rfl) (wanted_of rfl rfl rfl rfl) (fun w' hw => exec_mv rfl (ev rfl)) (fun _ _ _ h => h) HS3.out ?_
    simp only [Act.put, List.setIfInBounds_toArray, List.set_cons_succ, List.set_cons_zero]
    refine held_val 18 rfl (by kernel_rfl) (by kernel_rfl) (by kernel_rfl) (wanted_of rfl rfl rfl rfl) (fun w' hw => exec_mv rfl (ev rfl)) (fun _ _ _ h => h) HS3.out ?_
    simp only [Act.put, List.setIfInBounds_toArray, List.set_cons_succ, List.set_cons_zero]
    refine held_call 17 rfl (by kernel_rfl) (wanted_of rfl rfl rfl rfl) (exec_cl Try.call16 rfl (evc (ev rfl) evn)) ?_
    refine (C.dirty_ _ HS3.out.2).mono ?_
    rintro e w4 ⟨v1, rfl, m1, b4⟩
    obtain ⟨A1, c1, rfl, e1, e2⟩ := m1.form
    have HM := Lib.hid m1.rd
    clear m1 e1 e2
    have HS4 : Hid (RNu w4 B q g v s LL ∧ C.P w4 B p s) := Lib.hid ⟨HS3.out.1.below b4, LnI.below HS3.out.2 b4⟩
    have HW4 := Lib.hid (HW3.out.trans (b4.mono HW3.out.size))
    clear b4
    refine ⟨_, rfl, HS4.out, ?_⟩
    simp only [Act.put, List.setIfInBounds_toArray, List.set_cons_succ, List.set_cons_zero]
    refine held_call 19 rfl (by kernel_rfl) (wanted_of rfl rfl rfl rfl) (exec_cl Try.call27 rfl (evc (ev rfl) evn)) ?_
    refine (r_dirty _ (n := n) ⟨g, v, LL, HS4.out.1, HLL.out⟩).mono ?_
    rintro e w5 ⟨v2, rfl, m2, b5⟩
    obtain ⟨A2, c2, rfl, e1, e2⟩ := m2.form
    have HM2 := Lib.hid m2.rd
    have HM1' := Lib.hid ((HM.out.below b5).more b5.size)
    clear m2 e1 e2
    have HS5 : Hid (RNu w5 B q g v s LL ∧ C.P w5 B p s) := Lib.hid ⟨HS4.out.1.below b5, LnI.below HS4.out.2 b5⟩
    have HW5 := Lib.hid (HW4.out.trans (b5.mono HW4.out.size))
    clear b5
    refine ⟨_, rfl, HS5.out, ?_⟩
    simp only [Act.put, List.setIfInBounds_toArray, List.set_cons_succ, List.set_cons_zero]
    refine held_call 20 rfl (by kernel_rfl) (wanted_of rfl rfl rfl rfl) (exec_cl Try.call19 rfl (evc (ev rfl) (evc (ev rfl) evn))) ?_
    refine (ints_any _ _ _ _ _ _ _ _ _ _ HM1'.out HM2.out (Nat.le_refl _) (by have := drt_len s.l s.l.length; have := HM1.out; unfold lnD; omega)).mono ?_
    rintro e w6 ⟨rfl, b6⟩
    rw [show sameI (lnD s) (lnD s) = true from beq_self_eq_true _]
    have HS6 : Hid (RNu w6 B q g v s LL ∧ C.P w6 B p s) := Lib.hid ⟨HS5.out.1.below b6, LnI.below HS5.out.2 b6⟩
    have HW6 := Lib.hid (HW5.out.trans (b6.mono HW5.out.size))
    clear b6
    refine ⟨_, rfl, HS6.out, ?_⟩
    simp only [Act.put, List.setIfInBounds_toArray, List.set_cons_succ, List.set_cons_zero]
    refine held_val 21 rfl (by kernel_rfl) (by kernel_rfl) (by kernel_rfl) rfl (fun w' hw => exec_pt rfl (ev rfl) (ev rfl)) (fun _ _ _ h => h) HS6.out ?_
    simp only [Act.put, List.setIfInBounds_toArray, List.set_cons_succ, List.set_cons_zero]
    refine held_val 22 rfl (by kernel_rfl) (by kernel_rfl) (by kernel_rfl) rfl (fun w' hw => exec_as rfl (ev rfl)) (fun _ _ _ h => h) HS6.out ?_
    simp only [Act.put, List.setIfInBounds_toArray, List.set_cons_succ, List.set_cons_zero]
    refine wpAnyH_done (by kernel_rfl) ?_ _
    go_wp2_with fail
    go_ret
    exact ⟨rfl, HW6.out⟩
end
end Go.Proofs.Ytmhcpiafhbnclaa
