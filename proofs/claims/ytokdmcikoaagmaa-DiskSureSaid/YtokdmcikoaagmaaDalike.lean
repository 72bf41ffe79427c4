/-
  alike: a device has what the document's one has.
-/
import Derived.Test.YtokdmcikoaagmaaDbothR
namespace Go.Proofs.Ytokdmcikoaagmaa
open Go.RowKit
set_option linter.unusedVariables false

theorem both_any (D : Dev) (w : World) (B pd pr : Nat) (S : List Blk) (L : List (Int × Blk)) (g : Bool) (a : ActT) (h : Twin D w B pd pr S L g) (hB : B ≤ w.heap.size) (hL : L.length < 1000000) (hP : ∃ P, RdE IntE w B a.A a.n P ∧ a.n ≤ a.c ∧ a.c ≤ maxLen) :
    Calls Try.prog 11 #[.pointer (some ⟨pd, 0, none⟩), .pointer (some ⟨pr, 0, none⟩), actV a] w (Owes D w B pd pr L) := by
  by_cases h0 : a.Do = 0
  · exact both_write D w B pd pr S L g a h hB hL h0
  by_cases h1 : a.Do = 1
  · exact both_read D w B pd pr S L g a h hB h1
  by_cases h2 : a.Do = 2
  · exact both_flush D w B pd pr S L g a h hB h2
  by_cases h3 : a.Do = 3
  · exact both_sure D w B pd pr S L g a h hB h3
  by_cases h4 : a.Do = 4
  · exact both_rot D w B pd pr S L g a h hB h4
  by_cases h5 : a.Do = 5
  · exact both_crash D w B pd pr S L g a h hB hP h5
  exact both_fail D w B pd pr S L g a h hB ⟨h0, h1, h2, h3, h4, h5⟩
theorem exec_len {ρ : Operand → Value} {o : Oper} {x : Operand} {w : World} {t : TypeId} {A : Option Addr} {n c : Nat} {e : TypeId} (hu : Try.prog.underlying t = some (.slice e)) (ho : o.op = .call { callee := .builtin .len, args := #[x], argTypes := #[t] }) (hx : ρ x = .slice A n c) : (execOp ρ o).run Try.prog w = .ok (.value (.int .i64 (n : Int))) w := by
  simp [execOp, ho, resolve, invoke, builtin, hx, Builtin.len_, run_underlying hu]
  rfl
theorem exec_neb {ρ : Operand → Value} {o : Oper} {x y : Operand} {w : World} {r : TypeId} {b : Bool} (ho : o.op = .binOp .neq 4 x y r) (hx : ρ x = .bool b) (hy : ρ y = .bool b) : (execOp ρ o).run Try.prog w = .ok (.value (.bool false)) w := by
  have he := run_equalIn_bool' (P := Try.prog) w 9999 4 b b Try.underlying4
  unfold execOp
  simp [ho, hx, hy, eqGuard, binOp, Op.equal, Op.maxDepth, he]
theorem ldT {w : World} {a : Addr} {b : Bool} (h : w.cell? a = some (.bool b)) : (Instr.loadAt 4 (.pointer (some a))).run Try.prog w = .ok (.bool b) w := by simp [go_sem, h]
set_option maxRecDepth 100000 in
set_option maxHeartbeats 4000000 in
theorem alike_yes (D : Dev) (w : World) (B pd pr : Nat) (S : List Blk) (L : List (Int × Blk)) (g : Bool) (h : Twin D w B pd pr S L g) :
    Calls Try.prog 12 #[.pointer (some ⟨pd, 0, none⟩), .pointer (some ⟨pr, 0, none⟩)] w fun e w' => e = .returned (.bool true) ∧ Below w.heap.size w w' := by
  obtain ⟨Fd, Fr, hd, ⟨vS, vL, hfe, hr, hft⟩, hdis, hfd, hfr⟩ := h
  obtain ⟨AS, cS, rfl, hS1, hS2⟩ := hr.S_.form
  unfold maxLen at hS2
  obtain ⟨AL, cL, rfl, _, _⟩ := hr.L_.form
  have CC := fun (w' : World) (hw : Below w.heap.size w w') => cells3 (blk_keep hr.at_ hw)
  go_enter Try.func12, Try.ntmps12
  go_wp2_with fail
  refine wp_region_above (B := w.heap.size) (by kernel_rfl) ?_
  refine qv_val rfl (fun w' hw => exec_mv rfl (ev rfl)) ?_
  simp only [Act.put, List.setIfInBounds_toArray, List.set_cons_succ, List.set_cons_zero]
  refine qv_call rfl (fun _ => exec_cl Try.call25 rfl (evc (ev rfl) evn)) (above_of (Nat.le_refl _) fun w' hw => D.sectors (D.below hd hw)) ?_
  simp only [Act.put, List.setIfInBounds_toArray, List.set_cons_succ, List.set_cons_zero]
  refine qv_val rfl (fun w' hw => exec_mv rfl (ev rfl)) ?_
  simp only [Act.put, List.setIfInBounds_toArray, List.set_cons_succ, List.set_cons_zero]
  refine qv_val rfl (fun w' hw => exec_nil rfl (ev rfl)) ?_
  simp only [Act.put, List.setIfInBounds_toArray, List.set_cons_succ, List.set_cons_zero]
  refine qv_val rfl (fun w' hw => exec_faddr rfl (ev rfl) faD0) ?_
  simp only [Act.put, List.setIfInBounds_toArray, List.set_cons_succ, List.set_cons_zero]
  refine qv_val rfl (fun w' hw => exec_ld rfl (ev rfl) (ldB (CC w' hw).1)) ?_
  simp only [Act.put, List.setIfInBounds_toArray, List.set_cons_succ, List.set_cons_zero]
  refine qv_val rfl (fun w' hw => exec_len Try.underlying58 rfl (ev rfl)) ?_
  simp only [Act.put, List.setIfInBounds_toArray, List.set_cons_succ, List.set_cons_zero]
  refine qv_val rfl (fun w' hw => exec_neInt false rfl (ev rfl) (ev rfl) (bne_self_eq_false _)) ?_
  simp only [Act.put, List.setIfInBounds_toArray, List.set_cons_succ, List.set_cons_zero]
  refine qv_val rfl (fun w' hw => exec_mv rfl (ev rfl)) ?_
  simp only [Act.put, List.setIfInBounds_toArray, List.set_cons_succ, List.set_cons_zero]
  refine qv_val (wanted_of rfl rfl rfl rfl) (fun w' hw => exec_mv rfl (ev rfl)) ?_
  simp only [Act.put, List.setIfInBounds_toArray, List.set_cons_succ, List.set_cons_zero]
  refine qv_call (wanted_of rfl rfl rfl rfl) (fun _ => exec_cl Try.call19 rfl (evc (ev rfl) evn)) (above_of (Nat.le_refl _) fun w' hw => D.loose (D.below hd hw)) ?_
  simp only [Act.put, List.setIfInBounds_toArray, List.set_cons_succ, List.set_cons_zero]
  refine qv_val (wanted_of rfl rfl rfl rfl) (fun w' hw => exec_mv rfl (ev rfl)) ?_
  simp only [Act.put, List.setIfInBounds_toArray, List.set_cons_succ, List.set_cons_zero]
  refine qv_val (wanted_of rfl rfl rfl rfl) (fun w' hw => exec_nil rfl (ev rfl)) ?_
  simp only [Act.put, List.setIfInBounds_toArray, List.set_cons_succ, List.set_cons_zero]
  refine qv_val (wanted_of rfl rfl rfl rfl) (fun w' hw => exec_faddr rfl (ev rfl) faD1) ?_
  simp only [Act.put, List.setIfInBounds_toArray, List.set_cons_succ, List.set_cons_zero]
  refine qv_val (wanted_of rfl rfl rfl rfl) (fun w' hw => exec_ld rfl (ev rfl) (ldS (CC w' hw).2.1)) ?_
  simp only [Act.put, List.setIfInBounds_toArray, List.set_cons_succ, List.set_cons_zero]
  refine qv_val (wanted_of rfl rfl rfl rfl) (fun w' hw => exec_len Try.underlying63 rfl (ev rfl)) ?_
  simp only [Act.put, List.setIfInBounds_toArray, List.set_cons_succ, List.set_cons_zero]
  refine qv_val (wanted_of rfl rfl rfl rfl) (fun w' hw => exec_neInt false rfl (ev rfl) (ev rfl) (bne_self_eq_false _)) ?_
  simp only [Act.put, List.setIfInBounds_toArray, List.set_cons_succ, List.set_cons_zero]
  refine qv_val rfl (fun w' hw => exec_pf rfl (ev rfl) (ev rfl)) ?_
  simp only [Act.put, List.setIfInBounds_toArray, List.set_cons_succ, List.set_cons_zero]
  refine qv_val rfl (fun w' hw => exec_mv rfl (ev rfl)) ?_
  simp only [Act.put, List.setIfInBounds_toArray, List.set_cons_succ, List.set_cons_zero]
  refine qv_val (wanted_of rfl rfl rfl rfl) (fun w' hw => exec_mv rfl (ev rfl)) ?_
  simp only [Act.put, List.setIfInBounds_toArray, List.set_cons_succ, List.set_cons_zero]
  refine qv_call (wanted_of rfl rfl rfl rfl) (fun _ => exec_cl Try.call24 rfl (evc (ev rfl) evn)) (above_of (Nat.le_refl _) fun w' hw => D.dead (D.below hd hw)) ?_
  simp only [Act.put, List.setIfInBounds_toArray, List.set_cons_succ, List.set_cons_zero]
  refine qv_val (wanted_of rfl rfl rfl rfl) (fun w' hw => exec_mv rfl (ev rfl)) ?_
  simp only [Act.put, List.setIfInBounds_toArray, List.set_cons_succ, List.set_cons_zero]
  refine qv_val (wanted_of rfl rfl rfl rfl) (fun w' hw => exec_nil rfl (ev rfl)) ?_
  simp only [Act.put, List.setIfInBounds_toArray, List.set_cons_succ, List.set_cons_zero]
  refine qv_val (wanted_of rfl rfl rfl rfl) (fun w' hw => exec_faddr rfl (ev rfl) faD2) ?_
  simp only [Act.put, List.setIfInBounds_toArray, List.set_cons_succ, List.set_cons_zero]
  refine qv_val (wanted_of rfl rfl rfl rfl) (fun w' hw => exec_ld rfl (ev rfl) (ldT (CC w' hw).2.2)) ?_
  simp only [Act.put, List.setIfInBounds_toArray, List.set_cons_succ, List.set_cons_zero]
  refine qv_val (wanted_of rfl rfl rfl rfl) (fun w' hw => exec_neb rfl (ev rfl) (ev rfl)) ?_
  simp only [Act.put, List.setIfInBounds_toArray, List.set_cons_succ, List.set_cons_zero]
  refine qv_val rfl (fun w' hw => exec_pf rfl (ev rfl) (ev rfl)) ?_
  simp only [Act.put, List.setIfInBounds_toArray, List.set_cons_succ, List.set_cons_zero]
  refine wpQuiet_nil ?_
  intro w1 hw1
  go_wp2_with fail
  have HT1 := Lib.hid (show Twin D w1 B pd pr S L g from Twin.below ⟨Fd, Fr, hd, ⟨_, _, hfe, hr, hft⟩, hdis, hfd, hfr⟩ hw1)
  have HA1 := Lib.hid (blk_keep hr.at_ hw1)
  have hp1 : pr < w1.heap.size := blk_lt (blk_keep hr.at_ hw1)
  have HW1 := Lib.hid hw1
  clear CC hd hr hft hdis hfd hfr hfe hw1
  go_loopw [5, 6, 7, 8, 9, 10, 11, 12, 13] (fun i p6 p7 p8 p9 p10 p11 p12 p13 wr => ∃ j : Nat, j ≤ S.length ∧ i = .int .i64 j ∧ Below w1.heap.size w1 wr) (fun i _ _ _ _ _ _ _ _ _ => S.length - (intOf i).toNat)
  case atStart => exact ⟨0, Nat.zero_le _, rfl, Below.refl _ _⟩
  case round =>
    obtain ⟨j, hj, rfl, hbl⟩ := hrel
    have HTr := Lib.hid (HT1.out.below hbl)
    obtain ⟨c0, c1, c2⟩ := cells3 ((hbl.block pr hp1).trans HA1.out)
    by_cases hlt : j < S.length
    · have hjl : (j : Int) < (S.length : Int) := by omega
      have HBL := Lib.hid hbl
      obtain ⟨Fd, Fr, hd, hr, _⟩ := HTr.out
      clear hbl
      go_wp2_with fail
      refine (D.read (j : Int) hd).mono ?_
      rintro e w2 ⟨rfl, hb2⟩
      generalize hxx : readB S L g (j : Int) = xx at *
      generalize hee : askE S g (j : Int) = ee at *
      have HXX := Lib.hid hxx
      have HEE := Lib.hid hee
      clear hxx hee hd hr
      have K3 := new1 w2 (cel xx).toArray 33
      have HT3 := Lib.hid ((HTr.out.below hb2).below ((Below.refl _ _).alloc (Nat.le_refl _) (.cells (cel xx).toArray 33)))
      have HB3 := Lib.hid ((HBL.out.trans (hb2.mono HBL.out.size)).alloc (Nat.le_trans HBL.out.size hb2.size) (.cells (cel xx).toArray 33))
      clear hb2 c0 c1 c2 HTr HBL
      go_wp2_with (first | (refine wpList_val rfl (exec_alloc rfl) ?_) | (refine wpList_nul rfl (exec_fill rfl rfl rfl) ?_) | fail)
      generalize hy3 : w2.heap.size = y3 at *
      generalize w2.alloc (.cells (cel xx).toArray 33) = w3 at *
      clear hy3
      obtain ⟨Fd, Fr, hd, hr, _⟩ := HT3.out
      refine (rv_read (j : Int) hr).mono ?_
      rintro e w4 ⟨rfl, hb4⟩
      rw [HXX.out, HEE.out]
      have K5 := blk_past (blk_keep K3 hb4) (.cells (cel xx).toArray 33)
      have M5 := new1 w4 (cel xx).toArray 33
      have HT5 := Lib.hid ((HT3.out.below hb4).below ((Below.refl _ _).alloc (Nat.le_refl _) (.cells (cel xx).toArray 33)))
      have HB5 := Lib.hid ((HB3.out.trans (hb4.mono HB3.out.size)).alloc (Nat.le_trans HB3.out.size hb4.size) (.cells (cel xx).toArray 33))
      clear hb4 hd hr K3 HT3 HB3
      go_wp2_with (first | (refine wpList_val rfl (exec_alloc rfl) ?_) | (refine wpList_nul rfl (exec_fill rfl rfl rfl) ?_) | fail)
      generalize hy5 : w4.heap.size = y5 at *
      generalize w4.alloc (.cells (cel xx).toArray 33) = w5 at *
      clear hy5
      obtain ⟨Fd, Fr, hd, hr, _⟩ := HT5.out
      refine (D.sure (j : Int) hd).mono ?_
      rintro e w6 ⟨rfl, hb6⟩
      rw [HEE.out]
      generalize hzz : sureB S g (j : Int) = zz at *
      have HZZ := Lib.hid hzz
      clear hzz
      have K7 := blk_past (blk_keep K5 hb6) (.cells (cel zz).toArray 33)
      have M7 := blk_past (blk_keep M5 hb6) (.cells (cel zz).toArray 33)
      have N7 := new1 w6 (cel zz).toArray 33
      have HT7 := Lib.hid ((HT5.out.below hb6).below ((Below.refl _ _).alloc (Nat.le_refl _) (.cells (cel zz).toArray 33)))
      have HB7 := Lib.hid ((HB5.out.trans (hb6.mono HB5.out.size)).alloc (Nat.le_trans HB5.out.size hb6.size) (.cells (cel zz).toArray 33))
      clear hb6 hd hr K5 M5 HT5 HB5
      go_wp2_with (first | (refine wpList_val rfl (exec_alloc rfl) ?_) | (refine wpList_nul rfl (exec_fill rfl rfl rfl) ?_) | fail)
      generalize hy7 : w6.heap.size = y7 at *
      generalize w6.alloc (.cells (cel zz).toArray 33) = w7 at *
      clear hy7
      obtain ⟨Fd, Fr, hd, hr, _⟩ := HT7.out
      refine (rv_sure (j : Int) hr).mono ?_
      rintro e w8 ⟨rfl, hb8⟩
      rw [HZZ.out, HEE.out]
      have K9 := Lib.hid (blk_range (blk_past (blk_keep K7 hb8) (.cells (cel zz).toArray 33)))
      have M9 := Lib.hid (blk_range (blk_past (blk_keep M7 hb8) (.cells (cel zz).toArray 33)))
      have N9 := Lib.hid (blk_range (blk_past (blk_keep N7 hb8) (.cells (cel zz).toArray 33)))
      have O9 := Lib.hid (blk_range (new1 w8 (cel zz).toArray 33))
      have HB9 := Lib.hid ((HB7.out.trans (hb8.mono HB7.out.size)).alloc (Nat.le_trans HB7.out.size hb8.size) (.cells (cel zz).toArray 33))
      clear hb8 hd hr K7 M7 N7 HT7 HB7
      go_wp2_with (first | (refine wpList_val rfl (exec_alloc rfl) ?_) | (refine wpList_nul rfl (exec_fill rfl rfl rfl) ?_) | (refine wpList_val rfl (exec_load rfl rfl K9.out) ?_) | (refine wpList_val rfl (exec_load rfl rfl M9.out) ?_) | (refine wpList_val rfl (exec_load rfl rfl N9.out) ?_) | (refine wpList_val rfl (exec_load rfl rfl O9.out) ?_) | (refine wpList_val rfl (exec_neq rfl rfl rfl) ?_))
      go_roundw
      case rel => exact ⟨j + 1, by omega, by go_num, HB9.out⟩
      case measure => simp [intOf]; omega
    · have hjl : ¬((j : Int) < (S.length : Int)) := by omega
      have HBL := Lib.hid (HW1.out.trans (hbl.mono HW1.out.size))
      clear hbl
      go_wp2_with fail
      go_ret
      exact ⟨rfl, HBL.out⟩
end Go.Proofs.Ytokdmcikoaagmaa
