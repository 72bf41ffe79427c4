/-
  The walk of NoteFollows.
-/
import Derived.Test.YtiandcigoflcmaaDoorNul
namespace Go.Proofs.YtiandcigoflcmaaDoor
open Go.RowKit
set_option linter.unusedVariables false
set_option linter.unusedSimpArgs false
set_option maxRecDepth 100000

section
variable {ρ : Operand → Value} {o : Oper} {x y : Operand} {w : World} {n : Nat} {ad : Addr} {v : Value}
theorem exec_cv8In (ho : o.op = .convert 5 3 x) (hx : ρ x = .int .u8 (n : Int)) (hn : n ≤ 255) : (execOp ρ o).run Tryd.prog w = .ok (.value (.int .i64 (n : Int))) w := by
  have h : IntKind.i64.wrap (n : Int) = (n : Int) := IntWalk.i64_in _ ⟨by omega, by omega⟩
  have hc : (convert 5 3 (.int .u8 (n : Int))).run Tryd.prog w = .ok (.int .i64 (n : Int)) w := by simp [convert, go_sem, h]
  unfold execOp
  simp only [ho, hx, Sem.run_bind, hc, Result.andThen_ok, Sem.run_pure]
theorem exec_cv8Un (ho : o.op = .convert 5 22 x) (hx : ρ x = .int .u8 (n : Int)) (hn : n ≤ 255) : (execOp ρ o).run Tryd.prog w = .ok (.value (.int .u64 (n : Int))) w := by
  have h : IntKind.u64.wrap (n : Int) = (n : Int) := IntWalk.u64_in _ ⟨by omega, by omega⟩
  have hc : (convert 5 22 (.int .u8 (n : Int))).run Tryd.prog w = .ok (.int .u64 (n : Int)) w := by simp [convert, go_sem, h]
  unfold execOp
  simp only [ho, hx, Sem.run_bind, hc, Result.andThen_ok, Sem.run_pure]
theorem stU64n (h : w.cell? ad = some v) (hf : w.frozen? ad = false) : (Instr.storeAt 22 (.pointer (some ad)) (.int .u64 (n : Int))).run Tryd.prog w = .ok () (w.setCell ad (.int .u64 (n : Int))) := by simp [go_sem, h, hf]
end
section
variable {w : World} {b q p s : Nat} {c : Int}
theorem NteAt.free {x : Nte} (h : NteAt w b x) (j : Nat) : w.frozen? ⟨b, j, none⟩ = false := frozen_of_row w b j _ _ h
theorem NteAt.set0 (h : NteAt w b ⟨q, p, c, s⟩) (v : Nat) : NteAt (w.setCell ⟨b, 0, none⟩ (.int .u64 (v : Nat))) b ⟨v, p, c, s⟩ := by
  have := heap_setCell_same w b 0 _ 25 (.int .u64 (v : Nat)) h
  rw [List.setIfInBounds_toArray] at this
  exact this
theorem NteAt.set1 (h : NteAt w b ⟨q, p, c, s⟩) (v : Nat) : NteAt (w.setCell ⟨b, 1, none⟩ (.int .u64 (v : Nat))) b ⟨q, v, c, s⟩ := by
  have := heap_setCell_same w b 1 _ 25 (.int .u64 (v : Nat)) h
  rw [List.setIfInBounds_toArray] at this
  exact this
theorem NteAt.other {d j : Nat} {x : Nte} {v : Value} (h : NteAt w b x) (hne : b ≠ d) : NteAt (w.setCell ⟨d, j, none⟩ v) b x := grown_blk h (grown_set w d j v) hne
theorem below_setCell1 {B : Nat} {w0 : World} {d j : Nat} {v : Value} (h : Below B w0 w) (hB : B ≤ w0.heap.size) (hd : B ≤ d) : Below B w0 (w.setCell ⟨d, j, none⟩ v) :=
  h.grown (grown_set w d j v) (Nat.le_trans hB h.size) (fun k hk => by injection hk with e; omega)
end
/-! ### Which one follows, of the law's own notes -/
section
variable {q p K u k s a r Z : Nat}
theorem lawX_may (h1 : 1 ≤ q) (h2 : q < 4611686018427387904) (h3 : p ≤ 2305843009213693952) (h4 : 1 ≤ K) (h5 : K ≤ 32) : nteB ⟨q, p, (K : Int), u⟩ = true := by
  unfold nteB; exact decide_eq_true ⟨h1, by simp only; omega, by simp only; omega, by simp only; omega, by simp only; omega⟩
theorem lawZ_le (h5 : K ≤ 32) (hZ : hd K + K = Z) : Z ≤ 34 := by unfold hd at hZ; omega
theorem lawM_may (h2 : q < 4611686018427387904) (h3 : p ≤ 2305843009213693952) (hZ : Z ≤ 34) (ha : a ≤ 255) (h4 : 1 ≤ k) (h5 : k ≤ 32) : nteB ⟨q + 1, p + Z + a, (k : Int), s⟩ = true := by
  unfold nteB; exact decide_eq_true ⟨by simp only; omega, by simp only; omega, by simp only; omega, by simp only; omega, by simp only; omega⟩
theorem law_tak : takNt ⟨q, p, (K : Int), u⟩ = hd K + K := rfl
theorem law_f5 (hx : nteB ⟨q, p, (K : Int), u⟩ = true) (hm : nteB ⟨q + 1, p + Z + a, (k : Int), s⟩ = true) (hZ : hd K + K = Z) : folB ⟨q, p, (K : Int), u⟩ ⟨q + 1, p + Z + a, (k : Int), s⟩ = decide (a = 0) := by
  rw [fol_of hx hm, law_tak, hZ, decide_eq_decide]
  simp only [true_and]
  omega
theorem law_f3 (hx : nteB ⟨q, p, (K : Int), u⟩ = true) : folB ⟨q, p, (K : Int), u⟩ ⟨q, p, (K : Int), u⟩ = false := by
  rw [fol_of hx hx]
  exact decide_eq_false (fun h => by have : q = q + 1 := h.1; omega)
theorem law_f4 (hx : nteB ⟨q, p, (K : Int), u⟩ = true) (hm : nteB ⟨q + 1, p + Z, (k : Int), s⟩ = true) : folB ⟨q + 1, p + Z, (k : Int), s⟩ ⟨q, p, (K : Int), u⟩ = false := by
  rw [fol_of hm hx]
  exact decide_eq_false (fun h => by have : q = q + 1 + 1 := h.1; omega)
theorem law_f6 (hx : nteB ⟨q, p, (K : Int), u⟩ = true) (hm : nteB ⟨q + 1, p + Z, (k : Int), s⟩ = true) (hZ : hd K + K = Z) : folB ⟨q, p, (K : Int), u⟩ ⟨q + 1 + r, p + Z, (k : Int), s⟩ = decide (r = 0) := by
  by_cases h : r = 0
  · subst h
    rw [show q + 1 + 0 = q + 1 from rfl]
    have := law_f5 (a := 0) hx hm hZ
    exact this
  · rw [decide_eq_false h]
    by_cases hy : nteB ⟨q + 1 + r, p + Z, (k : Int), s⟩ = true
    · rw [fol_of hx hy]
      exact decide_eq_false (fun e => by have : q + 1 + r = q + 1 := e.1; omega)
    · exact fol_no2 (by simpa using hy)
end
set_option maxHeartbeats 2000000 in
theorem noteFollows_no (x : Nte) (c s a r : Nat) (w : World) (T : TabNt w) (h : nteB x = false ∨ 4611686018427387904 ≤ x.seq ∨ 2305843009213693952 < x.pos) : Calls Tryd.prog 6 #[nte x, .int .u8 (c : Nat), .int .u32 (s : Nat), .int .u8 (a : Nat), .int .u8 (r : Nat)] w fun e w' => e = .returned (.bool true) ∧ Below w.heap.size w w' := by
  obtain ⟨h1, h2, h3⟩ := boxNt_new w x
  have HX1 := Lib.hid h1
  have HB1 := Lib.hid h2
  have HT := Lib.hid T
  clear h1 h2 h3 T
  go_enter Tryd.func6, Tryd.ntmps6
  go_upto_region 1 with (first | (refine wpList_valn rfl (exec_boxNt rfl rfl) ?_) | fail)
  generalize w.alloc (.cells (celNt x).toArray 25) = w1 at *
  by_cases hm : nteB x = true
  · have HM := Lib.hid hm
    by_cases hq : 4611686018427387904 ≤ x.seq
    · have HQ : Hid (decide ((4611686018427387904 : Int) ≤ (x.seq : Int)) = true) := Lib.hid (decide_eq_true (by omega))
      clear h hm hq
      refine wp_region_lit ?_
      refine wpList_valn rfl (exec_loadNt (c := x) rfl (ev rfl) HX1.out.range) ?_
      simp only [Act.put, List.setIfInBounds_toArray, List.set_cons_succ, List.set_cons_zero]
      refine wpList_call rfl (exec_cl Tryd.call9 rfl (evc (ev rfl) evn)) ?_
      refine (pntmay_b x w1 HM.out).mono ?_
      rintro e w2 ⟨rfl, hb⟩
      have HX2 := Lib.hid (HX1.out.below (blk_lt HX1.out) hb)
      have HB2 := Lib.hid (HB1.out.trans (hb.mono HB1.out.size))
      clear hb
      refine ⟨_, rfl, ?_⟩
      simp only [Act.put, List.setIfInBounds_toArray, List.set_cons_succ, List.set_cons_zero]
      refine wpList_valn (v := .bool false) rfl (exec_not true rfl (ev rfl)) ?_
      simp only [Act.put, List.setIfInBounds_toArray, List.set_cons_succ, List.set_cons_zero]
      refine wpList_valn (v := .bool false) rfl (exec_mv rfl (ev rfl)) ?_
      simp only [Act.put, List.setIfInBounds_toArray, List.set_cons_succ, List.set_cons_zero]
      refine wpList_val (wanted_of rfl rfl rfl rfl) (exec_faddr rfl (ev rfl) faNt0) ?_
      simp only [Act.put, List.setIfInBounds_toArray, List.set_cons_succ, List.set_cons_zero]
      refine wpList_val (wanted_of rfl rfl rfl rfl) (exec_ld rfl (ev rfl) (ldU64 HX2.out.cells.1)) ?_
      simp only [Act.put, List.setIfInBounds_toArray, List.set_cons_succ, List.set_cons_zero]
      refine wpList_val (v := .bool true) (wanted_of rfl rfl rfl rfl) (exec_geq true rfl (ev rfl) evk HQ.out) ?_
      simp only [Act.put, List.setIfInBounds_toArray, List.set_cons_succ, List.set_cons_zero]
      refine wpList_valn (v := .bool true) rfl (exec_pf rfl (ev rfl) (ev rfl)) ?_
      simp only [Act.put, List.setIfInBounds_toArray, List.set_cons_succ, List.set_cons_zero]
      refine wpList_skips 3 (v := .bool true) rfl (exec_mv rfl (ev rfl)) (by kernel_rfl) ?_
      simp only [skipAct, List.take_succ_cons, List.take_zero, List.drop_succ_cons, List.drop_zero, Act.put, List.setIfInBounds_toArray, List.set_cons_succ, List.set_cons_zero]
      refine wpList_valn (v := .bool true) rfl (exec_pt rfl (ev rfl) evk) ?_
      simp only [Act.put, List.setIfInBounds_toArray, List.set_cons_succ, List.set_cons_zero]
      refine wpList_nil ?_
      go_wp2_with fail
      refine (note_lives w2 (HT.out.below HB2.out)).mono ?_
      rintro e w3 ⟨rfl, hb⟩
      have HB3 := Lib.hid (HB2.out.trans (hb.mono HB2.out.size))
      clear hb
      go_wp2_with fail
      go_ret
      exact ⟨rfl, HB3.out⟩
    · have HQ : Hid (decide ((4611686018427387904 : Int) ≤ (x.seq : Int)) = false) := Lib.hid (decide_eq_false (by omega))
      have hp : 2305843009213693952 < x.pos := by
        rcases h with h | h | h
        · rw [h] at hm; cases hm
        · exact absurd h hq
        · exact h
      have HP : Hid (decide ((2305843009213693952 : Int) < (x.pos : Int)) = true) := Lib.hid (decide_eq_true (by omega))
      clear h hm hq hp
      refine wp_region_lit ?_
      refine wpList_valn rfl (exec_loadNt (c := x) rfl (ev rfl) HX1.out.range) ?_
      simp only [Act.put, List.setIfInBounds_toArray, List.set_cons_succ, List.set_cons_zero]
      refine wpList_call rfl (exec_cl Tryd.call9 rfl (evc (ev rfl) evn)) ?_
      refine (pntmay_b x w1 HM.out).mono ?_
      rintro e w2 ⟨rfl, hb⟩
      have HX2 := Lib.hid (HX1.out.below (blk_lt HX1.out) hb)
      have HB2 := Lib.hid (HB1.out.trans (hb.mono HB1.out.size))
      clear hb
      refine ⟨_, rfl, ?_⟩
      simp only [Act.put, List.setIfInBounds_toArray, List.set_cons_succ, List.set_cons_zero]
      refine wpList_valn (v := .bool false) rfl (exec_not true rfl (ev rfl)) ?_
      simp only [Act.put, List.setIfInBounds_toArray, List.set_cons_succ, List.set_cons_zero]
      refine wpList_valn (v := .bool false) rfl (exec_mv rfl (ev rfl)) ?_
      simp only [Act.put, List.setIfInBounds_toArray, List.set_cons_succ, List.set_cons_zero]
      refine wpList_val (wanted_of rfl rfl rfl rfl) (exec_faddr rfl (ev rfl) faNt0) ?_
      simp only [Act.put, List.setIfInBounds_toArray, List.set_cons_succ, List.set_cons_zero]
      refine wpList_val (wanted_of rfl rfl rfl rfl) (exec_ld rfl (ev rfl) (ldU64 HX2.out.cells.1)) ?_
      simp only [Act.put, List.setIfInBounds_toArray, List.set_cons_succ, List.set_cons_zero]
      refine wpList_val (v := .bool false) (wanted_of rfl rfl rfl rfl) (exec_geq false rfl (ev rfl) evk HQ.out) ?_
      simp only [Act.put, List.setIfInBounds_toArray, List.set_cons_succ, List.set_cons_zero]
      refine wpList_valn (v := .bool false) rfl (exec_pf rfl (ev rfl) (ev rfl)) ?_
      simp only [Act.put, List.setIfInBounds_toArray, List.set_cons_succ, List.set_cons_zero]
      refine wpList_valn (v := .bool false) rfl (exec_mv rfl (ev rfl)) ?_
      simp only [Act.put, List.setIfInBounds_toArray, List.set_cons_succ, List.set_cons_zero]
      refine wpList_val (wanted_of rfl rfl rfl rfl) (exec_faddr rfl (ev rfl) faNt1) ?_
      simp only [Act.put, List.setIfInBounds_toArray, List.set_cons_succ, List.set_cons_zero]
      refine wpList_val (wanted_of rfl rfl rfl rfl) (exec_ld rfl (ev rfl) (ldU64 HX2.out.cells.2.1)) ?_
      simp only [Act.put, List.setIfInBounds_toArray, List.set_cons_succ, List.set_cons_zero]
      refine wpList_val (v := .bool true) (wanted_of rfl rfl rfl rfl) (exec_gtr true rfl (ev rfl) evk HP.out) ?_
      simp only [Act.put, List.setIfInBounds_toArray, List.set_cons_succ, List.set_cons_zero]
      refine wpList_valn (v := .bool true) rfl (exec_pf rfl (ev rfl) (ev rfl)) ?_
      simp only [Act.put, List.setIfInBounds_toArray, List.set_cons_succ, List.set_cons_zero]
      refine wpList_nil ?_
      go_wp2_with fail
      refine (note_lives w2 (HT.out.below HB2.out)).mono ?_
      rintro e w3 ⟨rfl, hb⟩
      have HB3 := Lib.hid (HB2.out.trans (hb.mono HB2.out.size))
      clear hb
      go_wp2_with fail
      go_ret
      exact ⟨rfl, HB3.out⟩
  · have hm' : nteB x = false := by simpa using hm
    have HM := Lib.hid hm'
    clear h hm hm'
    refine wp_region_lit ?_
    refine wpList_valn rfl (exec_loadNt (c := x) rfl (ev rfl) HX1.out.range) ?_
    simp only [Act.put, List.setIfInBounds_toArray, List.set_cons_succ, List.set_cons_zero]
    refine wpList_call rfl (exec_cl Tryd.call9 rfl (evc (ev rfl) evn)) ?_
    refine (pntmay_b x w1 HM.out).mono ?_
    rintro e w2 ⟨rfl, hb⟩
    have HX2 := Lib.hid (HX1.out.below (blk_lt HX1.out) hb)
    have HB2 := Lib.hid (HB1.out.trans (hb.mono HB1.out.size))
    clear hb
    refine ⟨_, rfl, ?_⟩
    simp only [Act.put, List.setIfInBounds_toArray, List.set_cons_succ, List.set_cons_zero]
    refine wpList_valn (v := .bool true) rfl (exec_not false rfl (ev rfl)) ?_
    simp only [Act.put, List.setIfInBounds_toArray, List.set_cons_succ, List.set_cons_zero]
    refine wpList_skips 3 (v := .bool true) rfl (exec_mv rfl (ev rfl)) (by kernel_rfl) ?_
    simp only [skipAct, List.take_succ_cons, List.take_zero, List.drop_succ_cons, List.drop_zero, Act.put, List.setIfInBounds_toArray, List.set_cons_succ, List.set_cons_zero]
    refine wpList_valn (v := .bool true) rfl (exec_pt rfl (ev rfl) evk) ?_
    simp only [Act.put, List.setIfInBounds_toArray, List.set_cons_succ, List.set_cons_zero]
    refine wpList_skips 3 (v := .bool true) rfl (exec_mv rfl (ev rfl)) (by kernel_rfl) ?_
    simp only [skipAct, List.take_succ_cons, List.take_zero, List.drop_succ_cons, List.drop_zero, Act.put, List.setIfInBounds_toArray, List.set_cons_succ, List.set_cons_zero]
    refine wpList_valn (v := .bool true) rfl (exec_pt rfl (ev rfl) evk) ?_
    simp only [Act.put, List.setIfInBounds_toArray, List.set_cons_succ, List.set_cons_zero]
    refine wpList_nil ?_
    go_wp2_with fail
    refine (note_lives w2 (HT.out.below HB2.out)).mono ?_
    rintro e w3 ⟨rfl, hb⟩
    have HB3 := Lib.hid (HB2.out.trans (hb.mono HB2.out.size))
    clear hb
    go_wp2_with fail
    go_ret
    exact ⟨rfl, HB3.out⟩
set_option maxHeartbeats 4000000 in
theorem noteFollows_low (q p K u c s a r : Nat) (w : World) (T : TabNt w) (hq : 1 ≤ q) (hq2 : q < 4611686018427387904) (hp : p ≤ 2305843009213693952) (hK1 : 1 ≤ K) (hK2 : K ≤ 32) (hbig : ¬ 16 < K) (hc : c ≤ 255) (ha : a ≤ 255) (hr : r ≤ 255) : Calls Tryd.prog 6 #[nte ⟨q, p, (K : Int), u⟩, .int .u8 (c : Nat), .int .u32 (s : Nat), .int .u8 (a : Nat), .int .u8 (r : Nat)] w fun e w' => e = .returned (.bool true) ∧ Below w.heap.size w w' := by
  obtain ⟨Z, hZ⟩ : ∃ Z, hd K + K = Z := ⟨_, rfl⟩
  obtain ⟨k, hk⟩ : ∃ k, 1 + c % 32 = k := ⟨_, rfl⟩
  have hZ34 := lawZ_le hK2 hZ
  have hx := lawX_may (u := u) hq hq2 hp hK1 hK2
  have hm := lawM_may (a := 0) (k := k) (s := s) hq2 hp hZ34 (by omega) (by omega) (by omega)
  have hmx := lawM_may (a := a) (k := k) (s := s) hq2 hp hZ34 ha (by omega) (by omega)
  have HM := Lib.hid hx
  have HF2 : Hid (folB ⟨q, p, (K : Int), u⟩ ⟨q + 1, p + Z, (k : Int), s⟩ = true) := Lib.hid (law_f5 (a := 0) hx hm hZ)
  have HF3 := Lib.hid (law_f3 hx)
  have HF4 := Lib.hid (law_f4 (Z := Z) (k := k) (s := s) hx hm)
  have HF5 := Lib.hid (law_f5 hx hmx hZ)
  have HF6 := Lib.hid (law_f6 (r := r) (k := k) (s := s) hx hm hZ)
  have HQ : Hid (decide ((4611686018427387904 : Int) ≤ (q : Int)) = false) := Lib.hid (decide_eq_false (by omega))
  have HP : Hid (decide ((2305843009213693952 : Int) < (p : Int)) = false) := Lib.hid (decide_eq_false (by omega))
  have HC := Lib.hid hc
  have HA := Lib.hid ha
  have HR := Lib.hid hr
  have HRM : Hid ((c : Int).tmod 32 = ((c % 32 : Nat) : Int)) := Lib.hid rfl
  have HAD : Hid (IntKind.i64.wrap (1 + ((c % 32 : Nat) : Int)) = (k : Int)) := Lib.hid (by rw [IntWalk.i64_in _ ⟨by omega, by omega⟩]; omega)
  have HK1 : Hid (IntKind.i64.wrap ((K : Int) + 1) = (Z : Int)) := Lib.hid (by rw [IntWalk.i64_in _ ⟨by omega, by omega⟩]; unfold hd at hZ; omega)
  have HBG : Hid (decide ((16 : Int) < (K : Int)) = false) := Lib.hid (decide_eq_false (by omega))
  have HQ1 : Hid (q + 1 < 18446744073709551616) := Lib.hid (by omega)
  have HZL : Hid (Z < 18446744073709551616) := Lib.hid (by omega)
  have HPZ : Hid (p + Z < 18446744073709551616) := Lib.hid (by omega)
  have HPA : Hid (p + Z + a < 18446744073709551616) := Lib.hid (by omega)
  have HQR : Hid (q + 1 + r < 18446744073709551616) := Lib.hid (by omega)
  have HEA : Hid (((a : Int) == 0) = decide (a = 0)) := Lib.hid (by rw [Bool.eq_iff_iff]; simp)
  have HER : Hid (((r : Int) == 0) = decide (r = 0)) := Lib.hid (by rw [Bool.eq_iff_iff]; simp)
  clear hZ hk hZ34 hx hm hmx hq hq2 hp hK1 hK2 hbig hc ha hr
  obtain ⟨h1, h2, h3⟩ := boxNt_new w ⟨q, p, (K : Int), u⟩
  have HX1 := Lib.hid h1
  have HB1 := Lib.hid h2
  have HT := Lib.hid T
  clear h1 h2 h3 T
  go_enter Tryd.func6, Tryd.ntmps6
  go_upto_region 1 with (first | (refine wpList_valn rfl (exec_boxNt rfl rfl) ?_) | fail)
  generalize w.alloc (.cells (celNt ⟨q, p, (K : Int), u⟩).toArray 25) = w1 at *
  refine wp_region_lit ?_
  refine wpList_valn rfl (exec_loadNt (c := ⟨q, p, (K : Int), u⟩) rfl (ev rfl) HX1.out.range) ?_
  simp only [Act.put, List.setIfInBounds_toArray, List.set_cons_succ, List.set_cons_zero]
  refine wpList_call rfl (exec_cl Tryd.call9 rfl (evc (ev rfl) evn)) ?_
  refine (pntmay_b ⟨q, p, (K : Int), u⟩ w1 HM.out).mono ?_
  rintro e w2 ⟨rfl, hb⟩
  have HX2 := Lib.hid (HX1.out.below (blk_lt HX1.out) hb)
  have HB2 := Lib.hid (HB1.out.trans (hb.mono HB1.out.size))
  clear hb
  refine ⟨_, rfl, ?_⟩
  simp only [Act.put, List.setIfInBounds_toArray, List.set_cons_succ, List.set_cons_zero]
  refine wpList_valn (v := .bool false) rfl (exec_not true rfl (ev rfl)) ?_
  simp only [Act.put, List.setIfInBounds_toArray, List.set_cons_succ, List.set_cons_zero]
  refine wpList_valn (v := .bool false) rfl (exec_mv rfl (ev rfl)) ?_
  simp only [Act.put, List.setIfInBounds_toArray, List.set_cons_succ, List.set_cons_zero]
  refine wpList_val (wanted_of rfl rfl rfl rfl) (exec_faddr rfl (ev rfl) faNt0) ?_
  simp only [Act.put, List.setIfInBounds_toArray, List.set_cons_succ, List.set_cons_zero]
  refine wpList_val (wanted_of rfl rfl rfl rfl) (exec_ld rfl (ev rfl) (ldU64 HX2.out.cells.1)) ?_
  simp only [Act.put, List.setIfInBounds_toArray, List.set_cons_succ, List.set_cons_zero]
  refine wpList_val (v := .bool false) (wanted_of rfl rfl rfl rfl) (exec_geq false rfl (ev rfl) evk HQ.out) ?_
  simp only [Act.put, List.setIfInBounds_toArray, List.set_cons_succ, List.set_cons_zero]
  refine wpList_valn (v := .bool false) rfl (exec_pf rfl (ev rfl) (ev rfl)) ?_
  simp only [Act.put, List.setIfInBounds_toArray, List.set_cons_succ, List.set_cons_zero]
  refine wpList_valn (v := .bool false) rfl (exec_mv rfl (ev rfl)) ?_
  simp only [Act.put, List.setIfInBounds_toArray, List.set_cons_succ, List.set_cons_zero]
  refine wpList_val (wanted_of rfl rfl rfl rfl) (exec_faddr rfl (ev rfl) faNt1) ?_
  simp only [Act.put, List.setIfInBounds_toArray, List.set_cons_succ, List.set_cons_zero]
  refine wpList_val (wanted_of rfl rfl rfl rfl) (exec_ld rfl (ev rfl) (ldU64 HX2.out.cells.2.1)) ?_
  simp only [Act.put, List.setIfInBounds_toArray, List.set_cons_succ, List.set_cons_zero]
  refine wpList_val (v := .bool false) (wanted_of rfl rfl rfl rfl) (exec_gtr false rfl (ev rfl) evk HP.out) ?_
  simp only [Act.put, List.setIfInBounds_toArray, List.set_cons_succ, List.set_cons_zero]
  refine wpList_valn (v := .bool false) rfl (exec_pf rfl (ev rfl) (ev rfl)) ?_
  simp only [Act.put, List.setIfInBounds_toArray, List.set_cons_succ, List.set_cons_zero]
  refine wpList_nil ?_
  go_upto_region 3 with fail
  refine wp_region_lit ?_
  refine wpList_valn rfl (exec_mv rfl (ev rfl)) ?_
  simp only [Act.put, List.setIfInBounds_toArray, List.set_cons_succ, List.set_cons_zero]
  refine wpList_valn rfl (exec_cv8In rfl (ev rfl) HC.out) ?_
  simp only [Act.put, List.setIfInBounds_toArray, List.set_cons_succ, List.set_cons_zero]
  refine wpList_valn rfl (exec_rem rfl (ev rfl) evk (by decide) HRM.out) ?_
  simp only [Act.put, List.setIfInBounds_toArray, List.set_cons_succ, List.set_cons_zero]
  refine wpList_valn rfl (exec_add rfl evk (ev rfl) HAD.out) ?_
  simp only [Act.put, List.setIfInBounds_toArray, List.set_cons_succ, List.set_cons_zero]
  refine wpList_valn rfl (exec_as rfl (ev rfl)) ?_
  simp only [Act.put, List.setIfInBounds_toArray, List.set_cons_succ, List.set_cons_zero]
  refine wpList_nil ?_
  go_upto_region 4 with fail
  refine wp_region_lit ?_
  refine wpList_valn rfl (exec_faddr rfl (ev rfl) faNt2) ?_
  simp only [Act.put, List.setIfInBounds_toArray, List.set_cons_succ, List.set_cons_zero]
  refine wpList_valn rfl (exec_ld rfl (ev rfl) (ldInt HX2.out.cells.2.2.1)) ?_
  simp only [Act.put, List.setIfInBounds_toArray, List.set_cons_succ, List.set_cons_zero]
  refine wpList_valn rfl (exec_add rfl (ev rfl) evk HK1.out) ?_
  simp only [Act.put, List.setIfInBounds_toArray, List.set_cons_succ, List.set_cons_zero]
  refine wpList_valn rfl (exec_as rfl (ev rfl)) ?_
  simp only [Act.put, List.setIfInBounds_toArray, List.set_cons_succ, List.set_cons_zero]
  refine wpList_nil ?_
  go_upto_region 5 with fail
  refine wp_region_lit ?_
  refine wpList_valn rfl (exec_faddr rfl (ev rfl) faNt2) ?_
  simp only [Act.put, List.setIfInBounds_toArray, List.set_cons_succ, List.set_cons_zero]
  refine wpList_valn rfl (exec_ld rfl (ev rfl) (ldInt HX2.out.cells.2.2.1)) ?_
  simp only [Act.put, List.setIfInBounds_toArray, List.set_cons_succ, List.set_cons_zero]
  refine wpList_valn (v := .bool false) rfl (exec_gtr false rfl (ev rfl) evk HBG.out) ?_
  simp only [Act.put, List.setIfInBounds_toArray, List.set_cons_succ, List.set_cons_zero]
  refine wpList_nil ?_
  go_upto_region 7 with fail
  refine wp_region_lit ?_
  refine wpList_valn rfl (exec_faddr rfl (ev rfl) faNt0) ?_
  simp only [Act.put, List.setIfInBounds_toArray, List.set_cons_succ, List.set_cons_zero]
  refine wpList_valn rfl (exec_ld rfl (ev rfl) (ldU64 HX2.out.cells.1)) ?_
  simp only [Act.put, List.setIfInBounds_toArray, List.set_cons_succ, List.set_cons_zero]
  refine wpList_valn rfl (exec_adN rfl (ev rfl) evk HQ1.out) ?_
  simp only [Act.put, List.setIfInBounds_toArray, List.set_cons_succ, List.set_cons_zero]
  refine wpList_valn rfl (exec_faddr rfl (ev rfl) faNt1) ?_
  simp only [Act.put, List.setIfInBounds_toArray, List.set_cons_succ, List.set_cons_zero]
  refine wpList_valn rfl (exec_ld rfl (ev rfl) (ldU64 HX2.out.cells.2.1)) ?_
  simp only [Act.put, List.setIfInBounds_toArray, List.set_cons_succ, List.set_cons_zero]
  refine wpList_valn rfl (exec_mv rfl (ev rfl)) ?_
  simp only [Act.put, List.setIfInBounds_toArray, List.set_cons_succ, List.set_cons_zero]
  refine wpList_valn rfl (exec_cvIU rfl (ev rfl) HZL.out) ?_
  simp only [Act.put, List.setIfInBounds_toArray, List.set_cons_succ, List.set_cons_zero]
  refine wpList_valn rfl (exec_adN rfl (ev rfl) (ev rfl) HPZ.out) ?_
  simp only [Act.put, List.setIfInBounds_toArray, List.set_cons_succ, List.set_cons_zero]
  refine wpList_valn rfl (exec_mv rfl (ev rfl)) ?_
  simp only [Act.put, List.setIfInBounds_toArray, List.set_cons_succ, List.set_cons_zero]
  refine wpList_valn rfl (exec_mv rfl (ev rfl)) ?_
  simp only [Act.put, List.setIfInBounds_toArray, List.set_cons_succ, List.set_cons_zero]
  refine wpList_valn rfl (exec_bldNt4 (q + 1) (p + Z) (k : Int) s rfl (ev rfl) (ev rfl) (ev rfl) (ev rfl)) ?_
  simp only [Act.put, List.setIfInBounds_toArray, List.set_cons_succ, List.set_cons_zero]
  refine wpList_valn rfl (exec_allocNt rfl) ?_
  simp only [Act.put, List.setIfInBounds_toArray, List.set_cons_succ, List.set_cons_zero]
  refine wpList_nuln rfl (exec_fillNt (c := ⟨q + 1, p + Z, (k : Int), s⟩) rfl (ev rfl) (ev rfl)) ?_
  simp only [Act.put, List.setIfInBounds_toArray, List.set_cons_succ, List.set_cons_zero]
  have HM3 := Lib.hid (NteAt.new w2 ⟨q + 1, p + Z, (k : Int), s⟩)
  have HX3 := Lib.hid (HX2.out.past (.cells (celNt ⟨q + 1, p + Z, (k : Int), s⟩).toArray 25))
  have HB3 := Lib.hid (HB2.out.alloc HB2.out.size (.cells (celNt ⟨q + 1, p + Z, (k : Int), s⟩).toArray 25))
  generalize w2.alloc (.cells (celNt ⟨q + 1, p + Z, (k : Int), s⟩).toArray 25) = w3 at *
  generalize w2.heap.size = mb at *
  clear HX2 HB2
  refine wpList_nil ?_
  go_upto_region 8 with fail
  refine wp_region_lit ?_
  refine wpList_valn rfl (exec_loadNt (c := ⟨q, p, (K : Int), u⟩) rfl (ev rfl) HX3.out.range) ?_
  simp only [Act.put, List.setIfInBounds_toArray, List.set_cons_succ, List.set_cons_zero]
  refine wpList_valn rfl (exec_loadNt (c := ⟨q + 1, p + Z, (k : Int), s⟩) rfl (ev rfl) HM3.out.range) ?_
  simp only [Act.put, List.setIfInBounds_toArray, List.set_cons_succ, List.set_cons_zero]
  refine wpList_call rfl (exec_cl Tryd.call13 rfl (evc (ev rfl) (evc (ev rfl) evn))) ?_
  refine (pntfols_b ⟨q, p, (K : Int), u⟩ ⟨q + 1, p + Z, (k : Int), s⟩ w3 HF2.out).mono ?_
  rintro e w4 ⟨rfl, hb⟩
  have HX4 := Lib.hid (HX3.out.below (blk_lt HX3.out) hb)
  have HM4 := Lib.hid (HM3.out.below (blk_lt HM3.out) hb)
  have HB4 := Lib.hid (HB3.out.trans (hb.mono HB3.out.size))
  clear hb HX3 HM3 HB3
  refine ⟨_, rfl, ?_⟩
  simp only [Act.put, List.setIfInBounds_toArray, List.set_cons_succ, List.set_cons_zero]
  refine wpList_valn (v := .bool false) rfl (exec_not true rfl (ev rfl)) ?_
  simp only [Act.put, List.setIfInBounds_toArray, List.set_cons_succ, List.set_cons_zero]
  refine wpList_valn (v := .bool false) rfl (exec_mv rfl (ev rfl)) ?_
  simp only [Act.put, List.setIfInBounds_toArray, List.set_cons_succ, List.set_cons_zero]
  refine wpList_val (wanted_of rfl rfl rfl rfl) (exec_loadNt (c := ⟨q, p, (K : Int), u⟩) rfl (ev rfl) HX4.out.range) ?_
  simp only [Act.put, List.setIfInBounds_toArray, List.set_cons_succ, List.set_cons_zero]
  refine wpList_val (wanted_of rfl rfl rfl rfl) (exec_loadNt (c := ⟨q, p, (K : Int), u⟩) rfl (ev rfl) HX4.out.range) ?_
  simp only [Act.put, List.setIfInBounds_toArray, List.set_cons_succ, List.set_cons_zero]
  refine wpList_call (wanted_of rfl rfl rfl rfl) (exec_cl Tryd.call13 rfl (evc (ev rfl) (evc (ev rfl) evn))) ?_
  refine (pntfols_b ⟨q, p, (K : Int), u⟩ ⟨q, p, (K : Int), u⟩ w4 HF3.out).mono ?_
  rintro e w5 ⟨rfl, hb⟩
  have HX5 := Lib.hid (HX4.out.below (blk_lt HX4.out) hb)
  have HM5 := Lib.hid (HM4.out.below (blk_lt HM4.out) hb)
  have HB5 := Lib.hid (HB4.out.trans (hb.mono HB4.out.size))
  clear hb HX4 HM4 HB4
  refine ⟨_, rfl, ?_⟩
  simp only [Act.put, List.setIfInBounds_toArray, List.set_cons_succ, List.set_cons_zero]
  refine wpList_valn (v := .bool false) rfl (exec_pf rfl (ev rfl) (ev rfl)) ?_
  simp only [Act.put, List.setIfInBounds_toArray, List.set_cons_succ, List.set_cons_zero]
  refine wpList_valn (v := .bool false) rfl (exec_mv rfl (ev rfl)) ?_
  simp only [Act.put, List.setIfInBounds_toArray, List.set_cons_succ, List.set_cons_zero]
  refine wpList_val (wanted_of rfl rfl rfl rfl) (exec_loadNt (c := ⟨q + 1, p + Z, (k : Int), s⟩) rfl (ev rfl) HM5.out.range) ?_
  simp only [Act.put, List.setIfInBounds_toArray, List.set_cons_succ, List.set_cons_zero]
  refine wpList_val (wanted_of rfl rfl rfl rfl) (exec_loadNt (c := ⟨q, p, (K : Int), u⟩) rfl (ev rfl) HX5.out.range) ?_
  simp only [Act.put, List.setIfInBounds_toArray, List.set_cons_succ, List.set_cons_zero]
  refine wpList_call (wanted_of rfl rfl rfl rfl) (exec_cl Tryd.call13 rfl (evc (ev rfl) (evc (ev rfl) evn))) ?_
  refine (pntfols_b ⟨q + 1, p + Z, (k : Int), s⟩ ⟨q, p, (K : Int), u⟩ w5 HF4.out).mono ?_
  rintro e w6 ⟨rfl, hb⟩
  have HX6 := Lib.hid (HX5.out.below (blk_lt HX5.out) hb)
  have HM6 := Lib.hid (HM5.out.below (blk_lt HM5.out) hb)
  have HB6 := Lib.hid (HB5.out.trans (hb.mono HB5.out.size))
  clear hb HX5 HM5 HB5
  refine ⟨_, rfl, ?_⟩
  simp only [Act.put, List.setIfInBounds_toArray, List.set_cons_succ, List.set_cons_zero]
  refine wpList_valn (v := .bool false) rfl (exec_pf rfl (ev rfl) (ev rfl)) ?_
  simp only [Act.put, List.setIfInBounds_toArray, List.set_cons_succ, List.set_cons_zero]
  refine wpList_nil ?_
  go_upto_region 10 with fail
  refine wp_region_lit ?_
  refine wpList_valn rfl (exec_loadNt (c := ⟨q + 1, p + Z, (k : Int), s⟩) rfl (ev rfl) HM6.out.range) ?_
  simp only [Act.put, List.setIfInBounds_toArray, List.set_cons_succ, List.set_cons_zero]
  refine wpList_valn rfl (exec_allocNt rfl) ?_
  simp only [Act.put, List.setIfInBounds_toArray, List.set_cons_succ, List.set_cons_zero]
  refine wpList_nuln rfl (exec_fillNt (c := ⟨q + 1, p + Z, (k : Int), s⟩) rfl (ev rfl) (ev rfl)) ?_
  simp only [Act.put, List.setIfInBounds_toArray, List.set_cons_succ, List.set_cons_zero]
  have HPa7 := Lib.hid (NteAt.new w6 ⟨q + 1, p + Z, (k : Int), s⟩)
  have HX7 := Lib.hid (HX6.out.past (.cells (celNt ⟨q + 1, p + Z, (k : Int), s⟩).toArray 25))
  have HM7 := Lib.hid (HM6.out.past (.cells (celNt ⟨q + 1, p + Z, (k : Int), s⟩).toArray 25))
  have HB7 := Lib.hid (HB6.out.alloc HB6.out.size (.cells (celNt ⟨q + 1, p + Z, (k : Int), s⟩).toArray 25))
  have HLa := Lib.hid (blk_lt HX6.out)
  have HSa := Lib.hid HB6.out.size
  have HNM := Lib.hid (blk_lt HM6.out)
  generalize w6.alloc (.cells (celNt ⟨q + 1, p + Z, (k : Int), s⟩).toArray 25) = w7 at *
  generalize w6.heap.size = xb at *
  clear HX6 HM6 HB6
  refine wpList_nil ?_
  go_upto_region 11 with fail
  refine wp_region_lit ?_
  refine wpList_valn rfl (exec_faddr rfl (ev rfl) faNt1) ?_
  simp only [Act.put, List.setIfInBounds_toArray, List.set_cons_succ, List.set_cons_zero]
  refine wpList_valn rfl (exec_ld rfl (ev rfl) (ldU64 HPa7.out.cells.2.1)) ?_
  simp only [Act.put, List.setIfInBounds_toArray, List.set_cons_succ, List.set_cons_zero]
  refine wpList_valn rfl (exec_mv rfl (ev rfl)) ?_
  simp only [Act.put, List.setIfInBounds_toArray, List.set_cons_succ, List.set_cons_zero]
  refine wpList_valn rfl (exec_cv8Un rfl (ev rfl) HA.out) ?_
  simp only [Act.put, List.setIfInBounds_toArray, List.set_cons_succ, List.set_cons_zero]
  refine wpList_valn rfl (exec_adN rfl (ev rfl) (ev rfl) HPA.out) ?_
  simp only [Act.put, List.setIfInBounds_toArray, List.set_cons_succ, List.set_cons_zero]
  refine wpList_valn rfl (exec_faddr rfl (ev rfl) faNt1) ?_
  simp only [Act.put, List.setIfInBounds_toArray, List.set_cons_succ, List.set_cons_zero]
  refine wpList_nuln rfl (exec_st rfl (ev rfl) (ev rfl) (stU64n (n := p + Z + a) HPa7.out.cells.2.1 (HPa7.out.free 1))) ?_
  simp only [Act.put, List.setIfInBounds_toArray, List.set_cons_succ, List.set_cons_zero]
  have HPx8 := Lib.hid (HPa7.out.set1 (p + Z + a))
  have HX8 := Lib.hid (HX7.out.other (d := xb) (j := 1) (v := .int .u64 ((p + Z + a : Nat) : Int)) (by have := HLa.out; omega))
  have HM8 := Lib.hid (HM7.out.other (d := xb) (j := 1) (v := .int .u64 ((p + Z + a : Nat) : Int)) (by have := HNM.out; omega))
  have HB8 := Lib.hid (below_setCell1 (d := xb) (j := 1) (v := .int .u64 ((p + Z + a : Nat) : Int)) HB7.out (Nat.le_refl _) HSa.out)
  generalize w7.setCell ⟨xb, 1, none⟩ (.int .u64 ((p + Z + a : Nat) : Int)) = w8 at *
  clear HX7 HM7 HB7 HPa7
  refine wpList_nil ?_
  go_upto_region 12 with fail
  refine wp_region_lit ?_
  refine wpList_valn rfl (exec_loadNt (c := ⟨q + 1, p + Z, (k : Int), s⟩) rfl (ev rfl) HM8.out.range) ?_
  simp only [Act.put, List.setIfInBounds_toArray, List.set_cons_succ, List.set_cons_zero]
  refine wpList_valn rfl (exec_allocNt rfl) ?_
  simp only [Act.put, List.setIfInBounds_toArray, List.set_cons_succ, List.set_cons_zero]
  refine wpList_nuln rfl (exec_fillNt (c := ⟨q + 1, p + Z, (k : Int), s⟩) rfl (ev rfl) (ev rfl)) ?_
  simp only [Act.put, List.setIfInBounds_toArray, List.set_cons_succ, List.set_cons_zero]
  have HPb9 := Lib.hid (NteAt.new w8 ⟨q + 1, p + Z, (k : Int), s⟩)
  have HX9 := Lib.hid (HX8.out.past (.cells (celNt ⟨q + 1, p + Z, (k : Int), s⟩).toArray 25))
  have HM9 := Lib.hid (HM8.out.past (.cells (celNt ⟨q + 1, p + Z, (k : Int), s⟩).toArray 25))
  have HB9 := Lib.hid (HB8.out.alloc HB8.out.size (.cells (celNt ⟨q + 1, p + Z, (k : Int), s⟩).toArray 25))
  have HLb := Lib.hid (blk_lt HX8.out)
  have HSb := Lib.hid HB8.out.size
  have HPx9 := Lib.hid (HPx8.out.past (.cells (celNt ⟨q + 1, p + Z, (k : Int), s⟩).toArray 25))
  have HNX := Lib.hid (blk_lt HPx8.out)
  clear HPx8
  generalize w8.alloc (.cells (celNt ⟨q + 1, p + Z, (k : Int), s⟩).toArray 25) = w9 at *
  generalize w8.heap.size = yb at *
  clear HX8 HM8 HB8
  refine wpList_nil ?_
  go_upto_region 13 with fail
  refine wp_region_lit ?_
  refine wpList_valn rfl (exec_faddr rfl (ev rfl) faNt0) ?_
  simp only [Act.put, List.setIfInBounds_toArray, List.set_cons_succ, List.set_cons_zero]
  refine wpList_valn rfl (exec_ld rfl (ev rfl) (ldU64 HPb9.out.cells.1)) ?_
  simp only [Act.put, List.setIfInBounds_toArray, List.set_cons_succ, List.set_cons_zero]
  refine wpList_valn rfl (exec_mv rfl (ev rfl)) ?_
  simp only [Act.put, List.setIfInBounds_toArray, List.set_cons_succ, List.set_cons_zero]
  refine wpList_valn rfl (exec_cv8Un rfl (ev rfl) HR.out) ?_
  simp only [Act.put, List.setIfInBounds_toArray, List.set_cons_succ, List.set_cons_zero]
  refine wpList_valn rfl (exec_adN rfl (ev rfl) (ev rfl) HQR.out) ?_
  simp only [Act.put, List.setIfInBounds_toArray, List.set_cons_succ, List.set_cons_zero]
  refine wpList_valn rfl (exec_faddr rfl (ev rfl) faNt0) ?_
  simp only [Act.put, List.setIfInBounds_toArray, List.set_cons_succ, List.set_cons_zero]
  refine wpList_nuln rfl (exec_st rfl (ev rfl) (ev rfl) (stU64n (n := q + 1 + r) HPb9.out.cells.1 (HPb9.out.free 0))) ?_
  simp only [Act.put, List.setIfInBounds_toArray, List.set_cons_succ, List.set_cons_zero]
  have HPy := Lib.hid (HPb9.out.set0 (q + 1 + r))
  have HX10 := Lib.hid (HX9.out.other (d := yb) (j := 0) (v := .int .u64 ((q + 1 + r : Nat) : Int)) (by have := HLb.out; omega))
  have HPx10 := Lib.hid (HPx9.out.other (d := yb) (j := 0) (v := .int .u64 ((q + 1 + r : Nat) : Int)) (by have := HNX.out; omega))
  have HB10 := Lib.hid (below_setCell1 (d := yb) (j := 0) (v := .int .u64 ((q + 1 + r : Nat) : Int)) HB9.out (Nat.le_refl _) HSb.out)
  generalize w9.setCell ⟨yb, 0, none⟩ (.int .u64 ((q + 1 + r : Nat) : Int)) = w10 at *
  clear HX9 HM9 HB9 HPx9 HPb9
  refine wpList_nil ?_
  go_upto_region 14 with fail
  refine wp_region_lit ?_
  refine wpList_valn rfl (exec_loadNt (c := ⟨q, p, (K : Int), u⟩) rfl (ev rfl) HX10.out.range) ?_
  simp only [Act.put, List.setIfInBounds_toArray, List.set_cons_succ, List.set_cons_zero]
  refine wpList_valn rfl (exec_loadNt (c := ⟨q + 1, p + Z + a, (k : Int), s⟩) rfl (ev rfl) HPx10.out.range) ?_
  simp only [Act.put, List.setIfInBounds_toArray, List.set_cons_succ, List.set_cons_zero]
  refine wpList_call rfl (exec_cl Tryd.call13 rfl (evc (ev rfl) (evc (ev rfl) evn))) ?_
  refine (pntfols_b ⟨q, p, (K : Int), u⟩ ⟨q + 1, p + Z + a, (k : Int), s⟩ w10 HF5.out).mono ?_
  rintro e w11 ⟨rfl, hb⟩
  have HX11 := Lib.hid (HX10.out.below (blk_lt HX10.out) hb)
  have HPy11 := Lib.hid (HPy.out.below (blk_lt HPy.out) hb)
  have HB11 := Lib.hid (HB10.out.trans (hb.mono HB10.out.size))
  clear hb
  refine ⟨_, rfl, ?_⟩
  simp only [Act.put, List.setIfInBounds_toArray, List.set_cons_succ, List.set_cons_zero]
  refine wpList_valn rfl (exec_mv rfl (ev rfl)) ?_
  simp only [Act.put, List.setIfInBounds_toArray, List.set_cons_succ, List.set_cons_zero]
  refine wpList_valn rfl (exec_eqInt (decide (a = 0)) rfl (ev rfl) evk HEA.out) ?_
  simp only [Act.put, List.setIfInBounds_toArray, List.set_cons_succ, List.set_cons_zero]
  refine wpList_valn (v := .bool true) rfl (exec_eqBool true rfl (ev rfl) (ev rfl) (beq_self_eq_true _)) ?_
  simp only [Act.put, List.setIfInBounds_toArray, List.set_cons_succ, List.set_cons_zero]
  refine wpList_valn (v := .bool true) rfl (exec_mv rfl (ev rfl)) ?_
  simp only [Act.put, List.setIfInBounds_toArray, List.set_cons_succ, List.set_cons_zero]
  refine wpList_val (wanted_of rfl rfl rfl rfl) (exec_loadNt (c := ⟨q, p, (K : Int), u⟩) rfl (ev rfl) HX11.out.range) ?_
  simp only [Act.put, List.setIfInBounds_toArray, List.set_cons_succ, List.set_cons_zero]
  refine wpList_val (wanted_of rfl rfl rfl rfl) (exec_loadNt (c := ⟨q + 1 + r, p + Z, (k : Int), s⟩) rfl (ev rfl) HPy11.out.range) ?_
  simp only [Act.put, List.setIfInBounds_toArray, List.set_cons_succ, List.set_cons_zero]
  refine wpList_call (wanted_of rfl rfl rfl rfl) (exec_cl Tryd.call13 rfl (evc (ev rfl) (evc (ev rfl) evn))) ?_
  refine (pntfols_b ⟨q, p, (K : Int), u⟩ ⟨q + 1 + r, p + Z, (k : Int), s⟩ w11 HF6.out).mono ?_
  rintro e w12 ⟨rfl, hb⟩
  have HB12 := Lib.hid (HB11.out.trans (hb.mono HB11.out.size))
  clear hb
  refine ⟨_, rfl, ?_⟩
  simp only [Act.put, List.setIfInBounds_toArray, List.set_cons_succ, List.set_cons_zero]
  refine wpList_val (wanted_of rfl rfl rfl rfl) (exec_mv rfl (ev rfl)) ?_
  simp only [Act.put, List.setIfInBounds_toArray, List.set_cons_succ, List.set_cons_zero]
  refine wpList_val (wanted_of rfl rfl rfl rfl) (exec_eqInt (decide (r = 0)) rfl (ev rfl) evk HER.out) ?_
  simp only [Act.put, List.setIfInBounds_toArray, List.set_cons_succ, List.set_cons_zero]
  refine wpList_val (v := .bool true) (wanted_of rfl rfl rfl rfl) (exec_eqBool true rfl (ev rfl) (ev rfl) (beq_self_eq_true _)) ?_
  simp only [Act.put, List.setIfInBounds_toArray, List.set_cons_succ, List.set_cons_zero]
  refine wpList_valn (v := .bool true) rfl (exec_pt rfl (ev rfl) (ev rfl)) ?_
  simp only [Act.put, List.setIfInBounds_toArray, List.set_cons_succ, List.set_cons_zero]
  refine wpList_valn (v := .bool true) rfl (exec_mv rfl (ev rfl)) ?_
  simp only [Act.put, List.setIfInBounds_toArray, List.set_cons_succ, List.set_cons_zero]
  refine wpList_call (wanted_of rfl rfl rfl rfl) (exec_cl Tryd.call15 rfl evn) ?_
  refine (note_lives w12 (HT.out.below HB12.out)).mono ?_
  rintro e w13 ⟨rfl, hb⟩
  have HB13 := Lib.hid (HB12.out.trans (hb.mono HB12.out.size))
  clear hb
  refine ⟨_, rfl, ?_⟩
  simp only [Act.put, List.setIfInBounds_toArray, List.set_cons_succ, List.set_cons_zero]
  refine wpList_valn (v := .bool true) rfl (exec_pt rfl (ev rfl) (ev rfl)) ?_
  simp only [Act.put, List.setIfInBounds_toArray, List.set_cons_succ, List.set_cons_zero]
  refine wpList_valn (v := .bool true) rfl (exec_as rfl (ev rfl)) ?_
  simp only [Act.put, List.setIfInBounds_toArray, List.set_cons_succ, List.set_cons_zero]
  refine wpList_nil ?_
  go_wp2_with fail
  go_ret
  exact ⟨rfl, HB13.out⟩
set_option maxHeartbeats 4000000 in
theorem noteFollows_big (q p K u c s a r : Nat) (w : World) (T : TabNt w) (hq : 1 ≤ q) (hq2 : q < 4611686018427387904) (hp : p ≤ 2305843009213693952) (hK1 : 1 ≤ K) (hK2 : K ≤ 32) (hbig : 16 < K) (hc : c ≤ 255) (ha : a ≤ 255) (hr : r ≤ 255) : Calls Tryd.prog 6 #[nte ⟨q, p, (K : Int), u⟩, .int .u8 (c : Nat), .int .u32 (s : Nat), .int .u8 (a : Nat), .int .u8 (r : Nat)] w fun e w' => e = .returned (.bool true) ∧ Below w.heap.size w w' := by
  obtain ⟨Z, hZ⟩ : ∃ Z, hd K + K = Z := ⟨_, rfl⟩
  obtain ⟨k, hk⟩ : ∃ k, 1 + c % 32 = k := ⟨_, rfl⟩
  have hZ34 := lawZ_le hK2 hZ
  have hx := lawX_may (u := u) hq hq2 hp hK1 hK2
  have hm := lawM_may (a := 0) (k := k) (s := s) hq2 hp hZ34 (by omega) (by omega) (by omega)
  have hmx := lawM_may (a := a) (k := k) (s := s) hq2 hp hZ34 ha (by omega) (by omega)
  have HM := Lib.hid hx
  have HF2 : Hid (folB ⟨q, p, (K : Int), u⟩ ⟨q + 1, p + Z, (k : Int), s⟩ = true) := Lib.hid (law_f5 (a := 0) hx hm hZ)
  have HF3 := Lib.hid (law_f3 hx)
  have HF4 := Lib.hid (law_f4 (Z := Z) (k := k) (s := s) hx hm)
  have HF5 := Lib.hid (law_f5 hx hmx hZ)
  have HF6 := Lib.hid (law_f6 (r := r) (k := k) (s := s) hx hm hZ)
  have HQ : Hid (decide ((4611686018427387904 : Int) ≤ (q : Int)) = false) := Lib.hid (decide_eq_false (by omega))
  have HP : Hid (decide ((2305843009213693952 : Int) < (p : Int)) = false) := Lib.hid (decide_eq_false (by omega))
  have HC := Lib.hid hc
  have HA := Lib.hid ha
  have HR := Lib.hid hr
  have HRM : Hid ((c : Int).tmod 32 = ((c % 32 : Nat) : Int)) := Lib.hid rfl
  have HAD : Hid (IntKind.i64.wrap (1 + ((c % 32 : Nat) : Int)) = (k : Int)) := Lib.hid (by rw [IntWalk.i64_in _ ⟨by omega, by omega⟩]; omega)
  have HK1 : Hid (IntKind.i64.wrap ((K : Int) + 1) = ((K + 1 : Nat) : Int)) := Lib.hid (by rw [IntWalk.i64_in _ ⟨by omega, by omega⟩]; omega)
  have HK2 : Hid (IntKind.i64.wrap (((K + 1 : Nat) : Int) + 1) = (Z : Int)) := Lib.hid (by rw [IntWalk.i64_in _ ⟨by omega, by omega⟩]; unfold hd at hZ; omega)
  have HBG : Hid (decide ((16 : Int) < (K : Int)) = true) := Lib.hid (decide_eq_true (by omega))
  have HQ1 : Hid (q + 1 < 18446744073709551616) := Lib.hid (by omega)
  have HZL : Hid (Z < 18446744073709551616) := Lib.hid (by omega)
  have HPZ : Hid (p + Z < 18446744073709551616) := Lib.hid (by omega)
  have HPA : Hid (p + Z + a < 18446744073709551616) := Lib.hid (by omega)
  have HQR : Hid (q + 1 + r < 18446744073709551616) := Lib.hid (by omega)
  have HEA : Hid (((a : Int) == 0) = decide (a = 0)) := Lib.hid (by rw [Bool.eq_iff_iff]; simp)
  have HER : Hid (((r : Int) == 0) = decide (r = 0)) := Lib.hid (by rw [Bool.eq_iff_iff]; simp)
  clear hZ hk hZ34 hx hm hmx hq hq2 hp hK1 hK2 hbig hc ha hr
  obtain ⟨h1, h2, h3⟩ := boxNt_new w ⟨q, p, (K : Int), u⟩
  have HX1 := Lib.hid h1
  have HB1 := Lib.hid h2
  have HT := Lib.hid T
  clear h1 h2 h3 T
  go_enter Tryd.func6, Tryd.ntmps6
  go_upto_region 1 with (first | (refine wpList_valn rfl (exec_boxNt rfl rfl) ?_) | fail)
  generalize w.alloc (.cells (celNt ⟨q, p, (K : Int), u⟩).toArray 25) = w1 at *
  refine wp_region_lit ?_
  refine wpList_valn rfl (exec_loadNt (c := ⟨q, p, (K : Int), u⟩) rfl (ev rfl) HX1.out.range) ?_
  simp only [Act.put, List.setIfInBounds_toArray, List.set_cons_succ, List.set_cons_zero]
  refine wpList_call rfl (exec_cl Tryd.call9 rfl (evc (ev rfl) evn)) ?_
  refine (pntmay_b ⟨q, p, (K : Int), u⟩ w1 HM.out).mono ?_
  rintro e w2 ⟨rfl, hb⟩
  have HX2 := Lib.hid (HX1.out.below (blk_lt HX1.out) hb)
  have HB2 := Lib.hid (HB1.out.trans (hb.mono HB1.out.size))
  clear hb
  refine ⟨_, rfl, ?_⟩
  simp only [Act.put, List.setIfInBounds_toArray, List.set_cons_succ, List.set_cons_zero]
  refine wpList_valn (v := .bool false) rfl (exec_not true rfl (ev rfl)) ?_
  simp only [Act.put, List.setIfInBounds_toArray, List.set_cons_succ, List.set_cons_zero]
  refine wpList_valn (v := .bool false) rfl (exec_mv rfl (ev rfl)) ?_
  simp only [Act.put, List.setIfInBounds_toArray, List.set_cons_succ, List.set_cons_zero]
  refine wpList_val (wanted_of rfl rfl rfl rfl) (exec_faddr rfl (ev rfl) faNt0) ?_
  simp only [Act.put, List.setIfInBounds_toArray, List.set_cons_succ, List.set_cons_zero]
  refine wpList_val (wanted_of rfl rfl rfl rfl) (exec_ld rfl (ev rfl) (ldU64 HX2.out.cells.1)) ?_
  simp only [Act.put, List.setIfInBounds_toArray, List.set_cons_succ, List.set_cons_zero]
  refine wpList_val (v := .bool false) (wanted_of rfl rfl rfl rfl) (exec_geq false rfl (ev rfl) evk HQ.out) ?_
  simp only [Act.put, List.setIfInBounds_toArray, List.set_cons_succ, List.set_cons_zero]
  refine wpList_valn (v := .bool false) rfl (exec_pf rfl (ev rfl) (ev rfl)) ?_
  simp only [Act.put, List.setIfInBounds_toArray, List.set_cons_succ, List.set_cons_zero]
  refine wpList_valn (v := .bool false) rfl (exec_mv rfl (ev rfl)) ?_
  simp only [Act.put, List.setIfInBounds_toArray, List.set_cons_succ, List.set_cons_zero]
  refine wpList_val (wanted_of rfl rfl rfl rfl) (exec_faddr rfl (ev rfl) faNt1) ?_
  simp only [Act.put, List.setIfInBounds_toArray, List.set_cons_succ, List.set_cons_zero]
  refine wpList_val (wanted_of rfl rfl rfl rfl) (exec_ld rfl (ev rfl) (ldU64 HX2.out.cells.2.1)) ?_
  simp only [Act.put, List.setIfInBounds_toArray, List.set_cons_succ, List.set_cons_zero]
  refine wpList_val (v := .bool false) (wanted_of rfl rfl rfl rfl) (exec_gtr false rfl (ev rfl) evk HP.out) ?_
  simp only [Act.put, List.setIfInBounds_toArray, List.set_cons_succ, List.set_cons_zero]
  refine wpList_valn (v := .bool false) rfl (exec_pf rfl (ev rfl) (ev rfl)) ?_
  simp only [Act.put, List.setIfInBounds_toArray, List.set_cons_succ, List.set_cons_zero]
  refine wpList_nil ?_
  go_upto_region 3 with fail
  refine wp_region_lit ?_
  refine wpList_valn rfl (exec_mv rfl (ev rfl)) ?_
  simp only [Act.put, List.setIfInBounds_toArray, List.set_cons_succ, List.set_cons_zero]
  refine wpList_valn rfl (exec_cv8In rfl (ev rfl) HC.out) ?_
  simp only [Act.put, List.setIfInBounds_toArray, List.set_cons_succ, List.set_cons_zero]
  refine wpList_valn rfl (exec_rem rfl (ev rfl) evk (by decide) HRM.out) ?_
  simp only [Act.put, List.setIfInBounds_toArray, List.set_cons_succ, List.set_cons_zero]
  refine wpList_valn rfl (exec_add rfl evk (ev rfl) HAD.out) ?_
  simp only [Act.put, List.setIfInBounds_toArray, List.set_cons_succ, List.set_cons_zero]
  refine wpList_valn rfl (exec_as rfl (ev rfl)) ?_
  simp only [Act.put, List.setIfInBounds_toArray, List.set_cons_succ, List.set_cons_zero]
  refine wpList_nil ?_
  go_upto_region 4 with fail
  refine wp_region_lit ?_
  refine wpList_valn rfl (exec_faddr rfl (ev rfl) faNt2) ?_
  simp only [Act.put, List.setIfInBounds_toArray, List.set_cons_succ, List.set_cons_zero]
  refine wpList_valn rfl (exec_ld rfl (ev rfl) (ldInt HX2.out.cells.2.2.1)) ?_
  simp only [Act.put, List.setIfInBounds_toArray, List.set_cons_succ, List.set_cons_zero]
  refine wpList_valn rfl (exec_add rfl (ev rfl) evk HK1.out) ?_
  simp only [Act.put, List.setIfInBounds_toArray, List.set_cons_succ, List.set_cons_zero]
  refine wpList_valn rfl (exec_as rfl (ev rfl)) ?_
  simp only [Act.put, List.setIfInBounds_toArray, List.set_cons_succ, List.set_cons_zero]
  refine wpList_nil ?_
  go_upto_region 5 with fail
  refine wp_region_lit ?_
  refine wpList_valn rfl (exec_faddr rfl (ev rfl) faNt2) ?_
  simp only [Act.put, List.setIfInBounds_toArray, List.set_cons_succ, List.set_cons_zero]
  refine wpList_valn rfl (exec_ld rfl (ev rfl) (ldInt HX2.out.cells.2.2.1)) ?_
  simp only [Act.put, List.setIfInBounds_toArray, List.set_cons_succ, List.set_cons_zero]
  refine wpList_valn (v := .bool true) rfl (exec_gtr true rfl (ev rfl) evk HBG.out) ?_
  simp only [Act.put, List.setIfInBounds_toArray, List.set_cons_succ, List.set_cons_zero]
  refine wpList_nil ?_
  go_upto_region 6 with fail
  refine wp_region_lit ?_
  refine wpList_valn rfl (exec_mv rfl (ev rfl)) ?_
  simp only [Act.put, List.setIfInBounds_toArray, List.set_cons_succ, List.set_cons_zero]
  refine wpList_valn rfl (exec_add rfl (ev rfl) evk HK2.out) ?_
  simp only [Act.put, List.setIfInBounds_toArray, List.set_cons_succ, List.set_cons_zero]
  refine wpList_valn rfl (exec_as rfl (ev rfl)) ?_
  simp only [Act.put, List.setIfInBounds_toArray, List.set_cons_succ, List.set_cons_zero]
  refine wpList_nil ?_
  go_upto_region 7 with fail
  refine wp_region_lit ?_
  refine wpList_valn rfl (exec_faddr rfl (ev rfl) faNt0) ?_
  simp only [Act.put, List.setIfInBounds_toArray, List.set_cons_succ, List.set_cons_zero]
  refine wpList_valn rfl (exec_ld rfl (ev rfl) (ldU64 HX2.out.cells.1)) ?_
  simp only [Act.put, List.setIfInBounds_toArray, List.set_cons_succ, List.set_cons_zero]
  refine wpList_valn rfl (exec_adN rfl (ev rfl) evk HQ1.out) ?_
  simp only [Act.put, List.setIfInBounds_toArray, List.set_cons_succ, List.set_cons_zero]
  refine wpList_valn rfl (exec_faddr rfl (ev rfl) faNt1) ?_
  simp only [Act.put, List.setIfInBounds_toArray, List.set_cons_succ, List.set_cons_zero]
  refine wpList_valn rfl (exec_ld rfl (ev rfl) (ldU64 HX2.out.cells.2.1)) ?_
  simp only [Act.put, List.setIfInBounds_toArray, List.set_cons_succ, List.set_cons_zero]
  refine wpList_valn rfl (exec_mv rfl (ev rfl)) ?_
  simp only [Act.put, List.setIfInBounds_toArray, List.set_cons_succ, List.set_cons_zero]
  refine wpList_valn rfl (exec_cvIU rfl (ev rfl) HZL.out) ?_
  simp only [Act.put, List.setIfInBounds_toArray, List.set_cons_succ, List.set_cons_zero]
  refine wpList_valn rfl (exec_adN rfl (ev rfl) (ev rfl) HPZ.out) ?_
  simp only [Act.put, List.setIfInBounds_toArray, List.set_cons_succ, List.set_cons_zero]
  refine wpList_valn rfl (exec_mv rfl (ev rfl)) ?_
  simp only [Act.put, List.setIfInBounds_toArray, List.set_cons_succ, List.set_cons_zero]
  refine wpList_valn rfl (exec_mv rfl (ev rfl)) ?_
  simp only [Act.put, List.setIfInBounds_toArray, List.set_cons_succ, List.set_cons_zero]
  refine wpList_valn rfl (exec_bldNt4 (q + 1) (p + Z) (k : Int) s rfl (ev rfl) (ev rfl) (ev rfl) (ev rfl)) ?_
  simp only [Act.put, List.setIfInBounds_toArray, List.set_cons_succ, List.set_cons_zero]
  refine wpList_valn rfl (exec_allocNt rfl) ?_
  simp only [Act.put, List.setIfInBounds_toArray, List.set_cons_succ, List.set_cons_zero]
  refine wpList_nuln rfl (exec_fillNt (c := ⟨q + 1, p + Z, (k : Int), s⟩) rfl (ev rfl) (ev rfl)) ?_
  simp only [Act.put, List.setIfInBounds_toArray, List.set_cons_succ, List.set_cons_zero]
  have HM3 := Lib.hid (NteAt.new w2 ⟨q + 1, p + Z, (k : Int), s⟩)
  have HX3 := Lib.hid (HX2.out.past (.cells (celNt ⟨q + 1, p + Z, (k : Int), s⟩).toArray 25))
  have HB3 := Lib.hid (HB2.out.alloc HB2.out.size (.cells (celNt ⟨q + 1, p + Z, (k : Int), s⟩).toArray 25))
  generalize w2.alloc (.cells (celNt ⟨q + 1, p + Z, (k : Int), s⟩).toArray 25) = w3 at *
  generalize w2.heap.size = mb at *
  clear HX2 HB2
  refine wpList_nil ?_
  go_upto_region 8 with fail
  refine wp_region_lit ?_
  refine wpList_valn rfl (exec_loadNt (c := ⟨q, p, (K : Int), u⟩) rfl (ev rfl) HX3.out.range) ?_
  simp only [Act.put, List.setIfInBounds_toArray, List.set_cons_succ, List.set_cons_zero]
  refine wpList_valn rfl (exec_loadNt (c := ⟨q + 1, p + Z, (k : Int), s⟩) rfl (ev rfl) HM3.out.range) ?_
  simp only [Act.put, List.setIfInBounds_toArray, List.set_cons_succ, List.set_cons_zero]
  refine wpList_call rfl (exec_cl Tryd.call13 rfl (evc (ev rfl) (evc (ev rfl) evn))) ?_
  refine (pntfols_b ⟨q, p, (K : Int), u⟩ ⟨q + 1, p + Z, (k : Int), s⟩ w3 HF2.out).mono ?_
  rintro e w4 ⟨rfl, hb⟩
  have HX4 := Lib.hid (HX3.out.below (blk_lt HX3.out) hb)
  have HM4 := Lib.hid (HM3.out.below (blk_lt HM3.out) hb)
  have HB4 := Lib.hid (HB3.out.trans (hb.mono HB3.out.size))
  clear hb HX3 HM3 HB3
  refine ⟨_, rfl, ?_⟩
  simp only [Act.put, List.setIfInBounds_toArray, List.set_cons_succ, List.set_cons_zero]
  refine wpList_valn (v := .bool false) rfl (exec_not true rfl (ev rfl)) ?_
  simp only [Act.put, List.setIfInBounds_toArray, List.set_cons_succ, List.set_cons_zero]
  refine wpList_valn (v := .bool false) rfl (exec_mv rfl (ev rfl)) ?_
  simp only [Act.put, List.setIfInBounds_toArray, List.set_cons_succ, List.set_cons_zero]
  refine wpList_val (wanted_of rfl rfl rfl rfl) (exec_loadNt (c := ⟨q, p, (K : Int), u⟩) rfl (ev rfl) HX4.out.range) ?_
  simp only [Act.put, List.setIfInBounds_toArray, List.set_cons_succ, List.set_cons_zero]
  refine wpList_val (wanted_of rfl rfl rfl rfl) (exec_loadNt (c := ⟨q, p, (K : Int), u⟩) rfl (ev rfl) HX4.out.range) ?_
  simp only [Act.put, List.setIfInBounds_toArray, List.set_cons_succ, List.set_cons_zero]
  refine wpList_call (wanted_of rfl rfl rfl rfl) (exec_cl Tryd.call13 rfl (evc (ev rfl) (evc (ev rfl) evn))) ?_
  refine (pntfols_b ⟨q, p, (K : Int), u⟩ ⟨q, p, (K : Int), u⟩ w4 HF3.out).mono ?_
  rintro e w5 ⟨rfl, hb⟩
  have HX5 := Lib.hid (HX4.out.below (blk_lt HX4.out) hb)
  have HM5 := Lib.hid (HM4.out.below (blk_lt HM4.out) hb)
  have HB5 := Lib.hid (HB4.out.trans (hb.mono HB4.out.size))
  clear hb HX4 HM4 HB4
  refine ⟨_, rfl, ?_⟩
  simp only [Act.put, List.setIfInBounds_toArray, List.set_cons_succ, List.set_cons_zero]
  refine wpList_valn (v := .bool false) rfl (exec_pf rfl (ev rfl) (ev rfl)) ?_
  simp only [Act.put, List.setIfInBounds_toArray, List.set_cons_succ, List.set_cons_zero]
  refine wpList_valn (v := .bool false) rfl (exec_mv rfl (ev rfl)) ?_
  simp only [Act.put, List.setIfInBounds_toArray, List.set_cons_succ, List.set_cons_zero]
  refine wpList_val (wanted_of rfl rfl rfl rfl) (exec_loadNt (c := ⟨q + 1, p + Z, (k : Int), s⟩) rfl (ev rfl) HM5.out.range) ?_
  simp only [Act.put, List.setIfInBounds_toArray, List.set_cons_succ, List.set_cons_zero]
  refine wpList_val (wanted_of rfl rfl rfl rfl) (exec_loadNt (c := ⟨q, p, (K : Int), u⟩) rfl (ev rfl) HX5.out.range) ?_
  simp only [Act.put, List.setIfInBounds_toArray, List.set_cons_succ, List.set_cons_zero]
  refine wpList_call (wanted_of rfl rfl rfl rfl) (exec_cl Tryd.call13 rfl (evc (ev rfl) (evc (ev rfl) evn))) ?_
  refine (pntfols_b ⟨q + 1, p + Z, (k : Int), s⟩ ⟨q, p, (K : Int), u⟩ w5 HF4.out).mono ?_
  rintro e w6 ⟨rfl, hb⟩
  have HX6 := Lib.hid (HX5.out.below (blk_lt HX5.out) hb)
  have HM6 := Lib.hid (HM5.out.below (blk_lt HM5.out) hb)
  have HB6 := Lib.hid (HB5.out.trans (hb.mono HB5.out.size))
  clear hb HX5 HM5 HB5
  refine ⟨_, rfl, ?_⟩
  simp only [Act.put, List.setIfInBounds_toArray, List.set_cons_succ, List.set_cons_zero]
  refine wpList_valn (v := .bool false) rfl (exec_pf rfl (ev rfl) (ev rfl)) ?_
  simp only [Act.put, List.setIfInBounds_toArray, List.set_cons_succ, List.set_cons_zero]
  refine wpList_nil ?_
  go_upto_region 10 with fail
  refine wp_region_lit ?_
  refine wpList_valn rfl (exec_loadNt (c := ⟨q + 1, p + Z, (k : Int), s⟩) rfl (ev rfl) HM6.out.range) ?_
  simp only [Act.put, List.setIfInBounds_toArray, List.set_cons_succ, List.set_cons_zero]
  refine wpList_valn rfl (exec_allocNt rfl) ?_
  simp only [Act.put, List.setIfInBounds_toArray, List.set_cons_succ, List.set_cons_zero]
  refine wpList_nuln rfl (exec_fillNt (c := ⟨q + 1, p + Z, (k : Int), s⟩) rfl (ev rfl) (ev rfl)) ?_
  simp only [Act.put, List.setIfInBounds_toArray, List.set_cons_succ, List.set_cons_zero]
  have HPa7 := Lib.hid (NteAt.new w6 ⟨q + 1, p + Z, (k : Int), s⟩)
  have HX7 := Lib.hid (HX6.out.past (.cells (celNt ⟨q + 1, p + Z, (k : Int), s⟩).toArray 25))
  have HM7 := Lib.hid (HM6.out.past (.cells (celNt ⟨q + 1, p + Z, (k : Int), s⟩).toArray 25))
  have HB7 := Lib.hid (HB6.out.alloc HB6.out.size (.cells (celNt ⟨q + 1, p + Z, (k : Int), s⟩).toArray 25))
  have HLa := Lib.hid (blk_lt HX6.out)
  have HSa := Lib.hid HB6.out.size
  have HNM := Lib.hid (blk_lt HM6.out)
  generalize w6.alloc (.cells (celNt ⟨q + 1, p + Z, (k : Int), s⟩).toArray 25) = w7 at *
  generalize w6.heap.size = xb at *
  clear HX6 HM6 HB6
  refine wpList_nil ?_
  go_upto_region 11 with fail
  refine wp_region_lit ?_
  refine wpList_valn rfl (exec_faddr rfl (ev rfl) faNt1) ?_
  simp only [Act.put, List.setIfInBounds_toArray, List.set_cons_succ, List.set_cons_zero]
  refine wpList_valn rfl (exec_ld rfl (ev rfl) (ldU64 HPa7.out.cells.2.1)) ?_
  simp only [Act.put, List.setIfInBounds_toArray, List.set_cons_succ, List.set_cons_zero]
  refine wpList_valn rfl (exec_mv rfl (ev rfl)) ?_
  simp only [Act.put, List.setIfInBounds_toArray, List.set_cons_succ, List.set_cons_zero]
  refine wpList_valn rfl (exec_cv8Un rfl (ev rfl) HA.out) ?_
  simp only [Act.put, List.setIfInBounds_toArray, List.set_cons_succ, List.set_cons_zero]
  refine wpList_valn rfl (exec_adN rfl (ev rfl) (ev rfl) HPA.out) ?_
  simp only [Act.put, List.setIfInBounds_toArray, List.set_cons_succ, List.set_cons_zero]
  refine wpList_valn rfl (exec_faddr rfl (ev rfl) faNt1) ?_
  simp only [Act.put, List.setIfInBounds_toArray, List.set_cons_succ, List.set_cons_zero]
  refine wpList_nuln rfl (exec_st rfl (ev rfl) (ev rfl) (stU64n (n := p + Z + a) HPa7.out.cells.2.1 (HPa7.out.free 1))) ?_
  simp only [Act.put, List.setIfInBounds_toArray, List.set_cons_succ, List.set_cons_zero]
  have HPx8 := Lib.hid (HPa7.out.set1 (p + Z + a))
  have HX8 := Lib.hid (HX7.out.other (d := xb) (j := 1) (v := .int .u64 ((p + Z + a : Nat) : Int)) (by have := HLa.out; omega))
  have HM8 := Lib.hid (HM7.out.other (d := xb) (j := 1) (v := .int .u64 ((p + Z + a : Nat) : Int)) (by have := HNM.out; omega))
  have HB8 := Lib.hid (below_setCell1 (d := xb) (j := 1) (v := .int .u64 ((p + Z + a : Nat) : Int)) HB7.out (Nat.le_refl _) HSa.out)
  generalize w7.setCell ⟨xb, 1, none⟩ (.int .u64 ((p + Z + a : Nat) : Int)) = w8 at *
  clear HX7 HM7 HB7 HPa7
  refine wpList_nil ?_
  go_upto_region 12 with fail
  refine wp_region_lit ?_
  refine wpList_valn rfl (exec_loadNt (c := ⟨q + 1, p + Z, (k : Int), s⟩) rfl (ev rfl) HM8.out.range) ?_
  simp only [Act.put, List.setIfInBounds_toArray, List.set_cons_succ, List.set_cons_zero]
  refine wpList_valn rfl (exec_allocNt rfl) ?_
  simp only [Act.put, List.setIfInBounds_toArray, List.set_cons_succ, List.set_cons_zero]
  refine wpList_nuln rfl (exec_fillNt (c := ⟨q + 1, p + Z, (k : Int), s⟩) rfl (ev rfl) (ev rfl)) ?_
  simp only [Act.put, List.setIfInBounds_toArray, List.set_cons_succ, List.set_cons_zero]
  have HPb9 := Lib.hid (NteAt.new w8 ⟨q + 1, p + Z, (k : Int), s⟩)
  have HX9 := Lib.hid (HX8.out.past (.cells (celNt ⟨q + 1, p + Z, (k : Int), s⟩).toArray 25))
  have HM9 := Lib.hid (HM8.out.past (.cells (celNt ⟨q + 1, p + Z, (k : Int), s⟩).toArray 25))
  have HB9 := Lib.hid (HB8.out.alloc HB8.out.size (.cells (celNt ⟨q + 1, p + Z, (k : Int), s⟩).toArray 25))
  have HLb := Lib.hid (blk_lt HX8.out)
  have HSb := Lib.hid HB8.out.size
  have HPx9 := Lib.hid (HPx8.out.past (.cells (celNt ⟨q + 1, p + Z, (k : Int), s⟩).toArray 25))
  have HNX := Lib.hid (blk_lt HPx8.out)
  clear HPx8
  generalize w8.alloc (.cells (celNt ⟨q + 1, p + Z, (k : Int), s⟩).toArray 25) = w9 at *
  generalize w8.heap.size = yb at *
  clear HX8 HM8 HB8
  refine wpList_nil ?_
  go_upto_region 13 with fail
  refine wp_region_lit ?_
  refine wpList_valn rfl (exec_faddr rfl (ev rfl) faNt0) ?_
  simp only [Act.put, List.setIfInBounds_toArray, List.set_cons_succ, List.set_cons_zero]
  refine wpList_valn rfl (exec_ld rfl (ev rfl) (ldU64 HPb9.out.cells.1)) ?_
  simp only [Act.put, List.setIfInBounds_toArray, List.set_cons_succ, List.set_cons_zero]
  refine wpList_valn rfl (exec_mv rfl (ev rfl)) ?_
  simp only [Act.put, List.setIfInBounds_toArray, List.set_cons_succ, List.set_cons_zero]
  refine wpList_valn rfl (exec_cv8Un rfl (ev rfl) HR.out) ?_
  simp only [Act.put, List.setIfInBounds_toArray, List.set_cons_succ, List.set_cons_zero]
  refine wpList_valn rfl (exec_adN rfl (ev rfl) (ev rfl) HQR.out) ?_
  simp only [Act.put, List.setIfInBounds_toArray, List.set_cons_succ, List.set_cons_zero]
  refine wpList_valn rfl (exec_faddr rfl (ev rfl) faNt0) ?_
  simp only [Act.put, List.setIfInBounds_toArray, List.set_cons_succ, List.set_cons_zero]
  refine wpList_nuln rfl (exec_st rfl (ev rfl) (ev rfl) (stU64n (n := q + 1 + r) HPb9.out.cells.1 (HPb9.out.free 0))) ?_
  simp only [Act.put, List.setIfInBounds_toArray, List.set_cons_succ, List.set_cons_zero]
  have HPy := Lib.hid (HPb9.out.set0 (q + 1 + r))
  have HX10 := Lib.hid (HX9.out.other (d := yb) (j := 0) (v := .int .u64 ((q + 1 + r : Nat) : Int)) (by have := HLb.out; omega))
  have HPx10 := Lib.hid (HPx9.out.other (d := yb) (j := 0) (v := .int .u64 ((q + 1 + r : Nat) : Int)) (by have := HNX.out; omega))
  have HB10 := Lib.hid (below_setCell1 (d := yb) (j := 0) (v := .int .u64 ((q + 1 + r : Nat) : Int)) HB9.out (Nat.le_refl _) HSb.out)
  generalize w9.setCell ⟨yb, 0, none⟩ (.int .u64 ((q + 1 + r : Nat) : Int)) = w10 at *
  clear HX9 HM9 HB9 HPx9 HPb9
  refine wpList_nil ?_
  go_upto_region 14 with fail
  refine wp_region_lit ?_
  refine wpList_valn rfl (exec_loadNt (c := ⟨q, p, (K : Int), u⟩) rfl (ev rfl) HX10.out.range) ?_
  simp only [Act.put, List.setIfInBounds_toArray, List.set_cons_succ, List.set_cons_zero]
  refine wpList_valn rfl (exec_loadNt (c := ⟨q + 1, p + Z + a, (k : Int), s⟩) rfl (ev rfl) HPx10.out.range) ?_
  simp only [Act.put, List.setIfInBounds_toArray, List.set_cons_succ, List.set_cons_zero]
  refine wpList_call rfl (exec_cl Tryd.call13 rfl (evc (ev rfl) (evc (ev rfl) evn))) ?_
  refine (pntfols_b ⟨q, p, (K : Int), u⟩ ⟨q + 1, p + Z + a, (k : Int), s⟩ w10 HF5.out).mono ?_
  rintro e w11 ⟨rfl, hb⟩
  have HX11 := Lib.hid (HX10.out.below (blk_lt HX10.out) hb)
  have HPy11 := Lib.hid (HPy.out.below (blk_lt HPy.out) hb)
  have HB11 := Lib.hid (HB10.out.trans (hb.mono HB10.out.size))
  clear hb
  refine ⟨_, rfl, ?_⟩
  simp only [Act.put, List.setIfInBounds_toArray, List.set_cons_succ, List.set_cons_zero]
  refine wpList_valn rfl (exec_mv rfl (ev rfl)) ?_
  simp only [Act.put, List.setIfInBounds_toArray, List.set_cons_succ, List.set_cons_zero]
  refine wpList_valn rfl (exec_eqInt (decide (a = 0)) rfl (ev rfl) evk HEA.out) ?_
  simp only [Act.put, List.setIfInBounds_toArray, List.set_cons_succ, List.set_cons_zero]
  refine wpList_valn (v := .bool true) rfl (exec_eqBool true rfl (ev rfl) (ev rfl) (beq_self_eq_true _)) ?_
  simp only [Act.put, List.setIfInBounds_toArray, List.set_cons_succ, List.set_cons_zero]
  refine wpList_valn (v := .bool true) rfl (exec_mv rfl (ev rfl)) ?_
  simp only [Act.put, List.setIfInBounds_toArray, List.set_cons_succ, List.set_cons_zero]
  refine wpList_val (wanted_of rfl rfl rfl rfl) (exec_loadNt (c := ⟨q, p, (K : Int), u⟩) rfl (ev rfl) HX11.out.range) ?_
  simp only [Act.put, List.setIfInBounds_toArray, List.set_cons_succ, List.set_cons_zero]
  refine wpList_val (wanted_of rfl rfl rfl rfl) (exec_loadNt (c := ⟨q + 1 + r, p + Z, (k : Int), s⟩) rfl (ev rfl) HPy11.out.range) ?_
  simp only [Act.put, List.setIfInBounds_toArray, List.set_cons_succ, List.set_cons_zero]
  refine wpList_call (wanted_of rfl rfl rfl rfl) (exec_cl Tryd.call13 rfl (evc (ev rfl) (evc (ev rfl) evn))) ?_
  refine (pntfols_b ⟨q, p, (K : Int), u⟩ ⟨q + 1 + r, p + Z, (k : Int), s⟩ w11 HF6.out).mono ?_
  rintro e w12 ⟨rfl, hb⟩
  have HB12 := Lib.hid (HB11.out.trans (hb.mono HB11.out.size))
  clear hb
  refine ⟨_, rfl, ?_⟩
  simp only [Act.put, List.setIfInBounds_toArray, List.set_cons_succ, List.set_cons_zero]
  refine wpList_val (wanted_of rfl rfl rfl rfl) (exec_mv rfl (ev rfl)) ?_
  simp only [Act.put, List.setIfInBounds_toArray, List.set_cons_succ, List.set_cons_zero]
  refine wpList_val (wanted_of rfl rfl rfl rfl) (exec_eqInt (decide (r = 0)) rfl (ev rfl) evk HER.out) ?_
  simp only [Act.put, List.setIfInBounds_toArray, List.set_cons_succ, List.set_cons_zero]
  refine wpList_val (v := .bool true) (wanted_of rfl rfl rfl rfl) (exec_eqBool true rfl (ev rfl) (ev rfl) (beq_self_eq_true _)) ?_
  simp only [Act.put, List.setIfInBounds_toArray, List.set_cons_succ, List.set_cons_zero]
  refine wpList_valn (v := .bool true) rfl (exec_pt rfl (ev rfl) (ev rfl)) ?_
  simp only [Act.put, List.setIfInBounds_toArray, List.set_cons_succ, List.set_cons_zero]
  refine wpList_valn (v := .bool true) rfl (exec_mv rfl (ev rfl)) ?_
  simp only [Act.put, List.setIfInBounds_toArray, List.set_cons_succ, List.set_cons_zero]
  refine wpList_call (wanted_of rfl rfl rfl rfl) (exec_cl Tryd.call15 rfl evn) ?_
  refine (note_lives w12 (HT.out.below HB12.out)).mono ?_
  rintro e w13 ⟨rfl, hb⟩
  have HB13 := Lib.hid (HB12.out.trans (hb.mono HB12.out.size))
  clear hb
  refine ⟨_, rfl, ?_⟩
  simp only [Act.put, List.setIfInBounds_toArray, List.set_cons_succ, List.set_cons_zero]
  refine wpList_valn (v := .bool true) rfl (exec_pt rfl (ev rfl) (ev rfl)) ?_
  simp only [Act.put, List.setIfInBounds_toArray, List.set_cons_succ, List.set_cons_zero]
  refine wpList_valn (v := .bool true) rfl (exec_as rfl (ev rfl)) ?_
  simp only [Act.put, List.setIfInBounds_toArray, List.set_cons_succ, List.set_cons_zero]
  refine wpList_nil ?_
  go_wp2_with fail
  go_ret
  exact ⟨rfl, HB13.out⟩
theorem noteFollows_walk (x : Nte) (c s a r : Nat) (w : World) (T : TabNt w) (hc : c ≤ 255) (ha : a ≤ 255) (hr : r ≤ 255) : Calls Tryd.prog 6 #[nte x, .int .u8 (c : Nat), .int .u32 (s : Nat), .int .u8 (a : Nat), .int .u8 (r : Nat)] w fun e w' => e = .returned (.bool true) ∧ Below w.heap.size w w' := by
  by_cases hm : nteB x = true
  · by_cases hq : 4611686018427387904 ≤ x.seq
    · exact noteFollows_no x c s a r w T (.inr (.inl hq))
    · by_cases hp : 2305843009213693952 < x.pos
      · exact noteFollows_no x c s a r w T (.inr (.inr hp))
      · obtain ⟨h1, _, _, h4, h5⟩ := of_nteB hm
        obtain ⟨q, p, d, u⟩ := x
        simp only at h1 h4 h5 hq hp
        obtain ⟨K, rfl⟩ : ∃ K : Nat, d = (K : Int) := ⟨d.toNat, by omega⟩
        by_cases hb : 16 < K
        · exact noteFollows_big q p K u c s a r w T h1 (by omega) (by omega) (by omega) (by omega) hb hc ha hr
        · exact noteFollows_low q p K u c s a r w T h1 (by omega) (by omega) (by omega) (by omega) hb hc ha hr
  · exact noteFollows_no x c s a r w T (.inl (by simpa using hm))
end Go.Proofs.YtiandcigoflcmaaDoor
