/-
  LineKnows: what is dirty is known, first is the least number since.
-/
import Derived.Test.YtmhcpiafhbnclaaLnB
namespace Go.Proofs.Ytmhcpiafhbnclaa
open Go.RowKit
set_option linter.unusedVariables false
set_option linter.unusedSimpArgs false
set_option maxRecDepth 100000

theorem RdE.int17 {w : World} {B n k : Nat} {A : Option Addr} {l : List Int} (h : RdE IntE w B A n l) (hk : k < n) : ∃ b off, A = some ⟨b, off, none⟩ ∧ w.cell? ⟨b, off + k * IntE.n, none⟩ = some (.int .i64 (l.getD k 0)) := by
  obtain ⟨b, off, e, hb, hc⟩ := h.2 k hk
  exact ⟨b, off, e, hc 0 _ rfl⟩
theorem ln_known {s : LnS} (h : LnOk s) {j : Nat} (hj : j < (lnD s).length) : ∃ d b, lnG s ((lnD s).getD j 0) = ⟨true, d, b⟩ := by
  have hm : (lnD s).getD j 0 ∈ lnD s := by rw [List.getD, List.getElem?_eq_getElem hj]; exact List.getElem_mem hj
  obtain ⟨k, e, hk, hd⟩ := drt_mem hm
  rw [e, lnG_ok hk]
  have hk2 : (lnAt s k).kn = true := by
    cases hq : (lnAt s k).kn
    · have h0 := h.no k hk hq
      have hd' : (lnAt s k).dt = true := hd
      rw [h0] at hd'
      cases hd'
    · rfl
  exact ⟨(lnAt s k).dt, (lnAt s k).b, by cases hx : lnAt s k; rw [hx] at hk2; cases hk2; rfl⟩
theorem Turn.base {I : Obj → Prop} {B B' : Nat} {w w' : World} (h : Turn I B w w') (hB : B' ≤ B) : Turn I B' w w' := Only.widen h fun b hb => ⟨Nat.le_trans hB hb.1, hb.2⟩
theorem lrn_f {s : LnS} {m : Int} {b : Blk} : (lnLrn s m b).f = s.f := by unfold lnLrn; split <;> (try split) <;> rfl
theorem frg_f {s : LnS} {m : Int} : (lnFrg s m).f = s.f := by unfold lnFrg; split <;> rfl
theorem set_f_no {s : LnS} {m : Int} {b : Blk} {q : Nat} (h : lnSE s m q ≠ 0) : (lnSet s m b q).f = s.f := by
  unfold lnSE at h
  unfold lnSet
  split at h
  · exact absurd rfl h
  · rename_i e; rw [if_neg e]
theorem set_f_ok {s : LnS} {m : Int} {b : Blk} {q : Nat} (h : lnSE s m q = 0) : (lnSet s m b q).f = minF s.f q := by
  unfold lnSE at h
  unfold lnSet
  split at h
  · rename_i e; rw [if_pos e]
  · cases h
set_option maxHeartbeats 8000000 in
theorem wlineKnows (C : LnI) (A : Option Addr) (n c : Nat) (l : List Act17) (w : World) (hr : RdE Act17E w w.heap.size A n l) (hn : n ≤ maxLen) (hin : ∀ k, k < n → (l.getD k Act17.zero).In w) :
    Calls Try.prog 4 #[.slice A n c] w fun e w' => e = .returned (.bool true) ∧ Below w.heap.size w w' := by
  have HRD := Lib.hid hr
  have HIN : Hid (∀ k, k < n → (l.getD k Act17.zero).In w) := Lib.hid hin
  have HNM := Lib.hid hn
  clear hr hn hin
  go_enter Try.func4, Try.ntmps4
  go_upto_region 1 with fail
  refine wp_region_lit ?_
  refine wpList_call rfl (exec_cl Try.call7 rfl (evc evk evn)) ?_
  refine (C.new_ok 16 w (by omega) (by omega)).mono ?_
  rintro e w1 ⟨p, rfl, p1, b1⟩
  have P1 := Lib.hid p1
  have B1 := Lib.hid b1
  clear p1 b1
  refine ⟨_, rfl, ?_⟩
  simp only [Act.put, List.setIfInBounds_toArray, List.set_cons_succ, List.set_cons_zero]
  refine wpList_valn rfl (exec_mv rfl (ev rfl)) ?_
  simp only [Act.put, List.setIfInBounds_toArray, List.set_cons_succ, List.set_cons_zero]
  refine wpList_valn rfl (exec_ext rfl (ev rfl) rfl) ?_
  simp only [Act.put, List.setIfInBounds_toArray, List.set_cons_succ, List.set_cons_zero]
  refine wpList_valn rfl (exec_ext rfl (ev rfl) rfl) ?_
  simp only [Act.put, List.setIfInBounds_toArray, List.set_cons_succ, List.set_cons_zero]
  refine wpList_valn rfl (exec_as rfl (ev rfl)) ?_
  simp only [Act.put, List.setIfInBounds_toArray, List.set_cons_succ, List.set_cons_zero]
  refine wpList_valn rfl (exec_as rfl (ev rfl)) ?_
  simp only [Act.put, List.setIfInBounds_toArray, List.set_cons_succ, List.set_cons_zero]
  refine wpList_nil ?_
  go_upto_region 2 with fail
  refine wp_region_lit ?_
  refine wpList_valn rfl (exec_mv rfl (ev rfl)) ?_
  simp only [Act.put, List.setIfInBounds_toArray, List.set_cons_succ, List.set_cons_zero]
  refine wpList_valn (v := .bool false) rfl (exec_neInt false rfl (ev rfl) evk rfl) ?_
  simp only [Act.put, List.setIfInBounds_toArray, List.set_cons_succ, List.set_cons_zero]
  refine wpList_nil ?_
  go_wp2_with fail
  go_loopw [5, 6] (fun f z wr => ∃ (i : Nat) (s : LnS), z = .int .i64 i ∧ i ≤ 80 ∧ f = .int .u64 (s.f : Int) ∧ C.P wr w.heap.size p s ∧ Below w.heap.size w wr) (fun _ z _ => 80 - (intOf z).toNat)
  case atStart => exact ⟨0, _, by go_num, Nat.zero_le _, rfl, P1.out, B1.out⟩
  case round =>
    obtain ⟨i, s, rfl, hi, rfl, hP, hb⟩ := hrel
    have HP := Lib.hid hP
    have HW := Lib.hid hb
    clear hP hb
    by_cases hlt : i < n
    rotate_left 1
    · have HL1 : Hid (decide ((i : Int) < (n : Int)) = false) := Lib.hid (decide_eq_false (by omega))
      clear hlt hi
      go_upto_region 6 with fail
      refine wp_region_lit ?_
      refine wpList_valn rfl (exec_mv rfl (ev rfl)) ?_
      simp only [Act.put, List.setIfInBounds_toArray, List.set_cons_succ, List.set_cons_zero]
      refine wpList_valn rfl (exec_mv rfl (ev rfl)) ?_
      simp only [Act.put, List.setIfInBounds_toArray, List.set_cons_succ, List.set_cons_zero]
      refine wpList_valn rfl (exec_lenE Act17E rfl (ev rfl)) ?_
      simp only [Act.put, List.setIfInBounds_toArray, List.set_cons_succ, List.set_cons_zero]
      refine wpList_valn (v := .bool false) rfl (exec_lss false rfl (ev rfl) (ev rfl) HL1.out) ?_
      simp only [Act.put, List.setIfInBounds_toArray, List.set_cons_succ, List.set_cons_zero]
      refine wpList_skips 2 (v := .bool false) rfl (exec_mv rfl (ev rfl)) (by kernel_rfl) ?_
      simp only [skipAct, List.take_succ_cons, List.take_zero, List.drop_succ_cons, List.drop_zero, Act.put, List.setIfInBounds_toArray, List.set_cons_succ, List.set_cons_zero]
      refine wpList_valn (v := .bool false) rfl (exec_pf rfl (ev rfl) evk) ?_
      simp only [Act.put, List.setIfInBounds_toArray, List.set_cons_succ, List.set_cons_zero]
      refine wpList_nil ?_
      go_upto_region 30 with fail
      refine wp_region_lit ?_
      refine wpList_call rfl (exec_cl Try.call9 rfl evn) ?_
      refine (lnlives C wr).mono ?_
      rintro e w9 ⟨rfl, b9⟩
      have HZ := Lib.hid (HW.out.trans (b9.mono HW.out.size))
      clear b9
      refine ⟨_, rfl, ?_⟩
      simp only [Act.put, List.setIfInBounds_toArray, List.set_cons_succ, List.set_cons_zero]
      refine wpList_valn (v := .bool true) rfl (exec_as rfl (ev rfl)) ?_
      simp only [Act.put, List.setIfInBounds_toArray, List.set_cons_succ, List.set_cons_zero]
      refine wpList_nil ?_
      go_wp2_with fail
      go_ret
      exact ⟨rfl, HZ.out⟩
    have HL1 : Hid (decide ((i : Int) < (n : Int)) = true) := Lib.hid (decide_eq_true (by omega))
    by_cases h80 : i < 80
    rotate_left 1
    · have HL2 : Hid (decide ((i : Int) < (80 : Int)) = false) := Lib.hid (decide_eq_false (by omega))
      clear hlt hi h80
      go_upto_region 6 with fail
      refine wp_region_lit ?_
      refine wpList_valn rfl (exec_mv rfl (ev rfl)) ?_
      simp only [Act.put, List.setIfInBounds_toArray, List.set_cons_succ, List.set_cons_zero]
      refine wpList_valn rfl (exec_mv rfl (ev rfl)) ?_
      simp only [Act.put, List.setIfInBounds_toArray, List.set_cons_succ, List.set_cons_zero]
      refine wpList_valn rfl (exec_lenE Act17E rfl (ev rfl)) ?_
      simp only [Act.put, List.setIfInBounds_toArray, List.set_cons_succ, List.set_cons_zero]
      refine wpList_valn (v := .bool true) rfl (exec_lss true rfl (ev rfl) (ev rfl) HL1.out) ?_
      simp only [Act.put, List.setIfInBounds_toArray, List.set_cons_succ, List.set_cons_zero]
      refine wpList_valn (v := .bool true) rfl (exec_mv rfl (ev rfl)) ?_
      simp only [Act.put, List.setIfInBounds_toArray, List.set_cons_succ, List.set_cons_zero]
      refine wpList_val (wanted_of rfl rfl rfl rfl) (exec_mv rfl (ev rfl)) ?_
      simp only [Act.put, List.setIfInBounds_toArray, List.set_cons_succ, List.set_cons_zero]
      refine wpList_val (v := .bool false) (wanted_of rfl rfl rfl rfl) (exec_lss false rfl (ev rfl) evk HL2.out) ?_
      simp only [Act.put, List.setIfInBounds_toArray, List.set_cons_succ, List.set_cons_zero]
      refine wpList_valn (v := .bool false) rfl (exec_pt rfl (ev rfl) (ev rfl)) ?_
      simp only [Act.put, List.setIfInBounds_toArray, List.set_cons_succ, List.set_cons_zero]
      refine wpList_nil ?_
      go_upto_region 30 with fail
      refine wp_region_lit ?_
      refine wpList_call rfl (exec_cl Try.call9 rfl evn) ?_
      refine (lnlives C wr).mono ?_
      rintro e w9 ⟨rfl, b9⟩
      have HZ := Lib.hid (HW.out.trans (b9.mono HW.out.size))
      clear b9
      refine ⟨_, rfl, ?_⟩
      simp only [Act.put, List.setIfInBounds_toArray, List.set_cons_succ, List.set_cons_zero]
      refine wpList_valn (v := .bool true) rfl (exec_as rfl (ev rfl)) ?_
      simp only [Act.put, List.setIfInBounds_toArray, List.set_cons_succ, List.set_cons_zero]
      refine wpList_nil ?_
      go_wp2_with fail
      go_ret
      exact ⟨rfl, HZ.out⟩
    have HL2 : Hid (decide ((i : Int) < (80 : Int)) = true) := Lib.hid (decide_eq_true (by omega))
    have HA : Hid (IntKind.i64.wrap ((i : Int) + 1) = ((i + 1 : Nat) : Int)) := Lib.hid (by rw [i64k_ ⟨by omega, by omega⟩]; omega)
    have HI := Lib.hid hlt
    have HI8 := Lib.hid h80
    obtain ⟨b, off, hA, hc⟩ := (HRD.out.below HW.out).act17 hlt
    have hia : (l.getD i Act17.zero).In wr := HIN.out i hlt
    obtain ⟨a, ha⟩ : ∃ a, l.getD i Act17.zero = a := ⟨_, rfl⟩
    rw [ha] at hc hia
    have HAA := Lib.hid hA
    have HC := Lib.hid hc
    have HIA : Hid (a.Seq < 18446744073709551616) := Lib.hid hia.2.2
    clear hlt hi h80 hA hc ha hia
    go_upto_region 6 with fail
    refine wp_region_lit ?_
    refine wpList_valn rfl (exec_mv rfl (ev rfl)) ?_
    simp only [Act.put, List.setIfInBounds_toArray, List.set_cons_succ, List.set_cons_zero]
    refine wpList_valn rfl (exec_mv rfl (ev rfl)) ?_
    simp only [Act.put, List.setIfInBounds_toArray, List.set_cons_succ, List.set_cons_zero]
    refine wpList_valn rfl (exec_lenE Act17E rfl (ev rfl)) ?_
    simp only [Act.put, List.setIfInBounds_toArray, List.set_cons_succ, List.set_cons_zero]
    refine wpList_valn (v := .bool true) rfl (exec_lss true rfl (ev rfl) (ev rfl) HL1.out) ?_
    simp only [Act.put, List.setIfInBounds_toArray, List.set_cons_succ, List.set_cons_zero]
    refine wpList_valn (v := .bool true) rfl (exec_mv rfl (ev rfl)) ?_
    simp only [Act.put, List.setIfInBounds_toArray, List.set_cons_succ, List.set_cons_zero]
    refine wpList_val (wanted_of rfl rfl rfl rfl) (exec_mv rfl (ev rfl)) ?_
    simp only [Act.put, List.setIfInBounds_toArray, List.set_cons_succ, List.set_cons_zero]
    refine wpList_val (v := .bool true) (wanted_of rfl rfl rfl rfl) (exec_lss true rfl (ev rfl) evk HL2.out) ?_
    simp only [Act.put, List.setIfInBounds_toArray, List.set_cons_succ, List.set_cons_zero]
    refine wpList_valn (v := .bool true) rfl (exec_pt rfl (ev rfl) (ev rfl)) ?_
    simp only [Act.put, List.setIfInBounds_toArray, List.set_cons_succ, List.set_cons_zero]
    refine wpList_nil ?_
    go_upto_region 8 with fail
    refine wp_region_lit ?_
    refine wpList_valn rfl (exec_mv rfl (ev rfl)) ?_
    simp only [Act.put, List.setIfInBounds_toArray, List.set_cons_succ, List.set_cons_zero]
    refine wpList_valn rfl (exec_mv rfl (ev rfl)) ?_
    simp only [Act.put, List.setIfInBounds_toArray, List.set_cons_succ, List.set_cons_zero]
    refine wpList_valn rfl (exec_indexE (E := Act17E) (b := b) (off := off) (j := i) rfl ((ev rfl).trans (by rw [HAA.out])) (ev rfl) HI.out) ?_
    simp only [Act.put, List.setIfInBounds_toArray, List.set_cons_succ, List.set_cons_zero]
    refine wpList_valn rfl (exec_loadAct17 rfl (ev rfl) HC.out) ?_
    simp only [Act.put, List.setIfInBounds_toArray, List.set_cons_succ, List.set_cons_zero]
    refine wpList_valn rfl (exec_allocAct17 rfl) ?_
    simp only [Act.put, List.setIfInBounds_toArray, List.set_cons_succ, List.set_cons_zero]
    refine wpList_nuln rfl (exec_fillAct17 rfl (ev rfl) (ev rfl)) ?_
    simp only [Act.put, List.setIfInBounds_toArray, List.set_cons_succ, List.set_cons_zero]
    have hb2 := (Below.refl wr.heap.size wr).alloc (Nat.le_refl _) (.cells a.C.toArray 36)
    have HAT := Lib.hid (Act17.At_.new wr a)
    have HP2 := Lib.hid (LnI.below HP.out hb2)
    have HW2 := Lib.hid (HW.out.trans (hb2.mono HW.out.size))
    clear hb2
    obtain ⟨qb, hqb⟩ : ∃ qb, wr.heap.size = qb := ⟨_, rfl⟩
    rw [hqb] at HAT ⊢
    clear hqb
    generalize wr.alloc (.cells a.C.toArray 36) = w2 at *
    refine wpList_nil ?_
    go_upto_region 9 with fail
    refine wp_region_lit ?_
    refine wpList_valn rfl (exec_faddr rfl (ev rfl) faAct170) ?_
    simp only [Act.put, List.setIfInBounds_toArray, List.set_cons_succ, List.set_cons_zero]
    refine wpList_valn rfl (exec_ld rfl (ev rfl) (ldInt HAT.out.f0)) ?_
    simp only [Act.put, List.setIfInBounds_toArray, List.set_cons_succ, List.set_cons_zero]
    refine wpList_nil ?_
    cases h0 : (a.Do == 0)
    rotate_left 1
    · have H0 := Lib.hid h0
      clear h0
      go_upto_region 10 with fail
      refine wp_region_lit ?_
      refine wpList_valn (v := .bool true) rfl (exec_eqInt true rfl (ev rfl) evk H0.out) ?_
      simp only [Act.put, List.setIfInBounds_toArray, List.set_cons_succ, List.set_cons_zero]
      refine wpList_valn (v := .bool true) rfl (exec_as rfl (ev rfl)) ?_
      simp only [Act.put, List.setIfInBounds_toArray, List.set_cons_succ, List.set_cons_zero]
      refine wpList_nil ?_
      go_upto_region 11 with fail
      refine wp_region_lit ?_
      refine wpList_valn rfl (exec_mv rfl (ev rfl)) ?_
      simp only [Act.put, List.setIfInBounds_toArray, List.set_cons_succ, List.set_cons_zero]
      refine wpList_valn rfl (exec_faddr rfl (ev rfl) faAct171) ?_
      simp only [Act.put, List.setIfInBounds_toArray, List.set_cons_succ, List.set_cons_zero]
      refine wpList_valn rfl (exec_ld rfl (ev rfl) (ldInt HAT.out.f1)) ?_
      simp only [Act.put, List.setIfInBounds_toArray, List.set_cons_succ, List.set_cons_zero]
      refine wpList_valn rfl (exec_faddr rfl (ev rfl) faAct172) ?_
      simp only [Act.put, List.setIfInBounds_toArray, List.set_cons_succ, List.set_cons_zero]
      refine wpList_valn rfl (exec_load rfl (ev rfl) HAT.out.f2) ?_
      simp only [Act.put, List.setIfInBounds_toArray, List.set_cons_succ, List.set_cons_zero]
      refine wpList_call rfl (exec_cl Try.call12 rfl (evc (ev rfl) (evc (ev rfl) (evc (ev rfl) evn)))) ?_
      refine (C.learn_ w2 a.Mem a.B HP2.out).mono ?_
      rintro e w3 ⟨rfl, p3, t3⟩
      have HAT3 : Hid (Act17.At_ w3 qb a) := Lib.hid (t3.keep HAT.out (C.own _ _ _ (.inl rfl)))
      have HW3 := Lib.hid (Turn.below HW2.out t3 HW2.out.size)
      obtain ⟨s3, hs3⟩ : ∃ s3, lnLrn s a.Mem a.B = s3 := ⟨_, rfl⟩
      rw [hs3] at p3
      have HP3 := Lib.hid p3
      have HS3 := Lib.hid hs3
      clear p3 t3 hs3
      have HF3 : Hid (s3.f = s.f) := Lib.hid (by rw [← HS3.out]; exact lrn_f)
      refine ⟨_, rfl, ?_⟩
      simp only [Act.put, List.setIfInBounds_toArray, List.set_cons_succ, List.set_cons_zero]
      refine wpList_nil ?_
      go_upto_region 21 with fail
      refine wp_region_lit ?_
      refine wpList_valn rfl (exec_mv rfl (ev rfl)) ?_
      simp only [Act.put, List.setIfInBounds_toArray, List.set_cons_succ, List.set_cons_zero]
      refine wpList_call rfl (exec_cl Try.call16 rfl (evc (ev rfl) evn)) ?_
      refine (C.dirty_ w3 HP3.out).mono ?_
      rintro e w4 ⟨v4, rfl, m4, b4⟩
      obtain ⟨A4, c4, rfl, e41, e42⟩ := m4.form
      have HRD4 := Lib.hid m4.rd
      have HP4 := Lib.hid (LnI.below HP3.out b4)
      have HW4 := Lib.hid (HW3.out.trans (b4.mono HW3.out.size))
      clear m4 e41 e42 b4
      refine ⟨_, rfl, ?_⟩
      simp only [Act.put, List.setIfInBounds_toArray, List.set_cons_succ, List.set_cons_zero]
      refine wpList_valn rfl (exec_as rfl (ev rfl)) ?_
      simp only [Act.put, List.setIfInBounds_toArray, List.set_cons_succ, List.set_cons_zero]
      refine wpList_nil ?_
      have HD16 : Hid ((lnD s3).length ≤ 16) := Lib.hid (Nat.le_trans (drt_len _ _) (C.ok HP4.out).1.hi)
      go_wp2_with fail
      go_loopw [9] (fun z wr => ∃ j : Nat, z = .int .i64 j ∧ j ≤ (lnD s3).length ∧ Below w4.heap.size w4 wr) (fun z _ => (lnD s3).length - (intOf z).toNat)
      case atStart => exact ⟨0, by go_num, Nat.zero_le _, Below.refl _ _⟩
      case round =>
        obtain ⟨j, rfl, hj, hb⟩ := hrel
        have HP5 := Lib.hid (LnI.below HP4.out hb)
        have HB5 := Lib.hid hb
        have HRD5 := Lib.hid (HRD4.out.below hb)
        clear hb
        by_cases hlt : j < (lnD s3).length
        · have HJ := Lib.hid hlt
          have HL : Hid (decide ((j : Int) < ((lnD s3).length : Int)) = true) := Lib.hid (decide_eq_true (by omega))
          have HJA : Hid (IntKind.i64.wrap ((j : Int) + 1) = ((j + 1 : Nat) : Int)) := Lib.hid (by have := HD16.out; rw [i64k_ ⟨by omega, by omega⟩]; omega)
          obtain ⟨d0, b0, hg⟩ := ln_known (C.ok HP5.out).1 hlt
          obtain ⟨bd, od, hA5, hc5⟩ := HRD5.out.int17 hlt
          have HG := Lib.hid hg
          have HA5 := Lib.hid hA5
          have HC5 := Lib.hid hc5
          clear hj hlt hg hA5 hc5
          go_upto_region 23 with fail
          refine wp_region_lit ?_
          refine wpList_valn rfl (exec_mv rfl (ev rfl)) ?_
          simp only [Act.put, List.setIfInBounds_toArray, List.set_cons_succ, List.set_cons_zero]
          refine wpList_valn rfl (exec_mv rfl (ev rfl)) ?_
          simp only [Act.put, List.setIfInBounds_toArray, List.set_cons_succ, List.set_cons_zero]
          refine wpList_valn rfl (exec_lenE IntE rfl (ev rfl)) ?_
          simp only [Act.put, List.setIfInBounds_toArray, List.set_cons_succ, List.set_cons_zero]
          refine wpList_valn (v := .bool true) rfl (exec_lss true rfl (ev rfl) (ev rfl) HL.out) ?_
          simp only [Act.put, List.setIfInBounds_toArray, List.set_cons_succ, List.set_cons_zero]
          refine wpList_nil ?_
          go_upto_region 25 with fail
          refine wp_region_lit ?_
          refine wpList_valn rfl (exec_mv rfl (ev rfl)) ?_
          simp only [Act.put, List.setIfInBounds_toArray, List.set_cons_succ, List.set_cons_zero]
          refine wpList_valn rfl (exec_mv rfl (ev rfl)) ?_
          simp only [Act.put, List.setIfInBounds_toArray, List.set_cons_succ, List.set_cons_zero]
          refine wpList_valn rfl (exec_mv rfl (ev rfl)) ?_
          simp only [Act.put, List.setIfInBounds_toArray, List.set_cons_succ, List.set_cons_zero]
          refine wpList_valn rfl (exec_indexE (E := IntE) (b := bd) (off := od) (j := j) rfl ((ev rfl).trans (by rw [HA5.out])) (ev rfl) HJ.out) ?_
          simp only [Act.put, List.setIfInBounds_toArray, List.set_cons_succ, List.set_cons_zero]
          refine wpList_valn rfl (exec_ld rfl (ev rfl) (ldInt HC5.out)) ?_
          simp only [Act.put, List.setIfInBounds_toArray, List.set_cons_succ, List.set_cons_zero]
          refine wpList_call rfl (exec_cl Try.call17 rfl (evc (ev rfl) (evc (ev rfl) evn))) ?_
          refine (LnI.get_v (c := ⟨true, d0, b0⟩) HP5.out HG.out).mono ?_
          rintro e w6 ⟨rfl, b6⟩
          have HB6 := Lib.hid (HB5.out.trans (b6.mono HB5.out.size))
          clear b6
          refine ⟨_, rfl, ?_⟩
          simp only [Act.put, List.setIfInBounds_toArray, List.set_cons_succ, List.set_cons_zero]
          refine wpList_valn rfl (exec_mv rfl (ev rfl)) ?_
          simp only [Act.put, List.setIfInBounds_toArray, List.set_cons_succ, List.set_cons_zero]
          refine wpList_valn rfl (exec_ext rfl (ev rfl) rfl) ?_
          simp only [Act.put, List.setIfInBounds_toArray, List.set_cons_succ, List.set_cons_zero]
          refine wpList_valn (v := .bool true) rfl (exec_ext rfl (ev rfl) rfl) ?_
          simp only [Act.put, List.setIfInBounds_toArray, List.set_cons_succ, List.set_cons_zero]
          refine wpList_valn rfl (exec_alloc rfl) ?_
          simp only [Act.put, List.setIfInBounds_toArray, List.set_cons_succ, List.set_cons_zero]
          refine wpList_nuln rfl (exec_fillN (c := b0) rfl (ev rfl) (ev rfl)) ?_
          simp only [Act.put, List.setIfInBounds_toArray, List.set_cons_succ, List.set_cons_zero]
          have HB7 := Lib.hid (HB6.out.alloc HB6.out.size (.cells (cel b0).toArray 33))
          generalize w6.alloc (.cells (cel b0).toArray 33) = w7 at *
          refine wpList_valn (v := .bool true) rfl (exec_as rfl (ev rfl)) ?_
          simp only [Act.put, List.setIfInBounds_toArray, List.set_cons_succ, List.set_cons_zero]
          refine wpList_nil ?_
          go_upto_region 26 with fail
          refine wp_region_lit ?_
          refine wpList_valn (v := .bool true) rfl (exec_mv rfl (ev rfl)) ?_
          simp only [Act.put, List.setIfInBounds_toArray, List.set_cons_succ, List.set_cons_zero]
          refine wpList_valn (v := .bool false) rfl (exec_not true rfl (ev rfl)) ?_
          simp only [Act.put, List.setIfInBounds_toArray, List.set_cons_succ, List.set_cons_zero]
          refine wpList_nil ?_
          go_upto_region 24 with fail
          refine wp_region_lit ?_
          refine wpList_valn rfl (exec_mv rfl (ev rfl)) ?_
          simp only [Act.put, List.setIfInBounds_toArray, List.set_cons_succ, List.set_cons_zero]
          refine wpList_valn rfl (exec_add rfl (ev rfl) evk HJA.out) ?_
          simp only [Act.put, List.setIfInBounds_toArray, List.set_cons_succ, List.set_cons_zero]
          refine wpList_valn rfl (exec_as rfl (ev rfl)) ?_
          simp only [Act.put, List.setIfInBounds_toArray, List.set_cons_succ, List.set_cons_zero]
          refine wpList_nil ?_
          go_wp2_with fail
          go_roundw
          case rel => exact ⟨j + 1, by go_num, HJ.out, HB7.out⟩
          case measure => have := HJ.out; simp [intOf]; omega
        have HL : Hid (decide ((j : Int) < ((lnD s3).length : Int)) = false) := Lib.hid (decide_eq_false (by omega))
        have HFE : Hid (((s3.f : Int) != (s.f : Int)) = false) := Lib.hid (by rw [HF3.out]; exact bne_self_eq_false _)
        clear hj hlt
        go_upto_region 23 with fail
        refine wp_region_lit ?_
        refine wpList_valn rfl (exec_mv rfl (ev rfl)) ?_
        simp only [Act.put, List.setIfInBounds_toArray, List.set_cons_succ, List.set_cons_zero]
        refine wpList_valn rfl (exec_mv rfl (ev rfl)) ?_
        simp only [Act.put, List.setIfInBounds_toArray, List.set_cons_succ, List.set_cons_zero]
        refine wpList_valn rfl (exec_lenE IntE rfl (ev rfl)) ?_
        simp only [Act.put, List.setIfInBounds_toArray, List.set_cons_succ, List.set_cons_zero]
        refine wpList_valn (v := .bool false) rfl (exec_lss false rfl (ev rfl) (ev rfl) HL.out) ?_
        simp only [Act.put, List.setIfInBounds_toArray, List.set_cons_succ, List.set_cons_zero]
        refine wpList_nil ?_
        go_upto_region 28 with fail
        refine wp_region_lit ?_
        refine wpList_valn rfl (exec_mv rfl (ev rfl)) ?_
        simp only [Act.put, List.setIfInBounds_toArray, List.set_cons_succ, List.set_cons_zero]
        refine wpList_call rfl (exec_cl Try.call18 rfl (evc (ev rfl) evn)) ?_
        refine (C.first_ _ HP5.out).mono ?_
        rintro e w8 ⟨rfl, b8⟩
        have HP8 := Lib.hid (LnI.below HP5.out b8)
        have HW8 := Lib.hid ((HW4.out.trans (HB5.out.mono HW4.out.size)).trans (b8.mono (Nat.le_trans HW4.out.size HB5.out.size)))
        clear b8
        refine ⟨_, rfl, ?_⟩
        simp only [Act.put, List.setIfInBounds_toArray, List.set_cons_succ, List.set_cons_zero]
        refine wpList_valn rfl (exec_mv rfl (ev rfl)) ?_
        simp only [Act.put, List.setIfInBounds_toArray, List.set_cons_succ, List.set_cons_zero]
        refine wpList_valn (v := .bool false) rfl (exec_neInt false rfl (ev rfl) (ev rfl) HFE.out) ?_
        simp only [Act.put, List.setIfInBounds_toArray, List.set_cons_succ, List.set_cons_zero]
        refine wpList_nil ?_
        go_upto_region 7 with fail
        refine wp_region_lit ?_
        refine wpList_valn rfl (exec_mv rfl (ev rfl)) ?_
        simp only [Act.put, List.setIfInBounds_toArray, List.set_cons_succ, List.set_cons_zero]
        refine wpList_valn rfl (exec_add rfl (ev rfl) evk HA.out) ?_
        simp only [Act.put, List.setIfInBounds_toArray, List.set_cons_succ, List.set_cons_zero]
        refine wpList_valn rfl (exec_as rfl (ev rfl)) ?_
        simp only [Act.put, List.setIfInBounds_toArray, List.set_cons_succ, List.set_cons_zero]
        refine wpList_nil ?_
        go_wp2_with fail
        go_roundw
        case rel => exact ⟨i + 1, s3, by go_num, HI8.out, by rw [HF3.out] <;> rfl, HP8.out, HW8.out⟩
        case measure => have := HI8.out; simp [intOf]; omega
    have H0 := Lib.hid h0
    clear h0
    go_upto_region 10 with fail
    refine wp_region_lit ?_
    refine wpList_valn (v := .bool false) rfl (exec_eqInt false rfl (ev rfl) evk H0.out) ?_
    simp only [Act.put, List.setIfInBounds_toArray, List.set_cons_succ, List.set_cons_zero]
    refine wpList_valn (v := .bool false) rfl (exec_as rfl (ev rfl)) ?_
    simp only [Act.put, List.setIfInBounds_toArray, List.set_cons_succ, List.set_cons_zero]
    refine wpList_nil ?_
    cases h1 : (a.Do == 1)
    rotate_left 1
    · have H1 := Lib.hid h1
      clear h1
      go_upto_region 12 with fail
      refine wp_region_lit ?_
      refine wpList_valn (v := .bool true) rfl (exec_eqInt true rfl (ev rfl) evk H1.out) ?_
      simp only [Act.put, List.setIfInBounds_toArray, List.set_cons_succ, List.set_cons_zero]
      refine wpList_valn (v := .bool true) rfl (exec_as rfl (ev rfl)) ?_
      simp only [Act.put, List.setIfInBounds_toArray, List.set_cons_succ, List.set_cons_zero]
      refine wpList_nil ?_
      obtain ⟨e0, he0⟩ : ∃ e0, lnSE s a.Mem a.Seq = e0 := ⟨_, rfl⟩
      obtain ⟨s3, hs3⟩ : ∃ s3, lnSet s a.Mem a.B a.Seq = s3 := ⟨_, rfl⟩
      have HE0 := Lib.hid he0
      have HS3 := Lib.hid hs3
      by_cases hz : e0 = 0
      rotate_left 1
      · have HE : Hid ((e0 == 0) = false) := Lib.hid (beq_eq_false_iff_ne.2 hz)
        have HF3 : Hid (s3.f = s.f) := Lib.hid (by rw [← hs3]; exact set_f_no (by rw [he0]; exact hz))
        clear hz he0 hs3
        go_upto_region 13 with fail
        refine wp_region_lit ?_
        refine wpList_valn rfl (exec_mv rfl (ev rfl)) ?_
        simp only [Act.put, List.setIfInBounds_toArray, List.set_cons_succ, List.set_cons_zero]
        refine wpList_valn rfl (exec_faddr rfl (ev rfl) faAct171) ?_
        simp only [Act.put, List.setIfInBounds_toArray, List.set_cons_succ, List.set_cons_zero]
        refine wpList_valn rfl (exec_ld rfl (ev rfl) (ldInt HAT.out.f1)) ?_
        simp only [Act.put, List.setIfInBounds_toArray, List.set_cons_succ, List.set_cons_zero]
        refine wpList_valn rfl (exec_faddr rfl (ev rfl) faAct172) ?_
        simp only [Act.put, List.setIfInBounds_toArray, List.set_cons_succ, List.set_cons_zero]
        refine wpList_valn rfl (exec_load rfl (ev rfl) HAT.out.f2) ?_
        simp only [Act.put, List.setIfInBounds_toArray, List.set_cons_succ, List.set_cons_zero]
        refine wpList_valn rfl (exec_faddr rfl (ev rfl) faAct173) ?_
        simp only [Act.put, List.setIfInBounds_toArray, List.set_cons_succ, List.set_cons_zero]
        refine wpList_valn rfl (exec_ld rfl (ev rfl) (ldU64 HAT.out.f3)) ?_
        simp only [Act.put, List.setIfInBounds_toArray, List.set_cons_succ, List.set_cons_zero]
        refine wpList_call rfl (exec_cl Try.call13 rfl (evc (ev rfl) (evc (ev rfl) (evc (ev rfl) (evc (ev rfl) evn))))) ?_
        refine (LnI.set_v HP2.out HIA.out HE0.out HS3.out).mono ?_
        rintro e w3 ⟨rfl, p3, t3⟩
        have HAT3 : Hid (Act17.At_ w3 qb a) := Lib.hid (t3.keep HAT.out (C.own _ _ _ (.inl rfl)))
        have HW3 := Lib.hid (Turn.below HW2.out t3 HW2.out.size)
        have HP3 := Lib.hid p3
        clear p3 t3
        refine ⟨_, rfl, ?_⟩
        simp only [Act.put, List.setIfInBounds_toArray, List.set_cons_succ, List.set_cons_zero]
        refine wpList_valn (v := .bool false) rfl (exec_eqInt false rfl (ev rfl) evk HE.out) ?_
        simp only [Act.put, List.setIfInBounds_toArray, List.set_cons_succ, List.set_cons_zero]
        refine wpList_skips 8 (v := .bool false) rfl (exec_mv rfl (ev rfl)) (by kernel_rfl) ?_
        simp only [skipAct, List.take_succ_cons, List.take_zero, List.drop_succ_cons, List.drop_zero, Act.put, List.setIfInBounds_toArray, List.set_cons_succ, List.set_cons_zero]
        refine wpList_valn (v := .bool false) rfl (exec_pf rfl (ev rfl) evk) ?_
        simp only [Act.put, List.setIfInBounds_toArray, List.set_cons_succ, List.set_cons_zero]
        refine wpList_nil ?_
        go_upto_region 21 with fail
        refine wp_region_lit ?_
        refine wpList_valn rfl (exec_mv rfl (ev rfl)) ?_
        simp only [Act.put, List.setIfInBounds_toArray, List.set_cons_succ, List.set_cons_zero]
        refine wpList_call rfl (exec_cl Try.call16 rfl (evc (ev rfl) evn)) ?_
        refine (C.dirty_ w3 HP3.out).mono ?_
        rintro e w4 ⟨v4, rfl, m4, b4⟩
        obtain ⟨A4, c4, rfl, e41, e42⟩ := m4.form
        have HRD4 := Lib.hid m4.rd
        have HP4 := Lib.hid (LnI.below HP3.out b4)
        have HW4 := Lib.hid (HW3.out.trans (b4.mono HW3.out.size))
        clear m4 e41 e42 b4
        refine ⟨_, rfl, ?_⟩
        simp only [Act.put, List.setIfInBounds_toArray, List.set_cons_succ, List.set_cons_zero]
        refine wpList_valn rfl (exec_as rfl (ev rfl)) ?_
        simp only [Act.put, List.setIfInBounds_toArray, List.set_cons_succ, List.set_cons_zero]
        refine wpList_nil ?_
        have HD16 : Hid ((lnD s3).length ≤ 16) := Lib.hid (Nat.le_trans (drt_len _ _) (C.ok HP4.out).1.hi)
        go_wp2_with fail
        go_loopw [9] (fun z wr => ∃ j : Nat, z = .int .i64 j ∧ j ≤ (lnD s3).length ∧ Below w4.heap.size w4 wr) (fun z _ => (lnD s3).length - (intOf z).toNat)
        case atStart => exact ⟨0, by go_num, Nat.zero_le _, Below.refl _ _⟩
        case round =>
          obtain ⟨j, rfl, hj, hb⟩ := hrel
          have HP5 := Lib.hid (LnI.below HP4.out hb)
          have HB5 := Lib.hid hb
          have HRD5 := Lib.hid (HRD4.out.below hb)
          clear hb
          by_cases hlt : j < (lnD s3).length
          · have HJ := Lib.hid hlt
            have HL : Hid (decide ((j : Int) < ((lnD s3).length : Int)) = true) := Lib.hid (decide_eq_true (by omega))
            have HJA : Hid (IntKind.i64.wrap ((j : Int) + 1) = ((j + 1 : Nat) : Int)) := Lib.hid (by have := HD16.out; rw [i64k_ ⟨by omega, by omega⟩]; omega)
            obtain ⟨d0, b0, hg⟩ := ln_known (C.ok HP5.out).1 hlt
            obtain ⟨bd, od, hA5, hc5⟩ := HRD5.out.int17 hlt
            have HG := Lib.hid hg
            have HA5 := Lib.hid hA5
            have HC5 := Lib.hid hc5
            clear hj hlt hg hA5 hc5
            go_upto_region 23 with fail
            refine wp_region_lit ?_
            refine wpList_valn rfl (exec_mv rfl (ev rfl)) ?_
            simp only [Act.put, List.setIfInBounds_toArray, List.set_cons_succ, List.set_cons_zero]
            refine wpList_valn rfl (exec_mv rfl (ev rfl)) ?_
            simp only [Act.put, List.setIfInBounds_toArray, List.set_cons_succ, List.set_cons_zero]
            refine wpList_valn rfl (exec_lenE IntE rfl (ev rfl)) ?_
            simp only [Act.put, List.setIfInBounds_toArray, List.set_cons_succ, List.set_cons_zero]
            refine wpList_valn (v := .bool true) rfl (exec_lss true rfl (ev rfl) (ev rfl) HL.out) ?_
            simp only [Act.put, List.setIfInBounds_toArray, List.set_cons_succ, List.set_cons_zero]
            refine wpList_nil ?_
            go_upto_region 25 with fail
            refine wp_region_lit ?_
            refine wpList_valn rfl (exec_mv rfl (ev rfl)) ?_
            simp only [Act.put, List.setIfInBounds_toArray, List.set_cons_succ, List.set_cons_zero]
            refine wpList_valn rfl (exec_mv rfl (ev rfl)) ?_
            simp only [Act.put, List.setIfInBounds_toArray, List.set_cons_succ, List.set_cons_zero]
            refine wpList_valn rfl (exec_mv rfl (ev rfl)) ?_
            simp only [Act.put, List.setIfInBounds_toArray, List.set_cons_succ, List.set_cons_zero]
            refine wpList_valn rfl (exec_indexE (E := IntE) (b := bd) (off := od) (j := j) rfl ((ev rfl).trans (by rw [HA5.out])) (ev rfl) HJ.out) ?_
            simp only [Act.put, List.setIfInBounds_toArray, List.set_cons_succ, List.set_cons_zero]
            refine wpList_valn rfl (exec_ld rfl (ev rfl) (ldInt HC5.out)) ?_
            simp only [Act.put, List.setIfInBounds_toArray, List.set_cons_succ, List.set_cons_zero]
            refine wpList_call rfl (exec_cl Try.call17 rfl (evc (ev rfl) (evc (ev rfl) evn))) ?_
            refine (LnI.get_v (c := ⟨true, d0, b0⟩) HP5.out HG.out).mono ?_
            rintro e w6 ⟨rfl, b6⟩
            have HB6 := Lib.hid (HB5.out.trans (b6.mono HB5.out.size))
            clear b6
            refine ⟨_, rfl, ?_⟩
            simp only [Act.put, List.setIfInBounds_toArray, List.set_cons_succ, List.set_cons_zero]
            refine wpList_valn rfl (exec_mv rfl (ev rfl)) ?_
            simp only [Act.put, List.setIfInBounds_toArray, List.set_cons_succ, List.set_cons_zero]
            refine wpList_valn rfl (exec_ext rfl (ev rfl) rfl) ?_
            simp only [Act.put, List.setIfInBounds_toArray, List.set_cons_succ, List.set_cons_zero]
            refine wpList_valn (v := .bool true) rfl (exec_ext rfl (ev rfl) rfl) ?_
            simp only [Act.put, List.setIfInBounds_toArray, List.set_cons_succ, List.set_cons_zero]
            refine wpList_valn rfl (exec_alloc rfl) ?_
            simp only [Act.put, List.setIfInBounds_toArray, List.set_cons_succ, List.set_cons_zero]
            refine wpList_nuln rfl (exec_fillN (c := b0) rfl (ev rfl) (ev rfl)) ?_
            simp only [Act.put, List.setIfInBounds_toArray, List.set_cons_succ, List.set_cons_zero]
            have HB7 := Lib.hid (HB6.out.alloc HB6.out.size (.cells (cel b0).toArray 33))
            generalize w6.alloc (.cells (cel b0).toArray 33) = w7 at *
            refine wpList_valn (v := .bool true) rfl (exec_as rfl (ev rfl)) ?_
            simp only [Act.put, List.setIfInBounds_toArray, List.set_cons_succ, List.set_cons_zero]
            refine wpList_nil ?_
            go_upto_region 26 with fail
            refine wp_region_lit ?_
            refine wpList_valn (v := .bool true) rfl (exec_mv rfl (ev rfl)) ?_
            simp only [Act.put, List.setIfInBounds_toArray, List.set_cons_succ, List.set_cons_zero]
            refine wpList_valn (v := .bool false) rfl (exec_not true rfl (ev rfl)) ?_
            simp only [Act.put, List.setIfInBounds_toArray, List.set_cons_succ, List.set_cons_zero]
            refine wpList_nil ?_
            go_upto_region 24 with fail
            refine wp_region_lit ?_
            refine wpList_valn rfl (exec_mv rfl (ev rfl)) ?_
            simp only [Act.put, List.setIfInBounds_toArray, List.set_cons_succ, List.set_cons_zero]
            refine wpList_valn rfl (exec_add rfl (ev rfl) evk HJA.out) ?_
            simp only [Act.put, List.setIfInBounds_toArray, List.set_cons_succ, List.set_cons_zero]
            refine wpList_valn rfl (exec_as rfl (ev rfl)) ?_
            simp only [Act.put, List.setIfInBounds_toArray, List.set_cons_succ, List.set_cons_zero]
            refine wpList_nil ?_
            go_wp2_with fail
            go_roundw
            case rel => exact ⟨j + 1, by go_num, HJ.out, HB7.out⟩
            case measure => have := HJ.out; simp [intOf]; omega
          have HL : Hid (decide ((j : Int) < ((lnD s3).length : Int)) = false) := Lib.hid (decide_eq_false (by omega))
          have HFE : Hid (((s3.f : Int) != (s.f : Int)) = false) := Lib.hid (by rw [HF3.out]; exact bne_self_eq_false _)
          clear hj hlt
          go_upto_region 23 with fail
          refine wp_region_lit ?_
          refine wpList_valn rfl (exec_mv rfl (ev rfl)) ?_
          simp only [Act.put, List.setIfInBounds_toArray, List.set_cons_succ, List.set_cons_zero]
          refine wpList_valn rfl (exec_mv rfl (ev rfl)) ?_
          simp only [Act.put, List.setIfInBounds_toArray, List.set_cons_succ, List.set_cons_zero]
          refine wpList_valn rfl (exec_lenE IntE rfl (ev rfl)) ?_
          simp only [Act.put, List.setIfInBounds_toArray, List.set_cons_succ, List.set_cons_zero]
          refine wpList_valn (v := .bool false) rfl (exec_lss false rfl (ev rfl) (ev rfl) HL.out) ?_
          simp only [Act.put, List.setIfInBounds_toArray, List.set_cons_succ, List.set_cons_zero]
          refine wpList_nil ?_
          go_upto_region 28 with fail
          refine wp_region_lit ?_
          refine wpList_valn rfl (exec_mv rfl (ev rfl)) ?_
          simp only [Act.put, List.setIfInBounds_toArray, List.set_cons_succ, List.set_cons_zero]
          refine wpList_call rfl (exec_cl Try.call18 rfl (evc (ev rfl) evn)) ?_
          refine (C.first_ _ HP5.out).mono ?_
          rintro e w8 ⟨rfl, b8⟩
          have HP8 := Lib.hid (LnI.below HP5.out b8)
          have HW8 := Lib.hid ((HW4.out.trans (HB5.out.mono HW4.out.size)).trans (b8.mono (Nat.le_trans HW4.out.size HB5.out.size)))
          clear b8
          refine ⟨_, rfl, ?_⟩
          simp only [Act.put, List.setIfInBounds_toArray, List.set_cons_succ, List.set_cons_zero]
          refine wpList_valn rfl (exec_mv rfl (ev rfl)) ?_
          simp only [Act.put, List.setIfInBounds_toArray, List.set_cons_succ, List.set_cons_zero]
          refine wpList_valn (v := .bool false) rfl (exec_neInt false rfl (ev rfl) (ev rfl) HFE.out) ?_
          simp only [Act.put, List.setIfInBounds_toArray, List.set_cons_succ, List.set_cons_zero]
          refine wpList_nil ?_
          go_upto_region 7 with fail
          refine wp_region_lit ?_
          refine wpList_valn rfl (exec_mv rfl (ev rfl)) ?_
          simp only [Act.put, List.setIfInBounds_toArray, List.set_cons_succ, List.set_cons_zero]
          refine wpList_valn rfl (exec_add rfl (ev rfl) evk HA.out) ?_
          simp only [Act.put, List.setIfInBounds_toArray, List.set_cons_succ, List.set_cons_zero]
          refine wpList_valn rfl (exec_as rfl (ev rfl)) ?_
          simp only [Act.put, List.setIfInBounds_toArray, List.set_cons_succ, List.set_cons_zero]
          refine wpList_nil ?_
          go_wp2_with fail
          go_roundw
          case rel => exact ⟨i + 1, s3, by go_num, HI8.out, by rw [HF3.out] <;> rfl, HP8.out, HW8.out⟩
          case measure => have := HI8.out; simp [intOf]; omega
      have HE : Hid ((e0 == 0) = true) := Lib.hid (by rw [hz]; rfl)
      have hf3 : s3.f = minF s.f a.Seq := by rw [← hs3]; exact set_f_ok (by rw [he0]; exact hz)
      clear hz he0 hs3
      by_cases hf0 : s.f = 0
      · have HF0 : Hid (((s.f : Int) == 0) = true) := Lib.hid (by rw [hf0]; rfl)
        have HF3 : Hid (s3.f = a.Seq) := Lib.hid (by rw [hf3]; exact if_pos (.inl hf0))
        clear hf0 hf3
        go_upto_region 13 with fail
        refine wp_region_lit ?_
        refine wpList_valn rfl (exec_mv rfl (ev rfl)) ?_
        simp only [Act.put, List.setIfInBounds_toArray, List.set_cons_succ, List.set_cons_zero]
        refine wpList_valn rfl (exec_faddr rfl (ev rfl) faAct171) ?_
        simp only [Act.put, List.setIfInBounds_toArray, List.set_cons_succ, List.set_cons_zero]
        refine wpList_valn rfl (exec_ld rfl (ev rfl) (ldInt HAT.out.f1)) ?_
        simp only [Act.put, List.setIfInBounds_toArray, List.set_cons_succ, List.set_cons_zero]
        refine wpList_valn rfl (exec_faddr rfl (ev rfl) faAct172) ?_
        simp only [Act.put, List.setIfInBounds_toArray, List.set_cons_succ, List.set_cons_zero]
        refine wpList_valn rfl (exec_load rfl (ev rfl) HAT.out.f2) ?_
        simp only [Act.put, List.setIfInBounds_toArray, List.set_cons_succ, List.set_cons_zero]
        refine wpList_valn rfl (exec_faddr rfl (ev rfl) faAct173) ?_
        simp only [Act.put, List.setIfInBounds_toArray, List.set_cons_succ, List.set_cons_zero]
        refine wpList_valn rfl (exec_ld rfl (ev rfl) (ldU64 HAT.out.f3)) ?_
        simp only [Act.put, List.setIfInBounds_toArray, List.set_cons_succ, List.set_cons_zero]
        refine wpList_call rfl (exec_cl Try.call13 rfl (evc (ev rfl) (evc (ev rfl) (evc (ev rfl) (evc (ev rfl) evn))))) ?_
        refine (LnI.set_v HP2.out HIA.out HE0.out HS3.out).mono ?_
        rintro e w3 ⟨rfl, p3, t3⟩
        have HAT3 : Hid (Act17.At_ w3 qb a) := Lib.hid (t3.keep HAT.out (C.own _ _ _ (.inl rfl)))
        have HW3 := Lib.hid (Turn.below HW2.out t3 HW2.out.size)
        have HP3 := Lib.hid p3
        clear p3 t3
        refine ⟨_, rfl, ?_⟩
        simp only [Act.put, List.setIfInBounds_toArray, List.set_cons_succ, List.set_cons_zero]
        refine wpList_valn (v := .bool true) rfl (exec_eqInt true rfl (ev rfl) evk HE.out) ?_
        simp only [Act.put, List.setIfInBounds_toArray, List.set_cons_succ, List.set_cons_zero]
        refine wpList_valn (v := .bool true) rfl (exec_mv rfl (ev rfl)) ?_
        simp only [Act.put, List.setIfInBounds_toArray, List.set_cons_succ, List.set_cons_zero]
        refine wpList_val (wanted_of rfl rfl rfl rfl) (exec_mv rfl (ev rfl)) ?_
        simp only [Act.put, List.setIfInBounds_toArray, List.set_cons_succ, List.set_cons_zero]
        refine wpList_val (v := .bool true) (wanted_of rfl rfl rfl rfl) (exec_eqInt true rfl (ev rfl) evk HF0.out) ?_
        simp only [Act.put, List.setIfInBounds_toArray, List.set_cons_succ, List.set_cons_zero]
        refine wpList_skips 4 (v := .bool true) (wanted_of rfl rfl rfl rfl) (exec_mv rfl (ev rfl)) (by kernel_rfl) ?_
        simp only [skipAct, List.take_succ_cons, List.take_zero, List.drop_succ_cons, List.drop_zero, Act.put, List.setIfInBounds_toArray, List.set_cons_succ, List.set_cons_zero]
        refine wpList_val (v := .bool true) (wanted_of rfl rfl rfl rfl) (exec_pt rfl (ev rfl) evk) ?_
        simp only [Act.put, List.setIfInBounds_toArray, List.set_cons_succ, List.set_cons_zero]
        refine wpList_valn (v := .bool true) rfl (exec_pt rfl (ev rfl) (ev rfl)) ?_
        simp only [Act.put, List.setIfInBounds_toArray, List.set_cons_succ, List.set_cons_zero]
        refine wpList_nil ?_
        go_upto_region 14 with fail
        refine wp_region_lit ?_
        refine wpList_valn rfl (exec_faddr rfl (ev rfl) faAct173) ?_
        simp only [Act.put, List.setIfInBounds_toArray, List.set_cons_succ, List.set_cons_zero]
        refine wpList_valn rfl (exec_ld rfl (ev rfl) (ldU64 HAT3.out.f3)) ?_
        simp only [Act.put, List.setIfInBounds_toArray, List.set_cons_succ, List.set_cons_zero]
        refine wpList_valn rfl (exec_as rfl (ev rfl)) ?_
        simp only [Act.put, List.setIfInBounds_toArray, List.set_cons_succ, List.set_cons_zero]
        refine wpList_nil ?_
        go_upto_region 21 with fail
        refine wp_region_lit ?_
        refine wpList_valn rfl (exec_mv rfl (ev rfl)) ?_
        simp only [Act.put, List.setIfInBounds_toArray, List.set_cons_succ, List.set_cons_zero]
        refine wpList_call rfl (exec_cl Try.call16 rfl (evc (ev rfl) evn)) ?_
        refine (C.dirty_ w3 HP3.out).mono ?_
        rintro e w4 ⟨v4, rfl, m4, b4⟩
        obtain ⟨A4, c4, rfl, e41, e42⟩ := m4.form
        have HRD4 := Lib.hid m4.rd
        have HP4 := Lib.hid (LnI.below HP3.out b4)
        have HW4 := Lib.hid (HW3.out.trans (b4.mono HW3.out.size))
        clear m4 e41 e42 b4
        refine ⟨_, rfl, ?_⟩
        simp only [Act.put, List.setIfInBounds_toArray, List.set_cons_succ, List.set_cons_zero]
        refine wpList_valn rfl (exec_as rfl (ev rfl)) ?_
        simp only [Act.put, List.setIfInBounds_toArray, List.set_cons_succ, List.set_cons_zero]
        refine wpList_nil ?_
        have HD16 : Hid ((lnD s3).length ≤ 16) := Lib.hid (Nat.le_trans (drt_len _ _) (C.ok HP4.out).1.hi)
        go_wp2_with fail
        go_loopw [9] (fun z wr => ∃ j : Nat, z = .int .i64 j ∧ j ≤ (lnD s3).length ∧ Below w4.heap.size w4 wr) (fun z _ => (lnD s3).length - (intOf z).toNat)
        case atStart => exact ⟨0, by go_num, Nat.zero_le _, Below.refl _ _⟩
        case round =>
          obtain ⟨j, rfl, hj, hb⟩ := hrel
          have HP5 := Lib.hid (LnI.below HP4.out hb)
          have HB5 := Lib.hid hb
          have HRD5 := Lib.hid (HRD4.out.below hb)
          clear hb
          by_cases hlt : j < (lnD s3).length
          · have HJ := Lib.hid hlt
            have HL : Hid (decide ((j : Int) < ((lnD s3).length : Int)) = true) := Lib.hid (decide_eq_true (by omega))
            have HJA : Hid (IntKind.i64.wrap ((j : Int) + 1) = ((j + 1 : Nat) : Int)) := Lib.hid (by have := HD16.out; rw [i64k_ ⟨by omega, by omega⟩]; omega)
            obtain ⟨d0, b0, hg⟩ := ln_known (C.ok HP5.out).1 hlt
            obtain ⟨bd, od, hA5, hc5⟩ := HRD5.out.int17 hlt
            have HG := Lib.hid hg
            have HA5 := Lib.hid hA5
            have HC5 := Lib.hid hc5
            clear hj hlt hg hA5 hc5
            go_upto_region 23 with fail
            refine wp_region_lit ?_
            refine wpList_valn rfl (exec_mv rfl (ev rfl)) ?_
            simp only [Act.put, List.setIfInBounds_toArray, List.set_cons_succ, List.set_cons_zero]
            refine wpList_valn rfl (exec_mv rfl (ev rfl)) ?_
            simp only [Act.put, List.setIfInBounds_toArray, List.set_cons_succ, List.set_cons_zero]
            refine wpList_valn rfl (exec_lenE IntE rfl (ev rfl)) ?_
            simp only [Act.put, List.setIfInBounds_toArray, List.set_cons_succ, List.set_cons_zero]
            refine wpList_valn (v := .bool true) rfl (exec_lss true rfl (ev rfl) (ev rfl) HL.out) ?_
            simp only [Act.put, List.setIfInBounds_toArray, List.set_cons_succ, List.set_cons_zero]
            refine wpList_nil ?_
            go_upto_region 25 with fail
            refine wp_region_lit ?_
            refine wpList_valn rfl (exec_mv rfl (ev rfl)) ?_
            simp only [Act.put, List.setIfInBounds_toArray, List.set_cons_succ, List.set_cons_zero]
            refine wpList_valn rfl (exec_mv rfl (ev rfl)) ?_
            simp only [Act.put, List.setIfInBounds_toArray, List.set_cons_succ, List.set_cons_zero]
            refine wpList_valn rfl (exec_mv rfl (ev rfl)) ?_
            simp only [Act.put, List.setIfInBounds_toArray, List.set_cons_succ, List.set_cons_zero]
            refine wpList_valn rfl (exec_indexE (E := IntE) (b := bd) (off := od) (j := j) rfl ((ev rfl).trans (by rw [HA5.out])) (ev rfl) HJ.out) ?_
            simp only [Act.put, List.setIfInBounds_toArray, List.set_cons_succ, List.set_cons_zero]
            refine wpList_valn rfl (exec_ld rfl (ev rfl) (ldInt HC5.out)) ?_
            simp only [Act.put, List.setIfInBounds_toArray, List.set_cons_succ, List.set_cons_zero]
            refine wpList_call rfl (exec_cl Try.call17 rfl (evc (ev rfl) (evc (ev rfl) evn))) ?_
            refine (LnI.get_v (c := ⟨true, d0, b0⟩) HP5.out HG.out).mono ?_
            rintro e w6 ⟨rfl, b6⟩
            have HB6 := Lib.hid (HB5.out.trans (b6.mono HB5.out.size))
            clear b6
            refine ⟨_, rfl, ?_⟩
            simp only [Act.put, List.setIfInBounds_toArray, List.set_cons_succ, List.set_cons_zero]
            refine wpList_valn rfl (exec_mv rfl (ev rfl)) ?_
            simp only [Act.put, List.setIfInBounds_toArray, List.set_cons_succ, List.set_cons_zero]
            refine wpList_valn rfl (exec_ext rfl (ev rfl) rfl) ?_
            simp only [Act.put, List.setIfInBounds_toArray, List.set_cons_succ, List.set_cons_zero]
            refine wpList_valn (v := .bool true) rfl (exec_ext rfl (ev rfl) rfl) ?_
            simp only [Act.put, List.setIfInBounds_toArray, List.set_cons_succ, List.set_cons_zero]
            refine wpList_valn rfl (exec_alloc rfl) ?_
            simp only [Act.put, List.setIfInBounds_toArray, List.set_cons_succ, List.set_cons_zero]
            refine wpList_nuln rfl (exec_fillN (c := b0) rfl (ev rfl) (ev rfl)) ?_
            simp only [Act.put, List.setIfInBounds_toArray, List.set_cons_succ, List.set_cons_zero]
            have HB7 := Lib.hid (HB6.out.alloc HB6.out.size (.cells (cel b0).toArray 33))
            generalize w6.alloc (.cells (cel b0).toArray 33) = w7 at *
            refine wpList_valn (v := .bool true) rfl (exec_as rfl (ev rfl)) ?_
            simp only [Act.put, List.setIfInBounds_toArray, List.set_cons_succ, List.set_cons_zero]
            refine wpList_nil ?_
            go_upto_region 26 with fail
            refine wp_region_lit ?_
            refine wpList_valn (v := .bool true) rfl (exec_mv rfl (ev rfl)) ?_
            simp only [Act.put, List.setIfInBounds_toArray, List.set_cons_succ, List.set_cons_zero]
            refine wpList_valn (v := .bool false) rfl (exec_not true rfl (ev rfl)) ?_
            simp only [Act.put, List.setIfInBounds_toArray, List.set_cons_succ, List.set_cons_zero]
            refine wpList_nil ?_
            go_upto_region 24 with fail
            refine wp_region_lit ?_
            refine wpList_valn rfl (exec_mv rfl (ev rfl)) ?_
            simp only [Act.put, List.setIfInBounds_toArray, List.set_cons_succ, List.set_cons_zero]
            refine wpList_valn rfl (exec_add rfl (ev rfl) evk HJA.out) ?_
            simp only [Act.put, List.setIfInBounds_toArray, List.set_cons_succ, List.set_cons_zero]
            refine wpList_valn rfl (exec_as rfl (ev rfl)) ?_
            simp only [Act.put, List.setIfInBounds_toArray, List.set_cons_succ, List.set_cons_zero]
            refine wpList_nil ?_
            go_wp2_with fail
            go_roundw
            case rel => exact ⟨j + 1, by go_num, HJ.out, HB7.out⟩
            case measure => have := HJ.out; simp [intOf]; omega
          have HL : Hid (decide ((j : Int) < ((lnD s3).length : Int)) = false) := Lib.hid (decide_eq_false (by omega))
          have HFE : Hid (((s3.f : Int) != (a.Seq : Int)) = false) := Lib.hid (by rw [HF3.out]; exact bne_self_eq_false _)
          clear hj hlt
          go_upto_region 23 with fail
          refine wp_region_lit ?_
          refine wpList_valn rfl (exec_mv rfl (ev rfl)) ?_
          simp only [Act.put, List.setIfInBounds_toArray, List.set_cons_succ, List.set_cons_zero]
          refine wpList_valn rfl (exec_mv rfl (ev rfl)) ?_
          simp only [Act.put, List.setIfInBounds_toArray, List.set_cons_succ, List.set_cons_zero]
          refine wpList_valn rfl (exec_lenE IntE rfl (ev rfl)) ?_
          simp only [Act.put, List.setIfInBounds_toArray, List.set_cons_succ, List.set_cons_zero]
          refine wpList_valn (v := .bool false) rfl (exec_lss false rfl (ev rfl) (ev rfl) HL.out) ?_
          simp only [Act.put, List.setIfInBounds_toArray, List.set_cons_succ, List.set_cons_zero]
          refine wpList_nil ?_
          go_upto_region 28 with fail
          refine wp_region_lit ?_
          refine wpList_valn rfl (exec_mv rfl (ev rfl)) ?_
          simp only [Act.put, List.setIfInBounds_toArray, List.set_cons_succ, List.set_cons_zero]
          refine wpList_call rfl (exec_cl Try.call18 rfl (evc (ev rfl) evn)) ?_
          refine (C.first_ _ HP5.out).mono ?_
          rintro e w8 ⟨rfl, b8⟩
          have HP8 := Lib.hid (LnI.below HP5.out b8)
          have HW8 := Lib.hid ((HW4.out.trans (HB5.out.mono HW4.out.size)).trans (b8.mono (Nat.le_trans HW4.out.size HB5.out.size)))
          clear b8
          refine ⟨_, rfl, ?_⟩
          simp only [Act.put, List.setIfInBounds_toArray, List.set_cons_succ, List.set_cons_zero]
          refine wpList_valn rfl (exec_mv rfl (ev rfl)) ?_
          simp only [Act.put, List.setIfInBounds_toArray, List.set_cons_succ, List.set_cons_zero]
          refine wpList_valn (v := .bool false) rfl (exec_neInt false rfl (ev rfl) (ev rfl) HFE.out) ?_
          simp only [Act.put, List.setIfInBounds_toArray, List.set_cons_succ, List.set_cons_zero]
          refine wpList_nil ?_
          go_upto_region 7 with fail
          refine wp_region_lit ?_
          refine wpList_valn rfl (exec_mv rfl (ev rfl)) ?_
          simp only [Act.put, List.setIfInBounds_toArray, List.set_cons_succ, List.set_cons_zero]
          refine wpList_valn rfl (exec_add rfl (ev rfl) evk HA.out) ?_
          simp only [Act.put, List.setIfInBounds_toArray, List.set_cons_succ, List.set_cons_zero]
          refine wpList_valn rfl (exec_as rfl (ev rfl)) ?_
          simp only [Act.put, List.setIfInBounds_toArray, List.set_cons_succ, List.set_cons_zero]
          refine wpList_nil ?_
          go_wp2_with fail
          go_roundw
          case rel => exact ⟨i + 1, s3, by go_num, HI8.out, by rw [HF3.out] <;> rfl, HP8.out, HW8.out⟩
          case measure => have := HI8.out; simp [intOf]; omega
      have HF0 : Hid (((s.f : Int) == 0) = false) := Lib.hid (beq_eq_false_iff_ne.2 (by omega))
      by_cases hlt : a.Seq < s.f
      · have HLT : Hid (decide ((a.Seq : Int) < (s.f : Int)) = true) := Lib.hid (decide_eq_true (by omega))
        have HF3 : Hid (s3.f = a.Seq) := Lib.hid (by rw [hf3]; exact if_pos (.inr hlt))
        clear hf0 hf3 hlt
        go_upto_region 13 with fail
        refine wp_region_lit ?_
        refine wpList_valn rfl (exec_mv rfl (ev rfl)) ?_
        simp only [Act.put, List.setIfInBounds_toArray, List.set_cons_succ, List.set_cons_zero]
        refine wpList_valn rfl (exec_faddr rfl (ev rfl) faAct171) ?_
        simp only [Act.put, List.setIfInBounds_toArray, List.set_cons_succ, List.set_cons_zero]
        refine wpList_valn rfl (exec_ld rfl (ev rfl) (ldInt HAT.out.f1)) ?_
        simp only [Act.put, List.setIfInBounds_toArray, List.set_cons_succ, List.set_cons_zero]
        refine wpList_valn rfl (exec_faddr rfl (ev rfl) faAct172) ?_
        simp only [Act.put, List.setIfInBounds_toArray, List.set_cons_succ, List.set_cons_zero]
        refine wpList_valn rfl (exec_load rfl (ev rfl) HAT.out.f2) ?_
        simp only [Act.put, List.setIfInBounds_toArray, List.set_cons_succ, List.set_cons_zero]
        refine wpList_valn rfl (exec_faddr rfl (ev rfl) faAct173) ?_
        simp only [Act.put, List.setIfInBounds_toArray, List.set_cons_succ, List.set_cons_zero]
        refine wpList_valn rfl (exec_ld rfl (ev rfl) (ldU64 HAT.out.f3)) ?_
        simp only [Act.put, List.setIfInBounds_toArray, List.set_cons_succ, List.set_cons_zero]
        refine wpList_call rfl (exec_cl Try.call13 rfl (evc (ev rfl) (evc (ev rfl) (evc (ev rfl) (evc (ev rfl) evn))))) ?_
        refine (LnI.set_v HP2.out HIA.out HE0.out HS3.out).mono ?_
        rintro e w3 ⟨rfl, p3, t3⟩
        have HAT3 : Hid (Act17.At_ w3 qb a) := Lib.hid (t3.keep HAT.out (C.own _ _ _ (.inl rfl)))
        have HW3 := Lib.hid (Turn.below HW2.out t3 HW2.out.size)
        have HP3 := Lib.hid p3
        clear p3 t3
        refine ⟨_, rfl, ?_⟩
        simp only [Act.put, List.setIfInBounds_toArray, List.set_cons_succ, List.set_cons_zero]
        refine wpList_valn (v := .bool true) rfl (exec_eqInt true rfl (ev rfl) evk HE.out) ?_
        simp only [Act.put, List.setIfInBounds_toArray, List.set_cons_succ, List.set_cons_zero]
        refine wpList_valn (v := .bool true) rfl (exec_mv rfl (ev rfl)) ?_
        simp only [Act.put, List.setIfInBounds_toArray, List.set_cons_succ, List.set_cons_zero]
        refine wpList_val (wanted_of rfl rfl rfl rfl) (exec_mv rfl (ev rfl)) ?_
        simp only [Act.put, List.setIfInBounds_toArray, List.set_cons_succ, List.set_cons_zero]
        refine wpList_val (v := .bool false) (wanted_of rfl rfl rfl rfl) (exec_eqInt false rfl (ev rfl) evk HF0.out) ?_
        simp only [Act.put, List.setIfInBounds_toArray, List.set_cons_succ, List.set_cons_zero]
        refine wpList_val (v := .bool false) (wanted_of rfl rfl rfl rfl) (exec_mv rfl (ev rfl)) ?_
        simp only [Act.put, List.setIfInBounds_toArray, List.set_cons_succ, List.set_cons_zero]
        refine wpList_val (wanted_of rfl rfl rfl rfl) (exec_faddr rfl (ev rfl) faAct173) ?_
        simp only [Act.put, List.setIfInBounds_toArray, List.set_cons_succ, List.set_cons_zero]
        refine wpList_val (wanted_of rfl rfl rfl rfl) (exec_ld rfl (ev rfl) (ldU64 HAT3.out.f3)) ?_
        simp only [Act.put, List.setIfInBounds_toArray, List.set_cons_succ, List.set_cons_zero]
        refine wpList_val (wanted_of rfl rfl rfl rfl) (exec_mv rfl (ev rfl)) ?_
        simp only [Act.put, List.setIfInBounds_toArray, List.set_cons_succ, List.set_cons_zero]
        refine wpList_val (v := .bool true) (wanted_of rfl rfl rfl rfl) (exec_lss true rfl (ev rfl) (ev rfl) HLT.out) ?_
        simp only [Act.put, List.setIfInBounds_toArray, List.set_cons_succ, List.set_cons_zero]
        refine wpList_val (v := .bool true) (wanted_of rfl rfl rfl rfl) (exec_pf rfl (ev rfl) (ev rfl)) ?_
        simp only [Act.put, List.setIfInBounds_toArray, List.set_cons_succ, List.set_cons_zero]
        refine wpList_valn (v := .bool true) rfl (exec_pt rfl (ev rfl) (ev rfl)) ?_
        simp only [Act.put, List.setIfInBounds_toArray, List.set_cons_succ, List.set_cons_zero]
        refine wpList_nil ?_
        go_upto_region 14 with fail
        refine wp_region_lit ?_
        refine wpList_valn rfl (exec_faddr rfl (ev rfl) faAct173) ?_
        simp only [Act.put, List.setIfInBounds_toArray, List.set_cons_succ, List.set_cons_zero]
        refine wpList_valn rfl (exec_ld rfl (ev rfl) (ldU64 HAT3.out.f3)) ?_
        simp only [Act.put, List.setIfInBounds_toArray, List.set_cons_succ, List.set_cons_zero]
        refine wpList_valn rfl (exec_as rfl (ev rfl)) ?_
        simp only [Act.put, List.setIfInBounds_toArray, List.set_cons_succ, List.set_cons_zero]
        refine wpList_nil ?_
        go_upto_region 21 with fail
        refine wp_region_lit ?_
        refine wpList_valn rfl (exec_mv rfl (ev rfl)) ?_
        simp only [Act.put, List.setIfInBounds_toArray, List.set_cons_succ, List.set_cons_zero]
        refine wpList_call rfl (exec_cl Try.call16 rfl (evc (ev rfl) evn)) ?_
        refine (C.dirty_ w3 HP3.out).mono ?_
        rintro e w4 ⟨v4, rfl, m4, b4⟩
        obtain ⟨A4, c4, rfl, e41, e42⟩ := m4.form
        have HRD4 := Lib.hid m4.rd
        have HP4 := Lib.hid (LnI.below HP3.out b4)
        have HW4 := Lib.hid (HW3.out.trans (b4.mono HW3.out.size))
        clear m4 e41 e42 b4
        refine ⟨_, rfl, ?_⟩
        simp only [Act.put, List.setIfInBounds_toArray, List.set_cons_succ, List.set_cons_zero]
        refine wpList_valn rfl (exec_as rfl (ev rfl)) ?_
        simp only [Act.put, List.setIfInBounds_toArray, List.set_cons_succ, List.set_cons_zero]
        refine wpList_nil ?_
        have HD16 : Hid ((lnD s3).length ≤ 16) := Lib.hid (Nat.le_trans (drt_len _ _) (C.ok HP4.out).1.hi)
        go_wp2_with fail
        go_loopw [9] (fun z wr => ∃ j : Nat, z = .int .i64 j ∧ j ≤ (lnD s3).length ∧ Below w4.heap.size w4 wr) (fun z _ => (lnD s3).length - (intOf z).toNat)
        case atStart => exact ⟨0, by go_num, Nat.zero_le _, Below.refl _ _⟩
        case round =>
          obtain ⟨j, rfl, hj, hb⟩ := hrel
          have HP5 := Lib.hid (LnI.below HP4.out hb)
          have HB5 := Lib.hid hb
          have HRD5 := Lib.hid (HRD4.out.below hb)
          clear hb
          by_cases hlt : j < (lnD s3).length
          · have HJ := Lib.hid hlt
            have HL : Hid (decide ((j : Int) < ((lnD s3).length : Int)) = true) := Lib.hid (decide_eq_true (by omega))
            have HJA : Hid (IntKind.i64.wrap ((j : Int) + 1) = ((j + 1 : Nat) : Int)) := Lib.hid (by have := HD16.out; rw [i64k_ ⟨by omega, by omega⟩]; omega)
            obtain ⟨d0, b0, hg⟩ := ln_known (C.ok HP5.out).1 hlt
            obtain ⟨bd, od, hA5, hc5⟩ := HRD5.out.int17 hlt
            have HG := Lib.hid hg
            have HA5 := Lib.hid hA5
            have HC5 := Lib.hid hc5
            clear hj hlt hg hA5 hc5
            go_upto_region 23 with fail
            refine wp_region_lit ?_
            refine wpList_valn rfl (exec_mv rfl (ev rfl)) ?_
            simp only [Act.put, List.setIfInBounds_toArray, List.set_cons_succ, List.set_cons_zero]
            refine wpList_valn rfl (exec_mv rfl (ev rfl)) ?_
            simp only [Act.put, List.setIfInBounds_toArray, List.set_cons_succ, List.set_cons_zero]
            refine wpList_valn rfl (exec_lenE IntE rfl (ev rfl)) ?_
            simp only [Act.put, List.setIfInBounds_toArray, List.set_cons_succ, List.set_cons_zero]
            refine wpList_valn (v := .bool true) rfl (exec_lss true rfl (ev rfl) (ev rfl) HL.out) ?_
            simp only [Act.put, List.setIfInBounds_toArray, List.set_cons_succ, List.set_cons_zero]
            refine wpList_nil ?_
            go_upto_region 25 with fail
            refine wp_region_lit ?_
            refine wpList_valn rfl (exec_mv rfl (ev rfl)) ?_
            simp only [Act.put, List.setIfInBounds_toArray, List.set_cons_succ, List.set_cons_zero]
            refine wpList_valn rfl (exec_mv rfl (ev rfl)) ?_
            simp only [Act.put, List.setIfInBounds_toArray, List.set_cons_succ, List.set_cons_zero]
            refine wpList_valn rfl (exec_mv rfl (ev rfl)) ?_
            simp only [Act.put, List.setIfInBounds_toArray, List.set_cons_succ, List.set_cons_zero]
            refine wpList_valn rfl (exec_indexE (E := IntE) (b := bd) (off := od) (j := j) rfl ((ev rfl).trans (by rw [HA5.out])) (ev rfl) HJ.out) ?_
            simp only [Act.put, List.setIfInBounds_toArray, List.set_cons_succ, List.set_cons_zero]
            refine wpList_valn rfl (exec_ld rfl (ev rfl) (ldInt HC5.out)) ?_
            simp only [Act.put, List.setIfInBounds_toArray, List.set_cons_succ, List.set_cons_zero]
            refine wpList_call rfl (exec_cl Try.call17 rfl (evc (ev rfl) (evc (ev rfl) evn))) ?_
            refine (LnI.get_v (c := ⟨true, d0, b0⟩) HP5.out HG.out).mono ?_
            rintro e w6 ⟨rfl, b6⟩
            have HB6 := Lib.hid (HB5.out.trans (b6.mono HB5.out.size))
            clear b6
            refine ⟨_, rfl, ?_⟩
            simp only [Act.put, List.setIfInBounds_toArray, List.set_cons_succ, List.set_cons_zero]
            refine wpList_valn rfl (exec_mv rfl (ev rfl)) ?_
            simp only [Act.put, List.setIfInBounds_toArray, List.set_cons_succ, List.set_cons_zero]
            refine wpList_valn rfl (exec_ext rfl (ev rfl) rfl) ?_
            simp only [Act.put, List.setIfInBounds_toArray, List.set_cons_succ, List.set_cons_zero]
            refine wpList_valn (v := .bool true) rfl (exec_ext rfl (ev rfl) rfl) ?_
            simp only [Act.put, List.setIfInBounds_toArray, List.set_cons_succ, List.set_cons_zero]
            refine wpList_valn rfl (exec_alloc rfl) ?_
            simp only [Act.put, List.setIfInBounds_toArray, List.set_cons_succ, List.set_cons_zero]
            refine wpList_nuln rfl (exec_fillN (c := b0) rfl (ev rfl) (ev rfl)) ?_
            simp only [Act.put, List.setIfInBounds_toArray, List.set_cons_succ, List.set_cons_zero]
            have HB7 := Lib.hid (HB6.out.alloc HB6.out.size (.cells (cel b0).toArray 33))
            generalize w6.alloc (.cells (cel b0).toArray 33) = w7 at *
            refine wpList_valn (v := .bool true) rfl (exec_as rfl (ev rfl)) ?_
            simp only [Act.put, List.setIfInBounds_toArray, List.set_cons_succ, List.set_cons_zero]
            refine wpList_nil ?_
            go_upto_region 26 with fail
            refine wp_region_lit ?_
            refine wpList_valn (v := .bool true) rfl (exec_mv rfl (ev rfl)) ?_
            simp only [Act.put, List.setIfInBounds_toArray, List.set_cons_succ, List.set_cons_zero]
            refine wpList_valn (v := .bool false) rfl (exec_not true rfl (ev rfl)) ?_
            simp only [Act.put, List.setIfInBounds_toArray, List.set_cons_succ, List.set_cons_zero]
            refine wpList_nil ?_
            go_upto_region 24 with fail
            refine wp_region_lit ?_
            refine wpList_valn rfl (exec_mv rfl (ev rfl)) ?_
            simp only [Act.put, List.setIfInBounds_toArray, List.set_cons_succ, List.set_cons_zero]
            refine wpList_valn rfl (exec_add rfl (ev rfl) evk HJA.out) ?_
            simp only [Act.put, List.setIfInBounds_toArray, List.set_cons_succ, List.set_cons_zero]
            refine wpList_valn rfl (exec_as rfl (ev rfl)) ?_
            simp only [Act.put, List.setIfInBounds_toArray, List.set_cons_succ, List.set_cons_zero]
            refine wpList_nil ?_
            go_wp2_with fail
            go_roundw
            case rel => exact ⟨j + 1, by go_num, HJ.out, HB7.out⟩
            case measure => have := HJ.out; simp [intOf]; omega
          have HL : Hid (decide ((j : Int) < ((lnD s3).length : Int)) = false) := Lib.hid (decide_eq_false (by omega))
          have HFE : Hid (((s3.f : Int) != (a.Seq : Int)) = false) := Lib.hid (by rw [HF3.out]; exact bne_self_eq_false _)
          clear hj hlt
          go_upto_region 23 with fail
          refine wp_region_lit ?_
          refine wpList_valn rfl (exec_mv rfl (ev rfl)) ?_
          simp only [Act.put, List.setIfInBounds_toArray, List.set_cons_succ, List.set_cons_zero]
          refine wpList_valn rfl (exec_mv rfl (ev rfl)) ?_
          simp only [Act.put, List.setIfInBounds_toArray, List.set_cons_succ, List.set_cons_zero]
          refine wpList_valn rfl (exec_lenE IntE rfl (ev rfl)) ?_
          simp only [Act.put, List.setIfInBounds_toArray, List.set_cons_succ, List.set_cons_zero]
          refine wpList_valn (v := .bool false) rfl (exec_lss false rfl (ev rfl) (ev rfl) HL.out) ?_
          simp only [Act.put, List.setIfInBounds_toArray, List.set_cons_succ, List.set_cons_zero]
          refine wpList_nil ?_
          go_upto_region 28 with fail
          refine wp_region_lit ?_
          refine wpList_valn rfl (exec_mv rfl (ev rfl)) ?_
          simp only [Act.put, List.setIfInBounds_toArray, List.set_cons_succ, List.set_cons_zero]
          refine wpList_call rfl (exec_cl Try.call18 rfl (evc (ev rfl) evn)) ?_
          refine (C.first_ _ HP5.out).mono ?_
          rintro e w8 ⟨rfl, b8⟩
          have HP8 := Lib.hid (LnI.below HP5.out b8)
          have HW8 := Lib.hid ((HW4.out.trans (HB5.out.mono HW4.out.size)).trans (b8.mono (Nat.le_trans HW4.out.size HB5.out.size)))
          clear b8
          refine ⟨_, rfl, ?_⟩
          simp only [Act.put, List.setIfInBounds_toArray, List.set_cons_succ, List.set_cons_zero]
          refine wpList_valn rfl (exec_mv rfl (ev rfl)) ?_
          simp only [Act.put, List.setIfInBounds_toArray, List.set_cons_succ, List.set_cons_zero]
          refine wpList_valn (v := .bool false) rfl (exec_neInt false rfl (ev rfl) (ev rfl) HFE.out) ?_
          simp only [Act.put, List.setIfInBounds_toArray, List.set_cons_succ, List.set_cons_zero]
          refine wpList_nil ?_
          go_upto_region 7 with fail
          refine wp_region_lit ?_
          refine wpList_valn rfl (exec_mv rfl (ev rfl)) ?_
          simp only [Act.put, List.setIfInBounds_toArray, List.set_cons_succ, List.set_cons_zero]
          refine wpList_valn rfl (exec_add rfl (ev rfl) evk HA.out) ?_
          simp only [Act.put, List.setIfInBounds_toArray, List.set_cons_succ, List.set_cons_zero]
          refine wpList_valn rfl (exec_as rfl (ev rfl)) ?_
          simp only [Act.put, List.setIfInBounds_toArray, List.set_cons_succ, List.set_cons_zero]
          refine wpList_nil ?_
          go_wp2_with fail
          go_roundw
          case rel => exact ⟨i + 1, s3, by go_num, HI8.out, by rw [HF3.out] <;> rfl, HP8.out, HW8.out⟩
          case measure => have := HI8.out; simp [intOf]; omega
      have HLT : Hid (decide ((a.Seq : Int) < (s.f : Int)) = false) := Lib.hid (decide_eq_false (by omega))
      have HF3 : Hid (s3.f = s.f) := Lib.hid (by rw [hf3]; exact if_neg (by omega))
      clear hf0 hf3 hlt
      go_upto_region 13 with fail
      refine wp_region_lit ?_
      refine wpList_valn rfl (exec_mv rfl (ev rfl)) ?_
      simp only [Act.put, List.setIfInBounds_toArray, List.set_cons_succ, List.set_cons_zero]
      refine wpList_valn rfl (exec_faddr rfl (ev rfl) faAct171) ?_
      simp only [Act.put, List.setIfInBounds_toArray, List.set_cons_succ, List.set_cons_zero]
      refine wpList_valn rfl (exec_ld rfl (ev rfl) (ldInt HAT.out.f1)) ?_
      simp only [Act.put, List.setIfInBounds_toArray, List.set_cons_succ, List.set_cons_zero]
      refine wpList_valn rfl (exec_faddr rfl (ev rfl) faAct172) ?_
      simp only [Act.put, List.setIfInBounds_toArray, List.set_cons_succ, List.set_cons_zero]
      refine wpList_valn rfl (exec_load rfl (ev rfl) HAT.out.f2) ?_
      simp only [Act.put, List.setIfInBounds_toArray, List.set_cons_succ, List.set_cons_zero]
      refine wpList_valn rfl (exec_faddr rfl (ev rfl) faAct173) ?_
      simp only [Act.put, List.setIfInBounds_toArray, List.set_cons_succ, List.set_cons_zero]
      refine wpList_valn rfl (exec_ld rfl (ev rfl) (ldU64 HAT.out.f3)) ?_
      simp only [Act.put, List.setIfInBounds_toArray, List.set_cons_succ, List.set_cons_zero]
      refine wpList_call rfl (exec_cl Try.call13 rfl (evc (ev rfl) (evc (ev rfl) (evc (ev rfl) (evc (ev rfl) evn))))) ?_
      refine (LnI.set_v HP2.out HIA.out HE0.out HS3.out).mono ?_
      rintro e w3 ⟨rfl, p3, t3⟩
      have HAT3 : Hid (Act17.At_ w3 qb a) := Lib.hid (t3.keep HAT.out (C.own _ _ _ (.inl rfl)))
      have HW3 := Lib.hid (Turn.below HW2.out t3 HW2.out.size)
      have HP3 := Lib.hid p3
      clear p3 t3
      refine ⟨_, rfl, ?_⟩
      simp only [Act.put, List.setIfInBounds_toArray, List.set_cons_succ, List.set_cons_zero]
      refine wpList_valn (v := .bool true) rfl (exec_eqInt true rfl (ev rfl) evk HE.out) ?_
      simp only [Act.put, List.setIfInBounds_toArray, List.set_cons_succ, List.set_cons_zero]
      refine wpList_valn (v := .bool true) rfl (exec_mv rfl (ev rfl)) ?_
      simp only [Act.put, List.setIfInBounds_toArray, List.set_cons_succ, List.set_cons_zero]
      refine wpList_val (wanted_of rfl rfl rfl rfl) (exec_mv rfl (ev rfl)) ?_
      simp only [Act.put, List.setIfInBounds_toArray, List.set_cons_succ, List.set_cons_zero]
      refine wpList_val (v := .bool false) (wanted_of rfl rfl rfl rfl) (exec_eqInt false rfl (ev rfl) evk HF0.out) ?_
      simp only [Act.put, List.setIfInBounds_toArray, List.set_cons_succ, List.set_cons_zero]
      refine wpList_val (v := .bool false) (wanted_of rfl rfl rfl rfl) (exec_mv rfl (ev rfl)) ?_
      simp only [Act.put, List.setIfInBounds_toArray, List.set_cons_succ, List.set_cons_zero]
      refine wpList_val (wanted_of rfl rfl rfl rfl) (exec_faddr rfl (ev rfl) faAct173) ?_
      simp only [Act.put, List.setIfInBounds_toArray, List.set_cons_succ, List.set_cons_zero]
      refine wpList_val (wanted_of rfl rfl rfl rfl) (exec_ld rfl (ev rfl) (ldU64 HAT3.out.f3)) ?_
      simp only [Act.put, List.setIfInBounds_toArray, List.set_cons_succ, List.set_cons_zero]
      refine wpList_val (wanted_of rfl rfl rfl rfl) (exec_mv rfl (ev rfl)) ?_
      simp only [Act.put, List.setIfInBounds_toArray, List.set_cons_succ, List.set_cons_zero]
      refine wpList_val (v := .bool false) (wanted_of rfl rfl rfl rfl) (exec_lss false rfl (ev rfl) (ev rfl) HLT.out) ?_
      simp only [Act.put, List.setIfInBounds_toArray, List.set_cons_succ, List.set_cons_zero]
      refine wpList_val (v := .bool false) (wanted_of rfl rfl rfl rfl) (exec_pf rfl (ev rfl) (ev rfl)) ?_
      simp only [Act.put, List.setIfInBounds_toArray, List.set_cons_succ, List.set_cons_zero]
      refine wpList_valn (v := .bool false) rfl (exec_pt rfl (ev rfl) (ev rfl)) ?_
      simp only [Act.put, List.setIfInBounds_toArray, List.set_cons_succ, List.set_cons_zero]
      refine wpList_nil ?_
      go_upto_region 21 with fail
      refine wp_region_lit ?_
      refine wpList_valn rfl (exec_mv rfl (ev rfl)) ?_
      simp only [Act.put, List.setIfInBounds_toArray, List.set_cons_succ, List.set_cons_zero]
      refine wpList_call rfl (exec_cl Try.call16 rfl (evc (ev rfl) evn)) ?_
      refine (C.dirty_ w3 HP3.out).mono ?_
      rintro e w4 ⟨v4, rfl, m4, b4⟩
      obtain ⟨A4, c4, rfl, e41, e42⟩ := m4.form
      have HRD4 := Lib.hid m4.rd
      have HP4 := Lib.hid (LnI.below HP3.out b4)
      have HW4 := Lib.hid (HW3.out.trans (b4.mono HW3.out.size))
      clear m4 e41 e42 b4
      refine ⟨_, rfl, ?_⟩
      simp only [Act.put, List.setIfInBounds_toArray, List.set_cons_succ, List.set_cons_zero]
      refine wpList_valn rfl (exec_as rfl (ev rfl)) ?_
      simp only [Act.put, List.setIfInBounds_toArray, List.set_cons_succ, List.set_cons_zero]
      refine wpList_nil ?_
      have HD16 : Hid ((lnD s3).length ≤ 16) := Lib.hid (Nat.le_trans (drt_len _ _) (C.ok HP4.out).1.hi)
      go_wp2_with fail
      go_loopw [9] (fun z wr => ∃ j : Nat, z = .int .i64 j ∧ j ≤ (lnD s3).length ∧ Below w4.heap.size w4 wr) (fun z _ => (lnD s3).length - (intOf z).toNat)
      case atStart => exact ⟨0, by go_num, Nat.zero_le _, Below.refl _ _⟩
      case round =>
        obtain ⟨j, rfl, hj, hb⟩ := hrel
        have HP5 := Lib.hid (LnI.below HP4.out hb)
        have HB5 := Lib.hid hb
        have HRD5 := Lib.hid (HRD4.out.below hb)
        clear hb
        by_cases hlt : j < (lnD s3).length
        · have HJ := Lib.hid hlt
          have HL : Hid (decide ((j : Int) < ((lnD s3).length : Int)) = true) := Lib.hid (decide_eq_true (by omega))
          have HJA : Hid (IntKind.i64.wrap ((j : Int) + 1) = ((j + 1 : Nat) : Int)) := Lib.hid (by have := HD16.out; rw [i64k_ ⟨by omega, by omega⟩]; omega)
          obtain ⟨d0, b0, hg⟩ := ln_known (C.ok HP5.out).1 hlt
          obtain ⟨bd, od, hA5, hc5⟩ := HRD5.out.int17 hlt
          have HG := Lib.hid hg
          have HA5 := Lib.hid hA5
          have HC5 := Lib.hid hc5
          clear hj hlt hg hA5 hc5
          go_upto_region 23 with fail
          refine wp_region_lit ?_
          refine wpList_valn rfl (exec_mv rfl (ev rfl)) ?_
          simp only [Act.put, List.setIfInBounds_toArray, List.set_cons_succ, List.set_cons_zero]
          refine wpList_valn rfl (exec_mv rfl (ev rfl)) ?_
          simp only [Act.put, List.setIfInBounds_toArray, List.set_cons_succ, List.set_cons_zero]
          refine wpList_valn rfl (exec_lenE IntE rfl (ev rfl)) ?_
          simp only [Act.put, List.setIfInBounds_toArray, List.set_cons_succ, List.set_cons_zero]
          refine wpList_valn (v := .bool true) rfl (exec_lss true rfl (ev rfl) (ev rfl) HL.out) ?_
          simp only [Act.put, List.setIfInBounds_toArray, List.set_cons_succ, List.set_cons_zero]
          refine wpList_nil ?_
          go_upto_region 25 with fail
          refine wp_region_lit ?_
          refine wpList_valn rfl (exec_mv rfl (ev rfl)) ?_
          simp only [Act.put, List.setIfInBounds_toArray, List.set_cons_succ, List.set_cons_zero]
          refine wpList_valn rfl (exec_mv rfl (ev rfl)) ?_
          simp only [Act.put, List.setIfInBounds_toArray, List.set_cons_succ, List.set_cons_zero]
          refine wpList_valn rfl (exec_mv rfl (ev rfl)) ?_
          simp only [Act.put, List.setIfInBounds_toArray, List.set_cons_succ, List.set_cons_zero]
          refine wpList_valn rfl (exec_indexE (E := IntE) (b := bd) (off := od) (j := j) rfl ((ev rfl).trans (by rw [HA5.out])) (ev rfl) HJ.out) ?_
          simp only [Act.put, List.setIfInBounds_toArray, List.set_cons_succ, List.set_cons_zero]
          refine wpList_valn rfl (exec_ld rfl (ev rfl) (ldInt HC5.out)) ?_
          simp only [Act.put, List.setIfInBounds_toArray, List.set_cons_succ, List.set_cons_zero]
          refine wpList_call rfl (exec_cl Try.call17 rfl (evc (ev rfl) (evc (ev rfl) evn))) ?_
          refine (LnI.get_v (c := ⟨true, d0, b0⟩) HP5.out HG.out).mono ?_
          rintro e w6 ⟨rfl, b6⟩
          have HB6 := Lib.hid (HB5.out.trans (b6.mono HB5.out.size))
          clear b6
          refine ⟨_, rfl, ?_⟩
          simp only [Act.put, List.setIfInBounds_toArray, List.set_cons_succ, List.set_cons_zero]
          refine wpList_valn rfl (exec_mv rfl (ev rfl)) ?_
          simp only [Act.put, List.setIfInBounds_toArray, List.set_cons_succ, List.set_cons_zero]
          refine wpList_valn rfl (exec_ext rfl (ev rfl) rfl) ?_
          simp only [Act.put, List.setIfInBounds_toArray, List.set_cons_succ, List.set_cons_zero]
          refine wpList_valn (v := .bool true) rfl (exec_ext rfl (ev rfl) rfl) ?_
          simp only [Act.put, List.setIfInBounds_toArray, List.set_cons_succ, List.set_cons_zero]
          refine wpList_valn rfl (exec_alloc rfl) ?_
          simp only [Act.put, List.setIfInBounds_toArray, List.set_cons_succ, List.set_cons_zero]
          refine wpList_nuln rfl (exec_fillN (c := b0) rfl (ev rfl) (ev rfl)) ?_
          simp only [Act.put, List.setIfInBounds_toArray, List.set_cons_succ, List.set_cons_zero]
          have HB7 := Lib.hid (HB6.out.alloc HB6.out.size (.cells (cel b0).toArray 33))
          generalize w6.alloc (.cells (cel b0).toArray 33) = w7 at *
          refine wpList_valn (v := .bool true) rfl (exec_as rfl (ev rfl)) ?_
          simp only [Act.put, List.setIfInBounds_toArray, List.set_cons_succ, List.set_cons_zero]
          refine wpList_nil ?_
          go_upto_region 26 with fail
          refine wp_region_lit ?_
          refine wpList_valn (v := .bool true) rfl (exec_mv rfl (ev rfl)) ?_
          simp only [Act.put, List.setIfInBounds_toArray, List.set_cons_succ, List.set_cons_zero]
          refine wpList_valn (v := .bool false) rfl (exec_not true rfl (ev rfl)) ?_
          simp only [Act.put, List.setIfInBounds_toArray, List.set_cons_succ, List.set_cons_zero]
          refine wpList_nil ?_
          go_upto_region 24 with fail
          refine wp_region_lit ?_
          refine wpList_valn rfl (exec_mv rfl (ev rfl)) ?_
          simp only [Act.put, List.setIfInBounds_toArray, List.set_cons_succ, List.set_cons_zero]
          refine wpList_valn rfl (exec_add rfl (ev rfl) evk HJA.out) ?_
          simp only [Act.put, List.setIfInBounds_toArray, List.set_cons_succ, List.set_cons_zero]
          refine wpList_valn rfl (exec_as rfl (ev rfl)) ?_
          simp only [Act.put, List.setIfInBounds_toArray, List.set_cons_succ, List.set_cons_zero]
          refine wpList_nil ?_
          go_wp2_with fail
          go_roundw
          case rel => exact ⟨j + 1, by go_num, HJ.out, HB7.out⟩
          case measure => have := HJ.out; simp [intOf]; omega
        have HL : Hid (decide ((j : Int) < ((lnD s3).length : Int)) = false) := Lib.hid (decide_eq_false (by omega))
        have HFE : Hid (((s3.f : Int) != (s.f : Int)) = false) := Lib.hid (by rw [HF3.out]; exact bne_self_eq_false _)
        clear hj hlt
        go_upto_region 23 with fail
        refine wp_region_lit ?_
        refine wpList_valn rfl (exec_mv rfl (ev rfl)) ?_
        simp only [Act.put, List.setIfInBounds_toArray, List.set_cons_succ, List.set_cons_zero]
        refine wpList_valn rfl (exec_mv rfl (ev rfl)) ?_
        simp only [Act.put, List.setIfInBounds_toArray, List.set_cons_succ, List.set_cons_zero]
        refine wpList_valn rfl (exec_lenE IntE rfl (ev rfl)) ?_
        simp only [Act.put, List.setIfInBounds_toArray, List.set_cons_succ, List.set_cons_zero]
        refine wpList_valn (v := .bool false) rfl (exec_lss false rfl (ev rfl) (ev rfl) HL.out) ?_
        simp only [Act.put, List.setIfInBounds_toArray, List.set_cons_succ, List.set_cons_zero]
        refine wpList_nil ?_
        go_upto_region 28 with fail
        refine wp_region_lit ?_
        refine wpList_valn rfl (exec_mv rfl (ev rfl)) ?_
        simp only [Act.put, List.setIfInBounds_toArray, List.set_cons_succ, List.set_cons_zero]
        refine wpList_call rfl (exec_cl Try.call18 rfl (evc (ev rfl) evn)) ?_
        refine (C.first_ _ HP5.out).mono ?_
        rintro e w8 ⟨rfl, b8⟩
        have HP8 := Lib.hid (LnI.below HP5.out b8)
        have HW8 := Lib.hid ((HW4.out.trans (HB5.out.mono HW4.out.size)).trans (b8.mono (Nat.le_trans HW4.out.size HB5.out.size)))
        clear b8
        refine ⟨_, rfl, ?_⟩
        simp only [Act.put, List.setIfInBounds_toArray, List.set_cons_succ, List.set_cons_zero]
        refine wpList_valn rfl (exec_mv rfl (ev rfl)) ?_
        simp only [Act.put, List.setIfInBounds_toArray, List.set_cons_succ, List.set_cons_zero]
        refine wpList_valn (v := .bool false) rfl (exec_neInt false rfl (ev rfl) (ev rfl) HFE.out) ?_
        simp only [Act.put, List.setIfInBounds_toArray, List.set_cons_succ, List.set_cons_zero]
        refine wpList_nil ?_
        go_upto_region 7 with fail
        refine wp_region_lit ?_
        refine wpList_valn rfl (exec_mv rfl (ev rfl)) ?_
        simp only [Act.put, List.setIfInBounds_toArray, List.set_cons_succ, List.set_cons_zero]
        refine wpList_valn rfl (exec_add rfl (ev rfl) evk HA.out) ?_
        simp only [Act.put, List.setIfInBounds_toArray, List.set_cons_succ, List.set_cons_zero]
        refine wpList_valn rfl (exec_as rfl (ev rfl)) ?_
        simp only [Act.put, List.setIfInBounds_toArray, List.set_cons_succ, List.set_cons_zero]
        refine wpList_nil ?_
        go_wp2_with fail
        go_roundw
        case rel => exact ⟨i + 1, s3, by go_num, HI8.out, by rw [HF3.out] <;> rfl, HP8.out, HW8.out⟩
        case measure => have := HI8.out; simp [intOf]; omega
    have H1 := Lib.hid h1
    clear h1
    go_upto_region 12 with fail
    refine wp_region_lit ?_
    refine wpList_valn (v := .bool false) rfl (exec_eqInt false rfl (ev rfl) evk H1.out) ?_
    simp only [Act.put, List.setIfInBounds_toArray, List.set_cons_succ, List.set_cons_zero]
    refine wpList_valn (v := .bool false) rfl (exec_as rfl (ev rfl)) ?_
    simp only [Act.put, List.setIfInBounds_toArray, List.set_cons_succ, List.set_cons_zero]
    refine wpList_nil ?_
    cases h2 : (a.Do == 2)
    rotate_left 1
    · have H2 := Lib.hid h2
      clear h2
      go_upto_region 15 with fail
      refine wp_region_lit ?_
      refine wpList_valn (v := .bool true) rfl (exec_eqInt true rfl (ev rfl) evk H2.out) ?_
      simp only [Act.put, List.setIfInBounds_toArray, List.set_cons_succ, List.set_cons_zero]
      refine wpList_valn (v := .bool true) rfl (exec_as rfl (ev rfl)) ?_
      simp only [Act.put, List.setIfInBounds_toArray, List.set_cons_succ, List.set_cons_zero]
      refine wpList_nil ?_
      go_upto_region 16 with fail
      refine wp_region_lit ?_
      refine wpList_valn rfl (exec_mv rfl (ev rfl)) ?_
      simp only [Act.put, List.setIfInBounds_toArray, List.set_cons_succ, List.set_cons_zero]
      refine wpList_valn rfl (exec_faddr rfl (ev rfl) faAct171) ?_
      simp only [Act.put, List.setIfInBounds_toArray, List.set_cons_succ, List.set_cons_zero]
      refine wpList_valn rfl (exec_ld rfl (ev rfl) (ldInt HAT.out.f1)) ?_
      simp only [Act.put, List.setIfInBounds_toArray, List.set_cons_succ, List.set_cons_zero]
      refine wpList_call rfl (exec_cl Try.call14 rfl (evc (ev rfl) (evc (ev rfl) evn))) ?_
      refine (C.forget_ w2 a.Mem HP2.out).mono ?_
      rintro e w3 ⟨rfl, p3, t3⟩
      have HAT3 : Hid (Act17.At_ w3 qb a) := Lib.hid (t3.keep HAT.out (C.own _ _ _ (.inl rfl)))
      have HW3 := Lib.hid (Turn.below HW2.out t3 HW2.out.size)
      obtain ⟨s3, hs3⟩ : ∃ s3, lnFrg s a.Mem = s3 := ⟨_, rfl⟩
      rw [hs3] at p3
      have HP3 := Lib.hid p3
      have HS3 := Lib.hid hs3
      clear p3 t3 hs3
      have HF3 : Hid (s3.f = s.f) := Lib.hid (by rw [← HS3.out]; exact frg_f)
      refine ⟨_, rfl, ?_⟩
      simp only [Act.put, List.setIfInBounds_toArray, List.set_cons_succ, List.set_cons_zero]
      refine wpList_nil ?_
      go_upto_region 21 with fail
      refine wp_region_lit ?_
      refine wpList_valn rfl (exec_mv rfl (ev rfl)) ?_
      simp only [Act.put, List.setIfInBounds_toArray, List.set_cons_succ, List.set_cons_zero]
      refine wpList_call rfl (exec_cl Try.call16 rfl (evc (ev rfl) evn)) ?_
      refine (C.dirty_ w3 HP3.out).mono ?_
      rintro e w4 ⟨v4, rfl, m4, b4⟩
      obtain ⟨A4, c4, rfl, e41, e42⟩ := m4.form
      have HRD4 := Lib.hid m4.rd
      have HP4 := Lib.hid (LnI.below HP3.out b4)
      have HW4 := Lib.hid (HW3.out.trans (b4.mono HW3.out.size))
      clear m4 e41 e42 b4
      refine ⟨_, rfl, ?_⟩
      simp only [Act.put, List.setIfInBounds_toArray, List.set_cons_succ, List.set_cons_zero]
      refine wpList_valn rfl (exec_as rfl (ev rfl)) ?_
      simp only [Act.put, List.setIfInBounds_toArray, List.set_cons_succ, List.set_cons_zero]
      refine wpList_nil ?_
      have HD16 : Hid ((lnD s3).length ≤ 16) := Lib.hid (Nat.le_trans (drt_len _ _) (C.ok HP4.out).1.hi)
      go_wp2_with fail
      go_loopw [9] (fun z wr => ∃ j : Nat, z = .int .i64 j ∧ j ≤ (lnD s3).length ∧ Below w4.heap.size w4 wr) (fun z _ => (lnD s3).length - (intOf z).toNat)
      case atStart => exact ⟨0, by go_num, Nat.zero_le _, Below.refl _ _⟩
      case round =>
        obtain ⟨j, rfl, hj, hb⟩ := hrel
        have HP5 := Lib.hid (LnI.below HP4.out hb)
        have HB5 := Lib.hid hb
        have HRD5 := Lib.hid (HRD4.out.below hb)
        clear hb
        by_cases hlt : j < (lnD s3).length
        · have HJ := Lib.hid hlt
          have HL : Hid (decide ((j : Int) < ((lnD s3).length : Int)) = true) := Lib.hid (decide_eq_true (by omega))
          have HJA : Hid (IntKind.i64.wrap ((j : Int) + 1) = ((j + 1 : Nat) : Int)) := Lib.hid (by have := HD16.out; rw [i64k_ ⟨by omega, by omega⟩]; omega)
          obtain ⟨d0, b0, hg⟩ := ln_known (C.ok HP5.out).1 hlt
          obtain ⟨bd, od, hA5, hc5⟩ := HRD5.out.int17 hlt
          have HG := Lib.hid hg
          have HA5 := Lib.hid hA5
          have HC5 := Lib.hid hc5
          clear hj hlt hg hA5 hc5
          go_upto_region 23 with fail
          refine wp_region_lit ?_
          refine wpList_valn rfl (exec_mv rfl (ev rfl)) ?_
          simp only [Act.put, List.setIfInBounds_toArray, List.set_cons_succ, List.set_cons_zero]
          refine wpList_valn rfl (exec_mv rfl (ev rfl)) ?_
          simp only [Act.put, List.setIfInBounds_toArray, List.set_cons_succ, List.set_cons_zero]
          refine wpList_valn rfl (exec_lenE IntE rfl (ev rfl)) ?_
          simp only [Act.put, List.setIfInBounds_toArray, List.set_cons_succ, List.set_cons_zero]
          refine wpList_valn (v := .bool true) rfl (exec_lss true rfl (ev rfl) (ev rfl) HL.out) ?_
          simp only [Act.put, List.setIfInBounds_toArray, List.set_cons_succ, List.set_cons_zero]
          refine wpList_nil ?_
          go_upto_region 25 with fail
          refine wp_region_lit ?_
          refine wpList_valn rfl (exec_mv rfl (ev rfl)) ?_
          simp only [Act.put, List.setIfInBounds_toArray, List.set_cons_succ, List.set_cons_zero]
          refine wpList_valn rfl (exec_mv rfl (ev rfl)) ?_
          simp only [Act.put, List.setIfInBounds_toArray, List.set_cons_succ, List.set_cons_zero]
          refine wpList_valn rfl (exec_mv rfl (ev rfl)) ?_
          simp only [Act.put, List.setIfInBounds_toArray, List.set_cons_succ, List.set_cons_zero]
          refine wpList_valn rfl (exec_indexE (E := IntE) (b := bd) (off := od) (j := j) rfl ((ev rfl).trans (by rw [HA5.out])) (ev rfl) HJ.out) ?_
          simp only [Act.put, List.setIfInBounds_toArray, List.set_cons_succ, List.set_cons_zero]
          refine wpList_valn rfl (exec_ld rfl (ev rfl) (ldInt HC5.out)) ?_
          simp only [Act.put, List.setIfInBounds_toArray, List.set_cons_succ, List.set_cons_zero]
          refine wpList_call rfl (exec_cl Try.call17 rfl (evc (ev rfl) (evc (ev rfl) evn))) ?_
          refine (LnI.get_v (c := ⟨true, d0, b0⟩) HP5.out HG.out).mono ?_
          rintro e w6 ⟨rfl, b6⟩
          have HB6 := Lib.hid (HB5.out.trans (b6.mono HB5.out.size))
          clear b6
          refine ⟨_, rfl, ?_⟩
          simp only [Act.put, List.setIfInBounds_toArray, List.set_cons_succ, List.set_cons_zero]
          refine wpList_valn rfl (exec_mv rfl (ev rfl)) ?_
          simp only [Act.put, List.setIfInBounds_toArray, List.set_cons_succ, List.set_cons_zero]
          refine wpList_valn rfl (exec_ext rfl (ev rfl) rfl) ?_
          simp only [Act.put, List.setIfInBounds_toArray, List.set_cons_succ, List.set_cons_zero]
          refine wpList_valn (v := .bool true) rfl (exec_ext rfl (ev rfl) rfl) ?_
          simp only [Act.put, List.setIfInBounds_toArray, List.set_cons_succ, List.set_cons_zero]
          refine wpList_valn rfl (exec_alloc rfl) ?_
          simp only [Act.put, List.setIfInBounds_toArray, List.set_cons_succ, List.set_cons_zero]
          refine wpList_nuln rfl (exec_fillN (c := b0) rfl (ev rfl) (ev rfl)) ?_
          simp only [Act.put, List.setIfInBounds_toArray, List.set_cons_succ, List.set_cons_zero]
          have HB7 := Lib.hid (HB6.out.alloc HB6.out.size (.cells (cel b0).toArray 33))
          generalize w6.alloc (.cells (cel b0).toArray 33) = w7 at *
          refine wpList_valn (v := .bool true) rfl (exec_as rfl (ev rfl)) ?_
          simp only [Act.put, List.setIfInBounds_toArray, List.set_cons_succ, List.set_cons_zero]
          refine wpList_nil ?_
          go_upto_region 26 with fail
          refine wp_region_lit ?_
          refine wpList_valn (v := .bool true) rfl (exec_mv rfl (ev rfl)) ?_
          simp only [Act.put, List.setIfInBounds_toArray, List.set_cons_succ, List.set_cons_zero]
          refine wpList_valn (v := .bool false) rfl (exec_not true rfl (ev rfl)) ?_
          simp only [Act.put, List.setIfInBounds_toArray, List.set_cons_succ, List.set_cons_zero]
          refine wpList_nil ?_
          go_upto_region 24 with fail
          refine wp_region_lit ?_
          refine wpList_valn rfl (exec_mv rfl (ev rfl)) ?_
          simp only [Act.put, List.setIfInBounds_toArray, List.set_cons_succ, List.set_cons_zero]
          refine wpList_valn rfl (exec_add rfl (ev rfl) evk HJA.out) ?_
          simp only [Act.put, List.setIfInBounds_toArray, List.set_cons_succ, List.set_cons_zero]
          refine wpList_valn rfl (exec_as rfl (ev rfl)) ?_
          simp only [Act.put, List.setIfInBounds_toArray, List.set_cons_succ, List.set_cons_zero]
          refine wpList_nil ?_
          go_wp2_with fail
          go_roundw
          case rel => exact ⟨j + 1, by go_num, HJ.out, HB7.out⟩
          case measure => have := HJ.out; simp [intOf]; omega
        have HL : Hid (decide ((j : Int) < ((lnD s3).length : Int)) = false) := Lib.hid (decide_eq_false (by omega))
        have HFE : Hid (((s3.f : Int) != (s.f : Int)) = false) := Lib.hid (by rw [HF3.out]; exact bne_self_eq_false _)
        clear hj hlt
        go_upto_region 23 with fail
        refine wp_region_lit ?_
        refine wpList_valn rfl (exec_mv rfl (ev rfl)) ?_
        simp only [Act.put, List.setIfInBounds_toArray, List.set_cons_succ, List.set_cons_zero]
        refine wpList_valn rfl (exec_mv rfl (ev rfl)) ?_
        simp only [Act.put, List.setIfInBounds_toArray, List.set_cons_succ, List.set_cons_zero]
        refine wpList_valn rfl (exec_lenE IntE rfl (ev rfl)) ?_
        simp only [Act.put, List.setIfInBounds_toArray, List.set_cons_succ, List.set_cons_zero]
        refine wpList_valn (v := .bool false) rfl (exec_lss false rfl (ev rfl) (ev rfl) HL.out) ?_
        simp only [Act.put, List.setIfInBounds_toArray, List.set_cons_succ, List.set_cons_zero]
        refine wpList_nil ?_
        go_upto_region 28 with fail
        refine wp_region_lit ?_
        refine wpList_valn rfl (exec_mv rfl (ev rfl)) ?_
        simp only [Act.put, List.setIfInBounds_toArray, List.set_cons_succ, List.set_cons_zero]
        refine wpList_call rfl (exec_cl Try.call18 rfl (evc (ev rfl) evn)) ?_
        refine (C.first_ _ HP5.out).mono ?_
        rintro e w8 ⟨rfl, b8⟩
        have HP8 := Lib.hid (LnI.below HP5.out b8)
        have HW8 := Lib.hid ((HW4.out.trans (HB5.out.mono HW4.out.size)).trans (b8.mono (Nat.le_trans HW4.out.size HB5.out.size)))
        clear b8
        refine ⟨_, rfl, ?_⟩
        simp only [Act.put, List.setIfInBounds_toArray, List.set_cons_succ, List.set_cons_zero]
        refine wpList_valn rfl (exec_mv rfl (ev rfl)) ?_
        simp only [Act.put, List.setIfInBounds_toArray, List.set_cons_succ, List.set_cons_zero]
        refine wpList_valn (v := .bool false) rfl (exec_neInt false rfl (ev rfl) (ev rfl) HFE.out) ?_
        simp only [Act.put, List.setIfInBounds_toArray, List.set_cons_succ, List.set_cons_zero]
        refine wpList_nil ?_
        go_upto_region 7 with fail
        refine wp_region_lit ?_
        refine wpList_valn rfl (exec_mv rfl (ev rfl)) ?_
        simp only [Act.put, List.setIfInBounds_toArray, List.set_cons_succ, List.set_cons_zero]
        refine wpList_valn rfl (exec_add rfl (ev rfl) evk HA.out) ?_
        simp only [Act.put, List.setIfInBounds_toArray, List.set_cons_succ, List.set_cons_zero]
        refine wpList_valn rfl (exec_as rfl (ev rfl)) ?_
        simp only [Act.put, List.setIfInBounds_toArray, List.set_cons_succ, List.set_cons_zero]
        refine wpList_nil ?_
        go_wp2_with fail
        go_roundw
        case rel => exact ⟨i + 1, s3, by go_num, HI8.out, by rw [HF3.out] <;> rfl, HP8.out, HW8.out⟩
        case measure => have := HI8.out; simp [intOf]; omega
    have H2 := Lib.hid h2
    clear h2
    go_upto_region 15 with fail
    refine wp_region_lit ?_
    refine wpList_valn (v := .bool false) rfl (exec_eqInt false rfl (ev rfl) evk H2.out) ?_
    simp only [Act.put, List.setIfInBounds_toArray, List.set_cons_succ, List.set_cons_zero]
    refine wpList_valn (v := .bool false) rfl (exec_as rfl (ev rfl)) ?_
    simp only [Act.put, List.setIfInBounds_toArray, List.set_cons_succ, List.set_cons_zero]
    refine wpList_nil ?_
    cases h3 : (a.Do == 3)
    rotate_left 1
    · have H3 := Lib.hid h3
      clear h3
      go_upto_region 17 with fail
      refine wp_region_lit ?_
      refine wpList_valn (v := .bool true) rfl (exec_eqInt true rfl (ev rfl) evk H3.out) ?_
      simp only [Act.put, List.setIfInBounds_toArray, List.set_cons_succ, List.set_cons_zero]
      refine wpList_valn (v := .bool true) rfl (exec_as rfl (ev rfl)) ?_
      simp only [Act.put, List.setIfInBounds_toArray, List.set_cons_succ, List.set_cons_zero]
      refine wpList_nil ?_
      go_upto_region 18 with fail
      refine wp_region_lit ?_
      refine wpList_valn rfl (exec_mv rfl (ev rfl)) ?_
      simp only [Act.put, List.setIfInBounds_toArray, List.set_cons_succ, List.set_cons_zero]
      refine wpList_call rfl (exec_cl Try.call15 rfl (evc (ev rfl) evn)) ?_
      refine (C.clean_ w2 HP2.out).mono ?_
      rintro e w2b ⟨rfl, p3, t3⟩
      have HW2b := Lib.hid (Turn.below HW2.out t3 HW2.out.size)
      have HP2b := Lib.hid p3
      clear p3 t3
      refine ⟨_, rfl, ?_⟩
      simp only [Act.put, List.setIfInBounds_toArray, List.set_cons_succ, List.set_cons_zero]
      refine wpList_valn (v := .bool false) rfl (exec_neInt false rfl (ev rfl) evk rfl) ?_
      simp only [Act.put, List.setIfInBounds_toArray, List.set_cons_succ, List.set_cons_zero]
      refine wpList_valn (v := .bool false) rfl (exec_mv rfl (ev rfl)) ?_
      simp only [Act.put, List.setIfInBounds_toArray, List.set_cons_succ, List.set_cons_zero]
      refine wpList_val (wanted_of rfl rfl rfl rfl) (exec_mv rfl (ev rfl)) ?_
      simp only [Act.put, List.setIfInBounds_toArray, List.set_cons_succ, List.set_cons_zero]
      refine wpList_call (wanted_of rfl rfl rfl rfl) (exec_cl Try.call16 rfl (evc (ev rfl) evn)) ?_
      refine (LnI.dirty_v HP2b.out lnD_cln).mono ?_
      rintro e w3 ⟨v3, rfl, m3, b3⟩
      obtain ⟨A3, c3, rfl, e31, e32⟩ := m3.form
      have HP3 := Lib.hid (LnI.below HP2b.out b3)
      have HW3 := Lib.hid (HW2b.out.trans (b3.mono HW2b.out.size))
      obtain ⟨s3, hs3⟩ : ∃ s3, lnCln s = s3 := ⟨_, rfl⟩
      rw [hs3] at HP3
      have HF3 : Hid (s3.f = 0) := Lib.hid (by rw [← hs3]; rfl)
      clear m3 e31 e32 b3 hs3
      refine ⟨_, rfl, ?_⟩
      simp only [Act.put, List.setIfInBounds_toArray, List.set_cons_succ, List.set_cons_zero]
      refine wpList_val (wanted_of rfl rfl rfl rfl) (exec_lenE IntE rfl (ev rfl)) ?_
      simp only [Act.put, List.setIfInBounds_toArray, List.set_cons_succ, List.set_cons_zero]
      refine wpList_val (v := .bool false) (wanted_of rfl rfl rfl rfl) (exec_neInt false rfl (ev rfl) evk rfl) ?_
      simp only [Act.put, List.setIfInBounds_toArray, List.set_cons_succ, List.set_cons_zero]
      refine wpList_valn (v := .bool false) rfl (exec_pf rfl (ev rfl) (ev rfl)) ?_
      simp only [Act.put, List.setIfInBounds_toArray, List.set_cons_succ, List.set_cons_zero]
      refine wpList_nil ?_
      go_upto_region 20 with fail
      refine wp_region_lit ?_
      refine wpList_valn rfl (exec_as rfl evk) ?_
      simp only [Act.put, List.setIfInBounds_toArray, List.set_cons_succ, List.set_cons_zero]
      refine wpList_nil ?_
      go_upto_region 21 with fail
      refine wp_region_lit ?_
      refine wpList_valn rfl (exec_mv rfl (ev rfl)) ?_
      simp only [Act.put, List.setIfInBounds_toArray, List.set_cons_succ, List.set_cons_zero]
      refine wpList_call rfl (exec_cl Try.call16 rfl (evc (ev rfl) evn)) ?_
      refine (C.dirty_ w3 HP3.out).mono ?_
      rintro e w4 ⟨v4, rfl, m4, b4⟩
      obtain ⟨A4, c4, rfl, e41, e42⟩ := m4.form
      have HRD4 := Lib.hid m4.rd
      have HP4 := Lib.hid (LnI.below HP3.out b4)
      have HW4 := Lib.hid (HW3.out.trans (b4.mono HW3.out.size))
      clear m4 e41 e42 b4
      refine ⟨_, rfl, ?_⟩
      simp only [Act.put, List.setIfInBounds_toArray, List.set_cons_succ, List.set_cons_zero]
      refine wpList_valn rfl (exec_as rfl (ev rfl)) ?_
      simp only [Act.put, List.setIfInBounds_toArray, List.set_cons_succ, List.set_cons_zero]
      refine wpList_nil ?_
      have HD16 : Hid ((lnD s3).length ≤ 16) := Lib.hid (Nat.le_trans (drt_len _ _) (C.ok HP4.out).1.hi)
      go_wp2_with fail
      go_loopw [9] (fun z wr => ∃ j : Nat, z = .int .i64 j ∧ j ≤ (lnD s3).length ∧ Below w4.heap.size w4 wr) (fun z _ => (lnD s3).length - (intOf z).toNat)
      case atStart => exact ⟨0, by go_num, Nat.zero_le _, Below.refl _ _⟩
      case round =>
        obtain ⟨j, rfl, hj, hb⟩ := hrel
        have HP5 := Lib.hid (LnI.below HP4.out hb)
        have HB5 := Lib.hid hb
        have HRD5 := Lib.hid (HRD4.out.below hb)
        clear hb
        by_cases hlt : j < (lnD s3).length
        · have HJ := Lib.hid hlt
          have HL : Hid (decide ((j : Int) < ((lnD s3).length : Int)) = true) := Lib.hid (decide_eq_true (by omega))
          have HJA : Hid (IntKind.i64.wrap ((j : Int) + 1) = ((j + 1 : Nat) : Int)) := Lib.hid (by have := HD16.out; rw [i64k_ ⟨by omega, by omega⟩]; omega)
          obtain ⟨d0, b0, hg⟩ := ln_known (C.ok HP5.out).1 hlt
          obtain ⟨bd, od, hA5, hc5⟩ := HRD5.out.int17 hlt
          have HG := Lib.hid hg
          have HA5 := Lib.hid hA5
          have HC5 := Lib.hid hc5
          clear hj hlt hg hA5 hc5
          go_upto_region 23 with fail
          refine wp_region_lit ?_
          refine wpList_valn rfl (exec_mv rfl (ev rfl)) ?_
          simp only [Act.put, List.setIfInBounds_toArray, List.set_cons_succ, List.set_cons_zero]
          refine wpList_valn rfl (exec_mv rfl (ev rfl)) ?_
          simp only [Act.put, List.setIfInBounds_toArray, List.set_cons_succ, List.set_cons_zero]
          refine wpList_valn rfl (exec_lenE IntE rfl (ev rfl)) ?_
          simp only [Act.put, List.setIfInBounds_toArray, List.set_cons_succ, List.set_cons_zero]
          refine wpList_valn (v := .bool true) rfl (exec_lss true rfl (ev rfl) (ev rfl) HL.out) ?_
          simp only [Act.put, List.setIfInBounds_toArray, List.set_cons_succ, List.set_cons_zero]
          refine wpList_nil ?_
          go_upto_region 25 with fail
          refine wp_region_lit ?_
          refine wpList_valn rfl (exec_mv rfl (ev rfl)) ?_
          simp only [Act.put, List.setIfInBounds_toArray, List.set_cons_succ, List.set_cons_zero]
          refine wpList_valn rfl (exec_mv rfl (ev rfl)) ?_
          simp only [Act.put, List.setIfInBounds_toArray, List.set_cons_succ, List.set_cons_zero]
          refine wpList_valn rfl (exec_mv rfl (ev rfl)) ?_
          simp only [Act.put, List.setIfInBounds_toArray, List.set_cons_succ, List.set_cons_zero]
          refine wpList_valn rfl (exec_indexE (E := IntE) (b := bd) (off := od) (j := j) rfl ((ev rfl).trans (by rw [HA5.out])) (ev rfl) HJ.out) ?_
          simp only [Act.put, List.setIfInBounds_toArray, List.set_cons_succ, List.set_cons_zero]
          refine wpList_valn rfl (exec_ld rfl (ev rfl) (ldInt HC5.out)) ?_
          simp only [Act.put, List.setIfInBounds_toArray, List.set_cons_succ, List.set_cons_zero]
          refine wpList_call rfl (exec_cl Try.call17 rfl (evc (ev rfl) (evc (ev rfl) evn))) ?_
          refine (LnI.get_v (c := ⟨true, d0, b0⟩) HP5.out HG.out).mono ?_
          rintro e w6 ⟨rfl, b6⟩
          have HB6 := Lib.hid (HB5.out.trans (b6.mono HB5.out.size))
          clear b6
          refine ⟨_, rfl, ?_⟩
          simp only [Act.put, List.setIfInBounds_toArray, List.set_cons_succ, List.set_cons_zero]
          refine wpList_valn rfl (exec_mv rfl (ev rfl)) ?_
          simp only [Act.put, List.setIfInBounds_toArray, List.set_cons_succ, List.set_cons_zero]
          refine wpList_valn rfl (exec_ext rfl (ev rfl) rfl) ?_
          simp only [Act.put, List.setIfInBounds_toArray, List.set_cons_succ, List.set_cons_zero]
          refine wpList_valn (v := .bool true) rfl (exec_ext rfl (ev rfl) rfl) ?_
          simp only [Act.put, List.setIfInBounds_toArray, List.set_cons_succ, List.set_cons_zero]
          refine wpList_valn rfl (exec_alloc rfl) ?_
          simp only [Act.put, List.setIfInBounds_toArray, List.set_cons_succ, List.set_cons_zero]
          refine wpList_nuln rfl (exec_fillN (c := b0) rfl (ev rfl) (ev rfl)) ?_
          simp only [Act.put, List.setIfInBounds_toArray, List.set_cons_succ, List.set_cons_zero]
          have HB7 := Lib.hid (HB6.out.alloc HB6.out.size (.cells (cel b0).toArray 33))
          generalize w6.alloc (.cells (cel b0).toArray 33) = w7 at *
          refine wpList_valn (v := .bool true) rfl (exec_as rfl (ev rfl)) ?_
          simp only [Act.put, List.setIfInBounds_toArray, List.set_cons_succ, List.set_cons_zero]
          refine wpList_nil ?_
          go_upto_region 26 with fail
          refine wp_region_lit ?_
          refine wpList_valn (v := .bool true) rfl (exec_mv rfl (ev rfl)) ?_
          simp only [Act.put, List.setIfInBounds_toArray, List.set_cons_succ, List.set_cons_zero]
          refine wpList_valn (v := .bool false) rfl (exec_not true rfl (ev rfl)) ?_
          simp only [Act.put, List.setIfInBounds_toArray, List.set_cons_succ, List.set_cons_zero]
          refine wpList_nil ?_
          go_upto_region 24 with fail
          refine wp_region_lit ?_
          refine wpList_valn rfl (exec_mv rfl (ev rfl)) ?_
          simp only [Act.put, List.setIfInBounds_toArray, List.set_cons_succ, List.set_cons_zero]
          refine wpList_valn rfl (exec_add rfl (ev rfl) evk HJA.out) ?_
          simp only [Act.put, List.setIfInBounds_toArray, List.set_cons_succ, List.set_cons_zero]
          refine wpList_valn rfl (exec_as rfl (ev rfl)) ?_
          simp only [Act.put, List.setIfInBounds_toArray, List.set_cons_succ, List.set_cons_zero]
          refine wpList_nil ?_
          go_wp2_with fail
          go_roundw
          case rel => exact ⟨j + 1, by go_num, HJ.out, HB7.out⟩
          case measure => have := HJ.out; simp [intOf]; omega
        have HL : Hid (decide ((j : Int) < ((lnD s3).length : Int)) = false) := Lib.hid (decide_eq_false (by omega))
        have HFE : Hid (((s3.f : Int) != (((0 : Nat) : Int) : Int)) = false) := Lib.hid (by rw [HF3.out]; exact bne_self_eq_false _)
        clear hj hlt
        go_upto_region 23 with fail
        refine wp_region_lit ?_
        refine wpList_valn rfl (exec_mv rfl (ev rfl)) ?_
        simp only [Act.put, List.setIfInBounds_toArray, List.set_cons_succ, List.set_cons_zero]
        refine wpList_valn rfl (exec_mv rfl (ev rfl)) ?_
        simp only [Act.put, List.setIfInBounds_toArray, List.set_cons_succ, List.set_cons_zero]
        refine wpList_valn rfl (exec_lenE IntE rfl (ev rfl)) ?_
        simp only [Act.put, List.setIfInBounds_toArray, List.set_cons_succ, List.set_cons_zero]
        refine wpList_valn (v := .bool false) rfl (exec_lss false rfl (ev rfl) (ev rfl) HL.out) ?_
        simp only [Act.put, List.setIfInBounds_toArray, List.set_cons_succ, List.set_cons_zero]
        refine wpList_nil ?_
        go_upto_region 28 with fail
        refine wp_region_lit ?_
        refine wpList_valn rfl (exec_mv rfl (ev rfl)) ?_
        simp only [Act.put, List.setIfInBounds_toArray, List.set_cons_succ, List.set_cons_zero]
        refine wpList_call rfl (exec_cl Try.call18 rfl (evc (ev rfl) evn)) ?_
        refine (C.first_ _ HP5.out).mono ?_
        rintro e w8 ⟨rfl, b8⟩
        have HP8 := Lib.hid (LnI.below HP5.out b8)
        have HW8 := Lib.hid ((HW4.out.trans (HB5.out.mono HW4.out.size)).trans (b8.mono (Nat.le_trans HW4.out.size HB5.out.size)))
        clear b8
        refine ⟨_, rfl, ?_⟩
        simp only [Act.put, List.setIfInBounds_toArray, List.set_cons_succ, List.set_cons_zero]
        refine wpList_valn rfl (exec_mv rfl (ev rfl)) ?_
        simp only [Act.put, List.setIfInBounds_toArray, List.set_cons_succ, List.set_cons_zero]
        refine wpList_valn (v := .bool false) rfl (exec_neInt false rfl (ev rfl) (ev rfl) HFE.out) ?_
        simp only [Act.put, List.setIfInBounds_toArray, List.set_cons_succ, List.set_cons_zero]
        refine wpList_nil ?_
        go_upto_region 7 with fail
        refine wp_region_lit ?_
        refine wpList_valn rfl (exec_mv rfl (ev rfl)) ?_
        simp only [Act.put, List.setIfInBounds_toArray, List.set_cons_succ, List.set_cons_zero]
        refine wpList_valn rfl (exec_add rfl (ev rfl) evk HA.out) ?_
        simp only [Act.put, List.setIfInBounds_toArray, List.set_cons_succ, List.set_cons_zero]
        refine wpList_valn rfl (exec_as rfl (ev rfl)) ?_
        simp only [Act.put, List.setIfInBounds_toArray, List.set_cons_succ, List.set_cons_zero]
        refine wpList_nil ?_
        go_wp2_with fail
        go_roundw
        case rel => exact ⟨i + 1, s3, by go_num, HI8.out, by rw [HF3.out] <;> rfl, HP8.out, HW8.out⟩
        case measure => have := HI8.out; simp [intOf]; omega
    have H3 := Lib.hid h3
    have HP3 := HP2
    have HW3 := HW2
    obtain ⟨w3, hw3⟩ : ∃ w3, w2 = w3 := ⟨_, rfl⟩
    obtain ⟨s3, hs3⟩ : ∃ s3, s = s3 := ⟨_, rfl⟩
    rw [hw3] at HP3 HW3
    rw [hs3] at HP3
    have HF3 : Hid (s3.f = s.f) := Lib.hid (by rw [hs3])
    clear h3
    go_upto_region 17 with fail
    refine wp_region_lit ?_
    refine wpList_valn (v := .bool false) rfl (exec_eqInt false rfl (ev rfl) evk H3.out) ?_
    simp only [Act.put, List.setIfInBounds_toArray, List.set_cons_succ, List.set_cons_zero]
    refine wpList_valn (v := .bool false) rfl (exec_as rfl (ev rfl)) ?_
    simp only [Act.put, List.setIfInBounds_toArray, List.set_cons_succ, List.set_cons_zero]
    refine wpList_nil ?_
    rw [hw3]
    go_upto_region 21 with fail
    refine wp_region_lit ?_
    refine wpList_valn rfl (exec_mv rfl (ev rfl)) ?_
    simp only [Act.put, List.setIfInBounds_toArray, List.set_cons_succ, List.set_cons_zero]
    refine wpList_call rfl (exec_cl Try.call16 rfl (evc (ev rfl) evn)) ?_
    refine (C.dirty_ w3 HP3.out).mono ?_
    rintro e w4 ⟨v4, rfl, m4, b4⟩
    obtain ⟨A4, c4, rfl, e41, e42⟩ := m4.form
    have HRD4 := Lib.hid m4.rd
    have HP4 := Lib.hid (LnI.below HP3.out b4)
    have HW4 := Lib.hid (HW3.out.trans (b4.mono HW3.out.size))
    clear m4 e41 e42 b4
    refine ⟨_, rfl, ?_⟩
    simp only [Act.put, List.setIfInBounds_toArray, List.set_cons_succ, List.set_cons_zero]
    refine wpList_valn rfl (exec_as rfl (ev rfl)) ?_
    simp only [Act.put, List.setIfInBounds_toArray, List.set_cons_succ, List.set_cons_zero]
    refine wpList_nil ?_
    have HD16 : Hid ((lnD s3).length ≤ 16) := Lib.hid (Nat.le_trans (drt_len _ _) (C.ok HP4.out).1.hi)
    go_wp2_with fail
    go_loopw [9] (fun z wr => ∃ j : Nat, z = .int .i64 j ∧ j ≤ (lnD s3).length ∧ Below w4.heap.size w4 wr) (fun z _ => (lnD s3).length - (intOf z).toNat)
    case atStart => exact ⟨0, by go_num, Nat.zero_le _, Below.refl _ _⟩
    case round =>
      obtain ⟨j, rfl, hj, hb⟩ := hrel
      have HP5 := Lib.hid (LnI.below HP4.out hb)
      have HB5 := Lib.hid hb
      have HRD5 := Lib.hid (HRD4.out.below hb)
      clear hb
      by_cases hlt : j < (lnD s3).length
      · have HJ := Lib.hid hlt
        have HL : Hid (decide ((j : Int) < ((lnD s3).length : Int)) = true) := Lib.hid (decide_eq_true (by omega))
        have HJA : Hid (IntKind.i64.wrap ((j : Int) + 1) = ((j + 1 : Nat) : Int)) := Lib.hid (by have := HD16.out; rw [i64k_ ⟨by omega, by omega⟩]; omega)
        obtain ⟨d0, b0, hg⟩ := ln_known (C.ok HP5.out).1 hlt
        obtain ⟨bd, od, hA5, hc5⟩ := HRD5.out.int17 hlt
        have HG := Lib.hid hg
        have HA5 := Lib.hid hA5
        have HC5 := Lib.hid hc5
        clear hj hlt hg hA5 hc5
        go_upto_region 23 with fail
        refine wp_region_lit ?_
        refine wpList_valn rfl (exec_mv rfl (ev rfl)) ?_
        simp only [Act.put, List.setIfInBounds_toArray, List.set_cons_succ, List.set_cons_zero]
        refine wpList_valn rfl (exec_mv rfl (ev rfl)) ?_
        simp only [Act.put, List.setIfInBounds_toArray, List.set_cons_succ, List.set_cons_zero]
        refine wpList_valn rfl (exec_lenE IntE rfl (ev rfl)) ?_
        simp only [Act.put, List.setIfInBounds_toArray, List.set_cons_succ, List.set_cons_zero]
        refine wpList_valn (v := .bool true) rfl (exec_lss true rfl (ev rfl) (ev rfl) HL.out) ?_
        simp only [Act.put, List.setIfInBounds_toArray, List.set_cons_succ, List.set_cons_zero]
        refine wpList_nil ?_
        go_upto_region 25 with fail
        refine wp_region_lit ?_
        refine wpList_valn rfl (exec_mv rfl (ev rfl)) ?_
        simp only [Act.put, List.setIfInBounds_toArray, List.set_cons_succ, List.set_cons_zero]
        refine wpList_valn rfl (exec_mv rfl (ev rfl)) ?_
        simp only [Act.put, List.setIfInBounds_toArray, List.set_cons_succ, List.set_cons_zero]
        refine wpList_valn rfl (exec_mv rfl (ev rfl)) ?_
        simp only [Act.put, List.setIfInBounds_toArray, List.set_cons_succ, List.set_cons_zero]
        refine wpList_valn rfl (exec_indexE (E := IntE) (b := bd) (off := od) (j := j) rfl ((ev rfl).trans (by rw [HA5.out])) (ev rfl) HJ.out) ?_
        simp only [Act.put, List.setIfInBounds_toArray, List.set_cons_succ, List.set_cons_zero]
        refine wpList_valn rfl (exec_ld rfl (ev rfl) (ldInt HC5.out)) ?_
        simp only [Act.put, List.setIfInBounds_toArray, List.set_cons_succ, List.set_cons_zero]
        refine wpList_call rfl (exec_cl Try.call17 rfl (evc (ev rfl) (evc (ev rfl) evn))) ?_
        refine (LnI.get_v (c := ⟨true, d0, b0⟩) HP5.out HG.out).mono ?_
        rintro e w6 ⟨rfl, b6⟩
        have HB6 := Lib.hid (HB5.out.trans (b6.mono HB5.out.size))
        clear b6
        refine ⟨_, rfl, ?_⟩
        simp only [Act.put, List.setIfInBounds_toArray, List.set_cons_succ, List.set_cons_zero]
        refine wpList_valn rfl (exec_mv rfl (ev rfl)) ?_
        simp only [Act.put, List.setIfInBounds_toArray, List.set_cons_succ, List.set_cons_zero]
        refine wpList_valn rfl (exec_ext rfl (ev rfl) rfl) ?_
        simp only [Act.put, List.setIfInBounds_toArray, List.set_cons_succ, List.set_cons_zero]
        refine wpList_valn (v := .bool true) rfl (exec_ext rfl (ev rfl) rfl) ?_
        simp only [Act.put, List.setIfInBounds_toArray, List.set_cons_succ, List.set_cons_zero]
        refine wpList_valn rfl (exec_alloc rfl) ?_
        simp only [Act.put, List.setIfInBounds_toArray, List.set_cons_succ, List.set_cons_zero]
        refine wpList_nuln rfl (exec_fillN (c := b0) rfl (ev rfl) (ev rfl)) ?_
        simp only [Act.put, List.setIfInBounds_toArray, List.set_cons_succ, List.set_cons_zero]
        have HB7 := Lib.hid (HB6.out.alloc HB6.out.size (.cells (cel b0).toArray 33))
        generalize w6.alloc (.cells (cel b0).toArray 33) = w7 at *
        refine wpList_valn (v := .bool true) rfl (exec_as rfl (ev rfl)) ?_
        simp only [Act.put, List.setIfInBounds_toArray, List.set_cons_succ, List.set_cons_zero]
        refine wpList_nil ?_
        go_upto_region 26 with fail
        refine wp_region_lit ?_
        refine wpList_valn (v := .bool true) rfl (exec_mv rfl (ev rfl)) ?_
        simp only [Act.put, List.setIfInBounds_toArray, List.set_cons_succ, List.set_cons_zero]
        refine wpList_valn (v := .bool false) rfl (exec_not true rfl (ev rfl)) ?_
        simp only [Act.put, List.setIfInBounds_toArray, List.set_cons_succ, List.set_cons_zero]
        refine wpList_nil ?_
        go_upto_region 24 with fail
        refine wp_region_lit ?_
        refine wpList_valn rfl (exec_mv rfl (ev rfl)) ?_
        simp only [Act.put, List.setIfInBounds_toArray, List.set_cons_succ, List.set_cons_zero]
        refine wpList_valn rfl (exec_add rfl (ev rfl) evk HJA.out) ?_
        simp only [Act.put, List.setIfInBounds_toArray, List.set_cons_succ, List.set_cons_zero]
        refine wpList_valn rfl (exec_as rfl (ev rfl)) ?_
        simp only [Act.put, List.setIfInBounds_toArray, List.set_cons_succ, List.set_cons_zero]
        refine wpList_nil ?_
        go_wp2_with fail
        go_roundw
        case rel => exact ⟨j + 1, by go_num, HJ.out, HB7.out⟩
        case measure => have := HJ.out; simp [intOf]; omega
      have HL : Hid (decide ((j : Int) < ((lnD s3).length : Int)) = false) := Lib.hid (decide_eq_false (by omega))
      have HFE : Hid (((s3.f : Int) != (s.f : Int)) = false) := Lib.hid (by rw [HF3.out]; exact bne_self_eq_false _)
      clear hj hlt
      go_upto_region 23 with fail
      refine wp_region_lit ?_
      refine wpList_valn rfl (exec_mv rfl (ev rfl)) ?_
      simp only [Act.put, List.setIfInBounds_toArray, List.set_cons_succ, List.set_cons_zero]
      refine wpList_valn rfl (exec_mv rfl (ev rfl)) ?_
      simp only [Act.put, List.setIfInBounds_toArray, List.set_cons_succ, List.set_cons_zero]
      refine wpList_valn rfl (exec_lenE IntE rfl (ev rfl)) ?_
      simp only [Act.put, List.setIfInBounds_toArray, List.set_cons_succ, List.set_cons_zero]
      refine wpList_valn (v := .bool false) rfl (exec_lss false rfl (ev rfl) (ev rfl) HL.out) ?_
      simp only [Act.put, List.setIfInBounds_toArray, List.set_cons_succ, List.set_cons_zero]
      refine wpList_nil ?_
      go_upto_region 28 with fail
      refine wp_region_lit ?_
      refine wpList_valn rfl (exec_mv rfl (ev rfl)) ?_
      simp only [Act.put, List.setIfInBounds_toArray, List.set_cons_succ, List.set_cons_zero]
      refine wpList_call rfl (exec_cl Try.call18 rfl (evc (ev rfl) evn)) ?_
      refine (C.first_ _ HP5.out).mono ?_
      rintro e w8 ⟨rfl, b8⟩
      have HP8 := Lib.hid (LnI.below HP5.out b8)
      have HW8 := Lib.hid ((HW4.out.trans (HB5.out.mono HW4.out.size)).trans (b8.mono (Nat.le_trans HW4.out.size HB5.out.size)))
      clear b8
      refine ⟨_, rfl, ?_⟩
      simp only [Act.put, List.setIfInBounds_toArray, List.set_cons_succ, List.set_cons_zero]
      refine wpList_valn rfl (exec_mv rfl (ev rfl)) ?_
      simp only [Act.put, List.setIfInBounds_toArray, List.set_cons_succ, List.set_cons_zero]
      refine wpList_valn (v := .bool false) rfl (exec_neInt false rfl (ev rfl) (ev rfl) HFE.out) ?_
      simp only [Act.put, List.setIfInBounds_toArray, List.set_cons_succ, List.set_cons_zero]
      refine wpList_nil ?_
      go_upto_region 7 with fail
      refine wp_region_lit ?_
      refine wpList_valn rfl (exec_mv rfl (ev rfl)) ?_
      simp only [Act.put, List.setIfInBounds_toArray, List.set_cons_succ, List.set_cons_zero]
      refine wpList_valn rfl (exec_add rfl (ev rfl) evk HA.out) ?_
      simp only [Act.put, List.setIfInBounds_toArray, List.set_cons_succ, List.set_cons_zero]
      refine wpList_valn rfl (exec_as rfl (ev rfl)) ?_
      simp only [Act.put, List.setIfInBounds_toArray, List.set_cons_succ, List.set_cons_zero]
      refine wpList_nil ?_
      go_wp2_with fail
      go_roundw
      case rel => exact ⟨i + 1, s3, by go_num, HI8.out, by rw [HF3.out] <;> rfl, HP8.out, HW8.out⟩
      case measure => have := HI8.out; simp [intOf]; omega
end Go.Proofs.Ytmhcpiafhbnclaa
