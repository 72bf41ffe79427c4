/-
  LruPlays: both lists side by side.
-/
import Derived.Test.YtmnabdojlekjcaaLuF
import Derived.Test.YtmnabdojlekjcaaLuG
import Derived.Test.YtmnabdojlekjcaaLuO
import Derived.Test.YtmnabdojlekjcaaCvI
import Derived.OrdersHeld
namespace Go.Proofs.Ytmnabdojlekjcaa
open Go.RowKit
set_option linter.unusedVariables false
set_option linter.unusedSimpArgs false
set_option maxRecDepth 100000

section
variable {w w' : World} {B p q room : Nat} {L : List Ky} {a : Act15}
theorem RdE.int1 {w : World} {N n : Nat} {A : Option Addr} {l : List Int} (h : RdE IntE w N A n l) {j : Nat} (hj : j < n) : ∃ b off, A = some ⟨b, off, none⟩ ∧ b < N ∧ w.cell? ⟨b, off + j * IntE.n, none⟩ = some (.int .i64 (l.getD j 0)) := by
  obtain ⟨b, off, e, hb, hc⟩ := h.2 j hj
  exact ⟨b, off, e, hb, hc 0 _ rfl⟩
set_option maxHeartbeats 1000000 in
theorem key_plain (w : World) (h : RL w B q room L) (hin : a.In w) (hn : a.Nth = false) : Calls Try.prog 21 #[.pointer (some ⟨q, 0, none⟩), a.V] w fun e w' => ∃ k, e = .returned (.int .i64 k) ∧ (Lit.int .i64 k).wf = true ∧ Below w.heap.size w w' := by
  obtain ⟨w1, hw1⟩ : ∃ w1, w.alloc (.cells a.C.toArray 33) = w1 := ⟨_, rfl⟩
  have hb1 : Below w.heap.size w w1 := by rw [← hw1]; exact (Below.refl _ _).alloc (Nat.le_refl _) _
  have hat : Act15.At_ w1 w.heap.size a := by rw [← hw1]; exact Act15.At_.new w a
  have HW1 := Lib.hid hw1
  have HB1 := Lib.hid hb1
  have HAT := Lib.hid hat
  have HL := Lib.hid (h.below hb1)
  have HNT := Lib.hid hn
  have HWF := Lib.hid (wf_i hin.2)
  clear h hin hn hw1 hb1 hat
  go_enter Try.func21, Try.ntmps21
  go_upto_region 0 with fail
  refine wp_region_lit ?_
  refine wpList_valn rfl (exec_boxAct15 (a := a) rfl (ev rfl)) ?_
  simp only [Act.put, List.setIfInBounds_toArray, List.set_cons_succ, List.set_cons_zero]
  rw [HW1.out]
  refine wpList_valn rfl (exec_as rfl evk) ?_
  simp only [Act.put, List.setIfInBounds_toArray, List.set_cons_succ, List.set_cons_zero]
  refine wpList_nil ?_
  go_upto_region 1 with fail
  refine wp_region_lit ?_
  refine wpList_valn rfl (exec_mv rfl (ev rfl)) ?_
  simp only [Act.put, List.setIfInBounds_toArray, List.set_cons_succ, List.set_cons_zero]
  refine wpList_call rfl (exec_cl Try.call14 rfl (evc (ev rfl) evn)) ?_
  refine (rl_keys w1 HL.out).mono ?_
  rintro e w2 ⟨v2, rfl, hm2, hb2⟩
  obtain ⟨A2, c2, rfl, hc21, hc22⟩ := hm2.form
  have HM2 := Lib.hid hm2
  have HB2 := Lib.hid (HB1.out.trans (hb2.mono HB1.out.size))
  have HAT2 := Lib.hid (HAT.out.below (blk_lt HAT.out) hb2)
  clear hm2 hb2 hc21 hc22
  refine ⟨_, rfl, ?_⟩
  simp only [Act.put, List.setIfInBounds_toArray, List.set_cons_succ, List.set_cons_zero]
  refine wpList_valn rfl (exec_as rfl (ev rfl)) ?_
  simp only [Act.put, List.setIfInBounds_toArray, List.set_cons_succ, List.set_cons_zero]
  refine wpList_nil ?_
  have HN2 : Hid (w2.cell? ⟨w.heap.size, 2, none⟩ = some (.bool false)) := Lib.hid (by have := HAT2.out.f2; rwa [HNT.out] at this)
  go_upto_region 2 with fail
  refine wp_region_lit ?_
  refine wpList_valn rfl (exec_faddr rfl (ev rfl) faAct152) ?_
  simp only [Act.put, List.setIfInBounds_toArray, List.set_cons_succ, List.set_cons_zero]
  refine wpList_valn (v := .bool false) rfl (exec_ld rfl (ev rfl) (ldBo HN2.out)) ?_
  simp only [Act.put, List.setIfInBounds_toArray, List.set_cons_succ, List.set_cons_zero]
  refine wpList_valn (v := .bool true) rfl (exec_not false rfl (ev rfl)) ?_
  simp only [Act.put, List.setIfInBounds_toArray, List.set_cons_succ, List.set_cons_zero]
  refine wpList_skips 3 (v := .bool true) rfl (exec_mv rfl (ev rfl)) (by kernel_rfl) ?_
  simp only [skipAct, List.take_succ_cons, List.take_zero, List.drop_succ_cons, List.drop_zero, Act.put, List.setIfInBounds_toArray, List.set_cons_succ, List.set_cons_zero]
  refine wpList_valn (v := .bool true) rfl (exec_pt rfl (ev rfl) evk) ?_
  simp only [Act.put, List.setIfInBounds_toArray, List.set_cons_succ, List.set_cons_zero]
  refine wpList_nil ?_
  go_upto_region 3 with fail
  refine wp_region_lit ?_
  refine wpList_valn rfl (exec_faddr rfl (ev rfl) faAct151) ?_
  simp only [Act.put, List.setIfInBounds_toArray, List.set_cons_succ, List.set_cons_zero]
  refine wpList_valn rfl (exec_ld rfl (ev rfl) (ldInt HAT2.out.f1)) ?_
  simp only [Act.put, List.setIfInBounds_toArray, List.set_cons_succ, List.set_cons_zero]
  refine wpList_valn rfl (exec_as rfl (ev rfl)) ?_
  simp only [Act.put, List.setIfInBounds_toArray, List.set_cons_succ, List.set_cons_zero]
  refine wpList_nil ?_
  go_wp2_with fail
  go_ret
  exact ⟨_, rfl, HWF.out, HB2.out⟩
set_option maxHeartbeats 1000000 in
theorem key_none (w : World) (h : RL w B q room L) (hin : a.In w) (hn : a.Nth = true) (h0 : L = []) : Calls Try.prog 21 #[.pointer (some ⟨q, 0, none⟩), a.V] w fun e w' => ∃ k, e = .returned (.int .i64 k) ∧ (Lit.int .i64 k).wf = true ∧ Below w.heap.size w w' := by
  obtain ⟨w1, hw1⟩ : ∃ w1, w.alloc (.cells a.C.toArray 33) = w1 := ⟨_, rfl⟩
  have hb1 : Below w.heap.size w w1 := by rw [← hw1]; exact (Below.refl _ _).alloc (Nat.le_refl _) _
  have hat : Act15.At_ w1 w.heap.size a := by rw [← hw1]; exact Act15.At_.new w a
  have HW1 := Lib.hid hw1
  have HB1 := Lib.hid hb1
  have HAT := Lib.hid hat
  have HL := Lib.hid (h.below hb1)
  have HNT := Lib.hid hn
  have HWF := Lib.hid (wf_i hin.2)
  have HE2 : Hid ((((keyL L).length : Int) == (0 : Int)) = true) := Lib.hid (by subst h0; rfl)
  clear h hin hn hw1 hb1 hat h0
  go_enter Try.func21, Try.ntmps21
  go_upto_region 0 with fail
  refine wp_region_lit ?_
  refine wpList_valn rfl (exec_boxAct15 (a := a) rfl (ev rfl)) ?_
  simp only [Act.put, List.setIfInBounds_toArray, List.set_cons_succ, List.set_cons_zero]
  rw [HW1.out]
  refine wpList_valn rfl (exec_as rfl evk) ?_
  simp only [Act.put, List.setIfInBounds_toArray, List.set_cons_succ, List.set_cons_zero]
  refine wpList_nil ?_
  go_upto_region 1 with fail
  refine wp_region_lit ?_
  refine wpList_valn rfl (exec_mv rfl (ev rfl)) ?_
  simp only [Act.put, List.setIfInBounds_toArray, List.set_cons_succ, List.set_cons_zero]
  refine wpList_call rfl (exec_cl Try.call14 rfl (evc (ev rfl) evn)) ?_
  refine (rl_keys w1 HL.out).mono ?_
  rintro e w2 ⟨v2, rfl, hm2, hb2⟩
  obtain ⟨A2, c2, rfl, hc21, hc22⟩ := hm2.form
  have HM2 := Lib.hid hm2
  have HB2 := Lib.hid (HB1.out.trans (hb2.mono HB1.out.size))
  have HAT2 := Lib.hid (HAT.out.below (blk_lt HAT.out) hb2)
  clear hm2 hb2 hc21 hc22
  refine ⟨_, rfl, ?_⟩
  simp only [Act.put, List.setIfInBounds_toArray, List.set_cons_succ, List.set_cons_zero]
  refine wpList_valn rfl (exec_as rfl (ev rfl)) ?_
  simp only [Act.put, List.setIfInBounds_toArray, List.set_cons_succ, List.set_cons_zero]
  refine wpList_nil ?_
  have HN2 : Hid (w2.cell? ⟨w.heap.size, 2, none⟩ = some (.bool true)) := Lib.hid (by have := HAT2.out.f2; rwa [HNT.out] at this)
  go_upto_region 2 with fail
  refine wp_region_lit ?_
  refine wpList_valn rfl (exec_faddr rfl (ev rfl) faAct152) ?_
  simp only [Act.put, List.setIfInBounds_toArray, List.set_cons_succ, List.set_cons_zero]
  refine wpList_valn (v := .bool true) rfl (exec_ld rfl (ev rfl) (ldBo HN2.out)) ?_
  simp only [Act.put, List.setIfInBounds_toArray, List.set_cons_succ, List.set_cons_zero]
  refine wpList_valn (v := .bool false) rfl (exec_not true rfl (ev rfl)) ?_
  simp only [Act.put, List.setIfInBounds_toArray, List.set_cons_succ, List.set_cons_zero]
  refine wpList_valn (v := .bool false) rfl (exec_mv rfl (ev rfl)) ?_
  simp only [Act.put, List.setIfInBounds_toArray, List.set_cons_succ, List.set_cons_zero]
  refine wpList_val (wanted_of rfl rfl rfl rfl) (exec_mv rfl (ev rfl)) ?_
  simp only [Act.put, List.setIfInBounds_toArray, List.set_cons_succ, List.set_cons_zero]
  refine wpList_val (wanted_of rfl rfl rfl rfl) (exec_lenE IntE rfl (ev rfl)) ?_
  simp only [Act.put, List.setIfInBounds_toArray, List.set_cons_succ, List.set_cons_zero]
  refine wpList_val (v := .bool true) (wanted_of rfl rfl rfl rfl) (exec_eqInt true rfl (ev rfl) evk HE2.out) ?_
  simp only [Act.put, List.setIfInBounds_toArray, List.set_cons_succ, List.set_cons_zero]
  refine wpList_valn (v := .bool true) rfl (exec_pf rfl (ev rfl) (ev rfl)) ?_
  simp only [Act.put, List.setIfInBounds_toArray, List.set_cons_succ, List.set_cons_zero]
  refine wpList_nil ?_
  go_upto_region 3 with fail
  refine wp_region_lit ?_
  refine wpList_valn rfl (exec_faddr rfl (ev rfl) faAct151) ?_
  simp only [Act.put, List.setIfInBounds_toArray, List.set_cons_succ, List.set_cons_zero]
  refine wpList_valn rfl (exec_ld rfl (ev rfl) (ldInt HAT2.out.f1)) ?_
  simp only [Act.put, List.setIfInBounds_toArray, List.set_cons_succ, List.set_cons_zero]
  refine wpList_valn rfl (exec_as rfl (ev rfl)) ?_
  simp only [Act.put, List.setIfInBounds_toArray, List.set_cons_succ, List.set_cons_zero]
  refine wpList_nil ?_
  go_wp2_with fail
  go_ret
  exact ⟨_, rfl, HWF.out, HB2.out⟩
set_option maxHeartbeats 1000000 in
theorem key_nth (w : World) (h : RL w B q room L) (hin : a.In w) (hn : a.Nth = true) (h0 : L ≠ []) (hok : LOk room L) (h64 : L.length ≤ 64) : Calls Try.prog 21 #[.pointer (some ⟨q, 0, none⟩), a.V] w fun e w' => ∃ k, e = .returned (.int .i64 k) ∧ (Lit.int .i64 k).wf = true ∧ Below w.heap.size w w' := by
  obtain ⟨w1, hw1⟩ : ∃ w1, w.alloc (.cells a.C.toArray 33) = w1 := ⟨_, rfl⟩
  have hb1 : Below w.heap.size w w1 := by rw [← hw1]; exact (Below.refl _ _).alloc (Nat.le_refl _) _
  have hat : Act15.At_ w1 w.heap.size a := by rw [← hw1]; exact Act15.At_.new w a
  have HW1 := Lib.hid hw1
  have HB1 := Lib.hid hb1
  have HAT := Lib.hid hat
  have HL := Lib.hid (h.below hb1)
  have HNT := Lib.hid hn
  have hl : 0 < (keyL L).length := by unfold keyL; rw [List.length_map]; exact List.length_pos_iff.2 h0
  have hl64 : (keyL L).length ≤ 64 := by unfold keyL; rw [List.length_map]; exact h64
  have HE2 : Hid ((((keyL L).length : Int) == (0 : Int)) = false) := Lib.hid (by rw [beq_eq_false_iff_ne]; omega)
  obtain ⟨j, hj, hjm⟩ := place_u a.Key (keyL L).length hl
  have HJ := Lib.hid hj
  have HJM := Lib.hid hjm
  have HU : Hid (IntKind.u64.wrap ((keyL L).length : Int) = ((keyL L).length : Int)) := Lib.hid (by
    have h1 : (0 : Int) ≤ ((keyL L).length : Int) := by omega
    have h2 : ((keyL L).length : Int) < 18446744073709551616 := by omega
    rw [IntKind.wrap_u64]; exact Int.emod_eq_of_lt h1 h2)
  have HN0 : Hid (((keyL L).length : Int) ≠ 0) := Lib.hid (by omega)
  have HJI : Hid (IntKind.i64.wrap (j : Int) = (j : Int)) := Lib.hid (IntWalk.i64_in _ ⟨by omega, by omega⟩)
  have HWF : Hid ((Lit.int .i64 ((keyL L).getD j 0)).wf = true) := Lib.hid (by
    have hm : (keyL L).getD j 0 ∈ keyL L := getD_mem hj
    unfold keyL at hm ⊢
    obtain ⟨x, hx, e⟩ := List.mem_map.1 hm
    rw [← e]
    exact hok.wf x hx)
  clear h hin hn hw1 hb1 hat h0 hok h64 hl hl64 hj hjm
  go_enter Try.func21, Try.ntmps21
  go_upto_region 0 with fail
  refine wp_region_lit ?_
  refine wpList_valn rfl (exec_boxAct15 (a := a) rfl (ev rfl)) ?_
  simp only [Act.put, List.setIfInBounds_toArray, List.set_cons_succ, List.set_cons_zero]
  rw [HW1.out]
  refine wpList_valn rfl (exec_as rfl evk) ?_
  simp only [Act.put, List.setIfInBounds_toArray, List.set_cons_succ, List.set_cons_zero]
  refine wpList_nil ?_
  go_upto_region 1 with fail
  refine wp_region_lit ?_
  refine wpList_valn rfl (exec_mv rfl (ev rfl)) ?_
  simp only [Act.put, List.setIfInBounds_toArray, List.set_cons_succ, List.set_cons_zero]
  refine wpList_call rfl (exec_cl Try.call14 rfl (evc (ev rfl) evn)) ?_
  refine (rl_keys w1 HL.out).mono ?_
  rintro e w2 ⟨v2, rfl, hm2, hb2⟩
  obtain ⟨A2, c2, rfl, hc21, hc22⟩ := hm2.form
  have HM2 := Lib.hid hm2
  have HB2 := Lib.hid (HB1.out.trans (hb2.mono HB1.out.size))
  have HAT2 := Lib.hid (HAT.out.below (blk_lt HAT.out) hb2)
  clear hm2 hb2 hc21 hc22
  refine ⟨_, rfl, ?_⟩
  simp only [Act.put, List.setIfInBounds_toArray, List.set_cons_succ, List.set_cons_zero]
  refine wpList_valn rfl (exec_as rfl (ev rfl)) ?_
  simp only [Act.put, List.setIfInBounds_toArray, List.set_cons_succ, List.set_cons_zero]
  refine wpList_nil ?_
  have HN2 : Hid (w2.cell? ⟨w.heap.size, 2, none⟩ = some (.bool true)) := Lib.hid (by have := HAT2.out.f2; rwa [HNT.out] at this)
  go_upto_region 2 with fail
  refine wp_region_lit ?_
  refine wpList_valn rfl (exec_faddr rfl (ev rfl) faAct152) ?_
  simp only [Act.put, List.setIfInBounds_toArray, List.set_cons_succ, List.set_cons_zero]
  refine wpList_valn (v := .bool true) rfl (exec_ld rfl (ev rfl) (ldBo HN2.out)) ?_
  simp only [Act.put, List.setIfInBounds_toArray, List.set_cons_succ, List.set_cons_zero]
  refine wpList_valn (v := .bool false) rfl (exec_not true rfl (ev rfl)) ?_
  simp only [Act.put, List.setIfInBounds_toArray, List.set_cons_succ, List.set_cons_zero]
  refine wpList_valn (v := .bool false) rfl (exec_mv rfl (ev rfl)) ?_
  simp only [Act.put, List.setIfInBounds_toArray, List.set_cons_succ, List.set_cons_zero]
  refine wpList_val (wanted_of rfl rfl rfl rfl) (exec_mv rfl (ev rfl)) ?_
  simp only [Act.put, List.setIfInBounds_toArray, List.set_cons_succ, List.set_cons_zero]
  refine wpList_val (wanted_of rfl rfl rfl rfl) (exec_lenE IntE rfl (ev rfl)) ?_
  simp only [Act.put, List.setIfInBounds_toArray, List.set_cons_succ, List.set_cons_zero]
  refine wpList_val (v := .bool false) (wanted_of rfl rfl rfl rfl) (exec_eqInt false rfl (ev rfl) evk HE2.out) ?_
  simp only [Act.put, List.setIfInBounds_toArray, List.set_cons_succ, List.set_cons_zero]
  refine wpList_valn (v := .bool false) rfl (exec_pf rfl (ev rfl) (ev rfl)) ?_
  simp only [Act.put, List.setIfInBounds_toArray, List.set_cons_succ, List.set_cons_zero]
  refine wpList_nil ?_
  obtain ⟨bk, ok, hA2, _, hC2⟩ := HM2.out.rd.int1 HJ.out
  have HA2 := Lib.hid hA2
  have HC2 := Lib.hid hC2
  clear hA2 hC2
  go_upto_region 4 with fail
  refine wp_region_lit ?_
  refine wpList_valn rfl (exec_mv rfl (ev rfl)) ?_
  simp only [Act.put, List.setIfInBounds_toArray, List.set_cons_succ, List.set_cons_zero]
  refine wpList_valn rfl (exec_faddr rfl (ev rfl) faAct151) ?_
  simp only [Act.put, List.setIfInBounds_toArray, List.set_cons_succ, List.set_cons_zero]
  refine wpList_valn rfl (exec_ld rfl (ev rfl) (ldInt HAT2.out.f1)) ?_
  simp only [Act.put, List.setIfInBounds_toArray, List.set_cons_succ, List.set_cons_zero]
  refine wpList_valn rfl (exec_cvU rfl (ev rfl)) ?_
  simp only [Act.put, List.setIfInBounds_toArray, List.set_cons_succ, List.set_cons_zero]
  refine wpList_valn rfl (exec_mv rfl (ev rfl)) ?_
  simp only [Act.put, List.setIfInBounds_toArray, List.set_cons_succ, List.set_cons_zero]
  refine wpList_valn rfl (exec_lenE IntE rfl (ev rfl)) ?_
  simp only [Act.put, List.setIfInBounds_toArray, List.set_cons_succ, List.set_cons_zero]
  refine wpList_valn rfl (exec_cvN rfl (ev rfl) HU.out) ?_
  simp only [Act.put, List.setIfInBounds_toArray, List.set_cons_succ, List.set_cons_zero]
  refine wpList_valn rfl (exec_remU rfl (ev rfl) (ev rfl) HN0.out HJM.out) ?_
  simp only [Act.put, List.setIfInBounds_toArray, List.set_cons_succ, List.set_cons_zero]
  refine wpList_valn rfl (exec_cvI rfl (ev rfl) HJI.out) ?_
  simp only [Act.put, List.setIfInBounds_toArray, List.set_cons_succ, List.set_cons_zero]
  refine wpList_valn rfl (exec_indexE (E := IntE) (b := bk) (off := ok) (j := j) rfl ((ev rfl).trans (by rw [HA2.out])) (ev rfl) HJ.out) ?_
  simp only [Act.put, List.setIfInBounds_toArray, List.set_cons_succ, List.set_cons_zero]
  refine wpList_valn rfl (exec_ld rfl (ev rfl) (ldInt HC2.out)) ?_
  simp only [Act.put, List.setIfInBounds_toArray, List.set_cons_succ, List.set_cons_zero]
  refine wpList_valn rfl (exec_as rfl (ev rfl)) ?_
  simp only [Act.put, List.setIfInBounds_toArray, List.set_cons_succ, List.set_cons_zero]
  refine wpList_nil ?_
  go_wp2_with fail
  go_ret
  exact ⟨_, rfl, HWF.out, HB2.out⟩
theorem l_key (w : World) (h : RL w B q room L) (hin : a.In w) (hok : LOk room L) (h64 : L.length ≤ 64) : Calls Try.prog 21 #[.pointer (some ⟨q, 0, none⟩), a.V] w fun e w' => ∃ k, e = .returned (.int .i64 k) ∧ (Lit.int .i64 k).wf = true ∧ Below w.heap.size w w' := by
  by_cases hn : a.Nth = true
  · by_cases h0 : L = []
    · exact key_none w h hin hn h0
    · exact key_nth w h hin hn h0 hok h64
  · exact key_plain w h hin (by simpa using hn)
set_option maxHeartbeats 2000000 in
theorem both_touch (w : World) (hP : PL w B p room L) (hR : RL w B q room L) (hB : B ≤ w.heap.size) (hin : a.In w) (h0 : (a.Do == 0) = true)  : Calls Try.prog 11 #[.pointer (some ⟨p, 0, none⟩), .pointer (some ⟨q, 0, none⟩), a.V] w fun e w' => e = .returned (.bool true) ∧ ∃ L', PL w' B p room L' ∧ RL w' B q room L' ∧ Below B w w' := by
  obtain ⟨w1, hw1⟩ : ∃ w1, w.alloc (.cells a.C.toArray 33) = w1 := ⟨_, rfl⟩
  have hb1 : Below w.heap.size w w1 := by rw [← hw1]; exact (Below.refl _ _).alloc (Nat.le_refl _) _
  have hat : Act15.At_ w1 w.heap.size a := by rw [← hw1]; exact Act15.At_.new w a
  have HW1 := Lib.hid hw1
  have HB1 := Lib.hid hb1
  have HAT := Lib.hid hat
  have HP := Lib.hid (hP.below hb1)
  have HR := Lib.hid (hR.below hb1)
  have HIN : Hid (a.In w1) := Lib.hid hin
  have HOK := Lib.hid hP.ok
  have HRM := Lib.hid hP.rm.2
  have H64 : Hid (L.length ≤ 64) := Lib.hid (Nat.le_trans hP.ok.len hP.rm.2)
  have HBB := Lib.hid hB
  have H0 := Lib.hid h0
  clear hP hR hB hin hw1 hb1 hat h0
  go_enter Try.func11, Try.ntmps11
  go_upto_region 0 with fail
  refine wp_region_lit ?_
  refine wpList_valn rfl (exec_boxAct15 (a := a) rfl (ev rfl)) ?_
  simp only [Act.put, List.setIfInBounds_toArray, List.set_cons_succ, List.set_cons_zero]
  rw [HW1.out]
  refine wpList_valn (v := .bool false) rfl (exec_as rfl evk) ?_
  simp only [Act.put, List.setIfInBounds_toArray, List.set_cons_succ, List.set_cons_zero]
  refine wpList_nil ?_
  go_upto_region 1 with fail
  refine wp_region_lit ?_
  refine wpList_valn rfl (exec_mv rfl (ev rfl)) ?_
  simp only [Act.put, List.setIfInBounds_toArray, List.set_cons_succ, List.set_cons_zero]
  refine wpList_valn rfl (exec_loadAct15 (a := a) rfl (ev rfl) HAT.out.range) ?_
  simp only [Act.put, List.setIfInBounds_toArray, List.set_cons_succ, List.set_cons_zero]
  refine wpList_call rfl (exec_cl Try.call21 rfl (evc (ev rfl) (evc (ev rfl) evn))) ?_
  refine (l_key w1 HR.out HIN.out HOK.out H64.out).mono ?_
  rintro e w2 ⟨k, rfl, hwk, hb2⟩
  have HK := Lib.hid hwk
  have HB2 := Lib.hid (HB1.out.trans (hb2.mono HB1.out.size))
  have HP2 := Lib.hid (HP.out.below hb2)
  have HR2 := Lib.hid (HR.out.below hb2)
  have HAT2 := Lib.hid (HAT.out.below (blk_lt HAT.out) hb2)
  clear hwk hb2
  refine ⟨_, rfl, ?_⟩
  simp only [Act.put, List.setIfInBounds_toArray, List.set_cons_succ, List.set_cons_zero]
  refine wpList_valn rfl (exec_as rfl (ev rfl)) ?_
  simp only [Act.put, List.setIfInBounds_toArray, List.set_cons_succ, List.set_cons_zero]
  refine wpList_nil ?_
  go_upto_region 2 with fail
  refine wp_region_lit ?_
  refine wpList_valn rfl (exec_faddr rfl (ev rfl) faAct150) ?_
  simp only [Act.put, List.setIfInBounds_toArray, List.set_cons_succ, List.set_cons_zero]
  refine wpList_valn rfl (exec_ld rfl (ev rfl) (ldInt HAT2.out.f0)) ?_
  simp only [Act.put, List.setIfInBounds_toArray, List.set_cons_succ, List.set_cons_zero]
  refine wpList_nil ?_
  go_upto_region 3 with fail
  refine wp_region_lit ?_
  refine wpList_valn (v := .bool true) rfl (exec_eqInt true rfl (ev rfl) evk H0.out) ?_
  simp only [Act.put, List.setIfInBounds_toArray, List.set_cons_succ, List.set_cons_zero]
  refine wpList_valn (v := .bool true) rfl (exec_as rfl (ev rfl)) ?_
  simp only [Act.put, List.setIfInBounds_toArray, List.set_cons_succ, List.set_cons_zero]
  refine wpList_nil ?_
  go_upto_region 4 with fail
  refine wp_region_lit ?_
  refine wpList_valn rfl (exec_mv rfl (ev rfl)) ?_
  simp only [Act.put, List.setIfInBounds_toArray, List.set_cons_succ, List.set_cons_zero]
  refine wpList_valn rfl (exec_mv rfl (ev rfl)) ?_
  simp only [Act.put, List.setIfInBounds_toArray, List.set_cons_succ, List.set_cons_zero]
  refine wpList_call rfl (exec_cl Try.call16 rfl (evc (ev rfl) (evc (ev rfl) evn))) ?_
  refine (pl_touch w2 HP2.out HK.out).mono ?_
  rintro e w3 ⟨rfl, hp3, ht3⟩
  have HP3 := Lib.hid hp3
  have HT3 := Lib.hid ht3
  have HR3 := Lib.hid (HR2.out.other ht3 rl_not_pl)
  clear hp3 ht3
  refine ⟨_, rfl, ?_⟩
  simp only [Act.put, List.setIfInBounds_toArray, List.set_cons_succ, List.set_cons_zero]
  refine wpList_valn rfl (exec_mv rfl (ev rfl)) ?_
  simp only [Act.put, List.setIfInBounds_toArray, List.set_cons_succ, List.set_cons_zero]
  refine wpList_valn rfl (exec_ext rfl (ev rfl) rfl) ?_
  simp only [Act.put, List.setIfInBounds_toArray, List.set_cons_succ, List.set_cons_zero]
  refine wpList_valn rfl (exec_ext rfl (ev rfl) rfl) ?_
  simp only [Act.put, List.setIfInBounds_toArray, List.set_cons_succ, List.set_cons_zero]
  refine wpList_valn rfl (exec_ext rfl (ev rfl) rfl) ?_
  simp only [Act.put, List.setIfInBounds_toArray, List.set_cons_succ, List.set_cons_zero]
  refine wpList_valn rfl (exec_as rfl (ev rfl)) ?_
  simp only [Act.put, List.setIfInBounds_toArray, List.set_cons_succ, List.set_cons_zero]
  refine wpList_valn rfl (exec_as rfl (ev rfl)) ?_
  simp only [Act.put, List.setIfInBounds_toArray, List.set_cons_succ, List.set_cons_zero]
  refine wpList_valn rfl (exec_as rfl (ev rfl)) ?_
  simp only [Act.put, List.setIfInBounds_toArray, List.set_cons_succ, List.set_cons_zero]
  refine wpList_nil ?_
  go_upto_region 5 with fail
  refine wp_region_lit ?_
  refine wpList_valn rfl (exec_mv rfl (ev rfl)) ?_
  simp only [Act.put, List.setIfInBounds_toArray, List.set_cons_succ, List.set_cons_zero]
  refine wpList_valn rfl (exec_mv rfl (ev rfl)) ?_
  simp only [Act.put, List.setIfInBounds_toArray, List.set_cons_succ, List.set_cons_zero]
  refine wpList_call rfl (exec_cl Try.call22 rfl (evc (ev rfl) (evc (ev rfl) evn))) ?_
  refine (rl_touch w3 HR3.out HRM.out).mono ?_
  rintro e w4 ⟨rfl, hr4, ht4⟩
  have HR4 := Lib.hid hr4
  have HT4 := Lib.hid ht4
  have HP4 := Lib.hid (HP3.out.other ht4 pl_not_rl)
  clear hr4 ht4
  refine ⟨_, rfl, ?_⟩
  simp only [Act.put, List.setIfInBounds_toArray, List.set_cons_succ, List.set_cons_zero]
  refine wpList_valn rfl (exec_mv rfl (ev rfl)) ?_
  simp only [Act.put, List.setIfInBounds_toArray, List.set_cons_succ, List.set_cons_zero]
  refine wpList_valn rfl (exec_ext rfl (ev rfl) rfl) ?_
  simp only [Act.put, List.setIfInBounds_toArray, List.set_cons_succ, List.set_cons_zero]
  refine wpList_valn rfl (exec_ext rfl (ev rfl) rfl) ?_
  simp only [Act.put, List.setIfInBounds_toArray, List.set_cons_succ, List.set_cons_zero]
  refine wpList_valn rfl (exec_ext rfl (ev rfl) rfl) ?_
  simp only [Act.put, List.setIfInBounds_toArray, List.set_cons_succ, List.set_cons_zero]
  refine wpList_valn rfl (exec_as rfl (ev rfl)) ?_
  simp only [Act.put, List.setIfInBounds_toArray, List.set_cons_succ, List.set_cons_zero]
  refine wpList_valn rfl (exec_as rfl (ev rfl)) ?_
  simp only [Act.put, List.setIfInBounds_toArray, List.set_cons_succ, List.set_cons_zero]
  refine wpList_valn rfl (exec_as rfl (ev rfl)) ?_
  simp only [Act.put, List.setIfInBounds_toArray, List.set_cons_succ, List.set_cons_zero]
  refine wpList_nil ?_
  go_upto_region 6 with fail
  refine wp_region_lit ?_
  refine wpList_valn rfl (exec_mv rfl (ev rfl)) ?_
  simp only [Act.put, List.setIfInBounds_toArray, List.set_cons_succ, List.set_cons_zero]
  refine wpList_valn rfl (exec_mv rfl (ev rfl)) ?_
  simp only [Act.put, List.setIfInBounds_toArray, List.set_cons_succ, List.set_cons_zero]
  refine wpList_valn (v := .bool true) rfl (exec_eqInt true rfl (ev rfl) (ev rfl) (by simp)) ?_
  simp only [Act.put, List.setIfInBounds_toArray, List.set_cons_succ, List.set_cons_zero]
  refine wpList_valn (v := .bool true) rfl (exec_mv rfl (ev rfl)) ?_
  simp only [Act.put, List.setIfInBounds_toArray, List.set_cons_succ, List.set_cons_zero]
  refine wpList_val (wanted_of rfl rfl rfl rfl) (exec_mv rfl (ev rfl)) ?_
  simp only [Act.put, List.setIfInBounds_toArray, List.set_cons_succ, List.set_cons_zero]
  refine wpList_val (wanted_of rfl rfl rfl rfl) (exec_mv rfl (ev rfl)) ?_
  simp only [Act.put, List.setIfInBounds_toArray, List.set_cons_succ, List.set_cons_zero]
  refine wpList_val (v := .bool true) (wanted_of rfl rfl rfl rfl) (exec_eqBool true rfl (ev rfl) (ev rfl) (by simp)) ?_
  simp only [Act.put, List.setIfInBounds_toArray, List.set_cons_succ, List.set_cons_zero]
  refine wpList_valn (v := .bool true) rfl (exec_pt rfl (ev rfl) (ev rfl)) ?_
  simp only [Act.put, List.setIfInBounds_toArray, List.set_cons_succ, List.set_cons_zero]
  refine wpList_valn (v := .bool true) rfl (exec_mv rfl (ev rfl)) ?_
  simp only [Act.put, List.setIfInBounds_toArray, List.set_cons_succ, List.set_cons_zero]
  refine wpList_val (wanted_of rfl rfl rfl rfl) (exec_mv rfl (ev rfl)) ?_
  simp only [Act.put, List.setIfInBounds_toArray, List.set_cons_succ, List.set_cons_zero]
  refine wpList_val (wanted_of rfl rfl rfl rfl) (exec_mv rfl (ev rfl)) ?_
  simp only [Act.put, List.setIfInBounds_toArray, List.set_cons_succ, List.set_cons_zero]
  refine wpList_val (v := .bool true) (wanted_of rfl rfl rfl rfl) (exec_eqInt true rfl (ev rfl) (ev rfl) (by simp)) ?_
  simp only [Act.put, List.setIfInBounds_toArray, List.set_cons_succ, List.set_cons_zero]
  refine wpList_valn (v := .bool true) rfl (exec_pt rfl (ev rfl) (ev rfl)) ?_
  simp only [Act.put, List.setIfInBounds_toArray, List.set_cons_succ, List.set_cons_zero]
  refine wpList_valn (v := .bool true) rfl (exec_as rfl (ev rfl)) ?_
  simp only [Act.put, List.setIfInBounds_toArray, List.set_cons_succ, List.set_cons_zero]
  refine wpList_nil ?_
  go_wp2_with fail
  go_ret
  have hs2 : B ≤ w2.heap.size := Nat.le_trans HBB.out HB2.out.size
  have hb3 : Below B w w3 := Turn.below (HB2.out.mono HBB.out) HT3.out hs2
  exact ⟨rfl, _, HP4.out, HR4.out, Turn.below hb3 HT4.out (Nat.le_trans hs2 HT3.out.size)⟩
set_option maxHeartbeats 2000000 in
theorem both_pin (w : World) (hP : PL w B p room L) (hR : RL w B q room L) (hB : B ≤ w.heap.size) (hin : a.In w) (h0 : (a.Do == 0) = false) (h1 : (a.Do == 1) = true)  : Calls Try.prog 11 #[.pointer (some ⟨p, 0, none⟩), .pointer (some ⟨q, 0, none⟩), a.V] w fun e w' => e = .returned (.bool true) ∧ ∃ L', PL w' B p room L' ∧ RL w' B q room L' ∧ Below B w w' := by
  obtain ⟨w1, hw1⟩ : ∃ w1, w.alloc (.cells a.C.toArray 33) = w1 := ⟨_, rfl⟩
  have hb1 : Below w.heap.size w w1 := by rw [← hw1]; exact (Below.refl _ _).alloc (Nat.le_refl _) _
  have hat : Act15.At_ w1 w.heap.size a := by rw [← hw1]; exact Act15.At_.new w a
  have HW1 := Lib.hid hw1
  have HB1 := Lib.hid hb1
  have HAT := Lib.hid hat
  have HP := Lib.hid (hP.below hb1)
  have HR := Lib.hid (hR.below hb1)
  have HIN : Hid (a.In w1) := Lib.hid hin
  have HOK := Lib.hid hP.ok
  have HRM := Lib.hid hP.rm.2
  have H64 : Hid (L.length ≤ 64) := Lib.hid (Nat.le_trans hP.ok.len hP.rm.2)
  have HBB := Lib.hid hB
  have H0 := Lib.hid h0
  have H1 := Lib.hid h1
  clear hP hR hB hin hw1 hb1 hat h0 h1
  go_enter Try.func11, Try.ntmps11
  go_upto_region 0 with fail
  refine wp_region_lit ?_
  refine wpList_valn rfl (exec_boxAct15 (a := a) rfl (ev rfl)) ?_
  simp only [Act.put, List.setIfInBounds_toArray, List.set_cons_succ, List.set_cons_zero]
  rw [HW1.out]
  refine wpList_valn (v := .bool false) rfl (exec_as rfl evk) ?_
  simp only [Act.put, List.setIfInBounds_toArray, List.set_cons_succ, List.set_cons_zero]
  refine wpList_nil ?_
  go_upto_region 1 with fail
  refine wp_region_lit ?_
  refine wpList_valn rfl (exec_mv rfl (ev rfl)) ?_
  simp only [Act.put, List.setIfInBounds_toArray, List.set_cons_succ, List.set_cons_zero]
  refine wpList_valn rfl (exec_loadAct15 (a := a) rfl (ev rfl) HAT.out.range) ?_
  simp only [Act.put, List.setIfInBounds_toArray, List.set_cons_succ, List.set_cons_zero]
  refine wpList_call rfl (exec_cl Try.call21 rfl (evc (ev rfl) (evc (ev rfl) evn))) ?_
  refine (l_key w1 HR.out HIN.out HOK.out H64.out).mono ?_
  rintro e w2 ⟨k, rfl, hwk, hb2⟩
  have HK := Lib.hid hwk
  have HB2 := Lib.hid (HB1.out.trans (hb2.mono HB1.out.size))
  have HP2 := Lib.hid (HP.out.below hb2)
  have HR2 := Lib.hid (HR.out.below hb2)
  have HAT2 := Lib.hid (HAT.out.below (blk_lt HAT.out) hb2)
  clear hwk hb2
  refine ⟨_, rfl, ?_⟩
  simp only [Act.put, List.setIfInBounds_toArray, List.set_cons_succ, List.set_cons_zero]
  refine wpList_valn rfl (exec_as rfl (ev rfl)) ?_
  simp only [Act.put, List.setIfInBounds_toArray, List.set_cons_succ, List.set_cons_zero]
  refine wpList_nil ?_
  go_upto_region 2 with fail
  refine wp_region_lit ?_
  refine wpList_valn rfl (exec_faddr rfl (ev rfl) faAct150) ?_
  simp only [Act.put, List.setIfInBounds_toArray, List.set_cons_succ, List.set_cons_zero]
  refine wpList_valn rfl (exec_ld rfl (ev rfl) (ldInt HAT2.out.f0)) ?_
  simp only [Act.put, List.setIfInBounds_toArray, List.set_cons_succ, List.set_cons_zero]
  refine wpList_nil ?_
  go_upto_region 3 with fail
  refine wp_region_lit ?_
  refine wpList_valn (v := .bool false) rfl (exec_eqInt false rfl (ev rfl) evk H0.out) ?_
  simp only [Act.put, List.setIfInBounds_toArray, List.set_cons_succ, List.set_cons_zero]
  refine wpList_valn (v := .bool false) rfl (exec_as rfl (ev rfl)) ?_
  simp only [Act.put, List.setIfInBounds_toArray, List.set_cons_succ, List.set_cons_zero]
  refine wpList_nil ?_
  go_upto_region 7 with fail
  refine wp_region_lit ?_
  refine wpList_valn (v := .bool true) rfl (exec_eqInt true rfl (ev rfl) evk H1.out) ?_
  simp only [Act.put, List.setIfInBounds_toArray, List.set_cons_succ, List.set_cons_zero]
  refine wpList_valn (v := .bool true) rfl (exec_as rfl (ev rfl)) ?_
  simp only [Act.put, List.setIfInBounds_toArray, List.set_cons_succ, List.set_cons_zero]
  refine wpList_nil ?_
  go_upto_region 8 with fail
  refine wp_region_held (S := fun w' => Act15.At_ w' w.heap.size a) (by kernel_rfl) ?_
  change wpAnyH _ _ _ _ _ 12 _ _ w2.drew
  refine held_val 0 rfl (by kernel_rfl) (by kernel_rfl) (by kernel_rfl) rfl (fun w' hw => exec_mv rfl (ev rfl)) (fun _ _ _ h => h) HAT2.out ?_
  simp only [Act.put, List.setIfInBounds_toArray, List.set_cons_succ, List.set_cons_zero]
  refine held_val 1 rfl (by kernel_rfl) (by kernel_rfl) (by kernel_rfl) rfl (fun w' hw => exec_mv rfl (ev rfl)) (fun _ _ _ h => h) HAT2.out ?_
  simp only [Act.put, List.setIfInBounds_toArray, List.set_cons_succ, List.set_cons_zero]
  refine held_val 2 rfl (by kernel_rfl) (by kernel_rfl) (by kernel_rfl) rfl (fun w' hw => exec_faddr rfl (ev rfl) faAct153) (fun _ _ _ h => h) HAT2.out ?_
  simp only [Act.put, List.setIfInBounds_toArray, List.set_cons_succ, List.set_cons_zero]
  refine held_val 3 rfl (by kernel_rfl) (by kernel_rfl) (by kernel_rfl) rfl (fun w' hw => exec_ld rfl (ev rfl) (ldBo (Act15.At_.f3 hw))) (fun _ _ _ h => h) HAT2.out ?_
  simp only [Act.put, List.setIfInBounds_toArray, List.set_cons_succ, List.set_cons_zero]
  refine held_val 5 rfl (by kernel_rfl) (by kernel_rfl) (by kernel_rfl) rfl (fun w' hw => exec_mv rfl (ev rfl)) (fun _ _ _ h => h) HAT2.out ?_
  simp only [Act.put, List.setIfInBounds_toArray, List.set_cons_succ, List.set_cons_zero]
  refine held_val 6 rfl (by kernel_rfl) (by kernel_rfl) (by kernel_rfl) rfl (fun w' hw => exec_mv rfl (ev rfl)) (fun _ _ _ h => h) HAT2.out ?_
  simp only [Act.put, List.setIfInBounds_toArray, List.set_cons_succ, List.set_cons_zero]
  refine held_val 7 rfl (by kernel_rfl) (by kernel_rfl) (by kernel_rfl) rfl (fun w' hw => exec_faddr rfl (ev rfl) faAct153) (fun _ _ _ h => h) HAT2.out ?_
  simp only [Act.put, List.setIfInBounds_toArray, List.set_cons_succ, List.set_cons_zero]
  refine held_val 8 rfl (by kernel_rfl) (by kernel_rfl) (by kernel_rfl) rfl (fun w' hw => exec_ld rfl (ev rfl) (ldBo (Act15.At_.f3 hw))) (fun _ _ _ h => h) HAT2.out ?_
  simp only [Act.put, List.setIfInBounds_toArray, List.set_cons_succ, List.set_cons_zero]
  refine held_call 4 rfl (by kernel_rfl) rfl (exec_cl Try.call17 rfl (evc (ev rfl) (evc (ev rfl) (evc (ev rfl) evn)))) ?_
  refine (pl_pin w2.drew (HP2.out.below (bd (Below.refl _ _))) HK.out a.Is).mono ?_
  rintro e w3 ⟨rfl, hp3, ht3⟩
  have HP3 := Lib.hid hp3
  have HT3 : Hid (TurnP B w2 w3) := Lib.hid ((Turn.refl _ _ _).drew.trans ht3)
  have HR3 := Lib.hid (HR2.out.other HT3.out rl_not_pl)
  have HAT3 : Hid (Act15.At_ w3 w.heap.size a) := Lib.hid (HT3.out.keep HAT2.out (by show ¬ (33 = 52 ∨ 33 = 49); decide))
  clear hp3 ht3
  refine ⟨_, rfl, HAT3.out, ?_⟩
  simp only [Act.put, List.setIfInBounds_toArray, List.set_cons_succ, List.set_cons_zero]
  refine held_call 9 rfl (by kernel_rfl) rfl (exec_cl Try.call23 rfl (evc (ev rfl) (evc (ev rfl) (evc (ev rfl) evn)))) ?_
  refine (rl_pin w3 HR3.out a.Is).mono ?_
  rintro e w4 ⟨rfl, hr4, ht4⟩
  have HR4 := Lib.hid hr4
  have HT4 := Lib.hid ht4
  have HP4 := Lib.hid (HP3.out.other ht4 pl_not_rl)
  have HAT4 : Hid (Act15.At_ w4 w.heap.size a) := Lib.hid (ht4.keep HAT3.out (by show ¬ (33 = 55 ∨ 33 = 58); decide))
  clear hr4 ht4
  refine ⟨_, rfl, HAT4.out, ?_⟩
  simp only [Act.put, List.setIfInBounds_toArray, List.set_cons_succ, List.set_cons_zero]
  refine held_val 10 rfl (by kernel_rfl) (by kernel_rfl) (by kernel_rfl) rfl (fun w' hw => exec_eqInt true rfl (ev rfl) (ev rfl) (by simp)) (fun _ _ _ h => h) HAT4.out ?_
  simp only [Act.put, List.setIfInBounds_toArray, List.set_cons_succ, List.set_cons_zero]
  refine held_val 11 rfl (by kernel_rfl) (by kernel_rfl) (by kernel_rfl) rfl (fun w' hw => exec_as rfl (ev rfl)) (fun _ _ _ h => h) HAT4.out ?_
  simp only [Act.put, List.setIfInBounds_toArray, List.set_cons_succ, List.set_cons_zero]
  refine wpAnyH_done (by kernel_rfl) ?_ _
  go_wp2_with fail
  go_ret
  have hs2 : B ≤ w2.heap.size := Nat.le_trans HBB.out HB2.out.size
  have hb3 : Below B w w3 := Turn.below (HB2.out.mono HBB.out) HT3.out hs2
  exact ⟨rfl, _, HP4.out, HR4.out, Turn.below hb3 HT4.out (Nat.le_trans hs2 HT3.out.size)⟩
set_option maxHeartbeats 2000000 in
theorem both_drop (w : World) (hP : PL w B p room L) (hR : RL w B q room L) (hB : B ≤ w.heap.size) (hin : a.In w) (h0 : (a.Do == 0) = false) (h1 : (a.Do == 1) = false) (h2 : (a.Do == 2) = true)  : Calls Try.prog 11 #[.pointer (some ⟨p, 0, none⟩), .pointer (some ⟨q, 0, none⟩), a.V] w fun e w' => e = .returned (.bool true) ∧ ∃ L', PL w' B p room L' ∧ RL w' B q room L' ∧ Below B w w' := by
  obtain ⟨w1, hw1⟩ : ∃ w1, w.alloc (.cells a.C.toArray 33) = w1 := ⟨_, rfl⟩
  have hb1 : Below w.heap.size w w1 := by rw [← hw1]; exact (Below.refl _ _).alloc (Nat.le_refl _) _
  have hat : Act15.At_ w1 w.heap.size a := by rw [← hw1]; exact Act15.At_.new w a
  have HW1 := Lib.hid hw1
  have HB1 := Lib.hid hb1
  have HAT := Lib.hid hat
  have HP := Lib.hid (hP.below hb1)
  have HR := Lib.hid (hR.below hb1)
  have HIN : Hid (a.In w1) := Lib.hid hin
  have HOK := Lib.hid hP.ok
  have HRM := Lib.hid hP.rm.2
  have H64 : Hid (L.length ≤ 64) := Lib.hid (Nat.le_trans hP.ok.len hP.rm.2)
  have HBB := Lib.hid hB
  have H0 := Lib.hid h0
  have H1 := Lib.hid h1
  have H2 := Lib.hid h2
  clear hP hR hB hin hw1 hb1 hat h0 h1 h2
  go_enter Try.func11, Try.ntmps11
  go_upto_region 0 with fail
  refine wp_region_lit ?_
  refine wpList_valn rfl (exec_boxAct15 (a := a) rfl (ev rfl)) ?_
  simp only [Act.put, List.setIfInBounds_toArray, List.set_cons_succ, List.set_cons_zero]
  rw [HW1.out]
  refine wpList_valn (v := .bool false) rfl (exec_as rfl evk) ?_
  simp only [Act.put, List.setIfInBounds_toArray, List.set_cons_succ, List.set_cons_zero]
  refine wpList_nil ?_
  go_upto_region 1 with fail
  refine wp_region_lit ?_
  refine wpList_valn rfl (exec_mv rfl (ev rfl)) ?_
  simp only [Act.put, List.setIfInBounds_toArray, List.set_cons_succ, List.set_cons_zero]
  refine wpList_valn rfl (exec_loadAct15 (a := a) rfl (ev rfl) HAT.out.range) ?_
  simp only [Act.put, List.setIfInBounds_toArray, List.set_cons_succ, List.set_cons_zero]
  refine wpList_call rfl (exec_cl Try.call21 rfl (evc (ev rfl) (evc (ev rfl) evn))) ?_
  refine (l_key w1 HR.out HIN.out HOK.out H64.out).mono ?_
  rintro e w2 ⟨k, rfl, hwk, hb2⟩
  have HK := Lib.hid hwk
  have HB2 := Lib.hid (HB1.out.trans (hb2.mono HB1.out.size))
  have HP2 := Lib.hid (HP.out.below hb2)
  have HR2 := Lib.hid (HR.out.below hb2)
  have HAT2 := Lib.hid (HAT.out.below (blk_lt HAT.out) hb2)
  clear hwk hb2
  refine ⟨_, rfl, ?_⟩
  simp only [Act.put, List.setIfInBounds_toArray, List.set_cons_succ, List.set_cons_zero]
  refine wpList_valn rfl (exec_as rfl (ev rfl)) ?_
  simp only [Act.put, List.setIfInBounds_toArray, List.set_cons_succ, List.set_cons_zero]
  refine wpList_nil ?_
  go_upto_region 2 with fail
  refine wp_region_lit ?_
  refine wpList_valn rfl (exec_faddr rfl (ev rfl) faAct150) ?_
  simp only [Act.put, List.setIfInBounds_toArray, List.set_cons_succ, List.set_cons_zero]
  refine wpList_valn rfl (exec_ld rfl (ev rfl) (ldInt HAT2.out.f0)) ?_
  simp only [Act.put, List.setIfInBounds_toArray, List.set_cons_succ, List.set_cons_zero]
  refine wpList_nil ?_
  go_upto_region 3 with fail
  refine wp_region_lit ?_
  refine wpList_valn (v := .bool false) rfl (exec_eqInt false rfl (ev rfl) evk H0.out) ?_
  simp only [Act.put, List.setIfInBounds_toArray, List.set_cons_succ, List.set_cons_zero]
  refine wpList_valn (v := .bool false) rfl (exec_as rfl (ev rfl)) ?_
  simp only [Act.put, List.setIfInBounds_toArray, List.set_cons_succ, List.set_cons_zero]
  refine wpList_nil ?_
  go_upto_region 7 with fail
  refine wp_region_lit ?_
  refine wpList_valn (v := .bool false) rfl (exec_eqInt false rfl (ev rfl) evk H1.out) ?_
  simp only [Act.put, List.setIfInBounds_toArray, List.set_cons_succ, List.set_cons_zero]
  refine wpList_valn (v := .bool false) rfl (exec_as rfl (ev rfl)) ?_
  simp only [Act.put, List.setIfInBounds_toArray, List.set_cons_succ, List.set_cons_zero]
  refine wpList_nil ?_
  go_upto_region 9 with fail
  refine wp_region_lit ?_
  refine wpList_valn (v := .bool true) rfl (exec_eqInt true rfl (ev rfl) evk H2.out) ?_
  simp only [Act.put, List.setIfInBounds_toArray, List.set_cons_succ, List.set_cons_zero]
  refine wpList_valn (v := .bool true) rfl (exec_as rfl (ev rfl)) ?_
  simp only [Act.put, List.setIfInBounds_toArray, List.set_cons_succ, List.set_cons_zero]
  refine wpList_nil ?_
  go_upto_region 10 with fail
  refine wp_region_lit ?_
  refine wpList_valn rfl (exec_mv rfl (ev rfl)) ?_
  simp only [Act.put, List.setIfInBounds_toArray, List.set_cons_succ, List.set_cons_zero]
  refine wpList_valn rfl (exec_mv rfl (ev rfl)) ?_
  simp only [Act.put, List.setIfInBounds_toArray, List.set_cons_succ, List.set_cons_zero]
  refine wpList_call rfl (exec_cl Try.call20 rfl (evc (ev rfl) (evc (ev rfl) evn))) ?_
  refine (pl_drop w2 HP2.out HK.out).mono ?_
  rintro e w3 ⟨rfl, hp3, ht3⟩
  have HP3 := Lib.hid hp3
  have HT3 := Lib.hid ht3
  have HR3 := Lib.hid (HR2.out.other ht3 rl_not_pl)
  clear hp3 ht3
  refine ⟨_, rfl, ?_⟩
  simp only [Act.put, List.setIfInBounds_toArray, List.set_cons_succ, List.set_cons_zero]
  refine wpList_valn rfl (exec_mv rfl (ev rfl)) ?_
  simp only [Act.put, List.setIfInBounds_toArray, List.set_cons_succ, List.set_cons_zero]
  refine wpList_valn rfl (exec_mv rfl (ev rfl)) ?_
  simp only [Act.put, List.setIfInBounds_toArray, List.set_cons_succ, List.set_cons_zero]
  refine wpList_call rfl (exec_cl Try.call24 rfl (evc (ev rfl) (evc (ev rfl) evn))) ?_
  refine (rl_drop w3 HR3.out).mono ?_
  rintro e w4 ⟨rfl, hr4, ht4⟩
  have HR4 := Lib.hid hr4
  have HT4 := Lib.hid ht4
  have HP4 := Lib.hid (HP3.out.other ht4 pl_not_rl)
  clear hr4 ht4
  refine ⟨_, rfl, ?_⟩
  simp only [Act.put, List.setIfInBounds_toArray, List.set_cons_succ, List.set_cons_zero]
  refine wpList_valn rfl (exec_eqInt true rfl (ev rfl) (ev rfl) (by simp)) ?_
  simp only [Act.put, List.setIfInBounds_toArray, List.set_cons_succ, List.set_cons_zero]
  refine wpList_valn rfl (exec_as rfl (ev rfl)) ?_
  simp only [Act.put, List.setIfInBounds_toArray, List.set_cons_succ, List.set_cons_zero]
  refine wpList_nil ?_
  go_wp2_with fail
  go_ret
  have hs2 : B ≤ w2.heap.size := Nat.le_trans HBB.out HB2.out.size
  have hb3 : Below B w w3 := Turn.below (HB2.out.mono HBB.out) HT3.out hs2
  exact ⟨rfl, _, HP4.out, HR4.out, Turn.below hb3 HT4.out (Nat.le_trans hs2 HT3.out.size)⟩
set_option maxHeartbeats 2000000 in
theorem both_has (w : World) (hP : PL w B p room L) (hR : RL w B q room L) (hB : B ≤ w.heap.size) (hin : a.In w) (h0 : (a.Do == 0) = false) (h1 : (a.Do == 1) = false) (h2 : (a.Do == 2) = false)  : Calls Try.prog 11 #[.pointer (some ⟨p, 0, none⟩), .pointer (some ⟨q, 0, none⟩), a.V] w fun e w' => e = .returned (.bool true) ∧ ∃ L', PL w' B p room L' ∧ RL w' B q room L' ∧ Below B w w' := by
  obtain ⟨w1, hw1⟩ : ∃ w1, w.alloc (.cells a.C.toArray 33) = w1 := ⟨_, rfl⟩
  have hb1 : Below w.heap.size w w1 := by rw [← hw1]; exact (Below.refl _ _).alloc (Nat.le_refl _) _
  have hat : Act15.At_ w1 w.heap.size a := by rw [← hw1]; exact Act15.At_.new w a
  have HW1 := Lib.hid hw1
  have HB1 := Lib.hid hb1
  have HAT := Lib.hid hat
  have HP := Lib.hid (hP.below hb1)
  have HR := Lib.hid (hR.below hb1)
  have HIN : Hid (a.In w1) := Lib.hid hin
  have HOK := Lib.hid hP.ok
  have HRM := Lib.hid hP.rm.2
  have H64 : Hid (L.length ≤ 64) := Lib.hid (Nat.le_trans hP.ok.len hP.rm.2)
  have HBB := Lib.hid hB
  have H0 := Lib.hid h0
  have H1 := Lib.hid h1
  have H2 := Lib.hid h2
  clear hP hR hB hin hw1 hb1 hat h0 h1 h2
  go_enter Try.func11, Try.ntmps11
  go_upto_region 0 with fail
  refine wp_region_lit ?_
  refine wpList_valn rfl (exec_boxAct15 (a := a) rfl (ev rfl)) ?_
  simp only [Act.put, List.setIfInBounds_toArray, List.set_cons_succ, List.set_cons_zero]
  rw [HW1.out]
  refine wpList_valn (v := .bool false) rfl (exec_as rfl evk) ?_
  simp only [Act.put, List.setIfInBounds_toArray, List.set_cons_succ, List.set_cons_zero]
  refine wpList_nil ?_
  go_upto_region 1 with fail
  refine wp_region_lit ?_
  refine wpList_valn rfl (exec_mv rfl (ev rfl)) ?_
  simp only [Act.put, List.setIfInBounds_toArray, List.set_cons_succ, List.set_cons_zero]
  refine wpList_valn rfl (exec_loadAct15 (a := a) rfl (ev rfl) HAT.out.range) ?_
  simp only [Act.put, List.setIfInBounds_toArray, List.set_cons_succ, List.set_cons_zero]
  refine wpList_call rfl (exec_cl Try.call21 rfl (evc (ev rfl) (evc (ev rfl) evn))) ?_
  refine (l_key w1 HR.out HIN.out HOK.out H64.out).mono ?_
  rintro e w2 ⟨k, rfl, hwk, hb2⟩
  have HK := Lib.hid hwk
  have HB2 := Lib.hid (HB1.out.trans (hb2.mono HB1.out.size))
  have HP2 := Lib.hid (HP.out.below hb2)
  have HR2 := Lib.hid (HR.out.below hb2)
  have HAT2 := Lib.hid (HAT.out.below (blk_lt HAT.out) hb2)
  clear hwk hb2
  refine ⟨_, rfl, ?_⟩
  simp only [Act.put, List.setIfInBounds_toArray, List.set_cons_succ, List.set_cons_zero]
  refine wpList_valn rfl (exec_as rfl (ev rfl)) ?_
  simp only [Act.put, List.setIfInBounds_toArray, List.set_cons_succ, List.set_cons_zero]
  refine wpList_nil ?_
  go_upto_region 2 with fail
  refine wp_region_lit ?_
  refine wpList_valn rfl (exec_faddr rfl (ev rfl) faAct150) ?_
  simp only [Act.put, List.setIfInBounds_toArray, List.set_cons_succ, List.set_cons_zero]
  refine wpList_valn rfl (exec_ld rfl (ev rfl) (ldInt HAT2.out.f0)) ?_
  simp only [Act.put, List.setIfInBounds_toArray, List.set_cons_succ, List.set_cons_zero]
  refine wpList_nil ?_
  go_upto_region 3 with fail
  refine wp_region_lit ?_
  refine wpList_valn (v := .bool false) rfl (exec_eqInt false rfl (ev rfl) evk H0.out) ?_
  simp only [Act.put, List.setIfInBounds_toArray, List.set_cons_succ, List.set_cons_zero]
  refine wpList_valn (v := .bool false) rfl (exec_as rfl (ev rfl)) ?_
  simp only [Act.put, List.setIfInBounds_toArray, List.set_cons_succ, List.set_cons_zero]
  refine wpList_nil ?_
  go_upto_region 7 with fail
  refine wp_region_lit ?_
  refine wpList_valn (v := .bool false) rfl (exec_eqInt false rfl (ev rfl) evk H1.out) ?_
  simp only [Act.put, List.setIfInBounds_toArray, List.set_cons_succ, List.set_cons_zero]
  refine wpList_valn (v := .bool false) rfl (exec_as rfl (ev rfl)) ?_
  simp only [Act.put, List.setIfInBounds_toArray, List.set_cons_succ, List.set_cons_zero]
  refine wpList_nil ?_
  go_upto_region 9 with fail
  refine wp_region_lit ?_
  refine wpList_valn (v := .bool false) rfl (exec_eqInt false rfl (ev rfl) evk H2.out) ?_
  simp only [Act.put, List.setIfInBounds_toArray, List.set_cons_succ, List.set_cons_zero]
  refine wpList_valn (v := .bool false) rfl (exec_as rfl (ev rfl)) ?_
  simp only [Act.put, List.setIfInBounds_toArray, List.set_cons_succ, List.set_cons_zero]
  refine wpList_nil ?_
  go_upto_region 11 with fail
  refine wp_region_lit ?_
  refine wpList_valn rfl (exec_mv rfl (ev rfl)) ?_
  simp only [Act.put, List.setIfInBounds_toArray, List.set_cons_succ, List.set_cons_zero]
  refine wpList_valn rfl (exec_mv rfl (ev rfl)) ?_
  simp only [Act.put, List.setIfInBounds_toArray, List.set_cons_succ, List.set_cons_zero]
  refine wpList_call rfl (exec_cl Try.call18 rfl (evc (ev rfl) (evc (ev rfl) evn))) ?_
  refine (pl_has w2 HP2.out HK.out).mono ?_
  rintro e w3 ⟨rfl, rfl⟩
  refine ⟨_, rfl, ?_⟩
  simp only [Act.put, List.setIfInBounds_toArray, List.set_cons_succ, List.set_cons_zero]
  refine wpList_valn rfl (exec_mv rfl (ev rfl)) ?_
  simp only [Act.put, List.setIfInBounds_toArray, List.set_cons_succ, List.set_cons_zero]
  refine wpList_valn rfl (exec_mv rfl (ev rfl)) ?_
  simp only [Act.put, List.setIfInBounds_toArray, List.set_cons_succ, List.set_cons_zero]
  refine wpList_call rfl (exec_cl Try.call25 rfl (evc (ev rfl) (evc (ev rfl) evn))) ?_
  refine (rl_has w2 HR2.out).mono ?_
  rintro e w3 ⟨rfl, rfl⟩
  refine ⟨_, rfl, ?_⟩
  simp only [Act.put, List.setIfInBounds_toArray, List.set_cons_succ, List.set_cons_zero]
  refine wpList_valn (v := .bool true) rfl (exec_eqBool true rfl (ev rfl) (ev rfl) (by simp)) ?_
  simp only [Act.put, List.setIfInBounds_toArray, List.set_cons_succ, List.set_cons_zero]
  refine wpList_valn (v := .bool true) rfl (exec_mv rfl (ev rfl)) ?_
  simp only [Act.put, List.setIfInBounds_toArray, List.set_cons_succ, List.set_cons_zero]
  refine wpList_val (wanted_of rfl rfl rfl rfl) (exec_mv rfl (ev rfl)) ?_
  simp only [Act.put, List.setIfInBounds_toArray, List.set_cons_succ, List.set_cons_zero]
  refine wpList_val (wanted_of rfl rfl rfl rfl) (exec_mv rfl (ev rfl)) ?_
  simp only [Act.put, List.setIfInBounds_toArray, List.set_cons_succ, List.set_cons_zero]
  refine wpList_call (wanted_of rfl rfl rfl rfl) (exec_cl Try.call19 rfl (evc (ev rfl) (evc (ev rfl) evn))) ?_
  refine (pl_pinned w2 HP2.out HK.out).mono ?_
  rintro e w3 ⟨rfl, rfl⟩
  refine ⟨_, rfl, ?_⟩
  simp only [Act.put, List.setIfInBounds_toArray, List.set_cons_succ, List.set_cons_zero]
  refine wpList_val (wanted_of rfl rfl rfl rfl) (exec_mv rfl (ev rfl)) ?_
  simp only [Act.put, List.setIfInBounds_toArray, List.set_cons_succ, List.set_cons_zero]
  refine wpList_val (wanted_of rfl rfl rfl rfl) (exec_mv rfl (ev rfl)) ?_
  simp only [Act.put, List.setIfInBounds_toArray, List.set_cons_succ, List.set_cons_zero]
  refine wpList_call (wanted_of rfl rfl rfl rfl) (exec_cl Try.call26 rfl (evc (ev rfl) (evc (ev rfl) evn))) ?_
  refine (rl_pinned w2 HR2.out).mono ?_
  rintro e w3 ⟨rfl, rfl⟩
  refine ⟨_, rfl, ?_⟩
  simp only [Act.put, List.setIfInBounds_toArray, List.set_cons_succ, List.set_cons_zero]
  refine wpList_val (v := .bool true) (wanted_of rfl rfl rfl rfl) (exec_eqBool true rfl (ev rfl) (ev rfl) (by simp)) ?_
  simp only [Act.put, List.setIfInBounds_toArray, List.set_cons_succ, List.set_cons_zero]
  refine wpList_valn (v := .bool true) rfl (exec_pt rfl (ev rfl) (ev rfl)) ?_
  simp only [Act.put, List.setIfInBounds_toArray, List.set_cons_succ, List.set_cons_zero]
  refine wpList_valn (v := .bool true) rfl (exec_as rfl (ev rfl)) ?_
  simp only [Act.put, List.setIfInBounds_toArray, List.set_cons_succ, List.set_cons_zero]
  refine wpList_nil ?_
  go_wp2_with fail
  go_ret
  exact ⟨rfl, _, HP2.out, HR2.out, HB2.out.mono HBB.out⟩
theorem l_both (w : World) (hP : PL w B p room L) (hR : RL w B q room L) (hB : B ≤ w.heap.size) (hin : a.In w) : Calls Try.prog 11 #[.pointer (some ⟨p, 0, none⟩), .pointer (some ⟨q, 0, none⟩), a.V] w fun e w' => e = .returned (.bool true) ∧ ∃ L', PL w' B p room L' ∧ RL w' B q room L' ∧ Below B w w' := by
  cases h0 : (a.Do == 0)
  · cases h1 : (a.Do == 1)
    · cases h2 : (a.Do == 2)
      · exact both_has w hP hR hB hin h0 h1 h2
      · exact both_drop w hP hR hB hin h0 h1 h2
    · exact both_pin w hP hR hB hin h0 h1
  · exact both_touch w hP hR hB hin h0
end
set_option maxHeartbeats 2000000 in
theorem plays_no (room : Int) (A : Option Addr) (n c : Nat) (w : World) (h : ¬ (1 ≤ room ∧ room ≤ 64)) : Calls Try.prog 3 #[.int .i64 room, .slice A n c] w fun e w' => e = .returned (.bool true) ∧ Below w.heap.size w w' := by
  have H := Lib.hid h
  clear h
  go_enter Try.func3, Try.ntmps3
  go_wp2_with fail
  refine (pl_new_no room w H.out).mono ?_
  rintro e w1 ⟨rfl, rfl⟩
  go_wp2_with fail
  refine (rl_new_no room w H.out).mono ?_
  rintro e w1 ⟨rfl, rfl⟩
  go_upto_region 6 with fail
  refine wp_region_lit ?_
  refine wpList_valn rfl (exec_mv rfl (ev rfl)) ?_
  simp only [Act.put, List.setIfInBounds_toArray, List.set_cons_succ, List.set_cons_zero]
  refine wpList_valn (v := .bool true) rfl (exec_eqNil true Try.underlying23 rfl (ev rfl) evk rfl) ?_
  simp only [Act.put, List.setIfInBounds_toArray, List.set_cons_succ, List.set_cons_zero]
  refine wpList_valn (v := .bool true) rfl (exec_mv rfl (ev rfl)) ?_
  simp only [Act.put, List.setIfInBounds_toArray, List.set_cons_succ, List.set_cons_zero]
  refine wpList_call (wanted_of rfl rfl rfl rfl) (exec_cl Try.call10 rfl evn) ?_
  refine (l_lives w).mono ?_
  rintro e w2 ⟨rfl, hb⟩
  refine ⟨_, rfl, ?_⟩
  simp only [Act.put, List.setIfInBounds_toArray, List.set_cons_succ, List.set_cons_zero]
  refine wpList_valn (v := .bool true) rfl (exec_pt rfl (ev rfl) (ev rfl)) ?_
  simp only [Act.put, List.setIfInBounds_toArray, List.set_cons_succ, List.set_cons_zero]
  refine wpList_valn (v := .bool true) rfl (exec_as rfl (ev rfl)) ?_
  simp only [Act.put, List.setIfInBounds_toArray, List.set_cons_succ, List.set_cons_zero]
  refine wpList_nil ?_
  go_wp2_with fail
  go_ret
  exact ⟨rfl, hb⟩
set_option maxHeartbeats 4000000 in
theorem plays_yes (room : Nat) (h1 : 1 ≤ room) (h2 : room ≤ 64) (A : Option Addr) (n c : Nat) (l : List Act15) (w : World) (hr : RdE Act15E w w.heap.size A n l) (hn : n ≤ maxLen) (hin : ∀ k, k < n → (l.getD k Act15.zero).In w) :
    Calls Try.prog 3 #[.int .i64 (room : Int), .slice A n c] w fun e w' => e = .returned (.bool true) ∧ Below w.heap.size w w' := by
  unfold maxLen at hn
  have HRD : Hid (∀ w', Below w.heap.size w w' → RdE Act15E w' w.heap.size A n l) := Lib.hid fun w' hb => hr.below hb
  have HIN : Hid (∀ w' k, k < n → (l.getD k Act15.zero).In w') := Lib.hid fun w' k hk => hin k hk
  have HRM := Lib.hid (And.intro h1 h2)
  have HNM := Lib.hid hn
  clear hr hin h1 h2
  go_enter Try.func3, Try.ntmps3
  go_wp2_with fail
  refine (pl_new room w HRM.out.1 HRM.out.2).mono ?_
  rintro e w1 ⟨p, rfl, hp1, hb1⟩
  have HP1 := Lib.hid hp1
  have HB1 := Lib.hid hb1
  clear hp1 hb1
  go_wp2_with fail
  refine (rl_new room w1 HRM.out.1 HRM.out.2).mono ?_
  rintro e w2 ⟨q, rfl, hq2, hb2⟩
  have HP2 := Lib.hid (HP1.out.below hb2)
  have HR2 : Hid (RL w2 w.heap.size q room []) := Lib.hid (by
    obtain ⟨v, h⟩ := hq2
    exact ⟨v, h.at_, h.row.base HB1.out.size, Nat.le_trans HB1.out.size h.low, h.len⟩)
  have HB2 := Lib.hid (HB1.out.trans (hb2.mono HB1.out.size))
  clear hq2 hb2
  go_wp2_with fail
  go_loopw [9] (fun i wr => ∃ (j : Nat) (L : List Ky), j ≤ n ∧ i = .int .i64 j ∧ PL wr w.heap.size p room L ∧ RL wr w.heap.size q room L ∧ Below w.heap.size w wr) (fun i _ => n - (intOf i).toNat)
  case atStart => exact ⟨0, [], Nat.zero_le _, rfl, HP2.out, HR2.out, HB2.out⟩
  case round =>
    obtain ⟨j, L, hj, rfl, hP, hR, hbl⟩ := hrel
    have HP := Lib.hid hP
    have HR := Lib.hid hR
    have HB := Lib.hid hbl
    clear hP hR hbl
    by_cases hlt : j < n ∧ j < 150
    · obtain ⟨hlt, h150⟩ := hlt
      have HL1 : Hid (decide ((j : Int) < (n : Int)) = true) := Lib.hid (decide_eq_true (by omega))
      have HL2 : Hid (decide ((j : Int) < (150 : Int)) = true) := Lib.hid (decide_eq_true (by omega))
      obtain ⟨b, off, hA, hbb, hc⟩ := (HRD.out wr HB.out).2 j hlt
      obtain ⟨a, ha⟩ : ∃ a, l.getD j Act15.zero = a := ⟨_, rfl⟩
      have hain := HIN.out wr j hlt
      rw [ha] at hain
      rw [show l.getD j Act15E.d = a from ha] at hc
      have HA := Lib.hid hA
      have HC := Lib.hid hc
      have HAI := Lib.hid hain
      have HJ := Lib.hid hlt
      clear hA hbb hc ha hain hlt h150
      go_upto_region 8 with fail
      refine wp_region_lit ?_
      refine wpList_valn rfl (exec_mv rfl (ev rfl)) ?_
      simp only [Act.put, List.setIfInBounds_toArray, List.set_cons_succ, List.set_cons_zero]
      refine wpList_valn rfl (exec_mv rfl (ev rfl)) ?_
      simp only [Act.put, List.setIfInBounds_toArray, List.set_cons_succ, List.set_cons_zero]
      refine wpList_valn rfl (exec_lenE Act15E rfl (ev rfl)) ?_
      simp only [Act.put, List.setIfInBounds_toArray, List.set_cons_succ, List.set_cons_zero]
      refine wpList_valn (v := .bool true) rfl (exec_lss true rfl (ev rfl) (ev rfl) HL1.out) ?_
      simp only [Act.put, List.setIfInBounds_toArray, List.set_cons_succ, List.set_cons_zero]
      refine wpList_valn (v := .bool true) rfl (exec_mv rfl (ev rfl)) ?_
      simp only [Act.put, List.setIfInBounds_toArray, List.set_cons_succ, List.set_cons_zero]
      refine wpList_val (wanted_of rfl rfl rfl rfl) (exec_mv rfl (ev rfl)) ?_
      simp only [Act.put, List.setIfInBounds_toArray, List.set_cons_succ, List.set_cons_zero]
      refine wpList_val (v := .bool true) (wanted_of rfl rfl rfl rfl) (exec_lss true rfl (ev rfl) evk HL2.out) ?_
      simp only [Act.put, List.setIfInBounds_toArray, List.set_cons_succ, List.set_cons_zero]
      refine wpList_valn (v := .bool true) rfl (exec_pt rfl (ev rfl) (ev rfl)) ?_
      simp only [Act.put, List.setIfInBounds_toArray, List.set_cons_succ, List.set_cons_zero]
      refine wpList_nil ?_
      go_upto_region 10 with fail
      refine wp_region_lit ?_
      refine wpList_valn rfl (exec_mv rfl (ev rfl)) ?_
      simp only [Act.put, List.setIfInBounds_toArray, List.set_cons_succ, List.set_cons_zero]
      refine wpList_valn rfl (exec_mv rfl (ev rfl)) ?_
      simp only [Act.put, List.setIfInBounds_toArray, List.set_cons_succ, List.set_cons_zero]
      refine wpList_valn rfl (exec_mv rfl (ev rfl)) ?_
      simp only [Act.put, List.setIfInBounds_toArray, List.set_cons_succ, List.set_cons_zero]
      refine wpList_valn rfl (exec_mv rfl (ev rfl)) ?_
      simp only [Act.put, List.setIfInBounds_toArray, List.set_cons_succ, List.set_cons_zero]
      refine wpList_valn rfl (exec_indexE (E := Act15E) (b := b) (off := off) (j := j) rfl ((ev rfl).trans (by rw [HA.out])) (ev rfl) HJ.out) ?_
      simp only [Act.put, List.setIfInBounds_toArray, List.set_cons_succ, List.set_cons_zero]
      refine wpList_valn rfl (exec_loadAct15 (a := a) rfl (ev rfl) HC.out) ?_
      simp only [Act.put, List.setIfInBounds_toArray, List.set_cons_succ, List.set_cons_zero]
      refine wpList_call rfl (exec_cl Try.call11 rfl (evc (ev rfl) (evc (ev rfl) (evc (ev rfl) evn)))) ?_
      refine (l_both wr HP.out HR.out HB.out.size HAI.out).mono ?_
      rintro e w3 ⟨rfl, L3, hp3, hr3, hb3⟩
      have HP3 := Lib.hid hp3
      have HR3 := Lib.hid hr3
      have HB3 := Lib.hid (HB.out.trans hb3)
      clear hp3 hr3 hb3
      refine ⟨_, rfl, ?_⟩
      simp only [Act.put, List.setIfInBounds_toArray, List.set_cons_succ, List.set_cons_zero]
      refine wpList_valn (v := .bool false) rfl (exec_not true rfl (ev rfl)) ?_
      simp only [Act.put, List.setIfInBounds_toArray, List.set_cons_succ, List.set_cons_zero]
      refine wpList_valn (v := .bool false) rfl (exec_mv rfl (ev rfl)) ?_
      simp only [Act.put, List.setIfInBounds_toArray, List.set_cons_succ, List.set_cons_zero]
      refine wpList_val (wanted_of rfl rfl rfl rfl) (exec_mv rfl (ev rfl)) ?_
      simp only [Act.put, List.setIfInBounds_toArray, List.set_cons_succ, List.set_cons_zero]
      refine wpList_call (wanted_of rfl rfl rfl rfl) (exec_cl Try.call13 rfl (evc (ev rfl) evn)) ?_
      refine (pl_keys w3 HP3.out).mono ?_
      rintro e w4 ⟨v4, rfl, hm4, hb4⟩
      obtain ⟨A4, c4, rfl, hc41, hc42⟩ := hm4.form
      have HR4 := Lib.hid hm4.rd
      have HP4 := Lib.hid (HP3.out.below hb4)
      have HQ4 := Lib.hid (HR3.out.below hb4)
      have HB4 := Lib.hid (HB3.out.trans (hb4.mono HB3.out.size))
      clear hm4 hb4 hc41 hc42
      refine ⟨_, rfl, ?_⟩
      simp only [Act.put, List.setIfInBounds_toArray, List.set_cons_succ, List.set_cons_zero]
      refine wpList_val (wanted_of rfl rfl rfl rfl) (exec_mv rfl (ev rfl)) ?_
      simp only [Act.put, List.setIfInBounds_toArray, List.set_cons_succ, List.set_cons_zero]
      refine wpList_call (wanted_of rfl rfl rfl rfl) (exec_cl Try.call14 rfl (evc (ev rfl) evn)) ?_
      refine (rl_keys w4 HQ4.out).mono ?_
      rintro e w5 ⟨v5, rfl, hm5, hb5⟩
      obtain ⟨A5, c5, rfl, hc51, hc52⟩ := hm5.form
      have HR5 := Lib.hid hm5.rd
      have HK5 := Lib.hid (HR4.out.step hb5)
      have HP5 := Lib.hid (HP4.out.below hb5)
      have HQ5 := Lib.hid (HQ4.out.below hb5)
      have HB5 := Lib.hid (HB4.out.trans (hb5.mono HB4.out.size))
      clear hm5 hb5 hc51 hc52
      have HM5 : Hid ((keyL L3).length ≤ maxLen) := Lib.hid (by have h1 := HP5.out.ok.len; have h2 := HP5.out.rm.2; unfold keyL maxLen; rw [List.length_map]; omega)
      refine ⟨_, rfl, ?_⟩
      simp only [Act.put, List.setIfInBounds_toArray, List.set_cons_succ, List.set_cons_zero]
      refine wpList_call (wanted_of rfl rfl rfl rfl) (exec_cl Try.call12 rfl (evc (ev rfl) (evc (ev rfl) evn))) ?_
      refine (ints_any _ _ _ _ _ _ w5.heap.size _ _ w5 HK5.out HR5.out (Nat.le_refl _) HM5.out).mono ?_
      rintro e w6 ⟨rfl, hb6⟩
      rw [show sameI (keyL L3) (keyL L3) = true from by unfold sameI; simp]
      have HP6 := Lib.hid (HP5.out.below hb6)
      have HQ6 := Lib.hid (HQ5.out.below hb6)
      have HB6 := Lib.hid (HB5.out.trans (hb6.mono HB5.out.size))
      clear hb6
      refine ⟨_, rfl, ?_⟩
      simp only [Act.put, List.setIfInBounds_toArray, List.set_cons_succ, List.set_cons_zero]
      refine wpList_val (v := .bool false) (wanted_of rfl rfl rfl rfl) (exec_not true rfl (ev rfl)) ?_
      simp only [Act.put, List.setIfInBounds_toArray, List.set_cons_succ, List.set_cons_zero]
      refine wpList_valn (v := .bool false) rfl (exec_pf rfl (ev rfl) (ev rfl)) ?_
      simp only [Act.put, List.setIfInBounds_toArray, List.set_cons_succ, List.set_cons_zero]
      refine wpList_valn (v := .bool false) rfl (exec_mv rfl (ev rfl)) ?_
      simp only [Act.put, List.setIfInBounds_toArray, List.set_cons_succ, List.set_cons_zero]
      refine wpList_val (wanted_of rfl rfl rfl rfl) (exec_mv rfl (ev rfl)) ?_
      simp only [Act.put, List.setIfInBounds_toArray, List.set_cons_succ, List.set_cons_zero]
      refine wpList_call (wanted_of rfl rfl rfl rfl) (exec_cl Try.call15 rfl (evc (ev rfl) evn)) ?_
      refine (pl_room w6 HP6.out).mono ?_
      rintro e w7 ⟨rfl, rfl⟩
      refine ⟨_, rfl, ?_⟩
      simp only [Act.put, List.setIfInBounds_toArray, List.set_cons_succ, List.set_cons_zero]
      refine wpList_val (wanted_of rfl rfl rfl rfl) (exec_mv rfl (ev rfl)) ?_
      simp only [Act.put, List.setIfInBounds_toArray, List.set_cons_succ, List.set_cons_zero]
      refine wpList_val (v := .bool false) (wanted_of rfl rfl rfl rfl) (exec_neInt false rfl (ev rfl) (ev rfl) (by simp)) ?_
      simp only [Act.put, List.setIfInBounds_toArray, List.set_cons_succ, List.set_cons_zero]
      refine wpList_valn (v := .bool false) rfl (exec_pf rfl (ev rfl) (ev rfl)) ?_
      simp only [Act.put, List.setIfInBounds_toArray, List.set_cons_succ, List.set_cons_zero]
      refine wpList_nil ?_
      have hn := HNM.out
      have hlt := HJ.out
      go_wp2_with fail
      go_roundw
      case rel => exact ⟨j + 1, L3, HJ.out, by go_num, HP6.out, HQ6.out, HB6.out⟩
      case measure => have := HJ.out; simp [intOf]; omega
    · have HBW := HB
      by_cases hjn : j < n
      · have HL1 : Hid (decide ((j : Int) < (n : Int)) = true) := Lib.hid (decide_eq_true (by omega))
        have HL2 : Hid (decide ((j : Int) < (150 : Int)) = false) := Lib.hid (decide_eq_false (by omega))
        clear hlt hjn
        go_upto_region 8 with fail
        refine wp_region_lit ?_
        refine wpList_valn rfl (exec_mv rfl (ev rfl)) ?_
        simp only [Act.put, List.setIfInBounds_toArray, List.set_cons_succ, List.set_cons_zero]
        refine wpList_valn rfl (exec_mv rfl (ev rfl)) ?_
        simp only [Act.put, List.setIfInBounds_toArray, List.set_cons_succ, List.set_cons_zero]
        refine wpList_valn rfl (exec_lenE Act15E rfl (ev rfl)) ?_
        simp only [Act.put, List.setIfInBounds_toArray, List.set_cons_succ, List.set_cons_zero]
        refine wpList_valn (v := .bool true) rfl (exec_lss true rfl (ev rfl) (ev rfl) HL1.out) ?_
        simp only [Act.put, List.setIfInBounds_toArray, List.set_cons_succ, List.set_cons_zero]
        refine wpList_valn (v := .bool true) rfl (exec_mv rfl (ev rfl)) ?_
        simp only [Act.put, List.setIfInBounds_toArray, List.set_cons_succ, List.set_cons_zero]
        refine wpList_val (wanted_of rfl rfl rfl rfl) (exec_mv rfl (ev rfl)) ?_
        simp only [Act.put, List.setIfInBounds_toArray, List.set_cons_succ, List.set_cons_zero]
        refine wpList_val (v := .bool false) (wanted_of rfl rfl rfl rfl) (exec_lss false rfl (ev rfl) evk HL2.out) ?_
        simp only [Act.put, List.setIfInBounds_toArray, List.set_cons_succ, List.set_cons_zero]
        refine wpList_valn (v := .bool false) rfl (exec_pt rfl (ev rfl) (ev rfl)) ?_
        simp only [Act.put, List.setIfInBounds_toArray, List.set_cons_succ, List.set_cons_zero]
        refine wpList_nil ?_
        go_wp2_with fail
        refine (l_lives wr).mono ?_
        rintro e w8 ⟨rfl, hb8⟩
        go_wp2_with fail
        go_ret
        exact ⟨rfl, HBW.out.trans (hb8.mono HBW.out.size)⟩
      · have HL1 : Hid (decide ((j : Int) < (n : Int)) = false) := Lib.hid (decide_eq_false (by omega))
        clear hlt hjn
        go_upto_region 8 with fail
        refine wp_region_lit ?_
        refine wpList_valn rfl (exec_mv rfl (ev rfl)) ?_
        simp only [Act.put, List.setIfInBounds_toArray, List.set_cons_succ, List.set_cons_zero]
        refine wpList_valn rfl (exec_mv rfl (ev rfl)) ?_
        simp only [Act.put, List.setIfInBounds_toArray, List.set_cons_succ, List.set_cons_zero]
        refine wpList_valn rfl (exec_lenE Act15E rfl (ev rfl)) ?_
        simp only [Act.put, List.setIfInBounds_toArray, List.set_cons_succ, List.set_cons_zero]
        refine wpList_valn (v := .bool false) rfl (exec_lss false rfl (ev rfl) (ev rfl) HL1.out) ?_
        simp only [Act.put, List.setIfInBounds_toArray, List.set_cons_succ, List.set_cons_zero]
        refine wpList_skips 2 (v := .bool false) rfl (exec_mv rfl (ev rfl)) (by kernel_rfl) ?_
        simp only [skipAct, List.take_succ_cons, List.take_zero, List.drop_succ_cons, List.drop_zero, Act.put, List.setIfInBounds_toArray, List.set_cons_succ, List.set_cons_zero]
        refine wpList_valn (v := .bool false) rfl (exec_pf rfl (ev rfl) evk) ?_
        simp only [Act.put, List.setIfInBounds_toArray, List.set_cons_succ, List.set_cons_zero]
        refine wpList_nil ?_
        go_wp2_with fail
        refine (l_lives wr).mono ?_
        rintro e w8 ⟨rfl, hb8⟩
        go_wp2_with fail
        go_ret
        exact ⟨rfl, HBW.out.trans (hb8.mono HBW.out.size)⟩
theorem wlruPlays (room : Int) (A : Option Addr) (n c : Nat) (l : List Act15) (w : World) (hr : RdE Act15E w w.heap.size A n l) (hn : n ≤ maxLen) (hin : ∀ k, k < n → (l.getD k Act15.zero).In w) :
    Calls Try.prog 3 #[.int .i64 room, .slice A n c] w fun e w' => e = .returned (.bool true) ∧ Below w.heap.size w w' := by
  by_cases h : 1 ≤ room ∧ room ≤ 64
  · obtain ⟨r, rfl⟩ := Int.eq_ofNat_of_zero_le (show 0 ≤ room by omega)
    exact plays_yes r (by omega) (by omega) A n c l w hr hn hin
  · exact plays_no room A n c w h
end Go.Proofs.Ytmnabdojlekjcaa
