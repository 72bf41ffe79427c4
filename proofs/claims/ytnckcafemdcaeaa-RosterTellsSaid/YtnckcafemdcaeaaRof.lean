/-
  ashlarlaw10.RosterTells walked.
-/
import Derived.Test.YtnckcafemdcaeaaRoe
import Derived.Test.YtnckcafemdcaeaaSkip
import Derived.Test.YtnckcafemdcaeaaSkq
namespace Go.Proofs.Ytnckcafemdcaeaa
open Go.RowKit
set_option linter.unusedVariables false
set_option linter.unusedSimpArgs false
set_option maxRecDepth 100000

set_option maxHeartbeats 8000000 in
theorem rosTells (x : Ros) (m s : Int) (g : Bool) (w : World) : Calls Try.prog 3 #[ros x, .int .i64 m, .int .i64 s, .bool g] w fun e w' => e = .returned (.bool true) ∧ Below w.heap.size w w' := by
  obtain ⟨p0, hp0⟩ : ∃ v, newX x = v := ⟨_, rfl⟩
  have HP0 := Lib.hid hp0
  clear hp0
  obtain ⟨e0, he0⟩ : ∃ v, newE x = v := ⟨_, rfl⟩
  have HE0 := Lib.hid he0
  clear he0
  obtain ⟨f0, hf0⟩ : ∃ v, fineB x = v := ⟨_, rfl⟩
  have HF0 := Lib.hid hf0
  clear hf0
  obtain ⟨h0, hh0⟩ : ∃ v, hasB x m s = v := ⟨_, rfl⟩
  have HH0 := Lib.hid hh0
  clear hh0
  obtain ⟨n0, hn0⟩ : ∃ v, missN x = v := ⟨_, rfl⟩
  have HN0 := Lib.hid hn0
  clear hn0
  obtain ⟨s0, hs0⟩ : ∃ v, stN x = v := ⟨_, rfl⟩
  have HS0 := Lib.hid hs0
  clear hs0
  obtain ⟨k0, hk0⟩ : ∃ v, heaM x = v := ⟨_, rfl⟩
  have HK0 := Lib.hid hk0
  clear hk0
  obtain ⟨q0, hq0⟩ : ∃ v, heaB x = v := ⟨_, rfl⟩
  have HQ0 := Lib.hid hq0
  clear hq0
  obtain ⟨pl, hpl⟩ : ∃ v, losX x m = v := ⟨_, rfl⟩
  have HPL := Lib.hid hpl
  clear hpl
  obtain ⟨bl, hbl⟩ : ∃ v, losB x m = v := ⟨_, rfl⟩
  have HBL := Lib.hid hbl
  clear hbl
  obtain ⟨pb, hpb⟩ : ∃ v, begX x m = v := ⟨_, rfl⟩
  have HPB := Lib.hid hpb
  clear hpb
  obtain ⟨eb, heb⟩ : ∃ v, begE x m = v := ⟨_, rfl⟩
  have HEB := Lib.hid heb
  clear heb
  obtain ⟨pn, hpn⟩ : ∃ v, nexX x = v := ⟨_, rfl⟩
  have HPN := Lib.hid hpn
  clear hpn
  obtain ⟨en, hen⟩ : ∃ v, nexE x = v := ⟨_, rfl⟩
  have HEN := Lib.hid hen
  clear hen
  obtain ⟨pg, hpg⟩ : ∃ v, gonX x g = v := ⟨_, rfl⟩
  have HPG := Lib.hid hpg
  clear hpg
  obtain ⟨eg, heg⟩ : ∃ v, gonE x = v := ⟨_, rfl⟩
  have HEG := Lib.hid heg
  clear heg
  have HT1 : Hid (Blks w (w.alloc (.cells (celR x).toArray 26)) [rc w.heap.size x]) := Lib.hid ((Blks.nil w).allocR x)
  go_enter Try.func3, Try.ntmps3
  go_upto_region 1 with (first | (refine wpList_valn rfl (exec_boxR rfl rfl) ?_) | fail)
  generalize w.alloc (.cells (celR x).toArray 26) = w1 at *
  refine wp_region_lit ?_
  refine wpList_valn rfl (exec_faddr rfl (ev rfl) faR0) ?_
  simp only [Act.put, List.setIfInBounds_toArray, List.set_cons_succ, List.set_cons_zero]
  refine wpList_valn rfl (exec_loadG (c := x) rfl (ev rfl) (HT1.out.ros (i := 0) rfl).geo) ?_
  simp only [Act.put, List.setIfInBounds_toArray, List.set_cons_succ, List.set_cons_zero]
  refine wpList_call rfl (exec_cl Try.call7 rfl (evc (ev rfl) evn)) ?_
  refine (pnew_v w1 HP0.out HE0.out).mono ?_
  rintro e w2 ⟨rfl, hb⟩
  have HT2 := Lib.hid (HT1.out.call hb)
  clear hb HT1
  refine ⟨_, rfl, ?_⟩
  simp only [Act.put, List.setIfInBounds_toArray, List.set_cons_succ, List.set_cons_zero]
  refine wpList_valn rfl (exec_mv rfl (ev rfl)) ?_
  simp only [Act.put, List.setIfInBounds_toArray, List.set_cons_succ, List.set_cons_zero]
  refine wpList_valn rfl (exec_ext rfl (ev rfl) rfl) ?_
  simp only [Act.put, List.setIfInBounds_toArray, List.set_cons_succ, List.set_cons_zero]
  refine wpList_valn rfl (exec_ext rfl (ev rfl) rfl) ?_
  simp only [Act.put, List.setIfInBounds_toArray, List.set_cons_succ, List.set_cons_zero]
  refine wpList_valn rfl (exec_allocR rfl) ?_
  simp only [Act.put, List.setIfInBounds_toArray, List.set_cons_succ, List.set_cons_zero]
  have HT3 : Hid (Blks w (w2.alloc (.cells (celR zeroR).toArray 26)) [rc w.heap.size (x), rc w2.heap.size (zeroR)]) := Lib.hid (HT2.out.allocR zeroR)
  clear HT2
  generalize w2.alloc (.cells (celR zeroR).toArray 26) = w3 at *
  generalize w2.heap.size = b9 at *
  refine wpList_nuln rfl (exec_putR rfl (ev rfl) (ev rfl) (HT3.out.ros (i := 1) rfl)) ?_
  simp only [Act.put, List.setIfInBounds_toArray, List.set_cons_succ, List.set_cons_zero]
  have HT4 : Hid (Blks w (putW w3 b9 (p0)) [rc w.heap.size (x), rc b9 (p0)]) := Lib.hid (HT3.out.putR (i := 1) rfl (p0))
  clear HT3
  generalize putW w3 b9 (p0) = w4 at *
  refine wpList_valn rfl (exec_as rfl (ev rfl)) ?_
  simp only [Act.put, List.setIfInBounds_toArray, List.set_cons_succ, List.set_cons_zero]
  refine wpList_nil ?_
  go_upto_region 2 with fail
  refine wp_region_lit ?_
  refine wpList_valn rfl (exec_faddr rfl (ev rfl) faR0) ?_
  simp only [Act.put, List.setIfInBounds_toArray, List.set_cons_succ, List.set_cons_zero]
  refine wpList_valn rfl (exec_loadG (c := x) rfl (ev rfl) (HT4.out.ros (i := 0) rfl).geo) ?_
  simp only [Act.put, List.setIfInBounds_toArray, List.set_cons_succ, List.set_cons_zero]
  refine wpList_call rfl (exec_cl Try.call8 rfl (evc (ev rfl) evn)) ?_
  refine (rnew_v w4 HP0.out HE0.out).mono ?_
  rintro e w5 ⟨rfl, hb⟩
  have HT5 := Lib.hid (HT4.out.call hb)
  clear hb HT4
  refine ⟨_, rfl, ?_⟩
  simp only [Act.put, List.setIfInBounds_toArray, List.set_cons_succ, List.set_cons_zero]
  refine wpList_valn rfl (exec_mv rfl (ev rfl)) ?_
  simp only [Act.put, List.setIfInBounds_toArray, List.set_cons_succ, List.set_cons_zero]
  refine wpList_valn rfl (exec_ext rfl (ev rfl) rfl) ?_
  simp only [Act.put, List.setIfInBounds_toArray, List.set_cons_succ, List.set_cons_zero]
  refine wpList_valn rfl (exec_ext rfl (ev rfl) rfl) ?_
  simp only [Act.put, List.setIfInBounds_toArray, List.set_cons_succ, List.set_cons_zero]
  refine wpList_valn rfl (exec_allocR rfl) ?_
  simp only [Act.put, List.setIfInBounds_toArray, List.set_cons_succ, List.set_cons_zero]
  have HT6 : Hid (Blks w (w5.alloc (.cells (celR zeroR).toArray 26)) [rc w.heap.size (x), rc b9 (p0), rc w5.heap.size (zeroR)]) := Lib.hid (HT5.out.allocR zeroR)
  clear HT5
  generalize w5.alloc (.cells (celR zeroR).toArray 26) = w6 at *
  generalize w5.heap.size = b11 at *
  refine wpList_nuln rfl (exec_putR rfl (ev rfl) (ev rfl) (HT6.out.ros (i := 2) rfl)) ?_
  simp only [Act.put, List.setIfInBounds_toArray, List.set_cons_succ, List.set_cons_zero]
  have HT7 : Hid (Blks w (putW w6 b11 (p0)) [rc w.heap.size (x), rc b9 (p0), rc b11 (p0)]) := Lib.hid (HT6.out.putR (i := 2) rfl (p0))
  clear HT6
  generalize putW w6 b11 (p0) = w7 at *
  refine wpList_valn rfl (exec_as rfl (ev rfl)) ?_
  simp only [Act.put, List.setIfInBounds_toArray, List.set_cons_succ, List.set_cons_zero]
  refine wpList_nil ?_
  go_upto_region 3 with fail
  refine wp_region_above (B := w7.heap.size) (by kernel_rfl) ?_
  refine qv_val rfl (fun w' hw => exec_ldR rfl (ev rfl) ((HT7.out.call hw).ros (i := 1) rfl)) ?_
  simp only [Act.put, List.setIfInBounds_toArray, List.set_cons_succ, List.set_cons_zero]
  refine qv_val rfl (fun w' hw => exec_ldR rfl (ev rfl) ((HT7.out.call hw).ros (i := 2) rfl)) ?_
  simp only [Act.put, List.setIfInBounds_toArray, List.set_cons_succ, List.set_cons_zero]
  refine qv_val (v := .bool false) rfl (fun w' hw => exec_neR true rfl (ev rfl) (ev rfl) (decide_eq_true rfl)) ?_
  simp only [Act.put, List.setIfInBounds_toArray, List.set_cons_succ, List.set_cons_zero]
  refine qv_val (v := .bool false) rfl (fun w' hw => exec_mv rfl (ev rfl)) ?_
  simp only [Act.put, List.setIfInBounds_toArray, List.set_cons_succ, List.set_cons_zero]
  refine qv_val (wanted_of rfl rfl rfl rfl) (fun w' hw => exec_mv rfl (ev rfl)) ?_
  simp only [Act.put, List.setIfInBounds_toArray, List.set_cons_succ, List.set_cons_zero]
  refine qv_val (wanted_of rfl rfl rfl rfl) (fun w' hw => exec_mv rfl (ev rfl)) ?_
  simp only [Act.put, List.setIfInBounds_toArray, List.set_cons_succ, List.set_cons_zero]
  refine qv_val (v := .bool false) (wanted_of rfl rfl rfl rfl) (fun w' hw => exec_neInt false rfl (ev rfl) (ev rfl) (bne_self_eq_false _)) ?_
  simp only [Act.put, List.setIfInBounds_toArray, List.set_cons_succ, List.set_cons_zero]
  refine qv_val (v := .bool false) rfl (fun w' hw => exec_pf rfl (ev rfl) (ev rfl)) ?_
  simp only [Act.put, List.setIfInBounds_toArray, List.set_cons_succ, List.set_cons_zero]
  refine qv_val (v := .bool false) rfl (fun w' hw => exec_mv rfl (ev rfl)) ?_
  simp only [Act.put, List.setIfInBounds_toArray, List.set_cons_succ, List.set_cons_zero]
  refine qv_val (wanted_of rfl rfl rfl rfl) (fun w' hw => exec_ldR rfl (ev rfl) ((HT7.out.call hw).ros (i := 0) rfl)) ?_
  simp only [Act.put, List.setIfInBounds_toArray, List.set_cons_succ, List.set_cons_zero]
  refine qv_call (wanted_of rfl rfl rfl rfl) (fun _ => exec_cl Try.call9 rfl (evc (ev rfl) evn)) (above_of (Nat.le_refl _) fun w' hw => pmay_b w' HF0.out) ?_
  simp only [Act.put, List.setIfInBounds_toArray, List.set_cons_succ, List.set_cons_zero]
  refine qv_val (wanted_of rfl rfl rfl rfl) (fun w' hw => exec_ldR rfl (ev rfl) ((HT7.out.call hw).ros (i := 0) rfl)) ?_
  simp only [Act.put, List.setIfInBounds_toArray, List.set_cons_succ, List.set_cons_zero]
  refine qv_call (wanted_of rfl rfl rfl rfl) (fun _ => exec_cl Try.call10 rfl (evc (ev rfl) evn)) (above_of (Nat.le_refl _) fun w' hw => rmay_b w' HF0.out) ?_
  simp only [Act.put, List.setIfInBounds_toArray, List.set_cons_succ, List.set_cons_zero]
  refine qv_val (v := .bool false) (wanted_of rfl rfl rfl rfl) (fun w' hw => exec_neBool false rfl (ev rfl) (ev rfl) (bne_self_eq_false _)) ?_
  simp only [Act.put, List.setIfInBounds_toArray, List.set_cons_succ, List.set_cons_zero]
  refine qv_val (v := .bool false) rfl (fun w' hw => exec_pf rfl (ev rfl) (ev rfl)) ?_
  simp only [Act.put, List.setIfInBounds_toArray, List.set_cons_succ, List.set_cons_zero]
  refine qv_val (v := .bool false) rfl (fun w' hw => exec_mv rfl (ev rfl)) ?_
  simp only [Act.put, List.setIfInBounds_toArray, List.set_cons_succ, List.set_cons_zero]
  refine qv_val (wanted_of rfl rfl rfl rfl) (fun w' hw => exec_ldR rfl (ev rfl) ((HT7.out.call hw).ros (i := 0) rfl)) ?_
  simp only [Act.put, List.setIfInBounds_toArray, List.set_cons_succ, List.set_cons_zero]
  refine qv_val (wanted_of rfl rfl rfl rfl) (fun w' hw => exec_mv rfl (ev rfl)) ?_
  simp only [Act.put, List.setIfInBounds_toArray, List.set_cons_succ, List.set_cons_zero]
  refine qv_val (wanted_of rfl rfl rfl rfl) (fun w' hw => exec_mv rfl (ev rfl)) ?_
  simp only [Act.put, List.setIfInBounds_toArray, List.set_cons_succ, List.set_cons_zero]
  refine qv_call (wanted_of rfl rfl rfl rfl) (fun _ => exec_cl Try.call11 rfl (evc (ev rfl) (evc (ev rfl) (evc (ev rfl) evn)))) (above_of (Nat.le_refl _) fun w' hw => phas_b w' HH0.out) ?_
  simp only [Act.put, List.setIfInBounds_toArray, List.set_cons_succ, List.set_cons_zero]
  refine qv_val (wanted_of rfl rfl rfl rfl) (fun w' hw => exec_ldR rfl (ev rfl) ((HT7.out.call hw).ros (i := 0) rfl)) ?_
  simp only [Act.put, List.setIfInBounds_toArray, List.set_cons_succ, List.set_cons_zero]
  refine qv_val (wanted_of rfl rfl rfl rfl) (fun w' hw => exec_mv rfl (ev rfl)) ?_
  simp only [Act.put, List.setIfInBounds_toArray, List.set_cons_succ, List.set_cons_zero]
  refine qv_val (wanted_of rfl rfl rfl rfl) (fun w' hw => exec_mv rfl (ev rfl)) ?_
  simp only [Act.put, List.setIfInBounds_toArray, List.set_cons_succ, List.set_cons_zero]
  refine qv_call (wanted_of rfl rfl rfl rfl) (fun _ => exec_cl Try.call12 rfl (evc (ev rfl) (evc (ev rfl) (evc (ev rfl) evn)))) (above_of (Nat.le_refl _) fun w' hw => rhas_b w' HH0.out) ?_
  simp only [Act.put, List.setIfInBounds_toArray, List.set_cons_succ, List.set_cons_zero]
  refine qv_val (v := .bool false) (wanted_of rfl rfl rfl rfl) (fun w' hw => exec_neBool false rfl (ev rfl) (ev rfl) (bne_self_eq_false _)) ?_
  simp only [Act.put, List.setIfInBounds_toArray, List.set_cons_succ, List.set_cons_zero]
  refine qv_val (v := .bool false) rfl (fun w' hw => exec_pf rfl (ev rfl) (ev rfl)) ?_
  simp only [Act.put, List.setIfInBounds_toArray, List.set_cons_succ, List.set_cons_zero]
  refine qv_val (v := .bool false) rfl (fun w' hw => exec_mv rfl (ev rfl)) ?_
  simp only [Act.put, List.setIfInBounds_toArray, List.set_cons_succ, List.set_cons_zero]
  refine qv_val (wanted_of rfl rfl rfl rfl) (fun w' hw => exec_ldR rfl (ev rfl) ((HT7.out.call hw).ros (i := 0) rfl)) ?_
  simp only [Act.put, List.setIfInBounds_toArray, List.set_cons_succ, List.set_cons_zero]
  refine qv_call (wanted_of rfl rfl rfl rfl) (fun _ => exec_cl Try.call13 rfl (evc (ev rfl) evn)) (above_of (Nat.le_refl _) fun w' hw => pmiss_n w' HN0.out) ?_
  simp only [Act.put, List.setIfInBounds_toArray, List.set_cons_succ, List.set_cons_zero]
  refine qv_val (wanted_of rfl rfl rfl rfl) (fun w' hw => exec_ldR rfl (ev rfl) ((HT7.out.call hw).ros (i := 0) rfl)) ?_
  simp only [Act.put, List.setIfInBounds_toArray, List.set_cons_succ, List.set_cons_zero]
  refine qv_call (wanted_of rfl rfl rfl rfl) (fun _ => exec_cl Try.call14 rfl (evc (ev rfl) evn)) (above_of (Nat.le_refl _) fun w' hw => rmiss_n w' HN0.out) ?_
  simp only [Act.put, List.setIfInBounds_toArray, List.set_cons_succ, List.set_cons_zero]
  refine qv_val (v := .bool false) (wanted_of rfl rfl rfl rfl) (fun w' hw => exec_neInt false rfl (ev rfl) (ev rfl) (bne_self_eq_false _)) ?_
  simp only [Act.put, List.setIfInBounds_toArray, List.set_cons_succ, List.set_cons_zero]
  refine qv_val (v := .bool false) rfl (fun w' hw => exec_pf rfl (ev rfl) (ev rfl)) ?_
  simp only [Act.put, List.setIfInBounds_toArray, List.set_cons_succ, List.set_cons_zero]
  refine qv_val (v := .bool false) rfl (fun w' hw => exec_mv rfl (ev rfl)) ?_
  simp only [Act.put, List.setIfInBounds_toArray, List.set_cons_succ, List.set_cons_zero]
  refine qv_val (wanted_of rfl rfl rfl rfl) (fun w' hw => exec_ldR rfl (ev rfl) ((HT7.out.call hw).ros (i := 0) rfl)) ?_
  simp only [Act.put, List.setIfInBounds_toArray, List.set_cons_succ, List.set_cons_zero]
  refine qv_call (wanted_of rfl rfl rfl rfl) (fun _ => exec_cl Try.call15 rfl (evc (ev rfl) evn)) (above_of (Nat.le_refl _) fun w' hw => pstate_n w' HS0.out) ?_
  simp only [Act.put, List.setIfInBounds_toArray, List.set_cons_succ, List.set_cons_zero]
  refine qv_val (wanted_of rfl rfl rfl rfl) (fun w' hw => exec_ldR rfl (ev rfl) ((HT7.out.call hw).ros (i := 0) rfl)) ?_
  simp only [Act.put, List.setIfInBounds_toArray, List.set_cons_succ, List.set_cons_zero]
  refine qv_call (wanted_of rfl rfl rfl rfl) (fun _ => exec_cl Try.call16 rfl (evc (ev rfl) evn)) (above_of (Nat.le_refl _) fun w' hw => rstate_n w' HS0.out) ?_
  simp only [Act.put, List.setIfInBounds_toArray, List.set_cons_succ, List.set_cons_zero]
  refine qv_val (v := .bool false) (wanted_of rfl rfl rfl rfl) (fun w' hw => exec_neInt false rfl (ev rfl) (ev rfl) (bne_self_eq_false _)) ?_
  simp only [Act.put, List.setIfInBounds_toArray, List.set_cons_succ, List.set_cons_zero]
  refine qv_val (v := .bool false) rfl (fun w' hw => exec_pf rfl (ev rfl) (ev rfl)) ?_
  simp only [Act.put, List.setIfInBounds_toArray, List.set_cons_succ, List.set_cons_zero]
  refine wpQuiet_nil ?_
  intro w8 hw
  have HT8 := Lib.hid (HT7.out.call hw)
  clear hw HT7
  go_upto_region 5 with fail
  refine wp_region_lit ?_
  refine wpList_valn rfl (exec_ldR rfl (ev rfl) (HT8.out.ros (i := 0) rfl)) ?_
  simp only [Act.put, List.setIfInBounds_toArray, List.set_cons_succ, List.set_cons_zero]
  refine wpList_call rfl (exec_cl Try.call17 rfl (evc (ev rfl) evn)) ?_
  refine (pheals_b w8 HK0.out HQ0.out).mono ?_
  rintro e w9 ⟨rfl, hb⟩
  have HT9 := Lib.hid (HT8.out.call hb)
  clear hb HT8
  refine ⟨_, rfl, ?_⟩
  simp only [Act.put, List.setIfInBounds_toArray, List.set_cons_succ, List.set_cons_zero]
  refine wpList_valn rfl (exec_mv rfl (ev rfl)) ?_
  simp only [Act.put, List.setIfInBounds_toArray, List.set_cons_succ, List.set_cons_zero]
  refine wpList_valn rfl (exec_ext rfl (ev rfl) rfl) ?_
  simp only [Act.put, List.setIfInBounds_toArray, List.set_cons_succ, List.set_cons_zero]
  refine wpList_valn rfl (exec_ext rfl (ev rfl) rfl) ?_
  simp only [Act.put, List.setIfInBounds_toArray, List.set_cons_succ, List.set_cons_zero]
  refine wpList_valn rfl (exec_as rfl (ev rfl)) ?_
  simp only [Act.put, List.setIfInBounds_toArray, List.set_cons_succ, List.set_cons_zero]
  refine wpList_valn rfl (exec_as rfl (ev rfl)) ?_
  simp only [Act.put, List.setIfInBounds_toArray, List.set_cons_succ, List.set_cons_zero]
  refine wpList_nil ?_
  go_upto_region 6 with fail
  refine wp_region_lit ?_
  refine wpList_valn rfl (exec_ldR rfl (ev rfl) (HT9.out.ros (i := 0) rfl)) ?_
  simp only [Act.put, List.setIfInBounds_toArray, List.set_cons_succ, List.set_cons_zero]
  refine wpList_call rfl (exec_cl Try.call18 rfl (evc (ev rfl) evn)) ?_
  refine (rheals_b w9 HK0.out HQ0.out).mono ?_
  rintro e w10 ⟨rfl, hb⟩
  have HT10 := Lib.hid (HT9.out.call hb)
  clear hb HT9
  refine ⟨_, rfl, ?_⟩
  simp only [Act.put, List.setIfInBounds_toArray, List.set_cons_succ, List.set_cons_zero]
  refine wpList_valn rfl (exec_mv rfl (ev rfl)) ?_
  simp only [Act.put, List.setIfInBounds_toArray, List.set_cons_succ, List.set_cons_zero]
  refine wpList_valn rfl (exec_ext rfl (ev rfl) rfl) ?_
  simp only [Act.put, List.setIfInBounds_toArray, List.set_cons_succ, List.set_cons_zero]
  refine wpList_valn rfl (exec_ext rfl (ev rfl) rfl) ?_
  simp only [Act.put, List.setIfInBounds_toArray, List.set_cons_succ, List.set_cons_zero]
  refine wpList_valn rfl (exec_as rfl (ev rfl)) ?_
  simp only [Act.put, List.setIfInBounds_toArray, List.set_cons_succ, List.set_cons_zero]
  refine wpList_valn rfl (exec_as rfl (ev rfl)) ?_
  simp only [Act.put, List.setIfInBounds_toArray, List.set_cons_succ, List.set_cons_zero]
  refine wpList_nil ?_
  go_upto_region 7 with fail
  refine wp_region_lit ?_
  refine wpList_valn rfl (exec_mv rfl (ev rfl)) ?_
  simp only [Act.put, List.setIfInBounds_toArray, List.set_cons_succ, List.set_cons_zero]
  refine wpList_valn rfl (exec_mv rfl (ev rfl)) ?_
  simp only [Act.put, List.setIfInBounds_toArray, List.set_cons_succ, List.set_cons_zero]
  refine wpList_valn (v := .bool false) rfl (exec_neInt false rfl (ev rfl) (ev rfl) (bne_self_eq_false _)) ?_
  simp only [Act.put, List.setIfInBounds_toArray, List.set_cons_succ, List.set_cons_zero]
  refine wpList_valn (v := .bool false) rfl (exec_mv rfl (ev rfl)) ?_
  simp only [Act.put, List.setIfInBounds_toArray, List.set_cons_succ, List.set_cons_zero]
  refine wpList_val (wanted_of rfl rfl rfl rfl) (exec_mv rfl (ev rfl)) ?_
  simp only [Act.put, List.setIfInBounds_toArray, List.set_cons_succ, List.set_cons_zero]
  refine wpList_val (wanted_of rfl rfl rfl rfl) (exec_mv rfl (ev rfl)) ?_
  simp only [Act.put, List.setIfInBounds_toArray, List.set_cons_succ, List.set_cons_zero]
  refine wpList_val (v := .bool false) (wanted_of rfl rfl rfl rfl) (exec_neBool false rfl (ev rfl) (ev rfl) (bne_self_eq_false _)) ?_
  simp only [Act.put, List.setIfInBounds_toArray, List.set_cons_succ, List.set_cons_zero]
  refine wpList_valn (v := .bool false) rfl (exec_pf rfl (ev rfl) (ev rfl)) ?_
  simp only [Act.put, List.setIfInBounds_toArray, List.set_cons_succ, List.set_cons_zero]
  refine wpList_nil ?_
  go_upto_region 9 with fail
  refine wp_region_lit ?_
  refine wpList_valn rfl (exec_ldR rfl (ev rfl) (HT10.out.ros (i := 0) rfl)) ?_
  simp only [Act.put, List.setIfInBounds_toArray, List.set_cons_succ, List.set_cons_zero]
  refine wpList_valn rfl (exec_mv rfl (ev rfl)) ?_
  simp only [Act.put, List.setIfInBounds_toArray, List.set_cons_succ, List.set_cons_zero]
  refine wpList_call rfl (exec_cl Try.call19 rfl (evc (ev rfl) (evc (ev rfl) evn))) ?_
  refine (plose_v w10 HPL.out HBL.out).mono ?_
  rintro e w11 ⟨rfl, hb⟩
  have HT11 := Lib.hid (HT10.out.call hb)
  clear hb HT10
  refine ⟨_, rfl, ?_⟩
  simp only [Act.put, List.setIfInBounds_toArray, List.set_cons_succ, List.set_cons_zero]
  refine wpList_valn rfl (exec_mv rfl (ev rfl)) ?_
  simp only [Act.put, List.setIfInBounds_toArray, List.set_cons_succ, List.set_cons_zero]
  refine wpList_valn rfl (exec_ext rfl (ev rfl) rfl) ?_
  simp only [Act.put, List.setIfInBounds_toArray, List.set_cons_succ, List.set_cons_zero]
  refine wpList_valn rfl (exec_ext rfl (ev rfl) rfl) ?_
  simp only [Act.put, List.setIfInBounds_toArray, List.set_cons_succ, List.set_cons_zero]
  refine wpList_nuln rfl (exec_putR rfl (ev rfl) (ev rfl) (HT11.out.ros (i := 1) rfl)) ?_
  simp only [Act.put, List.setIfInBounds_toArray, List.set_cons_succ, List.set_cons_zero]
  have HT12 : Hid (Blks w (putW w11 b9 (pl)) [rc w.heap.size (x), rc b9 (pl), rc b11 (p0)]) := Lib.hid (HT11.out.putR (i := 1) rfl (pl))
  clear HT11
  generalize putW w11 b9 (pl) = w12 at *
  refine wpList_valn rfl (exec_as rfl (ev rfl)) ?_
  simp only [Act.put, List.setIfInBounds_toArray, List.set_cons_succ, List.set_cons_zero]
  refine wpList_nil ?_
  go_upto_region 10 with fail
  refine wp_region_lit ?_
  refine wpList_valn rfl (exec_ldR rfl (ev rfl) (HT12.out.ros (i := 0) rfl)) ?_
  simp only [Act.put, List.setIfInBounds_toArray, List.set_cons_succ, List.set_cons_zero]
  refine wpList_valn rfl (exec_mv rfl (ev rfl)) ?_
  simp only [Act.put, List.setIfInBounds_toArray, List.set_cons_succ, List.set_cons_zero]
  refine wpList_call rfl (exec_cl Try.call20 rfl (evc (ev rfl) (evc (ev rfl) evn))) ?_
  refine (rlose_v w12 HPL.out HBL.out).mono ?_
  rintro e w13 ⟨rfl, hb⟩
  have HT13 := Lib.hid (HT12.out.call hb)
  clear hb HT12
  refine ⟨_, rfl, ?_⟩
  simp only [Act.put, List.setIfInBounds_toArray, List.set_cons_succ, List.set_cons_zero]
  refine wpList_valn rfl (exec_mv rfl (ev rfl)) ?_
  simp only [Act.put, List.setIfInBounds_toArray, List.set_cons_succ, List.set_cons_zero]
  refine wpList_valn rfl (exec_ext rfl (ev rfl) rfl) ?_
  simp only [Act.put, List.setIfInBounds_toArray, List.set_cons_succ, List.set_cons_zero]
  refine wpList_valn rfl (exec_ext rfl (ev rfl) rfl) ?_
  simp only [Act.put, List.setIfInBounds_toArray, List.set_cons_succ, List.set_cons_zero]
  refine wpList_nuln rfl (exec_putR rfl (ev rfl) (ev rfl) (HT13.out.ros (i := 2) rfl)) ?_
  simp only [Act.put, List.setIfInBounds_toArray, List.set_cons_succ, List.set_cons_zero]
  have HT14 : Hid (Blks w (putW w13 b11 (pl)) [rc w.heap.size (x), rc b9 (pl), rc b11 (pl)]) := Lib.hid (HT13.out.putR (i := 2) rfl (pl))
  clear HT13
  generalize putW w13 b11 (pl) = w14 at *
  refine wpList_valn rfl (exec_as rfl (ev rfl)) ?_
  simp only [Act.put, List.setIfInBounds_toArray, List.set_cons_succ, List.set_cons_zero]
  refine wpList_nil ?_
  go_upto_region 11 with fail
  refine wp_region_lit ?_
  refine wpList_valn rfl (exec_ldR rfl (ev rfl) (HT14.out.ros (i := 1) rfl)) ?_
  simp only [Act.put, List.setIfInBounds_toArray, List.set_cons_succ, List.set_cons_zero]
  refine wpList_valn rfl (exec_ldR rfl (ev rfl) (HT14.out.ros (i := 2) rfl)) ?_
  simp only [Act.put, List.setIfInBounds_toArray, List.set_cons_succ, List.set_cons_zero]
  refine wpList_valn (v := .bool false) rfl (exec_neR true rfl (ev rfl) (ev rfl) (decide_eq_true rfl)) ?_
  simp only [Act.put, List.setIfInBounds_toArray, List.set_cons_succ, List.set_cons_zero]
  refine wpList_valn (v := .bool false) rfl (exec_mv rfl (ev rfl)) ?_
  simp only [Act.put, List.setIfInBounds_toArray, List.set_cons_succ, List.set_cons_zero]
  refine wpList_val (wanted_of rfl rfl rfl rfl) (exec_mv rfl (ev rfl)) ?_
  simp only [Act.put, List.setIfInBounds_toArray, List.set_cons_succ, List.set_cons_zero]
  refine wpList_val (wanted_of rfl rfl rfl rfl) (exec_mv rfl (ev rfl)) ?_
  simp only [Act.put, List.setIfInBounds_toArray, List.set_cons_succ, List.set_cons_zero]
  refine wpList_val (v := .bool false) (wanted_of rfl rfl rfl rfl) (exec_neBool false rfl (ev rfl) (ev rfl) (bne_self_eq_false _)) ?_
  simp only [Act.put, List.setIfInBounds_toArray, List.set_cons_succ, List.set_cons_zero]
  refine wpList_valn (v := .bool false) rfl (exec_pf rfl (ev rfl) (ev rfl)) ?_
  simp only [Act.put, List.setIfInBounds_toArray, List.set_cons_succ, List.set_cons_zero]
  refine wpList_nil ?_
  go_upto_region 13 with fail
  refine wp_region_lit ?_
  refine wpList_valn rfl (exec_ldR rfl (ev rfl) (HT14.out.ros (i := 0) rfl)) ?_
  simp only [Act.put, List.setIfInBounds_toArray, List.set_cons_succ, List.set_cons_zero]
  refine wpList_valn rfl (exec_mv rfl (ev rfl)) ?_
  simp only [Act.put, List.setIfInBounds_toArray, List.set_cons_succ, List.set_cons_zero]
  refine wpList_call rfl (exec_cl Try.call21 rfl (evc (ev rfl) (evc (ev rfl) evn))) ?_
  refine (pbeg_v w14 HPB.out HEB.out).mono ?_
  rintro e w15 ⟨rfl, hb⟩
  have HT15 := Lib.hid (HT14.out.call hb)
  clear hb HT14
  refine ⟨_, rfl, ?_⟩
  simp only [Act.put, List.setIfInBounds_toArray, List.set_cons_succ, List.set_cons_zero]
  refine wpList_valn rfl (exec_mv rfl (ev rfl)) ?_
  simp only [Act.put, List.setIfInBounds_toArray, List.set_cons_succ, List.set_cons_zero]
  refine wpList_valn rfl (exec_ext rfl (ev rfl) rfl) ?_
  simp only [Act.put, List.setIfInBounds_toArray, List.set_cons_succ, List.set_cons_zero]
  refine wpList_valn rfl (exec_ext rfl (ev rfl) rfl) ?_
  simp only [Act.put, List.setIfInBounds_toArray, List.set_cons_succ, List.set_cons_zero]
  refine wpList_nuln rfl (exec_putR rfl (ev rfl) (ev rfl) (HT15.out.ros (i := 1) rfl)) ?_
  simp only [Act.put, List.setIfInBounds_toArray, List.set_cons_succ, List.set_cons_zero]
  have HT16 : Hid (Blks w (putW w15 b9 (pb)) [rc w.heap.size (x), rc b9 (pb), rc b11 (pl)]) := Lib.hid (HT15.out.putR (i := 1) rfl (pb))
  clear HT15
  generalize putW w15 b9 (pb) = w16 at *
  refine wpList_valn rfl (exec_as rfl (ev rfl)) ?_
  simp only [Act.put, List.setIfInBounds_toArray, List.set_cons_succ, List.set_cons_zero]
  refine wpList_nil ?_
  go_upto_region 14 with fail
  refine wp_region_lit ?_
  refine wpList_valn rfl (exec_ldR rfl (ev rfl) (HT16.out.ros (i := 0) rfl)) ?_
  simp only [Act.put, List.setIfInBounds_toArray, List.set_cons_succ, List.set_cons_zero]
  refine wpList_valn rfl (exec_mv rfl (ev rfl)) ?_
  simp only [Act.put, List.setIfInBounds_toArray, List.set_cons_succ, List.set_cons_zero]
  refine wpList_call rfl (exec_cl Try.call22 rfl (evc (ev rfl) (evc (ev rfl) evn))) ?_
  refine (rbeg_v w16 HPB.out HEB.out).mono ?_
  rintro e w17 ⟨rfl, hb⟩
  have HT17 := Lib.hid (HT16.out.call hb)
  clear hb HT16
  refine ⟨_, rfl, ?_⟩
  simp only [Act.put, List.setIfInBounds_toArray, List.set_cons_succ, List.set_cons_zero]
  refine wpList_valn rfl (exec_mv rfl (ev rfl)) ?_
  simp only [Act.put, List.setIfInBounds_toArray, List.set_cons_succ, List.set_cons_zero]
  refine wpList_valn rfl (exec_ext rfl (ev rfl) rfl) ?_
  simp only [Act.put, List.setIfInBounds_toArray, List.set_cons_succ, List.set_cons_zero]
  refine wpList_valn rfl (exec_ext rfl (ev rfl) rfl) ?_
  simp only [Act.put, List.setIfInBounds_toArray, List.set_cons_succ, List.set_cons_zero]
  refine wpList_nuln rfl (exec_putR rfl (ev rfl) (ev rfl) (HT17.out.ros (i := 2) rfl)) ?_
  simp only [Act.put, List.setIfInBounds_toArray, List.set_cons_succ, List.set_cons_zero]
  have HT18 : Hid (Blks w (putW w17 b11 (pb)) [rc w.heap.size (x), rc b9 (pb), rc b11 (pb)]) := Lib.hid (HT17.out.putR (i := 2) rfl (pb))
  clear HT17
  generalize putW w17 b11 (pb) = w18 at *
  refine wpList_valn rfl (exec_as rfl (ev rfl)) ?_
  simp only [Act.put, List.setIfInBounds_toArray, List.set_cons_succ, List.set_cons_zero]
  refine wpList_nil ?_
  go_upto_region 15 with fail
  refine wp_region_lit ?_
  refine wpList_valn rfl (exec_ldR rfl (ev rfl) (HT18.out.ros (i := 1) rfl)) ?_
  simp only [Act.put, List.setIfInBounds_toArray, List.set_cons_succ, List.set_cons_zero]
  refine wpList_valn rfl (exec_ldR rfl (ev rfl) (HT18.out.ros (i := 2) rfl)) ?_
  simp only [Act.put, List.setIfInBounds_toArray, List.set_cons_succ, List.set_cons_zero]
  refine wpList_valn (v := .bool false) rfl (exec_neR true rfl (ev rfl) (ev rfl) (decide_eq_true rfl)) ?_
  simp only [Act.put, List.setIfInBounds_toArray, List.set_cons_succ, List.set_cons_zero]
  refine wpList_valn (v := .bool false) rfl (exec_mv rfl (ev rfl)) ?_
  simp only [Act.put, List.setIfInBounds_toArray, List.set_cons_succ, List.set_cons_zero]
  refine wpList_val (wanted_of rfl rfl rfl rfl) (exec_mv rfl (ev rfl)) ?_
  simp only [Act.put, List.setIfInBounds_toArray, List.set_cons_succ, List.set_cons_zero]
  refine wpList_val (wanted_of rfl rfl rfl rfl) (exec_mv rfl (ev rfl)) ?_
  simp only [Act.put, List.setIfInBounds_toArray, List.set_cons_succ, List.set_cons_zero]
  refine wpList_val (v := .bool false) (wanted_of rfl rfl rfl rfl) (exec_neInt false rfl (ev rfl) (ev rfl) (bne_self_eq_false _)) ?_
  simp only [Act.put, List.setIfInBounds_toArray, List.set_cons_succ, List.set_cons_zero]
  refine wpList_valn (v := .bool false) rfl (exec_pf rfl (ev rfl) (ev rfl)) ?_
  simp only [Act.put, List.setIfInBounds_toArray, List.set_cons_succ, List.set_cons_zero]
  refine wpList_nil ?_
  go_upto_region 17 with fail
  refine wp_region_lit ?_
  refine wpList_valn rfl (exec_ldR rfl (ev rfl) (HT18.out.ros (i := 0) rfl)) ?_
  simp only [Act.put, List.setIfInBounds_toArray, List.set_cons_succ, List.set_cons_zero]
  refine wpList_call rfl (exec_cl Try.call23 rfl (evc (ev rfl) evn)) ?_
  refine (pnext_v w18 HPN.out HEN.out).mono ?_
  rintro e w19 ⟨rfl, hb⟩
  have HT19 := Lib.hid (HT18.out.call hb)
  clear hb HT18
  refine ⟨_, rfl, ?_⟩
  simp only [Act.put, List.setIfInBounds_toArray, List.set_cons_succ, List.set_cons_zero]
  refine wpList_valn rfl (exec_mv rfl (ev rfl)) ?_
  simp only [Act.put, List.setIfInBounds_toArray, List.set_cons_succ, List.set_cons_zero]
  refine wpList_valn rfl (exec_ext rfl (ev rfl) rfl) ?_
  simp only [Act.put, List.setIfInBounds_toArray, List.set_cons_succ, List.set_cons_zero]
  refine wpList_valn rfl (exec_ext rfl (ev rfl) rfl) ?_
  simp only [Act.put, List.setIfInBounds_toArray, List.set_cons_succ, List.set_cons_zero]
  refine wpList_nuln rfl (exec_putR rfl (ev rfl) (ev rfl) (HT19.out.ros (i := 1) rfl)) ?_
  simp only [Act.put, List.setIfInBounds_toArray, List.set_cons_succ, List.set_cons_zero]
  have HT20 : Hid (Blks w (putW w19 b9 (pn)) [rc w.heap.size (x), rc b9 (pn), rc b11 (pb)]) := Lib.hid (HT19.out.putR (i := 1) rfl (pn))
  clear HT19
  generalize putW w19 b9 (pn) = w20 at *
  refine wpList_valn rfl (exec_as rfl (ev rfl)) ?_
  simp only [Act.put, List.setIfInBounds_toArray, List.set_cons_succ, List.set_cons_zero]
  refine wpList_nil ?_
  go_upto_region 18 with fail
  refine wp_region_lit ?_
  refine wpList_valn rfl (exec_ldR rfl (ev rfl) (HT20.out.ros (i := 0) rfl)) ?_
  simp only [Act.put, List.setIfInBounds_toArray, List.set_cons_succ, List.set_cons_zero]
  refine wpList_call rfl (exec_cl Try.call24 rfl (evc (ev rfl) evn)) ?_
  refine (rnext_v w20 HPN.out HEN.out).mono ?_
  rintro e w21 ⟨rfl, hb⟩
  have HT21 := Lib.hid (HT20.out.call hb)
  clear hb HT20
  refine ⟨_, rfl, ?_⟩
  simp only [Act.put, List.setIfInBounds_toArray, List.set_cons_succ, List.set_cons_zero]
  refine wpList_valn rfl (exec_mv rfl (ev rfl)) ?_
  simp only [Act.put, List.setIfInBounds_toArray, List.set_cons_succ, List.set_cons_zero]
  refine wpList_valn rfl (exec_ext rfl (ev rfl) rfl) ?_
  simp only [Act.put, List.setIfInBounds_toArray, List.set_cons_succ, List.set_cons_zero]
  refine wpList_valn rfl (exec_ext rfl (ev rfl) rfl) ?_
  simp only [Act.put, List.setIfInBounds_toArray, List.set_cons_succ, List.set_cons_zero]
  refine wpList_nuln rfl (exec_putR rfl (ev rfl) (ev rfl) (HT21.out.ros (i := 2) rfl)) ?_
  simp only [Act.put, List.setIfInBounds_toArray, List.set_cons_succ, List.set_cons_zero]
  have HT22 : Hid (Blks w (putW w21 b11 (pn)) [rc w.heap.size (x), rc b9 (pn), rc b11 (pn)]) := Lib.hid (HT21.out.putR (i := 2) rfl (pn))
  clear HT21
  generalize putW w21 b11 (pn) = w22 at *
  refine wpList_valn rfl (exec_as rfl (ev rfl)) ?_
  simp only [Act.put, List.setIfInBounds_toArray, List.set_cons_succ, List.set_cons_zero]
  refine wpList_nil ?_
  go_upto_region 19 with fail
  refine wp_region_lit ?_
  refine wpList_valn rfl (exec_ldR rfl (ev rfl) (HT22.out.ros (i := 1) rfl)) ?_
  simp only [Act.put, List.setIfInBounds_toArray, List.set_cons_succ, List.set_cons_zero]
  refine wpList_valn rfl (exec_ldR rfl (ev rfl) (HT22.out.ros (i := 2) rfl)) ?_
  simp only [Act.put, List.setIfInBounds_toArray, List.set_cons_succ, List.set_cons_zero]
  refine wpList_valn (v := .bool false) rfl (exec_neR true rfl (ev rfl) (ev rfl) (decide_eq_true rfl)) ?_
  simp only [Act.put, List.setIfInBounds_toArray, List.set_cons_succ, List.set_cons_zero]
  refine wpList_valn (v := .bool false) rfl (exec_mv rfl (ev rfl)) ?_
  simp only [Act.put, List.setIfInBounds_toArray, List.set_cons_succ, List.set_cons_zero]
  refine wpList_val (wanted_of rfl rfl rfl rfl) (exec_mv rfl (ev rfl)) ?_
  simp only [Act.put, List.setIfInBounds_toArray, List.set_cons_succ, List.set_cons_zero]
  refine wpList_val (wanted_of rfl rfl rfl rfl) (exec_mv rfl (ev rfl)) ?_
  simp only [Act.put, List.setIfInBounds_toArray, List.set_cons_succ, List.set_cons_zero]
  refine wpList_val (v := .bool false) (wanted_of rfl rfl rfl rfl) (exec_neInt false rfl (ev rfl) (ev rfl) (bne_self_eq_false _)) ?_
  simp only [Act.put, List.setIfInBounds_toArray, List.set_cons_succ, List.set_cons_zero]
  refine wpList_valn (v := .bool false) rfl (exec_pf rfl (ev rfl) (ev rfl)) ?_
  simp only [Act.put, List.setIfInBounds_toArray, List.set_cons_succ, List.set_cons_zero]
  refine wpList_nil ?_
  go_upto_region 21 with fail
  refine wp_region_lit ?_
  refine wpList_valn rfl (exec_ldR rfl (ev rfl) (HT22.out.ros (i := 0) rfl)) ?_
  simp only [Act.put, List.setIfInBounds_toArray, List.set_cons_succ, List.set_cons_zero]
  refine wpList_valn rfl (exec_mv rfl (ev rfl)) ?_
  simp only [Act.put, List.setIfInBounds_toArray, List.set_cons_succ, List.set_cons_zero]
  refine wpList_call rfl (exec_cl Try.call25 rfl (evc (ev rfl) (evc (ev rfl) evn))) ?_
  refine (pgone_v w22 HPG.out HEG.out).mono ?_
  rintro e w23 ⟨rfl, hb⟩
  have HT23 := Lib.hid (HT22.out.call hb)
  clear hb HT22
  refine ⟨_, rfl, ?_⟩
  simp only [Act.put, List.setIfInBounds_toArray, List.set_cons_succ, List.set_cons_zero]
  refine wpList_valn rfl (exec_mv rfl (ev rfl)) ?_
  simp only [Act.put, List.setIfInBounds_toArray, List.set_cons_succ, List.set_cons_zero]
  refine wpList_valn rfl (exec_ext rfl (ev rfl) rfl) ?_
  simp only [Act.put, List.setIfInBounds_toArray, List.set_cons_succ, List.set_cons_zero]
  refine wpList_valn rfl (exec_ext rfl (ev rfl) rfl) ?_
  simp only [Act.put, List.setIfInBounds_toArray, List.set_cons_succ, List.set_cons_zero]
  refine wpList_nuln rfl (exec_putR rfl (ev rfl) (ev rfl) (HT23.out.ros (i := 1) rfl)) ?_
  simp only [Act.put, List.setIfInBounds_toArray, List.set_cons_succ, List.set_cons_zero]
  have HT24 : Hid (Blks w (putW w23 b9 (pg)) [rc w.heap.size (x), rc b9 (pg), rc b11 (pn)]) := Lib.hid (HT23.out.putR (i := 1) rfl (pg))
  clear HT23
  generalize putW w23 b9 (pg) = w24 at *
  refine wpList_valn rfl (exec_as rfl (ev rfl)) ?_
  simp only [Act.put, List.setIfInBounds_toArray, List.set_cons_succ, List.set_cons_zero]
  refine wpList_nil ?_
  go_upto_region 22 with fail
  refine wp_region_lit ?_
  refine wpList_valn rfl (exec_ldR rfl (ev rfl) (HT24.out.ros (i := 0) rfl)) ?_
  simp only [Act.put, List.setIfInBounds_toArray, List.set_cons_succ, List.set_cons_zero]
  refine wpList_valn rfl (exec_mv rfl (ev rfl)) ?_
  simp only [Act.put, List.setIfInBounds_toArray, List.set_cons_succ, List.set_cons_zero]
  refine wpList_call rfl (exec_cl Try.call26 rfl (evc (ev rfl) (evc (ev rfl) evn))) ?_
  refine (rgone_v w24 HPG.out HEG.out).mono ?_
  rintro e w25 ⟨rfl, hb⟩
  have HT25 := Lib.hid (HT24.out.call hb)
  clear hb HT24
  refine ⟨_, rfl, ?_⟩
  simp only [Act.put, List.setIfInBounds_toArray, List.set_cons_succ, List.set_cons_zero]
  refine wpList_valn rfl (exec_mv rfl (ev rfl)) ?_
  simp only [Act.put, List.setIfInBounds_toArray, List.set_cons_succ, List.set_cons_zero]
  refine wpList_valn rfl (exec_ext rfl (ev rfl) rfl) ?_
  simp only [Act.put, List.setIfInBounds_toArray, List.set_cons_succ, List.set_cons_zero]
  refine wpList_valn rfl (exec_ext rfl (ev rfl) rfl) ?_
  simp only [Act.put, List.setIfInBounds_toArray, List.set_cons_succ, List.set_cons_zero]
  refine wpList_nuln rfl (exec_putR rfl (ev rfl) (ev rfl) (HT25.out.ros (i := 2) rfl)) ?_
  simp only [Act.put, List.setIfInBounds_toArray, List.set_cons_succ, List.set_cons_zero]
  have HT26 : Hid (Blks w (putW w25 b11 (pg)) [rc w.heap.size (x), rc b9 (pg), rc b11 (pg)]) := Lib.hid (HT25.out.putR (i := 2) rfl (pg))
  clear HT25
  generalize putW w25 b11 (pg) = w26 at *
  refine wpList_valn rfl (exec_as rfl (ev rfl)) ?_
  simp only [Act.put, List.setIfInBounds_toArray, List.set_cons_succ, List.set_cons_zero]
  refine wpList_nil ?_
  go_upto_region 23 with fail
  refine wp_region_lit ?_
  refine wpList_valn rfl (exec_ldR rfl (ev rfl) (HT26.out.ros (i := 1) rfl)) ?_
  simp only [Act.put, List.setIfInBounds_toArray, List.set_cons_succ, List.set_cons_zero]
  refine wpList_valn rfl (exec_ldR rfl (ev rfl) (HT26.out.ros (i := 2) rfl)) ?_
  simp only [Act.put, List.setIfInBounds_toArray, List.set_cons_succ, List.set_cons_zero]
  refine wpList_valn (v := .bool true) rfl (exec_eqR true rfl (ev rfl) (ev rfl) (decide_eq_true rfl)) ?_
  simp only [Act.put, List.setIfInBounds_toArray, List.set_cons_succ, List.set_cons_zero]
  refine wpList_valn (v := .bool true) rfl (exec_mv rfl (ev rfl)) ?_
  simp only [Act.put, List.setIfInBounds_toArray, List.set_cons_succ, List.set_cons_zero]
  refine wpList_val (wanted_of rfl rfl rfl rfl) (exec_mv rfl (ev rfl)) ?_
  simp only [Act.put, List.setIfInBounds_toArray, List.set_cons_succ, List.set_cons_zero]
  refine wpList_val (wanted_of rfl rfl rfl rfl) (exec_mv rfl (ev rfl)) ?_
  simp only [Act.put, List.setIfInBounds_toArray, List.set_cons_succ, List.set_cons_zero]
  refine wpList_val (v := .bool true) (wanted_of rfl rfl rfl rfl) (exec_eqInt true rfl (ev rfl) (ev rfl) (beq_self_eq_true _)) ?_
  simp only [Act.put, List.setIfInBounds_toArray, List.set_cons_succ, List.set_cons_zero]
  refine wpList_valn (v := .bool true) rfl (exec_pt rfl (ev rfl) (ev rfl)) ?_
  simp only [Act.put, List.setIfInBounds_toArray, List.set_cons_succ, List.set_cons_zero]
  refine wpList_valn (v := .bool true) rfl (exec_mv rfl (ev rfl)) ?_
  simp only [Act.put, List.setIfInBounds_toArray, List.set_cons_succ, List.set_cons_zero]
  refine wpList_call (wanted_of rfl rfl rfl rfl) (exec_cl Try.call27 rfl evn) ?_
  refine (plives w26).mono ?_
  rintro e w27 ⟨rfl, hb⟩
  have HT27 := Lib.hid (HT26.out.call hb)
  clear hb HT26
  refine ⟨_, rfl, ?_⟩
  simp only [Act.put, List.setIfInBounds_toArray, List.set_cons_succ, List.set_cons_zero]
  refine wpList_valn (v := .bool true) rfl (exec_pt rfl (ev rfl) (ev rfl)) ?_
  simp only [Act.put, List.setIfInBounds_toArray, List.set_cons_succ, List.set_cons_zero]
  refine wpList_valn (v := .bool true) rfl (exec_as rfl (ev rfl)) ?_
  simp only [Act.put, List.setIfInBounds_toArray, List.set_cons_succ, List.set_cons_zero]
  refine wpList_nil ?_
  go_wp2_with fail
  go_ret
  exact ⟨rfl, HT27.out.bel⟩
end Go.Proofs.Ytnckcafemdcaeaa
