/-
  The program's plan: Of.
-/
import Derived.Test.YtplanbjjfaihbaaPnU
namespace Go.Proofs.Ytplanbjjfaihbaa
open Go.RowKit
set_option linter.unusedVariables false
set_option linter.unusedSimpArgs false
set_option maxRecDepth 100000


section
variable {ρ : Operand → Value} {o : Oper} {x1 x2 : Operand} {w : World} {A A' : Option Addr} {n c m c' : Nat}
theorem run_mk2Q : (Instr.buildSlice 55 2 #[(0, .slice A n c), (1, .slice A' m c')]).run Try.prog w = .ok (.slice (some ⟨w.heap.size, 0, none⟩) 2 2) (w.alloc (.cells #[.slice A n c, .slice A' m c'] 22)) := by kernel_rfl
theorem exec_mk2Q (ho : o.op = .buildSlice 55 2 #[(0, x1), (1, x2)]) (h1 : ρ x1 = .slice A n c) (h2 : ρ x2 = .slice A' m c') : (execOp ρ o).run Try.prog w = .ok (.value (.slice (some ⟨w.heap.size, 0, none⟩) 2 2)) (w.alloc (.cells #[.slice A n c, .slice A' m c'] 22)) := by
  unfold execOp
  simp only [ho, h1, h2, List.map_toArray, List.map_cons, List.map_nil, Sem.run_bind, run_mk2Q, Result.andThen_ok, Sem.run_pure]
end
/-- A row of truth values and one more, laid for Concat. -/
def conW (w : World) (A : Option Addr) (n c : Nat) (x : Bool) : World := (w.alloc (.cells (BoE.cel x).toArray BoE.t)).alloc (.cells #[.slice A n c, .slice (some ⟨w.heap.size, 0, none⟩) 1 1] 22)
theorem pconc2 (A : Option Addr) (n c N : Nat) (l : List Bool) (x : Bool) (w : World) (hl : RdE BoE w N A n l) (hN : N ≤ w.heap.size) (hn : n ≤ 900) :
    Calls Try.prog 18 #[.slice (some ⟨(w.alloc (.cells (BoE.cel x).toArray BoE.t)).heap.size, 0, none⟩) 2 2] (conW w A n c x) fun e w' => ∃ v, e = .returned v ∧ MadeE BoE w' w.heap.size v (l ++ [x]) ∧ Below w.heap.size w w' := by
  have hs : (w.alloc (.cells (BoE.cel x).toArray BoE.t)).heap.size = w.heap.size + 1 := World.size_alloc ..
  have h1 : Below w.heap.size w (w.alloc (.cells (BoE.cel x).toArray BoE.t)) := (Below.refl _ _).alloc (Nat.le_refl _) _
  have h2 : Below (w.heap.size + 1) (w.alloc (.cells (BoE.cel x).toArray BoE.t)) (conW w A n c x) := by
    rw [← hs]
    exact (Below.refl _ _).alloc (Nat.le_refl _) _
  have h3 : (conW w A n c x).heap.size = w.heap.size + 2 := by
    have : (conW w A n c x).heap.size = (w.alloc (.cells (BoE.cel x).toArray BoE.t)).heap.size + 1 := World.size_alloc ..
    omega
  have hb : Below w.heap.size w (conW w A n c x) := h1.trans (h2.mono (by omega))
  have hr : RdE BoE (conW w A n c x) (w.heap.size + 1) (some ⟨w.heap.size, 0, none⟩) 1 [x] := (rdE_new (E := BoE) (l := [x]) w (BoE.cel x).toArray BoE.t rfl).below h2
  have hL : RdE SlQ (conW w A n c x) (w.heap.size + 2) (some ⟨(w.alloc (.cells (BoE.cel x).toArray BoE.t)).heap.size, 0, none⟩) 2 [(A, n, c), (some ⟨w.heap.size, 0, none⟩, 1, 1)] := by
    have h := rdE_new (E := SlQ) (l := [(A, n, c), (some ⟨w.heap.size, 0, none⟩, 1, 1)]) (w.alloc (.cells (BoE.cel x).toArray BoE.t)) #[.slice A n c, .slice (some ⟨w.heap.size, 0, none⟩) 1 1] 22 rfl
    exact h.more (by omega)
  have hf : [l, [x]].flatten = l ++ [x] := by simp
  refine (pconcat _ 2 (w.heap.size + 2) 2 _ [l, [x]] (conW w A n c x) hL rfl (by omega) (fun i hi => ?_) (by omega) (by rw [hf]; simp) (by rw [hf, List.length_append, hl.1]; simp; omega)).mono ?_
  · match i, hi with
    | 0, _ => exact (hl.below (hb.mono hN)).more (by omega)
    | 1, _ => exact hr.more (by omega)
  · rintro e w' ⟨v, rfl, hm, hw⟩
    rw [hf] at hm
    exact ⟨v, rfl, hm.base (by omega), hb.trans (hw.mono (by omega))⟩
theorem che_pick {w : World} {B : Nat} {A A' : Option Addr} {n c m c' : Nat} {l k : List Bool} {par : Bool} {lost : Int} (hk : k.length = l.length) (hl : lost ≠ (l.length : Int))
    (hW : plW l k par lost = if restB l k par lost = true then 3 else 4) (hR : plR l k par lost = if restB l k par lost = true then redR l k false lost else delL l k par lost)
    (h1 : MadeE IntE w B (.slice A n c) (redL (l ++ [true]) (k ++ [par]) false)) (h2 : MadeE IntE w B (.slice A' m c') (redL (l ++ [true]) (k ++ [par]) true)) :
    ∃ A5 n5 c5, cheC (redL (l ++ [true]) (k ++ [par]) false) (redL (l ++ [true]) (k ++ [par]) true) lost A A' n c m c' = plC (plW l k par lost) (.slice A5 n5 c5) ∧ MadeE IntE w B (.slice A5 n5 c5) (plR l k par lost) := by
  unfold cheC
  rw [che_rest hk hl, hW, hR]
  cases h : restB l k par lost
  · exact ⟨_, _, _, rfl, by rw [if_neg (by decide), che_no hk hl h]; exact h2⟩
  · exact ⟨_, _, _, rfl, by rw [if_pos rfl, che_yes hk hl h]; exact h1⟩
set_option maxHeartbeats 4000000 in
theorem pplan (A B' : Option Addr) (n c m c' N N' : Nat) (l k : List Bool) (par : Bool) (lost : Int) (B : Nat) (w : World) (HBE : Hid (B = w.heap.size)) (hl : RdE BoE w N A n l) (hk : RdE BoE w N' B' m k) (hN : N ≤ B ∧ N' ≤ B) (hn : n ≤ maxLen ∧ m ≤ maxLen) :
    Calls Try.prog 8 #[.slice A n c, .slice B' m c', .bool par, .int .i64 lost] w (PlPost B w l k par lost) := by
  have HL0 := Lib.hid hl
  have HK0 := Lib.hid hk
  have HNB := Lib.hid hN
  have HNM := Lib.hid hn
  have HLL := Lib.hid hl.1
  have HKL := Lib.hid hk.1
  have hb := (Below.refl w.heap.size w).alloc (Nat.le_refl _) (.cells (plC 0 (.slice none 0 0)).toArray 25)
  have HW : Hid (Below B w (w.alloc (.cells (plC 0 (.slice none 0 0)).toArray 25))) := Lib.hid (by rw [HBE.out]; exact hb)
  have HP : Hid ((w.alloc (.cells (plC 0 (.slice none 0 0)).toArray 25)).heap[B]? = some (.cells (plC 0 (.slice none 0 0)).toArray 25 (0, 0))) := Lib.hid (by rw [HBE.out]; exact heap_alloc_new w _)
  have HL := Lib.hid (HL0.out.below (HW.out.mono HNB.out.1))
  have HK := Lib.hid (HK0.out.below (HW.out.mono HNB.out.2))
  clear hl hk hN hn hb
  go_enter Try.func8, Try.ntmps8
  go_upto_region 1 with (first | (refine wpList_valn rfl (exec_allocT zinfoPl rfl) ?_) | fail)
  rw [← HBE.out]
  generalize w.alloc (.cells (plC 0 (.slice none 0 0)).toArray 25) = w1 at *
  refine wp_region_lit ?_
  refine wpList_valn rfl (exec_mv rfl (ev rfl)) ?_
  simp only [Act.put, List.setIfInBounds_toArray, List.set_cons_succ, List.set_cons_zero]
  refine wpList_valn rfl (exec_lenQ Try.underlying22 rfl (ev rfl)) ?_
  simp only [Act.put, List.setIfInBounds_toArray, List.set_cons_succ, List.set_cons_zero]
  refine wpList_valn rfl (exec_as rfl (ev rfl)) ?_
  simp only [Act.put, List.setIfInBounds_toArray, List.set_cons_succ, List.set_cons_zero]
  refine wpList_nil ?_
  go_upto_region 2 with fail
  by_cases k0 : ¬ (2 ≤ n ∧ n ≤ 15)
  · have T0 : Hid (mayN (n : Int) = false) := Lib.hid (decide_eq_false (by omega))
    have HQ : Hid (plQ l k lost = false) := Lib.hid (decide_eq_false fun e => by obtain ⟨e1, e2, e3, e4, e5, e6⟩ := e; rw [HLL.out] at e1 e2 e3 e4 e6; rw [HKL.out] at e3; omega)
    have HRR : Hid (plR l k par lost = []) := Lib.hid (if_neg (by rw [HQ.out]; decide))
    have HVV : Hid (plW l k par lost = 0) := Lib.hid (if_neg (by rw [HQ.out]; decide))
    have HEE : Hid (plE l k lost = 2) := Lib.hid (if_neg (by rw [HQ.out]; decide))
    clear k0
    refine wp_region_lit ?_
    refine wpList_valn rfl (exec_mv rfl (ev rfl)) ?_
    simp only [Act.put, List.setIfInBounds_toArray, List.set_cons_succ, List.set_cons_zero]
    refine wpList_call rfl (exec_cl Try.call16 rfl (evc (ev rfl) evn)) ?_
    refine (pmayd (n : Int) w1).mono ?_
    rintro e w' ⟨rfl, rfl⟩
    rw [T0.out]
    refine ⟨_, rfl, ?_⟩
    simp only [Act.put, List.setIfInBounds_toArray, List.set_cons_succ, List.set_cons_zero]
    refine wpList_valn (v := .bool true) rfl (exec_not false rfl (ev rfl)) ?_
    simp only [Act.put, List.setIfInBounds_toArray, List.set_cons_succ, List.set_cons_zero]
    refine wpList_skips 4 (v := .bool true) rfl (exec_mv rfl (ev rfl)) (by kernel_rfl) ?_
    simp only [skipAct, List.take_succ_cons, List.take_zero, List.drop_succ_cons, List.drop_zero, Act.put, List.setIfInBounds_toArray, List.set_cons_succ, List.set_cons_zero]
    refine wpList_valn (v := .bool true) rfl (exec_pt rfl (ev rfl) evk) ?_
    simp only [Act.put, List.setIfInBounds_toArray, List.set_cons_succ, List.set_cons_zero]
    refine wpList_skips 3 (v := .bool true) rfl (exec_mv rfl (ev rfl)) (by kernel_rfl) ?_
    simp only [skipAct, List.take_succ_cons, List.take_zero, List.drop_succ_cons, List.drop_zero, Act.put, List.setIfInBounds_toArray, List.set_cons_succ, List.set_cons_zero]
    refine wpList_valn (v := .bool true) rfl (exec_pt rfl (ev rfl) evk) ?_
    simp only [Act.put, List.setIfInBounds_toArray, List.set_cons_succ, List.set_cons_zero]
    refine wpList_skips 2 (v := .bool true) rfl (exec_mv rfl (ev rfl)) (by kernel_rfl) ?_
    simp only [skipAct, List.take_succ_cons, List.take_zero, List.drop_succ_cons, List.drop_zero, Act.put, List.setIfInBounds_toArray, List.set_cons_succ, List.set_cons_zero]
    refine wpList_valn (v := .bool true) rfl (exec_pt rfl (ev rfl) evk) ?_
    simp only [Act.put, List.setIfInBounds_toArray, List.set_cons_succ, List.set_cons_zero]
    refine wpList_skips 3 (v := .bool true) rfl (exec_mv rfl (ev rfl)) (by kernel_rfl) ?_
    simp only [skipAct, List.take_succ_cons, List.take_zero, List.drop_succ_cons, List.drop_zero, Act.put, List.setIfInBounds_toArray, List.set_cons_succ, List.set_cons_zero]
    refine wpList_valn (v := .bool true) rfl (exec_pt rfl (ev rfl) evk) ?_
    simp only [Act.put, List.setIfInBounds_toArray, List.set_cons_succ, List.set_cons_zero]
    refine wpList_nil ?_
    go_upto_region 3 with fail
    refine wp_region_lit ?_
    refine wpList_valn rfl (exec_bldP0 rfl) ?_
    simp only [Act.put, List.setIfInBounds_toArray, List.set_cons_succ, List.set_cons_zero]
    refine wpList_nuln rfl (exec_putPl none 0 0 rfl (ev rfl) (ev rfl) (there_at (o := 0) (n := 2) HP.out (Nat.le_refl _))) ?_
    simp only [Act.put, List.setIfInBounds_toArray, List.set_cons_succ, List.set_cons_zero]
    refine wpList_valn rfl (exec_as rfl evk) ?_
    simp only [Act.put, List.setIfInBounds_toArray, List.set_cons_succ, List.set_cons_zero]
    refine wpList_nil ?_
    go_wp2_with fail
    (try simp only [Exit.inBlock, Exit.then])
    exact bodyPost_ret (res_twoP (cs := plC 0 (.slice none 0 0)) rfl _ _ B rfl (World.rangeAt_setCells_same _ _ _ _ (there_at (o := 0) (n := 2) HP.out (Nat.le_refl _))) Try.underlying25 rfl (by kernel_rfl)) rfl ⟨.slice none 0 0, by rw [HVV.out, HEE.out]; rfl, by rw [HRR.out]; exact MadeE.nil _ _, below_setCells (b := B) (o := 0) HW.out (Nat.le_refl _) _⟩
  have T0 : Hid (mayN (n : Int) = true) := Lib.hid (decide_eq_true (by omega))
  by_cases k1 : ¬ m = n
  · have T1 : Hid (((m : Int) != (n : Int)) = true) := Lib.hid (by simp only [bne_iff_ne, ne_eq]; omega)
    have HQ : Hid (plQ l k lost = false) := Lib.hid (decide_eq_false fun e => by obtain ⟨e1, e2, e3, e4, e5, e6⟩ := e; rw [HLL.out] at e1 e2 e3 e4 e6; rw [HKL.out] at e3; omega)
    have HRR : Hid (plR l k par lost = []) := Lib.hid (if_neg (by rw [HQ.out]; decide))
    have HVV : Hid (plW l k par lost = 0) := Lib.hid (if_neg (by rw [HQ.out]; decide))
    have HEE : Hid (plE l k lost = 2) := Lib.hid (if_neg (by rw [HQ.out]; decide))
    clear k0 k1
    refine wp_region_lit ?_
    refine wpList_valn rfl (exec_mv rfl (ev rfl)) ?_
    simp only [Act.put, List.setIfInBounds_toArray, List.set_cons_succ, List.set_cons_zero]
    refine wpList_call rfl (exec_cl Try.call16 rfl (evc (ev rfl) evn)) ?_
    refine (pmayd (n : Int) w1).mono ?_
    rintro e w' ⟨rfl, rfl⟩
    rw [T0.out]
    refine ⟨_, rfl, ?_⟩
    simp only [Act.put, List.setIfInBounds_toArray, List.set_cons_succ, List.set_cons_zero]
    refine wpList_valn (v := .bool false) rfl (exec_not true rfl (ev rfl)) ?_
    simp only [Act.put, List.setIfInBounds_toArray, List.set_cons_succ, List.set_cons_zero]
    refine wpList_valn (v := .bool false) rfl (exec_mv rfl (ev rfl)) ?_
    simp only [Act.put, List.setIfInBounds_toArray, List.set_cons_succ, List.set_cons_zero]
    refine wpList_val (wanted_of rfl rfl rfl rfl) (exec_mv rfl (ev rfl)) ?_
    simp only [Act.put, List.setIfInBounds_toArray, List.set_cons_succ, List.set_cons_zero]
    refine wpList_val (wanted_of rfl rfl rfl rfl) (exec_lenQ Try.underlying22 rfl (ev rfl)) ?_
    simp only [Act.put, List.setIfInBounds_toArray, List.set_cons_succ, List.set_cons_zero]
    refine wpList_val (wanted_of rfl rfl rfl rfl) (exec_mv rfl (ev rfl)) ?_
    simp only [Act.put, List.setIfInBounds_toArray, List.set_cons_succ, List.set_cons_zero]
    refine wpList_val (v := .bool true) (wanted_of rfl rfl rfl rfl) (exec_neInt true rfl (ev rfl) (ev rfl) T1.out) ?_
    simp only [Act.put, List.setIfInBounds_toArray, List.set_cons_succ, List.set_cons_zero]
    refine wpList_valn (v := .bool true) rfl (exec_pf rfl (ev rfl) (ev rfl)) ?_
    simp only [Act.put, List.setIfInBounds_toArray, List.set_cons_succ, List.set_cons_zero]
    refine wpList_skips 3 (v := .bool true) rfl (exec_mv rfl (ev rfl)) (by kernel_rfl) ?_
    simp only [skipAct, List.take_succ_cons, List.take_zero, List.drop_succ_cons, List.drop_zero, Act.put, List.setIfInBounds_toArray, List.set_cons_succ, List.set_cons_zero]
    refine wpList_valn (v := .bool true) rfl (exec_pt rfl (ev rfl) evk) ?_
    simp only [Act.put, List.setIfInBounds_toArray, List.set_cons_succ, List.set_cons_zero]
    refine wpList_skips 2 (v := .bool true) rfl (exec_mv rfl (ev rfl)) (by kernel_rfl) ?_
    simp only [skipAct, List.take_succ_cons, List.take_zero, List.drop_succ_cons, List.drop_zero, Act.put, List.setIfInBounds_toArray, List.set_cons_succ, List.set_cons_zero]
    refine wpList_valn (v := .bool true) rfl (exec_pt rfl (ev rfl) evk) ?_
    simp only [Act.put, List.setIfInBounds_toArray, List.set_cons_succ, List.set_cons_zero]
    refine wpList_skips 3 (v := .bool true) rfl (exec_mv rfl (ev rfl)) (by kernel_rfl) ?_
    simp only [skipAct, List.take_succ_cons, List.take_zero, List.drop_succ_cons, List.drop_zero, Act.put, List.setIfInBounds_toArray, List.set_cons_succ, List.set_cons_zero]
    refine wpList_valn (v := .bool true) rfl (exec_pt rfl (ev rfl) evk) ?_
    simp only [Act.put, List.setIfInBounds_toArray, List.set_cons_succ, List.set_cons_zero]
    refine wpList_nil ?_
    go_upto_region 3 with fail
    refine wp_region_lit ?_
    refine wpList_valn rfl (exec_bldP0 rfl) ?_
    simp only [Act.put, List.setIfInBounds_toArray, List.set_cons_succ, List.set_cons_zero]
    refine wpList_nuln rfl (exec_putPl none 0 0 rfl (ev rfl) (ev rfl) (there_at (o := 0) (n := 2) HP.out (Nat.le_refl _))) ?_
    simp only [Act.put, List.setIfInBounds_toArray, List.set_cons_succ, List.set_cons_zero]
    refine wpList_valn rfl (exec_as rfl evk) ?_
    simp only [Act.put, List.setIfInBounds_toArray, List.set_cons_succ, List.set_cons_zero]
    refine wpList_nil ?_
    go_wp2_with fail
    (try simp only [Exit.inBlock, Exit.then])
    exact bodyPost_ret (res_twoP (cs := plC 0 (.slice none 0 0)) rfl _ _ B rfl (World.rangeAt_setCells_same _ _ _ _ (there_at (o := 0) (n := 2) HP.out (Nat.le_refl _))) Try.underlying25 rfl (by kernel_rfl)) rfl ⟨.slice none 0 0, by rw [HVV.out, HEE.out]; rfl, by rw [HRR.out]; exact MadeE.nil _ _, below_setCells (b := B) (o := 0) HW.out (Nat.le_refl _) _⟩
  have T1 : Hid (((m : Int) != (n : Int)) = false) := Lib.hid (by simp only [bne_eq_false_iff_eq]; omega)
  by_cases k2 : cntN l n = 0
  · have T2 : Hid (decide (true ∈ l) = false) := Lib.hid (by rw [con_true, HLL.out, decide_eq_true k2]; rfl)
    have HQ : Hid (plQ l k lost = false) := Lib.hid (decide_eq_false fun e => by obtain ⟨e1, e2, e3, e4, e5, e6⟩ := e; rw [HLL.out] at e1 e2 e3 e4 e6; rw [HKL.out] at e3; omega)
    have HRR : Hid (plR l k par lost = []) := Lib.hid (if_neg (by rw [HQ.out]; decide))
    have HVV : Hid (plW l k par lost = 0) := Lib.hid (if_neg (by rw [HQ.out]; decide))
    have HEE : Hid (plE l k lost = 2) := Lib.hid (if_neg (by rw [HQ.out]; decide))
    clear k0 k1 k2
    refine wp_region_lit ?_
    refine wpList_valn rfl (exec_mv rfl (ev rfl)) ?_
    simp only [Act.put, List.setIfInBounds_toArray, List.set_cons_succ, List.set_cons_zero]
    refine wpList_call rfl (exec_cl Try.call16 rfl (evc (ev rfl) evn)) ?_
    refine (pmayd (n : Int) w1).mono ?_
    rintro e w' ⟨rfl, rfl⟩
    rw [T0.out]
    refine ⟨_, rfl, ?_⟩
    simp only [Act.put, List.setIfInBounds_toArray, List.set_cons_succ, List.set_cons_zero]
    refine wpList_valn (v := .bool false) rfl (exec_not true rfl (ev rfl)) ?_
    simp only [Act.put, List.setIfInBounds_toArray, List.set_cons_succ, List.set_cons_zero]
    refine wpList_valn (v := .bool false) rfl (exec_mv rfl (ev rfl)) ?_
    simp only [Act.put, List.setIfInBounds_toArray, List.set_cons_succ, List.set_cons_zero]
    refine wpList_val (wanted_of rfl rfl rfl rfl) (exec_mv rfl (ev rfl)) ?_
    simp only [Act.put, List.setIfInBounds_toArray, List.set_cons_succ, List.set_cons_zero]
    refine wpList_val (wanted_of rfl rfl rfl rfl) (exec_lenQ Try.underlying22 rfl (ev rfl)) ?_
    simp only [Act.put, List.setIfInBounds_toArray, List.set_cons_succ, List.set_cons_zero]
    refine wpList_val (wanted_of rfl rfl rfl rfl) (exec_mv rfl (ev rfl)) ?_
    simp only [Act.put, List.setIfInBounds_toArray, List.set_cons_succ, List.set_cons_zero]
    refine wpList_val (v := .bool false) (wanted_of rfl rfl rfl rfl) (exec_neInt false rfl (ev rfl) (ev rfl) T1.out) ?_
    simp only [Act.put, List.setIfInBounds_toArray, List.set_cons_succ, List.set_cons_zero]
    refine wpList_valn (v := .bool false) rfl (exec_pf rfl (ev rfl) (ev rfl)) ?_
    simp only [Act.put, List.setIfInBounds_toArray, List.set_cons_succ, List.set_cons_zero]
    refine wpList_valn (v := .bool false) rfl (exec_mv rfl (ev rfl)) ?_
    simp only [Act.put, List.setIfInBounds_toArray, List.set_cons_succ, List.set_cons_zero]
    refine wpList_val (wanted_of rfl rfl rfl rfl) (exec_mv rfl (ev rfl)) ?_
    simp only [Act.put, List.setIfInBounds_toArray, List.set_cons_succ, List.set_cons_zero]
    refine wpList_call (wanted_of rfl rfl rfl rfl) (exec_cl Try.call17 rfl (evc (ev rfl) (evc evk evn))) ?_
    refine (pcontQ A n c N l true w1 HL.out HNM.out.1).mono ?_
    rintro e w' ⟨rfl, rfl⟩
    rw [T2.out]
    refine ⟨_, rfl, ?_⟩
    simp only [Act.put, List.setIfInBounds_toArray, List.set_cons_succ, List.set_cons_zero]
    refine wpList_val (v := .bool true) (wanted_of rfl rfl rfl rfl) (exec_not false rfl (ev rfl)) ?_
    simp only [Act.put, List.setIfInBounds_toArray, List.set_cons_succ, List.set_cons_zero]
    refine wpList_valn (v := .bool true) rfl (exec_pf rfl (ev rfl) (ev rfl)) ?_
    simp only [Act.put, List.setIfInBounds_toArray, List.set_cons_succ, List.set_cons_zero]
    refine wpList_skips 2 (v := .bool true) rfl (exec_mv rfl (ev rfl)) (by kernel_rfl) ?_
    simp only [skipAct, List.take_succ_cons, List.take_zero, List.drop_succ_cons, List.drop_zero, Act.put, List.setIfInBounds_toArray, List.set_cons_succ, List.set_cons_zero]
    refine wpList_valn (v := .bool true) rfl (exec_pt rfl (ev rfl) evk) ?_
    simp only [Act.put, List.setIfInBounds_toArray, List.set_cons_succ, List.set_cons_zero]
    refine wpList_skips 3 (v := .bool true) rfl (exec_mv rfl (ev rfl)) (by kernel_rfl) ?_
    simp only [skipAct, List.take_succ_cons, List.take_zero, List.drop_succ_cons, List.drop_zero, Act.put, List.setIfInBounds_toArray, List.set_cons_succ, List.set_cons_zero]
    refine wpList_valn (v := .bool true) rfl (exec_pt rfl (ev rfl) evk) ?_
    simp only [Act.put, List.setIfInBounds_toArray, List.set_cons_succ, List.set_cons_zero]
    refine wpList_nil ?_
    go_upto_region 3 with fail
    refine wp_region_lit ?_
    refine wpList_valn rfl (exec_bldP0 rfl) ?_
    simp only [Act.put, List.setIfInBounds_toArray, List.set_cons_succ, List.set_cons_zero]
    refine wpList_nuln rfl (exec_putPl none 0 0 rfl (ev rfl) (ev rfl) (there_at (o := 0) (n := 2) HP.out (Nat.le_refl _))) ?_
    simp only [Act.put, List.setIfInBounds_toArray, List.set_cons_succ, List.set_cons_zero]
    refine wpList_valn rfl (exec_as rfl evk) ?_
    simp only [Act.put, List.setIfInBounds_toArray, List.set_cons_succ, List.set_cons_zero]
    refine wpList_nil ?_
    go_wp2_with fail
    (try simp only [Exit.inBlock, Exit.then])
    exact bodyPost_ret (res_twoP (cs := plC 0 (.slice none 0 0)) rfl _ _ B rfl (World.rangeAt_setCells_same _ _ _ _ (there_at (o := 0) (n := 2) HP.out (Nat.le_refl _))) Try.underlying25 rfl (by kernel_rfl)) rfl ⟨.slice none 0 0, by rw [HVV.out, HEE.out]; rfl, by rw [HRR.out]; exact MadeE.nil _ _, below_setCells (b := B) (o := 0) HW.out (Nat.le_refl _) _⟩
  have T2 : Hid (decide (true ∈ l) = true) := Lib.hid (by rw [con_true, HLL.out, decide_eq_false k2]; rfl)
  by_cases k3 : lost < -1
  · have T3 : Hid (decide (lost < -1) = true) := Lib.hid (decide_eq_true (by omega))
    have HQ : Hid (plQ l k lost = false) := Lib.hid (decide_eq_false fun e => by obtain ⟨e1, e2, e3, e4, e5, e6⟩ := e; rw [HLL.out] at e1 e2 e3 e4 e6; rw [HKL.out] at e3; omega)
    have HRR : Hid (plR l k par lost = []) := Lib.hid (if_neg (by rw [HQ.out]; decide))
    have HVV : Hid (plW l k par lost = 0) := Lib.hid (if_neg (by rw [HQ.out]; decide))
    have HEE : Hid (plE l k lost = 2) := Lib.hid (if_neg (by rw [HQ.out]; decide))
    clear k0 k1 k2 k3
    refine wp_region_lit ?_
    refine wpList_valn rfl (exec_mv rfl (ev rfl)) ?_
    simp only [Act.put, List.setIfInBounds_toArray, List.set_cons_succ, List.set_cons_zero]
    refine wpList_call rfl (exec_cl Try.call16 rfl (evc (ev rfl) evn)) ?_
    refine (pmayd (n : Int) w1).mono ?_
    rintro e w' ⟨rfl, rfl⟩
    rw [T0.out]
    refine ⟨_, rfl, ?_⟩
    simp only [Act.put, List.setIfInBounds_toArray, List.set_cons_succ, List.set_cons_zero]
    refine wpList_valn (v := .bool false) rfl (exec_not true rfl (ev rfl)) ?_
    simp only [Act.put, List.setIfInBounds_toArray, List.set_cons_succ, List.set_cons_zero]
    refine wpList_valn (v := .bool false) rfl (exec_mv rfl (ev rfl)) ?_
    simp only [Act.put, List.setIfInBounds_toArray, List.set_cons_succ, List.set_cons_zero]
    refine wpList_val (wanted_of rfl rfl rfl rfl) (exec_mv rfl (ev rfl)) ?_
    simp only [Act.put, List.setIfInBounds_toArray, List.set_cons_succ, List.set_cons_zero]
    refine wpList_val (wanted_of rfl rfl rfl rfl) (exec_lenQ Try.underlying22 rfl (ev rfl)) ?_
    simp only [Act.put, List.setIfInBounds_toArray, List.set_cons_succ, List.set_cons_zero]
    refine wpList_val (wanted_of rfl rfl rfl rfl) (exec_mv rfl (ev rfl)) ?_
    simp only [Act.put, List.setIfInBounds_toArray, List.set_cons_succ, List.set_cons_zero]
    refine wpList_val (v := .bool false) (wanted_of rfl rfl rfl rfl) (exec_neInt false rfl (ev rfl) (ev rfl) T1.out) ?_
    simp only [Act.put, List.setIfInBounds_toArray, List.set_cons_succ, List.set_cons_zero]
    refine wpList_valn (v := .bool false) rfl (exec_pf rfl (ev rfl) (ev rfl)) ?_
    simp only [Act.put, List.setIfInBounds_toArray, List.set_cons_succ, List.set_cons_zero]
    refine wpList_valn (v := .bool false) rfl (exec_mv rfl (ev rfl)) ?_
    simp only [Act.put, List.setIfInBounds_toArray, List.set_cons_succ, List.set_cons_zero]
    refine wpList_val (wanted_of rfl rfl rfl rfl) (exec_mv rfl (ev rfl)) ?_
    simp only [Act.put, List.setIfInBounds_toArray, List.set_cons_succ, List.set_cons_zero]
    refine wpList_call (wanted_of rfl rfl rfl rfl) (exec_cl Try.call17 rfl (evc (ev rfl) (evc evk evn))) ?_
    refine (pcontQ A n c N l true w1 HL.out HNM.out.1).mono ?_
    rintro e w' ⟨rfl, rfl⟩
    rw [T2.out]
    refine ⟨_, rfl, ?_⟩
    simp only [Act.put, List.setIfInBounds_toArray, List.set_cons_succ, List.set_cons_zero]
    refine wpList_val (v := .bool false) (wanted_of rfl rfl rfl rfl) (exec_not true rfl (ev rfl)) ?_
    simp only [Act.put, List.setIfInBounds_toArray, List.set_cons_succ, List.set_cons_zero]
    refine wpList_valn (v := .bool false) rfl (exec_pf rfl (ev rfl) (ev rfl)) ?_
    simp only [Act.put, List.setIfInBounds_toArray, List.set_cons_succ, List.set_cons_zero]
    refine wpList_valn (v := .bool false) rfl (exec_mv rfl (ev rfl)) ?_
    simp only [Act.put, List.setIfInBounds_toArray, List.set_cons_succ, List.set_cons_zero]
    refine wpList_val (wanted_of rfl rfl rfl rfl) (exec_mv rfl (ev rfl)) ?_
    simp only [Act.put, List.setIfInBounds_toArray, List.set_cons_succ, List.set_cons_zero]
    refine wpList_val (v := .bool true) (wanted_of rfl rfl rfl rfl) (exec_lss true rfl (ev rfl) evk T3.out) ?_
    simp only [Act.put, List.setIfInBounds_toArray, List.set_cons_succ, List.set_cons_zero]
    refine wpList_valn (v := .bool true) rfl (exec_pf rfl (ev rfl) (ev rfl)) ?_
    simp only [Act.put, List.setIfInBounds_toArray, List.set_cons_succ, List.set_cons_zero]
    refine wpList_skips 3 (v := .bool true) rfl (exec_mv rfl (ev rfl)) (by kernel_rfl) ?_
    simp only [skipAct, List.take_succ_cons, List.take_zero, List.drop_succ_cons, List.drop_zero, Act.put, List.setIfInBounds_toArray, List.set_cons_succ, List.set_cons_zero]
    refine wpList_valn (v := .bool true) rfl (exec_pt rfl (ev rfl) evk) ?_
    simp only [Act.put, List.setIfInBounds_toArray, List.set_cons_succ, List.set_cons_zero]
    refine wpList_nil ?_
    go_upto_region 3 with fail
    refine wp_region_lit ?_
    refine wpList_valn rfl (exec_bldP0 rfl) ?_
    simp only [Act.put, List.setIfInBounds_toArray, List.set_cons_succ, List.set_cons_zero]
    refine wpList_nuln rfl (exec_putPl none 0 0 rfl (ev rfl) (ev rfl) (there_at (o := 0) (n := 2) HP.out (Nat.le_refl _))) ?_
    simp only [Act.put, List.setIfInBounds_toArray, List.set_cons_succ, List.set_cons_zero]
    refine wpList_valn rfl (exec_as rfl evk) ?_
    simp only [Act.put, List.setIfInBounds_toArray, List.set_cons_succ, List.set_cons_zero]
    refine wpList_nil ?_
    go_wp2_with fail
    (try simp only [Exit.inBlock, Exit.then])
    exact bodyPost_ret (res_twoP (cs := plC 0 (.slice none 0 0)) rfl _ _ B rfl (World.rangeAt_setCells_same _ _ _ _ (there_at (o := 0) (n := 2) HP.out (Nat.le_refl _))) Try.underlying25 rfl (by kernel_rfl)) rfl ⟨.slice none 0 0, by rw [HVV.out, HEE.out]; rfl, by rw [HRR.out]; exact MadeE.nil _ _, below_setCells (b := B) (o := 0) HW.out (Nat.le_refl _) _⟩
  have T3 : Hid (decide (lost < -1) = false) := Lib.hid (decide_eq_false (by omega))
  by_cases k4 : (n : Int) < lost
  · have T4 : Hid (decide (lost > (n : Int)) = true) := Lib.hid (decide_eq_true (by omega))
    have HQ : Hid (plQ l k lost = false) := Lib.hid (decide_eq_false fun e => by obtain ⟨e1, e2, e3, e4, e5, e6⟩ := e; rw [HLL.out] at e1 e2 e3 e4 e6; rw [HKL.out] at e3; omega)
    have HRR : Hid (plR l k par lost = []) := Lib.hid (if_neg (by rw [HQ.out]; decide))
    have HVV : Hid (plW l k par lost = 0) := Lib.hid (if_neg (by rw [HQ.out]; decide))
    have HEE : Hid (plE l k lost = 2) := Lib.hid (if_neg (by rw [HQ.out]; decide))
    clear k0 k1 k2 k3 k4
    refine wp_region_lit ?_
    refine wpList_valn rfl (exec_mv rfl (ev rfl)) ?_
    simp only [Act.put, List.setIfInBounds_toArray, List.set_cons_succ, List.set_cons_zero]
    refine wpList_call rfl (exec_cl Try.call16 rfl (evc (ev rfl) evn)) ?_
    refine (pmayd (n : Int) w1).mono ?_
    rintro e w' ⟨rfl, rfl⟩
    rw [T0.out]
    refine ⟨_, rfl, ?_⟩
    simp only [Act.put, List.setIfInBounds_toArray, List.set_cons_succ, List.set_cons_zero]
    refine wpList_valn (v := .bool false) rfl (exec_not true rfl (ev rfl)) ?_
    simp only [Act.put, List.setIfInBounds_toArray, List.set_cons_succ, List.set_cons_zero]
    refine wpList_valn (v := .bool false) rfl (exec_mv rfl (ev rfl)) ?_
    simp only [Act.put, List.setIfInBounds_toArray, List.set_cons_succ, List.set_cons_zero]
    refine wpList_val (wanted_of rfl rfl rfl rfl) (exec_mv rfl (ev rfl)) ?_
    simp only [Act.put, List.setIfInBounds_toArray, List.set_cons_succ, List.set_cons_zero]
    refine wpList_val (wanted_of rfl rfl rfl rfl) (exec_lenQ Try.underlying22 rfl (ev rfl)) ?_
    simp only [Act.put, List.setIfInBounds_toArray, List.set_cons_succ, List.set_cons_zero]
    refine wpList_val (wanted_of rfl rfl rfl rfl) (exec_mv rfl (ev rfl)) ?_
    simp only [Act.put, List.setIfInBounds_toArray, List.set_cons_succ, List.set_cons_zero]
    refine wpList_val (v := .bool false) (wanted_of rfl rfl rfl rfl) (exec_neInt false rfl (ev rfl) (ev rfl) T1.out) ?_
    simp only [Act.put, List.setIfInBounds_toArray, List.set_cons_succ, List.set_cons_zero]
    refine wpList_valn (v := .bool false) rfl (exec_pf rfl (ev rfl) (ev rfl)) ?_
    simp only [Act.put, List.setIfInBounds_toArray, List.set_cons_succ, List.set_cons_zero]
    refine wpList_valn (v := .bool false) rfl (exec_mv rfl (ev rfl)) ?_
    simp only [Act.put, List.setIfInBounds_toArray, List.set_cons_succ, List.set_cons_zero]
    refine wpList_val (wanted_of rfl rfl rfl rfl) (exec_mv rfl (ev rfl)) ?_
    simp only [Act.put, List.setIfInBounds_toArray, List.set_cons_succ, List.set_cons_zero]
    refine wpList_call (wanted_of rfl rfl rfl rfl) (exec_cl Try.call17 rfl (evc (ev rfl) (evc evk evn))) ?_
    refine (pcontQ A n c N l true w1 HL.out HNM.out.1).mono ?_
    rintro e w' ⟨rfl, rfl⟩
    rw [T2.out]
    refine ⟨_, rfl, ?_⟩
    simp only [Act.put, List.setIfInBounds_toArray, List.set_cons_succ, List.set_cons_zero]
    refine wpList_val (v := .bool false) (wanted_of rfl rfl rfl rfl) (exec_not true rfl (ev rfl)) ?_
    simp only [Act.put, List.setIfInBounds_toArray, List.set_cons_succ, List.set_cons_zero]
    refine wpList_valn (v := .bool false) rfl (exec_pf rfl (ev rfl) (ev rfl)) ?_
    simp only [Act.put, List.setIfInBounds_toArray, List.set_cons_succ, List.set_cons_zero]
    refine wpList_valn (v := .bool false) rfl (exec_mv rfl (ev rfl)) ?_
    simp only [Act.put, List.setIfInBounds_toArray, List.set_cons_succ, List.set_cons_zero]
    refine wpList_val (wanted_of rfl rfl rfl rfl) (exec_mv rfl (ev rfl)) ?_
    simp only [Act.put, List.setIfInBounds_toArray, List.set_cons_succ, List.set_cons_zero]
    refine wpList_val (v := .bool false) (wanted_of rfl rfl rfl rfl) (exec_lss false rfl (ev rfl) evk T3.out) ?_
    simp only [Act.put, List.setIfInBounds_toArray, List.set_cons_succ, List.set_cons_zero]
    refine wpList_valn (v := .bool false) rfl (exec_pf rfl (ev rfl) (ev rfl)) ?_
    simp only [Act.put, List.setIfInBounds_toArray, List.set_cons_succ, List.set_cons_zero]
    refine wpList_valn (v := .bool false) rfl (exec_mv rfl (ev rfl)) ?_
    simp only [Act.put, List.setIfInBounds_toArray, List.set_cons_succ, List.set_cons_zero]
    refine wpList_val (wanted_of rfl rfl rfl rfl) (exec_mv rfl (ev rfl)) ?_
    simp only [Act.put, List.setIfInBounds_toArray, List.set_cons_succ, List.set_cons_zero]
    refine wpList_val (wanted_of rfl rfl rfl rfl) (exec_mv rfl (ev rfl)) ?_
    simp only [Act.put, List.setIfInBounds_toArray, List.set_cons_succ, List.set_cons_zero]
    refine wpList_val (v := .bool true) (wanted_of rfl rfl rfl rfl) (exec_gtr true rfl (ev rfl) (ev rfl) T4.out) ?_
    simp only [Act.put, List.setIfInBounds_toArray, List.set_cons_succ, List.set_cons_zero]
    refine wpList_valn (v := .bool true) rfl (exec_pf rfl (ev rfl) (ev rfl)) ?_
    simp only [Act.put, List.setIfInBounds_toArray, List.set_cons_succ, List.set_cons_zero]
    refine wpList_nil ?_
    go_upto_region 3 with fail
    refine wp_region_lit ?_
    refine wpList_valn rfl (exec_bldP0 rfl) ?_
    simp only [Act.put, List.setIfInBounds_toArray, List.set_cons_succ, List.set_cons_zero]
    refine wpList_nuln rfl (exec_putPl none 0 0 rfl (ev rfl) (ev rfl) (there_at (o := 0) (n := 2) HP.out (Nat.le_refl _))) ?_
    simp only [Act.put, List.setIfInBounds_toArray, List.set_cons_succ, List.set_cons_zero]
    refine wpList_valn rfl (exec_as rfl evk) ?_
    simp only [Act.put, List.setIfInBounds_toArray, List.set_cons_succ, List.set_cons_zero]
    refine wpList_nil ?_
    go_wp2_with fail
    (try simp only [Exit.inBlock, Exit.then])
    exact bodyPost_ret (res_twoP (cs := plC 0 (.slice none 0 0)) rfl _ _ B rfl (World.rangeAt_setCells_same _ _ _ _ (there_at (o := 0) (n := 2) HP.out (Nat.le_refl _))) Try.underlying25 rfl (by kernel_rfl)) rfl ⟨.slice none 0 0, by rw [HVV.out, HEE.out]; rfl, by rw [HRR.out]; exact MadeE.nil _ _, below_setCells (b := B) (o := 0) HW.out (Nat.le_refl _) _⟩
  have T4 : Hid (decide (lost > (n : Int)) = false) := Lib.hid (decide_eq_false (by omega))
  have HQ : Hid (plQ l k lost = true) := Lib.hid (decide_eq_true (by rw [HLL.out, HKL.out]; omega))
  have HEE : Hid (plE l k lost = 0) := Lib.hid (if_pos HQ.out)
  have HN15 : Hid (n ≤ 15) := Lib.hid (by omega)
  have HMN : Hid (m = n) := Lib.hid (by omega)
  clear k0 k1 k2 k3 k4
  refine wp_region_lit ?_
  refine wpList_valn rfl (exec_mv rfl (ev rfl)) ?_
  simp only [Act.put, List.setIfInBounds_toArray, List.set_cons_succ, List.set_cons_zero]
  refine wpList_call rfl (exec_cl Try.call16 rfl (evc (ev rfl) evn)) ?_
  refine (pmayd (n : Int) w1).mono ?_
  rintro e w' ⟨rfl, rfl⟩
  rw [T0.out]
  refine ⟨_, rfl, ?_⟩
  simp only [Act.put, List.setIfInBounds_toArray, List.set_cons_succ, List.set_cons_zero]
  refine wpList_valn (v := .bool false) rfl (exec_not true rfl (ev rfl)) ?_
  simp only [Act.put, List.setIfInBounds_toArray, List.set_cons_succ, List.set_cons_zero]
  refine wpList_valn (v := .bool false) rfl (exec_mv rfl (ev rfl)) ?_
  simp only [Act.put, List.setIfInBounds_toArray, List.set_cons_succ, List.set_cons_zero]
  refine wpList_val (wanted_of rfl rfl rfl rfl) (exec_mv rfl (ev rfl)) ?_
  simp only [Act.put, List.setIfInBounds_toArray, List.set_cons_succ, List.set_cons_zero]
  refine wpList_val (wanted_of rfl rfl rfl rfl) (exec_lenQ Try.underlying22 rfl (ev rfl)) ?_
  simp only [Act.put, List.setIfInBounds_toArray, List.set_cons_succ, List.set_cons_zero]
  refine wpList_val (wanted_of rfl rfl rfl rfl) (exec_mv rfl (ev rfl)) ?_
  simp only [Act.put, List.setIfInBounds_toArray, List.set_cons_succ, List.set_cons_zero]
  refine wpList_val (v := .bool false) (wanted_of rfl rfl rfl rfl) (exec_neInt false rfl (ev rfl) (ev rfl) T1.out) ?_
  simp only [Act.put, List.setIfInBounds_toArray, List.set_cons_succ, List.set_cons_zero]
  refine wpList_valn (v := .bool false) rfl (exec_pf rfl (ev rfl) (ev rfl)) ?_
  simp only [Act.put, List.setIfInBounds_toArray, List.set_cons_succ, List.set_cons_zero]
  refine wpList_valn (v := .bool false) rfl (exec_mv rfl (ev rfl)) ?_
  simp only [Act.put, List.setIfInBounds_toArray, List.set_cons_succ, List.set_cons_zero]
  refine wpList_val (wanted_of rfl rfl rfl rfl) (exec_mv rfl (ev rfl)) ?_
  simp only [Act.put, List.setIfInBounds_toArray, List.set_cons_succ, List.set_cons_zero]
  refine wpList_call (wanted_of rfl rfl rfl rfl) (exec_cl Try.call17 rfl (evc (ev rfl) (evc evk evn))) ?_
  refine (pcontQ A n c N l true w1 HL.out HNM.out.1).mono ?_
  rintro e w' ⟨rfl, rfl⟩
  rw [T2.out]
  refine ⟨_, rfl, ?_⟩
  simp only [Act.put, List.setIfInBounds_toArray, List.set_cons_succ, List.set_cons_zero]
  refine wpList_val (v := .bool false) (wanted_of rfl rfl rfl rfl) (exec_not true rfl (ev rfl)) ?_
  simp only [Act.put, List.setIfInBounds_toArray, List.set_cons_succ, List.set_cons_zero]
  refine wpList_valn (v := .bool false) rfl (exec_pf rfl (ev rfl) (ev rfl)) ?_
  simp only [Act.put, List.setIfInBounds_toArray, List.set_cons_succ, List.set_cons_zero]
  refine wpList_valn (v := .bool false) rfl (exec_mv rfl (ev rfl)) ?_
  simp only [Act.put, List.setIfInBounds_toArray, List.set_cons_succ, List.set_cons_zero]
  refine wpList_val (wanted_of rfl rfl rfl rfl) (exec_mv rfl (ev rfl)) ?_
  simp only [Act.put, List.setIfInBounds_toArray, List.set_cons_succ, List.set_cons_zero]
  refine wpList_val (v := .bool false) (wanted_of rfl rfl rfl rfl) (exec_lss false rfl (ev rfl) evk T3.out) ?_
  simp only [Act.put, List.setIfInBounds_toArray, List.set_cons_succ, List.set_cons_zero]
  refine wpList_valn (v := .bool false) rfl (exec_pf rfl (ev rfl) (ev rfl)) ?_
  simp only [Act.put, List.setIfInBounds_toArray, List.set_cons_succ, List.set_cons_zero]
  refine wpList_valn (v := .bool false) rfl (exec_mv rfl (ev rfl)) ?_
  simp only [Act.put, List.setIfInBounds_toArray, List.set_cons_succ, List.set_cons_zero]
  refine wpList_val (wanted_of rfl rfl rfl rfl) (exec_mv rfl (ev rfl)) ?_
  simp only [Act.put, List.setIfInBounds_toArray, List.set_cons_succ, List.set_cons_zero]
  refine wpList_val (wanted_of rfl rfl rfl rfl) (exec_mv rfl (ev rfl)) ?_
  simp only [Act.put, List.setIfInBounds_toArray, List.set_cons_succ, List.set_cons_zero]
  refine wpList_val (v := .bool false) (wanted_of rfl rfl rfl rfl) (exec_gtr false rfl (ev rfl) (ev rfl) T4.out) ?_
  simp only [Act.put, List.setIfInBounds_toArray, List.set_cons_succ, List.set_cons_zero]
  refine wpList_valn (v := .bool false) rfl (exec_pf rfl (ev rfl) (ev rfl)) ?_
  simp only [Act.put, List.setIfInBounds_toArray, List.set_cons_succ, List.set_cons_zero]
  refine wpList_nil ?_
  rw [HMN.out]
  rw [HMN.out] at HK
  by_cases k6 : lost = (n : Int)
  · have T6 : Hid ((lost == (n : Int)) = true) := Lib.hid (by rw [beq_iff_eq]; exact k6)
    have HRR : Hid (plR l k par lost = []) := Lib.hid (by unfold plR; rw [if_pos HQ.out, HLL.out, if_pos k6])
    have HVV : Hid (plW l k par lost = 1) := Lib.hid (by unfold plW; rw [if_pos HQ.out, HLL.out, if_pos k6])
    clear k6
    go_upto_region 4 with fail
    refine wp_region_lit ?_
    refine wpList_valn rfl (exec_mv rfl (ev rfl)) ?_
    simp only [Act.put, List.setIfInBounds_toArray, List.set_cons_succ, List.set_cons_zero]
    refine wpList_valn rfl (exec_mv rfl (ev rfl)) ?_
    simp only [Act.put, List.setIfInBounds_toArray, List.set_cons_succ, List.set_cons_zero]
    refine wpList_valn (v := .bool true) rfl (exec_eqInt true rfl (ev rfl) (ev rfl) T6.out) ?_
    simp only [Act.put, List.setIfInBounds_toArray, List.set_cons_succ, List.set_cons_zero]
    refine wpList_valn (v := .bool true) rfl (exec_as rfl (ev rfl)) ?_
    simp only [Act.put, List.setIfInBounds_toArray, List.set_cons_succ, List.set_cons_zero]
    refine wpList_nil ?_
    go_upto_region 5 with fail
    refine wp_region_lit ?_
    refine wpList_valn rfl (exec_bldP1 rfl evk) ?_
    simp only [Act.put, List.setIfInBounds_toArray, List.set_cons_succ, List.set_cons_zero]
    refine wpList_nuln rfl (exec_putPl none 0 0 rfl (ev rfl) (ev rfl) (there_at (o := 0) (n := 2) HP.out (Nat.le_refl _))) ?_
    simp only [Act.put, List.setIfInBounds_toArray, List.set_cons_succ, List.set_cons_zero]
    refine wpList_valn rfl (exec_as rfl evk) ?_
    simp only [Act.put, List.setIfInBounds_toArray, List.set_cons_succ, List.set_cons_zero]
    refine wpList_nil ?_
    go_wp2_with fail
    (try simp only [Exit.inBlock, Exit.then])
    exact bodyPost_ret (res_twoP (cs := plC 1 (.slice none 0 0)) rfl _ _ B rfl (World.rangeAt_setCells_same _ _ _ _ (there_at (o := 0) (n := 2) HP.out (Nat.le_refl _))) Try.underlying25 rfl (by kernel_rfl)) rfl ⟨.slice none 0 0, by rw [HVV.out, HEE.out]; rfl, by rw [HRR.out]; exact MadeE.nil _ _, below_setCells (b := B) (o := 0) HW.out (Nat.le_refl _) _⟩
  have T6 : Hid ((lost == (n : Int)) = false) := Lib.hid (beq_eq_false_iff_ne.2 k6)
  go_upto_region 4 with fail
  refine wp_region_lit ?_
  refine wpList_valn rfl (exec_mv rfl (ev rfl)) ?_
  simp only [Act.put, List.setIfInBounds_toArray, List.set_cons_succ, List.set_cons_zero]
  refine wpList_valn rfl (exec_mv rfl (ev rfl)) ?_
  simp only [Act.put, List.setIfInBounds_toArray, List.set_cons_succ, List.set_cons_zero]
  refine wpList_valn (v := .bool false) rfl (exec_eqInt false rfl (ev rfl) (ev rfl) T6.out) ?_
  simp only [Act.put, List.setIfInBounds_toArray, List.set_cons_succ, List.set_cons_zero]
  refine wpList_valn (v := .bool false) rfl (exec_as rfl (ev rfl)) ?_
  simp only [Act.put, List.setIfInBounds_toArray, List.set_cons_succ, List.set_cons_zero]
  refine wpList_nil ?_
  by_cases k7 : cntN l n = n
  · have T7 : Hid (decide (false ∈ l) = false) := Lib.hid (by rw [con_false, HLL.out, decide_eq_true k7]; rfl)
    have HRR : Hid (plR l k par lost = []) := Lib.hid (by unfold plR; rw [if_pos HQ.out, HLL.out, if_neg k6, if_pos k7])
    have HVV : Hid (plW l k par lost = 2) := Lib.hid (by unfold plW; rw [if_pos HQ.out, HLL.out, if_neg k6, if_pos k7])
    clear k6 k7
    go_upto_region 6 with fail
    refine wp_region_lit ?_
    refine wpList_valn rfl (exec_mv rfl (ev rfl)) ?_
    simp only [Act.put, List.setIfInBounds_toArray, List.set_cons_succ, List.set_cons_zero]
    refine wpList_call rfl (exec_cl Try.call17 rfl (evc (ev rfl) (evc evk evn))) ?_
    refine (pcontQ A n c N l false w1 HL.out HNM.out.1).mono ?_
    rintro e w' ⟨rfl, rfl⟩
    rw [T7.out]
    refine ⟨_, rfl, ?_⟩
    simp only [Act.put, List.setIfInBounds_toArray, List.set_cons_succ, List.set_cons_zero]
    refine wpList_valn (v := .bool true) rfl (exec_not false rfl (ev rfl)) ?_
    simp only [Act.put, List.setIfInBounds_toArray, List.set_cons_succ, List.set_cons_zero]
    refine wpList_valn (v := .bool true) rfl (exec_as rfl (ev rfl)) ?_
    simp only [Act.put, List.setIfInBounds_toArray, List.set_cons_succ, List.set_cons_zero]
    refine wpList_nil ?_
    go_upto_region 7 with fail
    refine wp_region_lit ?_
    refine wpList_valn rfl (exec_bldP1 rfl evk) ?_
    simp only [Act.put, List.setIfInBounds_toArray, List.set_cons_succ, List.set_cons_zero]
    refine wpList_nuln rfl (exec_putPl none 0 0 rfl (ev rfl) (ev rfl) (there_at (o := 0) (n := 2) HP.out (Nat.le_refl _))) ?_
    simp only [Act.put, List.setIfInBounds_toArray, List.set_cons_succ, List.set_cons_zero]
    refine wpList_valn rfl (exec_as rfl evk) ?_
    simp only [Act.put, List.setIfInBounds_toArray, List.set_cons_succ, List.set_cons_zero]
    refine wpList_nil ?_
    go_wp2_with fail
    (try simp only [Exit.inBlock, Exit.then])
    exact bodyPost_ret (res_twoP (cs := plC 2 (.slice none 0 0)) rfl _ _ B rfl (World.rangeAt_setCells_same _ _ _ _ (there_at (o := 0) (n := 2) HP.out (Nat.le_refl _))) Try.underlying25 rfl (by kernel_rfl)) rfl ⟨.slice none 0 0, by rw [HVV.out, HEE.out]; rfl, by rw [HRR.out]; exact MadeE.nil _ _, below_setCells (b := B) (o := 0) HW.out (Nat.le_refl _) _⟩
  have T7 : Hid (decide (false ∈ l) = true) := Lib.hid (by rw [con_false, HLL.out, decide_eq_false k7]; rfl)
  have HRR0 : Hid (plR l k par lost = if restB l k par lost = true then redR l k false lost else delL l k par lost) := Lib.hid (by unfold plR; rw [if_pos HQ.out, HLL.out, if_neg k6, if_neg k7])
  have HVV0 : Hid (plW l k par lost = if restB l k par lost = true then 3 else 4) := Lib.hid (by unfold plW; rw [if_pos HQ.out, HLL.out, if_neg k6, if_neg k7])
  have HNE := Lib.hid k6
  have HBL : Hid (B ≤ w1.heap.size) := Lib.hid (by have := HW.out.size; rw [HBE.out]; exact this)
  clear k6 k7
  go_upto_region 6 with fail
  refine wp_region_lit ?_
  refine wpList_valn rfl (exec_mv rfl (ev rfl)) ?_
  simp only [Act.put, List.setIfInBounds_toArray, List.set_cons_succ, List.set_cons_zero]
  refine wpList_call rfl (exec_cl Try.call17 rfl (evc (ev rfl) (evc evk evn))) ?_
  refine (pcontQ A n c N l false w1 HL.out HNM.out.1).mono ?_
  rintro e w' ⟨rfl, rfl⟩
  rw [T7.out]
  refine ⟨_, rfl, ?_⟩
  simp only [Act.put, List.setIfInBounds_toArray, List.set_cons_succ, List.set_cons_zero]
  refine wpList_valn (v := .bool false) rfl (exec_not true rfl (ev rfl)) ?_
  simp only [Act.put, List.setIfInBounds_toArray, List.set_cons_succ, List.set_cons_zero]
  refine wpList_valn (v := .bool false) rfl (exec_as rfl (ev rfl)) ?_
  simp only [Act.put, List.setIfInBounds_toArray, List.set_cons_succ, List.set_cons_zero]
  refine wpList_nil ?_
  go_upto_region 8 with fail
  refine wp_region_lit ?_
  refine wpList_valn rfl (exec_mv rfl (ev rfl)) ?_
  simp only [Act.put, List.setIfInBounds_toArray, List.set_cons_succ, List.set_cons_zero]
  refine wpList_valn rfl (exec_mk1E (E := BoE) (a := true) rfl evk rfl (by decide)) ?_
  simp only [Act.put, List.setIfInBounds_toArray, List.set_cons_succ, List.set_cons_zero]
  refine wpList_valn rfl (exec_mk2Q rfl (ev rfl) (ev rfl)) ?_
  simp only [Act.put, List.setIfInBounds_toArray, List.set_cons_succ, List.set_cons_zero]
  refine wpList_call rfl (exec_cl Try.call18 rfl (evc (ev rfl) evn)) ?_
  refine (pconc2 A n c N l true w1 HL.out (Nat.le_trans HNB.out.1 HBL.out) (by have := HN15.out; omega)).mono ?_
  rintro e w2 ⟨v1, rfl, hm, hb⟩
  have Hv1 := Lib.hid (hm.base (blk_ltP HP.out))
  clear hm
  have HK_ := Lib.hid (HK.out.below (hb.mono (Nat.le_trans HNB.out.2 HBL.out)))
  have HP_ := Lib.hid ((hb.block B (blk_ltP HP.out)).trans HP.out)
  have HW_ := Lib.hid (HW.out.trans (hb.mono HBL.out))
  have HBL_ := Lib.hid (Nat.le_trans HBL.out hb.size)
  clear hb HK HP HW HBL
  have HK := HK_
  have HP := HP_
  have HW := HW_
  have HBL := HBL_
  clear HK_ HP_ HW_ HBL_
  refine ⟨_, rfl, ?_⟩
  simp only [Act.put, List.setIfInBounds_toArray, List.set_cons_succ, List.set_cons_zero]
  refine wpList_valn rfl (exec_mv rfl (ev rfl)) ?_
  simp only [Act.put, List.setIfInBounds_toArray, List.set_cons_succ, List.set_cons_zero]
  refine wpList_valn rfl (exec_mv rfl (ev rfl)) ?_
  simp only [Act.put, List.setIfInBounds_toArray, List.set_cons_succ, List.set_cons_zero]
  refine wpList_valn rfl (exec_mk1E (E := BoE) (a := par) rfl (ev rfl) rfl (by decide)) ?_
  simp only [Act.put, List.setIfInBounds_toArray, List.set_cons_succ, List.set_cons_zero]
  refine wpList_valn rfl (exec_mk2Q rfl (ev rfl) (ev rfl)) ?_
  simp only [Act.put, List.setIfInBounds_toArray, List.set_cons_succ, List.set_cons_zero]
  refine wpList_call rfl (exec_cl Try.call18 rfl (evc (ev rfl) evn)) ?_
  refine (pconc2 B' n c' N' k par w2 HK.out (Nat.le_trans HNB.out.2 HBL.out) (by have := HN15.out; omega)).mono ?_
  rintro e w3 ⟨v2, rfl, hm, hb⟩
  have Hv2 := Lib.hid (hm.base (blk_ltP HP.out))
  clear hm
  have Hv1_ := Lib.hid (Hv1.out.below hb)
  clear Hv1
  have Hv1 := Hv1_
  clear Hv1_
  have HK_ := Lib.hid (HK.out.below (hb.mono (Nat.le_trans HNB.out.2 HBL.out)))
  have HP_ := Lib.hid ((hb.block B (blk_ltP HP.out)).trans HP.out)
  have HW_ := Lib.hid (HW.out.trans (hb.mono HBL.out))
  have HBL_ := Lib.hid (Nat.le_trans HBL.out hb.size)
  clear hb HK HP HW HBL
  have HK := HK_
  have HP := HP_
  have HW := HW_
  have HBL := HBL_
  clear HK_ HP_ HW_ HBL_
  refine ⟨_, rfl, ?_⟩
  simp only [Act.put, List.setIfInBounds_toArray, List.set_cons_succ, List.set_cons_zero]
  refine wpList_valn rfl (exec_as rfl (ev rfl)) ?_
  simp only [Act.put, List.setIfInBounds_toArray, List.set_cons_succ, List.set_cons_zero]
  refine wpList_valn rfl (exec_as rfl (ev rfl)) ?_
  simp only [Act.put, List.setIfInBounds_toArray, List.set_cons_succ, List.set_cons_zero]
  refine wpList_nil ?_
  have HKN : Hid (k.length = l.length) := Lib.hid (by have := HLL.out; have := HKL.out; have := HMN.out; omega)
  have HL1 : Hid ((l ++ [true]).length = n + 1) := Lib.hid (by rw [List.length_append, HLL.out]; rfl)
  have HL2 : Hid ((k ++ [par]).length = n + 1) := Lib.hid (by rw [List.length_append, HKN.out, HLL.out]; rfl)
  obtain ⟨A1, c1, rfl, hr1, _, _⟩ := Hv1.out.open_ HL1.out
  obtain ⟨A2, c2, rfl, hr2, _, _⟩ := Hv2.out.open_ HL2.out
  have HR1 := Lib.hid hr1
  have HR2 := Lib.hid hr2
  have HS3 : Hid (B + 1 ≤ w3.heap.size) := Lib.hid (blk_ltP HP.out)
  clear hr1 hr2 Hv1 Hv2 HL HK
  go_upto_region 9 with fail
  refine wp_region_lit ?_
  refine wpList_valn rfl (exec_mv rfl (ev rfl)) ?_
  simp only [Act.put, List.setIfInBounds_toArray, List.set_cons_succ, List.set_cons_zero]
  refine wpList_valn rfl (exec_mv rfl (ev rfl)) ?_
  simp only [Act.put, List.setIfInBounds_toArray, List.set_cons_succ, List.set_cons_zero]
  refine wpList_call rfl (exec_cl Try.call20 rfl (evc (ev rfl) (evc (ev rfl) (evc evk evn)))) ?_
  refine (punseen A1 A2 (n + 1) c1 (n + 1) c2 w3.heap.size w3.heap.size (l ++ [true]) (k ++ [par]) false w3.heap.size w3 (Lib.hid rfl) HR1.out HR2.out ⟨Nat.le_refl _, Nat.le_refl _⟩ rfl (by have := HN15.out; omega)).mono ?_
  rintro e w4 ⟨v3, rfl, hm, hb⟩
  have Hv3 := Lib.hid (hm.base HS3.out)
  have HR1_ := Lib.hid (HR1.out.step hb)
  have HR2_ := Lib.hid (HR2.out.step hb)
  clear hm HR1 HR2
  have HR1 := HR1_
  have HR2 := HR2_
  clear HR1_ HR2_
  have HS4 : Hid (B + 1 ≤ w4.heap.size) := Lib.hid (Nat.le_trans HS3.out hb.size)
  have HP_ := Lib.hid ((hb.block B (blk_ltP HP.out)).trans HP.out)
  have HW_ := Lib.hid (HW.out.trans (hb.mono HBL.out))
  have HBL_ := Lib.hid (Nat.le_trans HBL.out hb.size)
  clear hb HP HW HBL
  have HP := HP_
  have HW := HW_
  have HBL := HBL_
  clear HP_ HW_ HBL_
  refine ⟨_, rfl, ?_⟩
  simp only [Act.put, List.setIfInBounds_toArray, List.set_cons_succ, List.set_cons_zero]
  refine wpList_valn rfl (exec_mv rfl (ev rfl)) ?_
  simp only [Act.put, List.setIfInBounds_toArray, List.set_cons_succ, List.set_cons_zero]
  refine wpList_valn rfl (exec_mv rfl (ev rfl)) ?_
  simp only [Act.put, List.setIfInBounds_toArray, List.set_cons_succ, List.set_cons_zero]
  refine wpList_call rfl (exec_cl Try.call20 rfl (evc (ev rfl) (evc (ev rfl) (evc evk evn)))) ?_
  refine (punseen A1 A2 (n + 1) c1 (n + 1) c2 w4.heap.size w4.heap.size (l ++ [true]) (k ++ [par]) true w4.heap.size w4 (Lib.hid rfl) HR1.out HR2.out ⟨Nat.le_refl _, Nat.le_refl _⟩ rfl (by have := HN15.out; omega)).mono ?_
  rintro e w5 ⟨v4, rfl, hm, hb⟩
  have Hv4 := Lib.hid (hm.base HS4.out)
  clear hm
  have Hv3_ := Lib.hid (Hv3.out.below hb)
  clear Hv3
  have Hv3 := Hv3_
  clear Hv3_
  have HP_ := Lib.hid ((hb.block B (blk_ltP HP.out)).trans HP.out)
  have HW_ := Lib.hid (HW.out.trans (hb.mono HBL.out))
  have HBL_ := Lib.hid (Nat.le_trans HBL.out hb.size)
  clear hb HP HW HBL
  have HP := HP_
  have HW := HW_
  have HBL := HBL_
  clear HP_ HW_ HBL_
  obtain ⟨A3, c3, rfl, hr3, hn3, hm3⟩ := Hv3.out.open_ rfl
  obtain ⟨A4, c4, rfl, hr4, hn4, hm4⟩ := Hv4.out.open_ rfl
  have HR3 := Lib.hid hr3
  have HR4 := Lib.hid hr4
  have HMX := Lib.hid (And.intro (Nat.le_trans hn3 hm3) (Nat.le_trans hn4 hm4))
  clear hr3 hr4 hn3 hm3 hn4 hm4
  refine ⟨_, rfl, ?_⟩
  simp only [Act.put, List.setIfInBounds_toArray, List.set_cons_succ, List.set_cons_zero]
  refine wpList_valn rfl (exec_mv rfl (ev rfl)) ?_
  simp only [Act.put, List.setIfInBounds_toArray, List.set_cons_succ, List.set_cons_zero]
  refine wpList_call rfl (exec_cl Try.call19 rfl (evc (ev rfl) (evc (ev rfl) (evc (ev rfl) evn)))) ?_
  refine (pcheap A3 A4 _ c3 _ c4 w5.heap.size w5.heap.size _ _ lost w5.heap.size w5 (Lib.hid rfl) HR3.out HR4.out ⟨Nat.le_refl _, Nat.le_refl _⟩ HMX.out).mono ?_
  rintro e w6 ⟨rfl, hb⟩
  have Hv3_ := Lib.hid (Hv3.out.below hb)
  clear Hv3
  have Hv3 := Hv3_
  clear Hv3_
  have Hv4_ := Lib.hid (Hv4.out.below hb)
  clear Hv4
  have Hv4 := Hv4_
  clear Hv4_
  have HP_ := Lib.hid ((hb.block B (blk_ltP HP.out)).trans HP.out)
  have HW_ := Lib.hid (HW.out.trans (hb.mono HBL.out))
  have HBL_ := Lib.hid (Nat.le_trans HBL.out hb.size)
  clear hb HP HW HBL
  have HP := HP_
  have HW := HW_
  have HBL := HBL_
  clear HP_ HW_ HBL_
  obtain ⟨A5, n5, c5, hce, hme⟩ := che_pick HKN.out (by rw [HLL.out]; exact HNE.out) HVV0.out HRR0.out Hv3.out Hv4.out
  rw [hce]
  have HME := Lib.hid hme
  clear hce hme
  generalize hz : plW l k par lost = z
  have HVV := Lib.hid hz
  clear hz
  refine ⟨_, rfl, ?_⟩
  simp only [Act.put, List.setIfInBounds_toArray, List.set_cons_succ, List.set_cons_zero]
  refine wpList_nuln rfl (exec_putPl A5 n5 c5 rfl (ev rfl) (ev rfl) (there_at (o := 0) (n := 2) HP.out (Nat.le_refl _))) ?_
  simp only [Act.put, List.setIfInBounds_toArray, List.set_cons_succ, List.set_cons_zero]
  refine wpList_valn rfl (exec_as rfl evk) ?_
  simp only [Act.put, List.setIfInBounds_toArray, List.set_cons_succ, List.set_cons_zero]
  refine wpList_nil ?_
  go_wp2_with fail
  (try simp only [Exit.inBlock, Exit.then])
  exact bodyPost_ret (res_twoP (cs := plC z (.slice A5 n5 c5)) rfl _ _ B rfl (World.rangeAt_setCells_same _ _ _ _ (there_at (o := 0) (n := 2) HP.out (Nat.le_refl _))) Try.underlying25 rfl (by kernel_rfl)) rfl ⟨.slice A5 n5 c5, by rw [HVV.out, HEE.out]; rfl, MadeE.beside HME.out _, below_setCells (b := B) (o := 0) HW.out (Nat.le_refl _) _⟩
end Go.Proofs.Ytplanbjjfaihbaa
