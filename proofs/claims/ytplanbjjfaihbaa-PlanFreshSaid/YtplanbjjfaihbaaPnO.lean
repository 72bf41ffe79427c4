/-
  The document's plan: Of.
-/
import Derived.Test.YtplanbjjfaihbaaPnR
import Derived.Test.YtplanbjjfaihbaaTypA
import Derived.Test.YtplanbjjfaihbaaVal
namespace Go.Proofs.Ytplanbjjfaihbaa
open Go.RowKit
set_option linter.unusedVariables false
set_option linter.unusedSimpArgs false
set_option maxRecDepth 100000


theorem res_twoP {fn : Func} {q u : Tmp} {t : TypeId} {cs : List Value} {d : TypeDesc} (h : fn.results = #[.cell q t, .tmp u]) (tmps : Array Value) (w : World) (b : Nat) (hq : tmps.getD q undef = .pointer (some ⟨b, 0, none⟩)) (hr : w.rangeAt b 0 cs) (hu : Try.prog.underlying t = some d) (hd : d.isRow = true) (hz : (Try.prog.info? t).map (·.size) = some cs.length) :
    (results fn tmps).run Try.prog w = .ok (.tuple #[.agg cs.toArray, tmps.getD u undef]) w := by
  have hl : (loadVar t ⟨b, 0, none⟩).run Try.prog w = .ok (.agg cs.toArray) w := run_loadVar_mid (P := Try.prog) w b 0 t cs d hr hu hd hz
  have hq' : tmps[q]?.getD undef = .pointer (some ⟨b, 0, none⟩) := by simpa using hq
  simp [results, h, hq', asAddr, hl]
def plC (z : Int) (v : Value) : List Value := [.int .u8 z, v]
theorem run_bldP0 {w : World} : (Instr.build 25 #[]).run Try.prog w = .ok (.agg (plC 0 (.slice none 0 0)).toArray) w := by kernel_rfl
theorem run_bldP1 {w : World} (z : Int) : (Instr.build 25 #[(0, .int .u8 z)]).run Try.prog w = .ok (.agg (plC z (.slice none 0 0)).toArray) w := by kernel_rfl
theorem run_bldP2 {w : World} (z : Int) (A : Option Addr) (n c : Nat) : (Instr.build 25 #[(0, .int .u8 z), (1, .slice A n c)]).run Try.prog w = .ok (.agg (plC z (.slice A n c)).toArray) w := by kernel_rfl
section
variable {ρ : Operand → Value} {o : Oper} {x y : Operand} {w : World} {z : Int} {A : Option Addr} {n c b : Nat} {v : Value}
theorem exec_bldP0 (ho : o.op = .build 25 #[]) : (execOp ρ o).run Try.prog w = .ok (.value (.agg (plC 0 (.slice none 0 0)).toArray)) w := by
  unfold execOp
  simp [ho, run_bldP0]
theorem exec_bldP1 (ho : o.op = .build 25 #[(0, x)]) (hx : ρ x = .int .u8 z) : (execOp ρ o).run Try.prog w = .ok (.value (.agg (plC z (.slice none 0 0)).toArray)) w := by
  unfold execOp
  simp [ho, hx, run_bldP1]
theorem exec_bldP2 (ho : o.op = .build 25 #[(0, x), (1, y)]) (hx : ρ x = .int .u8 z) (hy : ρ y = .slice A n c) : (execOp ρ o).run Try.prog w = .ok (.value (.agg (plC z (.slice A n c)).toArray)) w := by
  unfold execOp
  simp [ho, hx, hy, run_bldP2]
theorem exec_putPl (A : Option Addr) (n c : Nat) (ho : o.op = .store 25 x y) (hx : ρ x = .pointer (some ⟨b, 0, none⟩)) (hy : ρ y = .agg (plC z (.slice A n c)).toArray) (ht : w.there b 0 2) : (execOp ρ o).run Try.prog w = .ok .skip (w.setCells b 0 (plC z (.slice A n c))) :=
  exec_putT (cs := plC z (.slice A n c)) (by kernel_rfl) (by intro u hu; simp [plC] at hu; rcases hu with rfl | rfl <;> rfl) ho hx hy ht
theorem zinfoPl : (Try.prog.info? 25).map (fun i => i.zero) = some (some (.agg (plC 0 (.slice none 0 0)).toArray)) := by kernel_rfl
end
def PlPost (B : Nat) (w : World) (l k : List Bool) (par : Bool) (lost : Int) (e : Ending) (w' : World) : Prop := ∃ v, e = .returned (.tuple #[.agg (plC (plW l k par lost) v).toArray, .int .i64 (plE l k lost)]) ∧ MadeE IntE w' B v (plR l k par lost) ∧ Below B w w'
theorem MadeE.beside {α : Type} {E : Elt α} {w : World} {B : Nat} {v : Value} {l : List α} (h : MadeE E w (B + 1) v l) (vs : List Value) : MadeE E (w.setCells B 0 vs) B v l := by
  refine ⟨h.1, ?_⟩
  rcases h.2 with hn | ⟨g, cap, cur, rfl, hbg, hg, rest⟩
  · exact .inl hn
  · exact .inr ⟨g, cap, cur, rfl, by omega, (blk_setCells B vs 0 w g (by omega)).trans hg, rest⟩
theorem blk_ltP {w : World} {b : Nat} {o : Obj} (h : w.heap[b]? = some o) : b < w.heap.size := (Array.getElem?_eq_some_iff.1 h).1
set_option maxHeartbeats 4000000 in
theorem rplan (A B' : Option Addr) (n c m c' N N' : Nat) (l k : List Bool) (par : Bool) (lost : Int) (B : Nat) (w : World) (HBE : Hid (B = w.heap.size)) (hl : RdE BoE w N A n l) (hk : RdE BoE w N' B' m k) (hN : N ≤ B ∧ N' ≤ B) (hn : n ≤ maxLen ∧ m ≤ maxLen) :
    Calls Try.prog 9 #[.slice A n c, .slice B' m c', .bool par, .int .i64 lost] w (PlPost B w l k par lost) := by
  have HL0 := Lib.hid hl
  have HK0 := Lib.hid hk
  have HNB := Lib.hid hN
  have HNM := Lib.hid hn
  have HLL := Lib.hid hl.1
  have HKL := Lib.hid hk.1
  have hb := (Below.refl w.heap.size w).alloc (Nat.le_refl _) (.cells (plC 0 (.slice none 0 0)).toArray 25)
  have HW : Hid (Below B w (w.alloc (.cells (plC 0 (.slice none 0 0)).toArray 25))) := Lib.hid (by rw [HBE.out]; exact hb)
  have HP : Hid ((w.alloc (.cells (plC 0 (.slice none 0 0)).toArray 25)).heap[B]? = some (.cells (plC 0 (.slice none 0 0)).toArray 25 (0, 0))) := Lib.hid (by rw [HBE.out]; exact heap_alloc_new w _)
  have HL := Lib.hid (HL0.out.below (HW.out.mono HNB.out.1))
  have HK := Lib.hid (HK0.out.below (HW.out.mono HNB.out.2))
  clear hl hk hN hn hb
  go_enter Try.func9, Try.ntmps9
  go_upto_region 1 with (first | (refine wpList_valn rfl (exec_allocT zinfoPl rfl) ?_) | fail)
  rw [← HBE.out]
  generalize w.alloc (.cells (plC 0 (.slice none 0 0)).toArray 25) = w1 at *
  refine wp_region_lit ?_
  refine wpList_valn rfl (exec_mv rfl (ev rfl)) ?_
  simp only [Act.put, List.setIfInBounds_toArray, List.set_cons_succ, List.set_cons_zero]
  refine wpList_valn rfl (exec_lenQ Try.underlying22 rfl (ev rfl)) ?_
  simp only [Act.put, List.setIfInBounds_toArray, List.set_cons_succ, List.set_cons_zero]
  refine wpList_valn rfl (exec_as rfl (ev rfl)) ?_
  simp only [Act.put, List.setIfInBounds_toArray, List.set_cons_succ, List.set_cons_zero]
  refine wpList_nil ?_
  go_upto_region 2 with fail
  by_cases k0 : n < 2
  · have T0 : Hid (decide ((n : Int) < 2) = true) := Lib.hid (decide_eq_true (by omega))
    have HQ : Hid (plQ l k lost = false) := Lib.hid (decide_eq_false fun e => by obtain ⟨e1, e2, e3, e4, e5, e6⟩ := e; rw [HLL.out] at e1 e2 e3 e4 e6; rw [HKL.out] at e3; omega)
    have HRR : Hid (plR l k par lost = []) := Lib.hid (if_neg (by rw [HQ.out]; decide))
    have HVV : Hid (plW l k par lost = 0) := Lib.hid (if_neg (by rw [HQ.out]; decide))
    have HEE : Hid (plE l k lost = 2) := Lib.hid (if_neg (by rw [HQ.out]; decide))
    clear k0
    refine wp_region_lit ?_
    refine wpList_valn rfl (exec_mv rfl (ev rfl)) ?_
    simp only [Act.put, List.setIfInBounds_toArray, List.set_cons_succ, List.set_cons_zero]
    refine wpList_valn (v := .bool true) rfl (exec_lss true rfl (ev rfl) evk T0.out) ?_
    simp only [Act.put, List.setIfInBounds_toArray, List.set_cons_succ, List.set_cons_zero]
    refine wpList_skips 2 (v := .bool true) rfl (exec_mv rfl (ev rfl)) (by kernel_rfl) ?_
    simp only [skipAct, List.take_succ_cons, List.take_zero, List.drop_succ_cons, List.drop_zero, Act.put, List.setIfInBounds_toArray, List.set_cons_succ, List.set_cons_zero]
    refine wpList_valn (v := .bool true) rfl (exec_pt rfl (ev rfl) evk) ?_
    simp only [Act.put, List.setIfInBounds_toArray, List.set_cons_succ, List.set_cons_zero]
    refine wpList_skips 4 (v := .bool true) rfl (exec_mv rfl (ev rfl)) (by kernel_rfl) ?_
    simp only [skipAct, List.take_succ_cons, List.take_zero, List.drop_succ_cons, List.drop_zero, Act.put, List.setIfInBounds_toArray, List.set_cons_succ, List.set_cons_zero]
    refine wpList_valn (v := .bool true) rfl (exec_pt rfl (ev rfl) evk) ?_
    simp only [Act.put, List.setIfInBounds_toArray, List.set_cons_succ, List.set_cons_zero]
    refine wpList_skips 3 (v := .bool true) rfl (exec_mv rfl (ev rfl)) (by kernel_rfl) ?_
    simp only [skipAct, List.take_succ_cons, List.take_zero, List.drop_succ_cons, List.drop_zero, Act.put, List.setIfInBounds_toArray, List.set_cons_succ, List.set_cons_zero]
    refine wpList_valn (v := .bool true) rfl (exec_pt rfl (ev rfl) evk) ?_
    simp only [Act.put, List.setIfInBounds_toArray, List.set_cons_succ, List.set_cons_zero]
    refine wpList_skips 2 (v := .bool true) rfl (exec_mv rfl (ev rfl)) (by kernel_rfl) ?_
    simp only [skipAct, List.take_succ_cons, List.take_zero, List.drop_succ_cons, List.drop_zero, Act.put, List.setIfInBounds_toArray, List.set_cons_succ, List.set_cons_zero]
    refine wpList_valn (v := .bool true) rfl (exec_pt rfl (ev rfl) evk) ?_
    simp only [Act.put, List.setIfInBounds_toArray, List.set_cons_succ, List.set_cons_zero]
    refine wpList_skips 3 (v := .bool true) rfl (exec_mv rfl (ev rfl)) (by kernel_rfl) ?_
    simp only [skipAct, List.take_succ_cons, List.take_zero, List.drop_succ_cons, List.drop_zero, Act.put, List.setIfInBounds_toArray, List.set_cons_succ, List.set_cons_zero]
    refine wpList_valn (v := .bool true) rfl (exec_pt rfl (ev rfl) evk) ?_
    simp only [Act.put, List.setIfInBounds_toArray, List.set_cons_succ, List.set_cons_zero]
    refine wpList_nil ?_
    go_upto_region 3 with fail
    refine wp_region_lit ?_
    refine wpList_valn rfl (exec_bldP0 rfl) ?_
    simp only [Act.put, List.setIfInBounds_toArray, List.set_cons_succ, List.set_cons_zero]
    refine wpList_nuln rfl (exec_putPl none 0 0 rfl (ev rfl) (ev rfl) (there_at (o := 0) (n := 2) HP.out (Nat.le_refl _))) ?_
    simp only [Act.put, List.setIfInBounds_toArray, List.set_cons_succ, List.set_cons_zero]
    refine wpList_valn rfl (exec_as rfl evk) ?_
    simp only [Act.put, List.setIfInBounds_toArray, List.set_cons_succ, List.set_cons_zero]
    refine wpList_nil ?_
    go_wp2_with fail
    (try simp only [Exit.inBlock, Exit.then])
    exact bodyPost_ret (res_twoP (cs := plC 0 (.slice none 0 0)) rfl _ _ B rfl (World.rangeAt_setCells_same _ _ _ _ (there_at (o := 0) (n := 2) HP.out (Nat.le_refl _))) Try.underlying25 rfl (by kernel_rfl)) rfl ⟨.slice none 0 0, by rw [HVV.out, HEE.out]; rfl, by rw [HRR.out]; exact MadeE.nil _ _, below_setCells (b := B) (o := 0) HW.out (Nat.le_refl _) _⟩
  have T0 : Hid (decide ((n : Int) < 2) = false) := Lib.hid (decide_eq_false (by omega))
  by_cases k1 : 15 < n
  · have T1 : Hid (decide (15 < (n : Int)) = true) := Lib.hid (decide_eq_true (by omega))
    have HQ : Hid (plQ l k lost = false) := Lib.hid (decide_eq_false fun e => by obtain ⟨e1, e2, e3, e4, e5, e6⟩ := e; rw [HLL.out] at e1 e2 e3 e4 e6; rw [HKL.out] at e3; omega)
    have HRR : Hid (plR l k par lost = []) := Lib.hid (if_neg (by rw [HQ.out]; decide))
    have HVV : Hid (plW l k par lost = 0) := Lib.hid (if_neg (by rw [HQ.out]; decide))
    have HEE : Hid (plE l k lost = 2) := Lib.hid (if_neg (by rw [HQ.out]; decide))
    clear k0 k1
    refine wp_region_lit ?_
    refine wpList_valn rfl (exec_mv rfl (ev rfl)) ?_
    simp only [Act.put, List.setIfInBounds_toArray, List.set_cons_succ, List.set_cons_zero]
    refine wpList_valn (v := .bool false) rfl (exec_lss false rfl (ev rfl) evk T0.out) ?_
    simp only [Act.put, List.setIfInBounds_toArray, List.set_cons_succ, List.set_cons_zero]
    refine wpList_valn (v := .bool false) rfl (exec_mv rfl (ev rfl)) ?_
    simp only [Act.put, List.setIfInBounds_toArray, List.set_cons_succ, List.set_cons_zero]
    refine wpList_val (wanted_of rfl rfl rfl rfl) (exec_mv rfl (ev rfl)) ?_
    simp only [Act.put, List.setIfInBounds_toArray, List.set_cons_succ, List.set_cons_zero]
    refine wpList_val (v := .bool true) (wanted_of rfl rfl rfl rfl) (exec_gtr true rfl (ev rfl) evk T1.out) ?_
    simp only [Act.put, List.setIfInBounds_toArray, List.set_cons_succ, List.set_cons_zero]
    refine wpList_valn (v := .bool true) rfl (exec_pf rfl (ev rfl) (ev rfl)) ?_
    simp only [Act.put, List.setIfInBounds_toArray, List.set_cons_succ, List.set_cons_zero]
    refine wpList_skips 4 (v := .bool true) rfl (exec_mv rfl (ev rfl)) (by kernel_rfl) ?_
    simp only [skipAct, List.take_succ_cons, List.take_zero, List.drop_succ_cons, List.drop_zero, Act.put, List.setIfInBounds_toArray, List.set_cons_succ, List.set_cons_zero]
    refine wpList_valn (v := .bool true) rfl (exec_pt rfl (ev rfl) evk) ?_
    simp only [Act.put, List.setIfInBounds_toArray, List.set_cons_succ, List.set_cons_zero]
    refine wpList_skips 3 (v := .bool true) rfl (exec_mv rfl (ev rfl)) (by kernel_rfl) ?_
    simp only [skipAct, List.take_succ_cons, List.take_zero, List.drop_succ_cons, List.drop_zero, Act.put, List.setIfInBounds_toArray, List.set_cons_succ, List.set_cons_zero]
    refine wpList_valn (v := .bool true) rfl (exec_pt rfl (ev rfl) evk) ?_
    simp only [Act.put, List.setIfInBounds_toArray, List.set_cons_succ, List.set_cons_zero]
    refine wpList_skips 2 (v := .bool true) rfl (exec_mv rfl (ev rfl)) (by kernel_rfl) ?_
    simp only [skipAct, List.take_succ_cons, List.take_zero, List.drop_succ_cons, List.drop_zero, Act.put, List.setIfInBounds_toArray, List.set_cons_succ, List.set_cons_zero]
    refine wpList_valn (v := .bool true) rfl (exec_pt rfl (ev rfl) evk) ?_
    simp only [Act.put, List.setIfInBounds_toArray, List.set_cons_succ, List.set_cons_zero]
    refine wpList_skips 3 (v := .bool true) rfl (exec_mv rfl (ev rfl)) (by kernel_rfl) ?_
    simp only [skipAct, List.take_succ_cons, List.take_zero, List.drop_succ_cons, List.drop_zero, Act.put, List.setIfInBounds_toArray, List.set_cons_succ, List.set_cons_zero]
    refine wpList_valn (v := .bool true) rfl (exec_pt rfl (ev rfl) evk) ?_
    simp only [Act.put, List.setIfInBounds_toArray, List.set_cons_succ, List.set_cons_zero]
    refine wpList_nil ?_
    go_upto_region 3 with fail
    refine wp_region_lit ?_
    refine wpList_valn rfl (exec_bldP0 rfl) ?_
    simp only [Act.put, List.setIfInBounds_toArray, List.set_cons_succ, List.set_cons_zero]
    refine wpList_nuln rfl (exec_putPl none 0 0 rfl (ev rfl) (ev rfl) (there_at (o := 0) (n := 2) HP.out (Nat.le_refl _))) ?_
    simp only [Act.put, List.setIfInBounds_toArray, List.set_cons_succ, List.set_cons_zero]
    refine wpList_valn rfl (exec_as rfl evk) ?_
    simp only [Act.put, List.setIfInBounds_toArray, List.set_cons_succ, List.set_cons_zero]
    refine wpList_nil ?_
    go_wp2_with fail
    (try simp only [Exit.inBlock, Exit.then])
    exact bodyPost_ret (res_twoP (cs := plC 0 (.slice none 0 0)) rfl _ _ B rfl (World.rangeAt_setCells_same _ _ _ _ (there_at (o := 0) (n := 2) HP.out (Nat.le_refl _))) Try.underlying25 rfl (by kernel_rfl)) rfl ⟨.slice none 0 0, by rw [HVV.out, HEE.out]; rfl, by rw [HRR.out]; exact MadeE.nil _ _, below_setCells (b := B) (o := 0) HW.out (Nat.le_refl _) _⟩
  have T1 : Hid (decide (15 < (n : Int)) = false) := Lib.hid (decide_eq_false (by omega))
  by_cases k2 : ¬ m = n
  · have T2 : Hid (((m : Int) != (n : Int)) = true) := Lib.hid (by simp only [bne_iff_ne, ne_eq]; omega)
    have HQ : Hid (plQ l k lost = false) := Lib.hid (decide_eq_false fun e => by obtain ⟨e1, e2, e3, e4, e5, e6⟩ := e; rw [HLL.out] at e1 e2 e3 e4 e6; rw [HKL.out] at e3; omega)
    have HRR : Hid (plR l k par lost = []) := Lib.hid (if_neg (by rw [HQ.out]; decide))
    have HVV : Hid (plW l k par lost = 0) := Lib.hid (if_neg (by rw [HQ.out]; decide))
    have HEE : Hid (plE l k lost = 2) := Lib.hid (if_neg (by rw [HQ.out]; decide))
    clear k0 k1 k2
    refine wp_region_lit ?_
    refine wpList_valn rfl (exec_mv rfl (ev rfl)) ?_
    simp only [Act.put, List.setIfInBounds_toArray, List.set_cons_succ, List.set_cons_zero]
    refine wpList_valn (v := .bool false) rfl (exec_lss false rfl (ev rfl) evk T0.out) ?_
    simp only [Act.put, List.setIfInBounds_toArray, List.set_cons_succ, List.set_cons_zero]
    refine wpList_valn (v := .bool false) rfl (exec_mv rfl (ev rfl)) ?_
    simp only [Act.put, List.setIfInBounds_toArray, List.set_cons_succ, List.set_cons_zero]
    refine wpList_val (wanted_of rfl rfl rfl rfl) (exec_mv rfl (ev rfl)) ?_
    simp only [Act.put, List.setIfInBounds_toArray, List.set_cons_succ, List.set_cons_zero]
    refine wpList_val (v := .bool false) (wanted_of rfl rfl rfl rfl) (exec_gtr false rfl (ev rfl) evk T1.out) ?_
    simp only [Act.put, List.setIfInBounds_toArray, List.set_cons_succ, List.set_cons_zero]
    refine wpList_valn (v := .bool false) rfl (exec_pf rfl (ev rfl) (ev rfl)) ?_
    simp only [Act.put, List.setIfInBounds_toArray, List.set_cons_succ, List.set_cons_zero]
    refine wpList_valn (v := .bool false) rfl (exec_mv rfl (ev rfl)) ?_
    simp only [Act.put, List.setIfInBounds_toArray, List.set_cons_succ, List.set_cons_zero]
    refine wpList_val (wanted_of rfl rfl rfl rfl) (exec_mv rfl (ev rfl)) ?_
    simp only [Act.put, List.setIfInBounds_toArray, List.set_cons_succ, List.set_cons_zero]
    refine wpList_val (wanted_of rfl rfl rfl rfl) (exec_lenQ Try.underlying22 rfl (ev rfl)) ?_
    simp only [Act.put, List.setIfInBounds_toArray, List.set_cons_succ, List.set_cons_zero]
    refine wpList_val (wanted_of rfl rfl rfl rfl) (exec_mv rfl (ev rfl)) ?_
    simp only [Act.put, List.setIfInBounds_toArray, List.set_cons_succ, List.set_cons_zero]
    refine wpList_val (v := .bool true) (wanted_of rfl rfl rfl rfl) (exec_neInt true rfl (ev rfl) (ev rfl) T2.out) ?_
    simp only [Act.put, List.setIfInBounds_toArray, List.set_cons_succ, List.set_cons_zero]
    refine wpList_valn (v := .bool true) rfl (exec_pf rfl (ev rfl) (ev rfl)) ?_
    simp only [Act.put, List.setIfInBounds_toArray, List.set_cons_succ, List.set_cons_zero]
    refine wpList_skips 3 (v := .bool true) rfl (exec_mv rfl (ev rfl)) (by kernel_rfl) ?_
    simp only [skipAct, List.take_succ_cons, List.take_zero, List.drop_succ_cons, List.drop_zero, Act.put, List.setIfInBounds_toArray, List.set_cons_succ, List.set_cons_zero]
    refine wpList_valn (v := .bool true) rfl (exec_pt rfl (ev rfl) evk) ?_
    simp only [Act.put, List.setIfInBounds_toArray, List.set_cons_succ, List.set_cons_zero]
    refine wpList_skips 2 (v := .bool true) rfl (exec_mv rfl (ev rfl)) (by kernel_rfl) ?_
    simp only [skipAct, List.take_succ_cons, List.take_zero, List.drop_succ_cons, List.drop_zero, Act.put, List.setIfInBounds_toArray, List.set_cons_succ, List.set_cons_zero]
    refine wpList_valn (v := .bool true) rfl (exec_pt rfl (ev rfl) evk) ?_
    simp only [Act.put, List.setIfInBounds_toArray, List.set_cons_succ, List.set_cons_zero]
    refine wpList_skips 3 (v := .bool true) rfl (exec_mv rfl (ev rfl)) (by kernel_rfl) ?_
    simp only [skipAct, List.take_succ_cons, List.take_zero, List.drop_succ_cons, List.drop_zero, Act.put, List.setIfInBounds_toArray, List.set_cons_succ, List.set_cons_zero]
    refine wpList_valn (v := .bool true) rfl (exec_pt rfl (ev rfl) evk) ?_
    simp only [Act.put, List.setIfInBounds_toArray, List.set_cons_succ, List.set_cons_zero]
    refine wpList_nil ?_
    go_upto_region 3 with fail
    refine wp_region_lit ?_
    refine wpList_valn rfl (exec_bldP0 rfl) ?_
    simp only [Act.put, List.setIfInBounds_toArray, List.set_cons_succ, List.set_cons_zero]
    refine wpList_nuln rfl (exec_putPl none 0 0 rfl (ev rfl) (ev rfl) (there_at (o := 0) (n := 2) HP.out (Nat.le_refl _))) ?_
    simp only [Act.put, List.setIfInBounds_toArray, List.set_cons_succ, List.set_cons_zero]
    refine wpList_valn rfl (exec_as rfl evk) ?_
    simp only [Act.put, List.setIfInBounds_toArray, List.set_cons_succ, List.set_cons_zero]
    refine wpList_nil ?_
    go_wp2_with fail
    (try simp only [Exit.inBlock, Exit.then])
    exact bodyPost_ret (res_twoP (cs := plC 0 (.slice none 0 0)) rfl _ _ B rfl (World.rangeAt_setCells_same _ _ _ _ (there_at (o := 0) (n := 2) HP.out (Nat.le_refl _))) Try.underlying25 rfl (by kernel_rfl)) rfl ⟨.slice none 0 0, by rw [HVV.out, HEE.out]; rfl, by rw [HRR.out]; exact MadeE.nil _ _, below_setCells (b := B) (o := 0) HW.out (Nat.le_refl _) _⟩
  have T2 : Hid (((m : Int) != (n : Int)) = false) := Lib.hid (by simp only [bne_eq_false_iff_eq]; omega)
  by_cases k3 : cntN l n = 0
  · have T3 : Hid (((cntN l n : Int) == 0) = true) := Lib.hid (by rw [beq_iff_eq]; omega)
    have HQ : Hid (plQ l k lost = false) := Lib.hid (decide_eq_false fun e => by obtain ⟨e1, e2, e3, e4, e5, e6⟩ := e; rw [HLL.out] at e1 e2 e3 e4 e6; rw [HKL.out] at e3; omega)
    have HRR : Hid (plR l k par lost = []) := Lib.hid (if_neg (by rw [HQ.out]; decide))
    have HVV : Hid (plW l k par lost = 0) := Lib.hid (if_neg (by rw [HQ.out]; decide))
    have HEE : Hid (plE l k lost = 2) := Lib.hid (if_neg (by rw [HQ.out]; decide))
    clear k0 k1 k2 k3
    refine wp_region_lit ?_
    refine wpList_valn rfl (exec_mv rfl (ev rfl)) ?_
    simp only [Act.put, List.setIfInBounds_toArray, List.set_cons_succ, List.set_cons_zero]
    refine wpList_valn (v := .bool false) rfl (exec_lss false rfl (ev rfl) evk T0.out) ?_
    simp only [Act.put, List.setIfInBounds_toArray, List.set_cons_succ, List.set_cons_zero]
    refine wpList_valn (v := .bool false) rfl (exec_mv rfl (ev rfl)) ?_
    simp only [Act.put, List.setIfInBounds_toArray, List.set_cons_succ, List.set_cons_zero]
    refine wpList_val (wanted_of rfl rfl rfl rfl) (exec_mv rfl (ev rfl)) ?_
    simp only [Act.put, List.setIfInBounds_toArray, List.set_cons_succ, List.set_cons_zero]
    refine wpList_val (v := .bool false) (wanted_of rfl rfl rfl rfl) (exec_gtr false rfl (ev rfl) evk T1.out) ?_
    simp only [Act.put, List.setIfInBounds_toArray, List.set_cons_succ, List.set_cons_zero]
    refine wpList_valn (v := .bool false) rfl (exec_pf rfl (ev rfl) (ev rfl)) ?_
    simp only [Act.put, List.setIfInBounds_toArray, List.set_cons_succ, List.set_cons_zero]
    refine wpList_valn (v := .bool false) rfl (exec_mv rfl (ev rfl)) ?_
    simp only [Act.put, List.setIfInBounds_toArray, List.set_cons_succ, List.set_cons_zero]
    refine wpList_val (wanted_of rfl rfl rfl rfl) (exec_mv rfl (ev rfl)) ?_
    simp only [Act.put, List.setIfInBounds_toArray, List.set_cons_succ, List.set_cons_zero]
    refine wpList_val (wanted_of rfl rfl rfl rfl) (exec_lenQ Try.underlying22 rfl (ev rfl)) ?_
    simp only [Act.put, List.setIfInBounds_toArray, List.set_cons_succ, List.set_cons_zero]
    refine wpList_val (wanted_of rfl rfl rfl rfl) (exec_mv rfl (ev rfl)) ?_
    simp only [Act.put, List.setIfInBounds_toArray, List.set_cons_succ, List.set_cons_zero]
    refine wpList_val (v := .bool false) (wanted_of rfl rfl rfl rfl) (exec_neInt false rfl (ev rfl) (ev rfl) T2.out) ?_
    simp only [Act.put, List.setIfInBounds_toArray, List.set_cons_succ, List.set_cons_zero]
    refine wpList_valn (v := .bool false) rfl (exec_pf rfl (ev rfl) (ev rfl)) ?_
    simp only [Act.put, List.setIfInBounds_toArray, List.set_cons_succ, List.set_cons_zero]
    refine wpList_valn (v := .bool false) rfl (exec_mv rfl (ev rfl)) ?_
    simp only [Act.put, List.setIfInBounds_toArray, List.set_cons_succ, List.set_cons_zero]
    refine wpList_val (wanted_of rfl rfl rfl rfl) (exec_mv rfl (ev rfl)) ?_
    simp only [Act.put, List.setIfInBounds_toArray, List.set_cons_succ, List.set_cons_zero]
    refine wpList_call (wanted_of rfl rfl rfl rfl) (exec_cl Try.call21 rfl (evc (ev rfl) evn)) ?_
    refine (rcount A n c N l w1 HL.out HNM.out.1).mono ?_
    rintro e w' ⟨rfl, rfl⟩
    refine ⟨_, rfl, ?_⟩
    simp only [Act.put, List.setIfInBounds_toArray, List.set_cons_succ, List.set_cons_zero]
    refine wpList_val (v := .bool true) (wanted_of rfl rfl rfl rfl) (exec_eqInt true rfl (ev rfl) evk T3.out) ?_
    simp only [Act.put, List.setIfInBounds_toArray, List.set_cons_succ, List.set_cons_zero]
    refine wpList_valn (v := .bool true) rfl (exec_pf rfl (ev rfl) (ev rfl)) ?_
    simp only [Act.put, List.setIfInBounds_toArray, List.set_cons_succ, List.set_cons_zero]
    refine wpList_skips 2 (v := .bool true) rfl (exec_mv rfl (ev rfl)) (by kernel_rfl) ?_
    simp only [skipAct, List.take_succ_cons, List.take_zero, List.drop_succ_cons, List.drop_zero, Act.put, List.setIfInBounds_toArray, List.set_cons_succ, List.set_cons_zero]
    refine wpList_valn (v := .bool true) rfl (exec_pt rfl (ev rfl) evk) ?_
    simp only [Act.put, List.setIfInBounds_toArray, List.set_cons_succ, List.set_cons_zero]
    refine wpList_skips 3 (v := .bool true) rfl (exec_mv rfl (ev rfl)) (by kernel_rfl) ?_
    simp only [skipAct, List.take_succ_cons, List.take_zero, List.drop_succ_cons, List.drop_zero, Act.put, List.setIfInBounds_toArray, List.set_cons_succ, List.set_cons_zero]
    refine wpList_valn (v := .bool true) rfl (exec_pt rfl (ev rfl) evk) ?_
    simp only [Act.put, List.setIfInBounds_toArray, List.set_cons_succ, List.set_cons_zero]
    refine wpList_nil ?_
    go_upto_region 3 with fail
    refine wp_region_lit ?_
    refine wpList_valn rfl (exec_bldP0 rfl) ?_
    simp only [Act.put, List.setIfInBounds_toArray, List.set_cons_succ, List.set_cons_zero]
    refine wpList_nuln rfl (exec_putPl none 0 0 rfl (ev rfl) (ev rfl) (there_at (o := 0) (n := 2) HP.out (Nat.le_refl _))) ?_
    simp only [Act.put, List.setIfInBounds_toArray, List.set_cons_succ, List.set_cons_zero]
    refine wpList_valn rfl (exec_as rfl evk) ?_
    simp only [Act.put, List.setIfInBounds_toArray, List.set_cons_succ, List.set_cons_zero]
    refine wpList_nil ?_
    go_wp2_with fail
    (try simp only [Exit.inBlock, Exit.then])
    exact bodyPost_ret (res_twoP (cs := plC 0 (.slice none 0 0)) rfl _ _ B rfl (World.rangeAt_setCells_same _ _ _ _ (there_at (o := 0) (n := 2) HP.out (Nat.le_refl _))) Try.underlying25 rfl (by kernel_rfl)) rfl ⟨.slice none 0 0, by rw [HVV.out, HEE.out]; rfl, by rw [HRR.out]; exact MadeE.nil _ _, below_setCells (b := B) (o := 0) HW.out (Nat.le_refl _) _⟩
  have T3 : Hid (((cntN l n : Int) == 0) = false) := Lib.hid (beq_eq_false_iff_ne.2 (by omega))
  by_cases k4 : lost < -1
  · have T4 : Hid (decide (lost < -1) = true) := Lib.hid (decide_eq_true (by omega))
    have HQ : Hid (plQ l k lost = false) := Lib.hid (decide_eq_false fun e => by obtain ⟨e1, e2, e3, e4, e5, e6⟩ := e; rw [HLL.out] at e1 e2 e3 e4 e6; rw [HKL.out] at e3; omega)
    have HRR : Hid (plR l k par lost = []) := Lib.hid (if_neg (by rw [HQ.out]; decide))
    have HVV : Hid (plW l k par lost = 0) := Lib.hid (if_neg (by rw [HQ.out]; decide))
    have HEE : Hid (plE l k lost = 2) := Lib.hid (if_neg (by rw [HQ.out]; decide))
    clear k0 k1 k2 k3 k4
    refine wp_region_lit ?_
    refine wpList_valn rfl (exec_mv rfl (ev rfl)) ?_
    simp only [Act.put, List.setIfInBounds_toArray, List.set_cons_succ, List.set_cons_zero]
    refine wpList_valn (v := .bool false) rfl (exec_lss false rfl (ev rfl) evk T0.out) ?_
    simp only [Act.put, List.setIfInBounds_toArray, List.set_cons_succ, List.set_cons_zero]
    refine wpList_valn (v := .bool false) rfl (exec_mv rfl (ev rfl)) ?_
    simp only [Act.put, List.setIfInBounds_toArray, List.set_cons_succ, List.set_cons_zero]
    refine wpList_val (wanted_of rfl rfl rfl rfl) (exec_mv rfl (ev rfl)) ?_
    simp only [Act.put, List.setIfInBounds_toArray, List.set_cons_succ, List.set_cons_zero]
    refine wpList_val (v := .bool false) (wanted_of rfl rfl rfl rfl) (exec_gtr false rfl (ev rfl) evk T1.out) ?_
    simp only [Act.put, List.setIfInBounds_toArray, List.set_cons_succ, List.set_cons_zero]
    refine wpList_valn (v := .bool false) rfl (exec_pf rfl (ev rfl) (ev rfl)) ?_
    simp only [Act.put, List.setIfInBounds_toArray, List.set_cons_succ, List.set_cons_zero]
    refine wpList_valn (v := .bool false) rfl (exec_mv rfl (ev rfl)) ?_
    simp only [Act.put, List.setIfInBounds_toArray, List.set_cons_succ, List.set_cons_zero]
    refine wpList_val (wanted_of rfl rfl rfl rfl) (exec_mv rfl (ev rfl)) ?_
    simp only [Act.put, List.setIfInBounds_toArray, List.set_cons_succ, List.set_cons_zero]
    refine wpList_val (wanted_of rfl rfl rfl rfl) (exec_lenQ Try.underlying22 rfl (ev rfl)) ?_
    simp only [Act.put, List.setIfInBounds_toArray, List.set_cons_succ, List.set_cons_zero]
    refine wpList_val (wanted_of rfl rfl rfl rfl) (exec_mv rfl (ev rfl)) ?_
    simp only [Act.put, List.setIfInBounds_toArray, List.set_cons_succ, List.set_cons_zero]
    refine wpList_val (v := .bool false) (wanted_of rfl rfl rfl rfl) (exec_neInt false rfl (ev rfl) (ev rfl) T2.out) ?_
    simp only [Act.put, List.setIfInBounds_toArray, List.set_cons_succ, List.set_cons_zero]
    refine wpList_valn (v := .bool false) rfl (exec_pf rfl (ev rfl) (ev rfl)) ?_
    simp only [Act.put, List.setIfInBounds_toArray, List.set_cons_succ, List.set_cons_zero]
    refine wpList_valn (v := .bool false) rfl (exec_mv rfl (ev rfl)) ?_
    simp only [Act.put, List.setIfInBounds_toArray, List.set_cons_succ, List.set_cons_zero]
    refine wpList_val (wanted_of rfl rfl rfl rfl) (exec_mv rfl (ev rfl)) ?_
    simp only [Act.put, List.setIfInBounds_toArray, List.set_cons_succ, List.set_cons_zero]
    refine wpList_call (wanted_of rfl rfl rfl rfl) (exec_cl Try.call21 rfl (evc (ev rfl) evn)) ?_
    refine (rcount A n c N l w1 HL.out HNM.out.1).mono ?_
    rintro e w' ⟨rfl, rfl⟩
    refine ⟨_, rfl, ?_⟩
    simp only [Act.put, List.setIfInBounds_toArray, List.set_cons_succ, List.set_cons_zero]
    refine wpList_val (v := .bool false) (wanted_of rfl rfl rfl rfl) (exec_eqInt false rfl (ev rfl) evk T3.out) ?_
    simp only [Act.put, List.setIfInBounds_toArray, List.set_cons_succ, List.set_cons_zero]
    refine wpList_valn (v := .bool false) rfl (exec_pf rfl (ev rfl) (ev rfl)) ?_
    simp only [Act.put, List.setIfInBounds_toArray, List.set_cons_succ, List.set_cons_zero]
    refine wpList_valn (v := .bool false) rfl (exec_mv rfl (ev rfl)) ?_
    simp only [Act.put, List.setIfInBounds_toArray, List.set_cons_succ, List.set_cons_zero]
    refine wpList_val (wanted_of rfl rfl rfl rfl) (exec_mv rfl (ev rfl)) ?_
    simp only [Act.put, List.setIfInBounds_toArray, List.set_cons_succ, List.set_cons_zero]
    refine wpList_val (v := .bool true) (wanted_of rfl rfl rfl rfl) (exec_lss true rfl (ev rfl) evk T4.out) ?_
    simp only [Act.put, List.setIfInBounds_toArray, List.set_cons_succ, List.set_cons_zero]
    refine wpList_valn (v := .bool true) rfl (exec_pf rfl (ev rfl) (ev rfl)) ?_
    simp only [Act.put, List.setIfInBounds_toArray, List.set_cons_succ, List.set_cons_zero]
    refine wpList_skips 3 (v := .bool true) rfl (exec_mv rfl (ev rfl)) (by kernel_rfl) ?_
    simp only [skipAct, List.take_succ_cons, List.take_zero, List.drop_succ_cons, List.drop_zero, Act.put, List.setIfInBounds_toArray, List.set_cons_succ, List.set_cons_zero]
    refine wpList_valn (v := .bool true) rfl (exec_pt rfl (ev rfl) evk) ?_
    simp only [Act.put, List.setIfInBounds_toArray, List.set_cons_succ, List.set_cons_zero]
    refine wpList_nil ?_
    go_upto_region 3 with fail
    refine wp_region_lit ?_
    refine wpList_valn rfl (exec_bldP0 rfl) ?_
    simp only [Act.put, List.setIfInBounds_toArray, List.set_cons_succ, List.set_cons_zero]
    refine wpList_nuln rfl (exec_putPl none 0 0 rfl (ev rfl) (ev rfl) (there_at (o := 0) (n := 2) HP.out (Nat.le_refl _))) ?_
    simp only [Act.put, List.setIfInBounds_toArray, List.set_cons_succ, List.set_cons_zero]
    refine wpList_valn rfl (exec_as rfl evk) ?_
    simp only [Act.put, List.setIfInBounds_toArray, List.set_cons_succ, List.set_cons_zero]
    refine wpList_nil ?_
    go_wp2_with fail
    (try simp only [Exit.inBlock, Exit.then])
    exact bodyPost_ret (res_twoP (cs := plC 0 (.slice none 0 0)) rfl _ _ B rfl (World.rangeAt_setCells_same _ _ _ _ (there_at (o := 0) (n := 2) HP.out (Nat.le_refl _))) Try.underlying25 rfl (by kernel_rfl)) rfl ⟨.slice none 0 0, by rw [HVV.out, HEE.out]; rfl, by rw [HRR.out]; exact MadeE.nil _ _, below_setCells (b := B) (o := 0) HW.out (Nat.le_refl _) _⟩
  have T4 : Hid (decide (lost < -1) = false) := Lib.hid (decide_eq_false (by omega))
  by_cases k5 : (n : Int) < lost
  · have T5 : Hid (decide ((n : Int) < lost) = true) := Lib.hid (decide_eq_true (by omega))
    have HQ : Hid (plQ l k lost = false) := Lib.hid (decide_eq_false fun e => by obtain ⟨e1, e2, e3, e4, e5, e6⟩ := e; rw [HLL.out] at e1 e2 e3 e4 e6; rw [HKL.out] at e3; omega)
    have HRR : Hid (plR l k par lost = []) := Lib.hid (if_neg (by rw [HQ.out]; decide))
    have HVV : Hid (plW l k par lost = 0) := Lib.hid (if_neg (by rw [HQ.out]; decide))
    have HEE : Hid (plE l k lost = 2) := Lib.hid (if_neg (by rw [HQ.out]; decide))
    clear k0 k1 k2 k3 k4 k5
    refine wp_region_lit ?_
    refine wpList_valn rfl (exec_mv rfl (ev rfl)) ?_
    simp only [Act.put, List.setIfInBounds_toArray, List.set_cons_succ, List.set_cons_zero]
    refine wpList_valn (v := .bool false) rfl (exec_lss false rfl (ev rfl) evk T0.out) ?_
    simp only [Act.put, List.setIfInBounds_toArray, List.set_cons_succ, List.set_cons_zero]
    refine wpList_valn (v := .bool false) rfl (exec_mv rfl (ev rfl)) ?_
    simp only [Act.put, List.setIfInBounds_toArray, List.set_cons_succ, List.set_cons_zero]
    refine wpList_val (wanted_of rfl rfl rfl rfl) (exec_mv rfl (ev rfl)) ?_
    simp only [Act.put, List.setIfInBounds_toArray, List.set_cons_succ, List.set_cons_zero]
    refine wpList_val (v := .bool false) (wanted_of rfl rfl rfl rfl) (exec_gtr false rfl (ev rfl) evk T1.out) ?_
    simp only [Act.put, List.setIfInBounds_toArray, List.set_cons_succ, List.set_cons_zero]
    refine wpList_valn (v := .bool false) rfl (exec_pf rfl (ev rfl) (ev rfl)) ?_
    simp only [Act.put, List.setIfInBounds_toArray, List.set_cons_succ, List.set_cons_zero]
    refine wpList_valn (v := .bool false) rfl (exec_mv rfl (ev rfl)) ?_
    simp only [Act.put, List.setIfInBounds_toArray, List.set_cons_succ, List.set_cons_zero]
    refine wpList_val (wanted_of rfl rfl rfl rfl) (exec_mv rfl (ev rfl)) ?_
    simp only [Act.put, List.setIfInBounds_toArray, List.set_cons_succ, List.set_cons_zero]
    refine wpList_val (wanted_of rfl rfl rfl rfl) (exec_lenQ Try.underlying22 rfl (ev rfl)) ?_
    simp only [Act.put, List.setIfInBounds_toArray, List.set_cons_succ, List.set_cons_zero]
    refine wpList_val (wanted_of rfl rfl rfl rfl) (exec_mv rfl (ev rfl)) ?_
    simp only [Act.put, List.setIfInBounds_toArray, List.set_cons_succ, List.set_cons_zero]
    refine wpList_val (v := .bool false) (wanted_of rfl rfl rfl rfl) (exec_neInt false rfl (ev rfl) (ev rfl) T2.out) ?_
    simp only [Act.put, List.setIfInBounds_toArray, List.set_cons_succ, List.set_cons_zero]
    refine wpList_valn (v := .bool false) rfl (exec_pf rfl (ev rfl) (ev rfl)) ?_
    simp only [Act.put, List.setIfInBounds_toArray, List.set_cons_succ, List.set_cons_zero]
    refine wpList_valn (v := .bool false) rfl (exec_mv rfl (ev rfl)) ?_
    simp only [Act.put, List.setIfInBounds_toArray, List.set_cons_succ, List.set_cons_zero]
    refine wpList_val (wanted_of rfl rfl rfl rfl) (exec_mv rfl (ev rfl)) ?_
    simp only [Act.put, List.setIfInBounds_toArray, List.set_cons_succ, List.set_cons_zero]
    refine wpList_call (wanted_of rfl rfl rfl rfl) (exec_cl Try.call21 rfl (evc (ev rfl) evn)) ?_
    refine (rcount A n c N l w1 HL.out HNM.out.1).mono ?_
    rintro e w' ⟨rfl, rfl⟩
    refine ⟨_, rfl, ?_⟩
    simp only [Act.put, List.setIfInBounds_toArray, List.set_cons_succ, List.set_cons_zero]
    refine wpList_val (v := .bool false) (wanted_of rfl rfl rfl rfl) (exec_eqInt false rfl (ev rfl) evk T3.out) ?_
    simp only [Act.put, List.setIfInBounds_toArray, List.set_cons_succ, List.set_cons_zero]
    refine wpList_valn (v := .bool false) rfl (exec_pf rfl (ev rfl) (ev rfl)) ?_
    simp only [Act.put, List.setIfInBounds_toArray, List.set_cons_succ, List.set_cons_zero]
    refine wpList_valn (v := .bool false) rfl (exec_mv rfl (ev rfl)) ?_
    simp only [Act.put, List.setIfInBounds_toArray, List.set_cons_succ, List.set_cons_zero]
    refine wpList_val (wanted_of rfl rfl rfl rfl) (exec_mv rfl (ev rfl)) ?_
    simp only [Act.put, List.setIfInBounds_toArray, List.set_cons_succ, List.set_cons_zero]
    refine wpList_val (v := .bool false) (wanted_of rfl rfl rfl rfl) (exec_lss false rfl (ev rfl) evk T4.out) ?_
    simp only [Act.put, List.setIfInBounds_toArray, List.set_cons_succ, List.set_cons_zero]
    refine wpList_valn (v := .bool false) rfl (exec_pf rfl (ev rfl) (ev rfl)) ?_
    simp only [Act.put, List.setIfInBounds_toArray, List.set_cons_succ, List.set_cons_zero]
    refine wpList_valn (v := .bool false) rfl (exec_mv rfl (ev rfl)) ?_
    simp only [Act.put, List.setIfInBounds_toArray, List.set_cons_succ, List.set_cons_zero]
    refine wpList_val (wanted_of rfl rfl rfl rfl) (exec_mv rfl (ev rfl)) ?_
    simp only [Act.put, List.setIfInBounds_toArray, List.set_cons_succ, List.set_cons_zero]
    refine wpList_val (wanted_of rfl rfl rfl rfl) (exec_mv rfl (ev rfl)) ?_
    simp only [Act.put, List.setIfInBounds_toArray, List.set_cons_succ, List.set_cons_zero]
    refine wpList_val (v := .bool true) (wanted_of rfl rfl rfl rfl) (exec_gtr true rfl (ev rfl) (ev rfl) T5.out) ?_
    simp only [Act.put, List.setIfInBounds_toArray, List.set_cons_succ, List.set_cons_zero]
    refine wpList_valn (v := .bool true) rfl (exec_pf rfl (ev rfl) (ev rfl)) ?_
    simp only [Act.put, List.setIfInBounds_toArray, List.set_cons_succ, List.set_cons_zero]
    refine wpList_nil ?_
    go_upto_region 3 with fail
    refine wp_region_lit ?_
    refine wpList_valn rfl (exec_bldP0 rfl) ?_
    simp only [Act.put, List.setIfInBounds_toArray, List.set_cons_succ, List.set_cons_zero]
    refine wpList_nuln rfl (exec_putPl none 0 0 rfl (ev rfl) (ev rfl) (there_at (o := 0) (n := 2) HP.out (Nat.le_refl _))) ?_
    simp only [Act.put, List.setIfInBounds_toArray, List.set_cons_succ, List.set_cons_zero]
    refine wpList_valn rfl (exec_as rfl evk) ?_
    simp only [Act.put, List.setIfInBounds_toArray, List.set_cons_succ, List.set_cons_zero]
    refine wpList_nil ?_
    go_wp2_with fail
    (try simp only [Exit.inBlock, Exit.then])
    exact bodyPost_ret (res_twoP (cs := plC 0 (.slice none 0 0)) rfl _ _ B rfl (World.rangeAt_setCells_same _ _ _ _ (there_at (o := 0) (n := 2) HP.out (Nat.le_refl _))) Try.underlying25 rfl (by kernel_rfl)) rfl ⟨.slice none 0 0, by rw [HVV.out, HEE.out]; rfl, by rw [HRR.out]; exact MadeE.nil _ _, below_setCells (b := B) (o := 0) HW.out (Nat.le_refl _) _⟩
  have T5 : Hid (decide ((n : Int) < lost) = false) := Lib.hid (decide_eq_false (by omega))
  have HQ : Hid (plQ l k lost = true) := Lib.hid (decide_eq_true (by rw [HLL.out, HKL.out]; omega))
  have HEE : Hid (plE l k lost = 0) := Lib.hid (if_pos HQ.out)
  have HN15 : Hid (n ≤ 15) := Lib.hid (by omega)
  have HMN : Hid (m = n) := Lib.hid (by omega)
  clear k0 k1 k2 k3 k4 k5
  refine wp_region_lit ?_
  refine wpList_valn rfl (exec_mv rfl (ev rfl)) ?_
  simp only [Act.put, List.setIfInBounds_toArray, List.set_cons_succ, List.set_cons_zero]
  refine wpList_valn (v := .bool false) rfl (exec_lss false rfl (ev rfl) evk T0.out) ?_
  simp only [Act.put, List.setIfInBounds_toArray, List.set_cons_succ, List.set_cons_zero]
  refine wpList_valn (v := .bool false) rfl (exec_mv rfl (ev rfl)) ?_
  simp only [Act.put, List.setIfInBounds_toArray, List.set_cons_succ, List.set_cons_zero]
  refine wpList_val (wanted_of rfl rfl rfl rfl) (exec_mv rfl (ev rfl)) ?_
  simp only [Act.put, List.setIfInBounds_toArray, List.set_cons_succ, List.set_cons_zero]
  refine wpList_val (v := .bool false) (wanted_of rfl rfl rfl rfl) (exec_gtr false rfl (ev rfl) evk T1.out) ?_
  simp only [Act.put, List.setIfInBounds_toArray, List.set_cons_succ, List.set_cons_zero]
  refine wpList_valn (v := .bool false) rfl (exec_pf rfl (ev rfl) (ev rfl)) ?_
  simp only [Act.put, List.setIfInBounds_toArray, List.set_cons_succ, List.set_cons_zero]
  refine wpList_valn (v := .bool false) rfl (exec_mv rfl (ev rfl)) ?_
  simp only [Act.put, List.setIfInBounds_toArray, List.set_cons_succ, List.set_cons_zero]
  refine wpList_val (wanted_of rfl rfl rfl rfl) (exec_mv rfl (ev rfl)) ?_
  simp only [Act.put, List.setIfInBounds_toArray, List.set_cons_succ, List.set_cons_zero]
  refine wpList_val (wanted_of rfl rfl rfl rfl) (exec_lenQ Try.underlying22 rfl (ev rfl)) ?_
  simp only [Act.put, List.setIfInBounds_toArray, List.set_cons_succ, List.set_cons_zero]
  refine wpList_val (wanted_of rfl rfl rfl rfl) (exec_mv rfl (ev rfl)) ?_
  simp only [Act.put, List.setIfInBounds_toArray, List.set_cons_succ, List.set_cons_zero]
  refine wpList_val (v := .bool false) (wanted_of rfl rfl rfl rfl) (exec_neInt false rfl (ev rfl) (ev rfl) T2.out) ?_
  simp only [Act.put, List.setIfInBounds_toArray, List.set_cons_succ, List.set_cons_zero]
  refine wpList_valn (v := .bool false) rfl (exec_pf rfl (ev rfl) (ev rfl)) ?_
  simp only [Act.put, List.setIfInBounds_toArray, List.set_cons_succ, List.set_cons_zero]
  refine wpList_valn (v := .bool false) rfl (exec_mv rfl (ev rfl)) ?_
  simp only [Act.put, List.setIfInBounds_toArray, List.set_cons_succ, List.set_cons_zero]
  refine wpList_val (wanted_of rfl rfl rfl rfl) (exec_mv rfl (ev rfl)) ?_
  simp only [Act.put, List.setIfInBounds_toArray, List.set_cons_succ, List.set_cons_zero]
  refine wpList_call (wanted_of rfl rfl rfl rfl) (exec_cl Try.call21 rfl (evc (ev rfl) evn)) ?_
  refine (rcount A n c N l w1 HL.out HNM.out.1).mono ?_
  rintro e w' ⟨rfl, rfl⟩
  refine ⟨_, rfl, ?_⟩
  simp only [Act.put, List.setIfInBounds_toArray, List.set_cons_succ, List.set_cons_zero]
  refine wpList_val (v := .bool false) (wanted_of rfl rfl rfl rfl) (exec_eqInt false rfl (ev rfl) evk T3.out) ?_
  simp only [Act.put, List.setIfInBounds_toArray, List.set_cons_succ, List.set_cons_zero]
  refine wpList_valn (v := .bool false) rfl (exec_pf rfl (ev rfl) (ev rfl)) ?_
  simp only [Act.put, List.setIfInBounds_toArray, List.set_cons_succ, List.set_cons_zero]
  refine wpList_valn (v := .bool false) rfl (exec_mv rfl (ev rfl)) ?_
  simp only [Act.put, List.setIfInBounds_toArray, List.set_cons_succ, List.set_cons_zero]
  refine wpList_val (wanted_of rfl rfl rfl rfl) (exec_mv rfl (ev rfl)) ?_
  simp only [Act.put, List.setIfInBounds_toArray, List.set_cons_succ, List.set_cons_zero]
  refine wpList_val (v := .bool false) (wanted_of rfl rfl rfl rfl) (exec_lss false rfl (ev rfl) evk T4.out) ?_
  simp only [Act.put, List.setIfInBounds_toArray, List.set_cons_succ, List.set_cons_zero]
  refine wpList_valn (v := .bool false) rfl (exec_pf rfl (ev rfl) (ev rfl)) ?_
  simp only [Act.put, List.setIfInBounds_toArray, List.set_cons_succ, List.set_cons_zero]
  refine wpList_valn (v := .bool false) rfl (exec_mv rfl (ev rfl)) ?_
  simp only [Act.put, List.setIfInBounds_toArray, List.set_cons_succ, List.set_cons_zero]
  refine wpList_val (wanted_of rfl rfl rfl rfl) (exec_mv rfl (ev rfl)) ?_
  simp only [Act.put, List.setIfInBounds_toArray, List.set_cons_succ, List.set_cons_zero]
  refine wpList_val (wanted_of rfl rfl rfl rfl) (exec_mv rfl (ev rfl)) ?_
  simp only [Act.put, List.setIfInBounds_toArray, List.set_cons_succ, List.set_cons_zero]
  refine wpList_val (v := .bool false) (wanted_of rfl rfl rfl rfl) (exec_gtr false rfl (ev rfl) (ev rfl) T5.out) ?_
  simp only [Act.put, List.setIfInBounds_toArray, List.set_cons_succ, List.set_cons_zero]
  refine wpList_valn (v := .bool false) rfl (exec_pf rfl (ev rfl) (ev rfl)) ?_
  simp only [Act.put, List.setIfInBounds_toArray, List.set_cons_succ, List.set_cons_zero]
  refine wpList_nil ?_
  rw [HMN.out]
  rw [HMN.out] at HK
  by_cases k6 : lost = (n : Int)
  · have T6 : Hid ((lost == (n : Int)) = true) := Lib.hid (by rw [beq_iff_eq]; exact k6)
    have HRR : Hid (plR l k par lost = []) := Lib.hid (by unfold plR; rw [if_pos HQ.out, HLL.out, if_pos k6])
    have HVV : Hid (plW l k par lost = 1) := Lib.hid (by unfold plW; rw [if_pos HQ.out, HLL.out, if_pos k6])
    clear k6
    go_upto_region 4 with fail
    refine wp_region_lit ?_
    refine wpList_valn rfl (exec_mv rfl (ev rfl)) ?_
    simp only [Act.put, List.setIfInBounds_toArray, List.set_cons_succ, List.set_cons_zero]
    refine wpList_valn rfl (exec_mv rfl (ev rfl)) ?_
    simp only [Act.put, List.setIfInBounds_toArray, List.set_cons_succ, List.set_cons_zero]
    refine wpList_valn (v := .bool true) rfl (exec_eqInt true rfl (ev rfl) (ev rfl) T6.out) ?_
    simp only [Act.put, List.setIfInBounds_toArray, List.set_cons_succ, List.set_cons_zero]
    refine wpList_nil ?_
    go_upto_region 5 with fail
    refine wp_region_lit ?_
    refine wpList_valn rfl (exec_bldP1 rfl evk) ?_
    simp only [Act.put, List.setIfInBounds_toArray, List.set_cons_succ, List.set_cons_zero]
    refine wpList_nuln rfl (exec_putPl none 0 0 rfl (ev rfl) (ev rfl) (there_at (o := 0) (n := 2) HP.out (Nat.le_refl _))) ?_
    simp only [Act.put, List.setIfInBounds_toArray, List.set_cons_succ, List.set_cons_zero]
    refine wpList_valn rfl (exec_as rfl evk) ?_
    simp only [Act.put, List.setIfInBounds_toArray, List.set_cons_succ, List.set_cons_zero]
    refine wpList_nil ?_
    go_wp2_with fail
    (try simp only [Exit.inBlock, Exit.then])
    exact bodyPost_ret (res_twoP (cs := plC 1 (.slice none 0 0)) rfl _ _ B rfl (World.rangeAt_setCells_same _ _ _ _ (there_at (o := 0) (n := 2) HP.out (Nat.le_refl _))) Try.underlying25 rfl (by kernel_rfl)) rfl ⟨.slice none 0 0, by rw [HVV.out, HEE.out]; rfl, by rw [HRR.out]; exact MadeE.nil _ _, below_setCells (b := B) (o := 0) HW.out (Nat.le_refl _) _⟩
  have T6 : Hid ((lost == (n : Int)) = false) := Lib.hid (beq_eq_false_iff_ne.2 k6)
  go_upto_region 4 with fail
  refine wp_region_lit ?_
  refine wpList_valn rfl (exec_mv rfl (ev rfl)) ?_
  simp only [Act.put, List.setIfInBounds_toArray, List.set_cons_succ, List.set_cons_zero]
  refine wpList_valn rfl (exec_mv rfl (ev rfl)) ?_
  simp only [Act.put, List.setIfInBounds_toArray, List.set_cons_succ, List.set_cons_zero]
  refine wpList_valn (v := .bool false) rfl (exec_eqInt false rfl (ev rfl) (ev rfl) T6.out) ?_
  simp only [Act.put, List.setIfInBounds_toArray, List.set_cons_succ, List.set_cons_zero]
  refine wpList_nil ?_
  by_cases k7 : cntN l n = n
  · have T7 : Hid (((cntN l n : Int) == (n : Int)) = true) := Lib.hid (by rw [beq_iff_eq]; omega)
    have HRR : Hid (plR l k par lost = []) := Lib.hid (by unfold plR; rw [if_pos HQ.out, HLL.out, if_neg k6, if_pos k7])
    have HVV : Hid (plW l k par lost = 2) := Lib.hid (by unfold plW; rw [if_pos HQ.out, HLL.out, if_neg k6, if_pos k7])
    clear k6 k7
    go_upto_region 6 with fail
    refine wp_region_lit ?_
    refine wpList_valn rfl (exec_mv rfl (ev rfl)) ?_
    simp only [Act.put, List.setIfInBounds_toArray, List.set_cons_succ, List.set_cons_zero]
    refine wpList_call rfl (exec_cl Try.call21 rfl (evc (ev rfl) evn)) ?_
    refine (rcount A n c N l w1 HL.out HNM.out.1).mono ?_
    rintro e w' ⟨rfl, rfl⟩
    refine ⟨_, rfl, ?_⟩
    simp only [Act.put, List.setIfInBounds_toArray, List.set_cons_succ, List.set_cons_zero]
    refine wpList_valn rfl (exec_mv rfl (ev rfl)) ?_
    simp only [Act.put, List.setIfInBounds_toArray, List.set_cons_succ, List.set_cons_zero]
    refine wpList_valn (v := .bool true) rfl (exec_eqInt true rfl (ev rfl) (ev rfl) T7.out) ?_
    simp only [Act.put, List.setIfInBounds_toArray, List.set_cons_succ, List.set_cons_zero]
    refine wpList_nil ?_
    go_upto_region 7 with fail
    refine wp_region_lit ?_
    refine wpList_valn rfl (exec_bldP1 rfl evk) ?_
    simp only [Act.put, List.setIfInBounds_toArray, List.set_cons_succ, List.set_cons_zero]
    refine wpList_nuln rfl (exec_putPl none 0 0 rfl (ev rfl) (ev rfl) (there_at (o := 0) (n := 2) HP.out (Nat.le_refl _))) ?_
    simp only [Act.put, List.setIfInBounds_toArray, List.set_cons_succ, List.set_cons_zero]
    refine wpList_valn rfl (exec_as rfl evk) ?_
    simp only [Act.put, List.setIfInBounds_toArray, List.set_cons_succ, List.set_cons_zero]
    refine wpList_nil ?_
    go_wp2_with fail
    (try simp only [Exit.inBlock, Exit.then])
    exact bodyPost_ret (res_twoP (cs := plC 2 (.slice none 0 0)) rfl _ _ B rfl (World.rangeAt_setCells_same _ _ _ _ (there_at (o := 0) (n := 2) HP.out (Nat.le_refl _))) Try.underlying25 rfl (by kernel_rfl)) rfl ⟨.slice none 0 0, by rw [HVV.out, HEE.out]; rfl, by rw [HRR.out]; exact MadeE.nil _ _, below_setCells (b := B) (o := 0) HW.out (Nat.le_refl _) _⟩
  have T7 : Hid (((cntN l n : Int) == (n : Int)) = false) := Lib.hid (beq_eq_false_iff_ne.2 (by omega))
  have HRR0 : Hid (plR l k par lost = if restB l k par lost = true then redR l k false lost else delL l k par lost) := Lib.hid (by unfold plR; rw [if_pos HQ.out, HLL.out, if_neg k6, if_neg k7])
  have HVV0 : Hid (plW l k par lost = if restB l k par lost = true then 3 else 4) := Lib.hid (by unfold plW; rw [if_pos HQ.out, HLL.out, if_neg k6, if_neg k7])
  have HBL : Hid (B ≤ w1.heap.size) := Lib.hid (by have := HW.out.size; rw [HBE.out]; exact this)
  clear k6 k7
  go_upto_region 6 with fail
  refine wp_region_lit ?_
  refine wpList_valn rfl (exec_mv rfl (ev rfl)) ?_
  simp only [Act.put, List.setIfInBounds_toArray, List.set_cons_succ, List.set_cons_zero]
  refine wpList_call rfl (exec_cl Try.call21 rfl (evc (ev rfl) evn)) ?_
  refine (rcount A n c N l w1 HL.out HNM.out.1).mono ?_
  rintro e w' ⟨rfl, rfl⟩
  refine ⟨_, rfl, ?_⟩
  simp only [Act.put, List.setIfInBounds_toArray, List.set_cons_succ, List.set_cons_zero]
  refine wpList_valn rfl (exec_mv rfl (ev rfl)) ?_
  simp only [Act.put, List.setIfInBounds_toArray, List.set_cons_succ, List.set_cons_zero]
  refine wpList_valn (v := .bool false) rfl (exec_eqInt false rfl (ev rfl) (ev rfl) T7.out) ?_
  simp only [Act.put, List.setIfInBounds_toArray, List.set_cons_succ, List.set_cons_zero]
  refine wpList_nil ?_
  go_upto_region 8 with fail
  refine wp_region_lit ?_
  refine wpList_valn rfl (exec_mv rfl (ev rfl)) ?_
  simp only [Act.put, List.setIfInBounds_toArray, List.set_cons_succ, List.set_cons_zero]
  refine wpList_valn rfl (exec_mv rfl (ev rfl)) ?_
  simp only [Act.put, List.setIfInBounds_toArray, List.set_cons_succ, List.set_cons_zero]
  refine wpList_valn rfl (exec_mv rfl (ev rfl)) ?_
  simp only [Act.put, List.setIfInBounds_toArray, List.set_cons_succ, List.set_cons_zero]
  refine wpList_call rfl (exec_cl Try.call22 rfl (evc (ev rfl) (evc (ev rfl) (evc evk (evc (ev rfl) evn))))) ?_
  refine (rreads A B' n c c' N N' l k false lost _ w1 (Lib.hid rfl) HL.out HK.out ⟨Nat.le_trans HNB.out.1 HBL.out, Nat.le_trans HNB.out.2 HBL.out⟩ HN15.out).mono ?_
  rintro e w2 ⟨v1, rfl, hm, hb⟩
  have Hv1 := Lib.hid (hm.base (blk_ltP HP.out))
  clear hm
  have HL_ := Lib.hid (HL.out.below (hb.mono (Nat.le_trans HNB.out.1 HBL.out)))
  have HK_ := Lib.hid (HK.out.below (hb.mono (Nat.le_trans HNB.out.2 HBL.out)))
  have HP_ := Lib.hid ((hb.block B (blk_ltP HP.out)).trans HP.out)
  have HW_ := Lib.hid (HW.out.trans (hb.mono HBL.out))
  have HBL_ := Lib.hid (Nat.le_trans HBL.out hb.size)
  clear hb HL HK HP HW HBL
  have HL := HL_
  have HK := HK_
  have HP := HP_
  have HW := HW_
  have HBL := HBL_
  clear HL_ HK_ HP_ HW_ HBL_
  refine ⟨_, rfl, ?_⟩
  simp only [Act.put, List.setIfInBounds_toArray, List.set_cons_succ, List.set_cons_zero]
  refine wpList_valn rfl (exec_mv rfl (ev rfl)) ?_
  simp only [Act.put, List.setIfInBounds_toArray, List.set_cons_succ, List.set_cons_zero]
  refine wpList_valn rfl (exec_ext rfl (ev rfl) rfl) ?_
  simp only [Act.put, List.setIfInBounds_toArray, List.set_cons_succ, List.set_cons_zero]
  refine wpList_valn rfl (exec_ext rfl (ev rfl) rfl) ?_
  simp only [Act.put, List.setIfInBounds_toArray, List.set_cons_succ, List.set_cons_zero]
  refine wpList_valn rfl (exec_as rfl (ev rfl)) ?_
  simp only [Act.put, List.setIfInBounds_toArray, List.set_cons_succ, List.set_cons_zero]
  refine wpList_valn rfl (exec_as rfl (ev rfl)) ?_
  simp only [Act.put, List.setIfInBounds_toArray, List.set_cons_succ, List.set_cons_zero]
  refine wpList_nil ?_
  go_upto_region 9 with fail
  refine wp_region_lit ?_
  refine wpList_valn rfl (exec_mv rfl (ev rfl)) ?_
  simp only [Act.put, List.setIfInBounds_toArray, List.set_cons_succ, List.set_cons_zero]
  refine wpList_valn rfl (exec_mv rfl (ev rfl)) ?_
  simp only [Act.put, List.setIfInBounds_toArray, List.set_cons_succ, List.set_cons_zero]
  refine wpList_valn rfl (exec_mv rfl (ev rfl)) ?_
  simp only [Act.put, List.setIfInBounds_toArray, List.set_cons_succ, List.set_cons_zero]
  refine wpList_call rfl (exec_cl Try.call22 rfl (evc (ev rfl) (evc (ev rfl) (evc evk (evc (ev rfl) evn))))) ?_
  have HV1L : Hid (∀ b, v1.ownBlock = some b → b < w2.heap.size) := Lib.hid fun b e => (World.ownsRow.lt Hv1.out b e).2
  refine (rreads A B' n c c' N N' l k true lost _ w2 (Lib.hid rfl) HL.out HK.out ⟨Nat.le_trans HNB.out.1 HBL.out, Nat.le_trans HNB.out.2 HBL.out⟩ HN15.out).mono ?_
  rintro e w3 ⟨v2, rfl, hm, hb⟩
  have Hv2 := Lib.hid (hm.base (blk_ltP HP.out))
  have HV2B := Lib.hid hm.lt_own
  clear hm
  have Hv1_ := Lib.hid (Hv1.out.below hb)
  clear Hv1
  have Hv1 := Hv1_
  clear Hv1_
  have HL_ := Lib.hid (HL.out.below (hb.mono (Nat.le_trans HNB.out.1 HBL.out)))
  have HK_ := Lib.hid (HK.out.below (hb.mono (Nat.le_trans HNB.out.2 HBL.out)))
  have HP_ := Lib.hid ((hb.block B (blk_ltP HP.out)).trans HP.out)
  have HW_ := Lib.hid (HW.out.trans (hb.mono HBL.out))
  have HBL_ := Lib.hid (Nat.le_trans HBL.out hb.size)
  clear hb HL HK HP HW HBL
  have HL := HL_
  have HK := HK_
  have HP := HP_
  have HW := HW_
  have HBL := HBL_
  clear HL_ HK_ HP_ HW_ HBL_
  refine ⟨_, rfl, ?_⟩
  simp only [Act.put, List.setIfInBounds_toArray, List.set_cons_succ, List.set_cons_zero]
  refine wpList_valn rfl (exec_mv rfl (ev rfl)) ?_
  simp only [Act.put, List.setIfInBounds_toArray, List.set_cons_succ, List.set_cons_zero]
  refine wpList_valn rfl (exec_ext rfl (ev rfl) rfl) ?_
  simp only [Act.put, List.setIfInBounds_toArray, List.set_cons_succ, List.set_cons_zero]
  refine wpList_valn rfl (exec_ext rfl (ev rfl) rfl) ?_
  simp only [Act.put, List.setIfInBounds_toArray, List.set_cons_succ, List.set_cons_zero]
  refine wpList_valn rfl (exec_as rfl (ev rfl)) ?_
  simp only [Act.put, List.setIfInBounds_toArray, List.set_cons_succ, List.set_cons_zero]
  refine wpList_valn rfl (exec_as rfl (ev rfl)) ?_
  simp only [Act.put, List.setIfInBounds_toArray, List.set_cons_succ, List.set_cons_zero]
  refine wpList_nil ?_
  obtain ⟨A1, c1, rfl, hr1, _, _⟩ := Hv1.out.open_ rfl
  obtain ⟨A2, c2, rfl, hr2, _, _⟩ := Hv2.out.open_ rfl
  clear hr1 hr2
  cases hh : hitB l k true lost
  rotate_left 1
  · have HX := Lib.hid hh
    have HRB : Hid (restB l k par lost = true) := Lib.hid (by unfold restB; rw [hh]; rfl)
    have HRR : Hid (plR l k par lost = redR l k false lost) := Lib.hid (by rw [HRR0.out, if_pos HRB.out])
    have HVV : Hid (plW l k par lost = 3) := Lib.hid (by rw [HVV0.out, if_pos HRB.out])
    clear hh
    go_upto_region 10 with fail
    refine wp_region_lit ?_
    refine wpList_valn (v := .bool false) rfl (exec_mv rfl (ev rfl)) ?_
    simp only [Act.put, List.setIfInBounds_toArray, List.set_cons_succ, List.set_cons_zero]
    refine wpList_skips 2 (v := .bool false) rfl (exec_mv rfl (ev rfl)) (by kernel_rfl) ?_
    simp only [skipAct, List.take_succ_cons, List.take_zero, List.drop_succ_cons, List.drop_zero, Act.put, List.setIfInBounds_toArray, List.set_cons_succ, List.set_cons_zero]
    refine wpList_valn (v := .bool false) rfl (exec_pf rfl (ev rfl) evk) ?_
    simp only [Act.put, List.setIfInBounds_toArray, List.set_cons_succ, List.set_cons_zero]
    refine wpList_nil ?_
    go_upto_region 12 with fail
    refine wp_region_lit ?_
    refine wpList_valn (v := .bool false) rfl (exec_mv rfl (ev rfl)) ?_
    simp only [Act.put, List.setIfInBounds_toArray, List.set_cons_succ, List.set_cons_zero]
    refine wpList_valn (v := .bool true) rfl (exec_not false rfl (ev rfl)) ?_
    simp only [Act.put, List.setIfInBounds_toArray, List.set_cons_succ, List.set_cons_zero]
    refine wpList_skips 8 (v := .bool true) rfl (exec_mv rfl (ev rfl)) (by kernel_rfl) ?_
    simp only [skipAct, List.take_succ_cons, List.take_zero, List.drop_succ_cons, List.drop_zero, Act.put, List.setIfInBounds_toArray, List.set_cons_succ, List.set_cons_zero]
    refine wpList_valn (v := .bool true) rfl (exec_pt rfl (ev rfl) evk) ?_
    simp only [Act.put, List.setIfInBounds_toArray, List.set_cons_succ, List.set_cons_zero]
    refine wpList_nil ?_
    go_upto_region 13 with fail
    refine wp_region_lit ?_
    refine wpList_valn rfl (exec_mv rfl (ev rfl)) ?_
    simp only [Act.put, List.setIfInBounds_toArray, List.set_cons_succ, List.set_cons_zero]
    refine wpList_valn rfl (exec_bldP2 rfl evk (ev rfl)) ?_
    simp only [Act.put, List.setIfInBounds_toArray, List.set_cons_succ, List.set_cons_zero]
    refine wpList_nuln rfl (exec_putPl A1 (redR l k false lost).length c1 rfl (ev rfl) (ev rfl) (there_at (o := 0) (n := 2) HP.out (Nat.le_refl _))) ?_
    simp only [Act.put, List.setIfInBounds_toArray, List.set_cons_succ, List.set_cons_zero]
    refine wpList_valn rfl (exec_as rfl evk) ?_
    simp only [Act.put, List.setIfInBounds_toArray, List.set_cons_succ, List.set_cons_zero]
    refine wpList_nil ?_
    go_wp2_with fail
    (try simp only [Exit.inBlock, Exit.then])
    exact bodyPost_ret (res_twoP (cs := plC 3 (.slice A1 (redR l k false lost).length c1)) rfl _ _ B rfl (World.rangeAt_setCells_same _ _ _ _ (there_at (o := 0) (n := 2) HP.out (Nat.le_refl _))) Try.underlying25 rfl (by kernel_rfl)) rfl ⟨.slice A1 (redR l k false lost).length c1, by rw [HVV.out, HEE.out]; rfl, by rw [HRR.out]; exact (MadeE.beside Hv1.out _), below_setCells (b := B) (o := 0) HW.out (Nat.le_refl _) _⟩
  have HX := Lib.hid hh
  have HD1 : Hid (redR l k true lost = redL l k true) := Lib.hid (if_neg (by rw [hh]; decide))
  clear hh
  cases par
  rotate_left 1
  · have HDL : Hid (delL l k true lost = redR l k true lost) := Lib.hid (by unfold delL; rw [HX.out, HD1.out]; rfl)
    go_upto_region 10 with fail
    refine wp_region_lit ?_
    refine wpList_valn (v := .bool true) rfl (exec_mv rfl (ev rfl)) ?_
    simp only [Act.put, List.setIfInBounds_toArray, List.set_cons_succ, List.set_cons_zero]
    refine wpList_valn (v := .bool true) rfl (exec_mv rfl (ev rfl)) ?_
    simp only [Act.put, List.setIfInBounds_toArray, List.set_cons_succ, List.set_cons_zero]
    refine wpList_val (v := .bool true) (wanted_of rfl rfl rfl rfl) (exec_mv rfl (ev rfl)) ?_
    simp only [Act.put, List.setIfInBounds_toArray, List.set_cons_succ, List.set_cons_zero]
    refine wpList_val (v := .bool false) (wanted_of rfl rfl rfl rfl) (exec_not true rfl (ev rfl)) ?_
    simp only [Act.put, List.setIfInBounds_toArray, List.set_cons_succ, List.set_cons_zero]
    refine wpList_valn (v := .bool false) rfl (exec_pt rfl (ev rfl) (ev rfl)) ?_
    simp only [Act.put, List.setIfInBounds_toArray, List.set_cons_succ, List.set_cons_zero]
    refine wpList_nil ?_
    cases hg : hitB l k false lost
    rotate_left 1
    · have HY := Lib.hid hg
      have HRB : Hid (restB l k true lost = false) := Lib.hid (by unfold restB; rw [HX.out, hg]; rfl)
      have HRR : Hid (plR l k true lost = delL l k true lost) := Lib.hid (by rw [HRR0.out, if_neg (by rw [HRB.out]; decide)])
      have HVV : Hid (plW l k true lost = 4) := Lib.hid (by rw [HVV0.out, if_neg (by rw [HRB.out]; decide)])
      clear hg
      go_upto_region 12 with fail
      refine wp_region_lit ?_
      refine wpList_valn (v := .bool true) rfl (exec_mv rfl (ev rfl)) ?_
      simp only [Act.put, List.setIfInBounds_toArray, List.set_cons_succ, List.set_cons_zero]
      refine wpList_valn (v := .bool false) rfl (exec_not true rfl (ev rfl)) ?_
      simp only [Act.put, List.setIfInBounds_toArray, List.set_cons_succ, List.set_cons_zero]
      refine wpList_valn (v := .bool false) rfl (exec_mv rfl (ev rfl)) ?_
      simp only [Act.put, List.setIfInBounds_toArray, List.set_cons_succ, List.set_cons_zero]
      refine wpList_val (v := .bool false) (wanted_of rfl rfl rfl rfl) (exec_mv rfl (ev rfl)) ?_
      simp only [Act.put, List.setIfInBounds_toArray, List.set_cons_succ, List.set_cons_zero]
      refine wpList_skips 5 (v := .bool false) (wanted_of rfl rfl rfl rfl) (exec_mv rfl (ev rfl)) (by kernel_rfl) ?_
      simp only [skipAct, List.take_succ_cons, List.take_zero, List.drop_succ_cons, List.drop_zero, Act.put, List.setIfInBounds_toArray, List.set_cons_succ, List.set_cons_zero]
      refine wpList_val (v := .bool false) (wanted_of rfl rfl rfl rfl) (exec_pf rfl (ev rfl) evk) ?_
      simp only [Act.put, List.setIfInBounds_toArray, List.set_cons_succ, List.set_cons_zero]
      refine wpList_valn (v := .bool false) rfl (exec_pf rfl (ev rfl) (ev rfl)) ?_
      simp only [Act.put, List.setIfInBounds_toArray, List.set_cons_succ, List.set_cons_zero]
      refine wpList_nil ?_
      go_upto_region 14 with fail
      refine wp_region_lit ?_
      refine wpList_valn rfl (exec_mv rfl (ev rfl)) ?_
      simp only [Act.put, List.setIfInBounds_toArray, List.set_cons_succ, List.set_cons_zero]
      refine wpList_valn rfl (exec_bldP2 rfl evk (ev rfl)) ?_
      simp only [Act.put, List.setIfInBounds_toArray, List.set_cons_succ, List.set_cons_zero]
      refine wpList_nuln rfl (exec_putPl A2 (redR l k true lost).length c2 rfl (ev rfl) (ev rfl) (there_at (o := 0) (n := 2) HP.out (Nat.le_refl _))) ?_
      simp only [Act.put, List.setIfInBounds_toArray, List.set_cons_succ, List.set_cons_zero]
      refine wpList_valn rfl (exec_as rfl evk) ?_
      simp only [Act.put, List.setIfInBounds_toArray, List.set_cons_succ, List.set_cons_zero]
      refine wpList_nil ?_
      go_wp2_with fail
      (try simp only [Exit.inBlock, Exit.then])
      exact bodyPost_ret (res_twoP (cs := plC 4 (.slice A2 (redR l k true lost).length c2)) rfl _ _ B rfl (World.rangeAt_setCells_same _ _ _ _ (there_at (o := 0) (n := 2) HP.out (Nat.le_refl _))) Try.underlying25 rfl (by kernel_rfl)) rfl ⟨.slice A2 (redR l k true lost).length c2, by rw [HVV.out, HEE.out]; rfl, by rw [HRR.out]; exact (by rw [HDL.out]; exact MadeE.beside Hv2.out _), below_setCells (b := B) (o := 0) HW.out (Nat.le_refl _) _⟩
    have HY := Lib.hid hg
    clear hg
    by_cases hle : (redR l k false lost).length ≤ (delL l k true lost).length
    · have HLE : Hid (decide (((redR l k false lost).length : Int) ≤ ((redR l k true lost).length : Int)) = true) := Lib.hid (decide_eq_true (by rw [← HDL.out]; omega))
      have HRB : Hid (restB l k true lost = true) := Lib.hid (by unfold restB; rw [HX.out, HY.out, decide_eq_true hle]; rfl)
      have HRR : Hid (plR l k true lost = redR l k false lost) := Lib.hid (by rw [HRR0.out, if_pos HRB.out])
      have HVV : Hid (plW l k true lost = 3) := Lib.hid (by rw [HVV0.out, if_pos HRB.out])
      clear hle
      go_upto_region 12 with fail
      refine wp_region_lit ?_
      refine wpList_valn (v := .bool true) rfl (exec_mv rfl (ev rfl)) ?_
      simp only [Act.put, List.setIfInBounds_toArray, List.set_cons_succ, List.set_cons_zero]
      refine wpList_valn (v := .bool false) rfl (exec_not true rfl (ev rfl)) ?_
      simp only [Act.put, List.setIfInBounds_toArray, List.set_cons_succ, List.set_cons_zero]
      refine wpList_valn (v := .bool false) rfl (exec_mv rfl (ev rfl)) ?_
      simp only [Act.put, List.setIfInBounds_toArray, List.set_cons_succ, List.set_cons_zero]
      refine wpList_val (v := .bool true) (wanted_of rfl rfl rfl rfl) (exec_mv rfl (ev rfl)) ?_
      simp only [Act.put, List.setIfInBounds_toArray, List.set_cons_succ, List.set_cons_zero]
      refine wpList_val (v := .bool true) (wanted_of rfl rfl rfl rfl) (exec_mv rfl (ev rfl)) ?_
      simp only [Act.put, List.setIfInBounds_toArray, List.set_cons_succ, List.set_cons_zero]
      refine wpList_val (wanted_of rfl rfl rfl rfl) (exec_mv rfl (ev rfl)) ?_
      simp only [Act.put, List.setIfInBounds_toArray, List.set_cons_succ, List.set_cons_zero]
      refine wpList_val (wanted_of rfl rfl rfl rfl) (exec_lenQ Try.underlying23 rfl (ev rfl)) ?_
      simp only [Act.put, List.setIfInBounds_toArray, List.set_cons_succ, List.set_cons_zero]
      refine wpList_val (wanted_of rfl rfl rfl rfl) (exec_mv rfl (ev rfl)) ?_
      simp only [Act.put, List.setIfInBounds_toArray, List.set_cons_succ, List.set_cons_zero]
      refine wpList_val (wanted_of rfl rfl rfl rfl) (exec_lenQ Try.underlying23 rfl (ev rfl)) ?_
      simp only [Act.put, List.setIfInBounds_toArray, List.set_cons_succ, List.set_cons_zero]
      refine wpList_val (v := .bool true) (wanted_of rfl rfl rfl rfl) (exec_leq true rfl (ev rfl) (ev rfl) HLE.out) ?_
      simp only [Act.put, List.setIfInBounds_toArray, List.set_cons_succ, List.set_cons_zero]
      refine wpList_val (v := .bool true) (wanted_of rfl rfl rfl rfl) (exec_pt rfl (ev rfl) (ev rfl)) ?_
      simp only [Act.put, List.setIfInBounds_toArray, List.set_cons_succ, List.set_cons_zero]
      refine wpList_valn (v := .bool true) rfl (exec_pf rfl (ev rfl) (ev rfl)) ?_
      simp only [Act.put, List.setIfInBounds_toArray, List.set_cons_succ, List.set_cons_zero]
      refine wpList_nil ?_
      go_upto_region 13 with fail
      refine wp_region_lit ?_
      refine wpList_valn rfl (exec_mv rfl (ev rfl)) ?_
      simp only [Act.put, List.setIfInBounds_toArray, List.set_cons_succ, List.set_cons_zero]
      refine wpList_valn rfl (exec_bldP2 rfl evk (ev rfl)) ?_
      simp only [Act.put, List.setIfInBounds_toArray, List.set_cons_succ, List.set_cons_zero]
      refine wpList_nuln rfl (exec_putPl A1 (redR l k false lost).length c1 rfl (ev rfl) (ev rfl) (there_at (o := 0) (n := 2) HP.out (Nat.le_refl _))) ?_
      simp only [Act.put, List.setIfInBounds_toArray, List.set_cons_succ, List.set_cons_zero]
      refine wpList_valn rfl (exec_as rfl evk) ?_
      simp only [Act.put, List.setIfInBounds_toArray, List.set_cons_succ, List.set_cons_zero]
      refine wpList_nil ?_
      go_wp2_with fail
      (try simp only [Exit.inBlock, Exit.then])
      exact bodyPost_ret (res_twoP (cs := plC 3 (.slice A1 (redR l k false lost).length c1)) rfl _ _ B rfl (World.rangeAt_setCells_same _ _ _ _ (there_at (o := 0) (n := 2) HP.out (Nat.le_refl _))) Try.underlying25 rfl (by kernel_rfl)) rfl ⟨.slice A1 (redR l k false lost).length c1, by rw [HVV.out, HEE.out]; rfl, by rw [HRR.out]; exact (MadeE.beside Hv1.out _), below_setCells (b := B) (o := 0) HW.out (Nat.le_refl _) _⟩
    have HLE : Hid (decide (((redR l k false lost).length : Int) ≤ ((redR l k true lost).length : Int)) = false) := Lib.hid (decide_eq_false (by rw [← HDL.out]; omega))
    have HRB : Hid (restB l k true lost = false) := Lib.hid (by unfold restB; rw [HX.out, HY.out, decide_eq_false hle]; rfl)
    have HRR : Hid (plR l k true lost = delL l k true lost) := Lib.hid (by rw [HRR0.out, if_neg (by rw [HRB.out]; decide)])
    have HVV : Hid (plW l k true lost = 4) := Lib.hid (by rw [HVV0.out, if_neg (by rw [HRB.out]; decide)])
    clear hle
    go_upto_region 12 with fail
    refine wp_region_lit ?_
    refine wpList_valn (v := .bool true) rfl (exec_mv rfl (ev rfl)) ?_
    simp only [Act.put, List.setIfInBounds_toArray, List.set_cons_succ, List.set_cons_zero]
    refine wpList_valn (v := .bool false) rfl (exec_not true rfl (ev rfl)) ?_
    simp only [Act.put, List.setIfInBounds_toArray, List.set_cons_succ, List.set_cons_zero]
    refine wpList_valn (v := .bool false) rfl (exec_mv rfl (ev rfl)) ?_
    simp only [Act.put, List.setIfInBounds_toArray, List.set_cons_succ, List.set_cons_zero]
    refine wpList_val (v := .bool true) (wanted_of rfl rfl rfl rfl) (exec_mv rfl (ev rfl)) ?_
    simp only [Act.put, List.setIfInBounds_toArray, List.set_cons_succ, List.set_cons_zero]
    refine wpList_val (v := .bool true) (wanted_of rfl rfl rfl rfl) (exec_mv rfl (ev rfl)) ?_
    simp only [Act.put, List.setIfInBounds_toArray, List.set_cons_succ, List.set_cons_zero]
    refine wpList_val (wanted_of rfl rfl rfl rfl) (exec_mv rfl (ev rfl)) ?_
    simp only [Act.put, List.setIfInBounds_toArray, List.set_cons_succ, List.set_cons_zero]
    refine wpList_val (wanted_of rfl rfl rfl rfl) (exec_lenQ Try.underlying23 rfl (ev rfl)) ?_
    simp only [Act.put, List.setIfInBounds_toArray, List.set_cons_succ, List.set_cons_zero]
    refine wpList_val (wanted_of rfl rfl rfl rfl) (exec_mv rfl (ev rfl)) ?_
    simp only [Act.put, List.setIfInBounds_toArray, List.set_cons_succ, List.set_cons_zero]
    refine wpList_val (wanted_of rfl rfl rfl rfl) (exec_lenQ Try.underlying23 rfl (ev rfl)) ?_
    simp only [Act.put, List.setIfInBounds_toArray, List.set_cons_succ, List.set_cons_zero]
    refine wpList_val (v := .bool false) (wanted_of rfl rfl rfl rfl) (exec_leq false rfl (ev rfl) (ev rfl) HLE.out) ?_
    simp only [Act.put, List.setIfInBounds_toArray, List.set_cons_succ, List.set_cons_zero]
    refine wpList_val (v := .bool false) (wanted_of rfl rfl rfl rfl) (exec_pt rfl (ev rfl) (ev rfl)) ?_
    simp only [Act.put, List.setIfInBounds_toArray, List.set_cons_succ, List.set_cons_zero]
    refine wpList_valn (v := .bool false) rfl (exec_pf rfl (ev rfl) (ev rfl)) ?_
    simp only [Act.put, List.setIfInBounds_toArray, List.set_cons_succ, List.set_cons_zero]
    refine wpList_nil ?_
    go_upto_region 14 with fail
    refine wp_region_lit ?_
    refine wpList_valn rfl (exec_mv rfl (ev rfl)) ?_
    simp only [Act.put, List.setIfInBounds_toArray, List.set_cons_succ, List.set_cons_zero]
    refine wpList_valn rfl (exec_bldP2 rfl evk (ev rfl)) ?_
    simp only [Act.put, List.setIfInBounds_toArray, List.set_cons_succ, List.set_cons_zero]
    refine wpList_nuln rfl (exec_putPl A2 (redR l k true lost).length c2 rfl (ev rfl) (ev rfl) (there_at (o := 0) (n := 2) HP.out (Nat.le_refl _))) ?_
    simp only [Act.put, List.setIfInBounds_toArray, List.set_cons_succ, List.set_cons_zero]
    refine wpList_valn rfl (exec_as rfl evk) ?_
    simp only [Act.put, List.setIfInBounds_toArray, List.set_cons_succ, List.set_cons_zero]
    refine wpList_nil ?_
    go_wp2_with fail
    (try simp only [Exit.inBlock, Exit.then])
    exact bodyPost_ret (res_twoP (cs := plC 4 (.slice A2 (redR l k true lost).length c2)) rfl _ _ B rfl (World.rangeAt_setCells_same _ _ _ _ (there_at (o := 0) (n := 2) HP.out (Nat.le_refl _))) Try.underlying25 rfl (by kernel_rfl)) rfl ⟨.slice A2 (redR l k true lost).length c2, by rw [HVV.out, HEE.out]; rfl, by rw [HRR.out]; exact (by rw [HDL.out]; exact MadeE.beside Hv2.out _), below_setCells (b := B) (o := 0) HW.out (Nat.le_refl _) _⟩
  have HDL : Hid (delL l k false lost = redR l k true lost ++ [(n : Int)]) := Lib.hid (by unfold delL; rw [HX.out, HD1.out, HLL.out]; rfl)
  have hbl := blk_ltP HP.out
  have hb1 : Below w3.heap.size w3 (w3.alloc (.cells #[.int .i64 (n : Int)] 3)) := (Below.refl _ _).alloc (Nat.le_refl _) _
  have hsz : (w3.alloc (.cells #[.int .i64 (n : Int)] 3)).heap.size = w3.heap.size + 1 := World.size_alloc ..
  have hm2 := MadeE.below Hv2.out hb1
  have hm1 := MadeE.below Hv1.out hb1
  obtain ⟨v3, w4, hrun, hm3, hg3⟩ := run_appE IntE (w3.alloc (.cells #[.int .i64 (n : Int)] 3)) 23 (B + 1) (w3.heap.size + 1) 1 1 (.slice A2 (redR l k true lost).length c2) (redR l k true lost) [(n : Int)] (some ⟨w3.heap.size, 0, none⟩) hm2 (rdE_new (E := IntE) (l := [(n : Int)]) w3 #[.int .i64 (n : Int)] 3 rfl) (by omega) (by
    rw [HD1.out]
    have := redN_len (w := l) (k := k) (o := true) l.length
    have := HN15.out
    have := HLL.out
    show (redN l k true l.length).length + 1 ≤ _
    omega)
  have HRUN := Lib.hid hrun
  have hw4 : Below B w w4 := (HW.out.trans (hb1.mono HBL.out)).grown hg3 (by omega) (fun j' hj' => by have := hm2.lt_own j' hj'; omega)
  have hp4 := (hg3.block B (by omega) (fun e => by have := hm2.lt_own B (by first | exact e | exact e.symm); omega)).trans ((hb1.block B hbl).trans HP.out)
  have hv1 := MadeE.kept hm1 hg3 (by
    rcases hq : (Value.slice A1 (redR l k false lost).length c1).ownBlock with _ | g
    · exact .inl rfl
    · refine .inr fun e => ?_
      have a1 := HV1L.out g hq
      have a2 := HV2B.out g e.symm
      omega)
  obtain ⟨A3, c3, rfl, _, _, _⟩ := hm3.open_ rfl
  have Hv3 := Lib.hid hm3
  clear HW HP Hv1 Hv2 hrun hg3 hm1 hm2 hm3 hb1 hsz hbl
  have HW := Lib.hid hw4
  have HP := Lib.hid hp4
  have Hv1 := Lib.hid hv1
  clear hw4 hp4 hv1
  go_upto_region 10 with fail
  refine wp_region_lit ?_
  refine wpList_valn (v := .bool true) rfl (exec_mv rfl (ev rfl)) ?_
  simp only [Act.put, List.setIfInBounds_toArray, List.set_cons_succ, List.set_cons_zero]
  refine wpList_valn (v := .bool true) rfl (exec_mv rfl (ev rfl)) ?_
  simp only [Act.put, List.setIfInBounds_toArray, List.set_cons_succ, List.set_cons_zero]
  refine wpList_val (v := .bool false) (wanted_of rfl rfl rfl rfl) (exec_mv rfl (ev rfl)) ?_
  simp only [Act.put, List.setIfInBounds_toArray, List.set_cons_succ, List.set_cons_zero]
  refine wpList_val (v := .bool true) (wanted_of rfl rfl rfl rfl) (exec_not false rfl (ev rfl)) ?_
  simp only [Act.put, List.setIfInBounds_toArray, List.set_cons_succ, List.set_cons_zero]
  refine wpList_valn (v := .bool true) rfl (exec_pt rfl (ev rfl) (ev rfl)) ?_
  simp only [Act.put, List.setIfInBounds_toArray, List.set_cons_succ, List.set_cons_zero]
  refine wpList_nil ?_
  go_upto_region 11 with fail
  refine wp_region_lit ?_
  refine wpList_valn rfl (exec_mv rfl (ev rfl)) ?_
  simp only [Act.put, List.setIfInBounds_toArray, List.set_cons_succ, List.set_cons_zero]
  refine wpList_valn rfl (exec_mv rfl (ev rfl)) ?_
  simp only [Act.put, List.setIfInBounds_toArray, List.set_cons_succ, List.set_cons_zero]
  refine wpList_valn rfl (exec_mk1E (E := IntE) (a := (n : Int)) rfl (ev rfl) rfl (by decide)) ?_
  simp only [Act.put, List.setIfInBounds_toArray, List.set_cons_succ, List.set_cons_zero]
  refine wpList_valn rfl (exec_appI rfl (ev rfl) (ev rfl) HRUN.out) ?_
  simp only [Act.put, List.setIfInBounds_toArray, List.set_cons_succ, List.set_cons_zero]
  refine wpList_valn rfl (exec_as rfl (ev rfl)) ?_
  simp only [Act.put, List.setIfInBounds_toArray, List.set_cons_succ, List.set_cons_zero]
  refine wpList_nil ?_
  cases hg : hitB l k false lost
  rotate_left 1
  · have HY := Lib.hid hg
    have HRB : Hid (restB l k false lost = false) := Lib.hid (by unfold restB; rw [HX.out, hg]; rfl)
    have HRR : Hid (plR l k false lost = delL l k false lost) := Lib.hid (by rw [HRR0.out, if_neg (by rw [HRB.out]; decide)])
    have HVV : Hid (plW l k false lost = 4) := Lib.hid (by rw [HVV0.out, if_neg (by rw [HRB.out]; decide)])
    clear hg
    go_upto_region 12 with fail
    refine wp_region_lit ?_
    refine wpList_valn (v := .bool true) rfl (exec_mv rfl (ev rfl)) ?_
    simp only [Act.put, List.setIfInBounds_toArray, List.set_cons_succ, List.set_cons_zero]
    refine wpList_valn (v := .bool false) rfl (exec_not true rfl (ev rfl)) ?_
    simp only [Act.put, List.setIfInBounds_toArray, List.set_cons_succ, List.set_cons_zero]
    refine wpList_valn (v := .bool false) rfl (exec_mv rfl (ev rfl)) ?_
    simp only [Act.put, List.setIfInBounds_toArray, List.set_cons_succ, List.set_cons_zero]
    refine wpList_val (v := .bool false) (wanted_of rfl rfl rfl rfl) (exec_mv rfl (ev rfl)) ?_
    simp only [Act.put, List.setIfInBounds_toArray, List.set_cons_succ, List.set_cons_zero]
    refine wpList_skips 5 (v := .bool false) (wanted_of rfl rfl rfl rfl) (exec_mv rfl (ev rfl)) (by kernel_rfl) ?_
    simp only [skipAct, List.take_succ_cons, List.take_zero, List.drop_succ_cons, List.drop_zero, Act.put, List.setIfInBounds_toArray, List.set_cons_succ, List.set_cons_zero]
    refine wpList_val (v := .bool false) (wanted_of rfl rfl rfl rfl) (exec_pf rfl (ev rfl) evk) ?_
    simp only [Act.put, List.setIfInBounds_toArray, List.set_cons_succ, List.set_cons_zero]
    refine wpList_valn (v := .bool false) rfl (exec_pf rfl (ev rfl) (ev rfl)) ?_
    simp only [Act.put, List.setIfInBounds_toArray, List.set_cons_succ, List.set_cons_zero]
    refine wpList_nil ?_
    go_upto_region 14 with fail
    refine wp_region_lit ?_
    refine wpList_valn rfl (exec_mv rfl (ev rfl)) ?_
    simp only [Act.put, List.setIfInBounds_toArray, List.set_cons_succ, List.set_cons_zero]
    refine wpList_valn rfl (exec_bldP2 rfl evk (ev rfl)) ?_
    simp only [Act.put, List.setIfInBounds_toArray, List.set_cons_succ, List.set_cons_zero]
    refine wpList_nuln rfl (exec_putPl A3 (redR l k true lost ++ [(n : Int)]).length c3 rfl (ev rfl) (ev rfl) (there_at (o := 0) (n := 2) HP.out (Nat.le_refl _))) ?_
    simp only [Act.put, List.setIfInBounds_toArray, List.set_cons_succ, List.set_cons_zero]
    refine wpList_valn rfl (exec_as rfl evk) ?_
    simp only [Act.put, List.setIfInBounds_toArray, List.set_cons_succ, List.set_cons_zero]
    refine wpList_nil ?_
    go_wp2_with fail
    (try simp only [Exit.inBlock, Exit.then])
    exact bodyPost_ret (res_twoP (cs := plC 4 (.slice A3 (redR l k true lost ++ [(n : Int)]).length c3)) rfl _ _ B rfl (World.rangeAt_setCells_same _ _ _ _ (there_at (o := 0) (n := 2) HP.out (Nat.le_refl _))) Try.underlying25 rfl (by kernel_rfl)) rfl ⟨.slice A3 (redR l k true lost ++ [(n : Int)]).length c3, by rw [HVV.out, HEE.out]; rfl, by rw [HRR.out]; exact (by rw [HDL.out]; exact MadeE.beside Hv3.out _), below_setCells (b := B) (o := 0) HW.out (Nat.le_refl _) _⟩
  have HY := Lib.hid hg
  clear hg
  by_cases hle : (redR l k false lost).length ≤ (delL l k false lost).length
  · have HLE : Hid (decide (((redR l k false lost).length : Int) ≤ ((redR l k true lost ++ [(n : Int)]).length : Int)) = true) := Lib.hid (decide_eq_true (by rw [← HDL.out]; omega))
    have HRB : Hid (restB l k false lost = true) := Lib.hid (by unfold restB; rw [HX.out, HY.out, decide_eq_true hle]; rfl)
    have HRR : Hid (plR l k false lost = redR l k false lost) := Lib.hid (by rw [HRR0.out, if_pos HRB.out])
    have HVV : Hid (plW l k false lost = 3) := Lib.hid (by rw [HVV0.out, if_pos HRB.out])
    clear hle
    go_upto_region 12 with fail
    refine wp_region_lit ?_
    refine wpList_valn (v := .bool true) rfl (exec_mv rfl (ev rfl)) ?_
    simp only [Act.put, List.setIfInBounds_toArray, List.set_cons_succ, List.set_cons_zero]
    refine wpList_valn (v := .bool false) rfl (exec_not true rfl (ev rfl)) ?_
    simp only [Act.put, List.setIfInBounds_toArray, List.set_cons_succ, List.set_cons_zero]
    refine wpList_valn (v := .bool false) rfl (exec_mv rfl (ev rfl)) ?_
    simp only [Act.put, List.setIfInBounds_toArray, List.set_cons_succ, List.set_cons_zero]
    refine wpList_val (v := .bool true) (wanted_of rfl rfl rfl rfl) (exec_mv rfl (ev rfl)) ?_
    simp only [Act.put, List.setIfInBounds_toArray, List.set_cons_succ, List.set_cons_zero]
    refine wpList_val (v := .bool true) (wanted_of rfl rfl rfl rfl) (exec_mv rfl (ev rfl)) ?_
    simp only [Act.put, List.setIfInBounds_toArray, List.set_cons_succ, List.set_cons_zero]
    refine wpList_val (wanted_of rfl rfl rfl rfl) (exec_mv rfl (ev rfl)) ?_
    simp only [Act.put, List.setIfInBounds_toArray, List.set_cons_succ, List.set_cons_zero]
    refine wpList_val (wanted_of rfl rfl rfl rfl) (exec_lenQ Try.underlying23 rfl (ev rfl)) ?_
    simp only [Act.put, List.setIfInBounds_toArray, List.set_cons_succ, List.set_cons_zero]
    refine wpList_val (wanted_of rfl rfl rfl rfl) (exec_mv rfl (ev rfl)) ?_
    simp only [Act.put, List.setIfInBounds_toArray, List.set_cons_succ, List.set_cons_zero]
    refine wpList_val (wanted_of rfl rfl rfl rfl) (exec_lenQ Try.underlying23 rfl (ev rfl)) ?_
    simp only [Act.put, List.setIfInBounds_toArray, List.set_cons_succ, List.set_cons_zero]
    refine wpList_val (v := .bool true) (wanted_of rfl rfl rfl rfl) (exec_leq true rfl (ev rfl) (ev rfl) HLE.out) ?_
    simp only [Act.put, List.setIfInBounds_toArray, List.set_cons_succ, List.set_cons_zero]
    refine wpList_val (v := .bool true) (wanted_of rfl rfl rfl rfl) (exec_pt rfl (ev rfl) (ev rfl)) ?_
    simp only [Act.put, List.setIfInBounds_toArray, List.set_cons_succ, List.set_cons_zero]
    refine wpList_valn (v := .bool true) rfl (exec_pf rfl (ev rfl) (ev rfl)) ?_
    simp only [Act.put, List.setIfInBounds_toArray, List.set_cons_succ, List.set_cons_zero]
    refine wpList_nil ?_
    go_upto_region 13 with fail
    refine wp_region_lit ?_
    refine wpList_valn rfl (exec_mv rfl (ev rfl)) ?_
    simp only [Act.put, List.setIfInBounds_toArray, List.set_cons_succ, List.set_cons_zero]
    refine wpList_valn rfl (exec_bldP2 rfl evk (ev rfl)) ?_
    simp only [Act.put, List.setIfInBounds_toArray, List.set_cons_succ, List.set_cons_zero]
    refine wpList_nuln rfl (exec_putPl A1 (redR l k false lost).length c1 rfl (ev rfl) (ev rfl) (there_at (o := 0) (n := 2) HP.out (Nat.le_refl _))) ?_
    simp only [Act.put, List.setIfInBounds_toArray, List.set_cons_succ, List.set_cons_zero]
    refine wpList_valn rfl (exec_as rfl evk) ?_
    simp only [Act.put, List.setIfInBounds_toArray, List.set_cons_succ, List.set_cons_zero]
    refine wpList_nil ?_
    go_wp2_with fail
    (try simp only [Exit.inBlock, Exit.then])
    exact bodyPost_ret (res_twoP (cs := plC 3 (.slice A1 (redR l k false lost).length c1)) rfl _ _ B rfl (World.rangeAt_setCells_same _ _ _ _ (there_at (o := 0) (n := 2) HP.out (Nat.le_refl _))) Try.underlying25 rfl (by kernel_rfl)) rfl ⟨.slice A1 (redR l k false lost).length c1, by rw [HVV.out, HEE.out]; rfl, by rw [HRR.out]; exact (MadeE.beside Hv1.out _), below_setCells (b := B) (o := 0) HW.out (Nat.le_refl _) _⟩
  have HLE : Hid (decide (((redR l k false lost).length : Int) ≤ ((redR l k true lost ++ [(n : Int)]).length : Int)) = false) := Lib.hid (decide_eq_false (by rw [← HDL.out]; omega))
  have HRB : Hid (restB l k false lost = false) := Lib.hid (by unfold restB; rw [HX.out, HY.out, decide_eq_false hle]; rfl)
  have HRR : Hid (plR l k false lost = delL l k false lost) := Lib.hid (by rw [HRR0.out, if_neg (by rw [HRB.out]; decide)])
  have HVV : Hid (plW l k false lost = 4) := Lib.hid (by rw [HVV0.out, if_neg (by rw [HRB.out]; decide)])
  clear hle
  go_upto_region 12 with fail
  refine wp_region_lit ?_
  refine wpList_valn (v := .bool true) rfl (exec_mv rfl (ev rfl)) ?_
  simp only [Act.put, List.setIfInBounds_toArray, List.set_cons_succ, List.set_cons_zero]
  refine wpList_valn (v := .bool false) rfl (exec_not true rfl (ev rfl)) ?_
  simp only [Act.put, List.setIfInBounds_toArray, List.set_cons_succ, List.set_cons_zero]
  refine wpList_valn (v := .bool false) rfl (exec_mv rfl (ev rfl)) ?_
  simp only [Act.put, List.setIfInBounds_toArray, List.set_cons_succ, List.set_cons_zero]
  refine wpList_val (v := .bool true) (wanted_of rfl rfl rfl rfl) (exec_mv rfl (ev rfl)) ?_
  simp only [Act.put, List.setIfInBounds_toArray, List.set_cons_succ, List.set_cons_zero]
  refine wpList_val (v := .bool true) (wanted_of rfl rfl rfl rfl) (exec_mv rfl (ev rfl)) ?_
  simp only [Act.put, List.setIfInBounds_toArray, List.set_cons_succ, List.set_cons_zero]
  refine wpList_val (wanted_of rfl rfl rfl rfl) (exec_mv rfl (ev rfl)) ?_
  simp only [Act.put, List.setIfInBounds_toArray, List.set_cons_succ, List.set_cons_zero]
  refine wpList_val (wanted_of rfl rfl rfl rfl) (exec_lenQ Try.underlying23 rfl (ev rfl)) ?_
  simp only [Act.put, List.setIfInBounds_toArray, List.set_cons_succ, List.set_cons_zero]
  refine wpList_val (wanted_of rfl rfl rfl rfl) (exec_mv rfl (ev rfl)) ?_
  simp only [Act.put, List.setIfInBounds_toArray, List.set_cons_succ, List.set_cons_zero]
  refine wpList_val (wanted_of rfl rfl rfl rfl) (exec_lenQ Try.underlying23 rfl (ev rfl)) ?_
  simp only [Act.put, List.setIfInBounds_toArray, List.set_cons_succ, List.set_cons_zero]
  refine wpList_val (v := .bool false) (wanted_of rfl rfl rfl rfl) (exec_leq false rfl (ev rfl) (ev rfl) HLE.out) ?_
  simp only [Act.put, List.setIfInBounds_toArray, List.set_cons_succ, List.set_cons_zero]
  refine wpList_val (v := .bool false) (wanted_of rfl rfl rfl rfl) (exec_pt rfl (ev rfl) (ev rfl)) ?_
  simp only [Act.put, List.setIfInBounds_toArray, List.set_cons_succ, List.set_cons_zero]
  refine wpList_valn (v := .bool false) rfl (exec_pf rfl (ev rfl) (ev rfl)) ?_
  simp only [Act.put, List.setIfInBounds_toArray, List.set_cons_succ, List.set_cons_zero]
  refine wpList_nil ?_
  go_upto_region 14 with fail
  refine wp_region_lit ?_
  refine wpList_valn rfl (exec_mv rfl (ev rfl)) ?_
  simp only [Act.put, List.setIfInBounds_toArray, List.set_cons_succ, List.set_cons_zero]
  refine wpList_valn rfl (exec_bldP2 rfl evk (ev rfl)) ?_
  simp only [Act.put, List.setIfInBounds_toArray, List.set_cons_succ, List.set_cons_zero]
  refine wpList_nuln rfl (exec_putPl A3 (redR l k true lost ++ [(n : Int)]).length c3 rfl (ev rfl) (ev rfl) (there_at (o := 0) (n := 2) HP.out (Nat.le_refl _))) ?_
  simp only [Act.put, List.setIfInBounds_toArray, List.set_cons_succ, List.set_cons_zero]
  refine wpList_valn rfl (exec_as rfl evk) ?_
  simp only [Act.put, List.setIfInBounds_toArray, List.set_cons_succ, List.set_cons_zero]
  refine wpList_nil ?_
  go_wp2_with fail
  (try simp only [Exit.inBlock, Exit.then])
  exact bodyPost_ret (res_twoP (cs := plC 4 (.slice A3 (redR l k true lost ++ [(n : Int)]).length c3)) rfl _ _ B rfl (World.rangeAt_setCells_same _ _ _ _ (there_at (o := 0) (n := 2) HP.out (Nat.le_refl _))) Try.underlying25 rfl (by kernel_rfl)) rfl ⟨.slice A3 (redR l k true lost ++ [(n : Int)]).length c3, by rw [HVV.out, HEE.out]; rfl, by rw [HRR.out]; exact (by rw [HDL.out]; exact MadeE.beside Hv3.out _), below_setCells (b := B) (o := 0) HW.out (Nat.le_refl _) _⟩
end Go.Proofs.Ytplanbjjfaihbaa
