/-
  LineStays: what is known is not learned anew, what was set is told. LineNil: none, and a zero one.
-/
import Derived.Test.YtmhcpiafhbnclaaLnC
import Derived.Test.YtmhcpiafhbnclaaBlkE
namespace Go.Proofs.Ytmhcpiafhbnclaa
open Go.RowKit
set_option linter.unusedVariables false
set_option linter.unusedSimpArgs false
set_option maxRecDepth 100000

def stS (k : Nat) (c : LC) (f : Nat) : LnS := ⟨(List.replicate 16 lc0).set k c, f⟩
theorem rep_at (k : Nat) : (List.replicate 16 lc0).getD k lc0 = lc0 := by
  rw [List.getD, List.getElem?_replicate]
  split <;> rfl
section
variable {k f q : Nat} {c : LC} {b : Blk}
theorem st_len : (stS k c f).l.length = 16 := by
  show ((List.replicate 16 lc0).set k c).length = 16
  rw [List.length_set, List.length_replicate]
theorem st_at (hk : k < 16) : lnAt (stS k c f) k = c := by
  unfold lnAt stS
  rw [getD_set_ _ _ _ _ _ (by rw [List.length_replicate]; exact hk), if_pos rfl]
theorem st_new (hk : k < 16) (b : Blk) : lnE (lnNew 16) (k : Int) = 0 ∧ lnLrn (lnNew 16) (k : Int) b = stS k ⟨true, false, b⟩ 0 := by
  have hl : k < (lnNew 16).l.length := by show k < (List.replicate 16 lc0).length; rw [List.length_replicate]; exact hk
  refine ⟨lnE_ok hl, ?_⟩
  rw [lnLrn_new hl (by rw [show lnAt (lnNew 16) k = lc0 from rep_at k]; rfl)]
  rfl
theorem st_known (hk : k < 16) (hc : c.kn = true) (b : Blk) : lnE (stS k c f) (k : Int) = 0 ∧ lnLrn (stS k c f) (k : Int) b = stS k c f :=
  ⟨lnE_ok (by rw [st_len]; exact hk), lnLrn_old (by rw [st_len]; exact hk) (by rw [st_at hk]; exact hc)⟩
theorem st_get (hk : k < 16) : lnG (stS k c f) (k : Int) = c := by rw [lnG_ok (by rw [st_len]; exact hk), st_at hk]
theorem st_set (hk : k < 16) (hq : q ≠ 0) (b : Blk) : lnSE (stS k c f) (k : Int) q = 0 ∧ lnSet (stS k c f) (k : Int) b q = stS k ⟨true, true, b⟩ (minF f q) := by
  refine ⟨lnSE_ok (by rw [st_len]; exact hk) hq, ?_⟩
  rw [lnSet_ok (by rw [st_len]; exact hk) hq]
  unfold stS
  rw [List.set_set]
theorem st_cln : lnCln (stS k c f) = stS k (lcC c) 0 := by
  unfold lnCln stS
  rw [List.map_set, List.map_replicate]
  rfl
theorem drtN_one {l : List LC} {k : Nat} (h : ∀ j, j ≠ k → (l.getD j lc0).dt = false) : ∀ n, drtN l n = if k < n ∧ (l.getD k lc0).dt = true then [(k : Int)] else []
  | 0 => by simp [drtN]
  | n + 1 => by
    rw [drtN, drtN_one h n]
    by_cases e : n = k
    · subst e
      by_cases hd : (l.getD n lc0).dt = true
      · rw [if_neg (by omega), if_pos hd, if_pos ⟨by omega, hd⟩]; rfl
      · rw [if_neg (by omega), if_neg hd, if_neg (fun x => hd x.2)]; rfl
    · rw [show (l.getD n lc0).dt = false from h n e, if_neg Bool.false_ne_true, List.append_nil]
      by_cases hk : k < n
      · by_cases hd : (l.getD k lc0).dt = true
        · rw [if_pos ⟨hk, hd⟩, if_pos ⟨by omega, hd⟩]
        · rw [if_neg (fun x => hd x.2), if_neg (fun x => hd x.2)]
      · rw [if_neg (fun x => hk x.1), if_neg (fun x => by have := x.1; omega)]
theorem st_drt (hk : k < 16) : lnD (stS k c f) = if c.dt = true then [(k : Int)] else [] := by
  unfold lnD
  rw [drtN_one (k := k) (fun j hj => by
    unfold stS
    rw [getD_set_ _ _ _ _ _ (by rw [List.length_replicate]; exact hk), if_neg hj, rep_at]; rfl), st_len, show ((stS k c f).l.getD k lc0) = c from st_at hk]
  by_cases hd : c.dt = true
  · rw [if_pos hd, if_pos ⟨hk, hd⟩]
  · rw [if_neg hd, if_neg (fun x => hd x.2)]
end
theorem LnI.setB {C : LnI} {w : World} {B p x : Nat} {s : LnS} {cs : Array Value} {vs : List Value} (h : C.P w B p s) (hb : w.heap[x]? = some (.cells cs 33 (0, 0))) : C.P (w.setCells x 0 vs) B p s := C.keep h fun b o ho hI => by
  rw [blk_setCells x vs 0 w b (fun e => by subst e; rw [hb] at ho; cases ho; exact C.own _ _ _ (.inr (.inl rfl)) hI)]
  exact ho
set_option maxHeartbeats 8000000 in
theorem wlineStays (C : LnI) (t : Nat) (ht : t < 256) (a b c : Blk) (Q : Nat) (hQ : Q < 18446744073709551616) (cl : Bool) (w : World) :
    Calls Try.prog 5 #[.int .u8 (t : Int), blk a, blk b, blk c, .int .u64 (Q : Int), .bool cl] w fun e w' => e = .returned (.bool true) ∧ Below w.heap.size w w' := by
  obtain ⟨m, hm⟩ : ∃ m, t % 16 = m := ⟨_, rfl⟩
  have HK : Hid (m < 16) := Lib.hid (by omega)
  have HRM : Hid ((t : Int).tmod 16 = (m : Int)) := Lib.hid (by rw [← hm]; rfl)
  have HCV : Hid (IntKind.i64.wrap (m : Int) = (m : Int)) := Lib.hid (IntWalk.i64_in _ ⟨by omega, by omega⟩)
  have HQ := Lib.hid hQ
  have HW0 : Hid (Below w.heap.size w w) := Lib.hid (Below.refl _ _)
  clear ht hQ hm
  go_enter Try.func5, Try.ntmps5
  go_upto_region 0 with fail
  refine wp_region_lit ?_
  refine wpList_valn rfl (exec_box rfl (ev rfl)) ?_
  simp only [Act.put, List.setIfInBounds_toArray, List.set_cons_succ, List.set_cons_zero]
  have hbx := (Below.refl w.heap.size w).alloc (Nat.le_refl _) (.cells (cel a).toArray 33)
  have A1 := Lib.hid (heap_alloc_new w (.cells (cel a).toArray 33))
  have HW1 := Lib.hid (HW0.out.trans (hbx.mono HW0.out.size))
  clear hbx
  generalize w.alloc (.cells (cel a).toArray 33) = w1 at *
  refine wpList_valn rfl (exec_box rfl (ev rfl)) ?_
  simp only [Act.put, List.setIfInBounds_toArray, List.set_cons_succ, List.set_cons_zero]
  have hbx := (Below.refl w1.heap.size w1).alloc (Nat.le_refl _) (.cells (cel b).toArray 33)
  have A2 := Lib.hid (blk_keep A1.out hbx)
  have B2 := Lib.hid (heap_alloc_new w1 (.cells (cel b).toArray 33))
  have HW2 := Lib.hid (HW1.out.trans (hbx.mono HW1.out.size))
  clear hbx
  generalize w1.alloc (.cells (cel b).toArray 33) = w2 at *
  refine wpList_valn rfl (exec_box rfl (ev rfl)) ?_
  simp only [Act.put, List.setIfInBounds_toArray, List.set_cons_succ, List.set_cons_zero]
  have hbx := (Below.refl w2.heap.size w2).alloc (Nat.le_refl _) (.cells (cel c).toArray 33)
  have A3 := Lib.hid (blk_keep A2.out hbx)
  have B3 := Lib.hid (blk_keep B2.out hbx)
  have D3 := Lib.hid (heap_alloc_new w2 (.cells (cel c).toArray 33))
  have HW3 := Lib.hid (HW2.out.trans (hbx.mono HW2.out.size))
  clear hbx
  generalize w2.alloc (.cells (cel c).toArray 33) = w3 at *
  refine wpList_valn (v := .bool false) rfl (exec_as rfl evk) ?_
  simp only [Act.put, List.setIfInBounds_toArray, List.set_cons_succ, List.set_cons_zero]
  refine wpList_nil ?_
  go_upto_region 1 with fail
  refine wp_region_lit ?_
  refine wpList_call rfl (exec_cl Try.call7 rfl (evc evk evn)) ?_
  refine (C.new_ok 16 w3 (by omega) (by omega)).mono ?_
  rintro e w4 ⟨p, rfl, p1, b3⟩
  have A4 := Lib.hid (blk_keep A3.out b3)
  have B4 := Lib.hid (blk_keep B3.out b3)
  have D4 := Lib.hid (blk_keep D3.out b3)
  have HP4 := Lib.hid p1
  have HW4 := Lib.hid (HW3.out.trans (b3.mono HW3.out.size))
  clear p1 b3
  refine ⟨_, rfl, ?_⟩
  simp only [Act.put, List.setIfInBounds_toArray, List.set_cons_succ, List.set_cons_zero]
  refine wpList_valn rfl (exec_mv rfl (ev rfl)) ?_
  simp only [Act.put, List.setIfInBounds_toArray, List.set_cons_succ, List.set_cons_zero]
  refine wpList_valn rfl (exec_ext rfl (ev rfl) rfl) ?_
  simp only [Act.put, List.setIfInBounds_toArray, List.set_cons_succ, List.set_cons_zero]
  refine wpList_valn rfl (exec_ext rfl (ev rfl) rfl) ?_
  simp only [Act.put, List.setIfInBounds_toArray, List.set_cons_succ, List.set_cons_zero]
  refine wpList_valn rfl (exec_as rfl (ev rfl)) ?_
  simp only [Act.put, List.setIfInBounds_toArray, List.set_cons_succ, List.set_cons_zero]
  refine wpList_valn rfl (exec_as rfl (ev rfl)) ?_
  simp only [Act.put, List.setIfInBounds_toArray, List.set_cons_succ, List.set_cons_zero]
  refine wpList_nil ?_
  go_upto_region 2 with fail
  refine wp_region_lit ?_
  refine wpList_valn rfl (exec_mv rfl (ev rfl)) ?_
  simp only [Act.put, List.setIfInBounds_toArray, List.set_cons_succ, List.set_cons_zero]
  refine wpList_valn rfl (exec_rem8 rfl (ev rfl) evk (by decide) HRM.out) ?_
  simp only [Act.put, List.setIfInBounds_toArray, List.set_cons_succ, List.set_cons_zero]
  refine wpList_valn rfl (exec_cv8 rfl (ev rfl) HCV.out) ?_
  simp only [Act.put, List.setIfInBounds_toArray, List.set_cons_succ, List.set_cons_zero]
  refine wpList_valn rfl (exec_as rfl (ev rfl)) ?_
  simp only [Act.put, List.setIfInBounds_toArray, List.set_cons_succ, List.set_cons_zero]
  refine wpList_nil ?_
  go_upto_region 3 with fail
  refine wp_region_lit ?_
  refine wpList_valn rfl (exec_mv rfl (ev rfl)) ?_
  simp only [Act.put, List.setIfInBounds_toArray, List.set_cons_succ, List.set_cons_zero]
  refine wpList_valn (v := .bool false) rfl (exec_neInt false rfl (ev rfl) evk rfl) ?_
  simp only [Act.put, List.setIfInBounds_toArray, List.set_cons_succ, List.set_cons_zero]
  refine wpList_valn (v := .bool false) rfl (exec_mv rfl (ev rfl)) ?_
  simp only [Act.put, List.setIfInBounds_toArray, List.set_cons_succ, List.set_cons_zero]
  refine wpList_val (wanted_of rfl rfl rfl rfl) (exec_mv rfl (ev rfl)) ?_
  simp only [Act.put, List.setIfInBounds_toArray, List.set_cons_succ, List.set_cons_zero]
  refine wpList_val (wanted_of rfl rfl rfl rfl) (exec_mv rfl (ev rfl)) ?_
  simp only [Act.put, List.setIfInBounds_toArray, List.set_cons_succ, List.set_cons_zero]
  refine wpList_val (wanted_of rfl rfl rfl rfl) (exec_load rfl (ev rfl) (blk_range A4.out)) ?_
  simp only [Act.put, List.setIfInBounds_toArray, List.set_cons_succ, List.set_cons_zero]
  refine wpList_call (wanted_of rfl rfl rfl rfl) (exec_cl Try.call12 rfl (evc (ev rfl) (evc (ev rfl) (evc (ev rfl) evn)))) ?_
  refine (LnI.learn_v HP4.out (st_new HK.out a).1 (st_new HK.out a).2).mono ?_
  rintro e w5 ⟨rfl, p3, t3⟩
  have A5 := Lib.hid (t3.keep A4.out (C.own _ _ _ (.inr (.inl rfl))))
  have B5 := Lib.hid (t3.keep B4.out (C.own _ _ _ (.inr (.inl rfl))))
  have D5 := Lib.hid (t3.keep D4.out (C.own _ _ _ (.inr (.inl rfl))))
  have HW5 := Lib.hid (Turn.below HW4.out (t3.base HW3.out.size) HW4.out.size)
  have HP5 := Lib.hid p3
  clear p3 t3
  refine ⟨_, rfl, ?_⟩
  simp only [Act.put, List.setIfInBounds_toArray, List.set_cons_succ, List.set_cons_zero]
  refine wpList_val (v := .bool false) (wanted_of rfl rfl rfl rfl) (exec_neInt false rfl (ev rfl) evk rfl) ?_
  simp only [Act.put, List.setIfInBounds_toArray, List.set_cons_succ, List.set_cons_zero]
  refine wpList_valn (v := .bool false) rfl (exec_pf rfl (ev rfl) (ev rfl)) ?_
  simp only [Act.put, List.setIfInBounds_toArray, List.set_cons_succ, List.set_cons_zero]
  refine wpList_valn (v := .bool false) rfl (exec_mv rfl (ev rfl)) ?_
  simp only [Act.put, List.setIfInBounds_toArray, List.set_cons_succ, List.set_cons_zero]
  refine wpList_val (wanted_of rfl rfl rfl rfl) (exec_mv rfl (ev rfl)) ?_
  simp only [Act.put, List.setIfInBounds_toArray, List.set_cons_succ, List.set_cons_zero]
  refine wpList_val (wanted_of rfl rfl rfl rfl) (exec_mv rfl (ev rfl)) ?_
  simp only [Act.put, List.setIfInBounds_toArray, List.set_cons_succ, List.set_cons_zero]
  refine wpList_val (wanted_of rfl rfl rfl rfl) (exec_load rfl (ev rfl) (blk_range B5.out)) ?_
  simp only [Act.put, List.setIfInBounds_toArray, List.set_cons_succ, List.set_cons_zero]
  refine wpList_call (wanted_of rfl rfl rfl rfl) (exec_cl Try.call12 rfl (evc (ev rfl) (evc (ev rfl) (evc (ev rfl) evn)))) ?_
  refine (LnI.learn_v HP5.out (st_known HK.out rfl b).1 (st_known HK.out rfl b).2).mono ?_
  rintro e w6 ⟨rfl, p3, t3⟩
  have A6 := Lib.hid (t3.keep A5.out (C.own _ _ _ (.inr (.inl rfl))))
  have B6 := Lib.hid (t3.keep B5.out (C.own _ _ _ (.inr (.inl rfl))))
  have D6 := Lib.hid (t3.keep D5.out (C.own _ _ _ (.inr (.inl rfl))))
  have HW6 := Lib.hid (Turn.below HW5.out (t3.base HW3.out.size) HW5.out.size)
  have HP6 := Lib.hid p3
  clear p3 t3
  refine ⟨_, rfl, ?_⟩
  simp only [Act.put, List.setIfInBounds_toArray, List.set_cons_succ, List.set_cons_zero]
  refine wpList_val (v := .bool false) (wanted_of rfl rfl rfl rfl) (exec_neInt false rfl (ev rfl) evk rfl) ?_
  simp only [Act.put, List.setIfInBounds_toArray, List.set_cons_succ, List.set_cons_zero]
  refine wpList_valn (v := .bool false) rfl (exec_pf rfl (ev rfl) (ev rfl)) ?_
  simp only [Act.put, List.setIfInBounds_toArray, List.set_cons_succ, List.set_cons_zero]
  refine wpList_nil ?_
  go_upto_region 5 with fail
  refine wp_region_lit ?_
  refine wpList_valn rfl (exec_mv rfl (ev rfl)) ?_
  simp only [Act.put, List.setIfInBounds_toArray, List.set_cons_succ, List.set_cons_zero]
  refine wpList_valn rfl (exec_mv rfl (ev rfl)) ?_
  simp only [Act.put, List.setIfInBounds_toArray, List.set_cons_succ, List.set_cons_zero]
  refine wpList_call rfl (exec_cl Try.call17 rfl (evc (ev rfl) (evc (ev rfl) evn))) ?_
  refine (LnI.get_v HP6.out (st_get HK.out)).mono ?_
  rintro e w7 ⟨rfl, b3⟩
  have A7 := Lib.hid (blk_keep A6.out b3)
  have B7 := Lib.hid (blk_keep B6.out b3)
  have D7 := Lib.hid (blk_keep D6.out b3)
  have HW7 := Lib.hid (HW6.out.trans (b3.mono HW6.out.size))
  have HP7 := Lib.hid (LnI.below HP6.out b3)
  clear b3
  refine ⟨_, rfl, ?_⟩
  simp only [Act.put, List.setIfInBounds_toArray, List.set_cons_succ, List.set_cons_zero]
  refine wpList_valn rfl (exec_mv rfl (ev rfl)) ?_
  simp only [Act.put, List.setIfInBounds_toArray, List.set_cons_succ, List.set_cons_zero]
  refine wpList_valn rfl (exec_ext rfl (ev rfl) rfl) ?_
  simp only [Act.put, List.setIfInBounds_toArray, List.set_cons_succ, List.set_cons_zero]
  refine wpList_valn (v := .bool true) rfl (exec_ext rfl (ev rfl) rfl) ?_
  simp only [Act.put, List.setIfInBounds_toArray, List.set_cons_succ, List.set_cons_zero]
  refine wpList_valn rfl (exec_alloc rfl) ?_
  simp only [Act.put, List.setIfInBounds_toArray, List.set_cons_succ, List.set_cons_zero]
  refine wpList_nuln rfl (exec_fillN (c := a) rfl (ev rfl) (ev rfl)) ?_
  simp only [Act.put, List.setIfInBounds_toArray, List.set_cons_succ, List.set_cons_zero]
  have hbx := (Below.refl w7.heap.size w7).alloc (Nat.le_refl _) (.cells (cel a).toArray 33)
  have A8 := Lib.hid (blk_keep A7.out hbx)
  have B8 := Lib.hid (blk_keep B7.out hbx)
  have D8 := Lib.hid (blk_keep D7.out hbx)
  have E8 := Lib.hid (heap_alloc_new w7 (.cells (cel a).toArray 33))
  have HW8 := Lib.hid (HW7.out.trans (hbx.mono HW7.out.size))
  have HP8 := Lib.hid (LnI.below HP7.out hbx)
  clear hbx
  generalize w7.alloc (.cells (cel a).toArray 33) = w8 at *
  refine wpList_valn (v := .bool true) rfl (exec_as rfl (ev rfl)) ?_
  simp only [Act.put, List.setIfInBounds_toArray, List.set_cons_succ, List.set_cons_zero]
  refine wpList_nil ?_
  go_upto_region 6 with fail
  refine wp_region_lit ?_
  refine wpList_valn rfl (exec_load rfl (ev rfl) (blk_range E8.out)) ?_
  simp only [Act.put, List.setIfInBounds_toArray, List.set_cons_succ, List.set_cons_zero]
  refine wpList_valn rfl (exec_load rfl (ev rfl) (blk_range A8.out)) ?_
  simp only [Act.put, List.setIfInBounds_toArray, List.set_cons_succ, List.set_cons_zero]
  refine wpList_valn (v := .bool false) rfl (exec_neqB false rfl (ev rfl) (ev rfl) (by simp)) ?_
  simp only [Act.put, List.setIfInBounds_toArray, List.set_cons_succ, List.set_cons_zero]
  refine wpList_valn (v := .bool false) rfl (exec_mv rfl (ev rfl)) ?_
  simp only [Act.put, List.setIfInBounds_toArray, List.set_cons_succ, List.set_cons_zero]
  refine wpList_val (v := .bool true) (wanted_of rfl rfl rfl rfl) (exec_mv rfl (ev rfl)) ?_
  simp only [Act.put, List.setIfInBounds_toArray, List.set_cons_succ, List.set_cons_zero]
  refine wpList_val (v := .bool false) (wanted_of rfl rfl rfl rfl) (exec_not true rfl (ev rfl)) ?_
  simp only [Act.put, List.setIfInBounds_toArray, List.set_cons_succ, List.set_cons_zero]
  refine wpList_valn (v := .bool false) rfl (exec_pf rfl (ev rfl) (ev rfl)) ?_
  simp only [Act.put, List.setIfInBounds_toArray, List.set_cons_succ, List.set_cons_zero]
  refine wpList_nil ?_
  by_cases hq : Q = 0
  · subst hq
    have HZQ : Hid ((((0 : Nat) : Int) == 0) = true) := Lib.hid rfl
    go_upto_region 8 with fail
    refine wp_region_lit ?_
    refine wpList_valn rfl (exec_mv rfl (ev rfl)) ?_
    simp only [Act.put, List.setIfInBounds_toArray, List.set_cons_succ, List.set_cons_zero]
    refine wpList_valn rfl (exec_mv rfl (ev rfl)) ?_
    simp only [Act.put, List.setIfInBounds_toArray, List.set_cons_succ, List.set_cons_zero]
    refine wpList_valn rfl (exec_load rfl (ev rfl) (blk_range D8.out)) ?_
    simp only [Act.put, List.setIfInBounds_toArray, List.set_cons_succ, List.set_cons_zero]
    refine wpList_valn rfl (exec_mv rfl (ev rfl)) ?_
    simp only [Act.put, List.setIfInBounds_toArray, List.set_cons_succ, List.set_cons_zero]
    refine wpList_call rfl (exec_cl Try.call13 rfl (evc (ev rfl) (evc (ev rfl) (evc (ev rfl) (evc (ev rfl) evn))))) ?_
    refine (LnI.set_v (Q := 0) HP8.out HQ.out lnSE_0 lnSet_0).mono ?_
    rintro e w9 ⟨rfl, p3, t3⟩
    have A9 := Lib.hid (t3.keep A8.out (C.own _ _ _ (.inr (.inl rfl))))
    have B9 := Lib.hid (t3.keep B8.out (C.own _ _ _ (.inr (.inl rfl))))
    have D9 := Lib.hid (t3.keep D8.out (C.own _ _ _ (.inr (.inl rfl))))
    have E9 := Lib.hid (t3.keep E8.out (C.own _ _ _ (.inr (.inl rfl))))
    have HW9 := Lib.hid (Turn.below HW8.out (t3.base HW3.out.size) HW8.out.size)
    have HP9 := Lib.hid p3
    clear p3 t3
    refine ⟨_, rfl, ?_⟩
    simp only [Act.put, List.setIfInBounds_toArray, List.set_cons_succ, List.set_cons_zero]
    refine wpList_valn rfl (exec_as rfl (ev rfl)) ?_
    simp only [Act.put, List.setIfInBounds_toArray, List.set_cons_succ, List.set_cons_zero]
    refine wpList_nil ?_
    go_upto_region 9 with fail
    refine wp_region_lit ?_
    refine wpList_valn rfl (exec_mv rfl (ev rfl)) ?_
    simp only [Act.put, List.setIfInBounds_toArray, List.set_cons_succ, List.set_cons_zero]
    refine wpList_valn (v := .bool true) rfl (exec_eqInt true rfl (ev rfl) evk HZQ.out) ?_
    simp only [Act.put, List.setIfInBounds_toArray, List.set_cons_succ, List.set_cons_zero]
    refine wpList_nil ?_
    go_upto_region 10 with fail
    refine wp_region_lit ?_
    refine wpList_valn rfl (exec_mv rfl (ev rfl)) ?_
    simp only [Act.put, List.setIfInBounds_toArray, List.set_cons_succ, List.set_cons_zero]
    refine wpList_valn rfl (exec_mv rfl (ev rfl)) ?_
    simp only [Act.put, List.setIfInBounds_toArray, List.set_cons_succ, List.set_cons_zero]
    refine wpList_call rfl (exec_cl Try.call17 rfl (evc (ev rfl) (evc (ev rfl) evn))) ?_
    refine (LnI.get_v HP9.out (st_get HK.out)).mono ?_
    rintro e w10 ⟨rfl, b3⟩
    have A10 := Lib.hid (blk_keep A9.out b3)
    have B10 := Lib.hid (blk_keep B9.out b3)
    have D10 := Lib.hid (blk_keep D9.out b3)
    have E10 := Lib.hid (blk_keep E9.out b3)
    have HW10 := Lib.hid (HW9.out.trans (b3.mono HW9.out.size))
    have HP10 := Lib.hid (LnI.below HP9.out b3)
    clear b3
    refine ⟨_, rfl, ?_⟩
    simp only [Act.put, List.setIfInBounds_toArray, List.set_cons_succ, List.set_cons_zero]
    refine wpList_valn rfl (exec_mv rfl (ev rfl)) ?_
    simp only [Act.put, List.setIfInBounds_toArray, List.set_cons_succ, List.set_cons_zero]
    refine wpList_valn rfl (exec_ext rfl (ev rfl) rfl) ?_
    simp only [Act.put, List.setIfInBounds_toArray, List.set_cons_succ, List.set_cons_zero]
    refine wpList_valn (v := .bool true) rfl (exec_ext rfl (ev rfl) rfl) ?_
    simp only [Act.put, List.setIfInBounds_toArray, List.set_cons_succ, List.set_cons_zero]
    refine wpList_nuln rfl (exec_store (c := a) rfl (ev rfl) (ev rfl) (blk_there E10.out)) ?_
    simp only [Act.put, List.setIfInBounds_toArray, List.set_cons_succ, List.set_cons_zero]
    have A11 : Hid ((w10.setCells w7.heap.size 0 (cel a)).heap[w.heap.size]? = some (.cells (cel a).toArray 33 (0, 0))) := Lib.hid ((blk_setCells _ _ _ _ _ (Nat.ne_of_lt (blk_lt A7.out))).trans A10.out)
    have B11 : Hid ((w10.setCells w7.heap.size 0 (cel a)).heap[w1.heap.size]? = some (.cells (cel b).toArray 33 (0, 0))) := Lib.hid ((blk_setCells _ _ _ _ _ (Nat.ne_of_lt (blk_lt B7.out))).trans B10.out)
    have D11 : Hid ((w10.setCells w7.heap.size 0 (cel a)).heap[w2.heap.size]? = some (.cells (cel c).toArray 33 (0, 0))) := Lib.hid ((blk_setCells _ _ _ _ _ (Nat.ne_of_lt (blk_lt D7.out))).trans D10.out)
    have E11 : Hid ((w10.setCells w7.heap.size 0 (cel a)).heap[w7.heap.size]? = some (.cells (cel a).toArray 33 (0, 0))) := Lib.hid (blk_laid E10.out)
    have HW11 := Lib.hid (below_setCells HW10.out HW7.out.size (cel a) (o := 0))
    have HP11 := Lib.hid (LnI.setB (vs := cel a) HP10.out E10.out)
    generalize w10.setCells w7.heap.size 0 (cel a) = w11 at *
    refine wpList_valn (v := .bool true) rfl (exec_as rfl (ev rfl)) ?_
    simp only [Act.put, List.setIfInBounds_toArray, List.set_cons_succ, List.set_cons_zero]
    refine wpList_nil ?_
    go_upto_region 11 with fail
    refine wp_region_lit ?_
    refine wpList_valn rfl (exec_mv rfl (ev rfl)) ?_
    simp only [Act.put, List.setIfInBounds_toArray, List.set_cons_succ, List.set_cons_zero]
    refine wpList_valn (v := .bool true) rfl (exec_eqInt true rfl (ev rfl) evk rfl) ?_
    simp only [Act.put, List.setIfInBounds_toArray, List.set_cons_succ, List.set_cons_zero]
    refine wpList_valn (v := .bool true) rfl (exec_mv rfl (ev rfl)) ?_
    simp only [Act.put, List.setIfInBounds_toArray, List.set_cons_succ, List.set_cons_zero]
    refine wpList_val (wanted_of rfl rfl rfl rfl) (exec_load rfl (ev rfl) (blk_range E11.out)) ?_
    simp only [Act.put, List.setIfInBounds_toArray, List.set_cons_succ, List.set_cons_zero]
    refine wpList_val (wanted_of rfl rfl rfl rfl) (exec_load rfl (ev rfl) (blk_range A11.out)) ?_
    simp only [Act.put, List.setIfInBounds_toArray, List.set_cons_succ, List.set_cons_zero]
    refine wpList_val (v := .bool true) (wanted_of rfl rfl rfl rfl) (exec_eqlB true rfl (ev rfl) (ev rfl) (decide_eq_true rfl)) ?_
    simp only [Act.put, List.setIfInBounds_toArray, List.set_cons_succ, List.set_cons_zero]
    refine wpList_valn (v := .bool true) rfl (exec_pt rfl (ev rfl) (ev rfl)) ?_
    simp only [Act.put, List.setIfInBounds_toArray, List.set_cons_succ, List.set_cons_zero]
    refine wpList_valn (v := .bool true) rfl (exec_mv rfl (ev rfl)) ?_
    simp only [Act.put, List.setIfInBounds_toArray, List.set_cons_succ, List.set_cons_zero]
    refine wpList_val (v := .bool true) (wanted_of rfl rfl rfl rfl) (exec_mv rfl (ev rfl)) ?_
    simp only [Act.put, List.setIfInBounds_toArray, List.set_cons_succ, List.set_cons_zero]
    refine wpList_valn (v := .bool true) rfl (exec_pt rfl (ev rfl) (ev rfl)) ?_
    simp only [Act.put, List.setIfInBounds_toArray, List.set_cons_succ, List.set_cons_zero]
    refine wpList_valn (v := .bool true) rfl (exec_mv rfl (ev rfl)) ?_
    simp only [Act.put, List.setIfInBounds_toArray, List.set_cons_succ, List.set_cons_zero]
    refine wpList_val (wanted_of rfl rfl rfl rfl) (exec_mv rfl (ev rfl)) ?_
    simp only [Act.put, List.setIfInBounds_toArray, List.set_cons_succ, List.set_cons_zero]
    refine wpList_call (wanted_of rfl rfl rfl rfl) (exec_cl Try.call16 rfl (evc (ev rfl) evn)) ?_
    refine (LnI.dirty_v HP11.out (st_drt HK.out)).mono ?_
    rintro e w12 ⟨v3, rfl, m3, b3⟩
    obtain ⟨A3, c3, rfl, e31, e32⟩ := m3.form
    clear m3 e31 e32
    have A12 := Lib.hid (blk_keep A11.out b3)
    have B12 := Lib.hid (blk_keep B11.out b3)
    have D12 := Lib.hid (blk_keep D11.out b3)
    have E12 := Lib.hid (blk_keep E11.out b3)
    have HW12 := Lib.hid (HW11.out.trans (b3.mono HW11.out.size))
    have HP12 := Lib.hid (LnI.below HP11.out b3)
    clear b3
    refine ⟨_, rfl, ?_⟩
    simp only [Act.put, List.setIfInBounds_toArray, List.set_cons_succ, List.set_cons_zero]
    refine wpList_val (wanted_of rfl rfl rfl rfl) (exec_lenE IntE rfl (ev rfl)) ?_
    simp only [Act.put, List.setIfInBounds_toArray, List.set_cons_succ, List.set_cons_zero]
    refine wpList_val (v := .bool true) (wanted_of rfl rfl rfl rfl) (exec_eqInt true rfl (ev rfl) evk rfl) ?_
    simp only [Act.put, List.setIfInBounds_toArray, List.set_cons_succ, List.set_cons_zero]
    refine wpList_valn (v := .bool true) rfl (exec_pt rfl (ev rfl) (ev rfl)) ?_
    simp only [Act.put, List.setIfInBounds_toArray, List.set_cons_succ, List.set_cons_zero]
    refine wpList_valn (v := .bool true) rfl (exec_mv rfl (ev rfl)) ?_
    simp only [Act.put, List.setIfInBounds_toArray, List.set_cons_succ, List.set_cons_zero]
    refine wpList_call (wanted_of rfl rfl rfl rfl) (exec_cl Try.call9 rfl evn) ?_
    refine (lnlives C w12).mono ?_
    rintro e wz ⟨rfl, b9⟩
    have HZ := Lib.hid (HW12.out.trans (b9.mono HW12.out.size))
    clear b9
    refine ⟨_, rfl, ?_⟩
    simp only [Act.put, List.setIfInBounds_toArray, List.set_cons_succ, List.set_cons_zero]
    refine wpList_valn (v := .bool true) rfl (exec_pt rfl (ev rfl) (ev rfl)) ?_
    simp only [Act.put, List.setIfInBounds_toArray, List.set_cons_succ, List.set_cons_zero]
    refine wpList_valn (v := .bool true) rfl (exec_as rfl (ev rfl)) ?_
    simp only [Act.put, List.setIfInBounds_toArray, List.set_cons_succ, List.set_cons_zero]
    refine wpList_nil ?_
    go_wp2_with fail
    go_ret
    exact ⟨rfl, HZ.out⟩
  have HZQ : Hid (((Q : Int) == 0) = false) := Lib.hid (beq_eq_false_iff_ne.2 (by omega))
  have HQN := Lib.hid hq
  clear hq
  go_upto_region 8 with fail
  refine wp_region_lit ?_
  refine wpList_valn rfl (exec_mv rfl (ev rfl)) ?_
  simp only [Act.put, List.setIfInBounds_toArray, List.set_cons_succ, List.set_cons_zero]
  refine wpList_valn rfl (exec_mv rfl (ev rfl)) ?_
  simp only [Act.put, List.setIfInBounds_toArray, List.set_cons_succ, List.set_cons_zero]
  refine wpList_valn rfl (exec_load rfl (ev rfl) (blk_range D8.out)) ?_
  simp only [Act.put, List.setIfInBounds_toArray, List.set_cons_succ, List.set_cons_zero]
  refine wpList_valn rfl (exec_mv rfl (ev rfl)) ?_
  simp only [Act.put, List.setIfInBounds_toArray, List.set_cons_succ, List.set_cons_zero]
  refine wpList_call rfl (exec_cl Try.call13 rfl (evc (ev rfl) (evc (ev rfl) (evc (ev rfl) (evc (ev rfl) evn))))) ?_
  refine (LnI.set_v HP8.out HQ.out (st_set HK.out HQN.out c).1 (st_set HK.out HQN.out c).2).mono ?_
  rintro e w9 ⟨rfl, p3, t3⟩
  have A9 := Lib.hid (t3.keep A8.out (C.own _ _ _ (.inr (.inl rfl))))
  have B9 := Lib.hid (t3.keep B8.out (C.own _ _ _ (.inr (.inl rfl))))
  have D9 := Lib.hid (t3.keep D8.out (C.own _ _ _ (.inr (.inl rfl))))
  have E9 := Lib.hid (t3.keep E8.out (C.own _ _ _ (.inr (.inl rfl))))
  have HW9 := Lib.hid (Turn.below HW8.out (t3.base HW3.out.size) HW8.out.size)
  have HP9 := Lib.hid p3
  clear p3 t3
  refine ⟨_, rfl, ?_⟩
  simp only [Act.put, List.setIfInBounds_toArray, List.set_cons_succ, List.set_cons_zero]
  refine wpList_valn rfl (exec_as rfl (ev rfl)) ?_
  simp only [Act.put, List.setIfInBounds_toArray, List.set_cons_succ, List.set_cons_zero]
  refine wpList_nil ?_
  go_upto_region 9 with fail
  refine wp_region_lit ?_
  refine wpList_valn rfl (exec_mv rfl (ev rfl)) ?_
  simp only [Act.put, List.setIfInBounds_toArray, List.set_cons_succ, List.set_cons_zero]
  refine wpList_valn (v := .bool false) rfl (exec_eqInt false rfl (ev rfl) evk HZQ.out) ?_
  simp only [Act.put, List.setIfInBounds_toArray, List.set_cons_succ, List.set_cons_zero]
  refine wpList_nil ?_
  cases cl
  · go_upto_region 12 with fail
    refine wp_region_lit ?_
    refine wpList_valn (v := .bool false) rfl (exec_mv rfl (ev rfl)) ?_
    simp only [Act.put, List.setIfInBounds_toArray, List.set_cons_succ, List.set_cons_zero]
    refine wpList_nil ?_
    go_upto_region 14 with fail
    refine wp_region_lit ?_
    refine wpList_valn rfl (exec_mv rfl (ev rfl)) ?_
    simp only [Act.put, List.setIfInBounds_toArray, List.set_cons_succ, List.set_cons_zero]
    refine wpList_valn rfl (exec_mv rfl (ev rfl)) ?_
    simp only [Act.put, List.setIfInBounds_toArray, List.set_cons_succ, List.set_cons_zero]
    refine wpList_valn rfl (exec_load rfl (ev rfl) (blk_range A9.out)) ?_
    simp only [Act.put, List.setIfInBounds_toArray, List.set_cons_succ, List.set_cons_zero]
    refine wpList_call rfl (exec_cl Try.call12 rfl (evc (ev rfl) (evc (ev rfl) (evc (ev rfl) evn)))) ?_
    refine (LnI.learn_v HP9.out (st_known HK.out rfl a).1 (st_known HK.out rfl a).2).mono ?_
    rintro e w10 ⟨rfl, p3, t3⟩
    have A10 := Lib.hid (t3.keep A9.out (C.own _ _ _ (.inr (.inl rfl))))
    have B10 := Lib.hid (t3.keep B9.out (C.own _ _ _ (.inr (.inl rfl))))
    have D10 := Lib.hid (t3.keep D9.out (C.own _ _ _ (.inr (.inl rfl))))
    have E10 := Lib.hid (t3.keep E9.out (C.own _ _ _ (.inr (.inl rfl))))
    have HW10 := Lib.hid (Turn.below HW9.out (t3.base HW3.out.size) HW9.out.size)
    have HP10 := Lib.hid p3
    clear p3 t3
    refine ⟨_, rfl, ?_⟩
    simp only [Act.put, List.setIfInBounds_toArray, List.set_cons_succ, List.set_cons_zero]
    refine wpList_nil ?_
    go_upto_region 15 with fail
    refine wp_region_lit ?_
    refine wpList_valn rfl (exec_mv rfl (ev rfl)) ?_
    simp only [Act.put, List.setIfInBounds_toArray, List.set_cons_succ, List.set_cons_zero]
    refine wpList_valn rfl (exec_mv rfl (ev rfl)) ?_
    simp only [Act.put, List.setIfInBounds_toArray, List.set_cons_succ, List.set_cons_zero]
    refine wpList_call rfl (exec_cl Try.call17 rfl (evc (ev rfl) (evc (ev rfl) evn))) ?_
    refine (LnI.get_v HP10.out (st_get HK.out)).mono ?_
    rintro e w11 ⟨rfl, b3⟩
    have A11 := Lib.hid (blk_keep A10.out b3)
    have B11 := Lib.hid (blk_keep B10.out b3)
    have D11 := Lib.hid (blk_keep D10.out b3)
    have E11 := Lib.hid (blk_keep E10.out b3)
    have HW11 := Lib.hid (HW10.out.trans (b3.mono HW10.out.size))
    have HP11 := Lib.hid (LnI.below HP10.out b3)
    clear b3
    refine ⟨_, rfl, ?_⟩
    simp only [Act.put, List.setIfInBounds_toArray, List.set_cons_succ, List.set_cons_zero]
    refine wpList_valn rfl (exec_mv rfl (ev rfl)) ?_
    simp only [Act.put, List.setIfInBounds_toArray, List.set_cons_succ, List.set_cons_zero]
    refine wpList_valn rfl (exec_ext rfl (ev rfl) rfl) ?_
    simp only [Act.put, List.setIfInBounds_toArray, List.set_cons_succ, List.set_cons_zero]
    refine wpList_valn (v := .bool true) rfl (exec_ext rfl (ev rfl) rfl) ?_
    simp only [Act.put, List.setIfInBounds_toArray, List.set_cons_succ, List.set_cons_zero]
    refine wpList_nuln rfl (exec_store (c := c) rfl (ev rfl) (ev rfl) (blk_there E11.out)) ?_
    simp only [Act.put, List.setIfInBounds_toArray, List.set_cons_succ, List.set_cons_zero]
    have A12 : Hid ((w11.setCells w7.heap.size 0 (cel c)).heap[w.heap.size]? = some (.cells (cel a).toArray 33 (0, 0))) := Lib.hid ((blk_setCells _ _ _ _ _ (Nat.ne_of_lt (blk_lt A7.out))).trans A11.out)
    have B12 : Hid ((w11.setCells w7.heap.size 0 (cel c)).heap[w1.heap.size]? = some (.cells (cel b).toArray 33 (0, 0))) := Lib.hid ((blk_setCells _ _ _ _ _ (Nat.ne_of_lt (blk_lt B7.out))).trans B11.out)
    have D12 : Hid ((w11.setCells w7.heap.size 0 (cel c)).heap[w2.heap.size]? = some (.cells (cel c).toArray 33 (0, 0))) := Lib.hid ((blk_setCells _ _ _ _ _ (Nat.ne_of_lt (blk_lt D7.out))).trans D11.out)
    have E12 : Hid ((w11.setCells w7.heap.size 0 (cel c)).heap[w7.heap.size]? = some (.cells (cel c).toArray 33 (0, 0))) := Lib.hid (blk_laid E11.out)
    have HW12 := Lib.hid (below_setCells HW11.out HW7.out.size (cel c) (o := 0))
    have HP12 := Lib.hid (LnI.setB (vs := cel c) HP11.out E11.out)
    generalize w11.setCells w7.heap.size 0 (cel c) = w12 at *
    refine wpList_valn (v := .bool true) rfl (exec_as rfl (ev rfl)) ?_
    simp only [Act.put, List.setIfInBounds_toArray, List.set_cons_succ, List.set_cons_zero]
    refine wpList_nil ?_
    have HD : Hid (sameI [(m : Int)] [(m : Int)] = true) := Lib.hid (beq_self_eq_true _)
    go_upto_region 16 with fail
    refine wp_region_lit ?_
    refine wpList_valn rfl (exec_mv rfl (ev rfl)) ?_
    simp only [Act.put, List.setIfInBounds_toArray, List.set_cons_succ, List.set_cons_zero]
    refine wpList_valn (v := .bool true) rfl (exec_eqInt true rfl (ev rfl) evk rfl) ?_
    simp only [Act.put, List.setIfInBounds_toArray, List.set_cons_succ, List.set_cons_zero]
    refine wpList_valn (v := .bool true) rfl (exec_mv rfl (ev rfl)) ?_
    simp only [Act.put, List.setIfInBounds_toArray, List.set_cons_succ, List.set_cons_zero]
    refine wpList_val (wanted_of rfl rfl rfl rfl) (exec_load rfl (ev rfl) (blk_range E12.out)) ?_
    simp only [Act.put, List.setIfInBounds_toArray, List.set_cons_succ, List.set_cons_zero]
    refine wpList_val (wanted_of rfl rfl rfl rfl) (exec_load rfl (ev rfl) (blk_range D12.out)) ?_
    simp only [Act.put, List.setIfInBounds_toArray, List.set_cons_succ, List.set_cons_zero]
    refine wpList_val (v := .bool true) (wanted_of rfl rfl rfl rfl) (exec_eqlB true rfl (ev rfl) (ev rfl) (decide_eq_true rfl)) ?_
    simp only [Act.put, List.setIfInBounds_toArray, List.set_cons_succ, List.set_cons_zero]
    refine wpList_valn (v := .bool true) rfl (exec_pt rfl (ev rfl) (ev rfl)) ?_
    simp only [Act.put, List.setIfInBounds_toArray, List.set_cons_succ, List.set_cons_zero]
    refine wpList_valn (v := .bool true) rfl (exec_mv rfl (ev rfl)) ?_
    simp only [Act.put, List.setIfInBounds_toArray, List.set_cons_succ, List.set_cons_zero]
    refine wpList_val (v := .bool true) (wanted_of rfl rfl rfl rfl) (exec_mv rfl (ev rfl)) ?_
    simp only [Act.put, List.setIfInBounds_toArray, List.set_cons_succ, List.set_cons_zero]
    refine wpList_valn (v := .bool true) rfl (exec_pt rfl (ev rfl) (ev rfl)) ?_
    simp only [Act.put, List.setIfInBounds_toArray, List.set_cons_succ, List.set_cons_zero]
    refine wpList_valn (v := .bool true) rfl (exec_mv rfl (ev rfl)) ?_
    simp only [Act.put, List.setIfInBounds_toArray, List.set_cons_succ, List.set_cons_zero]
    refine wpList_val (wanted_of rfl rfl rfl rfl) (exec_mv rfl (ev rfl)) ?_
    simp only [Act.put, List.setIfInBounds_toArray, List.set_cons_succ, List.set_cons_zero]
    refine wpList_call (wanted_of rfl rfl rfl rfl) (exec_cl Try.call16 rfl (evc (ev rfl) evn)) ?_
    refine (LnI.dirty_v HP12.out (st_drt HK.out)).mono ?_
    rintro e w13 ⟨v3, rfl, m3, b3⟩
    replace m3 : MadeE IntE w13 w12.heap.size v3 [(m : Int)] := m3
    obtain ⟨A3, c3, rfl, e31, e32⟩ := m3.form
    have HR3 := Lib.hid m3.rd
    clear m3 e31 e32
    have A13 := Lib.hid (blk_keep A12.out b3)
    have B13 := Lib.hid (blk_keep B12.out b3)
    have D13 := Lib.hid (blk_keep D12.out b3)
    have E13 := Lib.hid (blk_keep E12.out b3)
    have HW13 := Lib.hid (HW12.out.trans (b3.mono HW12.out.size))
    have HP13 := Lib.hid (LnI.below HP12.out b3)
    clear b3
    refine ⟨_, rfl, ?_⟩
    simp only [Act.put, List.setIfInBounds_toArray, List.set_cons_succ, List.set_cons_zero]
    refine wpList_val (wanted_of rfl rfl rfl rfl) (exec_mv rfl (ev rfl)) ?_
    simp only [Act.put, List.setIfInBounds_toArray, List.set_cons_succ, List.set_cons_zero]
    refine wpList_val (wanted_of rfl rfl rfl rfl) (exec_mk1E (E := IntE) (a := (m : Int)) rfl (ev rfl) rfl (by decide)) ?_
    simp only [Act.put, List.setIfInBounds_toArray, List.set_cons_succ, List.set_cons_zero]
    refine wpList_call (wanted_of rfl rfl rfl rfl) (exec_cl Try.call19 rfl (evc (ev rfl) (evc (ev rfl) evn))) ?_
    refine (ints_any _ _ _ _ _ _ (w13.heap.size + 1) [(m : Int)] [(m : Int)] _ (HR3.out.up _) (rdE_new (E := IntE) (l := [(m : Int)]) w13 (IntE.cel (m : Int)).toArray IntE.t rfl) (by rw [World.size_alloc]; exact Nat.le_refl _) (by simp [maxLen])).mono ?_
    rintro e wy ⟨rfl, b10⟩
    have HWy := Lib.hid ((HW13.out.alloc HW13.out.size (.cells (IntE.cel (m : Int)).toArray IntE.t)).trans (b10.mono (by rw [World.size_alloc]; exact Nat.le_succ_of_le HW13.out.size)))
    clear b10
    rw [HD.out]
    refine ⟨_, rfl, ?_⟩
    simp only [Act.put, List.setIfInBounds_toArray, List.set_cons_succ, List.set_cons_zero]
    refine wpList_val (v := .bool false) (wanted_of rfl rfl rfl rfl) (exec_mv rfl (ev rfl)) ?_
    simp only [Act.put, List.setIfInBounds_toArray, List.set_cons_succ, List.set_cons_zero]
    refine wpList_val (v := .bool true) (wanted_of rfl rfl rfl rfl) (exec_not false rfl (ev rfl)) ?_
    simp only [Act.put, List.setIfInBounds_toArray, List.set_cons_succ, List.set_cons_zero]
    refine wpList_val (v := .bool true) (wanted_of rfl rfl rfl rfl) (exec_eqBool true rfl (ev rfl) (ev rfl) rfl) ?_
    simp only [Act.put, List.setIfInBounds_toArray, List.set_cons_succ, List.set_cons_zero]
    refine wpList_valn (v := .bool true) rfl (exec_pt rfl (ev rfl) (ev rfl)) ?_
    simp only [Act.put, List.setIfInBounds_toArray, List.set_cons_succ, List.set_cons_zero]
    refine wpList_valn (v := .bool true) rfl (exec_mv rfl (ev rfl)) ?_
    simp only [Act.put, List.setIfInBounds_toArray, List.set_cons_succ, List.set_cons_zero]
    refine wpList_call (wanted_of rfl rfl rfl rfl) (exec_cl Try.call9 rfl evn) ?_
    refine (lnlives C wy).mono ?_
    rintro e wz ⟨rfl, b9⟩
    have HZ := Lib.hid (HWy.out.trans (b9.mono HWy.out.size))
    clear b9
    refine ⟨_, rfl, ?_⟩
    simp only [Act.put, List.setIfInBounds_toArray, List.set_cons_succ, List.set_cons_zero]
    refine wpList_valn (v := .bool true) rfl (exec_pt rfl (ev rfl) (ev rfl)) ?_
    simp only [Act.put, List.setIfInBounds_toArray, List.set_cons_succ, List.set_cons_zero]
    refine wpList_valn (v := .bool true) rfl (exec_as rfl (ev rfl)) ?_
    simp only [Act.put, List.setIfInBounds_toArray, List.set_cons_succ, List.set_cons_zero]
    refine wpList_nil ?_
    go_wp2_with fail
    go_ret
    exact ⟨rfl, HZ.out⟩
  · go_upto_region 12 with fail
    refine wp_region_lit ?_
    refine wpList_valn (v := .bool true) rfl (exec_mv rfl (ev rfl)) ?_
    simp only [Act.put, List.setIfInBounds_toArray, List.set_cons_succ, List.set_cons_zero]
    refine wpList_nil ?_
    go_upto_region 13 with fail
    refine wp_region_lit ?_
    refine wpList_valn rfl (exec_mv rfl (ev rfl)) ?_
    simp only [Act.put, List.setIfInBounds_toArray, List.set_cons_succ, List.set_cons_zero]
    refine wpList_call rfl (exec_cl Try.call15 rfl (evc (ev rfl) evn)) ?_
    refine (C.clean_ w9 HP9.out).mono ?_
    rintro e w10 ⟨rfl, p3, t3⟩
    rw [st_cln] at p3
    have A10 := Lib.hid (t3.keep A9.out (C.own _ _ _ (.inr (.inl rfl))))
    have B10 := Lib.hid (t3.keep B9.out (C.own _ _ _ (.inr (.inl rfl))))
    have D10 := Lib.hid (t3.keep D9.out (C.own _ _ _ (.inr (.inl rfl))))
    have E10 := Lib.hid (t3.keep E9.out (C.own _ _ _ (.inr (.inl rfl))))
    have HW10 := Lib.hid (Turn.below HW9.out (t3.base HW3.out.size) HW9.out.size)
    have HP10 := Lib.hid p3
    clear p3 t3
    refine ⟨_, rfl, ?_⟩
    simp only [Act.put, List.setIfInBounds_toArray, List.set_cons_succ, List.set_cons_zero]
    refine wpList_nil ?_
    go_upto_region 14 with fail
    refine wp_region_lit ?_
    refine wpList_valn rfl (exec_mv rfl (ev rfl)) ?_
    simp only [Act.put, List.setIfInBounds_toArray, List.set_cons_succ, List.set_cons_zero]
    refine wpList_valn rfl (exec_mv rfl (ev rfl)) ?_
    simp only [Act.put, List.setIfInBounds_toArray, List.set_cons_succ, List.set_cons_zero]
    refine wpList_valn rfl (exec_load rfl (ev rfl) (blk_range A10.out)) ?_
    simp only [Act.put, List.setIfInBounds_toArray, List.set_cons_succ, List.set_cons_zero]
    refine wpList_call rfl (exec_cl Try.call12 rfl (evc (ev rfl) (evc (ev rfl) (evc (ev rfl) evn)))) ?_
    refine (LnI.learn_v HP10.out (st_known HK.out rfl a).1 (st_known HK.out rfl a).2).mono ?_
    rintro e w11 ⟨rfl, p3, t3⟩
    have A11 := Lib.hid (t3.keep A10.out (C.own _ _ _ (.inr (.inl rfl))))
    have B11 := Lib.hid (t3.keep B10.out (C.own _ _ _ (.inr (.inl rfl))))
    have D11 := Lib.hid (t3.keep D10.out (C.own _ _ _ (.inr (.inl rfl))))
    have E11 := Lib.hid (t3.keep E10.out (C.own _ _ _ (.inr (.inl rfl))))
    have HW11 := Lib.hid (Turn.below HW10.out (t3.base HW3.out.size) HW10.out.size)
    have HP11 := Lib.hid p3
    clear p3 t3
    refine ⟨_, rfl, ?_⟩
    simp only [Act.put, List.setIfInBounds_toArray, List.set_cons_succ, List.set_cons_zero]
    refine wpList_nil ?_
    go_upto_region 15 with fail
    refine wp_region_lit ?_
    refine wpList_valn rfl (exec_mv rfl (ev rfl)) ?_
    simp only [Act.put, List.setIfInBounds_toArray, List.set_cons_succ, List.set_cons_zero]
    refine wpList_valn rfl (exec_mv rfl (ev rfl)) ?_
    simp only [Act.put, List.setIfInBounds_toArray, List.set_cons_succ, List.set_cons_zero]
    refine wpList_call rfl (exec_cl Try.call17 rfl (evc (ev rfl) (evc (ev rfl) evn))) ?_
    refine (LnI.get_v HP11.out (st_get HK.out)).mono ?_
    rintro e w12 ⟨rfl, b3⟩
    have A12 := Lib.hid (blk_keep A11.out b3)
    have B12 := Lib.hid (blk_keep B11.out b3)
    have D12 := Lib.hid (blk_keep D11.out b3)
    have E12 := Lib.hid (blk_keep E11.out b3)
    have HW12 := Lib.hid (HW11.out.trans (b3.mono HW11.out.size))
    have HP12 := Lib.hid (LnI.below HP11.out b3)
    clear b3
    refine ⟨_, rfl, ?_⟩
    simp only [Act.put, List.setIfInBounds_toArray, List.set_cons_succ, List.set_cons_zero]
    refine wpList_valn rfl (exec_mv rfl (ev rfl)) ?_
    simp only [Act.put, List.setIfInBounds_toArray, List.set_cons_succ, List.set_cons_zero]
    refine wpList_valn rfl (exec_ext rfl (ev rfl) rfl) ?_
    simp only [Act.put, List.setIfInBounds_toArray, List.set_cons_succ, List.set_cons_zero]
    refine wpList_valn (v := .bool true) rfl (exec_ext rfl (ev rfl) rfl) ?_
    simp only [Act.put, List.setIfInBounds_toArray, List.set_cons_succ, List.set_cons_zero]
    refine wpList_nuln rfl (exec_store (c := c) rfl (ev rfl) (ev rfl) (blk_there E12.out)) ?_
    simp only [Act.put, List.setIfInBounds_toArray, List.set_cons_succ, List.set_cons_zero]
    have A13 : Hid ((w12.setCells w7.heap.size 0 (cel c)).heap[w.heap.size]? = some (.cells (cel a).toArray 33 (0, 0))) := Lib.hid ((blk_setCells _ _ _ _ _ (Nat.ne_of_lt (blk_lt A7.out))).trans A12.out)
    have B13 : Hid ((w12.setCells w7.heap.size 0 (cel c)).heap[w1.heap.size]? = some (.cells (cel b).toArray 33 (0, 0))) := Lib.hid ((blk_setCells _ _ _ _ _ (Nat.ne_of_lt (blk_lt B7.out))).trans B12.out)
    have D13 : Hid ((w12.setCells w7.heap.size 0 (cel c)).heap[w2.heap.size]? = some (.cells (cel c).toArray 33 (0, 0))) := Lib.hid ((blk_setCells _ _ _ _ _ (Nat.ne_of_lt (blk_lt D7.out))).trans D12.out)
    have E13 : Hid ((w12.setCells w7.heap.size 0 (cel c)).heap[w7.heap.size]? = some (.cells (cel c).toArray 33 (0, 0))) := Lib.hid (blk_laid E12.out)
    have HW13 := Lib.hid (below_setCells HW12.out HW7.out.size (cel c) (o := 0))
    have HP13 := Lib.hid (LnI.setB (vs := cel c) HP12.out E12.out)
    generalize w12.setCells w7.heap.size 0 (cel c) = w13 at *
    refine wpList_valn (v := .bool true) rfl (exec_as rfl (ev rfl)) ?_
    simp only [Act.put, List.setIfInBounds_toArray, List.set_cons_succ, List.set_cons_zero]
    refine wpList_nil ?_
    have HD : Hid (sameI [] [(m : Int)] = false) := Lib.hid rfl
    go_upto_region 16 with fail
    refine wp_region_lit ?_
    refine wpList_valn rfl (exec_mv rfl (ev rfl)) ?_
    simp only [Act.put, List.setIfInBounds_toArray, List.set_cons_succ, List.set_cons_zero]
    refine wpList_valn (v := .bool true) rfl (exec_eqInt true rfl (ev rfl) evk rfl) ?_
    simp only [Act.put, List.setIfInBounds_toArray, List.set_cons_succ, List.set_cons_zero]
    refine wpList_valn (v := .bool true) rfl (exec_mv rfl (ev rfl)) ?_
    simp only [Act.put, List.setIfInBounds_toArray, List.set_cons_succ, List.set_cons_zero]
    refine wpList_val (wanted_of rfl rfl rfl rfl) (exec_load rfl (ev rfl) (blk_range E13.out)) ?_
    simp only [Act.put, List.setIfInBounds_toArray, List.set_cons_succ, List.set_cons_zero]
    refine wpList_val (wanted_of rfl rfl rfl rfl) (exec_load rfl (ev rfl) (blk_range D13.out)) ?_
    simp only [Act.put, List.setIfInBounds_toArray, List.set_cons_succ, List.set_cons_zero]
    refine wpList_val (v := .bool true) (wanted_of rfl rfl rfl rfl) (exec_eqlB true rfl (ev rfl) (ev rfl) (decide_eq_true rfl)) ?_
    simp only [Act.put, List.setIfInBounds_toArray, List.set_cons_succ, List.set_cons_zero]
    refine wpList_valn (v := .bool true) rfl (exec_pt rfl (ev rfl) (ev rfl)) ?_
    simp only [Act.put, List.setIfInBounds_toArray, List.set_cons_succ, List.set_cons_zero]
    refine wpList_valn (v := .bool true) rfl (exec_mv rfl (ev rfl)) ?_
    simp only [Act.put, List.setIfInBounds_toArray, List.set_cons_succ, List.set_cons_zero]
    refine wpList_val (v := .bool true) (wanted_of rfl rfl rfl rfl) (exec_mv rfl (ev rfl)) ?_
    simp only [Act.put, List.setIfInBounds_toArray, List.set_cons_succ, List.set_cons_zero]
    refine wpList_valn (v := .bool true) rfl (exec_pt rfl (ev rfl) (ev rfl)) ?_
    simp only [Act.put, List.setIfInBounds_toArray, List.set_cons_succ, List.set_cons_zero]
    refine wpList_valn (v := .bool true) rfl (exec_mv rfl (ev rfl)) ?_
    simp only [Act.put, List.setIfInBounds_toArray, List.set_cons_succ, List.set_cons_zero]
    refine wpList_val (wanted_of rfl rfl rfl rfl) (exec_mv rfl (ev rfl)) ?_
    simp only [Act.put, List.setIfInBounds_toArray, List.set_cons_succ, List.set_cons_zero]
    refine wpList_call (wanted_of rfl rfl rfl rfl) (exec_cl Try.call16 rfl (evc (ev rfl) evn)) ?_
    refine (LnI.dirty_v HP13.out (st_drt HK.out)).mono ?_
    rintro e w14 ⟨v3, rfl, m3, b3⟩
    replace m3 : MadeE IntE w14 w13.heap.size v3 [] := m3
    obtain ⟨A3, c3, rfl, e31, e32⟩ := m3.form
    have HR3 := Lib.hid m3.rd
    clear m3 e31 e32
    have A14 := Lib.hid (blk_keep A13.out b3)
    have B14 := Lib.hid (blk_keep B13.out b3)
    have D14 := Lib.hid (blk_keep D13.out b3)
    have E14 := Lib.hid (blk_keep E13.out b3)
    have HW14 := Lib.hid (HW13.out.trans (b3.mono HW13.out.size))
    have HP14 := Lib.hid (LnI.below HP13.out b3)
    clear b3
    refine ⟨_, rfl, ?_⟩
    simp only [Act.put, List.setIfInBounds_toArray, List.set_cons_succ, List.set_cons_zero]
    refine wpList_val (wanted_of rfl rfl rfl rfl) (exec_mv rfl (ev rfl)) ?_
    simp only [Act.put, List.setIfInBounds_toArray, List.set_cons_succ, List.set_cons_zero]
    refine wpList_val (wanted_of rfl rfl rfl rfl) (exec_mk1E (E := IntE) (a := (m : Int)) rfl (ev rfl) rfl (by decide)) ?_
    simp only [Act.put, List.setIfInBounds_toArray, List.set_cons_succ, List.set_cons_zero]
    refine wpList_call (wanted_of rfl rfl rfl rfl) (exec_cl Try.call19 rfl (evc (ev rfl) (evc (ev rfl) evn))) ?_
    refine (ints_any _ _ _ _ _ _ (w14.heap.size + 1) [] [(m : Int)] _ (HR3.out.up _) (rdE_new (E := IntE) (l := [(m : Int)]) w14 (IntE.cel (m : Int)).toArray IntE.t rfl) (by rw [World.size_alloc]; exact Nat.le_refl _) (by simp [maxLen])).mono ?_
    rintro e wy ⟨rfl, b10⟩
    have HWy := Lib.hid ((HW14.out.alloc HW14.out.size (.cells (IntE.cel (m : Int)).toArray IntE.t)).trans (b10.mono (by rw [World.size_alloc]; exact Nat.le_succ_of_le HW14.out.size)))
    clear b10
    rw [HD.out]
    refine ⟨_, rfl, ?_⟩
    simp only [Act.put, List.setIfInBounds_toArray, List.set_cons_succ, List.set_cons_zero]
    refine wpList_val (v := .bool true) (wanted_of rfl rfl rfl rfl) (exec_mv rfl (ev rfl)) ?_
    simp only [Act.put, List.setIfInBounds_toArray, List.set_cons_succ, List.set_cons_zero]
    refine wpList_val (v := .bool false) (wanted_of rfl rfl rfl rfl) (exec_not true rfl (ev rfl)) ?_
    simp only [Act.put, List.setIfInBounds_toArray, List.set_cons_succ, List.set_cons_zero]
    refine wpList_val (v := .bool true) (wanted_of rfl rfl rfl rfl) (exec_eqBool true rfl (ev rfl) (ev rfl) rfl) ?_
    simp only [Act.put, List.setIfInBounds_toArray, List.set_cons_succ, List.set_cons_zero]
    refine wpList_valn (v := .bool true) rfl (exec_pt rfl (ev rfl) (ev rfl)) ?_
    simp only [Act.put, List.setIfInBounds_toArray, List.set_cons_succ, List.set_cons_zero]
    refine wpList_valn (v := .bool true) rfl (exec_mv rfl (ev rfl)) ?_
    simp only [Act.put, List.setIfInBounds_toArray, List.set_cons_succ, List.set_cons_zero]
    refine wpList_call (wanted_of rfl rfl rfl rfl) (exec_cl Try.call9 rfl evn) ?_
    refine (lnlives C wy).mono ?_
    rintro e wz ⟨rfl, b9⟩
    have HZ := Lib.hid (HWy.out.trans (b9.mono HWy.out.size))
    clear b9
    refine ⟨_, rfl, ?_⟩
    simp only [Act.put, List.setIfInBounds_toArray, List.set_cons_succ, List.set_cons_zero]
    refine wpList_valn (v := .bool true) rfl (exec_pt rfl (ev rfl) (ev rfl)) ?_
    simp only [Act.put, List.setIfInBounds_toArray, List.set_cons_succ, List.set_cons_zero]
    refine wpList_valn (v := .bool true) rfl (exec_as rfl (ev rfl)) ?_
    simp only [Act.put, List.setIfInBounds_toArray, List.set_cons_succ, List.set_cons_zero]
    refine wpList_nil ?_
    go_wp2_with fail
    go_ret
    exact ⟨rfl, HZ.out⟩
set_option maxHeartbeats 4000000 in
theorem wlineNil (C : LnI) (m : Int) (x : Blk) (Q : Nat) (z : Bool) (w : World) :
    Calls Try.prog 6 #[.int .i64 m, blk x, .int .u64 (Q : Int), .bool z] w fun e w' => e = .returned (.bool true) ∧ Below w.heap.size w w' := by
  have HW0 : Hid (Below w.heap.size w w) := Lib.hid (Below.refl _ _)
  go_enter Try.func6, Try.ntmps6
  go_upto_region 0 with fail
  refine wp_region_lit ?_
  refine wpList_valn rfl (exec_box rfl (ev rfl)) ?_
  simp only [Act.put, List.setIfInBounds_toArray, List.set_cons_succ, List.set_cons_zero]
  have hbx := (Below.refl w.heap.size w).alloc (Nat.le_refl _) (.cells (cel x).toArray 33)
  have X1 := Lib.hid (heap_alloc_new w (.cells (cel x).toArray 33))
  have HW1 := Lib.hid (HW0.out.trans (hbx.mono HW0.out.size))
  clear hbx
  generalize w.alloc (.cells (cel x).toArray 33) = w1 at *
  refine wpList_valn (v := .bool false) rfl (exec_as rfl evk) ?_
  simp only [Act.put, List.setIfInBounds_toArray, List.set_cons_succ, List.set_cons_zero]
  refine wpList_nil ?_
  go_upto_region 1 with fail
  refine wp_region_lit ?_
  refine wpList_valn rfl (exec_as rfl evk) ?_
  simp only [Act.put, List.setIfInBounds_toArray, List.set_cons_succ, List.set_cons_zero]
  refine wpList_nil ?_
  cases z
  · go_upto_region 2 with fail
    refine wp_region_lit ?_
    refine wpList_valn (v := .bool false) rfl (exec_mv rfl (ev rfl)) ?_
    simp only [Act.put, List.setIfInBounds_toArray, List.set_cons_succ, List.set_cons_zero]
    refine wpList_nil ?_
    obtain ⟨w2, hw2⟩ : ∃ w2, w1 = w2 := ⟨_, rfl⟩
    have HW2 := HW1
    have X2 := X1
    rw [hw2] at HW2 X2
    have HN2 := Lib.hid (C.no_nil w2)
    rw [hw2]
    go_upto_region 4 with fail
    refine wp_region_lit ?_
    refine wpList_valn rfl (exec_mv rfl (ev rfl)) ?_
    simp only [Act.put, List.setIfInBounds_toArray, List.set_cons_succ, List.set_cons_zero]
    refine wpList_valn rfl (exec_mv rfl (ev rfl)) ?_
    simp only [Act.put, List.setIfInBounds_toArray, List.set_cons_succ, List.set_cons_zero]
    refine wpList_call rfl (exec_cl Try.call17 rfl (evc (ev rfl) (evc (ev rfl) evn))) ?_
    refine (C.no_get w2 _ m HN2.out).mono ?_
    rintro e w3 ⟨rfl, b3⟩
    have X3 := Lib.hid (blk_keep X2.out b3)
    have HW3 := Lib.hid (HW2.out.trans (b3.mono HW2.out.size))
    have HN3 := Lib.hid (C.no_below HN2.out b3)
    clear b3
    refine ⟨_, rfl, ?_⟩
    simp only [Act.put, List.setIfInBounds_toArray, List.set_cons_succ, List.set_cons_zero]
    refine wpList_valn rfl (exec_mv rfl (ev rfl)) ?_
    simp only [Act.put, List.setIfInBounds_toArray, List.set_cons_succ, List.set_cons_zero]
    refine wpList_valn rfl (exec_ext rfl (ev rfl) rfl) ?_
    simp only [Act.put, List.setIfInBounds_toArray, List.set_cons_succ, List.set_cons_zero]
    refine wpList_valn (v := .bool false) rfl (exec_ext rfl (ev rfl) rfl) ?_
    simp only [Act.put, List.setIfInBounds_toArray, List.set_cons_succ, List.set_cons_zero]
    refine wpList_valn rfl (exec_alloc rfl) ?_
    simp only [Act.put, List.setIfInBounds_toArray, List.set_cons_succ, List.set_cons_zero]
    refine wpList_nuln rfl (exec_fillN (c := zeroB) rfl (ev rfl) (ev rfl)) ?_
    simp only [Act.put, List.setIfInBounds_toArray, List.set_cons_succ, List.set_cons_zero]
    have hbx := (Below.refl w3.heap.size w3).alloc (Nat.le_refl _) (.cells (cel zeroB).toArray 33)
    have X4 := Lib.hid (blk_keep X3.out hbx)
    have HW4 := Lib.hid (HW3.out.trans (hbx.mono HW3.out.size))
    have HN4 := Lib.hid (C.no_below HN3.out hbx)
    clear hbx
    generalize w3.alloc (.cells (cel zeroB).toArray 33) = w4 at *
    refine wpList_valn (v := .bool false) rfl (exec_as rfl (ev rfl)) ?_
    simp only [Act.put, List.setIfInBounds_toArray, List.set_cons_succ, List.set_cons_zero]
    refine wpList_nil ?_
    go_upto_region 5 with fail
    refine wp_region_lit ?_
    refine wpList_valn rfl (exec_mv rfl (ev rfl)) ?_
    simp only [Act.put, List.setIfInBounds_toArray, List.set_cons_succ, List.set_cons_zero]
    refine wpList_valn rfl (exec_mv rfl (ev rfl)) ?_
    simp only [Act.put, List.setIfInBounds_toArray, List.set_cons_succ, List.set_cons_zero]
    refine wpList_valn rfl (exec_load rfl (ev rfl) (blk_range X4.out)) ?_
    simp only [Act.put, List.setIfInBounds_toArray, List.set_cons_succ, List.set_cons_zero]
    refine wpList_call rfl (exec_cl Try.call12 rfl (evc (ev rfl) (evc (ev rfl) (evc (ev rfl) evn)))) ?_
    refine (C.no_learn w4 _ m x HN4.out).mono ?_
    rintro e w5 ⟨rfl, b3⟩
    have X5 := Lib.hid (blk_keep X4.out b3)
    have HW5 := Lib.hid (HW4.out.trans (b3.mono HW4.out.size))
    have HN5 := Lib.hid (C.no_below HN4.out b3)
    clear b3
    refine ⟨_, rfl, ?_⟩
    simp only [Act.put, List.setIfInBounds_toArray, List.set_cons_succ, List.set_cons_zero]
    refine wpList_valn (v := .bool true) rfl (exec_eqInt true rfl (ev rfl) evk rfl) ?_
    simp only [Act.put, List.setIfInBounds_toArray, List.set_cons_succ, List.set_cons_zero]
    refine wpList_valn (v := .bool true) rfl (exec_mv rfl (ev rfl)) ?_
    simp only [Act.put, List.setIfInBounds_toArray, List.set_cons_succ, List.set_cons_zero]
    refine wpList_val (wanted_of rfl rfl rfl rfl) (exec_mv rfl (ev rfl)) ?_
    simp only [Act.put, List.setIfInBounds_toArray, List.set_cons_succ, List.set_cons_zero]
    refine wpList_val (wanted_of rfl rfl rfl rfl) (exec_mv rfl (ev rfl)) ?_
    simp only [Act.put, List.setIfInBounds_toArray, List.set_cons_succ, List.set_cons_zero]
    refine wpList_val (wanted_of rfl rfl rfl rfl) (exec_load rfl (ev rfl) (blk_range X5.out)) ?_
    simp only [Act.put, List.setIfInBounds_toArray, List.set_cons_succ, List.set_cons_zero]
    refine wpList_val (wanted_of rfl rfl rfl rfl) (exec_mv rfl (ev rfl)) ?_
    simp only [Act.put, List.setIfInBounds_toArray, List.set_cons_succ, List.set_cons_zero]
    refine wpList_call (wanted_of rfl rfl rfl rfl) (exec_cl Try.call13 rfl (evc (ev rfl) (evc (ev rfl) (evc (ev rfl) (evc (ev rfl) evn))))) ?_
    refine (C.no_set w5 _ m x Q HN5.out).mono ?_
    rintro e w6 ⟨rfl, b3⟩
    have X6 := Lib.hid (blk_keep X5.out b3)
    have HW6 := Lib.hid (HW5.out.trans (b3.mono HW5.out.size))
    have HN6 := Lib.hid (C.no_below HN5.out b3)
    clear b3
    refine ⟨_, rfl, ?_⟩
    simp only [Act.put, List.setIfInBounds_toArray, List.set_cons_succ, List.set_cons_zero]
    refine wpList_val (v := .bool true) (wanted_of rfl rfl rfl rfl) (exec_eqInt true rfl (ev rfl) evk rfl) ?_
    simp only [Act.put, List.setIfInBounds_toArray, List.set_cons_succ, List.set_cons_zero]
    refine wpList_valn (v := .bool true) rfl (exec_pt rfl (ev rfl) (ev rfl)) ?_
    simp only [Act.put, List.setIfInBounds_toArray, List.set_cons_succ, List.set_cons_zero]
    refine wpList_valn (v := .bool true) rfl (exec_mv rfl (ev rfl)) ?_
    simp only [Act.put, List.setIfInBounds_toArray, List.set_cons_succ, List.set_cons_zero]
    refine wpList_val (wanted_of rfl rfl rfl rfl) (exec_mv rfl (ev rfl)) ?_
    simp only [Act.put, List.setIfInBounds_toArray, List.set_cons_succ, List.set_cons_zero]
    refine wpList_val (wanted_of rfl rfl rfl rfl) (exec_mv rfl (ev rfl)) ?_
    simp only [Act.put, List.setIfInBounds_toArray, List.set_cons_succ, List.set_cons_zero]
    refine wpList_call (wanted_of rfl rfl rfl rfl) (exec_cl Try.call14 rfl (evc (ev rfl) (evc (ev rfl) evn))) ?_
    refine (C.no_forget w6 _ m HN6.out).mono ?_
    rintro e w7 ⟨rfl, b3⟩
    have X7 := Lib.hid (blk_keep X6.out b3)
    have HW7 := Lib.hid (HW6.out.trans (b3.mono HW6.out.size))
    have HN7 := Lib.hid (C.no_below HN6.out b3)
    clear b3
    refine ⟨_, rfl, ?_⟩
    simp only [Act.put, List.setIfInBounds_toArray, List.set_cons_succ, List.set_cons_zero]
    refine wpList_val (v := .bool true) (wanted_of rfl rfl rfl rfl) (exec_eqInt true rfl (ev rfl) evk rfl) ?_
    simp only [Act.put, List.setIfInBounds_toArray, List.set_cons_succ, List.set_cons_zero]
    refine wpList_valn (v := .bool true) rfl (exec_pt rfl (ev rfl) (ev rfl)) ?_
    simp only [Act.put, List.setIfInBounds_toArray, List.set_cons_succ, List.set_cons_zero]
    refine wpList_valn (v := .bool true) rfl (exec_mv rfl (ev rfl)) ?_
    simp only [Act.put, List.setIfInBounds_toArray, List.set_cons_succ, List.set_cons_zero]
    refine wpList_val (wanted_of rfl rfl rfl rfl) (exec_mv rfl (ev rfl)) ?_
    simp only [Act.put, List.setIfInBounds_toArray, List.set_cons_succ, List.set_cons_zero]
    refine wpList_call (wanted_of rfl rfl rfl rfl) (exec_cl Try.call15 rfl (evc (ev rfl) evn)) ?_
    refine (C.no_clean w7 _ HN7.out).mono ?_
    rintro e w8 ⟨rfl, b3⟩
    have X8 := Lib.hid (blk_keep X7.out b3)
    have HW8 := Lib.hid (HW7.out.trans (b3.mono HW7.out.size))
    have HN8 := Lib.hid (C.no_below HN7.out b3)
    clear b3
    refine ⟨_, rfl, ?_⟩
    simp only [Act.put, List.setIfInBounds_toArray, List.set_cons_succ, List.set_cons_zero]
    refine wpList_val (v := .bool true) (wanted_of rfl rfl rfl rfl) (exec_eqInt true rfl (ev rfl) evk rfl) ?_
    simp only [Act.put, List.setIfInBounds_toArray, List.set_cons_succ, List.set_cons_zero]
    refine wpList_valn (v := .bool true) rfl (exec_pt rfl (ev rfl) (ev rfl)) ?_
    simp only [Act.put, List.setIfInBounds_toArray, List.set_cons_succ, List.set_cons_zero]
    refine wpList_valn (v := .bool true) rfl (exec_mv rfl (ev rfl)) ?_
    simp only [Act.put, List.setIfInBounds_toArray, List.set_cons_succ, List.set_cons_zero]
    refine wpList_val (v := .bool false) (wanted_of rfl rfl rfl rfl) (exec_mv rfl (ev rfl)) ?_
    simp only [Act.put, List.setIfInBounds_toArray, List.set_cons_succ, List.set_cons_zero]
    refine wpList_val (v := .bool true) (wanted_of rfl rfl rfl rfl) (exec_not false rfl (ev rfl)) ?_
    simp only [Act.put, List.setIfInBounds_toArray, List.set_cons_succ, List.set_cons_zero]
    refine wpList_valn (v := .bool true) rfl (exec_pt rfl (ev rfl) (ev rfl)) ?_
    simp only [Act.put, List.setIfInBounds_toArray, List.set_cons_succ, List.set_cons_zero]
    refine wpList_valn (v := .bool true) rfl (exec_mv rfl (ev rfl)) ?_
    simp only [Act.put, List.setIfInBounds_toArray, List.set_cons_succ, List.set_cons_zero]
    refine wpList_val (wanted_of rfl rfl rfl rfl) (exec_mv rfl (ev rfl)) ?_
    simp only [Act.put, List.setIfInBounds_toArray, List.set_cons_succ, List.set_cons_zero]
    refine wpList_call (wanted_of rfl rfl rfl rfl) (exec_cl Try.call16 rfl (evc (ev rfl) evn)) ?_
    refine (C.no_dirty w8 _ HN8.out).mono ?_
    rintro e w9 ⟨rfl, b3⟩
    have X9 := Lib.hid (blk_keep X8.out b3)
    have HW9 := Lib.hid (HW8.out.trans (b3.mono HW8.out.size))
    have HN9 := Lib.hid (C.no_below HN8.out b3)
    clear b3
    refine ⟨_, rfl, ?_⟩
    simp only [Act.put, List.setIfInBounds_toArray, List.set_cons_succ, List.set_cons_zero]
    refine wpList_val (wanted_of rfl rfl rfl rfl) (exec_lenE IntE rfl (ev rfl)) ?_
    simp only [Act.put, List.setIfInBounds_toArray, List.set_cons_succ, List.set_cons_zero]
    refine wpList_val (v := .bool true) (wanted_of rfl rfl rfl rfl) (exec_eqInt true rfl (ev rfl) evk rfl) ?_
    simp only [Act.put, List.setIfInBounds_toArray, List.set_cons_succ, List.set_cons_zero]
    refine wpList_valn (v := .bool true) rfl (exec_pt rfl (ev rfl) (ev rfl)) ?_
    simp only [Act.put, List.setIfInBounds_toArray, List.set_cons_succ, List.set_cons_zero]
    refine wpList_valn (v := .bool true) rfl (exec_mv rfl (ev rfl)) ?_
    simp only [Act.put, List.setIfInBounds_toArray, List.set_cons_succ, List.set_cons_zero]
    refine wpList_val (wanted_of rfl rfl rfl rfl) (exec_mv rfl (ev rfl)) ?_
    simp only [Act.put, List.setIfInBounds_toArray, List.set_cons_succ, List.set_cons_zero]
    refine wpList_call (wanted_of rfl rfl rfl rfl) (exec_cl Try.call18 rfl (evc (ev rfl) evn)) ?_
    refine (C.no_first w9 _ HN9.out).mono ?_
    rintro e w10 ⟨rfl, b3⟩
    have X10 := Lib.hid (blk_keep X9.out b3)
    have HW10 := Lib.hid (HW9.out.trans (b3.mono HW9.out.size))
    have HN10 := Lib.hid (C.no_below HN9.out b3)
    clear b3
    refine ⟨_, rfl, ?_⟩
    simp only [Act.put, List.setIfInBounds_toArray, List.set_cons_succ, List.set_cons_zero]
    refine wpList_val (v := .bool true) (wanted_of rfl rfl rfl rfl) (exec_eqInt true rfl (ev rfl) evk rfl) ?_
    simp only [Act.put, List.setIfInBounds_toArray, List.set_cons_succ, List.set_cons_zero]
    refine wpList_valn (v := .bool true) rfl (exec_pt rfl (ev rfl) (ev rfl)) ?_
    simp only [Act.put, List.setIfInBounds_toArray, List.set_cons_succ, List.set_cons_zero]
    refine wpList_valn (v := .bool true) rfl (exec_mv rfl (ev rfl)) ?_
    simp only [Act.put, List.setIfInBounds_toArray, List.set_cons_succ, List.set_cons_zero]
    refine wpList_val (wanted_of rfl rfl rfl rfl) (exec_mv rfl (ev rfl)) ?_
    simp only [Act.put, List.setIfInBounds_toArray, List.set_cons_succ, List.set_cons_zero]
    refine wpList_call (wanted_of rfl rfl rfl rfl) (exec_cl Try.call20 rfl (evc (ev rfl) evn)) ?_
    refine (C.no_members w10 _ HN10.out).mono ?_
    rintro e w11 ⟨rfl, b3⟩
    have X11 := Lib.hid (blk_keep X10.out b3)
    have HW11 := Lib.hid (HW10.out.trans (b3.mono HW10.out.size))
    have HN11 := Lib.hid (C.no_below HN10.out b3)
    clear b3
    refine ⟨_, rfl, ?_⟩
    simp only [Act.put, List.setIfInBounds_toArray, List.set_cons_succ, List.set_cons_zero]
    refine wpList_val (v := .bool true) (wanted_of rfl rfl rfl rfl) (exec_eqInt true rfl (ev rfl) evk rfl) ?_
    simp only [Act.put, List.setIfInBounds_toArray, List.set_cons_succ, List.set_cons_zero]
    refine wpList_valn (v := .bool true) rfl (exec_pt rfl (ev rfl) (ev rfl)) ?_
    simp only [Act.put, List.setIfInBounds_toArray, List.set_cons_succ, List.set_cons_zero]
    refine wpList_valn (v := .bool true) rfl (exec_mv rfl (ev rfl)) ?_
    simp only [Act.put, List.setIfInBounds_toArray, List.set_cons_succ, List.set_cons_zero]
    refine wpList_call (wanted_of rfl rfl rfl rfl) (exec_cl Try.call9 rfl evn) ?_
    refine (lnlives C w11).mono ?_
    rintro e wz ⟨rfl, b9⟩
    have HZ := Lib.hid (HW11.out.trans (b9.mono HW11.out.size))
    clear b9
    refine ⟨_, rfl, ?_⟩
    simp only [Act.put, List.setIfInBounds_toArray, List.set_cons_succ, List.set_cons_zero]
    refine wpList_valn (v := .bool true) rfl (exec_pt rfl (ev rfl) (ev rfl)) ?_
    simp only [Act.put, List.setIfInBounds_toArray, List.set_cons_succ, List.set_cons_zero]
    refine wpList_valn (v := .bool true) rfl (exec_as rfl (ev rfl)) ?_
    simp only [Act.put, List.setIfInBounds_toArray, List.set_cons_succ, List.set_cons_zero]
    refine wpList_nil ?_
    go_wp2_with fail
    go_ret
    exact ⟨rfl, HZ.out⟩
  · go_upto_region 2 with fail
    refine wp_region_lit ?_
    refine wpList_valn (v := .bool true) rfl (exec_mv rfl (ev rfl)) ?_
    simp only [Act.put, List.setIfInBounds_toArray, List.set_cons_succ, List.set_cons_zero]
    refine wpList_nil ?_
    go_upto_region 3 with fail
    refine wp_region_lit ?_
    refine wpList_valn rfl (exec_bld0 rfl (C.bld0 _)) ?_
    simp only [Act.put, List.setIfInBounds_toArray, List.set_cons_succ, List.set_cons_zero]
    refine wpList_valn rfl (exec_boxT (cs := C.zc) rfl (ev rfl)) ?_
    simp only [Act.put, List.setIfInBounds_toArray, List.set_cons_succ, List.set_cons_zero]
    have hbx := (Below.refl w1.heap.size w1).alloc (Nat.le_refl _) (.cells C.zc.toArray 54)
    have X2 := Lib.hid (blk_keep X1.out hbx)
    have HW2 := Lib.hid (HW1.out.trans (hbx.mono HW1.out.size))
    have HN2 := Lib.hid (C.no_zero w1)
    clear hbx
    generalize w1.alloc (.cells C.zc.toArray 54) = w2 at *
    refine wpList_valn rfl (exec_as rfl (ev rfl)) ?_
    simp only [Act.put, List.setIfInBounds_toArray, List.set_cons_succ, List.set_cons_zero]
    refine wpList_nil ?_
    go_upto_region 4 with fail
    refine wp_region_lit ?_
    refine wpList_valn rfl (exec_mv rfl (ev rfl)) ?_
    simp only [Act.put, List.setIfInBounds_toArray, List.set_cons_succ, List.set_cons_zero]
    refine wpList_valn rfl (exec_mv rfl (ev rfl)) ?_
    simp only [Act.put, List.setIfInBounds_toArray, List.set_cons_succ, List.set_cons_zero]
    refine wpList_call rfl (exec_cl Try.call17 rfl (evc (ev rfl) (evc (ev rfl) evn))) ?_
    refine (C.no_get w2 _ m HN2.out).mono ?_
    rintro e w3 ⟨rfl, b3⟩
    have X3 := Lib.hid (blk_keep X2.out b3)
    have HW3 := Lib.hid (HW2.out.trans (b3.mono HW2.out.size))
    have HN3 := Lib.hid (C.no_below HN2.out b3)
    clear b3
    refine ⟨_, rfl, ?_⟩
    simp only [Act.put, List.setIfInBounds_toArray, List.set_cons_succ, List.set_cons_zero]
    refine wpList_valn rfl (exec_mv rfl (ev rfl)) ?_
    simp only [Act.put, List.setIfInBounds_toArray, List.set_cons_succ, List.set_cons_zero]
    refine wpList_valn rfl (exec_ext rfl (ev rfl) rfl) ?_
    simp only [Act.put, List.setIfInBounds_toArray, List.set_cons_succ, List.set_cons_zero]
    refine wpList_valn (v := .bool false) rfl (exec_ext rfl (ev rfl) rfl) ?_
    simp only [Act.put, List.setIfInBounds_toArray, List.set_cons_succ, List.set_cons_zero]
    refine wpList_valn rfl (exec_alloc rfl) ?_
    simp only [Act.put, List.setIfInBounds_toArray, List.set_cons_succ, List.set_cons_zero]
    refine wpList_nuln rfl (exec_fillN (c := zeroB) rfl (ev rfl) (ev rfl)) ?_
    simp only [Act.put, List.setIfInBounds_toArray, List.set_cons_succ, List.set_cons_zero]
    have hbx := (Below.refl w3.heap.size w3).alloc (Nat.le_refl _) (.cells (cel zeroB).toArray 33)
    have X4 := Lib.hid (blk_keep X3.out hbx)
    have HW4 := Lib.hid (HW3.out.trans (hbx.mono HW3.out.size))
    have HN4 := Lib.hid (C.no_below HN3.out hbx)
    clear hbx
    generalize w3.alloc (.cells (cel zeroB).toArray 33) = w4 at *
    refine wpList_valn (v := .bool false) rfl (exec_as rfl (ev rfl)) ?_
    simp only [Act.put, List.setIfInBounds_toArray, List.set_cons_succ, List.set_cons_zero]
    refine wpList_nil ?_
    go_upto_region 5 with fail
    refine wp_region_lit ?_
    refine wpList_valn rfl (exec_mv rfl (ev rfl)) ?_
    simp only [Act.put, List.setIfInBounds_toArray, List.set_cons_succ, List.set_cons_zero]
    refine wpList_valn rfl (exec_mv rfl (ev rfl)) ?_
    simp only [Act.put, List.setIfInBounds_toArray, List.set_cons_succ, List.set_cons_zero]
    refine wpList_valn rfl (exec_load rfl (ev rfl) (blk_range X4.out)) ?_
    simp only [Act.put, List.setIfInBounds_toArray, List.set_cons_succ, List.set_cons_zero]
    refine wpList_call rfl (exec_cl Try.call12 rfl (evc (ev rfl) (evc (ev rfl) (evc (ev rfl) evn)))) ?_
    refine (C.no_learn w4 _ m x HN4.out).mono ?_
    rintro e w5 ⟨rfl, b3⟩
    have X5 := Lib.hid (blk_keep X4.out b3)
    have HW5 := Lib.hid (HW4.out.trans (b3.mono HW4.out.size))
    have HN5 := Lib.hid (C.no_below HN4.out b3)
    clear b3
    refine ⟨_, rfl, ?_⟩
    simp only [Act.put, List.setIfInBounds_toArray, List.set_cons_succ, List.set_cons_zero]
    refine wpList_valn (v := .bool true) rfl (exec_eqInt true rfl (ev rfl) evk rfl) ?_
    simp only [Act.put, List.setIfInBounds_toArray, List.set_cons_succ, List.set_cons_zero]
    refine wpList_valn (v := .bool true) rfl (exec_mv rfl (ev rfl)) ?_
    simp only [Act.put, List.setIfInBounds_toArray, List.set_cons_succ, List.set_cons_zero]
    refine wpList_val (wanted_of rfl rfl rfl rfl) (exec_mv rfl (ev rfl)) ?_
    simp only [Act.put, List.setIfInBounds_toArray, List.set_cons_succ, List.set_cons_zero]
    refine wpList_val (wanted_of rfl rfl rfl rfl) (exec_mv rfl (ev rfl)) ?_
    simp only [Act.put, List.setIfInBounds_toArray, List.set_cons_succ, List.set_cons_zero]
    refine wpList_val (wanted_of rfl rfl rfl rfl) (exec_load rfl (ev rfl) (blk_range X5.out)) ?_
    simp only [Act.put, List.setIfInBounds_toArray, List.set_cons_succ, List.set_cons_zero]
    refine wpList_val (wanted_of rfl rfl rfl rfl) (exec_mv rfl (ev rfl)) ?_
    simp only [Act.put, List.setIfInBounds_toArray, List.set_cons_succ, List.set_cons_zero]
    refine wpList_call (wanted_of rfl rfl rfl rfl) (exec_cl Try.call13 rfl (evc (ev rfl) (evc (ev rfl) (evc (ev rfl) (evc (ev rfl) evn))))) ?_
    refine (C.no_set w5 _ m x Q HN5.out).mono ?_
    rintro e w6 ⟨rfl, b3⟩
    have X6 := Lib.hid (blk_keep X5.out b3)
    have HW6 := Lib.hid (HW5.out.trans (b3.mono HW5.out.size))
    have HN6 := Lib.hid (C.no_below HN5.out b3)
    clear b3
    refine ⟨_, rfl, ?_⟩
    simp only [Act.put, List.setIfInBounds_toArray, List.set_cons_succ, List.set_cons_zero]
    refine wpList_val (v := .bool true) (wanted_of rfl rfl rfl rfl) (exec_eqInt true rfl (ev rfl) evk rfl) ?_
    simp only [Act.put, List.setIfInBounds_toArray, List.set_cons_succ, List.set_cons_zero]
    refine wpList_valn (v := .bool true) rfl (exec_pt rfl (ev rfl) (ev rfl)) ?_
    simp only [Act.put, List.setIfInBounds_toArray, List.set_cons_succ, List.set_cons_zero]
    refine wpList_valn (v := .bool true) rfl (exec_mv rfl (ev rfl)) ?_
    simp only [Act.put, List.setIfInBounds_toArray, List.set_cons_succ, List.set_cons_zero]
    refine wpList_val (wanted_of rfl rfl rfl rfl) (exec_mv rfl (ev rfl)) ?_
    simp only [Act.put, List.setIfInBounds_toArray, List.set_cons_succ, List.set_cons_zero]
    refine wpList_val (wanted_of rfl rfl rfl rfl) (exec_mv rfl (ev rfl)) ?_
    simp only [Act.put, List.setIfInBounds_toArray, List.set_cons_succ, List.set_cons_zero]
    refine wpList_call (wanted_of rfl rfl rfl rfl) (exec_cl Try.call14 rfl (evc (ev rfl) (evc (ev rfl) evn))) ?_
    refine (C.no_forget w6 _ m HN6.out).mono ?_
    rintro e w7 ⟨rfl, b3⟩
    have X7 := Lib.hid (blk_keep X6.out b3)
    have HW7 := Lib.hid (HW6.out.trans (b3.mono HW6.out.size))
    have HN7 := Lib.hid (C.no_below HN6.out b3)
    clear b3
    refine ⟨_, rfl, ?_⟩
    simp only [Act.put, List.setIfInBounds_toArray, List.set_cons_succ, List.set_cons_zero]
    refine wpList_val (v := .bool true) (wanted_of rfl rfl rfl rfl) (exec_eqInt true rfl (ev rfl) evk rfl) ?_
    simp only [Act.put, List.setIfInBounds_toArray, List.set_cons_succ, List.set_cons_zero]
    refine wpList_valn (v := .bool true) rfl (exec_pt rfl (ev rfl) (ev rfl)) ?_
    simp only [Act.put, List.setIfInBounds_toArray, List.set_cons_succ, List.set_cons_zero]
    refine wpList_valn (v := .bool true) rfl (exec_mv rfl (ev rfl)) ?_
    simp only [Act.put, List.setIfInBounds_toArray, List.set_cons_succ, List.set_cons_zero]
    refine wpList_val (wanted_of rfl rfl rfl rfl) (exec_mv rfl (ev rfl)) ?_
    simp only [Act.put, List.setIfInBounds_toArray, List.set_cons_succ, List.set_cons_zero]
    refine wpList_call (wanted_of rfl rfl rfl rfl) (exec_cl Try.call15 rfl (evc (ev rfl) evn)) ?_
    refine (C.no_clean w7 _ HN7.out).mono ?_
    rintro e w8 ⟨rfl, b3⟩
    have X8 := Lib.hid (blk_keep X7.out b3)
    have HW8 := Lib.hid (HW7.out.trans (b3.mono HW7.out.size))
    have HN8 := Lib.hid (C.no_below HN7.out b3)
    clear b3
    refine ⟨_, rfl, ?_⟩
    simp only [Act.put, List.setIfInBounds_toArray, List.set_cons_succ, List.set_cons_zero]
    refine wpList_val (v := .bool true) (wanted_of rfl rfl rfl rfl) (exec_eqInt true rfl (ev rfl) evk rfl) ?_
    simp only [Act.put, List.setIfInBounds_toArray, List.set_cons_succ, List.set_cons_zero]
    refine wpList_valn (v := .bool true) rfl (exec_pt rfl (ev rfl) (ev rfl)) ?_
    simp only [Act.put, List.setIfInBounds_toArray, List.set_cons_succ, List.set_cons_zero]
    refine wpList_valn (v := .bool true) rfl (exec_mv rfl (ev rfl)) ?_
    simp only [Act.put, List.setIfInBounds_toArray, List.set_cons_succ, List.set_cons_zero]
    refine wpList_val (v := .bool false) (wanted_of rfl rfl rfl rfl) (exec_mv rfl (ev rfl)) ?_
    simp only [Act.put, List.setIfInBounds_toArray, List.set_cons_succ, List.set_cons_zero]
    refine wpList_val (v := .bool true) (wanted_of rfl rfl rfl rfl) (exec_not false rfl (ev rfl)) ?_
    simp only [Act.put, List.setIfInBounds_toArray, List.set_cons_succ, List.set_cons_zero]
    refine wpList_valn (v := .bool true) rfl (exec_pt rfl (ev rfl) (ev rfl)) ?_
    simp only [Act.put, List.setIfInBounds_toArray, List.set_cons_succ, List.set_cons_zero]
    refine wpList_valn (v := .bool true) rfl (exec_mv rfl (ev rfl)) ?_
    simp only [Act.put, List.setIfInBounds_toArray, List.set_cons_succ, List.set_cons_zero]
    refine wpList_val (wanted_of rfl rfl rfl rfl) (exec_mv rfl (ev rfl)) ?_
    simp only [Act.put, List.setIfInBounds_toArray, List.set_cons_succ, List.set_cons_zero]
    refine wpList_call (wanted_of rfl rfl rfl rfl) (exec_cl Try.call16 rfl (evc (ev rfl) evn)) ?_
    refine (C.no_dirty w8 _ HN8.out).mono ?_
    rintro e w9 ⟨rfl, b3⟩
    have X9 := Lib.hid (blk_keep X8.out b3)
    have HW9 := Lib.hid (HW8.out.trans (b3.mono HW8.out.size))
    have HN9 := Lib.hid (C.no_below HN8.out b3)
    clear b3
    refine ⟨_, rfl, ?_⟩
    simp only [Act.put, List.setIfInBounds_toArray, List.set_cons_succ, List.set_cons_zero]
    refine wpList_val (wanted_of rfl rfl rfl rfl) (exec_lenE IntE rfl (ev rfl)) ?_
    simp only [Act.put, List.setIfInBounds_toArray, List.set_cons_succ, List.set_cons_zero]
    refine wpList_val (v := .bool true) (wanted_of rfl rfl rfl rfl) (exec_eqInt true rfl (ev rfl) evk rfl) ?_
    simp only [Act.put, List.setIfInBounds_toArray, List.set_cons_succ, List.set_cons_zero]
    refine wpList_valn (v := .bool true) rfl (exec_pt rfl (ev rfl) (ev rfl)) ?_
    simp only [Act.put, List.setIfInBounds_toArray, List.set_cons_succ, List.set_cons_zero]
    refine wpList_valn (v := .bool true) rfl (exec_mv rfl (ev rfl)) ?_
    simp only [Act.put, List.setIfInBounds_toArray, List.set_cons_succ, List.set_cons_zero]
    refine wpList_val (wanted_of rfl rfl rfl rfl) (exec_mv rfl (ev rfl)) ?_
    simp only [Act.put, List.setIfInBounds_toArray, List.set_cons_succ, List.set_cons_zero]
    refine wpList_call (wanted_of rfl rfl rfl rfl) (exec_cl Try.call18 rfl (evc (ev rfl) evn)) ?_
    refine (C.no_first w9 _ HN9.out).mono ?_
    rintro e w10 ⟨rfl, b3⟩
    have X10 := Lib.hid (blk_keep X9.out b3)
    have HW10 := Lib.hid (HW9.out.trans (b3.mono HW9.out.size))
    have HN10 := Lib.hid (C.no_below HN9.out b3)
    clear b3
    refine ⟨_, rfl, ?_⟩
    simp only [Act.put, List.setIfInBounds_toArray, List.set_cons_succ, List.set_cons_zero]
    refine wpList_val (v := .bool true) (wanted_of rfl rfl rfl rfl) (exec_eqInt true rfl (ev rfl) evk rfl) ?_
    simp only [Act.put, List.setIfInBounds_toArray, List.set_cons_succ, List.set_cons_zero]
    refine wpList_valn (v := .bool true) rfl (exec_pt rfl (ev rfl) (ev rfl)) ?_
    simp only [Act.put, List.setIfInBounds_toArray, List.set_cons_succ, List.set_cons_zero]
    refine wpList_valn (v := .bool true) rfl (exec_mv rfl (ev rfl)) ?_
    simp only [Act.put, List.setIfInBounds_toArray, List.set_cons_succ, List.set_cons_zero]
    refine wpList_val (wanted_of rfl rfl rfl rfl) (exec_mv rfl (ev rfl)) ?_
    simp only [Act.put, List.setIfInBounds_toArray, List.set_cons_succ, List.set_cons_zero]
    refine wpList_call (wanted_of rfl rfl rfl rfl) (exec_cl Try.call20 rfl (evc (ev rfl) evn)) ?_
    refine (C.no_members w10 _ HN10.out).mono ?_
    rintro e w11 ⟨rfl, b3⟩
    have X11 := Lib.hid (blk_keep X10.out b3)
    have HW11 := Lib.hid (HW10.out.trans (b3.mono HW10.out.size))
    have HN11 := Lib.hid (C.no_below HN10.out b3)
    clear b3
    refine ⟨_, rfl, ?_⟩
    simp only [Act.put, List.setIfInBounds_toArray, List.set_cons_succ, List.set_cons_zero]
    refine wpList_val (v := .bool true) (wanted_of rfl rfl rfl rfl) (exec_eqInt true rfl (ev rfl) evk rfl) ?_
    simp only [Act.put, List.setIfInBounds_toArray, List.set_cons_succ, List.set_cons_zero]
    refine wpList_valn (v := .bool true) rfl (exec_pt rfl (ev rfl) (ev rfl)) ?_
    simp only [Act.put, List.setIfInBounds_toArray, List.set_cons_succ, List.set_cons_zero]
    refine wpList_valn (v := .bool true) rfl (exec_mv rfl (ev rfl)) ?_
    simp only [Act.put, List.setIfInBounds_toArray, List.set_cons_succ, List.set_cons_zero]
    refine wpList_call (wanted_of rfl rfl rfl rfl) (exec_cl Try.call9 rfl evn) ?_
    refine (lnlives C w11).mono ?_
    rintro e wz ⟨rfl, b9⟩
    have HZ := Lib.hid (HW11.out.trans (b9.mono HW11.out.size))
    clear b9
    refine ⟨_, rfl, ?_⟩
    simp only [Act.put, List.setIfInBounds_toArray, List.set_cons_succ, List.set_cons_zero]
    refine wpList_valn (v := .bool true) rfl (exec_pt rfl (ev rfl) (ev rfl)) ?_
    simp only [Act.put, List.setIfInBounds_toArray, List.set_cons_succ, List.set_cons_zero]
    refine wpList_valn (v := .bool true) rfl (exec_as rfl (ev rfl)) ?_
    simp only [Act.put, List.setIfInBounds_toArray, List.set_cons_succ, List.set_cons_zero]
    refine wpList_nil ?_
    go_wp2_with fail
    go_ret
    exact ⟨rfl, HZ.out⟩
end Go.Proofs.Ytmhcpiafhbnclaa
