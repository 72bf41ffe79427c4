/-
  ashlarlaw11.CellsBack walked.
-/
import Derived.Test.YtfemlaombdeebaaCrv
import Derived.OrdersHeld
namespace Go.Proofs.Ytfemlaombdeebaa
open Go.RowKit
set_option linter.unusedVariables false
set_option linter.unusedSimpArgs false
set_option maxRecDepth 100000

section
variable {P : Program} {md : Region.Mode} {l : List Oper} {Q : Exit → Act → World → Prop} {S : World → Prop} {K : Act → World → Prop} {fuel : Nat} {listed : Array Bool} {a : Act} {w w' : World} {o : Oper} {v : Value}
/-- One of those that may come up: a call, or an operation that turns the world. -/
theorem op_call (i : Nat) {f : FuncId} {vs : Array Value} (hi : l[i]? = some o) (hw : Region.wanted o (yielded l.toArray a.tmps) = true) (h : (execOp a.eval o).run P w = .ok (.enter f vs) w)
    (hc : Calls P f vs w fun e w' => ∃ v, e = .returned v ∧ K (a.put o.dst v) w') : wpOp P l.toArray Q i K a w := by
  unfold wpOp
  simp only [List.getElem?_toArray, hi, hw, if_true]
  refine .inl ?_
  unfold Oper.wp
  rw [h]
  exact hc.mono fun e w' ⟨v, he, hk⟩ => by subst he; exact hk
theorem op_val (i : Nat) (hi : l[i]? = some o) (hw : Region.wanted o (yielded l.toArray a.tmps) = true) (h : (execOp a.eval o).run P w = .ok (.value v) w') (hk : K (a.put o.dst v) w') : wpOp P l.toArray Q i K a w := by
  unfold wpOp
  simp only [List.getElem?_toArray, hi, hw, if_true]
  refine .inl ?_
  unfold Oper.wp
  rw [h]
  exact hk
theorem held_two (i j : Nat) (hr : Region.ready md l.toArray listed = [i, j])
    (h1 : wpOp P l.toArray Q i (fun a' w' => S w' ∧ wpAnyH P md l.toArray Q S fuel (listed.setIfInBounds i true) a' w') a w) (h2 : wpOp P l.toArray Q j (fun a' w' => S w' ∧ wpAnyH P md l.toArray Q S fuel (listed.setIfInBounds j true) a' w') a w) : wpAnyH P md l.toArray Q S (fuel + 1) listed a w :=
  wpAnyH_all hr (by simp) fun k hk => by
    have hk2 : k = i ∨ k = j := by simpa using hk
    rcases hk2 with rfl | rfl
    · exact h1
    · exact h2
theorem held_one (i : Nat) (hr : Region.ready md l.toArray listed = [i])
    (h1 : wpOp P l.toArray Q i (fun a' w' => S w' ∧ wpAnyH P md l.toArray Q S fuel (listed.setIfInBounds i true) a' w') a w) : wpAnyH P md l.toArray Q S (fuel + 1) listed a w :=
  wpAnyH_all hr (by simp) fun k hk => by
    obtain rfl : k = i := by simpa using hk
    exact h1
end
theorem exec_appBv {o : Oper} {a : Act} {w w' : World} {s x : Operand} {A : Option Addr} {m c : Nat} {v v' : Value} (ho : o.op = .call { callee := .builtin .append, args := #[s, x], argTypes := #[24, 24] }) (hs : a.eval s = v) (hx : a.eval x = .slice A m c)
    (hrun : (Builtin.append_ #[24, 24] o.type #[v, .slice A m c]).run Try.prog w = .ok v' w') : (execOp a.eval o).run Try.prog w = .ok (.value v') w' := by
  simp [execOp, ho, resolve, invoke, builtin, hs, hx, hrun, Result.andThen]
theorem back_sizes {l : List Cl} (h : recE l = 0) (more : Blk) : (recL l).length = sizN (l.length : Int) ∧ 2 ≤ (recL l).length ∧ (recL l).length ≤ 34 ∧ rgE (recL l ++ [more]) (l.length : Int) = 5 ∧ rgE ((recL l).take ((recL l).length - 1)) (l.length : Int) = 4 := by
  obtain ⟨h1, h2, hb⟩ := of_recE h
  have hs := sizN_of h1 h2
  have hl := recL_length l
  have hh : 1 ≤ hd l.length ∧ hd l.length ≤ 2 := by unfold hd; omega
  refine ⟨by rw [hs, hl], by omega, by omega, rgE_more (by omega) (by rw [List.length_append, hl, hs]; simp), rgE_short (by omega) (by rw [List.length_take, hl, hs]; omega)⟩
set_option maxHeartbeats 8000000 in
theorem cellsBack_no (A : Option Addr) (n c : Nat) (l : List Cl) (b : Blk) (w : World) (hl : RdE CellE w w.heap.size A n l) (hn : n ≤ 1759218604390) (he : recE l ≠ 0) :
    Calls Try.prog 4 #[.slice A n c, blk b] w fun e w' => e = .returned (.bool true) ∧ Below w.heap.size w w' := by
  have HL := Lib.hid hl
  have HB1 := Lib.hid ((Below.refl w.heap.size w).alloc (Nat.le_refl _) (.cells (cel b).toArray 34))
  have HNE : Hid ((((recE l : Nat) : Int) != 0) = true) := Lib.hid (by simp; omega)
  have HP := Lib.hid (recP_no he)
  have HN : Hid (n ≤ maxLen) := Lib.hid (by unfold maxLen; omega)
  clear hl
  go_enter Try.func4, Try.ntmps4
  go_upto_region 1 with (first | (refine wpList_valn rfl (exec_box rfl rfl) ?_) | fail)
  generalize w.alloc (.cells (cel b).toArray 34) = w1 at *
  refine wp_region_lit ?_
  refine wpList_valn rfl (exec_mv rfl (ev rfl)) ?_
  simp only [Act.put, List.setIfInBounds_toArray, List.set_cons_succ, List.set_cons_zero]
  refine wpList_call rfl (exec_cl Try.call6 rfl (evc (ev rfl) evn)) ?_
  refine (pcput A n c w.heap.size w1.heap.size l w1 (Lib.hid rfl) (HL.out.below HB1.out) HB1.out.size HN.out).mono ?_
  rintro e w2 ⟨v, rfl, _, hb⟩
  have HB2 := Lib.hid (HB1.out.trans (hb.mono HB1.out.size))
  clear hb
  refine ⟨_, rfl, ?_⟩
  simp only [Act.put, List.setIfInBounds_toArray, List.set_cons_succ, List.set_cons_zero]
  refine wpList_valn rfl (exec_mv rfl (ev rfl)) ?_
  simp only [Act.put, List.setIfInBounds_toArray, List.set_cons_succ, List.set_cons_zero]
  refine wpList_valn rfl (exec_ext rfl (ev rfl) rfl) ?_
  simp only [Act.put, List.setIfInBounds_toArray, List.set_cons_succ, List.set_cons_zero]
  refine wpList_valn rfl (exec_ext rfl (ev rfl) rfl) ?_
  simp only [Act.put, List.setIfInBounds_toArray, List.set_cons_succ, List.set_cons_zero]
  refine wpList_valn rfl (exec_as rfl (ev rfl)) ?_
  simp only [Act.put, List.setIfInBounds_toArray, List.set_cons_succ, List.set_cons_zero]
  refine wpList_valn rfl (exec_as rfl (ev rfl)) ?_
  simp only [Act.put, List.setIfInBounds_toArray, List.set_cons_succ, List.set_cons_zero]
  refine wpList_nil ?_
  go_upto_region 2 with fail
  refine wp_region_lit ?_
  refine wpList_valn rfl (exec_mv rfl (ev rfl)) ?_
  simp only [Act.put, List.setIfInBounds_toArray, List.set_cons_succ, List.set_cons_zero]
  refine wpList_valn (v := .bool true) rfl (exec_neInt true rfl (ev rfl) evk HNE.out) ?_
  simp only [Act.put, List.setIfInBounds_toArray, List.set_cons_succ, List.set_cons_zero]
  refine wpList_nil ?_
  go_upto_region 3 with fail
  refine wp_region_lit ?_
  refine wpList_call rfl (exec_cl Try.call12 rfl evn) ?_
  refine (clives w2).mono ?_
  rintro e w3 ⟨rfl, hb⟩
  have HB3 := Lib.hid (HB2.out.trans (hb.mono HB2.out.size))
  clear hb
  refine ⟨_, rfl, ?_⟩
  simp only [Act.put, List.setIfInBounds_toArray, List.set_cons_succ, List.set_cons_zero]
  refine wpList_valn (v := .bool true) rfl (exec_as rfl (ev rfl)) ?_
  simp only [Act.put, List.setIfInBounds_toArray, List.set_cons_succ, List.set_cons_zero]
  refine wpList_nil ?_
  go_wp2_with fail
  go_ret
  exact ⟨rfl, HB3.out⟩
set_option maxHeartbeats 16000000 in
theorem cellsBack_yes (A : Option Addr) (n c : Nat) (l : List Cl) (b : Blk) (w : World) (hl : RdE CellE w w.heap.size A n l) (hn : n ≤ 1759218604390) (he : recE l = 0) :
    Calls Try.prog 4 #[.slice A n c, blk b] w fun e w' => e = .returned (.bool true) ∧ Below w.heap.size w w' := by
  have HL := Lib.hid hl
  have HLN := Lib.hid hl.1
  have HB1 := Lib.hid ((Below.refl w.heap.size w).alloc (Nat.le_refl _) (.cells (cel b).toArray 34))
  have HX1 := Lib.hid (range_new w (cel b) 34)
  have HZ1 := Lib.hid (show w.heap.size < (w.alloc (.cells (cel b).toArray 34)).heap.size by rw [World.size_alloc]; omega)
  have HN : Hid (n ≤ maxLen) := Lib.hid (by unfold maxLen; omega)
  have HE := Lib.hid he
  have HP := Lib.hid (recP_ok he)
  obtain ⟨hs1, hs2, hs3, hs4, hs5⟩ := back_sizes he b
  obtain ⟨hg1, hg2⟩ := rec_got he
  rw [hl.1] at hs1 hs4 hs5 hg1 hg2
  obtain ⟨R, hR⟩ : ∃ R, recL l = R := ⟨_, rfl⟩
  rw [hR] at hs1 hs2 hs3 hs4 hs5 hg1 hg2 HP
  obtain ⟨m, hm⟩ : ∃ m, R.length = m := ⟨_, rfl⟩
  rw [hm] at hs1 hs2 hs3 hs5
  have HML := Lib.hid hm
  have HSZ := Lib.hid hs1.symm
  have HGE := Lib.hid hg1
  have HGC := Lib.hid hg2
  have HGM := Lib.hid hs4
  have HGL := Lib.hid hs5
  have HM0 : Hid (((m : Int) == 0) = false) := Lib.hid (by simp; omega)
  have HMS : Hid (IntKind.i64.wrap ((m : Int) - 1) = ((m - 1 : Nat) : Int)) := Lib.hid (wrap_small _ (by omega) _ (by omega))
  have HM2 := Lib.hid hs2
  have HM34 := Lib.hid hs3
  clear hl he hs1 hs2 hs3 hs4 hs5 hg1 hg2 hR hm
  go_enter Try.func4, Try.ntmps4
  go_upto_region 1 with (first | (refine wpList_valn rfl (exec_box rfl rfl) ?_) | fail)
  generalize w.alloc (.cells (cel b).toArray 34) = w1 at *
  refine wp_region_lit ?_
  refine wpList_valn rfl (exec_mv rfl (ev rfl)) ?_
  simp only [Act.put, List.setIfInBounds_toArray, List.set_cons_succ, List.set_cons_zero]
  refine wpList_call rfl (exec_cl Try.call6 rfl (evc (ev rfl) evn)) ?_
  refine (pcput A n c w.heap.size w1.heap.size l w1 (Lib.hid rfl) (HL.out.below HB1.out) HB1.out.size HN.out).mono ?_
  rintro e w2 ⟨v, rfl, hmd, hb⟩
  rw [HE.out]
  rw [HP.out] at hmd
  have HB2 := Lib.hid (HB1.out.trans (hb.mono HB1.out.size))
  have HX2 := Lib.hid (range_below HX1.out HZ1.out hb)
  have HZ2 := Lib.hid (Nat.lt_of_lt_of_le HZ1.out hb.size)
  obtain ⟨Aa, ca, rfl, hr, hc1, hc2⟩ := hmd.open_ HML.out
  have HA2 := Lib.hid hr
  clear hb hmd hr HB1 HX1 HZ1
  refine ⟨_, rfl, ?_⟩
  simp only [Act.put, List.setIfInBounds_toArray, List.set_cons_succ, List.set_cons_zero]
  refine wpList_valn rfl (exec_mv rfl (ev rfl)) ?_
  simp only [Act.put, List.setIfInBounds_toArray, List.set_cons_succ, List.set_cons_zero]
  refine wpList_valn rfl (exec_ext rfl (ev rfl) rfl) ?_
  simp only [Act.put, List.setIfInBounds_toArray, List.set_cons_succ, List.set_cons_zero]
  refine wpList_valn rfl (exec_ext rfl (ev rfl) rfl) ?_
  simp only [Act.put, List.setIfInBounds_toArray, List.set_cons_succ, List.set_cons_zero]
  refine wpList_valn rfl (exec_as rfl (ev rfl)) ?_
  simp only [Act.put, List.setIfInBounds_toArray, List.set_cons_succ, List.set_cons_zero]
  refine wpList_valn rfl (exec_as rfl (ev rfl)) ?_
  simp only [Act.put, List.setIfInBounds_toArray, List.set_cons_succ, List.set_cons_zero]
  refine wpList_nil ?_
  go_upto_region 2 with fail
  refine wp_region_lit ?_
  refine wpList_valn rfl (exec_mv rfl (ev rfl)) ?_
  simp only [Act.put, List.setIfInBounds_toArray, List.set_cons_succ, List.set_cons_zero]
  refine wpList_valn (v := .bool false) rfl (exec_neInt false rfl (ev rfl) evk rfl) ?_
  simp only [Act.put, List.setIfInBounds_toArray, List.set_cons_succ, List.set_cons_zero]
  refine wpList_nil ?_
  go_upto_region 4 with fail
  refine wp_region_lit ?_
  refine wpList_valn rfl (exec_mv rfl (ev rfl)) ?_
  simp only [Act.put, List.setIfInBounds_toArray, List.set_cons_succ, List.set_cons_zero]
  refine wpList_valn rfl (exec_mv rfl (ev rfl)) ?_
  simp only [Act.put, List.setIfInBounds_toArray, List.set_cons_succ, List.set_cons_zero]
  refine wpList_valn rfl (exec_lenC rfl (ev rfl)) ?_
  simp only [Act.put, List.setIfInBounds_toArray, List.set_cons_succ, List.set_cons_zero]
  refine wpList_call rfl (exec_cl Try.call13 rfl (evc (ev rfl) (evc (ev rfl) evn))) ?_
  refine (pcget Aa m ca w2.heap.size w2.heap.size R n w2 (Lib.hid rfl) HA2.out (Nat.le_refl _) hc1 (by have := HM34.out; unfold maxLen; omega)).mono ?_
  rintro e w3 ⟨v, rfl, hmd, hb⟩
  rw [HGE.out]
  rw [HGC.out] at hmd
  have HB3 := Lib.hid (HB2.out.trans (hb.mono HB2.out.size))
  have HX3 := Lib.hid (range_below HX2.out HZ2.out hb)
  have HZ3 := Lib.hid (Nat.lt_of_lt_of_le HZ2.out hb.size)
  have HA3 := Lib.hid (HA2.out.step hb)
  obtain ⟨Ac, cc, rfl, hr, _, _⟩ := hmd.open_ HLN.out
  have HC3 := Lib.hid hr
  clear hb hmd hr HB2 HX2 HZ2 HA2
  refine ⟨_, rfl, ?_⟩
  simp only [Act.put, List.setIfInBounds_toArray, List.set_cons_succ, List.set_cons_zero]
  refine wpList_valn rfl (exec_mv rfl (ev rfl)) ?_
  simp only [Act.put, List.setIfInBounds_toArray, List.set_cons_succ, List.set_cons_zero]
  refine wpList_valn rfl (exec_ext rfl (ev rfl) rfl) ?_
  simp only [Act.put, List.setIfInBounds_toArray, List.set_cons_succ, List.set_cons_zero]
  refine wpList_valn rfl (exec_ext rfl (ev rfl) rfl) ?_
  simp only [Act.put, List.setIfInBounds_toArray, List.set_cons_succ, List.set_cons_zero]
  refine wpList_valn rfl (exec_as rfl (ev rfl)) ?_
  simp only [Act.put, List.setIfInBounds_toArray, List.set_cons_succ, List.set_cons_zero]
  refine wpList_valn rfl (exec_as rfl (ev rfl)) ?_
  simp only [Act.put, List.setIfInBounds_toArray, List.set_cons_succ, List.set_cons_zero]
  refine wpList_nil ?_
  go_upto_region 5 with fail
  refine wp_region_lit ?_
  refine wpList_valn rfl (exec_mv rfl (ev rfl)) ?_
  simp only [Act.put, List.setIfInBounds_toArray, List.set_cons_succ, List.set_cons_zero]
  refine wpList_valn (v := .bool false) rfl (exec_neInt false rfl (ev rfl) evk rfl) ?_
  simp only [Act.put, List.setIfInBounds_toArray, List.set_cons_succ, List.set_cons_zero]
  refine wpList_valn (v := .bool false) rfl (exec_mv rfl (ev rfl)) ?_
  simp only [Act.put, List.setIfInBounds_toArray, List.set_cons_succ, List.set_cons_zero]
  refine wpList_val (wanted_of rfl rfl rfl rfl) (exec_mv rfl (ev rfl)) ?_
  simp only [Act.put, List.setIfInBounds_toArray, List.set_cons_succ, List.set_cons_zero]
  refine wpList_val (wanted_of rfl rfl rfl rfl) (exec_mv rfl (ev rfl)) ?_
  simp only [Act.put, List.setIfInBounds_toArray, List.set_cons_succ, List.set_cons_zero]
  refine wpList_call (wanted_of rfl rfl rfl rfl) (exec_cl Try.call11 rfl (evc (ev rfl) (evc (ev rfl) evn))) ?_
  refine (cells_any Ac A n n cc c w3.heap.size l l w3 HC3.out ((HL.out.below HB3.out).more HB3.out.size) (Nat.le_refl _) HN.out).mono ?_
  rintro e w4 ⟨rfl, hb⟩
  rw [decide_eq_true (rfl : l = l)]
  have HB4 := Lib.hid (HB3.out.trans (hb.mono HB3.out.size))
  have HX4 := Lib.hid (range_below HX3.out HZ3.out hb)
  have HZ4 := Lib.hid (Nat.lt_of_lt_of_le HZ3.out hb.size)
  have HA4 := Lib.hid (HA3.out.step hb)
  clear hb HB3 HX3 HZ3 HA3 HC3
  refine ⟨_, rfl, ?_⟩
  simp only [Act.put, List.setIfInBounds_toArray, List.set_cons_succ, List.set_cons_zero]
  refine wpList_val (v := .bool false) (wanted_of rfl rfl rfl rfl) (exec_not true rfl (ev rfl)) ?_
  simp only [Act.put, List.setIfInBounds_toArray, List.set_cons_succ, List.set_cons_zero]
  refine wpList_valn (v := .bool false) rfl (exec_pf rfl (ev rfl) (ev rfl)) ?_
  simp only [Act.put, List.setIfInBounds_toArray, List.set_cons_succ, List.set_cons_zero]
  refine wpList_valn (v := .bool false) rfl (exec_mv rfl (ev rfl)) ?_
  simp only [Act.put, List.setIfInBounds_toArray, List.set_cons_succ, List.set_cons_zero]
  refine wpList_val (wanted_of rfl rfl rfl rfl) (exec_mv rfl (ev rfl)) ?_
  simp only [Act.put, List.setIfInBounds_toArray, List.set_cons_succ, List.set_cons_zero]
  refine wpList_val (wanted_of rfl rfl rfl rfl) (exec_lenB rfl (ev rfl)) ?_
  simp only [Act.put, List.setIfInBounds_toArray, List.set_cons_succ, List.set_cons_zero]
  refine wpList_val (wanted_of rfl rfl rfl rfl) (exec_mv rfl (ev rfl)) ?_
  simp only [Act.put, List.setIfInBounds_toArray, List.set_cons_succ, List.set_cons_zero]
  refine wpList_val (wanted_of rfl rfl rfl rfl) (exec_lenC rfl (ev rfl)) ?_
  simp only [Act.put, List.setIfInBounds_toArray, List.set_cons_succ, List.set_cons_zero]
  refine wpList_call (wanted_of rfl rfl rfl rfl) (exec_cl Try.call8 rfl (evc (ev rfl) evn)) ?_
  refine (psize n w4).mono ?_
  rintro e w' ⟨rfl, rfl⟩
  rw [HSZ.out]
  refine ⟨_, rfl, ?_⟩
  simp only [Act.put, List.setIfInBounds_toArray, List.set_cons_succ, List.set_cons_zero]
  refine wpList_val (v := .bool false) (wanted_of rfl rfl rfl rfl) (exec_neInt false rfl (ev rfl) (ev rfl) (bne_self_eq_false _)) ?_
  simp only [Act.put, List.setIfInBounds_toArray, List.set_cons_succ, List.set_cons_zero]
  refine wpList_valn (v := .bool false) rfl (exec_pf rfl (ev rfl) (ev rfl)) ?_
  simp only [Act.put, List.setIfInBounds_toArray, List.set_cons_succ, List.set_cons_zero]
  refine wpList_valn (v := .bool false) rfl (exec_mv rfl (ev rfl)) ?_
  simp only [Act.put, List.setIfInBounds_toArray, List.set_cons_succ, List.set_cons_zero]
  refine wpList_val (wanted_of rfl rfl rfl rfl) (exec_mv rfl (ev rfl)) ?_
  simp only [Act.put, List.setIfInBounds_toArray, List.set_cons_succ, List.set_cons_zero]
  refine wpList_val (wanted_of rfl rfl rfl rfl) (exec_lenB rfl (ev rfl)) ?_
  simp only [Act.put, List.setIfInBounds_toArray, List.set_cons_succ, List.set_cons_zero]
  refine wpList_val (v := .bool false) (wanted_of rfl rfl rfl rfl) (exec_eqInt false rfl (ev rfl) evk HM0.out) ?_
  simp only [Act.put, List.setIfInBounds_toArray, List.set_cons_succ, List.set_cons_zero]
  refine wpList_valn (v := .bool false) rfl (exec_pf rfl (ev rfl) (ev rfl)) ?_
  simp only [Act.put, List.setIfInBounds_toArray, List.set_cons_succ, List.set_cons_zero]
  refine wpList_nil ?_
  go_upto_region 7 with fail
  have hS0 : Below w4.heap.size w4 w4.drew := bd (Below.refl _ _)
  have HS0 := Lib.hid hS0
  refine wp_region_held (S := fun w' => Below w4.heap.size w4 w') (by kernel_rfl) ?_
  change wpAnyH _ _ _ _ _ 13 _ _ w4.drew
  refine held_val 0 rfl (by kernel_rfl) (by kernel_rfl) (by kernel_rfl) rfl (fun w' hw => exec_mv rfl (ev rfl)) (fun _ _ _ h => h) HS0.out ?_
  simp only [Act.put, List.setIfInBounds_toArray, List.set_cons_succ, List.set_cons_zero]
  refine held_val 2 rfl (by kernel_rfl) (by kernel_rfl) (by kernel_rfl) rfl (fun w' hw => exec_load rfl (ev rfl) (range_below HX4.out HZ4.out hw)) (fun _ _ _ h => h) HS0.out ?_
  simp only [Act.put, List.setIfInBounds_toArray, List.set_cons_succ, List.set_cons_zero]
  refine held_val 5 rfl (by kernel_rfl) (by kernel_rfl) (by kernel_rfl) rfl (fun w' hw => exec_mv rfl (ev rfl)) (fun _ _ _ h => h) HS0.out ?_
  simp only [Act.put, List.setIfInBounds_toArray, List.set_cons_succ, List.set_cons_zero]
  refine held_val 6 rfl (by kernel_rfl) (by kernel_rfl) (by kernel_rfl) rfl (fun w' hw => exec_lenC rfl (ev rfl)) (fun _ _ _ h => h) HS0.out ?_
  simp only [Act.put, List.setIfInBounds_toArray, List.set_cons_succ, List.set_cons_zero]
  refine held_two 1 3 (by kernel_rfl) ?_ ?_
  · refine op_call 1 rfl rfl (exec_cl Try.call14 rfl (evc (ev rfl) evn)) ?_
    refine (copyB_any Aa m ca w4.heap.size w4.drew.heap.size R w4.drew (Lib.hid rfl) (HA4.out.below HS0.out) HS0.out.size (by have := HM34.out; omega)).mono ?_
    rintro e w5 ⟨v5, rfl, hmd, hb⟩
    have HS5 := Lib.hid (HS0.out.trans (hb.mono HS0.out.size))
    have HMD := Lib.hid (MadeB.base hmd HS0.out.size)
    refine ⟨_, rfl, HS5.out, ?_⟩
    simp only [Act.put, List.setIfInBounds_toArray, List.set_cons_succ, List.set_cons_zero]
    clear hmd hb HX4 HZ4
    refine held_one 3 (by kernel_rfl) ?_
    refine op_val 3 rfl rfl (exec_mk1B (b := b) rfl (ev rfl)) ?_
    have HS7 := Lib.hid (HS5.out.alloc HS5.out.size (.cells (cel b).toArray 34))
    have HQ := Lib.hid (rdB_new1 w5 b)
    rw [← World.size_alloc (w := w5) (o := .cells (cel b).toArray 34)] at HQ
    have HMD := Lib.hid (HMD.out.below ((Below.refl w5.heap.size w5).alloc (Nat.le_refl _) (.cells (cel b).toArray 34)))
    generalize hwq : w5.alloc (.cells (cel b).toArray 34) = w7 at *
    generalize w5.heap.size = q at *
    refine ⟨HS7.out, ?_⟩
    simp only [Act.put, List.setIfInBounds_toArray, List.set_cons_succ, List.set_cons_zero]
    obtain ⟨v8, w8, hrun, hm8, hg8⟩ := run_appB w7 _ w4.heap.size w7.heap.size 1 1 v5 R [b] (some ⟨q, 0, none⟩) HMD.out HQ.out HS7.out.size (by rw [HML.out]; have := HM34.out; omega)
    refine held_one 4 (by kernel_rfl) (op_val 4 rfl rfl (exec_appBv rfl (ev rfl) (ev rfl) hrun) ?_)
    have HS8 := Lib.hid (HS7.out.grown hg8 HS7.out.size (fun k hk => HMD.out.ltB k hk))
    obtain ⟨A8, c8, rfl, hr8, hc8, _⟩ := hm8.open_ (show (R ++ [b]).length = m + 1 by rw [List.length_append, HML.out]; rfl)
    have HR8 := Lib.hid hr8
    clear hm8 hr8 hg8 hrun HQ HMD
    refine ⟨HS8.out, ?_⟩
    simp only [Act.put, List.setIfInBounds_toArray, List.set_cons_succ, List.set_cons_zero]
    refine held_one 7 (by kernel_rfl) (op_call 7 rfl rfl (exec_cl Try.call13 rfl (evc (ev rfl) (evc (ev rfl) evn))) ?_)
    refine (pcget A8 (m + 1) c8 w8.heap.size w8.heap.size (R ++ [b]) n w8 (Lib.hid rfl) HR8.out (Nat.le_refl _) hc8 (by have := HM34.out; unfold maxLen; omega)).mono ?_
    rintro e w9 ⟨v9, rfl, _, hb⟩
    rw [HGM.out]
    have HS9 := Lib.hid (HS8.out.trans (hb.mono HS8.out.size))
    clear hb HS8 HR8
    refine ⟨_, rfl, HS9.out, ?_⟩
    simp only [Act.put, List.setIfInBounds_toArray, List.set_cons_succ, List.set_cons_zero]
    refine held_val 8 rfl (by kernel_rfl) (by kernel_rfl) (by kernel_rfl) rfl (fun w' hw => exec_mv rfl (ev rfl)) (fun _ _ _ h => h) HS9.out ?_
    simp only [Act.put, List.setIfInBounds_toArray, List.set_cons_succ, List.set_cons_zero]
    refine held_val 9 rfl (by kernel_rfl) (by kernel_rfl) (by kernel_rfl) rfl (fun w' hw => exec_ext rfl (ev rfl) rfl) (fun _ _ _ h => h) HS9.out ?_
    simp only [Act.put, List.setIfInBounds_toArray, List.set_cons_succ, List.set_cons_zero]
    refine held_val 10 rfl (by kernel_rfl) (by kernel_rfl) (by kernel_rfl) rfl (fun w' hw => exec_ext rfl (ev rfl) rfl) (fun _ _ _ h => h) HS9.out ?_
    simp only [Act.put, List.setIfInBounds_toArray, List.set_cons_succ, List.set_cons_zero]
    refine held_val 11 rfl (by kernel_rfl) (by kernel_rfl) (by kernel_rfl) rfl (fun w' hw => exec_as rfl (ev rfl)) (fun _ _ _ h => h) HS9.out ?_
    simp only [Act.put, List.setIfInBounds_toArray, List.set_cons_succ, List.set_cons_zero]
    refine held_val 12 rfl (by kernel_rfl) (by kernel_rfl) (by kernel_rfl) rfl (fun w' hw => exec_as rfl (ev rfl)) (fun _ _ _ h => h) HS9.out ?_
    simp only [Act.put, List.setIfInBounds_toArray, List.set_cons_succ, List.set_cons_zero]
    refine wpAnyH_done (by kernel_rfl) ?_ _
    have HB9 := Lib.hid (HB4.out.trans (HS9.out.mono HB4.out.size))
    have HA9 := Lib.hid (HA4.out.step HS9.out)
    clear HS9
    go_upto_region 8 with fail
    refine wp_region_lit ?_
    refine wpList_valn rfl (exec_mv rfl (ev rfl)) ?_
    simp only [Act.put, List.setIfInBounds_toArray, List.set_cons_succ, List.set_cons_zero]
    refine wpList_valn rfl (exec_mv rfl (ev rfl)) ?_
    simp only [Act.put, List.setIfInBounds_toArray, List.set_cons_succ, List.set_cons_zero]
    refine wpList_valn rfl (exec_lenB rfl (ev rfl)) ?_
    simp only [Act.put, List.setIfInBounds_toArray, List.set_cons_succ, List.set_cons_zero]
    refine wpList_valn rfl (exec_sub rfl (ev rfl) evk HMS.out) ?_
    simp only [Act.put, List.setIfInBounds_toArray, List.set_cons_succ, List.set_cons_zero]
    refine wpList_valn rfl (exec_head rfl (ev rfl) (ev rfl) (by omega)) ?_
    simp only [Act.put, List.setIfInBounds_toArray, List.set_cons_succ, List.set_cons_zero]
    refine wpList_valn rfl (exec_mv rfl (ev rfl)) ?_
    simp only [Act.put, List.setIfInBounds_toArray, List.set_cons_succ, List.set_cons_zero]
    refine wpList_valn rfl (exec_lenC rfl (ev rfl)) ?_
    simp only [Act.put, List.setIfInBounds_toArray, List.set_cons_succ, List.set_cons_zero]
    refine wpList_call rfl (exec_cl Try.call13 rfl (evc (ev rfl) (evc (ev rfl) evn))) ?_
    refine (pcget Aa (m - 1) ca w9.heap.size w9.heap.size (R.take (m - 1)) n w9 (Lib.hid rfl) (HA9.out.head (by omega)) (Nat.le_refl _) (by omega) (by have := HM34.out; unfold maxLen; omega)).mono ?_
    rintro e w10 ⟨v10, rfl, _, hb⟩
    rw [HGL.out]
    have HB10 := Lib.hid (HB9.out.trans (hb.mono HB9.out.size))
    clear hb HB9 HA9
    refine ⟨_, rfl, ?_⟩
    simp only [Act.put, List.setIfInBounds_toArray, List.set_cons_succ, List.set_cons_zero]
    refine wpList_valn rfl (exec_mv rfl (ev rfl)) ?_
    simp only [Act.put, List.setIfInBounds_toArray, List.set_cons_succ, List.set_cons_zero]
    refine wpList_valn rfl (exec_ext rfl (ev rfl) rfl) ?_
    simp only [Act.put, List.setIfInBounds_toArray, List.set_cons_succ, List.set_cons_zero]
    refine wpList_valn rfl (exec_ext rfl (ev rfl) rfl) ?_
    simp only [Act.put, List.setIfInBounds_toArray, List.set_cons_succ, List.set_cons_zero]
    refine wpList_valn rfl (exec_as rfl (ev rfl)) ?_
    simp only [Act.put, List.setIfInBounds_toArray, List.set_cons_succ, List.set_cons_zero]
    refine wpList_valn rfl (exec_as rfl (ev rfl)) ?_
    simp only [Act.put, List.setIfInBounds_toArray, List.set_cons_succ, List.set_cons_zero]
    refine wpList_nil ?_
    go_upto_region 9 with fail
    refine wp_region_lit ?_
    refine wpList_valn rfl (exec_mv rfl (ev rfl)) ?_
    simp only [Act.put, List.setIfInBounds_toArray, List.set_cons_succ, List.set_cons_zero]
    refine wpList_valn (v := .bool true) rfl (exec_eqInt true rfl (ev rfl) evk rfl) ?_
    simp only [Act.put, List.setIfInBounds_toArray, List.set_cons_succ, List.set_cons_zero]
    refine wpList_valn (v := .bool true) rfl (exec_mv rfl (ev rfl)) ?_
    simp only [Act.put, List.setIfInBounds_toArray, List.set_cons_succ, List.set_cons_zero]
    refine wpList_val (wanted_of rfl rfl rfl rfl) (exec_mv rfl (ev rfl)) ?_
    simp only [Act.put, List.setIfInBounds_toArray, List.set_cons_succ, List.set_cons_zero]
    refine wpList_val (v := .bool true) (wanted_of rfl rfl rfl rfl) (exec_eqInt true rfl (ev rfl) evk rfl) ?_
    simp only [Act.put, List.setIfInBounds_toArray, List.set_cons_succ, List.set_cons_zero]
    refine wpList_valn (v := .bool true) rfl (exec_pt rfl (ev rfl) (ev rfl)) ?_
    simp only [Act.put, List.setIfInBounds_toArray, List.set_cons_succ, List.set_cons_zero]
    refine wpList_valn (v := .bool true) rfl (exec_mv rfl (ev rfl)) ?_
    simp only [Act.put, List.setIfInBounds_toArray, List.set_cons_succ, List.set_cons_zero]
    refine wpList_call (wanted_of rfl rfl rfl rfl) (exec_cl Try.call12 rfl evn) ?_
    refine (clives w10).mono ?_
    rintro e w11 ⟨rfl, hb⟩
    have HB11 := Lib.hid (HB10.out.trans (hb.mono HB10.out.size))
    clear hb HB10
    refine ⟨_, rfl, ?_⟩
    simp only [Act.put, List.setIfInBounds_toArray, List.set_cons_succ, List.set_cons_zero]
    refine wpList_valn (v := .bool true) rfl (exec_pt rfl (ev rfl) (ev rfl)) ?_
    simp only [Act.put, List.setIfInBounds_toArray, List.set_cons_succ, List.set_cons_zero]
    refine wpList_valn (v := .bool true) rfl (exec_as rfl (ev rfl)) ?_
    simp only [Act.put, List.setIfInBounds_toArray, List.set_cons_succ, List.set_cons_zero]
    refine wpList_nil ?_
    go_wp2_with fail
    go_ret
    exact ⟨rfl, HB11.out⟩
  · refine op_val 3 rfl rfl (exec_mk1B (b := b) rfl (ev rfl)) ?_
    have HS6 := Lib.hid (HS0.out.alloc HS0.out.size (.cells (cel b).toArray 34))
    have HQ := Lib.hid (rdB_new1 w4.drew b)
    rw [← World.size_alloc (w := w4.drew) (o := .cells (cel b).toArray 34)] at HQ
    generalize hwq : w4.drew.alloc (.cells (cel b).toArray 34) = w6 at *
    generalize w4.drew.heap.size = q at *
    refine ⟨HS6.out, ?_⟩
    simp only [Act.put, List.setIfInBounds_toArray, List.set_cons_succ, List.set_cons_zero]
    refine held_one 1 (by kernel_rfl) ?_
    refine op_call 1 rfl rfl (exec_cl Try.call14 rfl (evc (ev rfl) evn)) ?_
    refine (copyB_any Aa m ca w4.heap.size w6.heap.size R w6 (Lib.hid rfl) (HA4.out.below HS6.out) HS6.out.size (by have := HM34.out; omega)).mono ?_
    rintro e w7 ⟨v5, rfl, hmd, hb⟩
    have HS7 := Lib.hid (HS6.out.trans (hb.mono HS6.out.size))
    have HMD := Lib.hid (MadeB.base hmd HS6.out.size)
    refine ⟨_, rfl, HS7.out, ?_⟩
    simp only [Act.put, List.setIfInBounds_toArray, List.set_cons_succ, List.set_cons_zero]
    have HQ := Lib.hid (HQ.out.step hb)
    clear hmd hb HX4 HZ4
    obtain ⟨v8, w8, hrun, hm8, hg8⟩ := run_appB w7 _ w4.heap.size w7.heap.size 1 1 v5 R [b] (some ⟨q, 0, none⟩) HMD.out HQ.out HS7.out.size (by rw [HML.out]; have := HM34.out; omega)
    refine held_one 4 (by kernel_rfl) (op_val 4 rfl rfl (exec_appBv rfl (ev rfl) (ev rfl) hrun) ?_)
    have HS8 := Lib.hid (HS7.out.grown hg8 HS7.out.size (fun k hk => HMD.out.ltB k hk))
    obtain ⟨A8, c8, rfl, hr8, hc8, _⟩ := hm8.open_ (show (R ++ [b]).length = m + 1 by rw [List.length_append, HML.out]; rfl)
    have HR8 := Lib.hid hr8
    clear hm8 hr8 hg8 hrun HQ HMD
    refine ⟨HS8.out, ?_⟩
    simp only [Act.put, List.setIfInBounds_toArray, List.set_cons_succ, List.set_cons_zero]
    refine held_one 7 (by kernel_rfl) (op_call 7 rfl rfl (exec_cl Try.call13 rfl (evc (ev rfl) (evc (ev rfl) evn))) ?_)
    refine (pcget A8 (m + 1) c8 w8.heap.size w8.heap.size (R ++ [b]) n w8 (Lib.hid rfl) HR8.out (Nat.le_refl _) hc8 (by have := HM34.out; unfold maxLen; omega)).mono ?_
    rintro e w9 ⟨v9, rfl, _, hb⟩
    rw [HGM.out]
    have HS9 := Lib.hid (HS8.out.trans (hb.mono HS8.out.size))
    clear hb HS8 HR8
    refine ⟨_, rfl, HS9.out, ?_⟩
    simp only [Act.put, List.setIfInBounds_toArray, List.set_cons_succ, List.set_cons_zero]
    refine held_val 8 rfl (by kernel_rfl) (by kernel_rfl) (by kernel_rfl) rfl (fun w' hw => exec_mv rfl (ev rfl)) (fun _ _ _ h => h) HS9.out ?_
    simp only [Act.put, List.setIfInBounds_toArray, List.set_cons_succ, List.set_cons_zero]
    refine held_val 9 rfl (by kernel_rfl) (by kernel_rfl) (by kernel_rfl) rfl (fun w' hw => exec_ext rfl (ev rfl) rfl) (fun _ _ _ h => h) HS9.out ?_
    simp only [Act.put, List.setIfInBounds_toArray, List.set_cons_succ, List.set_cons_zero]
    refine held_val 10 rfl (by kernel_rfl) (by kernel_rfl) (by kernel_rfl) rfl (fun w' hw => exec_ext rfl (ev rfl) rfl) (fun _ _ _ h => h) HS9.out ?_
    simp only [Act.put, List.setIfInBounds_toArray, List.set_cons_succ, List.set_cons_zero]
    refine held_val 11 rfl (by kernel_rfl) (by kernel_rfl) (by kernel_rfl) rfl (fun w' hw => exec_as rfl (ev rfl)) (fun _ _ _ h => h) HS9.out ?_
    simp only [Act.put, List.setIfInBounds_toArray, List.set_cons_succ, List.set_cons_zero]
    refine held_val 12 rfl (by kernel_rfl) (by kernel_rfl) (by kernel_rfl) rfl (fun w' hw => exec_as rfl (ev rfl)) (fun _ _ _ h => h) HS9.out ?_
    simp only [Act.put, List.setIfInBounds_toArray, List.set_cons_succ, List.set_cons_zero]
    refine wpAnyH_done (by kernel_rfl) ?_ _
    have HB9 := Lib.hid (HB4.out.trans (HS9.out.mono HB4.out.size))
    have HA9 := Lib.hid (HA4.out.step HS9.out)
    clear HS9
    go_upto_region 8 with fail
    refine wp_region_lit ?_
    refine wpList_valn rfl (exec_mv rfl (ev rfl)) ?_
    simp only [Act.put, List.setIfInBounds_toArray, List.set_cons_succ, List.set_cons_zero]
    refine wpList_valn rfl (exec_mv rfl (ev rfl)) ?_
    simp only [Act.put, List.setIfInBounds_toArray, List.set_cons_succ, List.set_cons_zero]
    refine wpList_valn rfl (exec_lenB rfl (ev rfl)) ?_
    simp only [Act.put, List.setIfInBounds_toArray, List.set_cons_succ, List.set_cons_zero]
    refine wpList_valn rfl (exec_sub rfl (ev rfl) evk HMS.out) ?_
    simp only [Act.put, List.setIfInBounds_toArray, List.set_cons_succ, List.set_cons_zero]
    refine wpList_valn rfl (exec_head rfl (ev rfl) (ev rfl) (by omega)) ?_
    simp only [Act.put, List.setIfInBounds_toArray, List.set_cons_succ, List.set_cons_zero]
    refine wpList_valn rfl (exec_mv rfl (ev rfl)) ?_
    simp only [Act.put, List.setIfInBounds_toArray, List.set_cons_succ, List.set_cons_zero]
    refine wpList_valn rfl (exec_lenC rfl (ev rfl)) ?_
    simp only [Act.put, List.setIfInBounds_toArray, List.set_cons_succ, List.set_cons_zero]
    refine wpList_call rfl (exec_cl Try.call13 rfl (evc (ev rfl) (evc (ev rfl) evn))) ?_
    refine (pcget Aa (m - 1) ca w9.heap.size w9.heap.size (R.take (m - 1)) n w9 (Lib.hid rfl) (HA9.out.head (by omega)) (Nat.le_refl _) (by omega) (by have := HM34.out; unfold maxLen; omega)).mono ?_
    rintro e w10 ⟨v10, rfl, _, hb⟩
    rw [HGL.out]
    have HB10 := Lib.hid (HB9.out.trans (hb.mono HB9.out.size))
    clear hb HB9 HA9
    refine ⟨_, rfl, ?_⟩
    simp only [Act.put, List.setIfInBounds_toArray, List.set_cons_succ, List.set_cons_zero]
    refine wpList_valn rfl (exec_mv rfl (ev rfl)) ?_
    simp only [Act.put, List.setIfInBounds_toArray, List.set_cons_succ, List.set_cons_zero]
    refine wpList_valn rfl (exec_ext rfl (ev rfl) rfl) ?_
    simp only [Act.put, List.setIfInBounds_toArray, List.set_cons_succ, List.set_cons_zero]
    refine wpList_valn rfl (exec_ext rfl (ev rfl) rfl) ?_
    simp only [Act.put, List.setIfInBounds_toArray, List.set_cons_succ, List.set_cons_zero]
    refine wpList_valn rfl (exec_as rfl (ev rfl)) ?_
    simp only [Act.put, List.setIfInBounds_toArray, List.set_cons_succ, List.set_cons_zero]
    refine wpList_valn rfl (exec_as rfl (ev rfl)) ?_
    simp only [Act.put, List.setIfInBounds_toArray, List.set_cons_succ, List.set_cons_zero]
    refine wpList_nil ?_
    go_upto_region 9 with fail
    refine wp_region_lit ?_
    refine wpList_valn rfl (exec_mv rfl (ev rfl)) ?_
    simp only [Act.put, List.setIfInBounds_toArray, List.set_cons_succ, List.set_cons_zero]
    refine wpList_valn (v := .bool true) rfl (exec_eqInt true rfl (ev rfl) evk rfl) ?_
    simp only [Act.put, List.setIfInBounds_toArray, List.set_cons_succ, List.set_cons_zero]
    refine wpList_valn (v := .bool true) rfl (exec_mv rfl (ev rfl)) ?_
    simp only [Act.put, List.setIfInBounds_toArray, List.set_cons_succ, List.set_cons_zero]
    refine wpList_val (wanted_of rfl rfl rfl rfl) (exec_mv rfl (ev rfl)) ?_
    simp only [Act.put, List.setIfInBounds_toArray, List.set_cons_succ, List.set_cons_zero]
    refine wpList_val (v := .bool true) (wanted_of rfl rfl rfl rfl) (exec_eqInt true rfl (ev rfl) evk rfl) ?_
    simp only [Act.put, List.setIfInBounds_toArray, List.set_cons_succ, List.set_cons_zero]
    refine wpList_valn (v := .bool true) rfl (exec_pt rfl (ev rfl) (ev rfl)) ?_
    simp only [Act.put, List.setIfInBounds_toArray, List.set_cons_succ, List.set_cons_zero]
    refine wpList_valn (v := .bool true) rfl (exec_mv rfl (ev rfl)) ?_
    simp only [Act.put, List.setIfInBounds_toArray, List.set_cons_succ, List.set_cons_zero]
    refine wpList_call (wanted_of rfl rfl rfl rfl) (exec_cl Try.call12 rfl evn) ?_
    refine (clives w10).mono ?_
    rintro e w11 ⟨rfl, hb⟩
    have HB11 := Lib.hid (HB10.out.trans (hb.mono HB10.out.size))
    clear hb HB10
    refine ⟨_, rfl, ?_⟩
    simp only [Act.put, List.setIfInBounds_toArray, List.set_cons_succ, List.set_cons_zero]
    refine wpList_valn (v := .bool true) rfl (exec_pt rfl (ev rfl) (ev rfl)) ?_
    simp only [Act.put, List.setIfInBounds_toArray, List.set_cons_succ, List.set_cons_zero]
    refine wpList_valn (v := .bool true) rfl (exec_as rfl (ev rfl)) ?_
    simp only [Act.put, List.setIfInBounds_toArray, List.set_cons_succ, List.set_cons_zero]
    refine wpList_nil ?_
    go_wp2_with fail
    go_ret
    exact ⟨rfl, HB11.out⟩
theorem cellsBack_walk (A : Option Addr) (n c : Nat) (l : List Cl) (b : Blk) (w : World) (hl : RdE CellE w w.heap.size A n l) (hn : n ≤ 1759218604390) :
    Calls Try.prog 4 #[.slice A n c, blk b] w fun e w' => e = .returned (.bool true) ∧ Below w.heap.size w w' := by
  by_cases he : recE l = 0
  · exact cellsBack_yes A n c l b w hl hn he
  · exact cellsBack_no A n c l b w hl hn he
end Go.Proofs.Ytfemlaombdeebaa
