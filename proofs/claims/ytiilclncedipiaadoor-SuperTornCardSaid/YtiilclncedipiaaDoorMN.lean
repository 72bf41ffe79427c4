/-
  The walk of SuperTorn.
  The walk of SuperTorn, where the first one is torn.
  The walk of SuperTorn, where the second one is torn.
  SuperTorn, all ways.
-/
import Derived.Test.YtiilclncedipiaaDoorMJ
import Derived.Test.YtiilclncedipiaaDoorMA
namespace Go.Proofs.YtiilclncedipiaaDoor
open Go.RowKit
set_option linter.unusedVariables false
set_option linter.unusedSimpArgs false
set_option maxRecDepth 100000

section
variable {ρ : Operand → Value} {o : Oper} {x y : Operand} {w : World} {t r : TypeId} {a : Act}
theorem exec_maxU (n m : Nat) {t1 t2 : TypeId} (ho : o.op = .call { callee := .builtin .max, args := #[x, y], argTypes := #[t1, t2] }) (hx : a.eval x = .int .u64 (n : Int)) (hy : a.eval y = .int .u64 (m : Int)) : (execOp a.eval o).run Tryd.prog w = .ok (.value (.int .u64 ((max n m : Nat) : Int))) w := by
  have hrun : (Builtin.max_ #[t1, t2] o.type #[.int .u64 (n : Int), .int .u64 (m : Int)]).run Tryd.prog w = .ok (.int .u64 (if (m : Int) > (n : Int) then (m : Int) else (n : Int))) w := by simp [Builtin.max_, Builtin.max2]
  have e : (if (m : Int) > (n : Int) then (m : Int) else (n : Int)) = ((max n m : Nat) : Int) := by split <;> omega
  rw [e] at hrun
  simp [execOp, ho, resolve, invoke, builtin, hx, hy, hrun, Result.andThen]
theorem exec_addU {a b c : Int} (ho : o.op = .binOp .add t x y r) (hx : ρ x = .int .u64 a) (hy : ρ y = .int .u64 b) (h : IntKind.u64.wrap (a + b) = c) : (execOp ρ o).run Tryd.prog w = .ok (.value (.int .u64 c)) w := by
  unfold execOp
  simp [ho, hx, hy, eqGuard, binOp, Op.intArith, h]
theorem exec_cv8 {n : Nat} (ho : o.op = .convert 5 22 x) (hx : ρ x = .int .u8 (n : Int)) (hn : n ≤ 255) : (execOp ρ o).run Tryd.prog w = .ok (.value (.int .u64 (n : Int))) w := by
  have h : IntKind.u64.wrap (n : Int) = (n : Int) := IntWalk.u64_in _ ⟨by omega, by omega⟩
  have hc : (convert 5 22 (.int .u8 (n : Int))).run Tryd.prog w = .ok (.int .u64 (n : Int)) w := by simp [convert, go_sem, h]
  unfold execOp
  simp only [ho, hx, Sem.run_bind, hc, Result.andThen_ok, Sem.run_pure]
end
/-- The next event. -/
def ev1 (n m : Nat) : Nat := (max n m + 1) % 18446744073709551616
def evN (n m r : Nat) : Nat := (ev1 n m + r) % 18446744073709551616
theorem wrapU (k : Nat) : IntKind.u64.wrap (k : Int) = ((k % 18446744073709551616 : Nat) : Int) := by simp [IntKind.wrap, IntKind.signed, IntKind.bits]
theorem evN_eq {n m r : Nat} (hn : n ≤ 4611686018427387904) (hm : m ≤ 4611686018427387904) (hr : r ≤ 255) : evN n m r = max n m + 1 + r := by unfold evN ev1; omega
theorem evN_lt (n m r : Nat) : evN n m r < 18446744073709551616 := Nat.mod_lt _ (by decide)
/-- The three that came in, boxed. -/
structure TriW (w w' : World) (s t x : Sup) : Prop where
  s : SupAt w' w.heap.size s
  t : SupAt w' (w.heap.size + 1) t
  x : SupAt w' (w.heap.size + 1 + 1) x
  bel : Below w.heap.size w w'
theorem TriW.keep {w w' w2 : World} {s t x : Sup} (h : TriW w w' s t x) (hb : Below w'.heap.size w' w2) : TriW w w2 s t x :=
  ⟨h.s.below (blk_lt h.s) hb, h.t.below (blk_lt h.t) hb, h.x.below (blk_lt h.x) hb, h.bel.trans (hb.mono h.bel.size)⟩
theorem setCells_blk2 {w : World} {k g : Nat} {ob : Obj} (h : w.heap[k]? = some ob) (hne : k ≠ g) (vs : List Value) : (w.setCells g 0 vs).heap[k]? = some ob := (blk_setCells g vs 0 w k hne).trans h
theorem TriW.put {w w' : World} {s t x : Sup} {g : Nat} (h : TriW w w' s t x) (hg : w.heap.size + 1 + 1 < g) (vs : List Value) : TriW w (w'.setCells g 0 vs) s t x :=
  ⟨setCells_blk2 h.s (by omega) vs, setCells_blk2 h.t (by omega) vs, setCells_blk2 h.x (by omega) vs, below_setCells h.bel (by omega) vs⟩
theorem tri_new (w : World) (s t x : Sup) : TriW w (((w.alloc (.cells (celS s).toArray 29)).alloc (.cells (celS t).toArray 29)).alloc (.cells (celS x).toArray 29)) s t x := by
  have e1 := World.size_alloc (w := w) (o := Obj.cells (celS s).toArray 29)
  have e2 := World.size_alloc (w := (w.alloc (.cells (celS s).toArray 29))) (o := Obj.cells (celS t).toArray 29)
  refine ⟨((SupAt.new w s).past _).past _, ?_, ?_, ?_⟩
  · rw [← e1]; exact (SupAt.new _ t).past _
  · rw [← e1, ← e2]; exact SupAt.new _ x
  · exact (((Below.refl _ w).alloc (Nat.le_refl _) _).alloc (by omega) _).alloc (by omega) _
set_option maxHeartbeats 4000000 in
theorem superTorn_g (n m : Nat) (s t x : Sup) (r : Nat) (at_ : Int) (w : World) (T : Tab w) (hn : n < 18446744073709551616) (hm : m < 18446744073709551616) (hs : s.id < 18446744073709551616) (ht : t.id < 18446744073709551616) (hx : x.id < 18446744073709551616) (hr : r ≤ 255) (h1 : sputE n s ≠ 0) :
    Calls Tryd.prog 7 #[.int .u64 n, .int .u64 m, sup s, sup t, sup x, .int .u8 r, .int .i64 at_] w fun e w' => e = .returned (.bool true) ∧ Below w.heap.size w w' := by
  have HT := Lib.hid T
  have HN := Lib.hid hn
  have HM := Lib.hid hm
  have HIS := Lib.hid hs
  have HIT := Lib.hid ht
  have HIX := Lib.hid hx
  have HR := Lib.hid hr
  have HF1 := Lib.hid (tri_new w s t x)
  have HE1 : Hid (IntKind.u64.wrap (((max n m : Nat) : Int) + 1) = ((ev1 n m : Nat) : Int)) := Lib.hid (wrapU (max n m + 1))
  have HE2 : Hid (IntKind.u64.wrap (((ev1 n m : Nat) : Int) + (r : Int)) = ((evN n m r : Nat) : Int)) := Lib.hid (wrapU (ev1 n m + r))
  have HEL := Lib.hid (evN_lt n m r)
  obtain ⟨p, hp⟩ : ∃ p, sputB n s = p := ⟨_, rfl⟩
  obtain ⟨q, hq⟩ : ∃ q, sputB m t = q := ⟨_, rfl⟩
  obtain ⟨EV, hEV⟩ : ∃ E, evN n m r = E := ⟨_, rfl⟩
  obtain ⟨z, hz⟩ : ∃ z, sputB EV x = z := ⟨_, rfl⟩
  have HPB := Lib.hid hp
  have HQB := Lib.hid hq
  have HZB := Lib.hid hz
  obtain ⟨G, hG⟩ : ∃ k, sputE n s = k := ⟨_, rfl⟩
  have HPE := Lib.hid hG
  obtain ⟨F, hF⟩ : ∃ k, sputE m t = k := ⟨_, rfl⟩
  have HQE := Lib.hid hF
  obtain ⟨K, hK⟩ : ∃ k, sputE EV x = k := ⟨_, rfl⟩
  have HZE := Lib.hid hK
  rw [hG] at h1
  have hdG : ((G : Int) != 0) = true := by simp; omega
  clear hG hF hK h1
  rw [hEV] at HE2 HEL
  clear T hn hm hs ht hx hr hp hq hz hEV
  go_enter Tryd.func7, Tryd.ntmps7
  go_upto_region 1 with (first | (refine wpList_valn rfl (exec_boxS rfl rfl) ?_) | fail)
  try simp only [World.size_alloc]
  generalize (((w.alloc (.cells (celS s).toArray 29)).alloc (.cells (celS t).toArray 29)).alloc (.cells (celS x).toArray 29)) = w1 at *
  have HR1 := Lib.hid HF1.out.s.range
  go_wp2_with (first | (refine wpList_valn rfl (exec_loadS (c := s) rfl rfl ?_) ?_; (with_reducible exact HR1.out)) | fail)
  refine (psput n s w1 (HT.out.below HF1.out.bel) HN.out HIS.out).mono ?_
  rintro e w2 ⟨rfl, hb⟩
  rw [HPB.out, HPE.out]
  have hb2 := hb.alloc hb.size (.cells (cel p).toArray 31)
  have HF3 := Lib.hid (HF1.out.keep hb2)
  have HP3 := Lib.hid (range_new w2 (cel p) 31)
  have HPH3 := Lib.hid (there_new w2 p 31)
  have HPZ : Hid (w2.heap.size < (w2.alloc (.cells (cel p).toArray 31)).heap.size ∧ w.heap.size + 1 + 1 < w2.heap.size) := Lib.hid (by have := blk_lt HF1.out.x; have := hb.size; simp only [World.size_alloc]; omega)
  clear hb hb2 HF1 HR1
  go_upto_region 2 with (first | (refine wpList_valn rfl (exec_alloc rfl) ?_) | (refine wpList_nuln rfl (exec_fillN rfl rfl rfl) ?_) | fail)
  generalize w2.alloc (.cells (cel p).toArray 31) = w3 at *
  generalize w2.heap.size = pb at *
  have HR2 := Lib.hid HF3.out.t.range
  go_wp2_with (first | (refine wpList_valn rfl (exec_loadS (c := t) rfl rfl ?_) ?_; (with_reducible exact HR2.out)) | fail)
  refine (psput m t w3 (HT.out.below HF3.out.bel) HM.out HIT.out).mono ?_
  rintro e w4 ⟨rfl, hb⟩
  rw [HQB.out, HQE.out]
  have hb2 := hb.alloc hb.size (.cells (cel q).toArray 31)
  have HF5 := Lib.hid (HF3.out.keep hb2)
  have HP5 := Lib.hid (range_below HP3.out HPZ.out.1 hb2)
  have HPH5 := Lib.hid (there_below HPH3.out HPZ.out.1 hb2)
  have HQ5 := Lib.hid (range_new w4 (cel q) 31)
  have HQH5 := Lib.hid (there_new w4 q 31)
  have HQZ : Hid (pb < w4.heap.size ∧ w4.heap.size < (w4.alloc (.cells (cel q).toArray 31)).heap.size ∧ w.heap.size + 1 + 1 < pb) := Lib.hid (by have := HPZ.out; have := hb.size; simp only [World.size_alloc]; omega)
  clear hb hb2 HF3 HP3 HPH3 HR2 HPZ
  go_upto_region 3 with (first | (refine wpList_valn rfl (exec_alloc rfl) ?_) | (refine wpList_nuln rfl (exec_fillN rfl rfl rfl) ?_) | fail)
  generalize w4.alloc (.cells (cel q).toArray 31) = w5 at *
  generalize w4.heap.size = qb at *
  refine wp_region_lit ?_
  refine wpList_valn rfl (exec_mv rfl (ev rfl)) ?_
  simp only [Act.put, List.setIfInBounds_toArray, List.set_cons_succ, List.set_cons_zero]
  refine wpList_valn rfl (exec_mv rfl (ev rfl)) ?_
  simp only [Act.put, List.setIfInBounds_toArray, List.set_cons_succ, List.set_cons_zero]
  refine wpList_valn rfl (exec_maxU n m rfl (ev rfl) (ev rfl)) ?_
  simp only [Act.put, List.setIfInBounds_toArray, List.set_cons_succ, List.set_cons_zero]
  refine wpList_valn rfl (exec_addU rfl (ev rfl) evk HE1.out) ?_
  simp only [Act.put, List.setIfInBounds_toArray, List.set_cons_succ, List.set_cons_zero]
  refine wpList_valn rfl (exec_mv rfl (ev rfl)) ?_
  simp only [Act.put, List.setIfInBounds_toArray, List.set_cons_succ, List.set_cons_zero]
  refine wpList_valn rfl (exec_cv8 rfl (ev rfl) HR.out) ?_
  simp only [Act.put, List.setIfInBounds_toArray, List.set_cons_succ, List.set_cons_zero]
  refine wpList_valn rfl (exec_addU rfl (ev rfl) (ev rfl) HE2.out) ?_
  simp only [Act.put, List.setIfInBounds_toArray, List.set_cons_succ, List.set_cons_zero]
  refine wpList_valn rfl (exec_as rfl (ev rfl)) ?_
  simp only [Act.put, List.setIfInBounds_toArray, List.set_cons_succ, List.set_cons_zero]
  refine wpList_nil ?_
  have HR3 := Lib.hid HF5.out.x.range
  go_wp2_with (first | (refine wpList_valn rfl (exec_loadS (c := x) rfl rfl ?_) ?_; (with_reducible exact HR3.out)) | fail)
  refine (psput EV x w5 (HT.out.below HF5.out.bel) HEL.out HIX.out).mono ?_
  rintro e w6 ⟨rfl, hb⟩
  rw [HZB.out, HZE.out]
  have hb2 := hb.alloc hb.size (.cells (cel z).toArray 31)
  have HF7 := Lib.hid (HF5.out.keep hb2)
  have HP7 := Lib.hid (range_below HP5.out (by have := HQZ.out; omega) hb2)
  have HPH7 := Lib.hid (there_below HPH5.out (by have := HQZ.out; omega) hb2)
  have HQ7 := Lib.hid (range_below HQ5.out HQZ.out.2.1 hb2)
  have HQH7 := Lib.hid (there_below HQH5.out HQZ.out.2.1 hb2)
  have HZ7 := Lib.hid (range_new w6 (cel z) 31)
  have HZZ : Hid (qb < w6.heap.size ∧ w6.heap.size < (w6.alloc (.cells (cel z).toArray 31)).heap.size ∧ pb < qb ∧ w.heap.size + 1 + 1 < pb) := Lib.hid (by have := HQZ.out; have := hb.size; simp only [World.size_alloc]; omega)
  clear hb hb2 HF5 HP5 HPH5 HQ5 HQH5 HR3 HQZ
  go_upto_region 5 with (first | (refine wpList_valn rfl (exec_alloc rfl) ?_) | (refine wpList_nuln rfl (exec_fillN rfl rfl rfl) ?_) | fail)
  generalize w6.alloc (.cells (cel z).toArray 31) = w7 at *
  generalize w6.heap.size = zb at *
  go_wp2_with fail
  refine (super_lives w7 (HT.out.below HF7.out.bel)).mono ?_
  rintro e w8 ⟨rfl, hb⟩
  have HBF := Lib.hid (HF7.out.bel.trans (hb.mono HF7.out.bel.size))
  clear hb
  go_wp2_with fail
  go_ret
  exact ⟨rfl, HBF.out⟩
set_option maxHeartbeats 4000000 in
theorem superTorn_f (n m : Nat) (s t x : Sup) (r : Nat) (at_ : Int) (w : World) (T : Tab w) (hn : n < 18446744073709551616) (hm : m < 18446744073709551616) (hs : s.id < 18446744073709551616) (ht : t.id < 18446744073709551616) (hx : x.id < 18446744073709551616) (hr : r ≤ 255) (h1 : sputE n s = 0) (h2 : sputE m t ≠ 0) :
    Calls Tryd.prog 7 #[.int .u64 n, .int .u64 m, sup s, sup t, sup x, .int .u8 r, .int .i64 at_] w fun e w' => e = .returned (.bool true) ∧ Below w.heap.size w w' := by
  have HT := Lib.hid T
  have HN := Lib.hid hn
  have HM := Lib.hid hm
  have HIS := Lib.hid hs
  have HIT := Lib.hid ht
  have HIX := Lib.hid hx
  have HR := Lib.hid hr
  have HF1 := Lib.hid (tri_new w s t x)
  have HE1 : Hid (IntKind.u64.wrap (((max n m : Nat) : Int) + 1) = ((ev1 n m : Nat) : Int)) := Lib.hid (wrapU (max n m + 1))
  have HE2 : Hid (IntKind.u64.wrap (((ev1 n m : Nat) : Int) + (r : Int)) = ((evN n m r : Nat) : Int)) := Lib.hid (wrapU (ev1 n m + r))
  have HEL := Lib.hid (evN_lt n m r)
  obtain ⟨p, hp⟩ : ∃ p, sputB n s = p := ⟨_, rfl⟩
  obtain ⟨q, hq⟩ : ∃ q, sputB m t = q := ⟨_, rfl⟩
  obtain ⟨EV, hEV⟩ : ∃ E, evN n m r = E := ⟨_, rfl⟩
  obtain ⟨z, hz⟩ : ∃ z, sputB EV x = z := ⟨_, rfl⟩
  have HPB := Lib.hid hp
  have HQB := Lib.hid hq
  have HZB := Lib.hid hz
  have HPE := Lib.hid h1
  obtain ⟨F, hF⟩ : ∃ k, sputE m t = k := ⟨_, rfl⟩
  have HQE := Lib.hid hF
  obtain ⟨K, hK⟩ : ∃ k, sputE EV x = k := ⟨_, rfl⟩
  have HZE := Lib.hid hK
  rw [hF] at h2
  have hdF : ((F : Int) != 0) = true := by simp; omega
  clear hF hK h1 h2
  rw [hEV] at HE2 HEL
  clear T hn hm hs ht hx hr hp hq hz hEV
  go_enter Tryd.func7, Tryd.ntmps7
  go_upto_region 1 with (first | (refine wpList_valn rfl (exec_boxS rfl rfl) ?_) | fail)
  try simp only [World.size_alloc]
  generalize (((w.alloc (.cells (celS s).toArray 29)).alloc (.cells (celS t).toArray 29)).alloc (.cells (celS x).toArray 29)) = w1 at *
  have HR1 := Lib.hid HF1.out.s.range
  go_wp2_with (first | (refine wpList_valn rfl (exec_loadS (c := s) rfl rfl ?_) ?_; (with_reducible exact HR1.out)) | fail)
  refine (psput n s w1 (HT.out.below HF1.out.bel) HN.out HIS.out).mono ?_
  rintro e w2 ⟨rfl, hb⟩
  rw [HPB.out, HPE.out]
  have hb2 := hb.alloc hb.size (.cells (cel p).toArray 31)
  have HF3 := Lib.hid (HF1.out.keep hb2)
  have HP3 := Lib.hid (range_new w2 (cel p) 31)
  have HPH3 := Lib.hid (there_new w2 p 31)
  have HPZ : Hid (w2.heap.size < (w2.alloc (.cells (cel p).toArray 31)).heap.size ∧ w.heap.size + 1 + 1 < w2.heap.size) := Lib.hid (by have := blk_lt HF1.out.x; have := hb.size; simp only [World.size_alloc]; omega)
  clear hb hb2 HF1 HR1
  go_upto_region 2 with (first | (refine wpList_valn rfl (exec_alloc rfl) ?_) | (refine wpList_nuln rfl (exec_fillN rfl rfl rfl) ?_) | fail)
  generalize w2.alloc (.cells (cel p).toArray 31) = w3 at *
  generalize w2.heap.size = pb at *
  have HR2 := Lib.hid HF3.out.t.range
  go_wp2_with (first | (refine wpList_valn rfl (exec_loadS (c := t) rfl rfl ?_) ?_; (with_reducible exact HR2.out)) | fail)
  refine (psput m t w3 (HT.out.below HF3.out.bel) HM.out HIT.out).mono ?_
  rintro e w4 ⟨rfl, hb⟩
  rw [HQB.out, HQE.out]
  have hb2 := hb.alloc hb.size (.cells (cel q).toArray 31)
  have HF5 := Lib.hid (HF3.out.keep hb2)
  have HP5 := Lib.hid (range_below HP3.out HPZ.out.1 hb2)
  have HPH5 := Lib.hid (there_below HPH3.out HPZ.out.1 hb2)
  have HQ5 := Lib.hid (range_new w4 (cel q) 31)
  have HQH5 := Lib.hid (there_new w4 q 31)
  have HQZ : Hid (pb < w4.heap.size ∧ w4.heap.size < (w4.alloc (.cells (cel q).toArray 31)).heap.size ∧ w.heap.size + 1 + 1 < pb) := Lib.hid (by have := HPZ.out; have := hb.size; simp only [World.size_alloc]; omega)
  clear hb hb2 HF3 HP3 HPH3 HR2 HPZ
  go_upto_region 3 with (first | (refine wpList_valn rfl (exec_alloc rfl) ?_) | (refine wpList_nuln rfl (exec_fillN rfl rfl rfl) ?_) | fail)
  generalize w4.alloc (.cells (cel q).toArray 31) = w5 at *
  generalize w4.heap.size = qb at *
  refine wp_region_lit ?_
  refine wpList_valn rfl (exec_mv rfl (ev rfl)) ?_
  simp only [Act.put, List.setIfInBounds_toArray, List.set_cons_succ, List.set_cons_zero]
  refine wpList_valn rfl (exec_mv rfl (ev rfl)) ?_
  simp only [Act.put, List.setIfInBounds_toArray, List.set_cons_succ, List.set_cons_zero]
  refine wpList_valn rfl (exec_maxU n m rfl (ev rfl) (ev rfl)) ?_
  simp only [Act.put, List.setIfInBounds_toArray, List.set_cons_succ, List.set_cons_zero]
  refine wpList_valn rfl (exec_addU rfl (ev rfl) evk HE1.out) ?_
  simp only [Act.put, List.setIfInBounds_toArray, List.set_cons_succ, List.set_cons_zero]
  refine wpList_valn rfl (exec_mv rfl (ev rfl)) ?_
  simp only [Act.put, List.setIfInBounds_toArray, List.set_cons_succ, List.set_cons_zero]
  refine wpList_valn rfl (exec_cv8 rfl (ev rfl) HR.out) ?_
  simp only [Act.put, List.setIfInBounds_toArray, List.set_cons_succ, List.set_cons_zero]
  refine wpList_valn rfl (exec_addU rfl (ev rfl) (ev rfl) HE2.out) ?_
  simp only [Act.put, List.setIfInBounds_toArray, List.set_cons_succ, List.set_cons_zero]
  refine wpList_valn rfl (exec_as rfl (ev rfl)) ?_
  simp only [Act.put, List.setIfInBounds_toArray, List.set_cons_succ, List.set_cons_zero]
  refine wpList_nil ?_
  have HR3 := Lib.hid HF5.out.x.range
  go_wp2_with (first | (refine wpList_valn rfl (exec_loadS (c := x) rfl rfl ?_) ?_; (with_reducible exact HR3.out)) | fail)
  refine (psput EV x w5 (HT.out.below HF5.out.bel) HEL.out HIX.out).mono ?_
  rintro e w6 ⟨rfl, hb⟩
  rw [HZB.out, HZE.out]
  have hb2 := hb.alloc hb.size (.cells (cel z).toArray 31)
  have HF7 := Lib.hid (HF5.out.keep hb2)
  have HP7 := Lib.hid (range_below HP5.out (by have := HQZ.out; omega) hb2)
  have HPH7 := Lib.hid (there_below HPH5.out (by have := HQZ.out; omega) hb2)
  have HQ7 := Lib.hid (range_below HQ5.out HQZ.out.2.1 hb2)
  have HQH7 := Lib.hid (there_below HQH5.out HQZ.out.2.1 hb2)
  have HZ7 := Lib.hid (range_new w6 (cel z) 31)
  have HZZ : Hid (qb < w6.heap.size ∧ w6.heap.size < (w6.alloc (.cells (cel z).toArray 31)).heap.size ∧ pb < qb ∧ w.heap.size + 1 + 1 < pb) := Lib.hid (by have := HQZ.out; have := hb.size; simp only [World.size_alloc]; omega)
  clear hb hb2 HF5 HP5 HPH5 HQ5 HQH5 HR3 HQZ
  go_upto_region 5 with (first | (refine wpList_valn rfl (exec_alloc rfl) ?_) | (refine wpList_nuln rfl (exec_fillN rfl rfl rfl) ?_) | fail)
  generalize w6.alloc (.cells (cel z).toArray 31) = w7 at *
  generalize w6.heap.size = zb at *
  go_wp2_with fail
  refine (super_lives w7 (HT.out.below HF7.out.bel)).mono ?_
  rintro e w8 ⟨rfl, hb⟩
  have HBF := Lib.hid (HF7.out.bel.trans (hb.mono HF7.out.bel.size))
  clear hb
  go_wp2_with fail
  go_ret
  exact ⟨rfl, HBF.out⟩
set_option maxHeartbeats 4000000 in
theorem superTorn_k (n m : Nat) (s t x : Sup) (r : Nat) (at_ : Int) (w : World) (T : Tab w) (hn : n < 18446744073709551616) (hm : m < 18446744073709551616) (hs : s.id < 18446744073709551616) (ht : t.id < 18446744073709551616) (hx : x.id < 18446744073709551616) (hr : r ≤ 255) (h1 : sputE n s = 0) (h2 : sputE m t = 0) (h3 : sputE (evN n m r) x ≠ 0) :
    Calls Tryd.prog 7 #[.int .u64 n, .int .u64 m, sup s, sup t, sup x, .int .u8 r, .int .i64 at_] w fun e w' => e = .returned (.bool true) ∧ Below w.heap.size w w' := by
  have HT := Lib.hid T
  have HN := Lib.hid hn
  have HM := Lib.hid hm
  have HIS := Lib.hid hs
  have HIT := Lib.hid ht
  have HIX := Lib.hid hx
  have HR := Lib.hid hr
  have HF1 := Lib.hid (tri_new w s t x)
  have HE1 : Hid (IntKind.u64.wrap (((max n m : Nat) : Int) + 1) = ((ev1 n m : Nat) : Int)) := Lib.hid (wrapU (max n m + 1))
  have HE2 : Hid (IntKind.u64.wrap (((ev1 n m : Nat) : Int) + (r : Int)) = ((evN n m r : Nat) : Int)) := Lib.hid (wrapU (ev1 n m + r))
  have HEL := Lib.hid (evN_lt n m r)
  obtain ⟨p, hp⟩ : ∃ p, sputB n s = p := ⟨_, rfl⟩
  obtain ⟨q, hq⟩ : ∃ q, sputB m t = q := ⟨_, rfl⟩
  obtain ⟨EV, hEV⟩ : ∃ E, evN n m r = E := ⟨_, rfl⟩
  obtain ⟨z, hz⟩ : ∃ z, sputB EV x = z := ⟨_, rfl⟩
  have HPB := Lib.hid hp
  have HQB := Lib.hid hq
  have HZB := Lib.hid hz
  have HPE := Lib.hid h1
  have HQE := Lib.hid h2
  rw [hEV] at h3
  obtain ⟨K, hK⟩ : ∃ k, sputE EV x = k := ⟨_, rfl⟩
  have HZE := Lib.hid hK
  rw [hK] at h3
  have hdK : ((K : Int) != 0) = true := by simp; omega
  clear hK h1 h2 h3
  rw [hEV] at HE2 HEL
  clear T hn hm hs ht hx hr hp hq hz hEV
  go_enter Tryd.func7, Tryd.ntmps7
  go_upto_region 1 with (first | (refine wpList_valn rfl (exec_boxS rfl rfl) ?_) | fail)
  try simp only [World.size_alloc]
  generalize (((w.alloc (.cells (celS s).toArray 29)).alloc (.cells (celS t).toArray 29)).alloc (.cells (celS x).toArray 29)) = w1 at *
  have HR1 := Lib.hid HF1.out.s.range
  go_wp2_with (first | (refine wpList_valn rfl (exec_loadS (c := s) rfl rfl ?_) ?_; (with_reducible exact HR1.out)) | fail)
  refine (psput n s w1 (HT.out.below HF1.out.bel) HN.out HIS.out).mono ?_
  rintro e w2 ⟨rfl, hb⟩
  rw [HPB.out, HPE.out]
  have hb2 := hb.alloc hb.size (.cells (cel p).toArray 31)
  have HF3 := Lib.hid (HF1.out.keep hb2)
  have HP3 := Lib.hid (range_new w2 (cel p) 31)
  have HPH3 := Lib.hid (there_new w2 p 31)
  have HPZ : Hid (w2.heap.size < (w2.alloc (.cells (cel p).toArray 31)).heap.size ∧ w.heap.size + 1 + 1 < w2.heap.size) := Lib.hid (by have := blk_lt HF1.out.x; have := hb.size; simp only [World.size_alloc]; omega)
  clear hb hb2 HF1 HR1
  go_upto_region 2 with (first | (refine wpList_valn rfl (exec_alloc rfl) ?_) | (refine wpList_nuln rfl (exec_fillN rfl rfl rfl) ?_) | fail)
  generalize w2.alloc (.cells (cel p).toArray 31) = w3 at *
  generalize w2.heap.size = pb at *
  have HR2 := Lib.hid HF3.out.t.range
  go_wp2_with (first | (refine wpList_valn rfl (exec_loadS (c := t) rfl rfl ?_) ?_; (with_reducible exact HR2.out)) | fail)
  refine (psput m t w3 (HT.out.below HF3.out.bel) HM.out HIT.out).mono ?_
  rintro e w4 ⟨rfl, hb⟩
  rw [HQB.out, HQE.out]
  have hb2 := hb.alloc hb.size (.cells (cel q).toArray 31)
  have HF5 := Lib.hid (HF3.out.keep hb2)
  have HP5 := Lib.hid (range_below HP3.out HPZ.out.1 hb2)
  have HPH5 := Lib.hid (there_below HPH3.out HPZ.out.1 hb2)
  have HQ5 := Lib.hid (range_new w4 (cel q) 31)
  have HQH5 := Lib.hid (there_new w4 q 31)
  have HQZ : Hid (pb < w4.heap.size ∧ w4.heap.size < (w4.alloc (.cells (cel q).toArray 31)).heap.size ∧ w.heap.size + 1 + 1 < pb) := Lib.hid (by have := HPZ.out; have := hb.size; simp only [World.size_alloc]; omega)
  clear hb hb2 HF3 HP3 HPH3 HR2 HPZ
  go_upto_region 3 with (first | (refine wpList_valn rfl (exec_alloc rfl) ?_) | (refine wpList_nuln rfl (exec_fillN rfl rfl rfl) ?_) | fail)
  generalize w4.alloc (.cells (cel q).toArray 31) = w5 at *
  generalize w4.heap.size = qb at *
  refine wp_region_lit ?_
  refine wpList_valn rfl (exec_mv rfl (ev rfl)) ?_
  simp only [Act.put, List.setIfInBounds_toArray, List.set_cons_succ, List.set_cons_zero]
  refine wpList_valn rfl (exec_mv rfl (ev rfl)) ?_
  simp only [Act.put, List.setIfInBounds_toArray, List.set_cons_succ, List.set_cons_zero]
  refine wpList_valn rfl (exec_maxU n m rfl (ev rfl) (ev rfl)) ?_
  simp only [Act.put, List.setIfInBounds_toArray, List.set_cons_succ, List.set_cons_zero]
  refine wpList_valn rfl (exec_addU rfl (ev rfl) evk HE1.out) ?_
  simp only [Act.put, List.setIfInBounds_toArray, List.set_cons_succ, List.set_cons_zero]
  refine wpList_valn rfl (exec_mv rfl (ev rfl)) ?_
  simp only [Act.put, List.setIfInBounds_toArray, List.set_cons_succ, List.set_cons_zero]
  refine wpList_valn rfl (exec_cv8 rfl (ev rfl) HR.out) ?_
  simp only [Act.put, List.setIfInBounds_toArray, List.set_cons_succ, List.set_cons_zero]
  refine wpList_valn rfl (exec_addU rfl (ev rfl) (ev rfl) HE2.out) ?_
  simp only [Act.put, List.setIfInBounds_toArray, List.set_cons_succ, List.set_cons_zero]
  refine wpList_valn rfl (exec_as rfl (ev rfl)) ?_
  simp only [Act.put, List.setIfInBounds_toArray, List.set_cons_succ, List.set_cons_zero]
  refine wpList_nil ?_
  have HR3 := Lib.hid HF5.out.x.range
  go_wp2_with (first | (refine wpList_valn rfl (exec_loadS (c := x) rfl rfl ?_) ?_; (with_reducible exact HR3.out)) | fail)
  refine (psput EV x w5 (HT.out.below HF5.out.bel) HEL.out HIX.out).mono ?_
  rintro e w6 ⟨rfl, hb⟩
  rw [HZB.out, HZE.out]
  have hb2 := hb.alloc hb.size (.cells (cel z).toArray 31)
  have HF7 := Lib.hid (HF5.out.keep hb2)
  have HP7 := Lib.hid (range_below HP5.out (by have := HQZ.out; omega) hb2)
  have HPH7 := Lib.hid (there_below HPH5.out (by have := HQZ.out; omega) hb2)
  have HQ7 := Lib.hid (range_below HQ5.out HQZ.out.2.1 hb2)
  have HQH7 := Lib.hid (there_below HQH5.out HQZ.out.2.1 hb2)
  have HZ7 := Lib.hid (range_new w6 (cel z) 31)
  have HZZ : Hid (qb < w6.heap.size ∧ w6.heap.size < (w6.alloc (.cells (cel z).toArray 31)).heap.size ∧ pb < qb ∧ w.heap.size + 1 + 1 < pb) := Lib.hid (by have := HQZ.out; have := hb.size; simp only [World.size_alloc]; omega)
  clear hb hb2 HF5 HP5 HPH5 HQ5 HQH5 HR3 HQZ
  go_upto_region 5 with (first | (refine wpList_valn rfl (exec_alloc rfl) ?_) | (refine wpList_nuln rfl (exec_fillN rfl rfl rfl) ?_) | fail)
  generalize w6.alloc (.cells (cel z).toArray 31) = w7 at *
  generalize w6.heap.size = zb at *
  go_wp2_with fail
  refine (super_lives w7 (HT.out.below HF7.out.bel)).mono ?_
  rintro e w8 ⟨rfl, hb⟩
  have HBF := Lib.hid (HF7.out.bel.trans (hb.mono HF7.out.bel.size))
  clear hb
  go_wp2_with fail
  go_ret
  exact ⟨rfl, HBF.out⟩
set_option maxHeartbeats 4000000 in
theorem superTorn_e (n m : Nat) (s t x : Sup) (r : Nat) (at_ : Int) (w : World) (T : Tab w) (hn : n < 18446744073709551616) (hm : m < 18446744073709551616) (hs : s.id < 18446744073709551616) (ht : t.id < 18446744073709551616) (hx : x.id < 18446744073709551616) (hr : r ≤ 255) (h1 : sputE n s = 0) (h2 : sputE m t = 0) (h3 : sputE (evN n m r) x = 0) (h4 : n = m) :
    Calls Tryd.prog 7 #[.int .u64 n, .int .u64 m, sup s, sup t, sup x, .int .u8 r, .int .i64 at_] w fun e w' => e = .returned (.bool true) ∧ Below w.heap.size w w' := by
  have HT := Lib.hid T
  have HN := Lib.hid hn
  have HM := Lib.hid hm
  have HIS := Lib.hid hs
  have HIT := Lib.hid ht
  have HIX := Lib.hid hx
  have HR := Lib.hid hr
  have HF1 := Lib.hid (tri_new w s t x)
  have HE1 : Hid (IntKind.u64.wrap (((max n m : Nat) : Int) + 1) = ((ev1 n m : Nat) : Int)) := Lib.hid (wrapU (max n m + 1))
  have HE2 : Hid (IntKind.u64.wrap (((ev1 n m : Nat) : Int) + (r : Int)) = ((evN n m r : Nat) : Int)) := Lib.hid (wrapU (ev1 n m + r))
  have HEL := Lib.hid (evN_lt n m r)
  obtain ⟨p, hp⟩ : ∃ p, sputB n s = p := ⟨_, rfl⟩
  obtain ⟨q, hq⟩ : ∃ q, sputB m t = q := ⟨_, rfl⟩
  obtain ⟨EV, hEV⟩ : ∃ E, evN n m r = E := ⟨_, rfl⟩
  obtain ⟨z, hz⟩ : ∃ z, sputB EV x = z := ⟨_, rfl⟩
  have HPB := Lib.hid hp
  have HQB := Lib.hid hq
  have HZB := Lib.hid hz
  have HPE := Lib.hid h1
  have HQE := Lib.hid h2
  rw [hEV] at h3
  have HZE := Lib.hid h3
  have hd4 : ((n : Int) == (m : Int)) = true := by simp; omega
  clear h1 h2 h3 h4
  rw [hEV] at HE2 HEL
  clear T hn hm hs ht hx hr hp hq hz hEV
  go_enter Tryd.func7, Tryd.ntmps7
  go_upto_region 1 with (first | (refine wpList_valn rfl (exec_boxS rfl rfl) ?_) | fail)
  try simp only [World.size_alloc]
  generalize (((w.alloc (.cells (celS s).toArray 29)).alloc (.cells (celS t).toArray 29)).alloc (.cells (celS x).toArray 29)) = w1 at *
  have HR1 := Lib.hid HF1.out.s.range
  go_wp2_with (first | (refine wpList_valn rfl (exec_loadS (c := s) rfl rfl ?_) ?_; (with_reducible exact HR1.out)) | fail)
  refine (psput n s w1 (HT.out.below HF1.out.bel) HN.out HIS.out).mono ?_
  rintro e w2 ⟨rfl, hb⟩
  rw [HPB.out, HPE.out]
  have hb2 := hb.alloc hb.size (.cells (cel p).toArray 31)
  have HF3 := Lib.hid (HF1.out.keep hb2)
  have HP3 := Lib.hid (range_new w2 (cel p) 31)
  have HPH3 := Lib.hid (there_new w2 p 31)
  have HPZ : Hid (w2.heap.size < (w2.alloc (.cells (cel p).toArray 31)).heap.size ∧ w.heap.size + 1 + 1 < w2.heap.size) := Lib.hid (by have := blk_lt HF1.out.x; have := hb.size; simp only [World.size_alloc]; omega)
  clear hb hb2 HF1 HR1
  go_upto_region 2 with (first | (refine wpList_valn rfl (exec_alloc rfl) ?_) | (refine wpList_nuln rfl (exec_fillN rfl rfl rfl) ?_) | fail)
  generalize w2.alloc (.cells (cel p).toArray 31) = w3 at *
  generalize w2.heap.size = pb at *
  have HR2 := Lib.hid HF3.out.t.range
  go_wp2_with (first | (refine wpList_valn rfl (exec_loadS (c := t) rfl rfl ?_) ?_; (with_reducible exact HR2.out)) | fail)
  refine (psput m t w3 (HT.out.below HF3.out.bel) HM.out HIT.out).mono ?_
  rintro e w4 ⟨rfl, hb⟩
  rw [HQB.out, HQE.out]
  have hb2 := hb.alloc hb.size (.cells (cel q).toArray 31)
  have HF5 := Lib.hid (HF3.out.keep hb2)
  have HP5 := Lib.hid (range_below HP3.out HPZ.out.1 hb2)
  have HPH5 := Lib.hid (there_below HPH3.out HPZ.out.1 hb2)
  have HQ5 := Lib.hid (range_new w4 (cel q) 31)
  have HQH5 := Lib.hid (there_new w4 q 31)
  have HQZ : Hid (pb < w4.heap.size ∧ w4.heap.size < (w4.alloc (.cells (cel q).toArray 31)).heap.size ∧ w.heap.size + 1 + 1 < pb) := Lib.hid (by have := HPZ.out; have := hb.size; simp only [World.size_alloc]; omega)
  clear hb hb2 HF3 HP3 HPH3 HR2 HPZ
  go_upto_region 3 with (first | (refine wpList_valn rfl (exec_alloc rfl) ?_) | (refine wpList_nuln rfl (exec_fillN rfl rfl rfl) ?_) | fail)
  generalize w4.alloc (.cells (cel q).toArray 31) = w5 at *
  generalize w4.heap.size = qb at *
  refine wp_region_lit ?_
  refine wpList_valn rfl (exec_mv rfl (ev rfl)) ?_
  simp only [Act.put, List.setIfInBounds_toArray, List.set_cons_succ, List.set_cons_zero]
  refine wpList_valn rfl (exec_mv rfl (ev rfl)) ?_
  simp only [Act.put, List.setIfInBounds_toArray, List.set_cons_succ, List.set_cons_zero]
  refine wpList_valn rfl (exec_maxU n m rfl (ev rfl) (ev rfl)) ?_
  simp only [Act.put, List.setIfInBounds_toArray, List.set_cons_succ, List.set_cons_zero]
  refine wpList_valn rfl (exec_addU rfl (ev rfl) evk HE1.out) ?_
  simp only [Act.put, List.setIfInBounds_toArray, List.set_cons_succ, List.set_cons_zero]
  refine wpList_valn rfl (exec_mv rfl (ev rfl)) ?_
  simp only [Act.put, List.setIfInBounds_toArray, List.set_cons_succ, List.set_cons_zero]
  refine wpList_valn rfl (exec_cv8 rfl (ev rfl) HR.out) ?_
  simp only [Act.put, List.setIfInBounds_toArray, List.set_cons_succ, List.set_cons_zero]
  refine wpList_valn rfl (exec_addU rfl (ev rfl) (ev rfl) HE2.out) ?_
  simp only [Act.put, List.setIfInBounds_toArray, List.set_cons_succ, List.set_cons_zero]
  refine wpList_valn rfl (exec_as rfl (ev rfl)) ?_
  simp only [Act.put, List.setIfInBounds_toArray, List.set_cons_succ, List.set_cons_zero]
  refine wpList_nil ?_
  have HR3 := Lib.hid HF5.out.x.range
  go_wp2_with (first | (refine wpList_valn rfl (exec_loadS (c := x) rfl rfl ?_) ?_; (with_reducible exact HR3.out)) | fail)
  refine (psput EV x w5 (HT.out.below HF5.out.bel) HEL.out HIX.out).mono ?_
  rintro e w6 ⟨rfl, hb⟩
  rw [HZB.out, HZE.out]
  have hb2 := hb.alloc hb.size (.cells (cel z).toArray 31)
  have HF7 := Lib.hid (HF5.out.keep hb2)
  have HP7 := Lib.hid (range_below HP5.out (by have := HQZ.out; omega) hb2)
  have HPH7 := Lib.hid (there_below HPH5.out (by have := HQZ.out; omega) hb2)
  have HQ7 := Lib.hid (range_below HQ5.out HQZ.out.2.1 hb2)
  have HQH7 := Lib.hid (there_below HQH5.out HQZ.out.2.1 hb2)
  have HZ7 := Lib.hid (range_new w6 (cel z) 31)
  have HZZ : Hid (qb < w6.heap.size ∧ w6.heap.size < (w6.alloc (.cells (cel z).toArray 31)).heap.size ∧ pb < qb ∧ w.heap.size + 1 + 1 < pb) := Lib.hid (by have := HQZ.out; have := hb.size; simp only [World.size_alloc]; omega)
  clear hb hb2 HF5 HP5 HPH5 HQ5 HQH5 HR3 HQZ
  go_upto_region 5 with (first | (refine wpList_valn rfl (exec_alloc rfl) ?_) | (refine wpList_nuln rfl (exec_fillN rfl rfl rfl) ?_) | fail)
  generalize w6.alloc (.cells (cel z).toArray 31) = w7 at *
  generalize w6.heap.size = zb at *
  go_wp2_with fail
  refine (super_lives w7 (HT.out.below HF7.out.bel)).mono ?_
  rintro e w8 ⟨rfl, hb⟩
  have HBF := Lib.hid (HF7.out.bel.trans (hb.mono HF7.out.bel.size))
  clear hb
  go_wp2_with fail
  go_ret
  exact ⟨rfl, HBF.out⟩
end Go.Proofs.YtiilclncedipiaaDoor
namespace Go.Proofs.YtiilclncedipiaaDoor
open Go.RowKit
set_option linter.unusedVariables false
set_option linter.unusedSimpArgs false
set_option maxRecDepth 100000

set_option maxHeartbeats 4000000 in
theorem superTorn_lt_new (n m : Nat) (s t x : Sup) (r : Nat) (at_ : Int) (w : World) (T : Tab w) (hn : n < 18446744073709551616) (hm : m < 18446744073709551616) (hs : s.id < 18446744073709551616) (ht : t.id < 18446744073709551616) (hx : x.id < 18446744073709551616) (hr : r ≤ 255) (h1 : sputE n s = 0) (h2 : sputE m t = 0) (h3 : sputE (evN n m r) x = 0) (hlt : n < m) (hd : torn (sputB n s) (sputB (evN n m r) x) at_ = sputB (evN n m r) x) (hat : 0 < at_) :
    Calls Tryd.prog 7 #[.int .u64 n, .int .u64 m, sup s, sup t, sup x, .int .u8 r, .int .i64 at_] w fun e w' => e = .returned (.bool true) ∧ Below w.heap.size w w' := by
  have HT := Lib.hid T
  have HN := Lib.hid hn
  have HM := Lib.hid hm
  have HIS := Lib.hid hs
  have HIT := Lib.hid ht
  have HIX := Lib.hid hx
  have HR := Lib.hid hr
  have HF1 := Lib.hid (tri_new w s t x)
  have HE1 : Hid (IntKind.u64.wrap (((max n m : Nat) : Int) + 1) = ((ev1 n m : Nat) : Int)) := Lib.hid (wrapU (max n m + 1))
  have HE2 : Hid (IntKind.u64.wrap (((ev1 n m : Nat) : Int) + (r : Int)) = ((evN n m r : Nat) : Int)) := Lib.hid (wrapU (ev1 n m + r))
  have HEL := Lib.hid (evN_lt n m r)
  obtain ⟨p, hp⟩ : ∃ p, sputB n s = p := ⟨_, rfl⟩
  obtain ⟨q, hq⟩ : ∃ q, sputB m t = q := ⟨_, rfl⟩
  obtain ⟨EV, hEV⟩ : ∃ E, evN n m r = E := ⟨_, rfl⟩
  obtain ⟨z, hz⟩ : ∃ z, sputB EV x = z := ⟨_, rfl⟩
  have HPB := Lib.hid hp
  have HQB := Lib.hid hq
  have HZB := Lib.hid hz
  rw [hEV] at h3
  rw [hEV, hz, hp] at hd
  have he1 := of_evB (of_sputE h1).1
  have he2 := of_evB (of_sputE h2).1
  have hev := evN_eq he1.2 he2.2 hr
  rw [hEV] at hev
  have HPE := Lib.hid h1
  have HQE := Lib.hid h2
  have HZE := Lib.hid h3
  obtain ⟨u1, u2, u3⟩ := sput_get (n := n) (x := s) hs h1
  obtain ⟨v1, v2, v3⟩ := sput_get (n := m) (x := t) ht h2
  obtain ⟨z1, z2, z3⟩ := sput_get (n := EV) (x := x) hx h3
  rw [hp] at u1 u2 u3
  rw [hq] at v1 v2 v3
  rw [hz] at z1 z2 z3
  have HSL : Hid (sloT p q = 0) := Lib.hid (by unfold sloT; rw [u2, v2]; exact if_neg (by omega))
  obtain ⟨d, hdd⟩ : ∃ d, torn p z at_ = d := ⟨_, rfl⟩
  rw [hdd] at hd
  have HD := Lib.hid hdd
  have HAT : Hid (decide ((0 : Int) < at_) = true) := Lib.hid (decide_eq_true hat)
  have HVV : Hid (((EV : Int) == (EV : Int)) = true) := Lib.hid (by simp)
  have HV : Hid (nwN d q = EV ∧ nwS d q = x ∧ nwE d q = 0) := Lib.hid (by
    rw [hd]
    unfold nwN nwS nwE
    rw [z2, v2, z3, v3]
    exact ⟨if_neg (by omega), if_neg (by omega), if_neg (by omega)⟩)
  clear hat
  have hd4 : ((n : Int) == (m : Int)) = false := by simp; omega
  have HGT1 : Hid (decide ((m : Int) < (n : Int)) = false) := Lib.hid (by simp; omega)
  clear h1 h2 h3 he1 he2 hev u1 u2 u3 v1 v2 v3 z1 z2 z3 hdd hd hlt
  rw [hEV] at HE2 HEL
  clear T hn hm hs ht hx hr hp hq hz hEV
  go_enter Tryd.func7, Tryd.ntmps7
  go_upto_region 1 with (first | (refine wpList_valn rfl (exec_boxS rfl rfl) ?_) | fail)
  try simp only [World.size_alloc]
  generalize (((w.alloc (.cells (celS s).toArray 29)).alloc (.cells (celS t).toArray 29)).alloc (.cells (celS x).toArray 29)) = w1 at *
  have HR1 := Lib.hid HF1.out.s.range
  go_wp2_with (first | (refine wpList_valn rfl (exec_loadS (c := s) rfl rfl ?_) ?_; (with_reducible exact HR1.out)) | fail)
  refine (psput n s w1 (HT.out.below HF1.out.bel) HN.out HIS.out).mono ?_
  rintro e w2 ⟨rfl, hb⟩
  rw [HPB.out, HPE.out]
  have hb2 := hb.alloc hb.size (.cells (cel p).toArray 31)
  have HF3 := Lib.hid (HF1.out.keep hb2)
  have HP3 := Lib.hid (range_new w2 (cel p) 31)
  have HPH3 := Lib.hid (there_new w2 p 31)
  have HPZ : Hid (w2.heap.size < (w2.alloc (.cells (cel p).toArray 31)).heap.size ∧ w.heap.size + 1 + 1 < w2.heap.size) := Lib.hid (by have := blk_lt HF1.out.x; have := hb.size; simp only [World.size_alloc]; omega)
  clear hb hb2 HF1 HR1
  go_upto_region 2 with (first | (refine wpList_valn rfl (exec_alloc rfl) ?_) | (refine wpList_nuln rfl (exec_fillN rfl rfl rfl) ?_) | fail)
  generalize w2.alloc (.cells (cel p).toArray 31) = w3 at *
  generalize w2.heap.size = pb at *
  have HR2 := Lib.hid HF3.out.t.range
  go_wp2_with (first | (refine wpList_valn rfl (exec_loadS (c := t) rfl rfl ?_) ?_; (with_reducible exact HR2.out)) | fail)
  refine (psput m t w3 (HT.out.below HF3.out.bel) HM.out HIT.out).mono ?_
  rintro e w4 ⟨rfl, hb⟩
  rw [HQB.out, HQE.out]
  have hb2 := hb.alloc hb.size (.cells (cel q).toArray 31)
  have HF5 := Lib.hid (HF3.out.keep hb2)
  have HP5 := Lib.hid (range_below HP3.out HPZ.out.1 hb2)
  have HPH5 := Lib.hid (there_below HPH3.out HPZ.out.1 hb2)
  have HQ5 := Lib.hid (range_new w4 (cel q) 31)
  have HQH5 := Lib.hid (there_new w4 q 31)
  have HQZ : Hid (pb < w4.heap.size ∧ w4.heap.size < (w4.alloc (.cells (cel q).toArray 31)).heap.size ∧ w.heap.size + 1 + 1 < pb) := Lib.hid (by have := HPZ.out; have := hb.size; simp only [World.size_alloc]; omega)
  clear hb hb2 HF3 HP3 HPH3 HR2 HPZ
  go_upto_region 3 with (first | (refine wpList_valn rfl (exec_alloc rfl) ?_) | (refine wpList_nuln rfl (exec_fillN rfl rfl rfl) ?_) | fail)
  generalize w4.alloc (.cells (cel q).toArray 31) = w5 at *
  generalize w4.heap.size = qb at *
  refine wp_region_lit ?_
  refine wpList_valn rfl (exec_mv rfl (ev rfl)) ?_
  simp only [Act.put, List.setIfInBounds_toArray, List.set_cons_succ, List.set_cons_zero]
  refine wpList_valn rfl (exec_mv rfl (ev rfl)) ?_
  simp only [Act.put, List.setIfInBounds_toArray, List.set_cons_succ, List.set_cons_zero]
  refine wpList_valn rfl (exec_maxU n m rfl (ev rfl) (ev rfl)) ?_
  simp only [Act.put, List.setIfInBounds_toArray, List.set_cons_succ, List.set_cons_zero]
  refine wpList_valn rfl (exec_addU rfl (ev rfl) evk HE1.out) ?_
  simp only [Act.put, List.setIfInBounds_toArray, List.set_cons_succ, List.set_cons_zero]
  refine wpList_valn rfl (exec_mv rfl (ev rfl)) ?_
  simp only [Act.put, List.setIfInBounds_toArray, List.set_cons_succ, List.set_cons_zero]
  refine wpList_valn rfl (exec_cv8 rfl (ev rfl) HR.out) ?_
  simp only [Act.put, List.setIfInBounds_toArray, List.set_cons_succ, List.set_cons_zero]
  refine wpList_valn rfl (exec_addU rfl (ev rfl) (ev rfl) HE2.out) ?_
  simp only [Act.put, List.setIfInBounds_toArray, List.set_cons_succ, List.set_cons_zero]
  refine wpList_valn rfl (exec_as rfl (ev rfl)) ?_
  simp only [Act.put, List.setIfInBounds_toArray, List.set_cons_succ, List.set_cons_zero]
  refine wpList_nil ?_
  have HR3 := Lib.hid HF5.out.x.range
  go_wp2_with (first | (refine wpList_valn rfl (exec_loadS (c := x) rfl rfl ?_) ?_; (with_reducible exact HR3.out)) | fail)
  refine (psput EV x w5 (HT.out.below HF5.out.bel) HEL.out HIX.out).mono ?_
  rintro e w6 ⟨rfl, hb⟩
  rw [HZB.out, HZE.out]
  have hb2 := hb.alloc hb.size (.cells (cel z).toArray 31)
  have HF7 := Lib.hid (HF5.out.keep hb2)
  have HP7 := Lib.hid (range_below HP5.out (by have := HQZ.out; omega) hb2)
  have HPH7 := Lib.hid (there_below HPH5.out (by have := HQZ.out; omega) hb2)
  have HQ7 := Lib.hid (range_below HQ5.out HQZ.out.2.1 hb2)
  have HQH7 := Lib.hid (there_below HQH5.out HQZ.out.2.1 hb2)
  have HZ7 := Lib.hid (range_new w6 (cel z) 31)
  have HZZ : Hid (qb < w6.heap.size ∧ w6.heap.size < (w6.alloc (.cells (cel z).toArray 31)).heap.size ∧ pb < qb ∧ w.heap.size + 1 + 1 < pb) := Lib.hid (by have := HQZ.out; have := hb.size; simp only [World.size_alloc]; omega)
  clear hb hb2 HF5 HP5 HPH5 HQ5 HQH5 HR3 HQZ
  go_upto_region 5 with (first | (refine wpList_valn rfl (exec_alloc rfl) ?_) | (refine wpList_nuln rfl (exec_fillN rfl rfl rfl) ?_) | fail)
  generalize w6.alloc (.cells (cel z).toArray 31) = w7 at *
  generalize w6.heap.size = zb at *
  go_wp2_with (first | (refine wpList_valn rfl (exec_load (c := p) rfl rfl ?_) ?_; (with_reducible exact HP7.out)) | (refine wpList_valn rfl (exec_load (c := q) rfl rfl ?_) ?_; (with_reducible exact HQ7.out)) | fail)
  refine (pslot_b p q 0 w7 (HT.out.below HF7.out.bel) HSL.out).mono ?_
  rintro e w8 ⟨rfl, hb⟩
  have HF8 := Lib.hid (HF7.out.keep hb)
  have HP8 := Lib.hid (range_below HP7.out (by have := HZZ.out; omega) hb)
  have HPH8 := Lib.hid (there_below HPH7.out (by have := HZZ.out; omega) hb)
  have HQ8 := Lib.hid (range_below HQ7.out (by have := HZZ.out; omega) hb)
  have HQH8 := Lib.hid (there_below HQH7.out (by have := HZZ.out; omega) hb)
  have HZ8 := Lib.hid (range_below HZ7.out HZZ.out.2.1 hb)
  have HZZ8 : Hid (zb < w8.heap.size ∧ qb < zb ∧ pb < qb ∧ w.heap.size + 1 + 1 < pb) := Lib.hid (by have := HZZ.out; have := hb.size; omega)
  clear hb HF7 HP7 HPH7 HQ7 HQH7 HZ7 HZZ
  go_wp2_with (first | (refine wpList_valn rfl (exec_load (c := p) rfl rfl ?_) ?_; (with_reducible exact HP8.out)) | (refine wpList_valn rfl (exec_load (c := z) rfl rfl ?_) ?_; (with_reducible exact HZ8.out)) | fail)
  refine (refTorn_any p z at_ w8).mono ?_
  rintro e w9 ⟨rfl, hb⟩
  rw [HD.out]
  have HTH := Lib.hid (there_below HPH8.out (by have := HZZ8.out; omega) hb)
  have HF9 := Lib.hid ((HF8.out.keep hb).put (g := pb) (by have := HZZ8.out; omega) (cel d))
  have HO9 := Lib.hid (World.rangeAt_setCells_apart (range_below HQ8.out (by have := HZZ8.out; omega) hb) pb 0 (cel d) (.inl (by have := HZZ8.out; omega)))
  have HD9 : Hid ((w9.setCells pb 0 (cel d)).rangeAt pb 0 (cel d)) := Lib.hid (World.rangeAt_setCells_same _ _ _ _ (by rw [cel_length]; exact HTH.out))
  clear hb HF8 HP8 HPH8 HQ8 HQH8 HZ8
  go_upto_region 11 with (first | (refine wpList_nuln rfl (exec_store (c := d) rfl rfl rfl ?_) ?_; (with_reducible exact HTH.out)) | fail)
  generalize w9.setCells pb 0 (cel d) = w10 at *
  go_wp2_with (first | (refine wpList_valn rfl (exec_load (c := d) rfl rfl ?_) ?_; (with_reducible exact HD9.out)) | (refine wpList_valn rfl (exec_load (c := q) rfl rfl ?_) ?_; (with_reducible exact HO9.out)) | fail)
  refine (pnew_super d q w10 (HT.out.below HF9.out.bel)).mono ?_
  rintro e w11 ⟨rfl, hb⟩
  rw [HV.out.1, HV.out.2.1, HV.out.2.2]
  have hb2 := hb.alloc hb.size (.cells (celS x).toArray 29)
  have HF12 := Lib.hid (HF9.out.keep hb2)
  have HNW := Lib.hid (SupAt.new w11 x).range
  clear hb hb2 HF9 HO9 HD9 HTH
  go_upto_region 12 with (first | (refine wpList_valn rfl (exec_allocS rfl) ?_) | (refine wpList_nuln rfl (exec_fillS (c := x) rfl rfl rfl) ?_) | fail)
  generalize w11.alloc (.cells (celS x).toArray 29) = w12 at *
  have HXR := Lib.hid HF12.out.x.range
  have HSR := Lib.hid HF12.out.s.range
  have HTR := Lib.hid HF12.out.t.range
  have HBT := Lib.hid HF12.out.bel
  refine wp_region_lit ?_
  refine wpList_valn rfl (exec_mv rfl (ev rfl)) ?_
  simp only [Act.put, List.setIfInBounds_toArray, List.set_cons_succ, List.set_cons_zero]
  refine wpList_valn (v := .bool false) rfl (exec_neInt false rfl (ev rfl) evk rfl) ?_
  simp only [Act.put, List.setIfInBounds_toArray, List.set_cons_succ, List.set_cons_zero]
  refine wpList_valn (v := .bool false) rfl (exec_mv rfl (ev rfl)) ?_
  simp only [Act.put, List.setIfInBounds_toArray, List.set_cons_succ, List.set_cons_zero]
  refine wpList_val (wanted_of rfl rfl rfl rfl) (exec_mv rfl (ev rfl)) ?_
  simp only [Act.put, List.setIfInBounds_toArray, List.set_cons_succ, List.set_cons_zero]
  refine wpList_val (v := .bool false) (wanted_of rfl rfl rfl rfl) (exec_neInt false rfl (ev rfl) evk rfl) ?_
  simp only [Act.put, List.setIfInBounds_toArray, List.set_cons_succ, List.set_cons_zero]
  refine wpList_skips 2 (v := .bool false) (wanted_of rfl rfl rfl rfl) (exec_mv rfl (ev rfl)) (by kernel_rfl) ?_
  simp only [skipAct, List.take_succ_cons, List.take_zero, List.drop_succ_cons, List.drop_zero, Act.put, List.setIfInBounds_toArray, List.set_cons_succ, List.set_cons_zero]
  refine wpList_val (v := .bool false) (wanted_of rfl rfl rfl rfl) (exec_pf rfl (ev rfl) evk) ?_
  simp only [Act.put, List.setIfInBounds_toArray, List.set_cons_succ, List.set_cons_zero]
  refine wpList_valn (v := .bool false) rfl (exec_pf rfl (ev rfl) (ev rfl)) ?_
  simp only [Act.put, List.setIfInBounds_toArray, List.set_cons_succ, List.set_cons_zero]
  refine wpList_nil ?_
  go_upto_region 15 with fail
  refine wp_region_lit ?_
  refine wpList_valn rfl (exec_loadS (c := x) rfl (ev rfl) HNW.out) ?_
  simp only [Act.put, List.setIfInBounds_toArray, List.set_cons_succ, List.set_cons_zero]
  refine wpList_valn rfl (exec_loadS (c := x) rfl (ev rfl) HXR.out) ?_
  simp only [Act.put, List.setIfInBounds_toArray, List.set_cons_succ, List.set_cons_zero]
  refine wpList_valn (v := .bool true) rfl (exec_eqS true rfl (ev rfl) (ev rfl) (decide_eq_true rfl)) ?_
  simp only [Act.put, List.setIfInBounds_toArray, List.set_cons_succ, List.set_cons_zero]
  refine wpList_valn (v := .bool true) rfl (exec_mv rfl (ev rfl)) ?_
  simp only [Act.put, List.setIfInBounds_toArray, List.set_cons_succ, List.set_cons_zero]
  refine wpList_val (wanted_of rfl rfl rfl rfl) (exec_mv rfl (ev rfl)) ?_
  simp only [Act.put, List.setIfInBounds_toArray, List.set_cons_succ, List.set_cons_zero]
  refine wpList_val (v := .bool true) (wanted_of rfl rfl rfl rfl) (exec_gtr true rfl (ev rfl) evk HAT.out) ?_
  simp only [Act.put, List.setIfInBounds_toArray, List.set_cons_succ, List.set_cons_zero]
  refine wpList_valn (v := .bool true) rfl (exec_pt rfl (ev rfl) (ev rfl)) ?_
  simp only [Act.put, List.setIfInBounds_toArray, List.set_cons_succ, List.set_cons_zero]
  refine wpList_valn (v := .bool true) rfl (exec_mv rfl (ev rfl)) ?_
  simp only [Act.put, List.setIfInBounds_toArray, List.set_cons_succ, List.set_cons_zero]
  refine wpList_call (wanted_of rfl rfl rfl rfl) (exec_cl Tryd.call14 rfl evn) ?_
  refine (super_lives _ (HT.out.below HBT.out)).mono ?_
  rintro e wL ⟨rfl, hb⟩
  have HBF := Lib.hid (HBT.out.trans (hb.mono HBT.out.size))
  clear hb
  refine ⟨_, rfl, ?_⟩
  simp only [Act.put, List.setIfInBounds_toArray, List.set_cons_succ, List.set_cons_zero]
  refine wpList_valn (v := .bool true) rfl (exec_pt rfl (ev rfl) (ev rfl)) ?_
  simp only [Act.put, List.setIfInBounds_toArray, List.set_cons_succ, List.set_cons_zero]
  refine wpList_valn (v := .bool true) rfl (exec_as rfl (ev rfl)) ?_
  simp only [Act.put, List.setIfInBounds_toArray, List.set_cons_succ, List.set_cons_zero]
  refine wpList_nil ?_
  go_wp2_with fail
  go_ret
  exact ⟨rfl, HBF.out⟩
set_option maxHeartbeats 4000000 in
theorem superTorn_lt_old (n m : Nat) (s t x : Sup) (r : Nat) (at_ : Int) (w : World) (T : Tab w) (hn : n < 18446744073709551616) (hm : m < 18446744073709551616) (hs : s.id < 18446744073709551616) (ht : t.id < 18446744073709551616) (hx : x.id < 18446744073709551616) (hr : r ≤ 255) (h1 : sputE n s = 0) (h2 : sputE m t = 0) (h3 : sputE (evN n m r) x = 0) (hlt : n < m) (hd : torn (sputB n s) (sputB (evN n m r) x) at_ = sputB n s ∨ gsE (torn (sputB n s) (sputB (evN n m r) x) at_) ≠ 0) (hat : at_ < 64) :
    Calls Tryd.prog 7 #[.int .u64 n, .int .u64 m, sup s, sup t, sup x, .int .u8 r, .int .i64 at_] w fun e w' => e = .returned (.bool true) ∧ Below w.heap.size w w' := by
  have HT := Lib.hid T
  have HN := Lib.hid hn
  have HM := Lib.hid hm
  have HIS := Lib.hid hs
  have HIT := Lib.hid ht
  have HIX := Lib.hid hx
  have HR := Lib.hid hr
  have HF1 := Lib.hid (tri_new w s t x)
  have HE1 : Hid (IntKind.u64.wrap (((max n m : Nat) : Int) + 1) = ((ev1 n m : Nat) : Int)) := Lib.hid (wrapU (max n m + 1))
  have HE2 : Hid (IntKind.u64.wrap (((ev1 n m : Nat) : Int) + (r : Int)) = ((evN n m r : Nat) : Int)) := Lib.hid (wrapU (ev1 n m + r))
  have HEL := Lib.hid (evN_lt n m r)
  obtain ⟨p, hp⟩ : ∃ p, sputB n s = p := ⟨_, rfl⟩
  obtain ⟨q, hq⟩ : ∃ q, sputB m t = q := ⟨_, rfl⟩
  obtain ⟨EV, hEV⟩ : ∃ E, evN n m r = E := ⟨_, rfl⟩
  obtain ⟨z, hz⟩ : ∃ z, sputB EV x = z := ⟨_, rfl⟩
  have HPB := Lib.hid hp
  have HQB := Lib.hid hq
  have HZB := Lib.hid hz
  rw [hEV] at h3
  rw [hEV, hz, hp] at hd
  have he1 := of_evB (of_sputE h1).1
  have he2 := of_evB (of_sputE h2).1
  have hev := evN_eq he1.2 he2.2 hr
  rw [hEV] at hev
  have HPE := Lib.hid h1
  have HQE := Lib.hid h2
  have HZE := Lib.hid h3
  obtain ⟨u1, u2, u3⟩ := sput_get (n := n) (x := s) hs h1
  obtain ⟨v1, v2, v3⟩ := sput_get (n := m) (x := t) ht h2
  obtain ⟨z1, z2, z3⟩ := sput_get (n := EV) (x := x) hx h3
  rw [hp] at u1 u2 u3
  rw [hq] at v1 v2 v3
  rw [hz] at z1 z2 z3
  have HSL : Hid (sloT p q = 0) := Lib.hid (by unfold sloT; rw [u2, v2]; exact if_neg (by omega))
  obtain ⟨d, hdd⟩ : ∃ d, torn p z at_ = d := ⟨_, rfl⟩
  rw [hdd] at hd
  have HD := Lib.hid hdd
  have HAT : Hid (decide (at_ < 64) = true) := Lib.hid (decide_eq_true hat)
  have HVV : Hid (((m : Int) == (m : Int)) = true) := Lib.hid (by simp)
  have hne : ((m : Int) == (EV : Int)) = false := by simp; omega
  have hgd : gsN d < m := by
    rcases hd with h | h
    · rw [h, u2]; exact hlt
    · rw [gsN_no h]; omega
  have HV : Hid (nwN d q = m ∧ nwS d q = t ∧ nwE d q = 0) := Lib.hid (by
    unfold nwN nwS nwE
    rw [v2, v3]
    exact ⟨if_pos hgd, if_pos hgd, if_neg (by omega)⟩)
  clear hat hgd
  have hd4 : ((n : Int) == (m : Int)) = false := by simp; omega
  have HGT1 : Hid (decide ((m : Int) < (n : Int)) = false) := Lib.hid (by simp; omega)
  have HGT2 : Hid (decide ((n : Int) < (m : Int)) = true) := Lib.hid (by simp; omega)
  clear h1 h2 h3 he1 he2 hev u1 u2 u3 v1 v2 v3 z1 z2 z3 hdd hd hlt
  rw [hEV] at HE2 HEL
  clear T hn hm hs ht hx hr hp hq hz hEV
  go_enter Tryd.func7, Tryd.ntmps7
  go_upto_region 1 with (first | (refine wpList_valn rfl (exec_boxS rfl rfl) ?_) | fail)
  try simp only [World.size_alloc]
  generalize (((w.alloc (.cells (celS s).toArray 29)).alloc (.cells (celS t).toArray 29)).alloc (.cells (celS x).toArray 29)) = w1 at *
  have HR1 := Lib.hid HF1.out.s.range
  go_wp2_with (first | (refine wpList_valn rfl (exec_loadS (c := s) rfl rfl ?_) ?_; (with_reducible exact HR1.out)) | fail)
  refine (psput n s w1 (HT.out.below HF1.out.bel) HN.out HIS.out).mono ?_
  rintro e w2 ⟨rfl, hb⟩
  rw [HPB.out, HPE.out]
  have hb2 := hb.alloc hb.size (.cells (cel p).toArray 31)
  have HF3 := Lib.hid (HF1.out.keep hb2)
  have HP3 := Lib.hid (range_new w2 (cel p) 31)
  have HPH3 := Lib.hid (there_new w2 p 31)
  have HPZ : Hid (w2.heap.size < (w2.alloc (.cells (cel p).toArray 31)).heap.size ∧ w.heap.size + 1 + 1 < w2.heap.size) := Lib.hid (by have := blk_lt HF1.out.x; have := hb.size; simp only [World.size_alloc]; omega)
  clear hb hb2 HF1 HR1
  go_upto_region 2 with (first | (refine wpList_valn rfl (exec_alloc rfl) ?_) | (refine wpList_nuln rfl (exec_fillN rfl rfl rfl) ?_) | fail)
  generalize w2.alloc (.cells (cel p).toArray 31) = w3 at *
  generalize w2.heap.size = pb at *
  have HR2 := Lib.hid HF3.out.t.range
  go_wp2_with (first | (refine wpList_valn rfl (exec_loadS (c := t) rfl rfl ?_) ?_; (with_reducible exact HR2.out)) | fail)
  refine (psput m t w3 (HT.out.below HF3.out.bel) HM.out HIT.out).mono ?_
  rintro e w4 ⟨rfl, hb⟩
  rw [HQB.out, HQE.out]
  have hb2 := hb.alloc hb.size (.cells (cel q).toArray 31)
  have HF5 := Lib.hid (HF3.out.keep hb2)
  have HP5 := Lib.hid (range_below HP3.out HPZ.out.1 hb2)
  have HPH5 := Lib.hid (there_below HPH3.out HPZ.out.1 hb2)
  have HQ5 := Lib.hid (range_new w4 (cel q) 31)
  have HQH5 := Lib.hid (there_new w4 q 31)
  have HQZ : Hid (pb < w4.heap.size ∧ w4.heap.size < (w4.alloc (.cells (cel q).toArray 31)).heap.size ∧ w.heap.size + 1 + 1 < pb) := Lib.hid (by have := HPZ.out; have := hb.size; simp only [World.size_alloc]; omega)
  clear hb hb2 HF3 HP3 HPH3 HR2 HPZ
  go_upto_region 3 with (first | (refine wpList_valn rfl (exec_alloc rfl) ?_) | (refine wpList_nuln rfl (exec_fillN rfl rfl rfl) ?_) | fail)
  generalize w4.alloc (.cells (cel q).toArray 31) = w5 at *
  generalize w4.heap.size = qb at *
  refine wp_region_lit ?_
  refine wpList_valn rfl (exec_mv rfl (ev rfl)) ?_
  simp only [Act.put, List.setIfInBounds_toArray, List.set_cons_succ, List.set_cons_zero]
  refine wpList_valn rfl (exec_mv rfl (ev rfl)) ?_
  simp only [Act.put, List.setIfInBounds_toArray, List.set_cons_succ, List.set_cons_zero]
  refine wpList_valn rfl (exec_maxU n m rfl (ev rfl) (ev rfl)) ?_
  simp only [Act.put, List.setIfInBounds_toArray, List.set_cons_succ, List.set_cons_zero]
  refine wpList_valn rfl (exec_addU rfl (ev rfl) evk HE1.out) ?_
  simp only [Act.put, List.setIfInBounds_toArray, List.set_cons_succ, List.set_cons_zero]
  refine wpList_valn rfl (exec_mv rfl (ev rfl)) ?_
  simp only [Act.put, List.setIfInBounds_toArray, List.set_cons_succ, List.set_cons_zero]
  refine wpList_valn rfl (exec_cv8 rfl (ev rfl) HR.out) ?_
  simp only [Act.put, List.setIfInBounds_toArray, List.set_cons_succ, List.set_cons_zero]
  refine wpList_valn rfl (exec_addU rfl (ev rfl) (ev rfl) HE2.out) ?_
  simp only [Act.put, List.setIfInBounds_toArray, List.set_cons_succ, List.set_cons_zero]
  refine wpList_valn rfl (exec_as rfl (ev rfl)) ?_
  simp only [Act.put, List.setIfInBounds_toArray, List.set_cons_succ, List.set_cons_zero]
  refine wpList_nil ?_
  have HR3 := Lib.hid HF5.out.x.range
  go_wp2_with (first | (refine wpList_valn rfl (exec_loadS (c := x) rfl rfl ?_) ?_; (with_reducible exact HR3.out)) | fail)
  refine (psput EV x w5 (HT.out.below HF5.out.bel) HEL.out HIX.out).mono ?_
  rintro e w6 ⟨rfl, hb⟩
  rw [HZB.out, HZE.out]
  have hb2 := hb.alloc hb.size (.cells (cel z).toArray 31)
  have HF7 := Lib.hid (HF5.out.keep hb2)
  have HP7 := Lib.hid (range_below HP5.out (by have := HQZ.out; omega) hb2)
  have HPH7 := Lib.hid (there_below HPH5.out (by have := HQZ.out; omega) hb2)
  have HQ7 := Lib.hid (range_below HQ5.out HQZ.out.2.1 hb2)
  have HQH7 := Lib.hid (there_below HQH5.out HQZ.out.2.1 hb2)
  have HZ7 := Lib.hid (range_new w6 (cel z) 31)
  have HZZ : Hid (qb < w6.heap.size ∧ w6.heap.size < (w6.alloc (.cells (cel z).toArray 31)).heap.size ∧ pb < qb ∧ w.heap.size + 1 + 1 < pb) := Lib.hid (by have := HQZ.out; have := hb.size; simp only [World.size_alloc]; omega)
  clear hb hb2 HF5 HP5 HPH5 HQ5 HQH5 HR3 HQZ
  go_upto_region 5 with (first | (refine wpList_valn rfl (exec_alloc rfl) ?_) | (refine wpList_nuln rfl (exec_fillN rfl rfl rfl) ?_) | fail)
  generalize w6.alloc (.cells (cel z).toArray 31) = w7 at *
  generalize w6.heap.size = zb at *
  go_wp2_with (first | (refine wpList_valn rfl (exec_load (c := p) rfl rfl ?_) ?_; (with_reducible exact HP7.out)) | (refine wpList_valn rfl (exec_load (c := q) rfl rfl ?_) ?_; (with_reducible exact HQ7.out)) | fail)
  refine (pslot_b p q 0 w7 (HT.out.below HF7.out.bel) HSL.out).mono ?_
  rintro e w8 ⟨rfl, hb⟩
  have HF8 := Lib.hid (HF7.out.keep hb)
  have HP8 := Lib.hid (range_below HP7.out (by have := HZZ.out; omega) hb)
  have HPH8 := Lib.hid (there_below HPH7.out (by have := HZZ.out; omega) hb)
  have HQ8 := Lib.hid (range_below HQ7.out (by have := HZZ.out; omega) hb)
  have HQH8 := Lib.hid (there_below HQH7.out (by have := HZZ.out; omega) hb)
  have HZ8 := Lib.hid (range_below HZ7.out HZZ.out.2.1 hb)
  have HZZ8 : Hid (zb < w8.heap.size ∧ qb < zb ∧ pb < qb ∧ w.heap.size + 1 + 1 < pb) := Lib.hid (by have := HZZ.out; have := hb.size; omega)
  clear hb HF7 HP7 HPH7 HQ7 HQH7 HZ7 HZZ
  go_wp2_with (first | (refine wpList_valn rfl (exec_load (c := p) rfl rfl ?_) ?_; (with_reducible exact HP8.out)) | (refine wpList_valn rfl (exec_load (c := z) rfl rfl ?_) ?_; (with_reducible exact HZ8.out)) | fail)
  refine (refTorn_any p z at_ w8).mono ?_
  rintro e w9 ⟨rfl, hb⟩
  rw [HD.out]
  have HTH := Lib.hid (there_below HPH8.out (by have := HZZ8.out; omega) hb)
  have HF9 := Lib.hid ((HF8.out.keep hb).put (g := pb) (by have := HZZ8.out; omega) (cel d))
  have HO9 := Lib.hid (World.rangeAt_setCells_apart (range_below HQ8.out (by have := HZZ8.out; omega) hb) pb 0 (cel d) (.inl (by have := HZZ8.out; omega)))
  have HD9 : Hid ((w9.setCells pb 0 (cel d)).rangeAt pb 0 (cel d)) := Lib.hid (World.rangeAt_setCells_same _ _ _ _ (by rw [cel_length]; exact HTH.out))
  clear hb HF8 HP8 HPH8 HQ8 HQH8 HZ8
  go_upto_region 11 with (first | (refine wpList_nuln rfl (exec_store (c := d) rfl rfl rfl ?_) ?_; (with_reducible exact HTH.out)) | fail)
  generalize w9.setCells pb 0 (cel d) = w10 at *
  go_wp2_with (first | (refine wpList_valn rfl (exec_load (c := d) rfl rfl ?_) ?_; (with_reducible exact HD9.out)) | (refine wpList_valn rfl (exec_load (c := q) rfl rfl ?_) ?_; (with_reducible exact HO9.out)) | fail)
  refine (pnew_super d q w10 (HT.out.below HF9.out.bel)).mono ?_
  rintro e w11 ⟨rfl, hb⟩
  rw [HV.out.1, HV.out.2.1, HV.out.2.2]
  have hb2 := hb.alloc hb.size (.cells (celS t).toArray 29)
  have HF12 := Lib.hid (HF9.out.keep hb2)
  have HNW := Lib.hid (SupAt.new w11 t).range
  clear hb hb2 HF9 HO9 HD9 HTH
  go_upto_region 12 with (first | (refine wpList_valn rfl (exec_allocS rfl) ?_) | (refine wpList_nuln rfl (exec_fillS (c := t) rfl rfl rfl) ?_) | fail)
  generalize w11.alloc (.cells (celS t).toArray 29) = w12 at *
  have HXR := Lib.hid HF12.out.x.range
  have HSR := Lib.hid HF12.out.s.range
  have HTR := Lib.hid HF12.out.t.range
  have HBT := Lib.hid HF12.out.bel
  refine wp_region_lit ?_
  refine wpList_valn rfl (exec_mv rfl (ev rfl)) ?_
  simp only [Act.put, List.setIfInBounds_toArray, List.set_cons_succ, List.set_cons_zero]
  refine wpList_valn (v := .bool false) rfl (exec_neInt false rfl (ev rfl) evk rfl) ?_
  simp only [Act.put, List.setIfInBounds_toArray, List.set_cons_succ, List.set_cons_zero]
  refine wpList_valn (v := .bool false) rfl (exec_mv rfl (ev rfl)) ?_
  simp only [Act.put, List.setIfInBounds_toArray, List.set_cons_succ, List.set_cons_zero]
  refine wpList_val (wanted_of rfl rfl rfl rfl) (exec_mv rfl (ev rfl)) ?_
  simp only [Act.put, List.setIfInBounds_toArray, List.set_cons_succ, List.set_cons_zero]
  refine wpList_val (v := .bool false) (wanted_of rfl rfl rfl rfl) (exec_neInt false rfl (ev rfl) evk rfl) ?_
  simp only [Act.put, List.setIfInBounds_toArray, List.set_cons_succ, List.set_cons_zero]
  refine wpList_skips 2 (v := .bool false) (wanted_of rfl rfl rfl rfl) (exec_mv rfl (ev rfl)) (by kernel_rfl) ?_
  simp only [skipAct, List.take_succ_cons, List.take_zero, List.drop_succ_cons, List.drop_zero, Act.put, List.setIfInBounds_toArray, List.set_cons_succ, List.set_cons_zero]
  refine wpList_val (v := .bool false) (wanted_of rfl rfl rfl rfl) (exec_pf rfl (ev rfl) evk) ?_
  simp only [Act.put, List.setIfInBounds_toArray, List.set_cons_succ, List.set_cons_zero]
  refine wpList_valn (v := .bool false) rfl (exec_pf rfl (ev rfl) (ev rfl)) ?_
  simp only [Act.put, List.setIfInBounds_toArray, List.set_cons_succ, List.set_cons_zero]
  refine wpList_nil ?_
  go_upto_region 16 with fail
  refine wp_region_lit ?_
  refine wpList_valn rfl (exec_mv rfl (ev rfl)) ?_
  simp only [Act.put, List.setIfInBounds_toArray, List.set_cons_succ, List.set_cons_zero]
  refine wpList_valn rfl (exec_mv rfl (ev rfl)) ?_
  simp only [Act.put, List.setIfInBounds_toArray, List.set_cons_succ, List.set_cons_zero]
  refine wpList_valn (v := .bool false) rfl (exec_gtr false rfl (ev rfl) (ev rfl) HGT1.out) ?_
  simp only [Act.put, List.setIfInBounds_toArray, List.set_cons_succ, List.set_cons_zero]
  refine wpList_skips 3 (v := .bool false) rfl (exec_mv rfl (ev rfl)) (by kernel_rfl) ?_
  simp only [skipAct, List.take_succ_cons, List.take_zero, List.drop_succ_cons, List.drop_zero, Act.put, List.setIfInBounds_toArray, List.set_cons_succ, List.set_cons_zero]
  refine wpList_valn (v := .bool false) rfl (exec_pf rfl (ev rfl) evk) ?_
  simp only [Act.put, List.setIfInBounds_toArray, List.set_cons_succ, List.set_cons_zero]
  refine wpList_skips 3 (v := .bool false) rfl (exec_mv rfl (ev rfl)) (by kernel_rfl) ?_
  simp only [skipAct, List.take_succ_cons, List.take_zero, List.drop_succ_cons, List.drop_zero, Act.put, List.setIfInBounds_toArray, List.set_cons_succ, List.set_cons_zero]
  refine wpList_valn (v := .bool false) rfl (exec_pf rfl (ev rfl) evk) ?_
  simp only [Act.put, List.setIfInBounds_toArray, List.set_cons_succ, List.set_cons_zero]
  refine wpList_valn (v := .bool false) rfl (exec_mv rfl (ev rfl)) ?_
  simp only [Act.put, List.setIfInBounds_toArray, List.set_cons_succ, List.set_cons_zero]
  refine wpList_val (wanted_of rfl rfl rfl rfl) (exec_mv rfl (ev rfl)) ?_
  simp only [Act.put, List.setIfInBounds_toArray, List.set_cons_succ, List.set_cons_zero]
  refine wpList_val (wanted_of rfl rfl rfl rfl) (exec_mv rfl (ev rfl)) ?_
  simp only [Act.put, List.setIfInBounds_toArray, List.set_cons_succ, List.set_cons_zero]
  refine wpList_val (v := .bool true) (wanted_of rfl rfl rfl rfl) (exec_gtr true rfl (ev rfl) (ev rfl) HGT2.out) ?_
  simp only [Act.put, List.setIfInBounds_toArray, List.set_cons_succ, List.set_cons_zero]
  refine wpList_val (v := .bool true) (wanted_of rfl rfl rfl rfl) (exec_mv rfl (ev rfl)) ?_
  simp only [Act.put, List.setIfInBounds_toArray, List.set_cons_succ, List.set_cons_zero]
  refine wpList_val (wanted_of rfl rfl rfl rfl) (exec_mv rfl (ev rfl)) ?_
  simp only [Act.put, List.setIfInBounds_toArray, List.set_cons_succ, List.set_cons_zero]
  refine wpList_val (wanted_of rfl rfl rfl rfl) (exec_mv rfl (ev rfl)) ?_
  simp only [Act.put, List.setIfInBounds_toArray, List.set_cons_succ, List.set_cons_zero]
  refine wpList_val (v := .bool true) (wanted_of rfl rfl rfl rfl) (exec_eqInt true rfl (ev rfl) (ev rfl) HVV.out) ?_
  simp only [Act.put, List.setIfInBounds_toArray, List.set_cons_succ, List.set_cons_zero]
  refine wpList_val (v := .bool true) (wanted_of rfl rfl rfl rfl) (exec_pt rfl (ev rfl) (ev rfl)) ?_
  simp only [Act.put, List.setIfInBounds_toArray, List.set_cons_succ, List.set_cons_zero]
  refine wpList_val (v := .bool true) (wanted_of rfl rfl rfl rfl) (exec_mv rfl (ev rfl)) ?_
  simp only [Act.put, List.setIfInBounds_toArray, List.set_cons_succ, List.set_cons_zero]
  refine wpList_val (wanted_of rfl rfl rfl rfl) (exec_loadS (c := t) rfl (ev rfl) HNW.out) ?_
  simp only [Act.put, List.setIfInBounds_toArray, List.set_cons_succ, List.set_cons_zero]
  refine wpList_val (wanted_of rfl rfl rfl rfl) (exec_loadS (c := t) rfl (ev rfl) HTR.out) ?_
  simp only [Act.put, List.setIfInBounds_toArray, List.set_cons_succ, List.set_cons_zero]
  refine wpList_val (v := .bool true) (wanted_of rfl rfl rfl rfl) (exec_eqS true rfl (ev rfl) (ev rfl) (decide_eq_true rfl)) ?_
  simp only [Act.put, List.setIfInBounds_toArray, List.set_cons_succ, List.set_cons_zero]
  refine wpList_val (v := .bool true) (wanted_of rfl rfl rfl rfl) (exec_pt rfl (ev rfl) (ev rfl)) ?_
  simp only [Act.put, List.setIfInBounds_toArray, List.set_cons_succ, List.set_cons_zero]
  refine wpList_valn (v := .bool true) rfl (exec_pf rfl (ev rfl) (ev rfl)) ?_
  simp only [Act.put, List.setIfInBounds_toArray, List.set_cons_succ, List.set_cons_zero]
  refine wpList_valn (v := .bool true) rfl (exec_mv rfl (ev rfl)) ?_
  simp only [Act.put, List.setIfInBounds_toArray, List.set_cons_succ, List.set_cons_zero]
  refine wpList_val (wanted_of rfl rfl rfl rfl) (exec_mv rfl (ev rfl)) ?_
  simp only [Act.put, List.setIfInBounds_toArray, List.set_cons_succ, List.set_cons_zero]
  refine wpList_val (v := .bool true) (wanted_of rfl rfl rfl rfl) (exec_lss true rfl (ev rfl) evk HAT.out) ?_
  simp only [Act.put, List.setIfInBounds_toArray, List.set_cons_succ, List.set_cons_zero]
  refine wpList_valn (v := .bool true) rfl (exec_pt rfl (ev rfl) (ev rfl)) ?_
  simp only [Act.put, List.setIfInBounds_toArray, List.set_cons_succ, List.set_cons_zero]
  refine wpList_valn (v := .bool true) rfl (exec_mv rfl (ev rfl)) ?_
  simp only [Act.put, List.setIfInBounds_toArray, List.set_cons_succ, List.set_cons_zero]
  refine wpList_call (wanted_of rfl rfl rfl rfl) (exec_cl Tryd.call14 rfl evn) ?_
  refine (super_lives _ (HT.out.below HBT.out)).mono ?_
  rintro e wL ⟨rfl, hb⟩
  have HBF := Lib.hid (HBT.out.trans (hb.mono HBT.out.size))
  clear hb
  refine ⟨_, rfl, ?_⟩
  simp only [Act.put, List.setIfInBounds_toArray, List.set_cons_succ, List.set_cons_zero]
  refine wpList_valn (v := .bool true) rfl (exec_pt rfl (ev rfl) (ev rfl)) ?_
  simp only [Act.put, List.setIfInBounds_toArray, List.set_cons_succ, List.set_cons_zero]
  refine wpList_valn (v := .bool true) rfl (exec_as rfl (ev rfl)) ?_
  simp only [Act.put, List.setIfInBounds_toArray, List.set_cons_succ, List.set_cons_zero]
  refine wpList_nil ?_
  go_wp2_with fail
  go_ret
  exact ⟨rfl, HBF.out⟩
end Go.Proofs.YtiilclncedipiaaDoor
namespace Go.Proofs.YtiilclncedipiaaDoor
open Go.RowKit
set_option linter.unusedVariables false
set_option linter.unusedSimpArgs false
set_option maxRecDepth 100000

set_option maxHeartbeats 4000000 in
theorem superTorn_gt_new (n m : Nat) (s t x : Sup) (r : Nat) (at_ : Int) (w : World) (T : Tab w) (hn : n < 18446744073709551616) (hm : m < 18446744073709551616) (hs : s.id < 18446744073709551616) (ht : t.id < 18446744073709551616) (hx : x.id < 18446744073709551616) (hr : r ≤ 255) (h1 : sputE n s = 0) (h2 : sputE m t = 0) (h3 : sputE (evN n m r) x = 0) (hlt : m < n) (hd : torn (sputB m t) (sputB (evN n m r) x) at_ = sputB (evN n m r) x) (hat : 0 < at_) :
    Calls Tryd.prog 7 #[.int .u64 n, .int .u64 m, sup s, sup t, sup x, .int .u8 r, .int .i64 at_] w fun e w' => e = .returned (.bool true) ∧ Below w.heap.size w w' := by
  have HT := Lib.hid T
  have HN := Lib.hid hn
  have HM := Lib.hid hm
  have HIS := Lib.hid hs
  have HIT := Lib.hid ht
  have HIX := Lib.hid hx
  have HR := Lib.hid hr
  have HF1 := Lib.hid (tri_new w s t x)
  have HE1 : Hid (IntKind.u64.wrap (((max n m : Nat) : Int) + 1) = ((ev1 n m : Nat) : Int)) := Lib.hid (wrapU (max n m + 1))
  have HE2 : Hid (IntKind.u64.wrap (((ev1 n m : Nat) : Int) + (r : Int)) = ((evN n m r : Nat) : Int)) := Lib.hid (wrapU (ev1 n m + r))
  have HEL := Lib.hid (evN_lt n m r)
  obtain ⟨p, hp⟩ : ∃ p, sputB n s = p := ⟨_, rfl⟩
  obtain ⟨q, hq⟩ : ∃ q, sputB m t = q := ⟨_, rfl⟩
  obtain ⟨EV, hEV⟩ : ∃ E, evN n m r = E := ⟨_, rfl⟩
  obtain ⟨z, hz⟩ : ∃ z, sputB EV x = z := ⟨_, rfl⟩
  have HPB := Lib.hid hp
  have HQB := Lib.hid hq
  have HZB := Lib.hid hz
  rw [hEV] at h3
  rw [hEV, hz, hq] at hd
  have he1 := of_evB (of_sputE h1).1
  have he2 := of_evB (of_sputE h2).1
  have hev := evN_eq he1.2 he2.2 hr
  rw [hEV] at hev
  have HPE := Lib.hid h1
  have HQE := Lib.hid h2
  have HZE := Lib.hid h3
  obtain ⟨u1, u2, u3⟩ := sput_get (n := n) (x := s) hs h1
  obtain ⟨v1, v2, v3⟩ := sput_get (n := m) (x := t) ht h2
  obtain ⟨z1, z2, z3⟩ := sput_get (n := EV) (x := x) hx h3
  rw [hp] at u1 u2 u3
  rw [hq] at v1 v2 v3
  rw [hz] at z1 z2 z3
  have HSL : Hid (sloT p q = 1) := Lib.hid (by unfold sloT; rw [u2, v2]; exact if_pos (by omega))
  obtain ⟨d, hdd⟩ : ∃ d, torn q z at_ = d := ⟨_, rfl⟩
  rw [hdd] at hd
  have HD := Lib.hid hdd
  have HAT : Hid (decide ((0 : Int) < at_) = true) := Lib.hid (decide_eq_true hat)
  have HVV : Hid (((EV : Int) == (EV : Int)) = true) := Lib.hid (by simp)
  have HV : Hid (nwN p d = EV ∧ nwS p d = x ∧ nwE p d = 0) := Lib.hid (by
    rw [hd]
    unfold nwN nwS nwE
    rw [u2, z2, u3, z3]
    exact ⟨if_pos (by omega), if_pos (by omega), if_neg (by omega)⟩)
  clear hat
  have hd4 : ((n : Int) == (m : Int)) = false := by simp; omega
  have HGT1 : Hid (decide ((m : Int) < (n : Int)) = true) := Lib.hid (by simp; omega)
  clear h1 h2 h3 he1 he2 hev u1 u2 u3 v1 v2 v3 z1 z2 z3 hdd hd hlt
  rw [hEV] at HE2 HEL
  clear T hn hm hs ht hx hr hp hq hz hEV
  go_enter Tryd.func7, Tryd.ntmps7
  go_upto_region 1 with (first | (refine wpList_valn rfl (exec_boxS rfl rfl) ?_) | fail)
  try simp only [World.size_alloc]
  generalize (((w.alloc (.cells (celS s).toArray 29)).alloc (.cells (celS t).toArray 29)).alloc (.cells (celS x).toArray 29)) = w1 at *
  have HR1 := Lib.hid HF1.out.s.range
  go_wp2_with (first | (refine wpList_valn rfl (exec_loadS (c := s) rfl rfl ?_) ?_; (with_reducible exact HR1.out)) | fail)
  refine (psput n s w1 (HT.out.below HF1.out.bel) HN.out HIS.out).mono ?_
  rintro e w2 ⟨rfl, hb⟩
  rw [HPB.out, HPE.out]
  have hb2 := hb.alloc hb.size (.cells (cel p).toArray 31)
  have HF3 := Lib.hid (HF1.out.keep hb2)
  have HP3 := Lib.hid (range_new w2 (cel p) 31)
  have HPH3 := Lib.hid (there_new w2 p 31)
  have HPZ : Hid (w2.heap.size < (w2.alloc (.cells (cel p).toArray 31)).heap.size ∧ w.heap.size + 1 + 1 < w2.heap.size) := Lib.hid (by have := blk_lt HF1.out.x; have := hb.size; simp only [World.size_alloc]; omega)
  clear hb hb2 HF1 HR1
  go_upto_region 2 with (first | (refine wpList_valn rfl (exec_alloc rfl) ?_) | (refine wpList_nuln rfl (exec_fillN rfl rfl rfl) ?_) | fail)
  generalize w2.alloc (.cells (cel p).toArray 31) = w3 at *
  generalize w2.heap.size = pb at *
  have HR2 := Lib.hid HF3.out.t.range
  go_wp2_with (first | (refine wpList_valn rfl (exec_loadS (c := t) rfl rfl ?_) ?_; (with_reducible exact HR2.out)) | fail)
  refine (psput m t w3 (HT.out.below HF3.out.bel) HM.out HIT.out).mono ?_
  rintro e w4 ⟨rfl, hb⟩
  rw [HQB.out, HQE.out]
  have hb2 := hb.alloc hb.size (.cells (cel q).toArray 31)
  have HF5 := Lib.hid (HF3.out.keep hb2)
  have HP5 := Lib.hid (range_below HP3.out HPZ.out.1 hb2)
  have HPH5 := Lib.hid (there_below HPH3.out HPZ.out.1 hb2)
  have HQ5 := Lib.hid (range_new w4 (cel q) 31)
  have HQH5 := Lib.hid (there_new w4 q 31)
  have HQZ : Hid (pb < w4.heap.size ∧ w4.heap.size < (w4.alloc (.cells (cel q).toArray 31)).heap.size ∧ w.heap.size + 1 + 1 < pb) := Lib.hid (by have := HPZ.out; have := hb.size; simp only [World.size_alloc]; omega)
  clear hb hb2 HF3 HP3 HPH3 HR2 HPZ
  go_upto_region 3 with (first | (refine wpList_valn rfl (exec_alloc rfl) ?_) | (refine wpList_nuln rfl (exec_fillN rfl rfl rfl) ?_) | fail)
  generalize w4.alloc (.cells (cel q).toArray 31) = w5 at *
  generalize w4.heap.size = qb at *
  refine wp_region_lit ?_
  refine wpList_valn rfl (exec_mv rfl (ev rfl)) ?_
  simp only [Act.put, List.setIfInBounds_toArray, List.set_cons_succ, List.set_cons_zero]
  refine wpList_valn rfl (exec_mv rfl (ev rfl)) ?_
  simp only [Act.put, List.setIfInBounds_toArray, List.set_cons_succ, List.set_cons_zero]
  refine wpList_valn rfl (exec_maxU n m rfl (ev rfl) (ev rfl)) ?_
  simp only [Act.put, List.setIfInBounds_toArray, List.set_cons_succ, List.set_cons_zero]
  refine wpList_valn rfl (exec_addU rfl (ev rfl) evk HE1.out) ?_
  simp only [Act.put, List.setIfInBounds_toArray, List.set_cons_succ, List.set_cons_zero]
  refine wpList_valn rfl (exec_mv rfl (ev rfl)) ?_
  simp only [Act.put, List.setIfInBounds_toArray, List.set_cons_succ, List.set_cons_zero]
  refine wpList_valn rfl (exec_cv8 rfl (ev rfl) HR.out) ?_
  simp only [Act.put, List.setIfInBounds_toArray, List.set_cons_succ, List.set_cons_zero]
  refine wpList_valn rfl (exec_addU rfl (ev rfl) (ev rfl) HE2.out) ?_
  simp only [Act.put, List.setIfInBounds_toArray, List.set_cons_succ, List.set_cons_zero]
  refine wpList_valn rfl (exec_as rfl (ev rfl)) ?_
  simp only [Act.put, List.setIfInBounds_toArray, List.set_cons_succ, List.set_cons_zero]
  refine wpList_nil ?_
  have HR3 := Lib.hid HF5.out.x.range
  go_wp2_with (first | (refine wpList_valn rfl (exec_loadS (c := x) rfl rfl ?_) ?_; (with_reducible exact HR3.out)) | fail)
  refine (psput EV x w5 (HT.out.below HF5.out.bel) HEL.out HIX.out).mono ?_
  rintro e w6 ⟨rfl, hb⟩
  rw [HZB.out, HZE.out]
  have hb2 := hb.alloc hb.size (.cells (cel z).toArray 31)
  have HF7 := Lib.hid (HF5.out.keep hb2)
  have HP7 := Lib.hid (range_below HP5.out (by have := HQZ.out; omega) hb2)
  have HPH7 := Lib.hid (there_below HPH5.out (by have := HQZ.out; omega) hb2)
  have HQ7 := Lib.hid (range_below HQ5.out HQZ.out.2.1 hb2)
  have HQH7 := Lib.hid (there_below HQH5.out HQZ.out.2.1 hb2)
  have HZ7 := Lib.hid (range_new w6 (cel z) 31)
  have HZZ : Hid (qb < w6.heap.size ∧ w6.heap.size < (w6.alloc (.cells (cel z).toArray 31)).heap.size ∧ pb < qb ∧ w.heap.size + 1 + 1 < pb) := Lib.hid (by have := HQZ.out; have := hb.size; simp only [World.size_alloc]; omega)
  clear hb hb2 HF5 HP5 HPH5 HQ5 HQH5 HR3 HQZ
  go_upto_region 5 with (first | (refine wpList_valn rfl (exec_alloc rfl) ?_) | (refine wpList_nuln rfl (exec_fillN rfl rfl rfl) ?_) | fail)
  generalize w6.alloc (.cells (cel z).toArray 31) = w7 at *
  generalize w6.heap.size = zb at *
  go_wp2_with (first | (refine wpList_valn rfl (exec_load (c := p) rfl rfl ?_) ?_; (with_reducible exact HP7.out)) | (refine wpList_valn rfl (exec_load (c := q) rfl rfl ?_) ?_; (with_reducible exact HQ7.out)) | fail)
  refine (pslot_b p q 1 w7 (HT.out.below HF7.out.bel) HSL.out).mono ?_
  rintro e w8 ⟨rfl, hb⟩
  have HF8 := Lib.hid (HF7.out.keep hb)
  have HP8 := Lib.hid (range_below HP7.out (by have := HZZ.out; omega) hb)
  have HPH8 := Lib.hid (there_below HPH7.out (by have := HZZ.out; omega) hb)
  have HQ8 := Lib.hid (range_below HQ7.out (by have := HZZ.out; omega) hb)
  have HQH8 := Lib.hid (there_below HQH7.out (by have := HZZ.out; omega) hb)
  have HZ8 := Lib.hid (range_below HZ7.out HZZ.out.2.1 hb)
  have HZZ8 : Hid (zb < w8.heap.size ∧ qb < zb ∧ pb < qb ∧ w.heap.size + 1 + 1 < pb) := Lib.hid (by have := HZZ.out; have := hb.size; omega)
  clear hb HF7 HP7 HPH7 HQ7 HQH7 HZ7 HZZ
  go_wp2_with (first | (refine wpList_valn rfl (exec_load (c := q) rfl rfl ?_) ?_; (with_reducible exact HQ8.out)) | (refine wpList_valn rfl (exec_load (c := z) rfl rfl ?_) ?_; (with_reducible exact HZ8.out)) | fail)
  refine (refTorn_any q z at_ w8).mono ?_
  rintro e w9 ⟨rfl, hb⟩
  rw [HD.out]
  have HTH := Lib.hid (there_below HQH8.out (by have := HZZ8.out; omega) hb)
  have HF9 := Lib.hid ((HF8.out.keep hb).put (g := qb) (by have := HZZ8.out; omega) (cel d))
  have HO9 := Lib.hid (World.rangeAt_setCells_apart (range_below HP8.out (by have := HZZ8.out; omega) hb) qb 0 (cel d) (.inl (by have := HZZ8.out; omega)))
  have HD9 : Hid ((w9.setCells qb 0 (cel d)).rangeAt qb 0 (cel d)) := Lib.hid (World.rangeAt_setCells_same _ _ _ _ (by rw [cel_length]; exact HTH.out))
  clear hb HF8 HP8 HPH8 HQ8 HQH8 HZ8
  go_upto_region 11 with (first | (refine wpList_nuln rfl (exec_store (c := d) rfl rfl rfl ?_) ?_; (with_reducible exact HTH.out)) | fail)
  generalize w9.setCells qb 0 (cel d) = w10 at *
  go_wp2_with (first | (refine wpList_valn rfl (exec_load (c := d) rfl rfl ?_) ?_; (with_reducible exact HD9.out)) | (refine wpList_valn rfl (exec_load (c := p) rfl rfl ?_) ?_; (with_reducible exact HO9.out)) | fail)
  refine (pnew_super p d w10 (HT.out.below HF9.out.bel)).mono ?_
  rintro e w11 ⟨rfl, hb⟩
  rw [HV.out.1, HV.out.2.1, HV.out.2.2]
  have hb2 := hb.alloc hb.size (.cells (celS x).toArray 29)
  have HF12 := Lib.hid (HF9.out.keep hb2)
  have HNW := Lib.hid (SupAt.new w11 x).range
  clear hb hb2 HF9 HO9 HD9 HTH
  go_upto_region 12 with (first | (refine wpList_valn rfl (exec_allocS rfl) ?_) | (refine wpList_nuln rfl (exec_fillS (c := x) rfl rfl rfl) ?_) | fail)
  generalize w11.alloc (.cells (celS x).toArray 29) = w12 at *
  have HXR := Lib.hid HF12.out.x.range
  have HSR := Lib.hid HF12.out.s.range
  have HTR := Lib.hid HF12.out.t.range
  have HBT := Lib.hid HF12.out.bel
  refine wp_region_lit ?_
  refine wpList_valn rfl (exec_mv rfl (ev rfl)) ?_
  simp only [Act.put, List.setIfInBounds_toArray, List.set_cons_succ, List.set_cons_zero]
  refine wpList_valn (v := .bool false) rfl (exec_neInt false rfl (ev rfl) evk rfl) ?_
  simp only [Act.put, List.setIfInBounds_toArray, List.set_cons_succ, List.set_cons_zero]
  refine wpList_valn (v := .bool false) rfl (exec_mv rfl (ev rfl)) ?_
  simp only [Act.put, List.setIfInBounds_toArray, List.set_cons_succ, List.set_cons_zero]
  refine wpList_val (wanted_of rfl rfl rfl rfl) (exec_mv rfl (ev rfl)) ?_
  simp only [Act.put, List.setIfInBounds_toArray, List.set_cons_succ, List.set_cons_zero]
  refine wpList_val (v := .bool true) (wanted_of rfl rfl rfl rfl) (exec_neInt true rfl (ev rfl) evk rfl) ?_
  simp only [Act.put, List.setIfInBounds_toArray, List.set_cons_succ, List.set_cons_zero]
  refine wpList_val (v := .bool true) (wanted_of rfl rfl rfl rfl) (exec_mv rfl (ev rfl)) ?_
  simp only [Act.put, List.setIfInBounds_toArray, List.set_cons_succ, List.set_cons_zero]
  refine wpList_val (wanted_of rfl rfl rfl rfl) (exec_mv rfl (ev rfl)) ?_
  simp only [Act.put, List.setIfInBounds_toArray, List.set_cons_succ, List.set_cons_zero]
  refine wpList_val (v := .bool false) (wanted_of rfl rfl rfl rfl) (exec_neInt false rfl (ev rfl) evk rfl) ?_
  simp only [Act.put, List.setIfInBounds_toArray, List.set_cons_succ, List.set_cons_zero]
  refine wpList_val (v := .bool false) (wanted_of rfl rfl rfl rfl) (exec_pt rfl (ev rfl) (ev rfl)) ?_
  simp only [Act.put, List.setIfInBounds_toArray, List.set_cons_succ, List.set_cons_zero]
  refine wpList_valn (v := .bool false) rfl (exec_pf rfl (ev rfl) (ev rfl)) ?_
  simp only [Act.put, List.setIfInBounds_toArray, List.set_cons_succ, List.set_cons_zero]
  refine wpList_nil ?_
  go_upto_region 15 with fail
  refine wp_region_lit ?_
  refine wpList_valn rfl (exec_loadS (c := x) rfl (ev rfl) HNW.out) ?_
  simp only [Act.put, List.setIfInBounds_toArray, List.set_cons_succ, List.set_cons_zero]
  refine wpList_valn rfl (exec_loadS (c := x) rfl (ev rfl) HXR.out) ?_
  simp only [Act.put, List.setIfInBounds_toArray, List.set_cons_succ, List.set_cons_zero]
  refine wpList_valn (v := .bool true) rfl (exec_eqS true rfl (ev rfl) (ev rfl) (decide_eq_true rfl)) ?_
  simp only [Act.put, List.setIfInBounds_toArray, List.set_cons_succ, List.set_cons_zero]
  refine wpList_valn (v := .bool true) rfl (exec_mv rfl (ev rfl)) ?_
  simp only [Act.put, List.setIfInBounds_toArray, List.set_cons_succ, List.set_cons_zero]
  refine wpList_val (wanted_of rfl rfl rfl rfl) (exec_mv rfl (ev rfl)) ?_
  simp only [Act.put, List.setIfInBounds_toArray, List.set_cons_succ, List.set_cons_zero]
  refine wpList_val (v := .bool true) (wanted_of rfl rfl rfl rfl) (exec_gtr true rfl (ev rfl) evk HAT.out) ?_
  simp only [Act.put, List.setIfInBounds_toArray, List.set_cons_succ, List.set_cons_zero]
  refine wpList_valn (v := .bool true) rfl (exec_pt rfl (ev rfl) (ev rfl)) ?_
  simp only [Act.put, List.setIfInBounds_toArray, List.set_cons_succ, List.set_cons_zero]
  refine wpList_valn (v := .bool true) rfl (exec_mv rfl (ev rfl)) ?_
  simp only [Act.put, List.setIfInBounds_toArray, List.set_cons_succ, List.set_cons_zero]
  refine wpList_call (wanted_of rfl rfl rfl rfl) (exec_cl Tryd.call14 rfl evn) ?_
  refine (super_lives _ (HT.out.below HBT.out)).mono ?_
  rintro e wL ⟨rfl, hb⟩
  have HBF := Lib.hid (HBT.out.trans (hb.mono HBT.out.size))
  clear hb
  refine ⟨_, rfl, ?_⟩
  simp only [Act.put, List.setIfInBounds_toArray, List.set_cons_succ, List.set_cons_zero]
  refine wpList_valn (v := .bool true) rfl (exec_pt rfl (ev rfl) (ev rfl)) ?_
  simp only [Act.put, List.setIfInBounds_toArray, List.set_cons_succ, List.set_cons_zero]
  refine wpList_valn (v := .bool true) rfl (exec_as rfl (ev rfl)) ?_
  simp only [Act.put, List.setIfInBounds_toArray, List.set_cons_succ, List.set_cons_zero]
  refine wpList_nil ?_
  go_wp2_with fail
  go_ret
  exact ⟨rfl, HBF.out⟩
set_option maxHeartbeats 4000000 in
theorem superTorn_gt_old (n m : Nat) (s t x : Sup) (r : Nat) (at_ : Int) (w : World) (T : Tab w) (hn : n < 18446744073709551616) (hm : m < 18446744073709551616) (hs : s.id < 18446744073709551616) (ht : t.id < 18446744073709551616) (hx : x.id < 18446744073709551616) (hr : r ≤ 255) (h1 : sputE n s = 0) (h2 : sputE m t = 0) (h3 : sputE (evN n m r) x = 0) (hlt : m < n) (hd : torn (sputB m t) (sputB (evN n m r) x) at_ = sputB m t ∨ gsE (torn (sputB m t) (sputB (evN n m r) x) at_) ≠ 0) (hat : at_ < 64) :
    Calls Tryd.prog 7 #[.int .u64 n, .int .u64 m, sup s, sup t, sup x, .int .u8 r, .int .i64 at_] w fun e w' => e = .returned (.bool true) ∧ Below w.heap.size w w' := by
  have HT := Lib.hid T
  have HN := Lib.hid hn
  have HM := Lib.hid hm
  have HIS := Lib.hid hs
  have HIT := Lib.hid ht
  have HIX := Lib.hid hx
  have HR := Lib.hid hr
  have HF1 := Lib.hid (tri_new w s t x)
  have HE1 : Hid (IntKind.u64.wrap (((max n m : Nat) : Int) + 1) = ((ev1 n m : Nat) : Int)) := Lib.hid (wrapU (max n m + 1))
  have HE2 : Hid (IntKind.u64.wrap (((ev1 n m : Nat) : Int) + (r : Int)) = ((evN n m r : Nat) : Int)) := Lib.hid (wrapU (ev1 n m + r))
  have HEL := Lib.hid (evN_lt n m r)
  obtain ⟨p, hp⟩ : ∃ p, sputB n s = p := ⟨_, rfl⟩
  obtain ⟨q, hq⟩ : ∃ q, sputB m t = q := ⟨_, rfl⟩
  obtain ⟨EV, hEV⟩ : ∃ E, evN n m r = E := ⟨_, rfl⟩
  obtain ⟨z, hz⟩ : ∃ z, sputB EV x = z := ⟨_, rfl⟩
  have HPB := Lib.hid hp
  have HQB := Lib.hid hq
  have HZB := Lib.hid hz
  rw [hEV] at h3
  rw [hEV, hz, hq] at hd
  have he1 := of_evB (of_sputE h1).1
  have he2 := of_evB (of_sputE h2).1
  have hev := evN_eq he1.2 he2.2 hr
  rw [hEV] at hev
  have HPE := Lib.hid h1
  have HQE := Lib.hid h2
  have HZE := Lib.hid h3
  obtain ⟨u1, u2, u3⟩ := sput_get (n := n) (x := s) hs h1
  obtain ⟨v1, v2, v3⟩ := sput_get (n := m) (x := t) ht h2
  obtain ⟨z1, z2, z3⟩ := sput_get (n := EV) (x := x) hx h3
  rw [hp] at u1 u2 u3
  rw [hq] at v1 v2 v3
  rw [hz] at z1 z2 z3
  have HSL : Hid (sloT p q = 1) := Lib.hid (by unfold sloT; rw [u2, v2]; exact if_pos (by omega))
  obtain ⟨d, hdd⟩ : ∃ d, torn q z at_ = d := ⟨_, rfl⟩
  rw [hdd] at hd
  have HD := Lib.hid hdd
  have HAT : Hid (decide (at_ < 64) = true) := Lib.hid (decide_eq_true hat)
  have HVV : Hid (((n : Int) == (n : Int)) = true) := Lib.hid (by simp)
  have hne : ((n : Int) == (EV : Int)) = false := by simp; omega
  have hgd : gsN d < n := by
    rcases hd with h | h
    · rw [h, v2]; exact hlt
    · rw [gsN_no h]; omega
  have HV : Hid (nwN p d = n ∧ nwS p d = s ∧ nwE p d = 0) := Lib.hid (by
    unfold nwN nwS nwE
    rw [u2, u3]
    exact ⟨if_neg (by omega), if_neg (by omega), if_neg (by omega)⟩)
  clear hat hgd
  have hd4 : ((n : Int) == (m : Int)) = false := by simp; omega
  have HGT1 : Hid (decide ((m : Int) < (n : Int)) = true) := Lib.hid (by simp; omega)
  clear h1 h2 h3 he1 he2 hev u1 u2 u3 v1 v2 v3 z1 z2 z3 hdd hd hlt
  rw [hEV] at HE2 HEL
  clear T hn hm hs ht hx hr hp hq hz hEV
  go_enter Tryd.func7, Tryd.ntmps7
  go_upto_region 1 with (first | (refine wpList_valn rfl (exec_boxS rfl rfl) ?_) | fail)
  try simp only [World.size_alloc]
  generalize (((w.alloc (.cells (celS s).toArray 29)).alloc (.cells (celS t).toArray 29)).alloc (.cells (celS x).toArray 29)) = w1 at *
  have HR1 := Lib.hid HF1.out.s.range
  go_wp2_with (first | (refine wpList_valn rfl (exec_loadS (c := s) rfl rfl ?_) ?_; (with_reducible exact HR1.out)) | fail)
  refine (psput n s w1 (HT.out.below HF1.out.bel) HN.out HIS.out).mono ?_
  rintro e w2 ⟨rfl, hb⟩
  rw [HPB.out, HPE.out]
  have hb2 := hb.alloc hb.size (.cells (cel p).toArray 31)
  have HF3 := Lib.hid (HF1.out.keep hb2)
  have HP3 := Lib.hid (range_new w2 (cel p) 31)
  have HPH3 := Lib.hid (there_new w2 p 31)
  have HPZ : Hid (w2.heap.size < (w2.alloc (.cells (cel p).toArray 31)).heap.size ∧ w.heap.size + 1 + 1 < w2.heap.size) := Lib.hid (by have := blk_lt HF1.out.x; have := hb.size; simp only [World.size_alloc]; omega)
  clear hb hb2 HF1 HR1
  go_upto_region 2 with (first | (refine wpList_valn rfl (exec_alloc rfl) ?_) | (refine wpList_nuln rfl (exec_fillN rfl rfl rfl) ?_) | fail)
  generalize w2.alloc (.cells (cel p).toArray 31) = w3 at *
  generalize w2.heap.size = pb at *
  have HR2 := Lib.hid HF3.out.t.range
  go_wp2_with (first | (refine wpList_valn rfl (exec_loadS (c := t) rfl rfl ?_) ?_; (with_reducible exact HR2.out)) | fail)
  refine (psput m t w3 (HT.out.below HF3.out.bel) HM.out HIT.out).mono ?_
  rintro e w4 ⟨rfl, hb⟩
  rw [HQB.out, HQE.out]
  have hb2 := hb.alloc hb.size (.cells (cel q).toArray 31)
  have HF5 := Lib.hid (HF3.out.keep hb2)
  have HP5 := Lib.hid (range_below HP3.out HPZ.out.1 hb2)
  have HPH5 := Lib.hid (there_below HPH3.out HPZ.out.1 hb2)
  have HQ5 := Lib.hid (range_new w4 (cel q) 31)
  have HQH5 := Lib.hid (there_new w4 q 31)
  have HQZ : Hid (pb < w4.heap.size ∧ w4.heap.size < (w4.alloc (.cells (cel q).toArray 31)).heap.size ∧ w.heap.size + 1 + 1 < pb) := Lib.hid (by have := HPZ.out; have := hb.size; simp only [World.size_alloc]; omega)
  clear hb hb2 HF3 HP3 HPH3 HR2 HPZ
  go_upto_region 3 with (first | (refine wpList_valn rfl (exec_alloc rfl) ?_) | (refine wpList_nuln rfl (exec_fillN rfl rfl rfl) ?_) | fail)
  generalize w4.alloc (.cells (cel q).toArray 31) = w5 at *
  generalize w4.heap.size = qb at *
  refine wp_region_lit ?_
  refine wpList_valn rfl (exec_mv rfl (ev rfl)) ?_
  simp only [Act.put, List.setIfInBounds_toArray, List.set_cons_succ, List.set_cons_zero]
  refine wpList_valn rfl (exec_mv rfl (ev rfl)) ?_
  simp only [Act.put, List.setIfInBounds_toArray, List.set_cons_succ, List.set_cons_zero]
  refine wpList_valn rfl (exec_maxU n m rfl (ev rfl) (ev rfl)) ?_
  simp only [Act.put, List.setIfInBounds_toArray, List.set_cons_succ, List.set_cons_zero]
  refine wpList_valn rfl (exec_addU rfl (ev rfl) evk HE1.out) ?_
  simp only [Act.put, List.setIfInBounds_toArray, List.set_cons_succ, List.set_cons_zero]
  refine wpList_valn rfl (exec_mv rfl (ev rfl)) ?_
  simp only [Act.put, List.setIfInBounds_toArray, List.set_cons_succ, List.set_cons_zero]
  refine wpList_valn rfl (exec_cv8 rfl (ev rfl) HR.out) ?_
  simp only [Act.put, List.setIfInBounds_toArray, List.set_cons_succ, List.set_cons_zero]
  refine wpList_valn rfl (exec_addU rfl (ev rfl) (ev rfl) HE2.out) ?_
  simp only [Act.put, List.setIfInBounds_toArray, List.set_cons_succ, List.set_cons_zero]
  refine wpList_valn rfl (exec_as rfl (ev rfl)) ?_
  simp only [Act.put, List.setIfInBounds_toArray, List.set_cons_succ, List.set_cons_zero]
  refine wpList_nil ?_
  have HR3 := Lib.hid HF5.out.x.range
  go_wp2_with (first | (refine wpList_valn rfl (exec_loadS (c := x) rfl rfl ?_) ?_; (with_reducible exact HR3.out)) | fail)
  refine (psput EV x w5 (HT.out.below HF5.out.bel) HEL.out HIX.out).mono ?_
  rintro e w6 ⟨rfl, hb⟩
  rw [HZB.out, HZE.out]
  have hb2 := hb.alloc hb.size (.cells (cel z).toArray 31)
  have HF7 := Lib.hid (HF5.out.keep hb2)
  have HP7 := Lib.hid (range_below HP5.out (by have := HQZ.out; omega) hb2)
  have HPH7 := Lib.hid (there_below HPH5.out (by have := HQZ.out; omega) hb2)
  have HQ7 := Lib.hid (range_below HQ5.out HQZ.out.2.1 hb2)
  have HQH7 := Lib.hid (there_below HQH5.out HQZ.out.2.1 hb2)
  have HZ7 := Lib.hid (range_new w6 (cel z) 31)
  have HZZ : Hid (qb < w6.heap.size ∧ w6.heap.size < (w6.alloc (.cells (cel z).toArray 31)).heap.size ∧ pb < qb ∧ w.heap.size + 1 + 1 < pb) := Lib.hid (by have := HQZ.out; have := hb.size; simp only [World.size_alloc]; omega)
  clear hb hb2 HF5 HP5 HPH5 HQ5 HQH5 HR3 HQZ
  go_upto_region 5 with (first | (refine wpList_valn rfl (exec_alloc rfl) ?_) | (refine wpList_nuln rfl (exec_fillN rfl rfl rfl) ?_) | fail)
  generalize w6.alloc (.cells (cel z).toArray 31) = w7 at *
  generalize w6.heap.size = zb at *
  go_wp2_with (first | (refine wpList_valn rfl (exec_load (c := p) rfl rfl ?_) ?_; (with_reducible exact HP7.out)) | (refine wpList_valn rfl (exec_load (c := q) rfl rfl ?_) ?_; (with_reducible exact HQ7.out)) | fail)
  refine (pslot_b p q 1 w7 (HT.out.below HF7.out.bel) HSL.out).mono ?_
  rintro e w8 ⟨rfl, hb⟩
  have HF8 := Lib.hid (HF7.out.keep hb)
  have HP8 := Lib.hid (range_below HP7.out (by have := HZZ.out; omega) hb)
  have HPH8 := Lib.hid (there_below HPH7.out (by have := HZZ.out; omega) hb)
  have HQ8 := Lib.hid (range_below HQ7.out (by have := HZZ.out; omega) hb)
  have HQH8 := Lib.hid (there_below HQH7.out (by have := HZZ.out; omega) hb)
  have HZ8 := Lib.hid (range_below HZ7.out HZZ.out.2.1 hb)
  have HZZ8 : Hid (zb < w8.heap.size ∧ qb < zb ∧ pb < qb ∧ w.heap.size + 1 + 1 < pb) := Lib.hid (by have := HZZ.out; have := hb.size; omega)
  clear hb HF7 HP7 HPH7 HQ7 HQH7 HZ7 HZZ
  go_wp2_with (first | (refine wpList_valn rfl (exec_load (c := q) rfl rfl ?_) ?_; (with_reducible exact HQ8.out)) | (refine wpList_valn rfl (exec_load (c := z) rfl rfl ?_) ?_; (with_reducible exact HZ8.out)) | fail)
  refine (refTorn_any q z at_ w8).mono ?_
  rintro e w9 ⟨rfl, hb⟩
  rw [HD.out]
  have HTH := Lib.hid (there_below HQH8.out (by have := HZZ8.out; omega) hb)
  have HF9 := Lib.hid ((HF8.out.keep hb).put (g := qb) (by have := HZZ8.out; omega) (cel d))
  have HO9 := Lib.hid (World.rangeAt_setCells_apart (range_below HP8.out (by have := HZZ8.out; omega) hb) qb 0 (cel d) (.inl (by have := HZZ8.out; omega)))
  have HD9 : Hid ((w9.setCells qb 0 (cel d)).rangeAt qb 0 (cel d)) := Lib.hid (World.rangeAt_setCells_same _ _ _ _ (by rw [cel_length]; exact HTH.out))
  clear hb HF8 HP8 HPH8 HQ8 HQH8 HZ8
  go_upto_region 11 with (first | (refine wpList_nuln rfl (exec_store (c := d) rfl rfl rfl ?_) ?_; (with_reducible exact HTH.out)) | fail)
  generalize w9.setCells qb 0 (cel d) = w10 at *
  go_wp2_with (first | (refine wpList_valn rfl (exec_load (c := d) rfl rfl ?_) ?_; (with_reducible exact HD9.out)) | (refine wpList_valn rfl (exec_load (c := p) rfl rfl ?_) ?_; (with_reducible exact HO9.out)) | fail)
  refine (pnew_super p d w10 (HT.out.below HF9.out.bel)).mono ?_
  rintro e w11 ⟨rfl, hb⟩
  rw [HV.out.1, HV.out.2.1, HV.out.2.2]
  have hb2 := hb.alloc hb.size (.cells (celS s).toArray 29)
  have HF12 := Lib.hid (HF9.out.keep hb2)
  have HNW := Lib.hid (SupAt.new w11 s).range
  clear hb hb2 HF9 HO9 HD9 HTH
  go_upto_region 12 with (first | (refine wpList_valn rfl (exec_allocS rfl) ?_) | (refine wpList_nuln rfl (exec_fillS (c := s) rfl rfl rfl) ?_) | fail)
  generalize w11.alloc (.cells (celS s).toArray 29) = w12 at *
  have HXR := Lib.hid HF12.out.x.range
  have HSR := Lib.hid HF12.out.s.range
  have HTR := Lib.hid HF12.out.t.range
  have HBT := Lib.hid HF12.out.bel
  refine wp_region_lit ?_
  refine wpList_valn rfl (exec_mv rfl (ev rfl)) ?_
  simp only [Act.put, List.setIfInBounds_toArray, List.set_cons_succ, List.set_cons_zero]
  refine wpList_valn (v := .bool false) rfl (exec_neInt false rfl (ev rfl) evk rfl) ?_
  simp only [Act.put, List.setIfInBounds_toArray, List.set_cons_succ, List.set_cons_zero]
  refine wpList_valn (v := .bool false) rfl (exec_mv rfl (ev rfl)) ?_
  simp only [Act.put, List.setIfInBounds_toArray, List.set_cons_succ, List.set_cons_zero]
  refine wpList_val (wanted_of rfl rfl rfl rfl) (exec_mv rfl (ev rfl)) ?_
  simp only [Act.put, List.setIfInBounds_toArray, List.set_cons_succ, List.set_cons_zero]
  refine wpList_val (v := .bool true) (wanted_of rfl rfl rfl rfl) (exec_neInt true rfl (ev rfl) evk rfl) ?_
  simp only [Act.put, List.setIfInBounds_toArray, List.set_cons_succ, List.set_cons_zero]
  refine wpList_val (v := .bool true) (wanted_of rfl rfl rfl rfl) (exec_mv rfl (ev rfl)) ?_
  simp only [Act.put, List.setIfInBounds_toArray, List.set_cons_succ, List.set_cons_zero]
  refine wpList_val (wanted_of rfl rfl rfl rfl) (exec_mv rfl (ev rfl)) ?_
  simp only [Act.put, List.setIfInBounds_toArray, List.set_cons_succ, List.set_cons_zero]
  refine wpList_val (v := .bool false) (wanted_of rfl rfl rfl rfl) (exec_neInt false rfl (ev rfl) evk rfl) ?_
  simp only [Act.put, List.setIfInBounds_toArray, List.set_cons_succ, List.set_cons_zero]
  refine wpList_val (v := .bool false) (wanted_of rfl rfl rfl rfl) (exec_pt rfl (ev rfl) (ev rfl)) ?_
  simp only [Act.put, List.setIfInBounds_toArray, List.set_cons_succ, List.set_cons_zero]
  refine wpList_valn (v := .bool false) rfl (exec_pf rfl (ev rfl) (ev rfl)) ?_
  simp only [Act.put, List.setIfInBounds_toArray, List.set_cons_succ, List.set_cons_zero]
  refine wpList_nil ?_
  go_upto_region 16 with fail
  refine wp_region_lit ?_
  refine wpList_valn rfl (exec_mv rfl (ev rfl)) ?_
  simp only [Act.put, List.setIfInBounds_toArray, List.set_cons_succ, List.set_cons_zero]
  refine wpList_valn rfl (exec_mv rfl (ev rfl)) ?_
  simp only [Act.put, List.setIfInBounds_toArray, List.set_cons_succ, List.set_cons_zero]
  refine wpList_valn (v := .bool true) rfl (exec_gtr true rfl (ev rfl) (ev rfl) HGT1.out) ?_
  simp only [Act.put, List.setIfInBounds_toArray, List.set_cons_succ, List.set_cons_zero]
  refine wpList_valn (v := .bool true) rfl (exec_mv rfl (ev rfl)) ?_
  simp only [Act.put, List.setIfInBounds_toArray, List.set_cons_succ, List.set_cons_zero]
  refine wpList_val (wanted_of rfl rfl rfl rfl) (exec_mv rfl (ev rfl)) ?_
  simp only [Act.put, List.setIfInBounds_toArray, List.set_cons_succ, List.set_cons_zero]
  refine wpList_val (wanted_of rfl rfl rfl rfl) (exec_mv rfl (ev rfl)) ?_
  simp only [Act.put, List.setIfInBounds_toArray, List.set_cons_succ, List.set_cons_zero]
  refine wpList_val (v := .bool true) (wanted_of rfl rfl rfl rfl) (exec_eqInt true rfl (ev rfl) (ev rfl) HVV.out) ?_
  simp only [Act.put, List.setIfInBounds_toArray, List.set_cons_succ, List.set_cons_zero]
  refine wpList_valn (v := .bool true) rfl (exec_pt rfl (ev rfl) (ev rfl)) ?_
  simp only [Act.put, List.setIfInBounds_toArray, List.set_cons_succ, List.set_cons_zero]
  refine wpList_valn (v := .bool true) rfl (exec_mv rfl (ev rfl)) ?_
  simp only [Act.put, List.setIfInBounds_toArray, List.set_cons_succ, List.set_cons_zero]
  refine wpList_val (wanted_of rfl rfl rfl rfl) (exec_loadS (c := s) rfl (ev rfl) HNW.out) ?_
  simp only [Act.put, List.setIfInBounds_toArray, List.set_cons_succ, List.set_cons_zero]
  refine wpList_val (wanted_of rfl rfl rfl rfl) (exec_loadS (c := s) rfl (ev rfl) HSR.out) ?_
  simp only [Act.put, List.setIfInBounds_toArray, List.set_cons_succ, List.set_cons_zero]
  refine wpList_val (v := .bool true) (wanted_of rfl rfl rfl rfl) (exec_eqS true rfl (ev rfl) (ev rfl) (decide_eq_true rfl)) ?_
  simp only [Act.put, List.setIfInBounds_toArray, List.set_cons_succ, List.set_cons_zero]
  refine wpList_valn (v := .bool true) rfl (exec_pt rfl (ev rfl) (ev rfl)) ?_
  simp only [Act.put, List.setIfInBounds_toArray, List.set_cons_succ, List.set_cons_zero]
  refine wpList_skips 13 (v := .bool true) rfl (exec_mv rfl (ev rfl)) (by kernel_rfl) ?_
  simp only [skipAct, List.take_succ_cons, List.take_zero, List.drop_succ_cons, List.drop_zero, Act.put, List.setIfInBounds_toArray, List.set_cons_succ, List.set_cons_zero]
  refine wpList_valn (v := .bool true) rfl (exec_pt rfl (ev rfl) evk) ?_
  simp only [Act.put, List.setIfInBounds_toArray, List.set_cons_succ, List.set_cons_zero]
  refine wpList_valn (v := .bool true) rfl (exec_mv rfl (ev rfl)) ?_
  simp only [Act.put, List.setIfInBounds_toArray, List.set_cons_succ, List.set_cons_zero]
  refine wpList_val (wanted_of rfl rfl rfl rfl) (exec_mv rfl (ev rfl)) ?_
  simp only [Act.put, List.setIfInBounds_toArray, List.set_cons_succ, List.set_cons_zero]
  refine wpList_val (v := .bool true) (wanted_of rfl rfl rfl rfl) (exec_lss true rfl (ev rfl) evk HAT.out) ?_
  simp only [Act.put, List.setIfInBounds_toArray, List.set_cons_succ, List.set_cons_zero]
  refine wpList_valn (v := .bool true) rfl (exec_pt rfl (ev rfl) (ev rfl)) ?_
  simp only [Act.put, List.setIfInBounds_toArray, List.set_cons_succ, List.set_cons_zero]
  refine wpList_valn (v := .bool true) rfl (exec_mv rfl (ev rfl)) ?_
  simp only [Act.put, List.setIfInBounds_toArray, List.set_cons_succ, List.set_cons_zero]
  refine wpList_call (wanted_of rfl rfl rfl rfl) (exec_cl Tryd.call14 rfl evn) ?_
  refine (super_lives _ (HT.out.below HBT.out)).mono ?_
  rintro e wL ⟨rfl, hb⟩
  have HBF := Lib.hid (HBT.out.trans (hb.mono HBT.out.size))
  clear hb
  refine ⟨_, rfl, ?_⟩
  simp only [Act.put, List.setIfInBounds_toArray, List.set_cons_succ, List.set_cons_zero]
  refine wpList_valn (v := .bool true) rfl (exec_pt rfl (ev rfl) (ev rfl)) ?_
  simp only [Act.put, List.setIfInBounds_toArray, List.set_cons_succ, List.set_cons_zero]
  refine wpList_valn (v := .bool true) rfl (exec_as rfl (ev rfl)) ?_
  simp only [Act.put, List.setIfInBounds_toArray, List.set_cons_succ, List.set_cons_zero]
  refine wpList_nil ?_
  go_wp2_with fail
  go_ret
  exact ⟨rfl, HBF.out⟩
end Go.Proofs.YtiilclncedipiaaDoor
namespace Go.Proofs.YtiilclncedipiaaDoor
open Go.RowKit
set_option linter.unusedVariables false
set_option linter.unusedSimpArgs false
set_option maxRecDepth 100000

theorem superTorn_walk (n m : Nat) (s t x : Sup) (r : Nat) (at_ : Int) (w : World) (T : Tab w) (hn : n < 18446744073709551616) (hm : m < 18446744073709551616) (hs : s.id < 18446744073709551616) (ht : t.id < 18446744073709551616) (hx : x.id < 18446744073709551616) (hr : r ≤ 255) :
    Calls Tryd.prog 7 #[.int .u64 n, .int .u64 m, sup s, sup t, sup x, .int .u8 r, .int .i64 at_] w fun e w' => e = .returned (.bool true) ∧ Below w.heap.size w w' := by
  by_cases h1 : sputE n s = 0
  · by_cases h2 : sputE m t = 0
    · by_cases h3 : sputE (evN n m r) x = 0
      · have hev := evN_eq (of_evB (of_sputE h1).1).2 (of_evB (of_sputE h2).1).2 hr
        rcases Nat.lt_trichotomy n m with h | h | h
        · rcases storn_law hx hs h3 h1 (by omega) at_ rfl with ⟨hd, ha⟩ | ⟨hd, ha⟩ | ⟨hd, ha⟩
          · exact superTorn_lt_new n m s t x r at_ w T hn hm hs ht hx hr h1 h2 h3 h hd ha
          · exact superTorn_lt_old n m s t x r at_ w T hn hm hs ht hx hr h1 h2 h3 h (.inl hd) ha
          · exact superTorn_lt_old n m s t x r at_ w T hn hm hs ht hx hr h1 h2 h3 h (.inr hd) ha
        · exact superTorn_e n m s t x r at_ w T hn hm hs ht hx hr h1 h2 h3 h
        · rcases storn_law hx ht h3 h2 (by omega) at_ rfl with ⟨hd, ha⟩ | ⟨hd, ha⟩ | ⟨hd, ha⟩
          · exact superTorn_gt_new n m s t x r at_ w T hn hm hs ht hx hr h1 h2 h3 h hd ha
          · exact superTorn_gt_old n m s t x r at_ w T hn hm hs ht hx hr h1 h2 h3 h (.inl hd) ha
          · exact superTorn_gt_old n m s t x r at_ w T hn hm hs ht hx hr h1 h2 h3 h (.inr hd) ha
      · exact superTorn_k n m s t x r at_ w T hn hm hs ht hx hr h1 h2 h3
    · exact superTorn_f n m s t x r at_ w T hn hm hs ht hx hr h1 h2
  · exact superTorn_g n m s t x r at_ w T hn hm hs ht hx hr h1
end Go.Proofs.YtiilclncedipiaaDoor
