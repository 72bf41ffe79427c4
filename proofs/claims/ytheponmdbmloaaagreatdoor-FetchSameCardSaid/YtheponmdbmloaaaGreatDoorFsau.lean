import Derived.Test.YtheponmdbmloaaaGreatDoorFsat
import Derived.Test.YtheponmdbmloaaaGreatDoorFsZ
namespace Go.Proofs.YtheponmdbmloaaaGreatDoor
open Go.RowKit
set_option linter.unusedVariables false
set_option linter.unusedSimpArgs false
set_option maxRecDepth 100000
theorem exec_stI8 {ρ : Operand → Value} {o : Oper} {x y : Operand} {w : World} {b j : Nat} {u : Value} {n : Int} (ho : o.op = .store 3 x y) (hx : ρ x = .pointer (some ⟨b, j, none⟩)) (hy : ρ y = .int .i64 n) (h : w.cell? ⟨b, j, none⟩ = some u) (hf : w.frozen? ⟨b, j, none⟩ = false) : (execOp ρ o).run Tryz.prog w = .ok .skip (w.setCell ⟨b, j, none⟩ (.int .i64 n)) :=
  exec_st ho hx hy (by simp [go_sem, h, hf])
section
variable {M : BenS} {d n : Int} {b : Blk}
theorem rd_zeroE (h : bO M d n ≠ 0) : rdB6 M d n = al := by
  unfold bO at h
  unfold rdB6
  split
  · rename_i hl
    rw [if_pos hl] at h
    exact readB_no h
  · rfl
theorem wr_dead (h : wrE6 M d n = 9) : wrS6 M d n b = M := by
  have hr : bO M d n ≠ 0 := fun e => by
    unfold wrE6 at h
    rw [if_pos e] at h
    unfold BenS.stepE at h
    split at h <;> exact absurd h (by decide)
  unfold wrS6
  rw [if_neg hr]
end
def celO (R : Ros) (s m : Int) : Option Int := if plcH R s m = true then (if faiH R = true then some 16 else if hasB R m s = true then none else some 7) else some 2
section
variable {w0 ws w w' : World} {H K K' : Nat → Prop} {p q : Nat} {x : HpS} {R : Ros} {M : BenS} {h0 : HuS} {v : Value}
theorem SvQ.from (h : SvQ w0 H K w p q x h0 w') (hk : bm K ws w) : SvQ w0 H K ws p q x h0 w' := ⟨hk.trans h.1, h.2.1, h.2.2⟩
theorem SvQ.hj (h : SvQ w0 H K w p q x h0 w') : ∃ M' y, HJ w0 H K w' p q M' y := by
  by_cases e : savE h0 = 0
  · exact ⟨_, _, (h.2.1 e).1⟩
  · obtain ⟨us, _, hj⟩ := h.2.2 e
    exact ⟨_, _, hj⟩
theorem SvQ.below {w2 : World} (h : SvQ w0 H K w p q x h0 w') (hb : Below w'.heap.size w' w2) : SvQ w0 H K w p q x h0 w2 := by
  obtain ⟨M', y, hj⟩ := h.hj
  exact ⟨h.1.trans (hj.kept hb), fun e => ⟨(h.2.1 e).1.below hb, (h.2.1 e).2⟩, fun e => by obtain ⟨us, h1, h2⟩ := h.2.2 e; exact ⟨us, h1, h2.below hb⟩⟩
set_option maxHeartbeats 2000000 in
theorem hp_lose (m : Int) (hf : aI x.R = true) (hid : x.id ≠ 0 ∧ x.id < 18446744073709551616) (hr : Room M 600) (he : x.us ≤ 4611686018427387000) (h : HJ w0 H K w p q M x) : Calls Tryz.prog 68 #[.pointer (some ⟨p, 0, none⟩), .int .i64 m] w fun e w' =>
    e = .returned (.int .i64 (savE ⟨M, x.id, x.us, bl x.R m⟩)) ∧ SvQ w0 H K w p q x ⟨M, x.id, x.us, bl x.R m⟩ w' := by
  obtain ⟨y, hy⟩ : ∃ y, bl x.R m = y := ⟨_, rfl⟩
  have hfy : aI y = true := by rw [← hy]; exact fine_los m hf
  rw [hy]
  obtain ⟨lb, hlb⟩ : ∃ lb, losB x.R m = lb := ⟨_, rfl⟩
  have HY := Lib.hid hy
  have HLB := Lib.hid hlb
  have HFY := Lib.hid hfy
  have HID := Lib.hid hid
  have HR := Lib.hid hr
  have HUS := Lib.hid he
  have HJ := Lib.hid h
  clear hf hid hr he h hy hlb hfy
  go_enter Tryz.func68, Tryz.ntmps68
  go_upto_region 1 with fail
  refine wp_region_lit ?_
  refine af rfl (ag rfl (ev rfl)) ?_
  simp only [Act.put, aa, ac, ae]
  refine af rfl (bk rfl (ev rfl)) ?_
  simp only [Act.put, aa, ac, ae]
  refine af rfl (am rfl (ev rfl) faHp3) ?_
  simp only [Act.put, aa, ac, ae]
  refine af rfl (aQ rfl (ev rfl) (PHo.ros HJ.out.hul)) ?_
  simp only [Act.put, aa, ac, ae]
  refine af rfl (ag rfl (ev rfl)) ?_
  simp only [Act.put, aa, ac, ae]
  refine ak rfl (ap Tryz.call78 rfl (evc (ev rfl) (evc (ev rfl) evn))) ?_
  refine (plose_v w HY.out HLB.out).mono ?_
  rintro e w1 ⟨rfl, b1⟩
  have HB1 := Lib.hid b1
  clear b1
  refine ⟨_, rfl, ?_⟩
  simp only [Act.put, aa, ac, ae]
  refine af rfl (ag rfl (ev rfl)) ?_
  simp only [Act.put, aa, ac, ae]
  refine af rfl (ax rfl (ev rfl) rfl) ?_
  simp only [Act.put, aa, ac, ae]
  refine af rfl (ax rfl (ev rfl) rfl) ?_
  simp only [Act.put, aa, ac, ae]
  refine af rfl (bN rfl) ?_
  simp only [Act.put, aa, ac, ae]
  refine av rfl (exec_fillR rfl (ev rfl) (ev rfl)) ?_
  simp only [Act.put, aa, ac, ae]
  have HB2 := Lib.hid (HB1.out.alloc HB1.out.size (.cells (aE y).toArray 32))
  have HR2 := Lib.hid (bf.new w1 y)
  clear HB1
  generalize w1.alloc (.cells (aE y).toArray 32) = w2 at *
  refine af rfl (aj rfl (ev rfl)) ?_
  simp only [Act.put, aa, ac, ae]
  refine wpList_nil ?_
  go_upto_region 2 with fail
  refine wp_region_lit ?_
  refine af rfl (ag rfl (ev rfl)) ?_
  simp only [Act.put, aa, ac, ae]
  refine af rfl (aQ rfl (ev rfl) HR2.out.range) ?_
  simp only [Act.put, aa, ac, ae]
  refine ak rfl (ap Tryz.call79 rfl (evc (ev rfl) (evc (ev rfl) evn))) ?_
  refine (hp_save HFY.out HID.out HR.out HUS.out (HJ.out.below HB2.out)).mono ?_
  rintro e w3 ⟨rfl, q3⟩
  have HQ := Lib.hid (q3.from (HJ.out.kept HB2.out))
  clear q3
  refine ⟨_, rfl, ?_⟩
  simp only [Act.put, aa, ac, ae]
  refine af rfl (aj rfl (ev rfl)) ?_
  simp only [Act.put, aa, ac, ae]
  refine wpList_nil ?_
  go_wp2_with fail
  go_ret
  exact ⟨rfl, HQ.out⟩
set_option maxHeartbeats 4000000 in
theorem hp_done (m : Nat) (s : Fu) (P : Int → World → Prop) (hf : aI x.R = true) (hid : x.id ≠ 0 ∧ x.id < 18446744073709551616) (hr : Room M 600) (he : x.us ≤ 4611686018427387000)
    (hdo : Calls Tryz.prog s.f s.cap.toArray w fun e w' => ∃ E : Int, e = .returned (.int .i64 E) ∧ P E w') (h9 : ∀ w', P 9 w' → HJ w0 H K w' p q M x) : Calls Tryz.prog 44 #[.pointer (some ⟨p, 0, none⟩), .int .i64 (m : Int), s.val] w fun e w' =>
    (∃ E : Int, E ≠ 9 ∧ e = .returned (.int .i64 E) ∧ P E w') ∨ ∃ w2, P 9 w2 ∧ e = .returned (.int .i64 (dedE ⟨M, x.id, x.us, x.R⟩ m 7)) ∧ SvQ w0 H K w2 p q x ⟨M, x.id, x.us, bl x.R (m : Int)⟩ w' := by
  obtain ⟨h1, hh1⟩ : ∃ h1 : HuS, (⟨M, x.id, x.us, bl x.R (m : Int)⟩ : HuS) = h1 := ⟨_, rfl⟩
  obtain ⟨De, hDe⟩ : ∃ De, dedE ⟨M, x.id, x.us, x.R⟩ m 7 = De := ⟨_, rfl⟩
  have hDd : (if savE h1 = 0 then (if faiH (savS h1).R = true then 16 else 7) else savE h1) = De := by rw [← hDe, ← hh1]; rfl
  have hlo : ∀ w', P 9 w' → Calls Tryz.prog 68 #[.pointer (some ⟨p, 0, none⟩), .int .i64 (m : Int)] w' fun e w3 => e = .returned (.int .i64 (savE h1)) ∧ SvQ w0 H K w' p q x h1 w3 := fun w' hw => by
    rw [← hh1]; exact hp_lose (m : Int) hf hid hr he (h9 w' hw)
  rw [hh1, hDe]
  have HDD := Lib.hid hDd
  have HLO := Lib.hid hlo
  have HDO := Lib.hid hdo
  clear hf hid hr he hdo h9 hh1 hDe hDd hlo
  go_enter Tryz.func44, Tryz.ntmps44
  go_upto_region 1 with fail
  refine wp_region_lit ?_
  refine af rfl (ag rfl (ev rfl)) ?_
  simp only [Act.put, aa, ac, ae]
  refine ak rfl (exec_callU0 (s := s) rfl (ev rfl)) ?_
  refine (HDO.out).mono ?_
  rintro e w2 ⟨E, rfl, hE⟩
  have HE := Lib.hid hE
  clear hE
  refine ⟨_, rfl, ?_⟩
  simp only [Act.put, aa, ac, ae]
  refine af rfl (aj rfl (ev rfl)) ?_
  simp only [Act.put, aa, ac, ae]
  refine wpList_nil ?_
  go_upto_region 2 with fail
  refine wp_region_lit ?_
  refine af rfl (ag rfl (ev rfl)) ?_
  simp only [Act.put, aa, ac, ae]
  refine wpList_nil ?_
  by_cases he9 : E = 9
  rotate_left 1
  · have H9 : Hid ((E == 9) = false) := Lib.hid (beq_eq_false_iff_ne.2 he9)
    have HN9 := Lib.hid he9
    clear he9
    go_upto_region 4 with fail
    refine wp_region_lit ?_
    refine af (v := .bool false) rfl (ar false rfl (ev rfl) evk H9.out) ?_
    simp only [Act.put, aa, ac, ae]
    refine af (v := .bool false) rfl (aj rfl (ev rfl)) ?_
    simp only [Act.put, aa, ac, ae]
    refine wpList_nil ?_
    go_upto_region 3 with fail
    refine wp_region_lit ?_
    refine af rfl (ag rfl (ev rfl)) ?_
    simp only [Act.put, aa, ac, ae]
    refine af rfl (aj rfl (ev rfl)) ?_
    simp only [Act.put, aa, ac, ae]
    refine wpList_nil ?_
    go_wp2_with fail
    go_ret
    exact .inl ⟨E, HN9.out, rfl, HE.out⟩
  subst he9
  go_upto_region 4 with fail
  refine wp_region_lit ?_
  refine af (v := .bool true) rfl (ar true rfl (ev rfl) evk rfl) ?_
  simp only [Act.put, aa, ac, ae]
  refine af (v := .bool true) rfl (aj rfl (ev rfl)) ?_
  simp only [Act.put, aa, ac, ae]
  refine wpList_nil ?_
  obtain ⟨se, hse⟩ : ∃ se, savE h1 = se := ⟨_, rfl⟩
  have HSE := Lib.hid hse
  clear hse
  go_upto_region 5 with fail
  refine wp_region_lit ?_
  refine af rfl (ag rfl (ev rfl)) ?_
  simp only [Act.put, aa, ac, ae]
  refine af rfl (ag rfl (ev rfl)) ?_
  simp only [Act.put, aa, ac, ae]
  refine ak rfl (ap Tryz.call68 rfl (evc (ev rfl) (evc (ev rfl) evn))) ?_
  refine (HLO.out w2 HE.out).mono ?_
  rintro e w3 ⟨rfl, q3⟩
  rw [HSE.out]
  have HQ := Lib.hid q3
  clear q3
  refine ⟨_, rfl, ?_⟩
  simp only [Act.put, aa, ac, ae]
  refine af rfl (aj rfl (ev rfl)) ?_
  simp only [Act.put, aa, ac, ae]
  refine wpList_nil ?_
  by_cases hs0 : se = 0
  rotate_left 1
  · have H0 : Hid ((se != 0) = true) := Lib.hid (bne_iff_ne.2 hs0)
    have HDE : Hid (De = se) := Lib.hid (by rw [← HDD.out, HSE.out, if_neg hs0])
    clear hs0
    go_upto_region 6 with fail
    refine wp_region_lit ?_
    refine af rfl (ag rfl (ev rfl)) ?_
    simp only [Act.put, aa, ac, ae]
    refine af (v := .bool true) rfl (aB true rfl (ev rfl) evk H0.out) ?_
    simp only [Act.put, aa, ac, ae]
    refine wpList_nil ?_
    go_upto_region 7 with fail
    refine wp_region_lit ?_
    refine af rfl (ag rfl (ev rfl)) ?_
    simp only [Act.put, aa, ac, ae]
    refine af rfl (aj rfl (ev rfl)) ?_
    simp only [Act.put, aa, ac, ae]
    refine wpList_nil ?_
    go_wp2_with fail
    go_ret
    exact .inr ⟨w2, HE.out, by rw [HDE.out]; rfl, HQ.out⟩
  subst hs0
  go_upto_region 6 with fail
  refine wp_region_lit ?_
  refine af rfl (ag rfl (ev rfl)) ?_
  simp only [Act.put, aa, ac, ae]
  refine af (v := .bool false) rfl (aB false rfl (ev rfl) evk rfl) ?_
  simp only [Act.put, aa, ac, ae]
  refine wpList_nil ?_
  obtain ⟨hj3, _⟩ := HQ.out.2.1 HSE.out
  have HJ3 := Lib.hid hj3
  have HDF : Hid ((if faiH (savS h1).R = true then 16 else 7) = De) := Lib.hid (by have := HDD.out; rw [HSE.out, if_pos rfl] at this; exact this)
  clear hj3
  cases hfa : faiH (savS h1).R
  · have HFA := Lib.hid hfa
    have HDE : Hid (De = 7) := Lib.hid (by rw [← HDF.out, hfa]; rfl)
    clear hfa
    go_upto_region 8 with fail
    refine wp_region_lit ?_
    refine af rfl (ag rfl (ev rfl)) ?_
    simp only [Act.put, aa, ac, ae]
    refine ak rfl (ap Tryz.call41 rfl (evc (ev rfl) evn)) ?_
    refine (dX HJ3.out.hul).mono ?_
    rintro e w4 ⟨rfl, b4⟩
    rw [show (if faiH (HpS.mk x.id (savS h1).ev (savS h1).ev (savS h1).R).R = true then (16 : Int) else 0) = 0 from by show (if faiH (savS h1).R = true then (16 : Int) else 0) = 0; rw [HFA.out]; rfl]
    have HQ4 := Lib.hid (HQ.out.below b4)
    clear b4
    refine ⟨_, rfl, ?_⟩
    simp only [Act.put, aa, ac, ae]
    refine af rfl (aj rfl (ev rfl)) ?_
    simp only [Act.put, aa, ac, ae]
    refine wpList_nil ?_
    go_upto_region 9 with fail
    refine wp_region_lit ?_
    refine af rfl (ag rfl (ev rfl)) ?_
    simp only [Act.put, aa, ac, ae]
    refine af (v := .bool false) rfl (aB false rfl (ev rfl) evk rfl) ?_
    simp only [Act.put, aa, ac, ae]
    refine wpList_nil ?_
    go_upto_region 11 with fail
    refine wp_region_lit ?_
    refine af rfl (aj rfl evk) ?_
    simp only [Act.put, aa, ac, ae]
    refine wpList_nil ?_
    go_wp2_with fail
    go_ret
    exact .inr ⟨w2, HE.out, by rw [HDE.out]; rfl, HQ4.out⟩
  · have HFA := Lib.hid hfa
    have HDE : Hid (De = 16) := Lib.hid (by rw [← HDF.out, hfa]; rfl)
    clear hfa
    go_upto_region 8 with fail
    refine wp_region_lit ?_
    refine af rfl (ag rfl (ev rfl)) ?_
    simp only [Act.put, aa, ac, ae]
    refine ak rfl (ap Tryz.call41 rfl (evc (ev rfl) evn)) ?_
    refine (dX HJ3.out.hul).mono ?_
    rintro e w4 ⟨rfl, b4⟩
    rw [show (if faiH (HpS.mk x.id (savS h1).ev (savS h1).ev (savS h1).R).R = true then (16 : Int) else 0) = 16 from by show (if faiH (savS h1).R = true then (16 : Int) else 0) = 16; rw [HFA.out]; rfl]
    have HQ4 := Lib.hid (HQ.out.below b4)
    clear b4
    refine ⟨_, rfl, ?_⟩
    simp only [Act.put, aa, ac, ae]
    refine af rfl (aj rfl (ev rfl)) ?_
    simp only [Act.put, aa, ac, ae]
    refine wpList_nil ?_
    go_upto_region 9 with fail
    refine wp_region_lit ?_
    refine af rfl (ag rfl (ev rfl)) ?_
    simp only [Act.put, aa, ac, ae]
    refine af (v := .bool true) rfl (aB true rfl (ev rfl) evk rfl) ?_
    simp only [Act.put, aa, ac, ae]
    refine wpList_nil ?_
    go_upto_region 10 with fail
    refine wp_region_lit ?_
    refine af rfl (ag rfl (ev rfl)) ?_
    simp only [Act.put, aa, ac, ae]
    refine af rfl (aj rfl (ev rfl)) ?_
    simp only [Act.put, aa, ac, ae]
    refine wpList_nil ?_
    go_wp2_with fail
    go_ret
    exact .inr ⟨w2, HE.out, by rw [HDE.out]; rfl, HQ4.out⟩
set_option maxHeartbeats 4000000 in
theorem hp_cell0 {s m : Int} {sv : Fu} (h : NoH w v) : Calls Tryz.prog 20 #[v, .agg #[.int .i64 s, .int .i64 m], sv.val] w fun e w' => e = .returned (.int .i64 1) ∧ Below w.heap.size w w' := by
  obtain ⟨z0, hz0⟩ : ∃ z0, z0 = w.heap.size := ⟨_, rfl⟩
  rw [← hz0]
  have HZ0 := Lib.hid hz0
  have HN := Lib.hid h
  clear hz0 h
  go_enter Tryz.func20, Tryz.ntmps20
  go_upto_region 0 with fail
  refine wp_region_lit ?_
  refine af rfl (bZ (cs := ([.int .i64 s, .int .i64 m] : List Value)) rfl (ev rfl)) ?_
  simp only [Act.put, aa, ac, ae]
  have hb0 := (Below.refl w.heap.size w).alloc (Nat.le_refl _) (.cells ([.int .i64 s, .int .i64 m] : List Value).toArray 43)
  have HP1 := Lib.hid (heap_alloc_new w (.cells ([.int .i64 s, .int .i64 m] : List Value).toArray 43))
  have HB1 := Lib.hid hb0
  obtain ⟨b4, hb4⟩ : ∃ b4, w.heap.size = b4 := ⟨_, rfl⟩
  have HGb4 : Hid (w.heap.size ≤ b4) := Lib.hid (by rw [← hb4]; exact Nat.le_refl _)
  rw [hb4] at HP1 ⊢
  clear hb4 hb0
  generalize w.alloc (.cells ([.int .i64 s, .int .i64 m] : List Value).toArray 43) = w1 at *
  refine af rfl (dk (v := sv.val) rfl rfl (ev rfl)) ?_
  simp only [Act.put, aa, ac, ae]
  have hb0 := (Below.refl w1.heap.size w1).alloc (Nat.le_refl _) (.cells #[sv.val] 46)
  have HV2 := Lib.hid (heap_alloc_new w1 (.cells #[sv.val] 46))
  have HP2 := Lib.hid (ao HP1.out hb0)
  have HB2 := Lib.hid (HB1.out.trans (hb0.mono HB1.out.size))
  obtain ⟨b5, hb5⟩ : ∃ b5, w1.heap.size = b5 := ⟨_, rfl⟩
  have HGb5 : Hid (w.heap.size ≤ b5) := Lib.hid (by rw [← hb5]; exact HB1.out.size)
  rw [hb5] at HV2 ⊢
  clear hb5 hb0
  generalize w1.alloc (.cells #[sv.val] 46) = w2 at *
  refine af rfl (aj rfl evk) ?_
  simp only [Act.put, aa, ac, ae]
  refine wpList_nil ?_
  have HN2 := Lib.hid (HN.out.below HB2.out)
  go_upto_region 1 with fail
  refine wp_region_lit ?_
  refine af rfl (ag rfl (ev rfl)) ?_
  simp only [Act.put, aa, ac, ae]
  refine ak rfl (ap Tryz.call39 rfl (evc (ev rfl) evn)) ?_
  refine (hp_made HN2.out).mono ?_
  rintro e w3 ⟨rfl, rfl⟩
  refine ⟨_, rfl, ?_⟩
  simp only [Act.put, aa, ac, ae]
  refine aR 4 (v := .bool false) rfl (ag rfl (ev rfl)) (by kernel_rfl) ?_
  simp only [bj, List.take_succ_cons, List.take_zero, List.drop_succ_cons, List.drop_zero, Act.put, List.setIfInBounds_toArray, List.set_cons_succ, List.set_cons_zero]
  refine af (v := .bool false) rfl (aM rfl (ev rfl) evk) ?_
  simp only [Act.put, aa, ac, ae]
  refine wpList_nil ?_
  go_upto_region 3 with fail
  refine wp_region_lit ?_
  refine af rfl (ag rfl (ev rfl)) ?_
  simp only [Act.put, aa, ac, ae]
  refine ak rfl (ap Tryz.call41 rfl (evc (ev rfl) evn)) ?_
  refine (hp_refusal0 HN2.out).mono ?_
  rintro e w3 ⟨rfl, rfl⟩
  refine ⟨_, rfl, ?_⟩
  simp only [Act.put, aa, ac, ae]
  refine af rfl (aj rfl (ev rfl)) ?_
  simp only [Act.put, aa, ac, ae]
  refine wpList_nil ?_
  go_upto_region 4 with fail
  refine wp_region_lit ?_
  refine af rfl (ag rfl (ev rfl)) ?_
  simp only [Act.put, aa, ac, ae]
  refine af (v := .bool true) rfl (aB true rfl (ev rfl) evk rfl) ?_
  simp only [Act.put, aa, ac, ae]
  refine wpList_nil ?_
  go_upto_region 5 with fail
  refine wp_region_lit ?_
  refine af rfl (ag rfl (ev rfl)) ?_
  simp only [Act.put, aa, ac, ae]
  refine af rfl (aj rfl (ev rfl)) ?_
  simp only [Act.put, aa, ac, ae]
  refine wpList_nil ?_
  go_wp2_with fail
  go_ret
  exact ⟨rfl, by rw [HZ0.out]; exact HB2.out⟩
set_option maxHeartbeats 4000000 in
theorem hp_cell1 {s m : Int} {sv : Fu} {E : Int} (hg : geoB x.R = true) (hE : celO x.R s m = some E) (h : PHo w p (some ⟨q, 0, none⟩) x) : Calls Tryz.prog 20 #[.pointer (some ⟨p, 0, none⟩), .agg #[.int .i64 s, .int .i64 m], sv.val] w fun e w' => e = .returned (.int .i64 E) ∧ Below w.heap.size w w' := by
  obtain ⟨z0, hz0⟩ : ∃ z0, z0 = w.heap.size := ⟨_, rfl⟩
  rw [← hz0]
  have HZ0 := Lib.hid hz0
  have HL := Lib.hid h
  have HGE := Lib.hid hg
  have HCE := Lib.hid hE
  clear hz0 h hg hE
  go_enter Tryz.func20, Tryz.ntmps20
  go_upto_region 0 with fail
  refine wp_region_lit ?_
  refine af rfl (bZ (cs := ([.int .i64 s, .int .i64 m] : List Value)) rfl (ev rfl)) ?_
  simp only [Act.put, aa, ac, ae]
  have hb0 := (Below.refl w.heap.size w).alloc (Nat.le_refl _) (.cells ([.int .i64 s, .int .i64 m] : List Value).toArray 43)
  have HP1 := Lib.hid (heap_alloc_new w (.cells ([.int .i64 s, .int .i64 m] : List Value).toArray 43))
  have HB1 := Lib.hid hb0
  obtain ⟨b4, hb4⟩ : ∃ b4, w.heap.size = b4 := ⟨_, rfl⟩
  have HGb4 : Hid (w.heap.size ≤ b4) := Lib.hid (by rw [← hb4]; exact Nat.le_refl _)
  rw [hb4] at HP1 ⊢
  clear hb4 hb0
  generalize w.alloc (.cells ([.int .i64 s, .int .i64 m] : List Value).toArray 43) = w1 at *
  refine af rfl (dk (v := sv.val) rfl rfl (ev rfl)) ?_
  simp only [Act.put, aa, ac, ae]
  have hb0 := (Below.refl w1.heap.size w1).alloc (Nat.le_refl _) (.cells #[sv.val] 46)
  have HV2 := Lib.hid (heap_alloc_new w1 (.cells #[sv.val] 46))
  have HP2 := Lib.hid (ao HP1.out hb0)
  have HB2 := Lib.hid (HB1.out.trans (hb0.mono HB1.out.size))
  obtain ⟨b5, hb5⟩ : ∃ b5, w1.heap.size = b5 := ⟨_, rfl⟩
  have HGb5 : Hid (w.heap.size ≤ b5) := Lib.hid (by rw [← hb5]; exact HB1.out.size)
  rw [hb5] at HV2 ⊢
  clear hb5 hb0
  generalize w1.alloc (.cells #[sv.val] 46) = w2 at *
  refine af rfl (aj rfl evk) ?_
  simp only [Act.put, aa, ac, ae]
  refine wpList_nil ?_
  have HL2 := Lib.hid (HL.out.below HB2.out)
  obtain ⟨pb, hpb⟩ : ∃ pb, plcH x.R s m = pb := ⟨_, rfl⟩
  have HPB := Lib.hid hpb
  clear hpb
  cases pb
  · have HEE : Hid (E = 2) := Lib.hid (by have := HCE.out; unfold celO at this; rw [HPB.out, if_neg (by decide)] at this; exact (Option.some.inj this).symm)
    go_upto_region 1 with fail
    refine wp_region_lit ?_
    refine af rfl (ag rfl (ev rfl)) ?_
    simp only [Act.put, aa, ac, ae]
    refine ak rfl (ap Tryz.call39 rfl (evc (ev rfl) evn)) ?_
    refine (hp_made1 HL2.out).mono ?_
    rintro e w3 ⟨rfl, rfl⟩
    refine ⟨_, rfl, ?_⟩
    simp only [Act.put, aa, ac, ae]
    refine af (v := .bool true) rfl (ag rfl (ev rfl)) ?_
    simp only [Act.put, aa, ac, ae]
    refine ah (ai rfl rfl rfl rfl) (ag rfl (ev rfl)) ?_
    simp only [Act.put, aa, ac, ae]
    refine ah (ai rfl rfl rfl rfl) (bP (cs := ([.int .i64 s, .int .i64 m] : List Value)) Tryz.underlying43 rfl (by kernel_rfl) rfl (ev rfl) (aT HP2.out)) ?_
    simp only [Act.put, aa, ac, ae]
    refine ak (ai rfl rfl rfl rfl) (ap Tryz.call40 rfl (evc (ev rfl) (evc (ev rfl) evn))) ?_
    refine (hp_has s m HGE.out HL2.out).mono ?_
    rintro e w3 ⟨rfl, b3⟩
    rw [HPB.out]
    have HB3 := Lib.hid (HB2.out.trans (b3.mono HB2.out.size))
    have HL3 := Lib.hid (HL2.out.below b3)
    have HP3 := Lib.hid (ao HP2.out b3)
    have HV3 := Lib.hid (ao HV2.out b3)
    clear b3
    refine ⟨_, rfl, ?_⟩
    simp only [Act.put, aa, ac, ae]
    refine ah (v := .bool true) (ai rfl rfl rfl rfl) (aA false rfl (ev rfl)) ?_
    simp only [Act.put, aa, ac, ae]
    refine af (v := .bool true) rfl (aJ rfl (ev rfl) (ev rfl)) ?_
    simp only [Act.put, aa, ac, ae]
    refine wpList_nil ?_
    go_upto_region 2 with fail
    refine wp_region_lit ?_
    refine af rfl (aj rfl evk) ?_
    simp only [Act.put, aa, ac, ae]
    refine wpList_nil ?_
    go_wp2_with fail
    go_ret
    exact ⟨by rw [HEE.out]; rfl, by rw [HZ0.out]; exact HB3.out⟩
  go_upto_region 1 with fail
  refine wp_region_lit ?_
  refine af rfl (ag rfl (ev rfl)) ?_
  simp only [Act.put, aa, ac, ae]
  refine ak rfl (ap Tryz.call39 rfl (evc (ev rfl) evn)) ?_
  refine (hp_made1 HL2.out).mono ?_
  rintro e w3 ⟨rfl, rfl⟩
  refine ⟨_, rfl, ?_⟩
  simp only [Act.put, aa, ac, ae]
  refine af (v := .bool true) rfl (ag rfl (ev rfl)) ?_
  simp only [Act.put, aa, ac, ae]
  refine ah (ai rfl rfl rfl rfl) (ag rfl (ev rfl)) ?_
  simp only [Act.put, aa, ac, ae]
  refine ah (ai rfl rfl rfl rfl) (bP (cs := ([.int .i64 s, .int .i64 m] : List Value)) Tryz.underlying43 rfl (by kernel_rfl) rfl (ev rfl) (aT HP2.out)) ?_
  simp only [Act.put, aa, ac, ae]
  refine ak (ai rfl rfl rfl rfl) (ap Tryz.call40 rfl (evc (ev rfl) (evc (ev rfl) evn))) ?_
  refine (hp_has s m HGE.out HL2.out).mono ?_
  rintro e w3 ⟨rfl, b3⟩
  rw [HPB.out]
  have HB3 := Lib.hid (HB2.out.trans (b3.mono HB2.out.size))
  have HL3 := Lib.hid (HL2.out.below b3)
  have HP3 := Lib.hid (ao HP2.out b3)
  have HV3 := Lib.hid (ao HV2.out b3)
  clear b3
  refine ⟨_, rfl, ?_⟩
  simp only [Act.put, aa, ac, ae]
  refine ah (v := .bool false) (ai rfl rfl rfl rfl) (aA true rfl (ev rfl)) ?_
  simp only [Act.put, aa, ac, ae]
  refine af (v := .bool false) rfl (aJ rfl (ev rfl) (ev rfl)) ?_
  simp only [Act.put, aa, ac, ae]
  refine wpList_nil ?_
  cases hfa : faiH x.R
  rotate_left 1
  · have HFA := Lib.hid hfa
    have HEE : Hid (E = 16) := Lib.hid (by have := HCE.out; unfold celO at this; rw [HPB.out, if_pos rfl, hfa, if_pos rfl] at this; exact (Option.some.inj this).symm)
    clear hfa
    go_upto_region 3 with fail
    refine wp_region_lit ?_
    refine af rfl (ag rfl (ev rfl)) ?_
    simp only [Act.put, aa, ac, ae]
    refine ak rfl (ap Tryz.call41 rfl (evc (ev rfl) evn)) ?_
    refine (dX HL3.out).mono ?_
    rintro e w4 ⟨rfl, b4'⟩
    rw [show (if faiH x.R = true then (16 : Int) else 0) = 16 from by rw [HFA.out]; rfl]
    have HB4 := Lib.hid (HB3.out.trans (b4'.mono HB3.out.size))
    have HL4 := Lib.hid (HL3.out.below b4')
    have HP4 := Lib.hid (ao HP3.out b4')
    have HV4 := Lib.hid (ao HV3.out b4')
    clear b4'
    refine ⟨_, rfl, ?_⟩
    simp only [Act.put, aa, ac, ae]
    refine af rfl (aj rfl (ev rfl)) ?_
    simp only [Act.put, aa, ac, ae]
    refine wpList_nil ?_
    go_upto_region 4 with fail
    refine wp_region_lit ?_
    refine af rfl (ag rfl (ev rfl)) ?_
    simp only [Act.put, aa, ac, ae]
    refine af (v := .bool true) rfl (aB true rfl (ev rfl) evk rfl) ?_
    simp only [Act.put, aa, ac, ae]
    refine wpList_nil ?_
    go_upto_region 5 with fail
    refine wp_region_lit ?_
    refine af rfl (ag rfl (ev rfl)) ?_
    simp only [Act.put, aa, ac, ae]
    refine af rfl (aj rfl (ev rfl)) ?_
    simp only [Act.put, aa, ac, ae]
    refine wpList_nil ?_
    go_wp2_with fail
    go_ret
    exact ⟨by rw [HEE.out]; rfl, by rw [HZ0.out]; exact HB4.out⟩
  have HFA := Lib.hid hfa
  have HHB : Hid (hasB x.R m s = false) := Lib.hid (by
    have := HCE.out
    unfold celO at this
    rw [HPB.out, if_pos rfl, hfa, if_neg (by decide)] at this
    cases hh : hasB x.R m s
    · rfl
    · rw [hh, if_pos rfl] at this; cases this)
  have HEE : Hid (E = 7) := Lib.hid (by have := HCE.out; unfold celO at this; rw [HPB.out, if_pos rfl, hfa, if_neg (by decide), HHB.out, if_neg (by decide)] at this; exact (Option.some.inj this).symm)
  clear hfa
  go_upto_region 3 with fail
  refine wp_region_lit ?_
  refine af rfl (ag rfl (ev rfl)) ?_
  simp only [Act.put, aa, ac, ae]
  refine ak rfl (ap Tryz.call41 rfl (evc (ev rfl) evn)) ?_
  refine (dX HL3.out).mono ?_
  rintro e w4 ⟨rfl, b4'⟩
  rw [show (if faiH x.R = true then (16 : Int) else 0) = 0 from by rw [HFA.out]; rfl]
  have HB4 := Lib.hid (HB3.out.trans (b4'.mono HB3.out.size))
  have HL4 := Lib.hid (HL3.out.below b4')
  have HP4 := Lib.hid (ao HP3.out b4')
  have HV4 := Lib.hid (ao HV3.out b4')
  clear b4'
  refine ⟨_, rfl, ?_⟩
  simp only [Act.put, aa, ac, ae]
  refine af rfl (aj rfl (ev rfl)) ?_
  simp only [Act.put, aa, ac, ae]
  refine wpList_nil ?_
  go_upto_region 4 with fail
  refine wp_region_lit ?_
  refine af rfl (ag rfl (ev rfl)) ?_
  simp only [Act.put, aa, ac, ae]
  refine af (v := .bool false) rfl (aB false rfl (ev rfl) evk rfl) ?_
  simp only [Act.put, aa, ac, ae]
  refine wpList_nil ?_
  go_upto_region 6 with fail
  refine aC (B := w4.heap.size) (by kernel_rfl) ?_
  refine aq rfl (fun w' hw => ag rfl (ev rfl)) ?_
  simp only [Act.put, aa, ac, ae]
  refine aq rfl (fun w' hw => bk rfl (ev rfl)) ?_
  simp only [Act.put, aa, ac, ae]
  refine aq rfl (fun w' hw => am rfl (ev rfl) faHp3) ?_
  simp only [Act.put, aa, ac, ae]
  refine aq rfl (fun w' hw => aQ rfl (ev rfl) (PHo.ros (HL4.out.below hw))) ?_
  simp only [Act.put, aa, ac, ae]
  refine aq rfl (fun w' hw => am rfl (ev rfl) faPm1) ?_
  simp only [Act.put, aa, ac, ae]
  refine aq rfl (fun w' hw => au rfl (ev rfl) (bF ((aT (ao HP4.out hw)) 1 _ rfl))) ?_
  simp only [Act.put, aa, ac, ae]
  refine aq rfl (fun w' hw => am rfl (ev rfl) faPm0) ?_
  simp only [Act.put, aa, ac, ae]
  refine aq rfl (fun w' hw => au rfl (ev rfl) (bF ((aT (ao HP4.out hw)) 0 _ rfl))) ?_
  simp only [Act.put, aa, ac, ae]
  refine bn rfl (fun _ => ap Tryz.call42 rfl (evc (ev rfl) (evc (ev rfl) (evc (ev rfl) evn)))) (bc (Nat.le_refl _) fun w' hw => phas_b w' HHB.out) ?_
  simp only [Act.put, aa, ac, ae]
  refine aq (v := .bool true) rfl (fun w' hw => aA false rfl (ev rfl)) ?_
  simp only [Act.put, aa, ac, ae]
  refine wpQuiet_nil ?_
  intro w5 hw
  have HB5 := Lib.hid (HB4.out.trans (hw.mono HB4.out.size))
  have HL5 := Lib.hid (HL4.out.below hw)
  have HP5 := Lib.hid (ao HP4.out hw)
  have HV5 := Lib.hid (ao HV4.out hw)
  clear hw
  go_upto_region 7 with fail
  refine wp_region_lit ?_
  refine af rfl (aj rfl evk) ?_
  simp only [Act.put, aa, ac, ae]
  refine wpList_nil ?_
  go_wp2_with fail
  go_ret
  exact ⟨by rw [HEE.out]; rfl, by rw [HZ0.out]; exact HB5.out⟩
theorem hp_cell_1 {b5 b8 : Nat} {sv : Fu} {n : Int} {P : Int → World → Prop} (h5 : w.heap[b5]? = some (.cells #[sv.val] 46 (0, 0))) (h8 : w.heap[b8]? = some (.cells #[.int .i64 n] 3 (0, 0))) (hdo : Calls Tryz.prog sv.f (.int .i64 n :: sv.cap).toArray w fun e w' => ∃ E : Int, e = .returned (.int .i64 E) ∧ P E w') : Calls Tryz.prog 45 #[.pointer (some ⟨b5, 0, none⟩), .pointer (some ⟨b8, 0, none⟩)] w fun e w' => ∃ E : Int, e = .returned (.int .i64 E) ∧ P E w' := by
  have H5 := Lib.hid h5
  have H8 := Lib.hid h8
  have HDO := Lib.hid hdo
  clear h5 h8 hdo
  go_enter Tryz.func45, Tryz.ntmps45
  go_upto_region 1 with fail
  refine wp_region_lit ?_
  refine af rfl (au rfl (ev rfl) (ldFu1 (s := sv) (cell_of_row _ b5 0 _ _ _ H5.out))) ?_
  simp only [Act.put, aa, ac, ae]
  refine af rfl (au rfl (ev rfl) (bF (cell_of_row _ b8 0 _ _ _ H8.out))) ?_
  simp only [Act.put, aa, ac, ae]
  refine ak rfl (exec_callU1 (s := sv) (v := .int .i64 n) rfl (ev rfl) (ev rfl)) ?_
  refine (HDO.out).mono ?_
  rintro e w2 ⟨E, rfl, hE⟩
  have HE := Lib.hid hE
  clear hE
  refine ⟨_, rfl, ?_⟩
  simp only [Act.put, aa, ac, ae]
  refine af rfl (aj rfl (ev rfl)) ?_
  simp only [Act.put, aa, ac, ae]
  refine wpList_nil ?_
  go_wp2_with fail
  go_ret
  exact ⟨E, rfl, HE.out⟩
def clF (b5 b8 : Nat) : Fu := ⟨45, [.pointer (some ⟨b5, 0, none⟩), .pointer (some ⟨b8, 0, none⟩)], Tryz.call45⟩
theorem dP {R : Ros} {s m : Int} (h : celO R s m = none) : plcH R s m = true ∧ faiH R = false ∧ hasB R m s = true := by
  unfold celO at h
  split at h
  · rename_i h1
    split at h
    · cases h
    · rename_i h2
      split at h
      · rename_i h3
        exact ⟨h1, by cases hh : faiH R; rfl; exact absurd hh h2, h3⟩
      · cases h
  · cases h
set_option maxHeartbeats 4000000 in
theorem hp_cell2 {s m : Int} {sv : Fu} (P : Int → World → Prop) (hf : aI x.R = true) (hid : x.id ≠ 0 ∧ x.id < 18446744073709551616) (hr : Room M 600) (he : x.us ≤ 4611686018427387000) (hE : celO x.R s m = none) (h : PHo w p (some ⟨q, 0, none⟩) x)
    (hdo : ∀ w1, Below w.heap.size w w1 → Calls Tryz.prog sv.f (.int .i64 (2 + s) :: sv.cap).toArray w1 fun e w' => ∃ E : Int, e = .returned (.int .i64 E) ∧ P E w') (h9 : ∀ w', P 9 w' → HJ w0 H K w' p q M x) : Calls Tryz.prog 20 #[.pointer (some ⟨p, 0, none⟩), .agg #[.int .i64 s, .int .i64 m], sv.val] w fun e w' => (∃ E : Int, E ≠ 9 ∧ e = .returned (.int .i64 E) ∧ P E w') ∨ ∃ w2, P 9 w2 ∧ e = .returned (.int .i64 (dedE ⟨M, x.id, x.us, x.R⟩ m.toNat 7)) ∧ SvQ w0 H K w2 p q x ⟨M, x.id, x.us, bl x.R (m.toNat : Int)⟩ w' := by
  obtain ⟨c1, c2, c3⟩ := dP hE
  have hpl := of_decide_eq_true c1
  have hgb : geoB x.R = true := by have hf' := hf; unfold aI at hf'; simp only [Bool.and_eq_true] at hf'; exact hf'.1.1.1
  obtain ⟨j, hj⟩ : ∃ j : Nat, m = (j : Int) := ⟨m.toNat, by omega⟩
  subst hj
  rw [Int.toNat_natCast]
  have hsec : secN s = 2 + s ∧ secE s = 0 := by
    have hg := dU.1 hgb
    have hh : has 64 s = true := has_iff.2 (by omega)
    exact ⟨by unfold secN; rw [if_pos hh], by unfold secE; rw [if_pos hh]⟩
  have HSN := Lib.hid hsec.1
  have HSE := Lib.hid hsec.2
  have HGE := Lib.hid hgb
  have HPB := Lib.hid c1
  have HFA := Lib.hid c2
  have HHB := Lib.hid c3
  have HL := Lib.hid h
  have HDO := Lib.hid hdo
  have HDN := Lib.hid (fun (w3 : World) (s3 : Fu) (hd : Calls Tryz.prog s3.f s3.cap.toArray w3 fun e w' => ∃ E : Int, e = .returned (.int .i64 E) ∧ P E w') => hp_done (w := w3) j s3 P hf hid hr he hd h9)
  clear hf hid hr he hE h hdo h9 c1 c2 c3 hpl hgb hsec
  go_enter Tryz.func20, Tryz.ntmps20
  go_upto_region 0 with fail
  refine wp_region_lit ?_
  refine af rfl (bZ (cs := ([.int .i64 s, .int .i64 (j : Int)] : List Value)) rfl (ev rfl)) ?_
  simp only [Act.put, aa, ac, ae]
  have hb0 := (Below.refl w.heap.size w).alloc (Nat.le_refl _) (.cells ([.int .i64 s, .int .i64 (j : Int)] : List Value).toArray 43)
  have HP1 := Lib.hid (heap_alloc_new w (.cells ([.int .i64 s, .int .i64 (j : Int)] : List Value).toArray 43))
  have HB1 := Lib.hid hb0
  obtain ⟨b4, hb4⟩ : ∃ b4, w.heap.size = b4 := ⟨_, rfl⟩
  have HGb4 : Hid (w.heap.size ≤ b4) := Lib.hid (by rw [← hb4]; exact Nat.le_refl _)
  rw [hb4] at HP1 ⊢
  clear hb4 hb0
  generalize w.alloc (.cells ([.int .i64 s, .int .i64 (j : Int)] : List Value).toArray 43) = w1 at *
  refine af rfl (dk (v := sv.val) rfl rfl (ev rfl)) ?_
  simp only [Act.put, aa, ac, ae]
  have hb0 := (Below.refl w1.heap.size w1).alloc (Nat.le_refl _) (.cells #[sv.val] 46)
  have HV2 := Lib.hid (heap_alloc_new w1 (.cells #[sv.val] 46))
  have HP2 := Lib.hid (ao HP1.out hb0)
  have HB2 := Lib.hid (HB1.out.trans (hb0.mono HB1.out.size))
  obtain ⟨b5, hb5⟩ : ∃ b5, w1.heap.size = b5 := ⟨_, rfl⟩
  have HGb5 : Hid (w.heap.size ≤ b5) := Lib.hid (by rw [← hb5]; exact HB1.out.size)
  rw [hb5] at HV2 ⊢
  clear hb5 hb0
  generalize w1.alloc (.cells #[sv.val] 46) = w2 at *
  refine af rfl (aj rfl evk) ?_
  simp only [Act.put, aa, ac, ae]
  refine wpList_nil ?_
  have HL2 := Lib.hid (HL.out.below HB2.out)
  go_upto_region 1 with fail
  refine wp_region_lit ?_
  refine af rfl (ag rfl (ev rfl)) ?_
  simp only [Act.put, aa, ac, ae]
  refine ak rfl (ap Tryz.call39 rfl (evc (ev rfl) evn)) ?_
  refine (hp_made1 HL2.out).mono ?_
  rintro e w3 ⟨rfl, rfl⟩
  refine ⟨_, rfl, ?_⟩
  simp only [Act.put, aa, ac, ae]
  refine af (v := .bool true) rfl (ag rfl (ev rfl)) ?_
  simp only [Act.put, aa, ac, ae]
  refine ah (ai rfl rfl rfl rfl) (ag rfl (ev rfl)) ?_
  simp only [Act.put, aa, ac, ae]
  refine ah (ai rfl rfl rfl rfl) (bP (cs := ([.int .i64 s, .int .i64 (j : Int)] : List Value)) Tryz.underlying43 rfl (by kernel_rfl) rfl (ev rfl) (aT HP2.out)) ?_
  simp only [Act.put, aa, ac, ae]
  refine ak (ai rfl rfl rfl rfl) (ap Tryz.call40 rfl (evc (ev rfl) (evc (ev rfl) evn))) ?_
  refine (hp_has s (j : Int) HGE.out HL2.out).mono ?_
  rintro e w3 ⟨rfl, b3⟩
  rw [HPB.out]
  have HB3 := Lib.hid (HB2.out.trans (b3.mono HB2.out.size))
  have HL3 := Lib.hid (HL2.out.below b3)
  have HP3 := Lib.hid (ao HP2.out b3)
  have HV3 := Lib.hid (ao HV2.out b3)
  clear b3
  refine ⟨_, rfl, ?_⟩
  simp only [Act.put, aa, ac, ae]
  refine ah (v := .bool false) (ai rfl rfl rfl rfl) (aA true rfl (ev rfl)) ?_
  simp only [Act.put, aa, ac, ae]
  refine af (v := .bool false) rfl (aJ rfl (ev rfl) (ev rfl)) ?_
  simp only [Act.put, aa, ac, ae]
  refine wpList_nil ?_
  go_upto_region 3 with fail
  refine wp_region_lit ?_
  refine af rfl (ag rfl (ev rfl)) ?_
  simp only [Act.put, aa, ac, ae]
  refine ak rfl (ap Tryz.call41 rfl (evc (ev rfl) evn)) ?_
  refine (dX HL3.out).mono ?_
  rintro e w4 ⟨rfl, b4'⟩
  rw [show (if faiH x.R = true then (16 : Int) else 0) = 0 from by rw [HFA.out]; rfl]
  have HB4 := Lib.hid (HB3.out.trans (b4'.mono HB3.out.size))
  have HL4 := Lib.hid (HL3.out.below b4')
  have HP4 := Lib.hid (ao HP3.out b4')
  have HV4 := Lib.hid (ao HV3.out b4')
  clear b4'
  refine ⟨_, rfl, ?_⟩
  simp only [Act.put, aa, ac, ae]
  refine af rfl (aj rfl (ev rfl)) ?_
  simp only [Act.put, aa, ac, ae]
  refine wpList_nil ?_
  go_upto_region 4 with fail
  refine wp_region_lit ?_
  refine af rfl (ag rfl (ev rfl)) ?_
  simp only [Act.put, aa, ac, ae]
  refine af (v := .bool false) rfl (aB false rfl (ev rfl) evk rfl) ?_
  simp only [Act.put, aa, ac, ae]
  refine wpList_nil ?_
  go_upto_region 6 with fail
  refine aC (B := w4.heap.size) (by kernel_rfl) ?_
  refine aq rfl (fun w' hw => ag rfl (ev rfl)) ?_
  simp only [Act.put, aa, ac, ae]
  refine aq rfl (fun w' hw => bk rfl (ev rfl)) ?_
  simp only [Act.put, aa, ac, ae]
  refine aq rfl (fun w' hw => am rfl (ev rfl) faHp3) ?_
  simp only [Act.put, aa, ac, ae]
  refine aq rfl (fun w' hw => aQ rfl (ev rfl) (PHo.ros (HL4.out.below hw))) ?_
  simp only [Act.put, aa, ac, ae]
  refine aq rfl (fun w' hw => am rfl (ev rfl) faPm1) ?_
  simp only [Act.put, aa, ac, ae]
  refine aq rfl (fun w' hw => au rfl (ev rfl) (bF ((aT (ao HP4.out hw)) 1 _ rfl))) ?_
  simp only [Act.put, aa, ac, ae]
  refine aq rfl (fun w' hw => am rfl (ev rfl) faPm0) ?_
  simp only [Act.put, aa, ac, ae]
  refine aq rfl (fun w' hw => au rfl (ev rfl) (bF ((aT (ao HP4.out hw)) 0 _ rfl))) ?_
  simp only [Act.put, aa, ac, ae]
  refine bn rfl (fun _ => ap Tryz.call42 rfl (evc (ev rfl) (evc (ev rfl) (evc (ev rfl) evn)))) (bc (Nat.le_refl _) fun w' hw => phas_b w' HHB.out) ?_
  simp only [Act.put, aa, ac, ae]
  refine aq (v := .bool false) rfl (fun w' hw => aA true rfl (ev rfl)) ?_
  simp only [Act.put, aa, ac, ae]
  refine wpQuiet_nil ?_
  intro w5 hw
  have HB5 := Lib.hid (HB4.out.trans (hw.mono HB4.out.size))
  have HL5 := Lib.hid (HL4.out.below hw)
  have HP5 := Lib.hid (ao HP4.out hw)
  have HV5 := Lib.hid (ao HV4.out hw)
  clear hw
  go_upto_region 8 with fail
  refine wp_region_lit ?_
  refine af rfl (am rfl (ev rfl) faPm0) ?_
  simp only [Act.put, aa, ac, ae]
  refine af rfl (au rfl (ev rfl) (bF ((aT HP5.out) 0 _ rfl))) ?_
  simp only [Act.put, aa, ac, ae]
  refine ak rfl (ap Tryz.call43 rfl (evc (ev rfl) evn)) ?_
  refine (sector_prog s w5).mono ?_
  rintro e w6 ⟨rfl, b6'⟩
  rw [HSN.out, HSE.out]
  have HB6 := Lib.hid (HB5.out.trans (b6'.mono HB5.out.size))
  have HP6 := Lib.hid (ao HP5.out b6')
  have HV6 := Lib.hid (ao HV5.out b6')
  clear b6'
  refine ⟨_, rfl, ?_⟩
  simp only [Act.put, aa, ac, ae]
  refine af rfl (ag rfl (ev rfl)) ?_
  simp only [Act.put, aa, ac, ae]
  refine af rfl (ax rfl (ev rfl) rfl) ?_
  simp only [Act.put, aa, ac, ae]
  refine af rfl (ax rfl (ev rfl) rfl) ?_
  simp only [Act.put, aa, ac, ae]
  refine af rfl (exec_alloc1 rfl zeroI6 rfl) ?_
  simp only [Act.put, aa, ac, ae]
  have hb0 := (Below.refl w6.heap.size w6).alloc (Nat.le_refl _) (.cells #[.int .i64 0] 3)
  have HI7 := Lib.hid (heap_alloc_new w6 (.cells #[.int .i64 0] 3))
  have HP7 := Lib.hid (ao HP6.out hb0)
  have HV7 := Lib.hid (ao HV6.out hb0)
  have HB7 := Lib.hid (HB6.out.trans (hb0.mono HB6.out.size))
  obtain ⟨b8, hb8⟩ : ∃ b8, w6.heap.size = b8 := ⟨_, rfl⟩
  have HG8 : Hid (w.heap.size ≤ b8) := Lib.hid (by rw [← hb8]; exact HB6.out.size)
  have HLT8 : Hid (b4 < b8 ∧ b5 < b8) := Lib.hid (by rw [← hb8]; exact ⟨aH HP6.out, aH HV6.out⟩)
  rw [hb8] at HI7 ⊢
  clear hb8 hb0
  generalize w6.alloc (.cells #[.int .i64 0] 3) = w7 at *
  refine av rfl (exec_stI8 rfl (ev rfl) (ev rfl) (cell_of_row _ b8 0 _ _ _ HI7.out) (frozen_of_row _ b8 0 _ _ HI7.out)) ?_
  simp only [Act.put, aa, ac, ae]
  have ho : Only (fun b => b = b8) w7 (w7.setCell ⟨b8, 0, none⟩ (.int .i64 (2 + s))) := (Only.refl (fun b => b = b8) w7).setCell (p := ⟨b8, 0, none⟩) (.inl rfl) _
  have HI8 := Lib.hid (heap_setCell_same w7 b8 0 _ _ (.int .i64 (2 + s)) HI7.out)
  have HP8 := Lib.hid (ho.keep HP7.out (by have := HLT8.out.1; omega))
  have HV8 := Lib.hid (ho.keep HV7.out (by have := HLT8.out.2; omega))
  have HB8 := Lib.hid (HB7.out.setCell (p := ⟨b8, 0, none⟩) (by show w.heap.size ≤ b8; exact HG8.out) (.int .i64 (2 + s)))
  clear ho HI7
  generalize w7.setCell ⟨b8, 0, none⟩ (.int .i64 (2 + s)) = w8 at *
  refine af rfl (aj rfl (ev rfl)) ?_
  simp only [Act.put, aa, ac, ae]
  refine wpList_nil ?_
  go_upto_region 9 with fail
  refine wp_region_lit ?_
  refine af rfl (ag rfl (ev rfl)) ?_
  simp only [Act.put, aa, ac, ae]
  refine af (v := .bool false) rfl (aB false rfl (ev rfl) evk rfl) ?_
  simp only [Act.put, aa, ac, ae]
  refine wpList_nil ?_
  go_upto_region 11 with fail
  refine wp_region_lit ?_
  refine af rfl (ag rfl (ev rfl)) ?_
  simp only [Act.put, aa, ac, ae]
  refine af rfl (am rfl (ev rfl) faPm1) ?_
  simp only [Act.put, aa, ac, ae]
  refine af rfl (au rfl (ev rfl) (bF ((aT HP8.out) 1 _ rfl))) ?_
  simp only [Act.put, aa, ac, ae]
  refine af rfl (exec_mkf2 rfl (ev rfl) (ev rfl)) ?_
  simp only [Act.put, aa, ac, ae]
  refine ak rfl (ap Tryz.call44 rfl (evc (ev rfl) (evc (ev rfl) (evc (ev rfl) evn)))) ?_
  refine (HDN.out w8 (clF b5 b8) (hp_cell_1 HV8.out HI8.out (HDO.out w8 HB8.out))).mono ?_
  rintro e w9 hq
  rcases hq with ⟨E, e1, rfl, e2⟩ | ⟨w10, e1, rfl, e2⟩
  · refine ⟨_, rfl, ?_⟩
    simp only [Act.put, aa, ac, ae]
    refine af rfl (aj rfl (ev rfl)) ?_
    simp only [Act.put, aa, ac, ae]
    refine wpList_nil ?_
    go_wp2_with fail
    go_ret
    exact .inl ⟨E, e1, rfl, e2⟩
  · refine ⟨_, rfl, ?_⟩
    simp only [Act.put, aa, ac, ae]
    refine af rfl (aj rfl (ev rfl)) ?_
    simp only [Act.put, aa, ac, ae]
    refine wpList_nil ?_
    go_wp2_with fail
    go_ret
    exact .inr ⟨w10, e1, rfl, e2⟩
end
end Go.Proofs.YtheponmdbmloaaaGreatDoor
