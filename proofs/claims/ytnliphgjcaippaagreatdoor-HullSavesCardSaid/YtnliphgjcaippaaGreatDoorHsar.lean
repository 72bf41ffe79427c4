import Derived.Test.YtnliphgjcaippaaGreatDoorHsaq
import Derived.Test.YtnliphgjcaippaaGreatDoorHsal
import Derived.Test.YtnliphgjcaippaaGreatDoorHsZ
namespace Go.Proofs.YtnliphgjcaippaaGreatDoor
open Go.RowKit
set_option linter.unusedVariables false
set_option linter.unusedSimpArgs false
set_option maxRecDepth 100000
def hbA : Blk := au.set 0 170
theorem bldHA (w : World) : (Instr.build 58 #[(0, .int .u8 170)]).run Tryz.prog w = .ok (blk hbA) w := by kernel_rfl
theorem bldP01 (w : World) : (Instr.build 68 #[(1, .int .i64 1)]).run Tryz.prog w = .ok (.agg ([.int .i64 0, .int .i64 1] : List Value).toArray) w := by kernel_rfl
theorem exec_bldP01 {ρ : Operand → Value} {o : Oper} {x : Operand} {w : World} (ho : o.op = .build 68 #[(1, x)]) (hx : ρ x = .int .i64 1) : (execOp ρ o).run Tryz.prog w = .ok (.value (.agg ([.int .i64 0, .int .i64 1] : List Value).toArray)) w := by
  unfold execOp
  simp [ho, hx, bldP01, Result.andThen]
theorem zeroP2 : (Tryz.prog.info? 68).map (fun i => i.zero) = some (some (.agg ([.int .i64 0, .int .i64 0] : List Value).toArray)) := by kernel_rfl
set_option maxHeartbeats 4000000 in
theorem hlives (C : HulI) (w : World) (T : Tab w) : Calls Tryz.prog 9 #[] w fun e w' => e = .returned (.bool true) ∧ Below w.heap.size w w' := by
  obtain ⟨M1, M2, M3, M4, s1, s2, x1, x2, r1, r2, r3, f1, f2, d1, d2, m0, m1, m2, m3⟩ := lvH hbA
  have HT := Lib.hid T
  have S1 := Lib.hid (And.intro s1 s2)
  have X1 := Lib.hid (And.intro x1 x2)
  have R1 := Lib.hid (And.intro r1 (And.intro r2 r3))
  have F1 := Lib.hid (And.intro f1 f2)
  have D1 := Lib.hid (And.intro d1 d2)
  have HM0 := Lib.hid m0
  have HM1 := Lib.hid m1
  have HM2 := Lib.hid m2
  have HM3 := Lib.hid m3
  have HST : Hid (stN lvR1 = 2) := Lib.hid lvR_has.2.2.2.2
  clear T s1 s2 x1 x2 r1 r2 r3 f1 f2 d1 d2 m0 m1 m2 m3
  go_enter Tryz.func9, Tryz.ntmps9
  go_upto_region 1 with fail
  refine wp_region_lit ?_
  refine al rfl (ap Tryz.call13 rfl (evc evk (evc evk evn))) ?_
  refine (l_geo 0 1 3 2 w (by omega) (by omega) rfl rfl).mono ?_
  rintro e w1 ⟨rfl, b1⟩
  have HB1 := Lib.hid b1
  clear b1
  refine ⟨_, rfl, ?_⟩
  simp only [Act.put, aa, ac, ae]
  refine al rfl (ap Tryz.call37 rfl (evc (ev rfl) evn)) ?_
  refine (l_both C 3 2 w1 (HT.out.below HB1.out) (by omega) (by omega) (by omega)).mono ?_
  rintro e w2 ⟨p, q, p2, rfl, a2⟩
  have HA2 : Hid (HAt C w1 w1.heap.size (fun _ => False) w2 q p ⟨lvM, 9, 0, lvR⟩) := Lib.hid a2
  clear a2
  refine ⟨_, rfl, ?_⟩
  simp only [Act.put, aa, ac, ae]
  refine af rfl (ai rfl (ev rfl)) ?_
  simp only [Act.put, aa, ac, ae]
  refine af rfl (aU rfl (ev rfl) rfl) ?_
  simp only [Act.put, aa, ac, ae]
  refine af rfl (aU rfl (ev rfl) rfl) ?_
  simp only [Act.put, aa, ac, ae]
  refine af rfl (aU rfl (ev rfl) rfl) ?_
  simp only [Act.put, aa, ac, ae]
  refine af rfl (ak rfl (ev rfl)) ?_
  simp only [Act.put, aa, ac, ae]
  refine af rfl (ak rfl (ev rfl)) ?_
  simp only [Act.put, aa, ac, ae]
  refine af rfl (ak rfl (ev rfl)) ?_
  simp only [Act.put, aa, ac, ae]
  refine wpList_nil ?_
  go_upto_region 2 with fail
  refine wp_region_lit ?_
  refine af rfl (ai rfl (ev rfl)) ?_
  simp only [Act.put, aa, ac, ae]
  refine af (v := .bool false) rfl (dG false Tryz.underlying36 rfl (ev rfl) evk rfl) ?_
  simp only [Act.put, aa, ac, ae]
  refine wpList_nil ?_
  go_upto_region 4 with fail
  refine wp_region_lit ?_
  refine af rfl (ai rfl (ev rfl)) ?_
  simp only [Act.put, aa, ac, ae]
  refine al rfl (ap Tryz.call17 rfl (evc (ev rfl) evn)) ?_
  refine (HA2.out.save HM0.out (by decide) S1.out.1).mono ?_
  rintro e w3 ⟨rfl, a3, k3⟩
  rw [S1.out.2] at a3
  have HA3 := Lib.hid a3
  clear a3 k3
  rw [S1.out.1]
  refine ⟨_, rfl, ?_⟩
  simp only [Act.put, aa, ac, ae]
  refine af rfl (ak rfl (ev rfl)) ?_
  simp only [Act.put, aa, ac, ae]
  refine wpList_nil ?_
  go_upto_region 5 with fail
  refine wp_region_lit ?_
  refine af rfl (exec_bldP01 rfl evk) ?_
  simp only [Act.put, aa, ac, ae]
  refine af rfl (cZ (cs := [.int .i64 0, .int .i64 0]) zeroP2 rfl) ?_
  simp only [Act.put, aa, ac, ae]
  refine av rfl (eE (cs := [.int .i64 0, .int .i64 1]) (ds := [.int .i64 0, .int .i64 0]) (by kernel_rfl) rfl (by intro v hv; simp only [List.mem_cons, List.not_mem_nil, or_false] at hv; rcases hv with rfl | rfl <;> rfl) rfl (ev rfl) (ev rfl)) ?_
  simp only [Act.put, aa, ac, ae]
  have hx := (Below.refl w3.heap.size w3).alloc (Nat.le_refl _) (.cells ([.int .i64 0, .int .i64 1] : List Value).toArray 68)
  have HP4 := Lib.hid (heap_alloc_new w3 (.cells ([.int .i64 0, .int .i64 1] : List Value).toArray 68))
  have HA4 := Lib.hid (HAt.guard (K' := fun b => b = w3.heap.size) HA3.out hx fun b e => .inr (by subst e; rw [World.size_alloc]; omega))
  clear hx
  obtain ⟨b5, hb5⟩ : ∃ b5, w3.heap.size = b5 := ⟨_, rfl⟩
  rw [hb5] at HP4 HA4 ⊢
  clear hb5
  generalize w3.alloc (.cells ([.int .i64 0, .int .i64 1] : List Value).toArray 68) = w4 at *
  refine wpList_nil ?_
  go_upto_region 6 with fail
  refine wp_region_lit ?_
  refine af rfl (ai rfl (ev rfl)) ?_
  simp only [Act.put, aa, ac, ae]
  refine af rfl (cd (cs := [.int .i64 0, .int .i64 1]) Tryz.underlying68 rfl (by kernel_rfl) rfl (ev rfl) (a4 HP4.out)) ?_
  simp only [Act.put, aa, ac, ae]
  refine af rfl (exec_bld1 rfl evk (bldHA _)) ?_
  simp only [Act.put, aa, ac, ae]
  refine al rfl (ap Tryz.call24 rfl (evc (ev rfl) (evc (ev rfl) (evc (ev rfl) evn)))) ?_
  refine (HA4.out.write 0 1 hbA HM1.out (by show 1 ≤ _; decide) (hwrK_of (by rw [X1.out.1]; decide) (by rw [X1.out.1]; decide))).mono ?_
  rintro e w5 ⟨rfl, a5, k5⟩
  rw [X1.out.2] at a5
  have HA5 := Lib.hid a5
  have HP5 := Lib.hid ((k5 b5 rfl).trans HP4.out)
  clear a5 k5
  rw [X1.out.1]
  refine ⟨_, rfl, ?_⟩
  simp only [Act.put, aa, ac, ae]
  refine af rfl (ak rfl (ev rfl)) ?_
  simp only [Act.put, aa, ac, ae]
  refine wpList_nil ?_
  go_upto_region 7 with fail
  refine wp_region_lit ?_
  refine af rfl (ai rfl (ev rfl)) ?_
  simp only [Act.put, aa, ac, ae]
  refine af rfl (cd (cs := [.int .i64 0, .int .i64 1]) Tryz.underlying68 rfl (by kernel_rfl) rfl (ev rfl) (a4 HP5.out)) ?_
  simp only [Act.put, aa, ac, ae]
  refine al rfl (ap Tryz.call23 rfl (evc (ev rfl) (evc (ev rfl) evn))) ?_
  refine (HA5.out.read 0 1 HM2.out (by show 1 ≤ _; decide) (hrdK_of (by rw [R1.out.1]; decide) (by rw [R1.out.1]; decide))).mono ?_
  rintro e w6 ⟨rfl, a6, k6⟩
  rw [R1.out.2.2] at a6
  have HA6 := Lib.hid a6
  have HP6 := Lib.hid ((k6 b5 rfl).trans HP5.out)
  clear a6 k6
  rw [R1.out.1, R1.out.2.1]
  refine ⟨_, rfl, ?_⟩
  simp only [Act.put, aa, ac, ae]
  refine af rfl (ai rfl (ev rfl)) ?_
  simp only [Act.put, aa, ac, ae]
  refine af rfl (aU rfl (ev rfl) rfl) ?_
  simp only [Act.put, aa, ac, ae]
  refine af rfl (aU rfl (ev rfl) rfl) ?_
  simp only [Act.put, aa, ac, ae]
  refine af rfl (aQ rfl) ?_
  simp only [Act.put, aa, ac, ae]
  refine av rfl (ec (c := hbA) rfl (ev rfl) (ev rfl)) ?_
  simp only [Act.put, aa, ac, ae]
  have hx := (Below.refl w6.heap.size w6).alloc (Nat.le_refl _) (.cells (cel hbA).toArray 58)
  have HP7 := Lib.hid (am HP6.out hx)
  have HQ7 := Lib.hid (heap_alloc_new w6 (.cells (cel hbA).toArray 58))
  have HA7 := Lib.hid (HAt.guard (K' := fun b => b = b5 ∨ b = w6.heap.size) HA6.out hx fun b e => e.imp id fun e => by subst e; rw [World.size_alloc]; omega)
  clear hx
  obtain ⟨b7, hb7⟩ : ∃ b7, w6.heap.size = b7 := ⟨_, rfl⟩
  rw [hb7] at HQ7 HA7 ⊢
  clear hb7
  generalize w6.alloc (.cells (cel hbA).toArray 58) = w7 at *
  refine af rfl (ak rfl (ev rfl)) ?_
  simp only [Act.put, aa, ac, ae]
  refine wpList_nil ?_
  go_upto_region 8 with fail
  refine wp_region_lit ?_
  refine af rfl (ai rfl (ev rfl)) ?_
  simp only [Act.put, aa, ac, ae]
  refine al rfl (ap Tryz.call16 rfl (evc (ev rfl) (evc evk evn))) ?_
  refine (HA7.out.ben fun hb => C.R.fail 1 hb).mono ?_
  rintro e w8 ⟨rfl, a8, k8⟩
  replace a8 : HAt C w1 w1.heap.size (fun b => b = b5 ∨ b = b7) w8 q p ⟨faS6 M2 1, 9, 1, lvR⟩ := a8
  rw [F1.out.2] at a8
  have HA8 := Lib.hid a8
  have HP8 := Lib.hid ((k8 b5 (.inl rfl)).trans HP7.out)
  have HQ8 := Lib.hid ((k8 b7 (.inr rfl)).trans HQ7.out)
  clear a8 k8
  rw [show hasE (HuS.mk M2 9 1 lvR).M 1 = 0 from F1.out.1]
  refine ⟨_, rfl, ?_⟩
  simp only [Act.put, aa, ac, ae]
  refine af rfl (ak rfl (ev rfl)) ?_
  simp only [Act.put, aa, ac, ae]
  refine wpList_nil ?_
  go_upto_region 9 with fail
  refine wp_region_lit ?_
  refine af rfl (ai rfl (ev rfl)) ?_
  simp only [Act.put, aa, ac, ae]
  refine af rfl (cd (cs := [.int .i64 0, .int .i64 1]) Tryz.underlying68 rfl (by kernel_rfl) rfl (ev rfl) (a4 HP8.out)) ?_
  simp only [Act.put, aa, ac, ae]
  refine al rfl (ap Tryz.call23 rfl (evc (ev rfl) (evc (ev rfl) evn))) ?_
  refine (HA8.out.read 0 1 HM3.out (by show 1 ≤ _; decide) (hrdK_of (by rw [D1.out.1]; decide) (by rw [D1.out.1]; decide))).mono ?_
  rintro e w9 ⟨rfl, a9, k9⟩
  rw [D1.out.2] at a9
  have HA9 := Lib.hid a9
  have HQ9 := Lib.hid ((k9 b7 (.inr rfl)).trans HQ8.out)
  clear a9 k9
  rw [D1.out.1]
  generalize hrdB ⟨M3, 9, 1, lvR⟩ 0 1 = y
  refine ⟨_, rfl, ?_⟩
  simp only [Act.put, aa, ac, ae]
  refine af rfl (ai rfl (ev rfl)) ?_
  simp only [Act.put, aa, ac, ae]
  refine af rfl (aU rfl (ev rfl) rfl) ?_
  simp only [Act.put, aa, ac, ae]
  refine af rfl (aU rfl (ev rfl) rfl) ?_
  simp only [Act.put, aa, ac, ae]
  refine af rfl (aQ rfl) ?_
  simp only [Act.put, aa, ac, ae]
  refine av rfl (ec (c := y) rfl (ev rfl) (ev rfl)) ?_
  simp only [Act.put, aa, ac, ae]
  have hx := (Below.refl w9.heap.size w9).alloc (Nat.le_refl _) (.cells (cel y).toArray 58)
  have HQ10 := Lib.hid (am HQ9.out hx)
  have HA10 := Lib.hid (HAt.below HA9.out hx)
  clear hx
  generalize w9.alloc (.cells (cel y).toArray 58) = w10 at *
  refine af rfl (ak rfl (ev rfl)) ?_
  simp only [Act.put, aa, ac, ae]
  refine wpList_nil ?_
  go_upto_region 10 with fail
  refine wp_region_lit ?_
  refine af rfl (ai rfl (ev rfl)) ?_
  simp only [Act.put, aa, ac, ae]
  refine af (v := .bool true) rfl (aw true rfl (ev rfl) evk rfl) ?_
  simp only [Act.put, aa, ac, ae]
  refine af (v := .bool true) rfl (ai rfl (ev rfl)) ?_
  simp only [Act.put, aa, ac, ae]
  refine ag (ah rfl rfl rfl rfl) (ai rfl (ev rfl)) ?_
  simp only [Act.put, aa, ac, ae]
  refine ag (v := .bool true) (ah rfl rfl rfl rfl) (aw true rfl (ev rfl) evk rfl) ?_
  simp only [Act.put, aa, ac, ae]
  refine af (v := .bool true) rfl (aJ rfl (ev rfl) (ev rfl)) ?_
  simp only [Act.put, aa, ac, ae]
  refine af (v := .bool true) rfl (ai rfl (ev rfl)) ?_
  simp only [Act.put, aa, ac, ae]
  refine ag (ah rfl rfl rfl rfl) (aV rfl (ev rfl) (a4 HQ10.out)) ?_
  simp only [Act.put, aa, ac, ae]
  refine ag (ah rfl rfl rfl rfl) (exec_bld1 rfl evk (bldHA _)) ?_
  simp only [Act.put, aa, ac, ae]
  refine ag (v := .bool true) (ah rfl rfl rfl rfl) (exec_eqlB true rfl (ev rfl) (ev rfl) (decide_eq_true rfl)) ?_
  simp only [Act.put, aa, ac, ae]
  refine af (v := .bool true) rfl (aJ rfl (ev rfl) (ev rfl)) ?_
  simp only [Act.put, aa, ac, ae]
  refine af (v := .bool true) rfl (ai rfl (ev rfl)) ?_
  simp only [Act.put, aa, ac, ae]
  refine ag (ah rfl rfl rfl rfl) (ai rfl (ev rfl)) ?_
  simp only [Act.put, aa, ac, ae]
  refine ag (v := .bool true) (ah rfl rfl rfl rfl) (aw true rfl (ev rfl) evk rfl) ?_
  simp only [Act.put, aa, ac, ae]
  refine af (v := .bool true) rfl (aJ rfl (ev rfl) (ev rfl)) ?_
  simp only [Act.put, aa, ac, ae]
  refine af (v := .bool true) rfl (ai rfl (ev rfl)) ?_
  simp only [Act.put, aa, ac, ae]
  refine ag (ah rfl rfl rfl rfl) (ai rfl (ev rfl)) ?_
  simp only [Act.put, aa, ac, ae]
  refine ag (v := .bool true) (ah rfl rfl rfl rfl) (aw true rfl (ev rfl) evk rfl) ?_
  simp only [Act.put, aa, ac, ae]
  refine af (v := .bool true) rfl (aJ rfl (ev rfl) (ev rfl)) ?_
  simp only [Act.put, aa, ac, ae]
  refine af (v := .bool true) rfl (ai rfl (ev rfl)) ?_
  simp only [Act.put, aa, ac, ae]
  refine ag (ah rfl rfl rfl rfl) (ai rfl (ev rfl)) ?_
  simp only [Act.put, aa, ac, ae]
  refine ag (v := .bool true) (ah rfl rfl rfl rfl) (aw true rfl (ev rfl) evk rfl) ?_
  simp only [Act.put, aa, ac, ae]
  refine af (v := .bool true) rfl (aJ rfl (ev rfl) (ev rfl)) ?_
  simp only [Act.put, aa, ac, ae]
  refine af (v := .bool true) rfl (ai rfl (ev rfl)) ?_
  simp only [Act.put, aa, ac, ae]
  refine ag (ah rfl rfl rfl rfl) (ai rfl (ev rfl)) ?_
  simp only [Act.put, aa, ac, ae]
  refine al (ah rfl rfl rfl rfl) (ap Tryz.call31 rfl (evc (ev rfl) evn)) ?_
  refine (HAt.state HA10.out).mono ?_
  rintro e w11 ⟨rfl, b11⟩
  have HA11 := Lib.hid (HAt.below HA10.out b11)
  clear b11
  rw [show stN (HuS.mk M4 9 2 lvR1).R = 2 from HST.out]
  refine ⟨_, rfl, ?_⟩
  simp only [Act.put, aa, ac, ae]
  refine ag (v := .bool true) (ah rfl rfl rfl rfl) (aw true rfl (ev rfl) evk rfl) ?_
  simp only [Act.put, aa, ac, ae]
  refine af (v := .bool true) rfl (aJ rfl (ev rfl) (ev rfl)) ?_
  simp only [Act.put, aa, ac, ae]
  refine af (v := .bool true) rfl (ai rfl (ev rfl)) ?_
  simp only [Act.put, aa, ac, ae]
  refine ag (ah rfl rfl rfl rfl) (ai rfl (ev rfl)) ?_
  simp only [Act.put, aa, ac, ae]
  refine al (ah rfl rfl rfl rfl) (ap Tryz.call18 rfl (evc (ev rfl) evn)) ?_
  refine (HAt.event HA11.out).mono ?_
  rintro e w12 ⟨rfl, b12⟩
  have HA12 := Lib.hid (HAt.below HA11.out b12)
  clear b12
  refine ⟨_, rfl, ?_⟩
  simp only [Act.put, aa, ac, ae]
  refine ag (v := .bool true) (ah rfl rfl rfl rfl) (aw true rfl (ev rfl) evk rfl) ?_
  simp only [Act.put, aa, ac, ae]
  refine af (v := .bool true) rfl (aJ rfl (ev rfl) (ev rfl)) ?_
  simp only [Act.put, aa, ac, ae]
  refine af (v := .bool true) rfl (ak rfl (ev rfl)) ?_
  simp only [Act.put, aa, ac, ae]
  refine wpList_nil ?_
  go_wp2_with fail
  go_ret
  exact ⟨rfl, HB1.out.trans (HA12.out.bel.mono HB1.out.size)⟩
theorem rros_t (x : Ros) (w : World) : Calls Tryz.prog 22 #[ros x, ros x] w fun e w' => e = .returned (.bool true) ∧ Below w.heap.size w w' := by
  have := rrosters x x w
  rwa [decide_eq_true rfl] at this
end Go.Proofs.YtnliphgjcaippaaGreatDoor
