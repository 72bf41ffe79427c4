import Derived.Test.YtnliphgjcaippaaGreatDoorHwap
import Derived.Test.YtnliphgjcaippaaGreatDoorHwak
import Derived.Test.YtnliphgjcaippaaGreatDoorHwag
import Derived.Test.YtnliphgjcaippaaGreatDoorHwZ
namespace Go.Proofs.YtnliphgjcaippaaGreatDoor
open Go.RowKit
set_option linter.unusedVariables false
set_option linter.unusedSimpArgs false
set_option maxRecDepth 100000
def hbA : Blk := ar.set 0 170
theorem bldHA (w : World) : (Instr.build 58 #[(0, .int .u8 170)]).run Tryz.prog w = .ok (blk hbA) w := by kernel_rfl
theorem bldP01 (w : World) : (Instr.build 68 #[(1, .int .i64 1)]).run Tryz.prog w = .ok (.agg ([.int .i64 0, .int .i64 1] : List Value).toArray) w := by kernel_rfl
theorem exec_bldP01 {ρ : Operand → Value} {o : Oper} {x : Operand} {w : World} (ho : o.op = .build 68 #[(1, x)]) (hx : ρ x = .int .i64 1) : (execOp ρ o).run Tryz.prog w = .ok (.value (.agg ([.int .i64 0, .int .i64 1] : List Value).toArray)) w := by
  unfold execOp
  simp [ho, hx, bldP01, Result.andThen]
theorem zeroP2 : (Tryz.prog.info? 68).map (fun i => i.zero) = some (some (.agg ([.int .i64 0, .int .i64 0] : List Value).toArray)) := by kernel_rfl
set_option maxHeartbeats 4000000 in
theorem hlives (C : HulI) (w : World) (T : Tab w) : Calls Tryz.prog 9 #[] w fun e w' => e = .returned (.bool true) ∧ Below w.heap.size w w' := by
  obtain ⟨M1, M2, M3, M4, s1, s2, x1, x2, r1, r2, r3, f1, f2, d1, d2, m0, m1, m2, m3⟩ := lvH hbA
  have HT := Lib.hid T
  have S1 := Lib.hid (And.intro s1 s2)
  have X1 := Lib.hid (And.intro x1 x2)
  have R1 := Lib.hid (And.intro r1 (And.intro r2 r3))
  have F1 := Lib.hid (And.intro f1 f2)
  have D1 := Lib.hid (And.intro d1 d2)
  have HM0 := Lib.hid m0
  have HM1 := Lib.hid m1
  have HM2 := Lib.hid m2
  have HM3 := Lib.hid m3
  have HST : Hid (stN lvR1 = 2) := Lib.hid lvR_has.2.2.2.2
  clear T s1 s2 x1 x2 r1 r2 r3 f1 f2 d1 d2 m0 m1 m2 m3
  go_enter Tryz.func9, Tryz.ntmps9
  go_upto_region 1 with fail
  refine wp_region_lit ?_
  refine al rfl (am Tryz.call13 rfl (evc evk (evc evk evn))) ?_
  refine (l_geo 0 1 3 2 w (by omega) (by omega) rfl rfl).mono ?_
  rintro e w1 ⟨rfl, b1⟩
  have HB1 := Lib.hid b1
  clear b1
  refine ⟨_, rfl, ?_⟩
  simp only [Act.put, aa, ac, ae]
  refine al rfl (am Tryz.call37 rfl (evc (ev rfl) evn)) ?_
  refine (l_both C 3 2 w1 (HT.out.below HB1.out) (by omega) (by omega) (by omega)).mono ?_
  rintro e w2 ⟨p, q, p2, rfl, a2⟩
  have HA2 : Hid (HAt C w1 w1.heap.size (fun _ => False) w2 q p ⟨lvM, 9, 0, lvR⟩) := Lib.hid a2
  clear a2
  refine ⟨_, rfl, ?_⟩
  simp only [Act.put, aa, ac, ae]
  refine af rfl (ai rfl (ev rfl)) ?_
  simp only [Act.put, aa, ac, ae]
  refine af rfl (aA rfl (ev rfl) rfl) ?_
  simp only [Act.put, aa, ac, ae]
  refine af rfl (aA rfl (ev rfl) rfl) ?_
  simp only [Act.put, aa, ac, ae]
  refine af rfl (aA rfl (ev rfl) rfl) ?_
  simp only [Act.put, aa, ac, ae]
  refine af rfl (ak rfl (ev rfl)) ?_
  simp only [Act.put, aa, ac, ae]
  refine af rfl (ak rfl (ev rfl)) ?_
  simp only [Act.put, aa, ac, ae]
  refine af rfl (ak rfl (ev rfl)) ?_
  simp only [Act.put, aa, ac, ae]
  refine wpList_nil ?_
  go_upto_region 2 with fail
  refine wp_region_lit ?_
  refine af rfl (ai rfl (ev rfl)) ?_
  simp only [Act.put, aa, ac, ae]
  refine af (v := .bool false) rfl (cR false Tryz.underlying36 rfl (ev rfl) evk rfl) ?_
  simp only [Act.put, aa, ac, ae]
  refine wpList_nil ?_
  go_upto_region 4 with fail
  refine wp_region_lit ?_
  refine af rfl (ai rfl (ev rfl)) ?_
  simp only [Act.put, aa, ac, ae]
  refine al rfl (am Tryz.call17 rfl (evc (ev rfl) evn)) ?_
  refine (HA2.out.save HM0.out (by decide) S1.out.1).mono ?_
  rintro e w3 ⟨rfl, a3, k3⟩
  rw [S1.out.2] at a3
  have HA3 := Lib.hid a3
  clear a3 k3
  rw [S1.out.1]
  refine ⟨_, rfl, ?_⟩
  simp only [Act.put, aa, ac, ae]
  refine af rfl (ak rfl (ev rfl)) ?_
  simp only [Act.put, aa, ac, ae]
  refine wpList_nil ?_
  go_upto_region 5 with fail
  refine wp_region_lit ?_
  refine af rfl (exec_bldP01 rfl evk) ?_
  simp only [Act.put, aa, ac, ae]
  refine af rfl (cT (cs := [.int .i64 0, .int .i64 0]) zeroP2 rfl) ?_
  simp only [Act.put, aa, ac, ae]
  refine ay rfl (exec_filT (cs := [.int .i64 0, .int .i64 1]) (ds := [.int .i64 0, .int .i64 0]) (by kernel_rfl) rfl (by intro v hv; simp only [List.mem_cons, List.not_mem_nil, or_false] at hv; rcases hv with rfl | rfl <;> rfl) rfl (ev rfl) (ev rfl)) ?_
  simp only [Act.put, aa, ac, ae]
  have hx := (Below.refl w3.heap.size w3).alloc (Nat.le_refl _) (.cells ([.int .i64 0, .int .i64 1] : List Value).toArray 68)
  have HP4 := Lib.hid (heap_alloc_new w3 (.cells ([.int .i64 0, .int .i64 1] : List Value).toArray 68))
  have HA4 := Lib.hid (HAt.guard (K' := fun b => b = w3.heap.size) HA3.out hx fun b e => .inr (by subst e; rw [World.size_alloc]; omega))
  clear hx
  obtain ⟨b5, hb5⟩ : ∃ b5, w3.heap.size = b5 := ⟨_, rfl⟩
  rw [hb5] at HP4 HA4 ⊢
  clear hb5
  generalize w3.alloc (.cells ([.int .i64 0, .int .i64 1] : List Value).toArray 68) = w4 at *
  refine wpList_nil ?_
  go_upto_region 6 with fail
  refine wp_region_lit ?_
  refine af rfl (ai rfl (ev rfl)) ?_
  simp only [Act.put, aa, ac, ae]
  refine af rfl (bO (cs := [.int .i64 0, .int .i64 1]) Tryz.underlying68 rfl (by kernel_rfl) rfl (ev rfl) (aU HP4.out)) ?_
  simp only [Act.put, aa, ac, ae]
  refine af rfl (exec_bld1 rfl evk (bldHA _)) ?_
  simp only [Act.put, aa, ac, ae]
  refine al rfl (am Tryz.call24 rfl (evc (ev rfl) (evc (ev rfl) (evc (ev rfl) evn)))) ?_
  refine (HA4.out.write 0 1 hbA HM1.out (by show 1 ≤ _; decide) (hwrK_of (by rw [X1.out.1]; decide) (by rw [X1.out.1]; decide))).mono ?_
  rintro e w5 ⟨rfl, a5, k5⟩
  rw [X1.out.2] at a5
  have HA5 := Lib.hid a5
  have HP5 := Lib.hid ((k5 b5 rfl).trans HP4.out)
  clear a5 k5
  rw [X1.out.1]
  refine ⟨_, rfl, ?_⟩
  simp only [Act.put, aa, ac, ae]
  refine af rfl (ak rfl (ev rfl)) ?_
  simp only [Act.put, aa, ac, ae]
  refine wpList_nil ?_
  go_upto_region 7 with fail
  refine wp_region_lit ?_
  refine af rfl (ai rfl (ev rfl)) ?_
  simp only [Act.put, aa, ac, ae]
  refine af rfl (bO (cs := [.int .i64 0, .int .i64 1]) Tryz.underlying68 rfl (by kernel_rfl) rfl (ev rfl) (aU HP5.out)) ?_
  simp only [Act.put, aa, ac, ae]
  refine al rfl (am Tryz.call23 rfl (evc (ev rfl) (evc (ev rfl) evn))) ?_
  refine (HA5.out.read 0 1 HM2.out (by show 1 ≤ _; decide) (hrdK_of (by rw [R1.out.1]; decide) (by rw [R1.out.1]; decide))).mono ?_
  rintro e w6 ⟨rfl, a6, k6⟩
  rw [R1.out.2.2] at a6
  have HA6 := Lib.hid a6
  have HP6 := Lib.hid ((k6 b5 rfl).trans HP5.out)
  clear a6 k6
  rw [R1.out.1, R1.out.2.1]
  refine ⟨_, rfl, ?_⟩
  simp only [Act.put, aa, ac, ae]
  refine af rfl (ai rfl (ev rfl)) ?_
  simp only [Act.put, aa, ac, ae]
  refine af rfl (aA rfl (ev rfl) rfl) ?_
  simp only [Act.put, aa, ac, ae]
  refine af rfl (aA rfl (ev rfl) rfl) ?_
  simp only [Act.put, aa, ac, ae]
  refine af rfl (a4 rfl) ?_
  simp only [Act.put, aa, ac, ae]
  refine ay rfl (dy (c := hbA) rfl (ev rfl) (ev rfl)) ?_
  simp only [Act.put, aa, ac, ae]
  have hx := (Below.refl w6.heap.size w6).alloc (Nat.le_refl _) (.cells (cel hbA).toArray 58)
  have HP7 := Lib.hid (ap HP6.out hx)
  have HQ7 := Lib.hid (heap_alloc_new w6 (.cells (cel hbA).toArray 58))
  have HA7 := Lib.hid (HAt.guard (K' := fun b => b = b5 ∨ b = w6.heap.size) HA6.out hx fun b e => e.imp id fun e => by subst e; rw [World.size_alloc]; omega)
  clear hx
  obtain ⟨b7, hb7⟩ : ∃ b7, w6.heap.size = b7 := ⟨_, rfl⟩
  rw [hb7] at HQ7 HA7 ⊢
  clear hb7
  generalize w6.alloc (.cells (cel hbA).toArray 58) = w7 at *
  refine af rfl (ak rfl (ev rfl)) ?_
  simp only [Act.put, aa, ac, ae]
  refine wpList_nil ?_
  go_upto_region 8 with fail
  refine wp_region_lit ?_
  refine af rfl (ai rfl (ev rfl)) ?_
  simp only [Act.put, aa, ac, ae]
  refine al rfl (am Tryz.call16 rfl (evc (ev rfl) (evc evk evn))) ?_
  refine (HA7.out.ben fun hb => C.R.fail 1 hb).mono ?_
  rintro e w8 ⟨rfl, a8, k8⟩
  replace a8 : HAt C w1 w1.heap.size (fun b => b = b5 ∨ b = b7) w8 q p ⟨faS6 M2 1, 9, 1, lvR⟩ := a8
  rw [F1.out.2] at a8
  have HA8 := Lib.hid a8
  have HP8 := Lib.hid ((k8 b5 (.inl rfl)).trans HP7.out)
  have HQ8 := Lib.hid ((k8 b7 (.inr rfl)).trans HQ7.out)
  clear a8 k8
  rw [show hasE (HuS.mk M2 9 1 lvR).M 1 = 0 from F1.out.1]
  refine ⟨_, rfl, ?_⟩
  simp only [Act.put, aa, ac, ae]
  refine af rfl (ak rfl (ev rfl)) ?_
  simp only [Act.put, aa, ac, ae]
  refine wpList_nil ?_
  go_upto_region 9 with fail
  refine wp_region_lit ?_
  refine af rfl (ai rfl (ev rfl)) ?_
  simp only [Act.put, aa, ac, ae]
  refine af rfl (bO (cs := [.int .i64 0, .int .i64 1]) Tryz.underlying68 rfl (by kernel_rfl) rfl (ev rfl) (aU HP8.out)) ?_
  simp only [Act.put, aa, ac, ae]
  refine al rfl (am Tryz.call23 rfl (evc (ev rfl) (evc (ev rfl) evn))) ?_
  refine (HA8.out.read 0 1 HM3.out (by show 1 ≤ _; decide) (hrdK_of (by rw [D1.out.1]; decide) (by rw [D1.out.1]; decide))).mono ?_
  rintro e w9 ⟨rfl, a9, k9⟩
  rw [D1.out.2] at a9
  have HA9 := Lib.hid a9
  have HQ9 := Lib.hid ((k9 b7 (.inr rfl)).trans HQ8.out)
  clear a9 k9
  rw [D1.out.1]
  generalize hrdB ⟨M3, 9, 1, lvR⟩ 0 1 = y
  refine ⟨_, rfl, ?_⟩
  simp only [Act.put, aa, ac, ae]
  refine af rfl (ai rfl (ev rfl)) ?_
  simp only [Act.put, aa, ac, ae]
  refine af rfl (aA rfl (ev rfl) rfl) ?_
  simp only [Act.put, aa, ac, ae]
  refine af rfl (aA rfl (ev rfl) rfl) ?_
  simp only [Act.put, aa, ac, ae]
  refine af rfl (a4 rfl) ?_
  simp only [Act.put, aa, ac, ae]
  refine ay rfl (dy (c := y) rfl (ev rfl) (ev rfl)) ?_
  simp only [Act.put, aa, ac, ae]
  have hx := (Below.refl w9.heap.size w9).alloc (Nat.le_refl _) (.cells (cel y).toArray 58)
  have HQ10 := Lib.hid (ap HQ9.out hx)
  have HA10 := Lib.hid (HAt.below HA9.out hx)
  clear hx
  generalize w9.alloc (.cells (cel y).toArray 58) = w10 at *
  refine af rfl (ak rfl (ev rfl)) ?_
  simp only [Act.put, aa, ac, ae]
  refine wpList_nil ?_
  go_upto_region 10 with fail
  refine wp_region_lit ?_
  refine af rfl (ai rfl (ev rfl)) ?_
  simp only [Act.put, aa, ac, ae]
  refine af (v := .bool true) rfl (au true rfl (ev rfl) evk rfl) ?_
  simp only [Act.put, aa, ac, ae]
  refine af (v := .bool true) rfl (ai rfl (ev rfl)) ?_
  simp only [Act.put, aa, ac, ae]
  refine ah (ag rfl rfl rfl rfl) (ai rfl (ev rfl)) ?_
  simp only [Act.put, aa, ac, ae]
  refine ah (v := .bool true) (ag rfl rfl rfl rfl) (au true rfl (ev rfl) evk rfl) ?_
  simp only [Act.put, aa, ac, ae]
  refine af (v := .bool true) rfl (aF rfl (ev rfl) (ev rfl)) ?_
  simp only [Act.put, aa, ac, ae]
  refine af (v := .bool true) rfl (ai rfl (ev rfl)) ?_
  simp only [Act.put, aa, ac, ae]
  refine ah (ag rfl rfl rfl rfl) (bj rfl (ev rfl) (aU HQ10.out)) ?_
  simp only [Act.put, aa, ac, ae]
  refine ah (ag rfl rfl rfl rfl) (exec_bld1 rfl evk (bldHA _)) ?_
  simp only [Act.put, aa, ac, ae]
  refine ah (v := .bool true) (ag rfl rfl rfl rfl) (exec_eqlB true rfl (ev rfl) (ev rfl) (decide_eq_true rfl)) ?_
  simp only [Act.put, aa, ac, ae]
  refine af (v := .bool true) rfl (aF rfl (ev rfl) (ev rfl)) ?_
  simp only [Act.put, aa, ac, ae]
  refine af (v := .bool true) rfl (ai rfl (ev rfl)) ?_
  simp only [Act.put, aa, ac, ae]
  refine ah (ag rfl rfl rfl rfl) (ai rfl (ev rfl)) ?_
  simp only [Act.put, aa, ac, ae]
  refine ah (v := .bool true) (ag rfl rfl rfl rfl) (au true rfl (ev rfl) evk rfl) ?_
  simp only [Act.put, aa, ac, ae]
  refine af (v := .bool true) rfl (aF rfl (ev rfl) (ev rfl)) ?_
  simp only [Act.put, aa, ac, ae]
  refine af (v := .bool true) rfl (ai rfl (ev rfl)) ?_
  simp only [Act.put, aa, ac, ae]
  refine ah (ag rfl rfl rfl rfl) (ai rfl (ev rfl)) ?_
  simp only [Act.put, aa, ac, ae]
  refine ah (v := .bool true) (ag rfl rfl rfl rfl) (au true rfl (ev rfl) evk rfl) ?_
  simp only [Act.put, aa, ac, ae]
  refine af (v := .bool true) rfl (aF rfl (ev rfl) (ev rfl)) ?_
  simp only [Act.put, aa, ac, ae]
  refine af (v := .bool true) rfl (ai rfl (ev rfl)) ?_
  simp only [Act.put, aa, ac, ae]
  refine ah (ag rfl rfl rfl rfl) (ai rfl (ev rfl)) ?_
  simp only [Act.put, aa, ac, ae]
  refine ah (v := .bool true) (ag rfl rfl rfl rfl) (au true rfl (ev rfl) evk rfl) ?_
  simp only [Act.put, aa, ac, ae]
  refine af (v := .bool true) rfl (aF rfl (ev rfl) (ev rfl)) ?_
  simp only [Act.put, aa, ac, ae]
  refine af (v := .bool true) rfl (ai rfl (ev rfl)) ?_
  simp only [Act.put, aa, ac, ae]
  refine ah (ag rfl rfl rfl rfl) (ai rfl (ev rfl)) ?_
  simp only [Act.put, aa, ac, ae]
  refine al (ag rfl rfl rfl rfl) (am Tryz.call31 rfl (evc (ev rfl) evn)) ?_
  refine (HAt.state HA10.out).mono ?_
  rintro e w11 ⟨rfl, b11⟩
  have HA11 := Lib.hid (HAt.below HA10.out b11)
  clear b11
  rw [show stN (HuS.mk M4 9 2 lvR1).R = 2 from HST.out]
  refine ⟨_, rfl, ?_⟩
  simp only [Act.put, aa, ac, ae]
  refine ah (v := .bool true) (ag rfl rfl rfl rfl) (au true rfl (ev rfl) evk rfl) ?_
  simp only [Act.put, aa, ac, ae]
  refine af (v := .bool true) rfl (aF rfl (ev rfl) (ev rfl)) ?_
  simp only [Act.put, aa, ac, ae]
  refine af (v := .bool true) rfl (ai rfl (ev rfl)) ?_
  simp only [Act.put, aa, ac, ae]
  refine ah (ag rfl rfl rfl rfl) (ai rfl (ev rfl)) ?_
  simp only [Act.put, aa, ac, ae]
  refine al (ag rfl rfl rfl rfl) (am Tryz.call18 rfl (evc (ev rfl) evn)) ?_
  refine (HAt.event HA11.out).mono ?_
  rintro e w12 ⟨rfl, b12⟩
  have HA12 := Lib.hid (HAt.below HA11.out b12)
  clear b12
  refine ⟨_, rfl, ?_⟩
  simp only [Act.put, aa, ac, ae]
  refine ah (v := .bool true) (ag rfl rfl rfl rfl) (au true rfl (ev rfl) evk rfl) ?_
  simp only [Act.put, aa, ac, ae]
  refine af (v := .bool true) rfl (aF rfl (ev rfl) (ev rfl)) ?_
  simp only [Act.put, aa, ac, ae]
  refine af (v := .bool true) rfl (ak rfl (ev rfl)) ?_
  simp only [Act.put, aa, ac, ae]
  refine wpList_nil ?_
  go_wp2_with fail
  go_ret
  exact ⟨rfl, HB1.out.trans (HA12.out.bel.mono HB1.out.size)⟩
theorem exec_neqH {ρ : Operand → Value} {o : Oper} {x y : Operand} {w : World} {c d : Blk} {t : TypeId} (b : Bool) (ho : o.op = .binOp .neq 58 x y t) (hx : ρ x = blk c) (hy : ρ y = blk d) (h : (!decide (c = d)) = b) : (execOp ρ o).run Tryz.prog w = .ok (.value (.bool b)) w := by
  subst h; exact exec_neq ho hx hy
theorem rros_t (x : Ros) (w : World) : Calls Tryz.prog 22 #[ros x, ros x] w fun e w' => e = .returned (.bool true) ∧ Below w.heap.size w w' := by
  have := rrosters x x w
  rwa [decide_eq_true rfl] at this
section
variable {C : HulI} {w0 w : World} {B q p p2 q2 : Nat} {K F2 : Nat → Prop} {h : HuS}
set_option maxHeartbeats 4000000 in
theorem l_halike (w : World) (hA : HAt C w0 B K w q p h) (hD : RHu w p2 q2 h.id h.ev h.R) (hB : bp.Bn w F2 q2 h.M) : Calls Tryz.prog 11 #[.pointer (some ⟨p, 0, none⟩), .pointer (some ⟨q, 0, none⟩), .pointer (some ⟨p2, 0, none⟩)] w fun e w' => e = .returned (.bool true) ∧ Below w.heap.size w w' := by
  have HA := Lib.hid hA
  have HD := Lib.hid hD
  have HB := Lib.hid hB
  have HL17 : Hid (h.M.ds.length ≤ 17) := Lib.hid (bp.wf hB).cap
  clear hA hD hB
  go_enter Tryz.func11, Tryz.ntmps11
  go_upto_region 1 with fail
  refine aI (B := w.heap.size) (by kernel_rfl) ?_
  refine ao rfl (fun w' hw => ai rfl (ev rfl)) ?_
  simp only [Act.put, aa, ac, ae]
  refine a7 rfl (fun _ => am Tryz.call18 rfl (evc (ev rfl) evn)) (aM (Nat.le_refl _) fun w' hw => HAt.event (HA.out.below hw)) ?_
  simp only [Act.put, aa, ac, ae]
  refine ao rfl (fun w' hw => ai rfl (ev rfl)) ?_
  simp only [Act.put, aa, ac, ae]
  refine ao rfl (fun w' hw => aT rfl (ev rfl)) ?_
  simp only [Act.put, aa, ac, ae]
  refine ao rfl (fun w' hw => aj rfl (ev rfl) faRh2) ?_
  simp only [Act.put, aa, ac, ae]
  refine ao rfl (fun w' hw => aq rfl (ev rfl) (ldU64 (HD.out.below hw).c2)) ?_
  simp only [Act.put, aa, ac, ae]
  refine ao (v := .bool false) rfl (fun w' hw => ax false rfl (ev rfl) (ev rfl) (bne_self_eq_false _)) ?_
  simp only [Act.put, aa, ac, ae]
  refine ao (v := .bool false) rfl (fun w' hw => ai rfl (ev rfl)) ?_
  simp only [Act.put, aa, ac, ae]
  refine ao (ag rfl rfl rfl rfl) (fun w' hw => ai rfl (ev rfl)) ?_
  simp only [Act.put, aa, ac, ae]
  refine a7 (ag rfl rfl rfl rfl) (fun _ => am Tryz.call19 rfl (evc (ev rfl) evn)) (aM (Nat.le_refl _) fun w' hw => HAt.roster (HA.out.below hw)) ?_
  simp only [Act.put, aa, ac, ae]
  refine ao (ag rfl rfl rfl rfl) (fun w' hw => ai rfl (ev rfl)) ?_
  simp only [Act.put, aa, ac, ae]
  refine ao (ag rfl rfl rfl rfl) (fun w' hw => aT rfl (ev rfl)) ?_
  simp only [Act.put, aa, ac, ae]
  refine ao (ag rfl rfl rfl rfl) (fun w' hw => aj rfl (ev rfl) faRh3) ?_
  simp only [Act.put, aa, ac, ae]
  refine ao (ag rfl rfl rfl rfl) (fun w' hw => aK rfl (ev rfl) (HD.out.below hw).r3) ?_
  simp only [Act.put, aa, ac, ae]
  refine a7 (ag rfl rfl rfl rfl) (fun _ => am Tryz.call22 rfl (evc (ev rfl) (evc (ev rfl) evn))) (aM (Nat.le_refl _) fun w' hw => rros_t h.R w') ?_
  simp only [Act.put, aa, ac, ae]
  refine ao (v := .bool false) (ag rfl rfl rfl rfl) (fun w' hw => aB true rfl (ev rfl)) ?_
  simp only [Act.put, aa, ac, ae]
  refine ao (v := .bool false) rfl (fun w' hw => az rfl (ev rfl) (ev rfl)) ?_
  simp only [Act.put, aa, ac, ae]
  refine ao (v := .bool false) rfl (fun w' hw => ai rfl (ev rfl)) ?_
  simp only [Act.put, aa, ac, ae]
  refine ao (ag rfl rfl rfl rfl) (fun w' hw => ai rfl (ev rfl)) ?_
  simp only [Act.put, aa, ac, ae]
  refine a7 (ag rfl rfl rfl rfl) (fun _ => am Tryz.call30 rfl (evc (ev rfl) evn)) (aM (Nat.le_refl _) fun w' hw => HAt.id_ (HA.out.below hw)) ?_
  simp only [Act.put, aa, ac, ae]
  refine ao (ag rfl rfl rfl rfl) (fun w' hw => ai rfl (ev rfl)) ?_
  simp only [Act.put, aa, ac, ae]
  refine ao (ag rfl rfl rfl rfl) (fun w' hw => aT rfl (ev rfl)) ?_
  simp only [Act.put, aa, ac, ae]
  refine ao (ag rfl rfl rfl rfl) (fun w' hw => aj rfl (ev rfl) faRh1) ?_
  simp only [Act.put, aa, ac, ae]
  refine ao (ag rfl rfl rfl rfl) (fun w' hw => aq rfl (ev rfl) (ldU64 (HD.out.below hw).c1)) ?_
  simp only [Act.put, aa, ac, ae]
  refine ao (v := .bool false) (ag rfl rfl rfl rfl) (fun w' hw => ax false rfl (ev rfl) (ev rfl) (bne_self_eq_false _)) ?_
  simp only [Act.put, aa, ac, ae]
  refine ao (v := .bool false) rfl (fun w' hw => az rfl (ev rfl) (ev rfl)) ?_
  simp only [Act.put, aa, ac, ae]
  refine ao (v := .bool false) rfl (fun w' hw => ai rfl (ev rfl)) ?_
  simp only [Act.put, aa, ac, ae]
  refine ao (ag rfl rfl rfl rfl) (fun w' hw => ai rfl (ev rfl)) ?_
  simp only [Act.put, aa, ac, ae]
  refine a7 (ag rfl rfl rfl rfl) (fun _ => am Tryz.call31 rfl (evc (ev rfl) evn)) (aM (Nat.le_refl _) fun w' hw => HAt.state (HA.out.below hw)) ?_
  simp only [Act.put, aa, ac, ae]
  refine ao (ag rfl rfl rfl rfl) (fun w' hw => ai rfl (ev rfl)) ?_
  simp only [Act.put, aa, ac, ae]
  refine ao (ag rfl rfl rfl rfl) (fun w' hw => aT rfl (ev rfl)) ?_
  simp only [Act.put, aa, ac, ae]
  refine ao (ag rfl rfl rfl rfl) (fun w' hw => aj rfl (ev rfl) faRh3) ?_
  simp only [Act.put, aa, ac, ae]
  refine ao (ag rfl rfl rfl rfl) (fun w' hw => aK rfl (ev rfl) (HD.out.below hw).r3) ?_
  simp only [Act.put, aa, ac, ae]
  refine a7 (ag rfl rfl rfl rfl) (fun _ => am Tryz.call41 rfl (evc (ev rfl) evn)) (aM (Nat.le_refl _) fun w' hw => rstate h.R w') ?_
  simp only [Act.put, aa, ac, ae]
  refine ao (v := .bool false) (ag rfl rfl rfl rfl) (fun w' hw => ax false rfl (ev rfl) (ev rfl) (bne_self_eq_false _)) ?_
  simp only [Act.put, aa, ac, ae]
  refine ao (v := .bool false) rfl (fun w' hw => az rfl (ev rfl) (ev rfl)) ?_
  simp only [Act.put, aa, ac, ae]
  refine ao (v := .bool false) rfl (fun w' hw => ai rfl (ev rfl)) ?_
  simp only [Act.put, aa, ac, ae]
  refine ao (ag rfl rfl rfl rfl) (fun w' hw => ai rfl (ev rfl)) ?_
  simp only [Act.put, aa, ac, ae]
  refine a7 (ag rfl rfl rfl rfl) (fun _ => am Tryz.call42 rfl (evc (ev rfl) evn)) (aM (Nat.le_refl _) fun w' hw => HAt.look (HA.out.below hw) C.R.bL) ?_
  simp only [Act.put, aa, ac, ae]
  refine ao (ag rfl rfl rfl rfl) (fun w' hw => ai rfl (ev rfl)) ?_
  simp only [Act.put, aa, ac, ae]
  refine ao (ag rfl rfl rfl rfl) (fun w' hw => aT rfl (ev rfl)) ?_
  simp only [Act.put, aa, ac, ae]
  refine ao (ag rfl rfl rfl rfl) (fun w' hw => aj rfl (ev rfl) faRh0) ?_
  simp only [Act.put, aa, ac, ae]
  refine ao (ag rfl rfl rfl rfl) (fun w' hw => aq rfl (ev rfl) (ldRb (HD.out.below hw).c0)) ?_
  simp only [Act.put, aa, ac, ae]
  refine a7 (ag rfl rfl rfl rfl) (fun _ => am Tryz.call43 rfl (evc (ev rfl) evn)) (aM (Nat.le_refl _) fun w' hw => bp.bL (bp.below HB.out hw)) ?_
  simp only [Act.put, aa, ac, ae]
  refine ao (v := .bool false) (ag rfl rfl rfl rfl) (fun w' hw => exec_neBoolS false rfl (ev rfl) (ev rfl) (bne_self_eq_false _)) ?_
  simp only [Act.put, aa, ac, ae]
  refine ao (v := .bool false) rfl (fun w' hw => az rfl (ev rfl) (ev rfl)) ?_
  simp only [Act.put, aa, ac, ae]
  refine ao (v := .bool false) rfl (fun w' hw => ai rfl (ev rfl)) ?_
  simp only [Act.put, aa, ac, ae]
  refine ao (ag rfl rfl rfl rfl) (fun w' hw => ai rfl (ev rfl)) ?_
  simp only [Act.put, aa, ac, ae]
  refine a7 (ag rfl rfl rfl rfl) (fun _ => am Tryz.call12 rfl (evc (ev rfl) evn)) (aM (Nat.le_refl _) fun w' hw => HAt.look (HA.out.below hw) C.R.steps) ?_
  simp only [Act.put, aa, ac, ae]
  refine ao (ag rfl rfl rfl rfl) (fun w' hw => ai rfl (ev rfl)) ?_
  simp only [Act.put, aa, ac, ae]
  refine ao (ag rfl rfl rfl rfl) (fun w' hw => aT rfl (ev rfl)) ?_
  simp only [Act.put, aa, ac, ae]
  refine ao (ag rfl rfl rfl rfl) (fun w' hw => aj rfl (ev rfl) faRh0) ?_
  simp only [Act.put, aa, ac, ae]
  refine ao (ag rfl rfl rfl rfl) (fun w' hw => aq rfl (ev rfl) (ldRb (HD.out.below hw).c0)) ?_
  simp only [Act.put, aa, ac, ae]
  refine a7 (ag rfl rfl rfl rfl) (fun _ => am Tryz.call44 rfl (evc (ev rfl) evn)) (aM (Nat.le_refl _) fun w' hw => bp.steps (bp.below HB.out hw)) ?_
  simp only [Act.put, aa, ac, ae]
  refine ao (v := .bool false) (ag rfl rfl rfl rfl) (fun w' hw => ax false rfl (ev rfl) (ev rfl) (bne_self_eq_false _)) ?_
  simp only [Act.put, aa, ac, ae]
  refine ao (v := .bool false) rfl (fun w' hw => az rfl (ev rfl) (ev rfl)) ?_
  simp only [Act.put, aa, ac, ae]
  refine wpQuiet_nil ?_
  intro w2 hw
  have HW2 := Lib.hid hw
  clear hw
  go_wp2_with fail
  go_loopw [7] (fun z wr => ∃ i : Nat, z = .int .i64 i ∧ i ≤ h.M.ds.length ∧ Below w.heap.size w wr) (fun z _ => h.M.ds.length - (intOf z).toNat)
  case atStart => exact ⟨0, by go_num, Nat.zero_le _, HW2.out⟩
  case round =>
    obtain ⟨i, rfl, hi, hb⟩ := hrel
    have HW := Lib.hid hb
    have HD1 := Lib.hid (HD.out.below hb)
    have HE1 := Lib.hid (bp.below HB.out hb)
    clear hb
    by_cases hlt : i < h.M.ds.length
    rotate_left 1
    · have HT : Hid (decide ((i : Int) < (h.M.ds.length : Int)) = false) := Lib.hid (decide_eq_false (by omega))
      clear hi hlt
      go_upto_region 4 with fail
      refine wp_region_lit ?_
      refine af rfl (ai rfl (ev rfl)) ?_
      simp only [Act.put, aa, ac, ae]
      refine af rfl (ai rfl (ev rfl)) ?_
      simp only [Act.put, aa, ac, ae]
      refine af rfl (aT rfl (ev rfl)) ?_
      simp only [Act.put, aa, ac, ae]
      refine af rfl (aj rfl (ev rfl) faRh0) ?_
      simp only [Act.put, aa, ac, ae]
      refine af rfl (aq rfl (ev rfl) (ldRb HD1.out.c0)) ?_
      simp only [Act.put, aa, ac, ae]
      refine al rfl (am Tryz.call39 rfl (evc (ev rfl) evn)) ?_
      refine (bp.devices HE1.out).mono ?_
      rintro e w3 ⟨rfl, b3⟩
      have HW3 := Lib.hid (HW.out.trans (b3.mono HW.out.size))
      clear b3
      refine ⟨_, rfl, ?_⟩
      simp only [Act.put, aa, ac, ae]
      refine af (v := .bool false) rfl (bk false rfl (ev rfl) (ev rfl) HT.out) ?_
      simp only [Act.put, aa, ac, ae]
      refine wpList_nil ?_
      go_wp2_with fail
      go_ret
      exact ⟨rfl, HW3.out⟩
    have HT : Hid (decide ((i : Int) < (h.M.ds.length : Int)) = true) := Lib.hid (decide_eq_true (by omega))
    have HI := Lib.hid hlt
    have HIA : Hid (IntKind.i64.wrap ((i : Int) + 1) = ((i + 1 : Nat) : Int)) := Lib.hid (by have := HL17.out; rw [i64q_ ⟨by omega, by omega⟩]; omega)
    clear hi hlt
    go_upto_region 4 with fail
    refine wp_region_lit ?_
    refine af rfl (ai rfl (ev rfl)) ?_
    simp only [Act.put, aa, ac, ae]
    refine af rfl (ai rfl (ev rfl)) ?_
    simp only [Act.put, aa, ac, ae]
    refine af rfl (aT rfl (ev rfl)) ?_
    simp only [Act.put, aa, ac, ae]
    refine af rfl (aj rfl (ev rfl) faRh0) ?_
    simp only [Act.put, aa, ac, ae]
    refine af rfl (aq rfl (ev rfl) (ldRb HD1.out.c0)) ?_
    simp only [Act.put, aa, ac, ae]
    refine al rfl (am Tryz.call39 rfl (evc (ev rfl) evn)) ?_
    refine (bp.devices HE1.out).mono ?_
    rintro e w3 ⟨rfl, b3⟩
    have HW3 := Lib.hid (HW.out.trans (b3.mono HW.out.size))
    clear b3
    refine ⟨_, rfl, ?_⟩
    simp only [Act.put, aa, ac, ae]
    refine af (v := .bool true) rfl (bk true rfl (ev rfl) (ev rfl) HT.out) ?_
    simp only [Act.put, aa, ac, ae]
    refine wpList_nil ?_
    go_wp2_with fail
    go_loopw [8] (fun z wr => ∃ n : Nat, z = .int .i64 n ∧ n ≤ 12 ∧ Below w.heap.size w wr) (fun z _ => 12 - (intOf z).toNat)
    case atStart => exact ⟨0, by go_num, Nat.zero_le _, HW3.out⟩
    case round =>
      obtain ⟨n, rfl, hn, hb⟩ := hrel
      have HV := Lib.hid hb
      have HD4 := Lib.hid (HD.out.below hb)
      have HE4 := Lib.hid (bp.below HB.out hb)
      clear hb
      by_cases hl1 : (n : Int) < seN6 h.M (i : Int)
      rotate_left 1
      · have HL1 : Hid (decide ((n : Int) < seN6 h.M (i : Int)) = false) := Lib.hid (decide_eq_false hl1)
        clear hl1 hn
        go_upto_region 7 with fail
        refine wp_region_lit ?_
        refine af rfl (ai rfl (ev rfl)) ?_
        simp only [Act.put, aa, ac, ae]
        refine af rfl (ai rfl (ev rfl)) ?_
        simp only [Act.put, aa, ac, ae]
        refine af rfl (aT rfl (ev rfl)) ?_
        simp only [Act.put, aa, ac, ae]
        refine af rfl (aj rfl (ev rfl) faRh0) ?_
        simp only [Act.put, aa, ac, ae]
        refine af rfl (aq rfl (ev rfl) (ldRb HD4.out.c0)) ?_
        simp only [Act.put, aa, ac, ae]
        refine af rfl (ai rfl (ev rfl)) ?_
        simp only [Act.put, aa, ac, ae]
        refine al rfl (am Tryz.call40 rfl (evc (ev rfl) (evc (ev rfl) evn))) ?_
        refine (bp.cx (i : Int) HE4.out).mono ?_
        rintro e w4 ⟨rfl, b4⟩
        have HV4 := Lib.hid (HV.out.trans (b4.mono HV.out.size))
        clear b4
        refine ⟨_, rfl, ?_⟩
        simp only [Act.put, aa, ac, ae]
        refine af (v := .bool false) rfl (bk false rfl (ev rfl) (ev rfl) HL1.out) ?_
        simp only [Act.put, aa, ac, ae]
        refine aD 2 (v := .bool false) rfl (ai rfl (ev rfl)) (by kernel_rfl) ?_
        simp only [aQ, List.take_succ_cons, List.take_zero, List.drop_succ_cons, List.drop_zero, Act.put, List.setIfInBounds_toArray, List.set_cons_succ, List.set_cons_zero]
        refine af (v := .bool false) rfl (az rfl (ev rfl) evk) ?_
        simp only [Act.put, aa, ac, ae]
        refine wpList_nil ?_
        go_upto_region 5 with fail
        refine wp_region_lit ?_
        refine af rfl (ai rfl (ev rfl)) ?_
        simp only [Act.put, aa, ac, ae]
        refine af rfl (bw rfl (ev rfl) evk HIA.out) ?_
        simp only [Act.put, aa, ac, ae]
        refine af rfl (ak rfl (ev rfl)) ?_
        simp only [Act.put, aa, ac, ae]
        refine wpList_nil ?_
        go_wp2_with fail
        go_roundw
        case rel => exact ⟨i + 1, by go_num, HI.out, HV4.out⟩
        case measure => have := HI.out; simp [intOf]; omega
      have HL1 : Hid (decide ((n : Int) < seN6 h.M (i : Int)) = true) := Lib.hid (decide_eq_true hl1)
      by_cases hl2 : n < 12
      rotate_left 1
      · have HL2 : Hid (decide ((n : Int) < (12 : Int)) = false) := Lib.hid (decide_eq_false (by omega))
        clear hl1 hl2 hn
        go_upto_region 7 with fail
        refine wp_region_lit ?_
        refine af rfl (ai rfl (ev rfl)) ?_
        simp only [Act.put, aa, ac, ae]
        refine af rfl (ai rfl (ev rfl)) ?_
        simp only [Act.put, aa, ac, ae]
        refine af rfl (aT rfl (ev rfl)) ?_
        simp only [Act.put, aa, ac, ae]
        refine af rfl (aj rfl (ev rfl) faRh0) ?_
        simp only [Act.put, aa, ac, ae]
        refine af rfl (aq rfl (ev rfl) (ldRb HD4.out.c0)) ?_
        simp only [Act.put, aa, ac, ae]
        refine af rfl (ai rfl (ev rfl)) ?_
        simp only [Act.put, aa, ac, ae]
        refine al rfl (am Tryz.call40 rfl (evc (ev rfl) (evc (ev rfl) evn))) ?_
        refine (bp.cx (i : Int) HE4.out).mono ?_
        rintro e w4 ⟨rfl, b4⟩
        have HV4 := Lib.hid (HV.out.trans (b4.mono HV.out.size))
        clear b4
        refine ⟨_, rfl, ?_⟩
        simp only [Act.put, aa, ac, ae]
        refine af (v := .bool true) rfl (bk true rfl (ev rfl) (ev rfl) HL1.out) ?_
        simp only [Act.put, aa, ac, ae]
        refine af (v := .bool true) rfl (ai rfl (ev rfl)) ?_
        simp only [Act.put, aa, ac, ae]
        refine ah (ag rfl rfl rfl rfl) (ai rfl (ev rfl)) ?_
        simp only [Act.put, aa, ac, ae]
        refine ah (v := .bool false) (ag rfl rfl rfl rfl) (bk false rfl (ev rfl) evk HL2.out) ?_
        simp only [Act.put, aa, ac, ae]
        refine af (v := .bool false) rfl (aF rfl (ev rfl) (ev rfl)) ?_
        simp only [Act.put, aa, ac, ae]
        refine wpList_nil ?_
        go_upto_region 5 with fail
        refine wp_region_lit ?_
        refine af rfl (ai rfl (ev rfl)) ?_
        simp only [Act.put, aa, ac, ae]
        refine af rfl (bw rfl (ev rfl) evk HIA.out) ?_
        simp only [Act.put, aa, ac, ae]
        refine af rfl (ak rfl (ev rfl)) ?_
        simp only [Act.put, aa, ac, ae]
        refine wpList_nil ?_
        go_wp2_with fail
        go_roundw
        case rel => exact ⟨i + 1, by go_num, HI.out, HV4.out⟩
        case measure => have := HI.out; simp [intOf]; omega
      have HL2 : Hid (decide ((n : Int) < (12 : Int)) = true) := Lib.hid (decide_eq_true (by omega))
      have HN12 := Lib.hid hl2
      have HNA : Hid (IntKind.i64.wrap ((n : Int) + 1) = ((n + 1 : Nat) : Int)) := Lib.hid (by rw [i64q_ ⟨by omega, by omega⟩]; omega)
      clear hl1 hl2 hn
      go_upto_region 7 with fail
      refine wp_region_lit ?_
      refine af rfl (ai rfl (ev rfl)) ?_
      simp only [Act.put, aa, ac, ae]
      refine af rfl (ai rfl (ev rfl)) ?_
      simp only [Act.put, aa, ac, ae]
      refine af rfl (aT rfl (ev rfl)) ?_
      simp only [Act.put, aa, ac, ae]
      refine af rfl (aj rfl (ev rfl) faRh0) ?_
      simp only [Act.put, aa, ac, ae]
      refine af rfl (aq rfl (ev rfl) (ldRb HD4.out.c0)) ?_
      simp only [Act.put, aa, ac, ae]
      refine af rfl (ai rfl (ev rfl)) ?_
      simp only [Act.put, aa, ac, ae]
      refine al rfl (am Tryz.call40 rfl (evc (ev rfl) (evc (ev rfl) evn))) ?_
      refine (bp.cx (i : Int) HE4.out).mono ?_
      rintro e w4 ⟨rfl, b4⟩
      have HV4 := Lib.hid (HV.out.trans (b4.mono HV.out.size))
      clear b4
      refine ⟨_, rfl, ?_⟩
      simp only [Act.put, aa, ac, ae]
      refine af (v := .bool true) rfl (bk true rfl (ev rfl) (ev rfl) HL1.out) ?_
      simp only [Act.put, aa, ac, ae]
      refine af (v := .bool true) rfl (ai rfl (ev rfl)) ?_
      simp only [Act.put, aa, ac, ae]
      refine ah (ag rfl rfl rfl rfl) (ai rfl (ev rfl)) ?_
      simp only [Act.put, aa, ac, ae]
      refine ah (v := .bool true) (ag rfl rfl rfl rfl) (bk true rfl (ev rfl) evk HL2.out) ?_
      simp only [Act.put, aa, ac, ae]
      refine af (v := .bool true) rfl (aF rfl (ev rfl) (ev rfl)) ?_
      simp only [Act.put, aa, ac, ae]
      refine wpList_nil ?_
      go_upto_region 9 with fail
      refine wp_region_lit ?_
      refine af rfl (ai rfl (ev rfl)) ?_
      simp only [Act.put, aa, ac, ae]
      refine af rfl (ai rfl (ev rfl)) ?_
      simp only [Act.put, aa, ac, ae]
      refine af rfl (ai rfl (ev rfl)) ?_
      simp only [Act.put, aa, ac, ae]
      refine al rfl (am Tryz.call20 rfl (evc (ev rfl) (evc (ev rfl) (evc (ev rfl) evn)))) ?_
      refine (HAt.look (HA.out.below HV4.out) fun hb => C.R.sure (i : Int) (n : Int) hb).mono ?_
      rintro e w5 ⟨rfl, b5⟩
      have HV5 := Lib.hid (HV4.out.trans (b5.mono HV4.out.size))
      clear b5
      refine ⟨_, rfl, ?_⟩
      simp only [Act.put, aa, ac, ae]
      refine af rfl (ai rfl (ev rfl)) ?_
      simp only [Act.put, aa, ac, ae]
      refine af rfl (aA rfl (ev rfl) rfl) ?_
      simp only [Act.put, aa, ac, ae]
      refine af rfl (aA rfl (ev rfl) rfl) ?_
      simp only [Act.put, aa, ac, ae]
      refine af rfl (a4 rfl) ?_
      simp only [Act.put, aa, ac, ae]
      refine ay rfl (dy (c := suB6 h.M (i : Int) (n : Int)) rfl (ev rfl) (ev rfl)) ?_
      simp only [Act.put, aa, ac, ae]
      have HX5 := Lib.hid ((Below.refl w5.heap.size w5).alloc (Nat.le_refl _) (.cells (cel (suB6 h.M (i : Int) (n : Int))).toArray 58))
      have HR6 := Lib.hid (heap_alloc_new w5 (.cells (cel (suB6 h.M (i : Int) (n : Int))).toArray 58))
      have HV6 := Lib.hid (HV5.out.trans (HX5.out.mono HV5.out.size))
      generalize w5.alloc (.cells (cel (suB6 h.M (i : Int) (n : Int))).toArray 58) = w6 at *
      refine af rfl (ak rfl (ev rfl)) ?_
      simp only [Act.put, aa, ac, ae]
      refine wpList_nil ?_
      have HD6 := Lib.hid (HD.out.below HV6.out)
      have HE6 := Lib.hid (bp.below HB.out HV6.out)
      go_upto_region 10 with fail
      refine wp_region_lit ?_
      refine af rfl (ai rfl (ev rfl)) ?_
      simp only [Act.put, aa, ac, ae]
      refine af rfl (aT rfl (ev rfl)) ?_
      simp only [Act.put, aa, ac, ae]
      refine af rfl (aj rfl (ev rfl) faRh0) ?_
      simp only [Act.put, aa, ac, ae]
      refine af rfl (aq rfl (ev rfl) (ldRb HD6.out.c0)) ?_
      simp only [Act.put, aa, ac, ae]
      refine af rfl (ai rfl (ev rfl)) ?_
      simp only [Act.put, aa, ac, ae]
      refine af rfl (ai rfl (ev rfl)) ?_
      simp only [Act.put, aa, ac, ae]
      refine al rfl (am Tryz.call45 rfl (evc (ev rfl) (evc (ev rfl) (evc (ev rfl) evn)))) ?_
      refine (bp.sure (i : Int) (n : Int) HE6.out).mono ?_
      rintro e w7 ⟨rfl, b7⟩
      have HV7 := Lib.hid (HV6.out.trans (b7.mono HV6.out.size))
      have HR7 := Lib.hid (ap HR6.out b7)
      clear b7
      refine ⟨_, rfl, ?_⟩
      simp only [Act.put, aa, ac, ae]
      refine af rfl (ai rfl (ev rfl)) ?_
      simp only [Act.put, aa, ac, ae]
      refine af rfl (aA rfl (ev rfl) rfl) ?_
      simp only [Act.put, aa, ac, ae]
      refine af rfl (aA rfl (ev rfl) rfl) ?_
      simp only [Act.put, aa, ac, ae]
      refine af rfl (a4 rfl) ?_
      simp only [Act.put, aa, ac, ae]
      refine ay rfl (dy (c := suB6 h.M (i : Int) (n : Int)) rfl (ev rfl) (ev rfl)) ?_
      simp only [Act.put, aa, ac, ae]
      have HX7 := Lib.hid ((Below.refl w7.heap.size w7).alloc (Nat.le_refl _) (.cells (cel (suB6 h.M (i : Int) (n : Int))).toArray 58))
      have HR8 := Lib.hid (ap HR7.out HX7.out)
      have HQ8 := Lib.hid (heap_alloc_new w7 (.cells (cel (suB6 h.M (i : Int) (n : Int))).toArray 58))
      have HV8 := Lib.hid (HV7.out.trans (HX7.out.mono HV7.out.size))
      generalize w7.alloc (.cells (cel (suB6 h.M (i : Int) (n : Int))).toArray 58) = w8 at *
      refine af rfl (ak rfl (ev rfl)) ?_
      simp only [Act.put, aa, ac, ae]
      refine wpList_nil ?_
      go_upto_region 11 with fail
      refine wp_region_lit ?_
      refine af rfl (bj rfl (ev rfl) (aU HR8.out)) ?_
      simp only [Act.put, aa, ac, ae]
      refine af rfl (bj rfl (ev rfl) (aU HQ8.out)) ?_
      simp only [Act.put, aa, ac, ae]
      refine af (v := .bool false) rfl (exec_neqH false rfl (ev rfl) (ev rfl) (by simp)) ?_
      simp only [Act.put, aa, ac, ae]
      refine af (v := .bool false) rfl (ai rfl (ev rfl)) ?_
      simp only [Act.put, aa, ac, ae]
      refine ah (ag rfl rfl rfl rfl) (ai rfl (ev rfl)) ?_
      simp only [Act.put, aa, ac, ae]
      refine ah (ag rfl rfl rfl rfl) (ai rfl (ev rfl)) ?_
      simp only [Act.put, aa, ac, ae]
      refine ah (v := .bool false) (ag rfl rfl rfl rfl) (ax false rfl (ev rfl) (ev rfl) (bne_self_eq_false _)) ?_
      simp only [Act.put, aa, ac, ae]
      refine af (v := .bool false) rfl (az rfl (ev rfl) (ev rfl)) ?_
      simp only [Act.put, aa, ac, ae]
      refine wpList_nil ?_
      go_upto_region 8 with fail
      refine wp_region_lit ?_
      refine af rfl (ai rfl (ev rfl)) ?_
      simp only [Act.put, aa, ac, ae]
      refine af rfl (bw rfl (ev rfl) evk HNA.out) ?_
      simp only [Act.put, aa, ac, ae]
      refine af rfl (ak rfl (ev rfl)) ?_
      simp only [Act.put, aa, ac, ae]
      refine wpList_nil ?_
      go_wp2_with fail
      go_roundw
      case rel => exact ⟨n + 1, by go_num, HN12.out, HV8.out⟩
      case measure => have := HN12.out; simp [intOf]; omega
end
set_option maxHeartbeats 4000000 in
theorem whullNew (C : HulI) (A : Option Addr) (n c : Nat) (ks : List Int) (id en : Nat) (x : Ros) (w : World) (T : Tab w) (hr : RdE IntE w w.heap.size A n ks) (hn : n ≤ c) (hc : c ≤ maxLen) (hid : id < 18446744073709551616) (hev : en < 18446744073709551616) :
    Calls Tryz.prog 3 #[.slice A n c, .int .u64 (id : Int), .int .u64 (en : Int), ros x] w fun e w' => e = .returned (.bool true) ∧ Below w.heap.size w w' := by
  obtain ⟨w1, hw1⟩ : ∃ w1, w.alloc (.cells (aG x).toArray 28) = w1 := ⟨_, rfl⟩
  obtain ⟨hx, hb1, hlt⟩ := bQ w x
  rw [hw1] at hx hb1 hlt
  have HW1 := Lib.hid hw1
  have HX1 := Lib.hid hx
  have HB1 := Lib.hid hb1
  have HT1 := Lib.hid (T.below hb1)
  have HR1 := Lib.hid (hr.step hb1)
  have HL1 : Hid (Below w1.heap.size w1 w1) := Lib.hid (Below.refl _ _)
  have HNC := Lib.hid (And.intro hn hc)
  have HID := Lib.hid hid
  have HEV := Lib.hid hev
  clear hw1 hx hb1 hlt T hr hn hc hid hev
  go_enter Tryz.func3, Tryz.ntmps3
  go_upto_region 0 with fail
  refine wp_region_lit ?_
  refine af rfl (aE rfl (ev rfl)) ?_
  simp only [Act.put, aa, ac, ae]
  rw [HW1.out]
  refine af (v := .bool false) rfl (ak rfl evk) ?_
  simp only [Act.put, aa, ac, ae]
  refine wpList_nil ?_
  by_cases hok : newOk ks
  rotate_left 1
  · have HNO := Lib.hid hok
    clear hok
    go_upto_region 1 with fail
    refine wp_region_lit ?_
    refine af rfl (ai rfl (ev rfl)) ?_
    simp only [Act.put, aa, ac, ae]
    refine al rfl (am Tryz.call6 rfl (evc (ev rfl) evn)) ?_
    refine (C.R.new HR1.out HNC.out.1 HNC.out.2).mono ?_
    rintro e w2 ⟨b2, h2⟩
    obtain ⟨h2, _⟩ | ⟨_, rfl⟩ := h2
    · exact absurd h2 HNO.out
    have HB2 := Lib.hid (HB1.out.trans (b2.mono HB1.out.size))
    have HL2 := Lib.hid (HL1.out.trans (b2.mono HL1.out.size))
    have HX2 := Lib.hid (HX1.out.below (aJ HX1.out) b2)
    have HT2 := Lib.hid (HT1.out.below b2)
    have HR2 := Lib.hid (HR1.out.step b2)
    clear b2
    refine ⟨_, rfl, ?_⟩
    simp only [Act.put, aa, ac, ae]
    refine af rfl (ai rfl (ev rfl)) ?_
    simp only [Act.put, aa, ac, ae]
    refine af rfl (aA rfl (ev rfl) rfl) ?_
    simp only [Act.put, aa, ac, ae]
    refine af rfl (aA rfl (ev rfl) rfl) ?_
    simp only [Act.put, aa, ac, ae]
    refine af rfl (ak rfl (ev rfl)) ?_
    simp only [Act.put, aa, ac, ae]
    refine af rfl (ak rfl (ev rfl)) ?_
    simp only [Act.put, aa, ac, ae]
    refine wpList_nil ?_
    go_upto_region 2 with fail
    refine wp_region_lit ?_
    refine af rfl (ai rfl (ev rfl)) ?_
    simp only [Act.put, aa, ac, ae]
    refine al rfl (am Tryz.call7 rfl (evc (ev rfl) evn)) ?_
    refine (bp.new HR2.out HNC.out.1 HNC.out.2).mono ?_
    rintro e w3 ⟨b3, h3⟩
    obtain ⟨h3, _⟩ | ⟨_, rfl⟩ := h3
    · exact absurd h3 HNO.out
    have HB3 := Lib.hid (HB2.out.trans (b3.mono HB2.out.size))
    have HL3 := Lib.hid (HL2.out.trans (b3.mono HL2.out.size))
    have HX3 := Lib.hid (HX2.out.below (aJ HX2.out) b3)
    have HT3 := Lib.hid (HT2.out.below b3)
    clear b3
    refine ⟨_, rfl, ?_⟩
    simp only [Act.put, aa, ac, ae]
    refine af rfl (ai rfl (ev rfl)) ?_
    simp only [Act.put, aa, ac, ae]
    refine af rfl (aA rfl (ev rfl) rfl) ?_
    simp only [Act.put, aa, ac, ae]
    refine af rfl (aA rfl (ev rfl) rfl) ?_
    simp only [Act.put, aa, ac, ae]
    refine af rfl (ak rfl (ev rfl)) ?_
    simp only [Act.put, aa, ac, ae]
    refine af rfl (ak rfl (ev rfl)) ?_
    simp only [Act.put, aa, ac, ae]
    refine wpList_nil ?_
    go_upto_region 3 with fail
    refine wp_region_lit ?_
    refine af rfl (ai rfl (ev rfl)) ?_
    simp only [Act.put, aa, ac, ae]
    refine af rfl (ai rfl (ev rfl)) ?_
    simp only [Act.put, aa, ac, ae]
    refine af (v := .bool false) rfl (ax false rfl (ev rfl) (ev rfl) rfl) ?_
    simp only [Act.put, aa, ac, ae]
    refine af (v := .bool false) rfl (ai rfl (ev rfl)) ?_
    simp only [Act.put, aa, ac, ae]
    refine ah (ag rfl rfl rfl rfl) (ai rfl (ev rfl)) ?_
    simp only [Act.put, aa, ac, ae]
    refine ah (v := .bool true) (ag rfl rfl rfl rfl) (ax true rfl (ev rfl) evk rfl) ?_
    simp only [Act.put, aa, ac, ae]
    refine af (v := .bool true) rfl (az rfl (ev rfl) (ev rfl)) ?_
    simp only [Act.put, aa, ac, ae]
    refine wpList_nil ?_
    go_upto_region 4 with fail
    refine wp_region_lit ?_
    refine af rfl (ai rfl (ev rfl)) ?_
    simp only [Act.put, aa, ac, ae]
    refine af rfl (ai rfl (ev rfl)) ?_
    simp only [Act.put, aa, ac, ae]
    refine af rfl (aK rfl (ev rfl) HX3.out.range) ?_
    simp only [Act.put, aa, ac, ae]
    refine al rfl (am Tryz.call8 rfl (evc evk (evc (ev rfl) (evc (ev rfl) (evc (ev rfl) evn))))) ?_
    refine (C.new_nil w3 id en x HID.out HEV.out).mono ?_
    rintro e w4 ⟨rfl, b4⟩
    have HB4 := Lib.hid (HB3.out.trans (b4.mono HB3.out.size))
    have HL4 := Lib.hid (HL3.out.trans (b4.mono HL3.out.size))
    have HX4 := Lib.hid (HX3.out.below (aJ HX3.out) b4)
    have HT4 := Lib.hid (HT3.out.below b4)
    clear b4
    refine ⟨_, rfl, ?_⟩
    simp only [Act.put, aa, ac, ae]
    refine af rfl (ai rfl (ev rfl)) ?_
    simp only [Act.put, aa, ac, ae]
    refine af rfl (aA rfl (ev rfl) rfl) ?_
    simp only [Act.put, aa, ac, ae]
    refine af rfl (aA rfl (ev rfl) rfl) ?_
    simp only [Act.put, aa, ac, ae]
    refine af rfl (ak rfl (ev rfl)) ?_
    simp only [Act.put, aa, ac, ae]
    refine af rfl (ak rfl (ev rfl)) ?_
    simp only [Act.put, aa, ac, ae]
    refine wpList_nil ?_
    go_upto_region 5 with fail
    refine wp_region_lit ?_
    refine af rfl (ai rfl (ev rfl)) ?_
    simp only [Act.put, aa, ac, ae]
    refine af rfl (ai rfl (ev rfl)) ?_
    simp only [Act.put, aa, ac, ae]
    refine af (v := .bool true) rfl (au true rfl (ev rfl) (ev rfl) rfl) ?_
    simp only [Act.put, aa, ac, ae]
    refine af (v := .bool true) rfl (ai rfl (ev rfl)) ?_
    simp only [Act.put, aa, ac, ae]
    refine ah (ag rfl rfl rfl rfl) (ai rfl (ev rfl)) ?_
    simp only [Act.put, aa, ac, ae]
    refine ah (v := .bool true) (ag rfl rfl rfl rfl) (au true rfl (ev rfl) evk rfl) ?_
    simp only [Act.put, aa, ac, ae]
    refine af (v := .bool true) rfl (aF rfl (ev rfl) (ev rfl)) ?_
    simp only [Act.put, aa, ac, ae]
    refine af (v := .bool true) rfl (ai rfl (ev rfl)) ?_
    simp only [Act.put, aa, ac, ae]
    refine al (ag rfl rfl rfl rfl) (am Tryz.call9 rfl evn) ?_
    refine (hlives C w4 HT4.out).mono ?_
    rintro e wz ⟨rfl, bz⟩
    have HZ := Lib.hid (HB4.out.trans (bz.mono HB4.out.size))
    clear bz
    refine ⟨_, rfl, ?_⟩
    simp only [Act.put, aa, ac, ae]
    refine af (v := .bool true) rfl (aF rfl (ev rfl) (ev rfl)) ?_
    simp only [Act.put, aa, ac, ae]
    refine af (v := .bool true) rfl (ak rfl (ev rfl)) ?_
    simp only [Act.put, aa, ac, ae]
    refine wpList_nil ?_
    go_wp2_with fail
    go_ret
    exact ⟨rfl, HZ.out⟩
  have HOK := Lib.hid hok
  clear hok
  go_upto_region 1 with fail
  refine wp_region_lit ?_
  refine af rfl (ai rfl (ev rfl)) ?_
  simp only [Act.put, aa, ac, ae]
  refine al rfl (am Tryz.call6 rfl (evc (ev rfl) evn)) ?_
  refine (C.R.new HR1.out HNC.out.1 HNC.out.2).mono ?_
  rintro e w2 ⟨b2, h2⟩
  obtain ⟨_, q, F, rfl, n2, f2⟩ | ⟨h2, _⟩ := h2
  rotate_left 1
  · exact absurd HOK.out h2
  have HB2 := Lib.hid (HB1.out.trans (b2.mono HB1.out.size))
  have HL2 := Lib.hid (HL1.out.trans (b2.mono HL1.out.size))
  have HX2 := Lib.hid (HX1.out.below (aJ HX1.out) b2)
  have HT2 := Lib.hid (HT1.out.below b2)
  have HR2 := Lib.hid (HR1.out.step b2)
  have HN2 := Lib.hid n2
  have HF2 : Hid (∀ b, F b → w1.heap.size ≤ b) := Lib.hid f2
  clear b2 n2 f2
  refine ⟨_, rfl, ?_⟩
  simp only [Act.put, aa, ac, ae]
  refine af rfl (ai rfl (ev rfl)) ?_
  simp only [Act.put, aa, ac, ae]
  refine af rfl (aA rfl (ev rfl) rfl) ?_
  simp only [Act.put, aa, ac, ae]
  refine af rfl (aA rfl (ev rfl) rfl) ?_
  simp only [Act.put, aa, ac, ae]
  refine af rfl (ak rfl (ev rfl)) ?_
  simp only [Act.put, aa, ac, ae]
  refine af rfl (ak rfl (ev rfl)) ?_
  simp only [Act.put, aa, ac, ae]
  refine wpList_nil ?_
  go_upto_region 2 with fail
  refine wp_region_lit ?_
  refine af rfl (ai rfl (ev rfl)) ?_
  simp only [Act.put, aa, ac, ae]
  refine al rfl (am Tryz.call7 rfl (evc (ev rfl) evn)) ?_
  refine (bp.new HR2.out HNC.out.1 HNC.out.2).mono ?_
  rintro e w3 ⟨b3, h3⟩
  obtain ⟨_, q3, F3, rfl, n3, f3⟩ | ⟨h3, _⟩ := h3
  rotate_left 1
  · exact absurd HOK.out h3
  have HB3 := Lib.hid (HB2.out.trans (b3.mono HB2.out.size))
  have HL3 := Lib.hid (HL2.out.trans (b3.mono HL2.out.size))
  have HX3 := Lib.hid (HX2.out.below (aJ HX2.out) b3)
  have HT3 := Lib.hid (HT2.out.below b3)
  have HN3 := Lib.hid (C.R.toBen.below HN2.out b3)
  have HD3 := Lib.hid n3
  clear b3 n3 f3
  refine ⟨_, rfl, ?_⟩
  simp only [Act.put, aa, ac, ae]
  refine af rfl (ai rfl (ev rfl)) ?_
  simp only [Act.put, aa, ac, ae]
  refine af rfl (aA rfl (ev rfl) rfl) ?_
  simp only [Act.put, aa, ac, ae]
  refine af rfl (aA rfl (ev rfl) rfl) ?_
  simp only [Act.put, aa, ac, ae]
  refine af rfl (ak rfl (ev rfl)) ?_
  simp only [Act.put, aa, ac, ae]
  refine af rfl (ak rfl (ev rfl)) ?_
  simp only [Act.put, aa, ac, ae]
  refine wpList_nil ?_
  go_upto_region 3 with fail
  refine wp_region_lit ?_
  refine af rfl (ai rfl (ev rfl)) ?_
  simp only [Act.put, aa, ac, ae]
  refine af rfl (ai rfl (ev rfl)) ?_
  simp only [Act.put, aa, ac, ae]
  refine af (v := .bool false) rfl (ax false rfl (ev rfl) (ev rfl) rfl) ?_
  simp only [Act.put, aa, ac, ae]
  refine af (v := .bool false) rfl (ai rfl (ev rfl)) ?_
  simp only [Act.put, aa, ac, ae]
  refine ah (ag rfl rfl rfl rfl) (ai rfl (ev rfl)) ?_
  simp only [Act.put, aa, ac, ae]
  refine ah (v := .bool false) (ag rfl rfl rfl rfl) (ax false rfl (ev rfl) evk rfl) ?_
  simp only [Act.put, aa, ac, ae]
  refine af (v := .bool false) rfl (az rfl (ev rfl) (ev rfl)) ?_
  simp only [Act.put, aa, ac, ae]
  refine wpList_nil ?_
  cases hh : hnwB (dq ks) id en x
  · have HH := Lib.hid hh
    clear hh
    go_upto_region 6 with fail
    refine wp_region_lit ?_
    refine af rfl (ai rfl (ev rfl)) ?_
    simp only [Act.put, aa, ac, ae]
    refine af rfl (ai rfl (ev rfl)) ?_
    simp only [Act.put, aa, ac, ae]
    refine af rfl (ai rfl (ev rfl)) ?_
    simp only [Act.put, aa, ac, ae]
    refine af rfl (aK rfl (ev rfl) HX3.out.range) ?_
    simp only [Act.put, aa, ac, ae]
    refine al rfl (am Tryz.call8 rfl (evc (ev rfl) (evc (ev rfl) (evc (ev rfl) (evc (ev rfl) evn))))) ?_
    refine (C.new_ id en x HID.out HEV.out HN3.out).mono ?_
    rintro e w4 ⟨b4, h4⟩
    obtain ⟨h4, _⟩ | ⟨_, rfl⟩ := h4
    · exact absurd (HH.out.symm.trans h4) (by decide)
    have HB4 := Lib.hid (HB3.out.trans (b4.mono HB3.out.size))
    have HL4 := Lib.hid (HL3.out.trans (b4.mono HL3.out.size))
    have HX4 := Lib.hid (HX3.out.below (aJ HX3.out) b4)
    have HT4 := Lib.hid (HT3.out.below b4)
    have HD4 := Lib.hid (bp.below HD3.out b4)
    clear b4
    refine ⟨_, rfl, ?_⟩
    simp only [Act.put, aa, ac, ae]
    refine af rfl (ai rfl (ev rfl)) ?_
    simp only [Act.put, aa, ac, ae]
    refine af rfl (aA rfl (ev rfl) rfl) ?_
    simp only [Act.put, aa, ac, ae]
    refine af rfl (aA rfl (ev rfl) rfl) ?_
    simp only [Act.put, aa, ac, ae]
    refine af rfl (ak rfl (ev rfl)) ?_
    simp only [Act.put, aa, ac, ae]
    refine af rfl (ak rfl (ev rfl)) ?_
    simp only [Act.put, aa, ac, ae]
    refine wpList_nil ?_
    go_upto_region 7 with fail
    refine wp_region_lit ?_
    refine af rfl (ai rfl (ev rfl)) ?_
    simp only [Act.put, aa, ac, ae]
    refine af rfl (ai rfl (ev rfl)) ?_
    simp only [Act.put, aa, ac, ae]
    refine af rfl (ai rfl (ev rfl)) ?_
    simp only [Act.put, aa, ac, ae]
    refine af rfl (aK rfl (ev rfl) HX4.out.range) ?_
    simp only [Act.put, aa, ac, ae]
    refine al rfl (am Tryz.call10 rfl (evc (ev rfl) (evc (ev rfl) (evc (ev rfl) (evc (ev rfl) evn))))) ?_
    refine (rhnew id en x w4 HD4.out).mono ?_
    rintro e w5 ⟨b5, h5⟩
    obtain ⟨h5, _⟩ | ⟨_, rfl⟩ := h5
    · exact absurd (HH.out.symm.trans h5) (by decide)
    have HB5 := Lib.hid (HB4.out.trans (b5.mono HB4.out.size))
    have HL5 := Lib.hid (HL4.out.trans (b5.mono HL4.out.size))
    have HX5 := Lib.hid (HX4.out.below (aJ HX4.out) b5)
    have HT5 := Lib.hid (HT4.out.below b5)
    clear b5
    refine ⟨_, rfl, ?_⟩
    simp only [Act.put, aa, ac, ae]
    refine af rfl (ai rfl (ev rfl)) ?_
    simp only [Act.put, aa, ac, ae]
    refine af rfl (aA rfl (ev rfl) rfl) ?_
    simp only [Act.put, aa, ac, ae]
    refine af rfl (aA rfl (ev rfl) rfl) ?_
    simp only [Act.put, aa, ac, ae]
    refine af rfl (ak rfl (ev rfl)) ?_
    simp only [Act.put, aa, ac, ae]
    refine af rfl (ak rfl (ev rfl)) ?_
    simp only [Act.put, aa, ac, ae]
    refine wpList_nil ?_
    go_upto_region 8 with fail
    refine wp_region_lit ?_
    refine af rfl (ai rfl (ev rfl)) ?_
    simp only [Act.put, aa, ac, ae]
    refine af rfl (ai rfl (ev rfl)) ?_
    simp only [Act.put, aa, ac, ae]
    refine af (v := .bool false) rfl (ax false rfl (ev rfl) (ev rfl) rfl) ?_
    simp only [Act.put, aa, ac, ae]
    refine af (v := .bool false) rfl (ai rfl (ev rfl)) ?_
    simp only [Act.put, aa, ac, ae]
    refine ah (ag rfl rfl rfl rfl) (ai rfl (ev rfl)) ?_
    simp only [Act.put, aa, ac, ae]
    refine ah (v := .bool true) (ag rfl rfl rfl rfl) (ax true rfl (ev rfl) evk rfl) ?_
    simp only [Act.put, aa, ac, ae]
    refine af (v := .bool true) rfl (az rfl (ev rfl) (ev rfl)) ?_
    simp only [Act.put, aa, ac, ae]
    refine wpList_nil ?_
    go_upto_region 9 with fail
    refine wp_region_lit ?_
    refine af rfl (ai rfl (ev rfl)) ?_
    simp only [Act.put, aa, ac, ae]
    refine af rfl (ai rfl (ev rfl)) ?_
    simp only [Act.put, aa, ac, ae]
    refine af (v := .bool true) rfl (au true rfl (ev rfl) (ev rfl) rfl) ?_
    simp only [Act.put, aa, ac, ae]
    refine af (v := .bool true) rfl (ai rfl (ev rfl)) ?_
    simp only [Act.put, aa, ac, ae]
    refine ah (ag rfl rfl rfl rfl) (ai rfl (ev rfl)) ?_
    simp only [Act.put, aa, ac, ae]
    refine ah (v := .bool true) (ag rfl rfl rfl rfl) (cR true Tryz.underlying36 rfl (ev rfl) evk rfl) ?_
    simp only [Act.put, aa, ac, ae]
    refine af (v := .bool true) rfl (aF rfl (ev rfl) (ev rfl)) ?_
    simp only [Act.put, aa, ac, ae]
    refine af (v := .bool true) rfl (ai rfl (ev rfl)) ?_
    simp only [Act.put, aa, ac, ae]
    refine al (ag rfl rfl rfl rfl) (am Tryz.call9 rfl evn) ?_
    refine (hlives C w5 HT5.out).mono ?_
    rintro e wz ⟨rfl, bz⟩
    have HZ := Lib.hid (HB5.out.trans (bz.mono HB5.out.size))
    clear bz
    refine ⟨_, rfl, ?_⟩
    simp only [Act.put, aa, ac, ae]
    refine af (v := .bool true) rfl (aF rfl (ev rfl) (ev rfl)) ?_
    simp only [Act.put, aa, ac, ae]
    refine af (v := .bool true) rfl (ak rfl (ev rfl)) ?_
    simp only [Act.put, aa, ac, ae]
    refine wpList_nil ?_
    go_wp2_with fail
    go_ret
    exact ⟨rfl, HZ.out⟩
  have HH := Lib.hid hh
  clear hh
  have HS3 : Hid (w1.heap.size ≤ w3.heap.size) := Lib.hid HL3.out.size
  go_upto_region 6 with fail
  refine wp_region_lit ?_
  refine af rfl (ai rfl (ev rfl)) ?_
  simp only [Act.put, aa, ac, ae]
  refine af rfl (ai rfl (ev rfl)) ?_
  simp only [Act.put, aa, ac, ae]
  refine af rfl (ai rfl (ev rfl)) ?_
  simp only [Act.put, aa, ac, ae]
  refine af rfl (aK rfl (ev rfl) HX3.out.range) ?_
  simp only [Act.put, aa, ac, ae]
  refine al rfl (am Tryz.call8 rfl (evc (ev rfl) (evc (ev rfl) (evc (ev rfl) (evc (ev rfl) evn))))) ?_
  refine (C.new_ id en x HID.out HEV.out HN3.out).mono ?_
  rintro e w4 ⟨b4, h4⟩
  obtain ⟨_, p, G, rfl, j4, g4⟩ | ⟨h4, _⟩ := h4
  rotate_left 1
  · exact absurd (HH.out.symm.trans h4) (by decide)
  have HB4 := Lib.hid (HB3.out.trans (b4.mono HB3.out.size))
  have HL4 := Lib.hid (HL3.out.trans (b4.mono HL3.out.size))
  have HX4 := Lib.hid (HX3.out.below (aJ HX3.out) b4)
  have HT4 := Lib.hid (HT3.out.below b4)
  have HD4 := Lib.hid (bp.below HD3.out b4)
  have HJ4 := Lib.hid j4
  have HGG : Hid (∀ b, G b → w1.heap.size ≤ b) := Lib.hid fun b hb => by
    rcases g4 b hb with e | e
    · exact HF2.out b e
    · exact Nat.le_trans HS3.out e
  clear b4 j4 g4
  refine ⟨_, rfl, ?_⟩
  simp only [Act.put, aa, ac, ae]
  refine af rfl (ai rfl (ev rfl)) ?_
  simp only [Act.put, aa, ac, ae]
  refine af rfl (aA rfl (ev rfl) rfl) ?_
  simp only [Act.put, aa, ac, ae]
  refine af rfl (aA rfl (ev rfl) rfl) ?_
  simp only [Act.put, aa, ac, ae]
  refine af rfl (ak rfl (ev rfl)) ?_
  simp only [Act.put, aa, ac, ae]
  refine af rfl (ak rfl (ev rfl)) ?_
  simp only [Act.put, aa, ac, ae]
  refine wpList_nil ?_
  go_upto_region 7 with fail
  refine wp_region_lit ?_
  refine af rfl (ai rfl (ev rfl)) ?_
  simp only [Act.put, aa, ac, ae]
  refine af rfl (ai rfl (ev rfl)) ?_
  simp only [Act.put, aa, ac, ae]
  refine af rfl (ai rfl (ev rfl)) ?_
  simp only [Act.put, aa, ac, ae]
  refine af rfl (aK rfl (ev rfl) HX4.out.range) ?_
  simp only [Act.put, aa, ac, ae]
  refine al rfl (am Tryz.call10 rfl (evc (ev rfl) (evc (ev rfl) (evc (ev rfl) (evc (ev rfl) evn))))) ?_
  refine (rhnew id en x w4 HD4.out).mono ?_
  rintro e w5 ⟨b5, h5⟩
  obtain ⟨_, p2, rfl, j5, _⟩ | ⟨h5, _⟩ := h5
  rotate_left 1
  · exact absurd (HH.out.symm.trans h5) (by decide)
  have HB5 := Lib.hid (HB4.out.trans (b5.mono HB4.out.size))
  have HL5 := Lib.hid (HL4.out.trans (b5.mono HL4.out.size))
  have HX5 := Lib.hid (HX4.out.below (aJ HX4.out) b5)
  have HT5 := Lib.hid (HT4.out.below b5)
  have HJ5 := Lib.hid (C.below HJ4.out b5)
  have HD5 := Lib.hid (bp.below HD4.out b5)
  have HQ5 := Lib.hid j5
  clear b5 j5
  refine ⟨_, rfl, ?_⟩
  simp only [Act.put, aa, ac, ae]
  refine af rfl (ai rfl (ev rfl)) ?_
  simp only [Act.put, aa, ac, ae]
  refine af rfl (aA rfl (ev rfl) rfl) ?_
  simp only [Act.put, aa, ac, ae]
  refine af rfl (aA rfl (ev rfl) rfl) ?_
  simp only [Act.put, aa, ac, ae]
  refine af rfl (ak rfl (ev rfl)) ?_
  simp only [Act.put, aa, ac, ae]
  refine af rfl (ak rfl (ev rfl)) ?_
  simp only [Act.put, aa, ac, ae]
  refine wpList_nil ?_
  go_upto_region 8 with fail
  refine wp_region_lit ?_
  refine af rfl (ai rfl (ev rfl)) ?_
  simp only [Act.put, aa, ac, ae]
  refine af rfl (ai rfl (ev rfl)) ?_
  simp only [Act.put, aa, ac, ae]
  refine af (v := .bool false) rfl (ax false rfl (ev rfl) (ev rfl) rfl) ?_
  simp only [Act.put, aa, ac, ae]
  refine af (v := .bool false) rfl (ai rfl (ev rfl)) ?_
  simp only [Act.put, aa, ac, ae]
  refine ah (ag rfl rfl rfl rfl) (ai rfl (ev rfl)) ?_
  simp only [Act.put, aa, ac, ae]
  refine ah (v := .bool false) (ag rfl rfl rfl rfl) (ax false rfl (ev rfl) evk rfl) ?_
  simp only [Act.put, aa, ac, ae]
  refine af (v := .bool false) rfl (az rfl (ev rfl) (ev rfl)) ?_
  simp only [Act.put, aa, ac, ae]
  refine wpList_nil ?_
  have HA5 : Hid (HAt C w1 w1.heap.size (fun _ => False) w5 q p ⟨dq ks, id, en, x⟩) := Lib.hid ⟨G, HJ5.out, HGG.out, HL5.out, HBas.start HT1.out, fun b hb => hb.elim⟩
  go_upto_region 10 with fail
  refine wp_region_lit ?_
  refine af rfl (ai rfl (ev rfl)) ?_
  simp only [Act.put, aa, ac, ae]
  refine af rfl (ai rfl (ev rfl)) ?_
  simp only [Act.put, aa, ac, ae]
  refine af rfl (ai rfl (ev rfl)) ?_
  simp only [Act.put, aa, ac, ae]
  refine al rfl (am Tryz.call11 rfl (evc (ev rfl) (evc (ev rfl) (evc (ev rfl) evn)))) ?_
  refine (l_halike w5 HA5.out HQ5.out HD5.out).mono ?_
  rintro e w6 ⟨rfl, b6⟩
  have HB6 := Lib.hid (HB5.out.trans (b6.mono HB5.out.size))
  have HL6 := Lib.hid (HL5.out.trans (b6.mono HL5.out.size))
  have HX6 := Lib.hid (HX5.out.below (aJ HX5.out) b6)
  have HT6 := Lib.hid (HT5.out.below b6)
  have HA6 := Lib.hid (HAt.below HA5.out b6)
  clear b6
  refine ⟨_, rfl, ?_⟩
  simp only [Act.put, aa, ac, ae]
  refine af (v := .bool true) rfl (ai rfl (ev rfl)) ?_
  simp only [Act.put, aa, ac, ae]
  refine ah (ag rfl rfl rfl rfl) (ai rfl (ev rfl)) ?_
  simp only [Act.put, aa, ac, ae]
  refine al (ag rfl rfl rfl rfl) (am Tryz.call12 rfl (evc (ev rfl) evn)) ?_
  refine (HAt.look HA6.out C.R.steps).mono ?_
  rintro e w7 ⟨rfl, b7⟩
  have HB7 := Lib.hid (HB6.out.trans (b7.mono HB6.out.size))
  have HL7 := Lib.hid (HL6.out.trans (b7.mono HL6.out.size))
  have HX7 := Lib.hid (HX6.out.below (aJ HX6.out) b7)
  have HT7 := Lib.hid (HT6.out.below b7)
  clear b7
  rw [show (HuS.mk (dq ks) id en x).M.steps = 0 from rfl]
  refine ⟨_, rfl, ?_⟩
  simp only [Act.put, aa, ac, ae]
  refine ah (v := .bool true) (ag rfl rfl rfl rfl) (au true rfl (ev rfl) evk rfl) ?_
  simp only [Act.put, aa, ac, ae]
  refine af (v := .bool true) rfl (aF rfl (ev rfl) (ev rfl)) ?_
  simp only [Act.put, aa, ac, ae]
  refine af (v := .bool true) rfl (ai rfl (ev rfl)) ?_
  simp only [Act.put, aa, ac, ae]
  refine al (ag rfl rfl rfl rfl) (am Tryz.call9 rfl evn) ?_
  refine (hlives C w7 HT7.out).mono ?_
  rintro e wz ⟨rfl, bz⟩
  have HZ := Lib.hid (HB7.out.trans (bz.mono HB7.out.size))
  clear bz
  refine ⟨_, rfl, ?_⟩
  simp only [Act.put, aa, ac, ae]
  refine af (v := .bool true) rfl (aF rfl (ev rfl) (ev rfl)) ?_
  simp only [Act.put, aa, ac, ae]
  refine af (v := .bool true) rfl (ak rfl (ev rfl)) ?_
  simp only [Act.put, aa, ac, ae]
  refine wpList_nil ?_
  go_wp2_with fail
  go_ret
  exact ⟨rfl, HZ.out⟩
section
variable {id ev : Nat} {R : Ros} {M : BenS} {k m : Nat} {h : HuS} {d : Int}
theorem ct {n : Nat} (h : Room M n) (hm : m ≤ n) : Room M m := ⟨by have := h.1; omega, h.2.1, fun d hd => by have := h.2.2 d hd; omega⟩
theorem rm_stp (h : Room M (k + 1)) (s : Stp) : Room (stpS d M s) k := by
  cases s with
  | wr n b => exact room_wr h d n b
  | fl => exact room_fl h d
theorem rm_go (l : List Stp) : ∀ {M : BenS}, Room M (k + l.length) → Room (goB d M l) k := by
  induction l with
  | nil => intro M h; exact h
  | cons s l ih =>
    intro M h
    rw [List.length_cons] at h
    have h1 := rm_stp (d := d) (k := k + l.length) h s
    rw [goB]
    split
    · exact ih h1
    · exact ct h1 (by omega)
theorem rm_put (h : Room M (k + 2)) : Room (cp id ev R M m) k := by
  unfold cp
  split
  · exact rm_go _ h
  · exact ct h (by omega)
theorem rm_once : ∀ (n m : Nat) (M : BenS), Room M (k + 2 * n) → Room (bY id ev R n m M).2.2 k
  | 0, m, M, h => h
  | n + 1, m, M, h => by
    have h1 : Room (cp id ev R M m) (k + 2 * n) := rm_put (ct h (by omega))
    rw [bY]
    split
    · exact rm_once n (m + 1) M (ct h (by omega))
    · split
      · exact ct h1 (by omega)
      · split
        · exact rm_once n (m + 1) _ h1
        · exact ct h1 (by omega)
theorem fine_m (hf : aH R = true) : R.m.toNat ≤ 16 := by
  unfold aH at hf
  simp only [Bool.and_eq_true] at hf
  have := dn hf.1.1.1
  omega
end
end Go.Proofs.YtnliphgjcaippaaGreatDoor
