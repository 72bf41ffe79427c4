/-
  GeomTells' walk.
-/
import Derived.Test.YthephlgdjbdaoaaGeoJ
namespace Go.Proofs.Ythephlgdjbdaoaa
open Go.RowKit
set_option linter.unusedVariables false

theorem exec_neb {ρ : Operand → Value} {o : Oper} {x y : Operand} {w : World} {r : TypeId} {b : Bool} (ho : o.op = .binOp .neq 4 x y r) (hx : ρ x = .bool b) (hy : ρ y = .bool b) : (execOp ρ o).run Try.prog w = .ok (.value (.bool false)) w := by
  have he := run_equalIn_bool' (P := Try.prog) w 9999 4 b b Try.underlying4
  unfold execOp
  simp [ho, hx, hy, eqGuard, binOp, Op.equal, Op.maxDepth, he]
set_option maxHeartbeats 4000000 in
theorem tells_walk (m s r n t ps pm : Int) (w : World) : Calls Try.prog 3 #[geoV m s r, .int .i64 n, .int .i64 t, placeV ps pm] w fun e w' => e = .returned (.bool true) ∧ Below w.heap.size w w' := by
  unfold geoV placeV
  go_enter Try.func3, Try.ntmps3
  go_wp2_with fail
  refine (parity_prog m s r t _).mono ?_
  rintro e w1 ⟨rfl, hb1⟩
  obtain ⟨K1, P1, hs, B1⟩ := behind_gp hb1 (new1 ..) (new2 ..)
  obtain ⟨c0, c1, c2⟩ := cells3 K1.out
  clear hb1 hs
  go_wp2_with fail
  refine (parity_ref m s r t w1).mono ?_
  rintro e w2 ⟨rfl, hb2⟩
  have K2 := Lib.hid (blk_keep K1.out hb2)
  have P2 := Lib.hid (blk_keep P1.out hb2)
  have B2 := Lib.hid (B1.out.trans (hb2.mono B1.out.size))
  clear hb2 c0 c1 c2 K1 P1 B1
  go_wp2_with fail
  have CC := fun (w' : World) (hw : Below w2.heap.size w2 w') => cells3 (blk_keep K2.out hw)
  refine wp_region_above (B := w2.heap.size) (by kernel_rfl) ?_
  refine qv_val rfl (fun w' hw => exec_ld rfl (ev rfl) (ldG (CC w' hw).1 (CC w' hw).2.1 (CC w' hw).2.2)) ?_
  simp only [Act.put, List.setIfInBounds_toArray, List.set_cons_succ, List.set_cons_zero]
  refine qv_call rfl (fun _ => exec_cl Try.call10 rfl (evc (ev rfl) evn)) (above_of (Nat.le_refl _) fun w' hw => may_prog m s r w') ?_
  simp only [Act.put, List.setIfInBounds_toArray, List.set_cons_succ, List.set_cons_zero]
  refine qv_val rfl (fun w' hw => exec_ld rfl (ev rfl) (ldG (CC w' hw).1 (CC w' hw).2.1 (CC w' hw).2.2)) ?_
  simp only [Act.put, List.setIfInBounds_toArray, List.set_cons_succ, List.set_cons_zero]
  refine qv_call rfl (fun _ => exec_cl Try.call11 rfl (evc (ev rfl) evn)) (above_of (Nat.le_refl _) fun w' hw => may_ref m s r w') ?_
  simp only [Act.put, List.setIfInBounds_toArray, List.set_cons_succ, List.set_cons_zero]
  refine qv_val rfl (fun w' hw => exec_neb rfl (ev rfl) (ev rfl)) ?_
  simp only [Act.put, List.setIfInBounds_toArray, List.set_cons_succ, List.set_cons_zero]
  refine qv_val rfl (fun w' hw => exec_mv rfl (ev rfl)) ?_
  simp only [Act.put, List.setIfInBounds_toArray, List.set_cons_succ, List.set_cons_zero]
  refine qv_val (wanted_of rfl rfl rfl rfl) (fun w' hw => exec_ld rfl (ev rfl) (ldG (CC w' hw).1 (CC w' hw).2.1 (CC w' hw).2.2)) ?_
  simp only [Act.put, List.setIfInBounds_toArray, List.set_cons_succ, List.set_cons_zero]
  refine qv_call (wanted_of rfl rfl rfl rfl) (fun _ => exec_cl Try.call12 rfl (evc (ev rfl) evn)) (above_of (Nat.le_refl _) fun w' hw => blocks_prog m s r w') ?_
  simp only [Act.put, List.setIfInBounds_toArray, List.set_cons_succ, List.set_cons_zero]
  refine qv_val (wanted_of rfl rfl rfl rfl) (fun w' hw => exec_ld rfl (ev rfl) (ldG (CC w' hw).1 (CC w' hw).2.1 (CC w' hw).2.2)) ?_
  simp only [Act.put, List.setIfInBounds_toArray, List.set_cons_succ, List.set_cons_zero]
  refine qv_call (wanted_of rfl rfl rfl rfl) (fun _ => exec_cl Try.call13 rfl (evc (ev rfl) evn)) (above_of (Nat.le_refl _) fun w' hw => blocks_ref m s r w') ?_
  simp only [Act.put, List.setIfInBounds_toArray, List.set_cons_succ, List.set_cons_zero]
  refine qv_val (wanted_of rfl rfl rfl rfl) (fun w' hw => exec_neInt false rfl (ev rfl) (ev rfl) (bne_self_eq_false _)) ?_
  simp only [Act.put, List.setIfInBounds_toArray, List.set_cons_succ, List.set_cons_zero]
  refine qv_val rfl (fun w' hw => exec_pf rfl (ev rfl) (ev rfl)) ?_
  simp only [Act.put, List.setIfInBounds_toArray, List.set_cons_succ, List.set_cons_zero]
  refine qv_val rfl (fun w' hw => exec_mv rfl (ev rfl)) ?_
  simp only [Act.put, List.setIfInBounds_toArray, List.set_cons_succ, List.set_cons_zero]
  refine qv_val (wanted_of rfl rfl rfl rfl) (fun w' hw => exec_mv rfl (ev rfl)) ?_
  simp only [Act.put, List.setIfInBounds_toArray, List.set_cons_succ, List.set_cons_zero]
  refine qv_val (wanted_of rfl rfl rfl rfl) (fun w' hw => exec_mv rfl (ev rfl)) ?_
  simp only [Act.put, List.setIfInBounds_toArray, List.set_cons_succ, List.set_cons_zero]
  refine qv_val (wanted_of rfl rfl rfl rfl) (fun w' hw => exec_neInt false rfl (ev rfl) (ev rfl) (bne_self_eq_false _)) ?_
  simp only [Act.put, List.setIfInBounds_toArray, List.set_cons_succ, List.set_cons_zero]
  refine qv_val rfl (fun w' hw => exec_pf rfl (ev rfl) (ev rfl)) ?_
  simp only [Act.put, List.setIfInBounds_toArray, List.set_cons_succ, List.set_cons_zero]
  refine qv_val rfl (fun w' hw => exec_mv rfl (ev rfl)) ?_
  simp only [Act.put, List.setIfInBounds_toArray, List.set_cons_succ, List.set_cons_zero]
  refine qv_val (wanted_of rfl rfl rfl rfl) (fun w' hw => exec_mv rfl (ev rfl)) ?_
  simp only [Act.put, List.setIfInBounds_toArray, List.set_cons_succ, List.set_cons_zero]
  refine qv_val (wanted_of rfl rfl rfl rfl) (fun w' hw => exec_mv rfl (ev rfl)) ?_
  simp only [Act.put, List.setIfInBounds_toArray, List.set_cons_succ, List.set_cons_zero]
  refine qv_val (wanted_of rfl rfl rfl rfl) (fun w' hw => exec_neInt false rfl (ev rfl) (ev rfl) (bne_self_eq_false _)) ?_
  simp only [Act.put, List.setIfInBounds_toArray, List.set_cons_succ, List.set_cons_zero]
  refine qv_val rfl (fun w' hw => exec_pf rfl (ev rfl) (ev rfl)) ?_
  simp only [Act.put, List.setIfInBounds_toArray, List.set_cons_succ, List.set_cons_zero]
  refine wpQuiet_nil ?_
  intro w3 hb3
  obtain ⟨c0, c1, c2⟩ := CC w3 hb3
  have K3 := Lib.hid (blk_keep K2.out hb3)
  have P3 := Lib.hid (blk_keep P2.out hb3)
  have B3 := Lib.hid (B2.out.trans (hb3.mono B2.out.size))
  clear hb3 K2 P2 B2 CC
  go_wp2_with fail
  refine (data_prog m s r t _ w3 (Lib.hid rfl)).mono ?_
  rintro e w4 ⟨v4, rfl, hv4, hb4⟩
  have K4 := Lib.hid (blk_keep K3.out hb4)
  have P4 := Lib.hid (blk_keep P3.out hb4)
  have B4 := Lib.hid (B3.out.trans (hb4.mono B3.out.size))
  clear hb4 c0 c1 c2 K3 P3 B3
  obtain ⟨c0, c1, c2⟩ := cells3 K4.out
  go_wp2_with fail
  refine (data_ref m s r t _ w4 (Lib.hid rfl)).mono ?_
  rintro e w5 ⟨v5, rfl, hv5, hb5⟩
  have hv45 := hv4.below hb5
  have K5 := Lib.hid (blk_keep K4.out hb5)
  have P5 := Lib.hid (blk_keep P4.out hb5)
  have B5 := Lib.hid (B4.out.trans (hb5.mono B4.out.size))
  clear hb5 c0 c1 c2 K4 P4 B4 hv4
  have hlm : (datL m s r t).length ≤ 4096 := datL_len m s r t
  obtain ⟨A4, c4, rfl, rd4, _, hc4⟩ := hv45.open_ rfl
  obtain ⟨A5, c5, rfl, rd5, _, _⟩ := hv5.open_ rfl
  clear hv45 hv5
  go_wp2_with fail
  refine (ints_any _ _ _ _ _ _ _ _ _ w5 rd4 rd5 (Nat.le_refl _) (by unfold maxLen; omega)).mono ?_
  rintro e w6 ⟨rfl, hb6⟩
  rw [show sameI (datL m s r t) (datL m s r t) = true from by unfold sameI; exact beq_self_eq_true _]
  have K6 := Lib.hid (blk_keep K5.out hb6)
  have P6 := Lib.hid (blk_keep P5.out hb6)
  have B6 := Lib.hid (B5.out.trans (hb6.mono B5.out.size))
  clear hb6 K5 P5 B5 rd4 rd5 hlm
  obtain ⟨c0, c1, c2⟩ := cells3 K6.out
  go_wp2_with fail
  refine (at_prog m s r n w6).mono ?_
  rintro e w7 ⟨rfl, hb7⟩
  unfold atV placeV
  have K7 := Lib.hid (blk_past (blk_keep K6.out hb7) (.cells #[.int .i64 (atS m s r n), .int .i64 (atM m s r n)] 25))
  have P7 := Lib.hid (blk_past (blk_keep P6.out hb7) (.cells #[.int .i64 (atS m s r n), .int .i64 (atM m s r n)] 25))
  have B7 := Lib.hid ((B6.out.trans (hb7.mono B6.out.size)).alloc (Nat.le_trans B6.out.size hb7.size) (.cells #[.int .i64 (atS m s r n), .int .i64 (atM m s r n)] 25))
  have X7 := Lib.hid (new1 w7 #[.int .i64 (atS m s r n), .int .i64 (atM m s r n)] 25)
  clear hb7 c0 c1 c2 K6 P6 B6
  obtain ⟨c0, c1, c2⟩ := cells3 K7.out
  go_wp2_with fail
  generalize hx : w7.heap.size = x at *
  generalize w7.alloc (.cells #[.int .i64 (atS m s r n), .int .i64 (atM m s r n)] 25) = w8 at *
  clear hx
  refine (at_ref m s r n w8).mono ?_
  rintro e w9 ⟨rfl, hb9⟩
  unfold atV placeV
  have K9 := Lib.hid (blk_past (blk_keep K7.out hb9) (.cells #[.int .i64 (atS m s r n), .int .i64 (atM m s r n)] 25))
  have P9 := Lib.hid (blk_past (blk_keep P7.out hb9) (.cells #[.int .i64 (atS m s r n), .int .i64 (atM m s r n)] 25))
  have X9 := Lib.hid (blk_past (blk_keep X7.out hb9) (.cells #[.int .i64 (atS m s r n), .int .i64 (atM m s r n)] 25))
  have B9 := Lib.hid ((B7.out.trans (hb9.mono B7.out.size)).alloc (Nat.le_trans B7.out.size hb9.size) (.cells #[.int .i64 (atS m s r n), .int .i64 (atM m s r n)] 25))
  have Y9 := Lib.hid (new1 w9 #[.int .i64 (atS m s r n), .int .i64 (atM m s r n)] 25)
  clear hb9 c0 c1 c2 K7 P7 B7 X7
  obtain ⟨c0, c1, c2⟩ := cells3 K9.out
  obtain ⟨p0, p1, -, -⟩ := cells2 P9.out
  obtain ⟨x0, x1, -, -⟩ := cells2 X9.out
  obtain ⟨y0, y1, -, -⟩ := cells2 Y9.out
  clear X9 Y9
  go_wp2_with fail
  generalize hy : w9.heap.size = y at *
  generalize w9.alloc (.cells #[.int .i64 (atS m s r n), .int .i64 (atM m s r n)] 25) = w10 at *
  clear hy
  refine (block_prog m s r ps pm w10).mono ?_
  rintro e w11 ⟨rfl, hb11⟩
  unfold blV
  have K11 := Lib.hid (blk_keep K9.out hb11)
  have P11 := Lib.hid (blk_keep P9.out hb11)
  have B11 := Lib.hid (B9.out.trans (hb11.mono B9.out.size))
  clear hb11 c0 c1 c2 p0 p1 x0 x1 y0 y1 K9 P9 B9
  obtain ⟨c0, c1, c2⟩ := cells3 K11.out
  obtain ⟨p0, p1, -, -⟩ := cells2 P11.out
  go_wp2_with fail
  refine (block_ref m s r ps pm w11).mono ?_
  rintro e w12 ⟨rfl, hb12⟩
  unfold blV
  have B12 := Lib.hid (B11.out.trans (hb12.mono B11.out.size))
  clear hb12 c0 c1 c2 p0 p1 K11 P11 B11
  go_wp2_with fail
  refine (sector_prog t w12).mono ?_
  rintro e w13 ⟨rfl, hb13⟩
  have B13 := Lib.hid (B12.out.trans (hb13.mono B12.out.size))
  clear hb13 B12
  go_wp2_with fail
  refine (sector_ref t w13).mono ?_
  rintro e w14 ⟨rfl, hb14⟩
  have B14 := Lib.hid (B13.out.trans (hb14.mono B13.out.size))
  clear hb14 B13
  generalize blN m s r ps pm = q1 at *
  generalize blE m s r ps pm = q2 at *
  generalize secN t = q3 at *
  generalize secE t = q4 at *
  go_wp2_with fail
  refine (lives_yes w14).mono ?_
  rintro e w15 ⟨rfl, hb15⟩
  go_wp2
  go_ret
  exact ⟨rfl, B14.out.trans (hb15.mono B14.out.size)⟩
end Go.Proofs.Ythephlgdjbdaoaa
