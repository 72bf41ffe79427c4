/-
  The document's: which event, which geometry, which roster, which superblock may be.
  The document's: a number's bytes behind others, a superblock's body, a number read.
  The document's super: Rosters, Put.
-/
import Derived.Test.YtiilclncedipiaaDoorME
import Derived.Test.YtiilclncedipiaaDoorMA
import Derived.Test.YtiilclncedipiaaDoorMD
import Derived.Test.YtiilclncedipiaaDoorMC
import Derived.Test.YtiilclncedipiaaDoorMF
import Derived.Test.YtiilclncedipiaaDoorMG
namespace Go.Proofs.YtiilclncedipiaaDoor
open Go.RowKit
set_option linter.unusedVariables false
set_option linter.unusedSimpArgs false
set_option maxRecDepth 100000

section
variable {ρ : Operand → Value} {o : Oper} {x y : Operand} {w : World} {t r : TypeId} {k : IntKind} {a b : Int}
theorem exec_gtr (c : Bool) (ho : o.op = .binOp .gtr t x y r) (hx : ρ x = .int k a) (hy : ρ y = .int k b) (h : decide (b < a) = c) : (execOp ρ o).run Tryd.prog w = .ok (.value (.bool c)) w := by
  unfold execOp
  simp [ho, hx, hy, eqGuard, binOp, Op.intCmp, h]
theorem exec_geq (c : Bool) (ho : o.op = .binOp .geq t x y r) (hx : ρ x = .int k a) (hy : ρ y = .int k b) (h : decide (b ≤ a) = c) : (execOp ρ o).run Tryd.prog w = .ok (.value (.bool c)) w := by
  unfold execOp
  simp [ho, hx, hy, eqGuard, binOp, Op.intCmp, h]
theorem exec_leq (c : Bool) (ho : o.op = .binOp .leq t x y r) (hx : ρ x = .int k a) (hy : ρ y = .int k b) (h : decide (a ≤ b) = c) : (execOp ρ o).run Tryd.prog w = .ok (.value (.bool c)) w := by
  unfold execOp
  simp [ho, hx, hy, eqGuard, binOp, Op.intCmp, h]
theorem exec_lss (c : Bool) (ho : o.op = .binOp .lss t x y r) (hx : ρ x = .int k a) (hy : ρ y = .int k b) (h : decide (a < b) = c) : (execOp ρ o).run Tryd.prog w = .ok (.value (.bool c)) w := by
  unfold execOp
  simp [ho, hx, hy, eqGuard, binOp, Op.intCmp, h]
theorem ix16 {g off j : Nat} (hj : j < 16) : (Instr.indexAt 25 (.pointer (some ⟨g, off, none⟩)) (.int .i64 (j : Int))).run Tryd.prog w = .ok (.pointer (some ⟨g, off + j, none⟩)) w := by
  have e : (0 ≤ (j : Int) ∧ (j : Int) < 16) := by omega
  simp [Instr.indexAt, Instr.sureAddr, asIntOf, run_underlying Tryd.underlying25, Tryd.sizeOf5, Addr.add_mid, e, hj]
theorem ldU8 {ad : Addr} {n : Int} (h : w.cell? ad = some (.int .u8 n)) : (Instr.loadAt 5 (.pointer (some ad))).run Tryd.prog w = .ok (.int .u8 n) w := by simp [go_sem, h]
theorem faR2 {b : Nat} : (Instr.fieldAt 27 (.pointer (some ⟨b, 0, none⟩)) 2).run Tryd.prog w = .ok (.pointer (some ⟨b, 19, none⟩)) w := by kernel_rfl
theorem faG1 {b : Nat} : (Instr.fieldAt 24 (.pointer (some ⟨b, 0, none⟩)) 1).run Tryd.prog w = .ok (.pointer (some ⟨b, 1, none⟩)) w := by kernel_rfl
end
set_option maxHeartbeats 1000000 in
theorem rgmay (x : Ros) (w : World) : Calls Tryd.prog 54 #[geo x] w fun e w' => e = .returned (.bool (geoB x)) ∧ Below w.heap.size w w' := by
  have h1 := geoB_iff (x := x)
  have h2 := geoB_not (x := x)
  generalize geoB x = g at *
  obtain ⟨m, s, r, st, cur, gone⟩ := x
  simp only at h1 h2
  have H1 := Lib.hid h1
  have H2 := Lib.hid h2
  clear h1 h2
  show Calls Tryd.prog 54 #[.agg #[.int .i64 m, .int .i64 s, .int .i64 r]] w _
  go_enter Tryd.func54, Tryd.ntmps54
  go_wp2
  all_goals
    go_ret
    refine ⟨ret_bool ?_, (Below.refl _ _).alloc (Nat.le_refl _) _⟩
    first
      | (refine Eq.symm (H2.out.2 ?_); omega)
      | (rw [Bool.eq_iff_iff, H1.out, decide_eq_true_iff]; omega)
theorem revent (n : Nat) (w : World) : Calls Tryd.prog 26 #[.int .u64 n] w fun e w' => e = .returned (.bool (evB n)) ∧ w = w' := by
  by_cases h : 1 ≤ n
  · go_enter Tryd.func26, Tryd.ntmps26
    go_wp2
    go_ret
    refine ⟨ret_bool ?_, rfl⟩
    unfold evB
    rw [decide_eq_decide]
    omega
  · have h0 : n = 0 := by omega
    subst h0
    go_enter Tryd.func26, Tryd.ntmps26
    go_wp2
    go_ret
    exact ⟨rfl, rfl⟩
theorem sta_no {x : Ros} {j : Nat} (hj : j < 16) (h : 2 < sta x j ∨ (x.m ≤ (j : Int) ∧ sta x j ≠ 0)) : fineB x = false := by
  rw [Bool.eq_false_iff]
  intro hf
  obtain ⟨h1, h2⟩ := of_staB (of_fineB hf).2.1
  rcases h with h | ⟨h, h'⟩
  · have := h1 j hj; omega
  · exact h' (h2 j hj h)
set_option maxHeartbeats 4000000 in
theorem rfine (x : Ros) (w : World) : Calls Tryd.prog 29 #[ros x] w fun e w' => e = .returned (.bool (fineB x)) ∧ Below w.heap.size w w' := by
  have HGE : Hid (geoB x = false → fineB x = false) := Lib.hid fun h => by unfold fineB; rw [h]; rfl
  have HOK : Hid (geoB x = true → staB x = true → fineB x = (decide (heals x ≤ 1) && decide (0 ≤ x.cur ∧ x.cur < x.s ∧ (heals x = 1 ∨ x.cur = 0)))) := Lib.hid fun h h' => by unfold fineB; rw [h, h', Bool.true_and, Bool.true_and]
  have HNO : Hid (∀ j, j < 16 → (2 < sta x j ∨ (x.m ≤ (j : Int) ∧ sta x j ≠ 0)) → fineB x = false) := Lib.hid fun j => sta_no
  have HSTA := Lib.hid (staB_iff (x := x))
  obtain ⟨h1, h2, h3⟩ := boxR_new w x
  have HR := Lib.hid h1
  have HB := Lib.hid h2
  have HZ := Lib.hid h3
  clear h1 h2 h3
  have HH : Hid (heals x = healK x.st.toList 16) := Lib.hid rfl
  have HST : Hid (∀ j, sta x j = bt x.st.toList j) := Lib.hid fun _ => rfl
  go_enter Tryd.func29, Tryd.ntmps29
  go_wp2_with (first | (refine wpList_valn rfl (exec_boxR rfl rfl) ?_) | (refine wpList_valn rfl (exec_loadG (c := x) rfl rfl ?_) ?_; (with_reducible exact HR.out.geo)) | fail)
  generalize w.alloc (.cells (celR x).toArray 27) = w1 at *
  refine (rgmay x w1).mono ?_
  rintro e w2 ⟨rfl, hb⟩
  have HR2 := Lib.hid (HR.out.below HZ.out hb)
  have HB2 := Lib.hid (HB.out.trans (hb.mono (Nat.le_of_lt HZ.out)))
  clear hb HR HB HZ
  cases hg : geoB x
  · have HF := Lib.hid (HGE.out hg)
    clear hg
    go_wp2_with fail
    go_ret
    exact ⟨by rw [HF.out]; rfl, HB2.out⟩
  · have HOK2 := Lib.hid (HOK.out hg)
    clear hg HOK HGE
    have HM := Lib.hid HR2.out.cells.1
    have HSS := Lib.hid HR2.out.cells.2.1
    have HCU := Lib.hid HR2.out.cells.2.2.2.1
    go_wp2_with fail
    go_loop [3, 4] (fun n i => ∃ j : Nat, j ≤ 16 ∧ i = .int .i64 j ∧ n = .int .i64 (healK x.st.toList j : Nat) ∧ (∀ k, k < j → sta x k ≤ 2) ∧ (∀ k : Nat, k < j → x.m ≤ (k : Int) → sta x k = 0)) (fun _ i => 16 - (intOf i).toNat)
    case atStart => exact ⟨0, Nat.zero_le _, rfl, rfl, fun k hk => absurd hk (by omega), fun k hk => absurd hk (by omega)⟩
    case round =>
      obtain ⟨j, hj, rfl, rfl, ha1, ha2⟩ := hrel
      have HA1 := Lib.hid ha1
      have HA2 := Lib.hid ha2
      clear ha1 ha2
      by_cases hlt : j < 16
      · have HC := Lib.hid (HR2.out.sta hlt)
        have HS := Lib.hid (healK_succ x.st.toList j)
        have hle := healK_le x.st.toList j
        generalize healK x.st.toList j = n at *
        by_cases g2 : 2 < sta x j
        · have HF := Lib.hid (HNO.out j hlt (.inl g2))
          have H17 : Hid (decide ((2 : Int) < sta x j) = true) := Lib.hid (decide_eq_true g2)
          clear g2
          go_upto_region 7 with fail
          refine wp_region_lit ?_
          refine wpList_valn rfl (exec_mv rfl (ev rfl)) ?_
          simp only [Act.put, List.setIfInBounds_toArray, List.set_cons_succ, List.set_cons_zero]
          refine wpList_valn rfl (exec_faddr rfl (ev rfl) faR1) ?_
          simp only [Act.put, List.setIfInBounds_toArray, List.set_cons_succ, List.set_cons_zero]
          refine wpList_valn rfl (exec_ix rfl (ev rfl) (ev rfl) (ix16 hlt)) ?_
          simp only [Act.put, List.setIfInBounds_toArray, List.set_cons_succ, List.set_cons_zero]
          refine wpList_valn rfl (exec_ld rfl (ev rfl) (ldU8 HC.out)) ?_
          simp only [Act.put, List.setIfInBounds_toArray, List.set_cons_succ, List.set_cons_zero]
          refine wpList_valn (v := .bool true) rfl (exec_gtr true rfl (ev rfl) evk H17.out) ?_
          simp only [Act.put, List.setIfInBounds_toArray, List.set_cons_succ, List.set_cons_zero]
          refine wpList_skips 12 (v := .bool true) rfl (exec_mv rfl (ev rfl)) (by kernel_rfl) ?_
          simp only [skipAct, List.take_succ_cons, List.take_zero, List.drop_succ_cons, List.drop_zero, Act.put, List.setIfInBounds_toArray, List.set_cons_succ, List.set_cons_zero]
          refine wpList_valn (v := .bool true) rfl (exec_pt rfl (ev rfl) evk) ?_
          simp only [Act.put, List.setIfInBounds_toArray, List.set_cons_succ, List.set_cons_zero]
          refine wpList_nil ?_
          go_wp2_with fail
          go_ret
          exact ⟨by rw [HF.out]; rfl, HB2.out⟩
        · have H17 : Hid (decide ((2 : Int) < sta x j) = false) := Lib.hid (decide_eq_false g2)
          have HLE : Hid (sta x j ≤ 2) := Lib.hid (by omega)
          by_cases gm : x.m ≤ (j : Int)
          · have H23 : Hid (decide (x.m ≤ (j : Int)) = true) := Lib.hid (decide_eq_true gm)
            by_cases g0 : sta x j = 0
            · have H29 : Hid ((sta x j != 0) = false) := Lib.hid (by rw [g0]; rfl)
              have HEQ := Lib.hid g0
              clear g2 gm g0
              go_upto_region 7 with fail
              refine wp_region_lit ?_
              refine wpList_valn rfl (exec_mv rfl (ev rfl)) ?_
              simp only [Act.put, List.setIfInBounds_toArray, List.set_cons_succ, List.set_cons_zero]
              refine wpList_valn rfl (exec_faddr rfl (ev rfl) faR1) ?_
              simp only [Act.put, List.setIfInBounds_toArray, List.set_cons_succ, List.set_cons_zero]
              refine wpList_valn rfl (exec_ix rfl (ev rfl) (ev rfl) (ix16 hlt)) ?_
              simp only [Act.put, List.setIfInBounds_toArray, List.set_cons_succ, List.set_cons_zero]
              refine wpList_valn rfl (exec_ld rfl (ev rfl) (ldU8 HC.out)) ?_
              simp only [Act.put, List.setIfInBounds_toArray, List.set_cons_succ, List.set_cons_zero]
              refine wpList_valn (v := .bool false) rfl (exec_gtr false rfl (ev rfl) evk H17.out) ?_
              simp only [Act.put, List.setIfInBounds_toArray, List.set_cons_succ, List.set_cons_zero]
              refine wpList_valn (v := .bool false) rfl (exec_mv rfl (ev rfl)) ?_
              simp only [Act.put, List.setIfInBounds_toArray, List.set_cons_succ, List.set_cons_zero]
              refine wpList_val (wanted_of rfl rfl rfl rfl) (exec_mv rfl (ev rfl)) ?_
              simp only [Act.put, List.setIfInBounds_toArray, List.set_cons_succ, List.set_cons_zero]
              refine wpList_val (wanted_of rfl rfl rfl rfl) (exec_faddr rfl (ev rfl) faR0) ?_
              simp only [Act.put, List.setIfInBounds_toArray, List.set_cons_succ, List.set_cons_zero]
              refine wpList_val (wanted_of rfl rfl rfl rfl) (exec_faddr rfl (ev rfl) faG0) ?_
              simp only [Act.put, List.setIfInBounds_toArray, List.set_cons_succ, List.set_cons_zero]
              refine wpList_val (wanted_of rfl rfl rfl rfl) (exec_ld rfl (ev rfl) (ldInt HM.out)) ?_
              simp only [Act.put, List.setIfInBounds_toArray, List.set_cons_succ, List.set_cons_zero]
              refine wpList_val (v := .bool true) (wanted_of rfl rfl rfl rfl) (exec_geq true rfl (ev rfl) (ev rfl) H23.out) ?_
              simp only [Act.put, List.setIfInBounds_toArray, List.set_cons_succ, List.set_cons_zero]
              refine wpList_val (v := .bool true) (wanted_of rfl rfl rfl rfl) (exec_mv rfl (ev rfl)) ?_
              simp only [Act.put, List.setIfInBounds_toArray, List.set_cons_succ, List.set_cons_zero]
              refine wpList_val (wanted_of rfl rfl rfl rfl) (exec_mv rfl (ev rfl)) ?_
              simp only [Act.put, List.setIfInBounds_toArray, List.set_cons_succ, List.set_cons_zero]
              refine wpList_val (wanted_of rfl rfl rfl rfl) (exec_faddr rfl (ev rfl) faR1) ?_
              simp only [Act.put, List.setIfInBounds_toArray, List.set_cons_succ, List.set_cons_zero]
              refine wpList_val (wanted_of rfl rfl rfl rfl) (exec_ix rfl (ev rfl) (ev rfl) (ix16 hlt)) ?_
              simp only [Act.put, List.setIfInBounds_toArray, List.set_cons_succ, List.set_cons_zero]
              refine wpList_val (wanted_of rfl rfl rfl rfl) (exec_ld rfl (ev rfl) (ldU8 HC.out)) ?_
              simp only [Act.put, List.setIfInBounds_toArray, List.set_cons_succ, List.set_cons_zero]
              refine wpList_val (v := .bool false) (wanted_of rfl rfl rfl rfl) (exec_neInt false rfl (ev rfl) evk H29.out) ?_
              simp only [Act.put, List.setIfInBounds_toArray, List.set_cons_succ, List.set_cons_zero]
              refine wpList_val (v := .bool false) (wanted_of rfl rfl rfl rfl) (exec_pt rfl (ev rfl) (ev rfl)) ?_
              simp only [Act.put, List.setIfInBounds_toArray, List.set_cons_succ, List.set_cons_zero]
              refine wpList_valn (v := .bool false) rfl (exec_pf rfl (ev rfl) (ev rfl)) ?_
              simp only [Act.put, List.setIfInBounds_toArray, List.set_cons_succ, List.set_cons_zero]
              refine wpList_nil ?_
              have cs := HC.out
              rw [HEQ.out] at cs
              go_wp2_with fail
              go_round
              case rel =>
                refine ⟨j + 1, by omega, by go_num, ?_, fun k hk => ?_, fun k hk hm => ?_⟩
                · rw [HS.out, if_neg (by rw [← HST.out, HEQ.out]; omega), Nat.add_zero]
                · by_cases e : k = j
                  · rw [e]; exact HLE.out
                  · exact HA1.out k (by omega)
                · by_cases e : k = j
                  · rw [e]; exact HEQ.out
                  · exact HA2.out k (by omega) hm
              case measure => simp [intOf]; omega
            · have HF := Lib.hid (HNO.out j hlt (.inr ⟨gm, g0⟩))
              have H29 : Hid ((sta x j != 0) = true) := Lib.hid (by simpa using g0)
              clear g2 gm g0
              go_upto_region 7 with fail
              refine wp_region_lit ?_
              refine wpList_valn rfl (exec_mv rfl (ev rfl)) ?_
              simp only [Act.put, List.setIfInBounds_toArray, List.set_cons_succ, List.set_cons_zero]
              refine wpList_valn rfl (exec_faddr rfl (ev rfl) faR1) ?_
              simp only [Act.put, List.setIfInBounds_toArray, List.set_cons_succ, List.set_cons_zero]
              refine wpList_valn rfl (exec_ix rfl (ev rfl) (ev rfl) (ix16 hlt)) ?_
              simp only [Act.put, List.setIfInBounds_toArray, List.set_cons_succ, List.set_cons_zero]
              refine wpList_valn rfl (exec_ld rfl (ev rfl) (ldU8 HC.out)) ?_
              simp only [Act.put, List.setIfInBounds_toArray, List.set_cons_succ, List.set_cons_zero]
              refine wpList_valn (v := .bool false) rfl (exec_gtr false rfl (ev rfl) evk H17.out) ?_
              simp only [Act.put, List.setIfInBounds_toArray, List.set_cons_succ, List.set_cons_zero]
              refine wpList_valn (v := .bool false) rfl (exec_mv rfl (ev rfl)) ?_
              simp only [Act.put, List.setIfInBounds_toArray, List.set_cons_succ, List.set_cons_zero]
              refine wpList_val (wanted_of rfl rfl rfl rfl) (exec_mv rfl (ev rfl)) ?_
              simp only [Act.put, List.setIfInBounds_toArray, List.set_cons_succ, List.set_cons_zero]
              refine wpList_val (wanted_of rfl rfl rfl rfl) (exec_faddr rfl (ev rfl) faR0) ?_
              simp only [Act.put, List.setIfInBounds_toArray, List.set_cons_succ, List.set_cons_zero]
              refine wpList_val (wanted_of rfl rfl rfl rfl) (exec_faddr rfl (ev rfl) faG0) ?_
              simp only [Act.put, List.setIfInBounds_toArray, List.set_cons_succ, List.set_cons_zero]
              refine wpList_val (wanted_of rfl rfl rfl rfl) (exec_ld rfl (ev rfl) (ldInt HM.out)) ?_
              simp only [Act.put, List.setIfInBounds_toArray, List.set_cons_succ, List.set_cons_zero]
              refine wpList_val (v := .bool true) (wanted_of rfl rfl rfl rfl) (exec_geq true rfl (ev rfl) (ev rfl) H23.out) ?_
              simp only [Act.put, List.setIfInBounds_toArray, List.set_cons_succ, List.set_cons_zero]
              refine wpList_val (v := .bool true) (wanted_of rfl rfl rfl rfl) (exec_mv rfl (ev rfl)) ?_
              simp only [Act.put, List.setIfInBounds_toArray, List.set_cons_succ, List.set_cons_zero]
              refine wpList_val (wanted_of rfl rfl rfl rfl) (exec_mv rfl (ev rfl)) ?_
              simp only [Act.put, List.setIfInBounds_toArray, List.set_cons_succ, List.set_cons_zero]
              refine wpList_val (wanted_of rfl rfl rfl rfl) (exec_faddr rfl (ev rfl) faR1) ?_
              simp only [Act.put, List.setIfInBounds_toArray, List.set_cons_succ, List.set_cons_zero]
              refine wpList_val (wanted_of rfl rfl rfl rfl) (exec_ix rfl (ev rfl) (ev rfl) (ix16 hlt)) ?_
              simp only [Act.put, List.setIfInBounds_toArray, List.set_cons_succ, List.set_cons_zero]
              refine wpList_val (wanted_of rfl rfl rfl rfl) (exec_ld rfl (ev rfl) (ldU8 HC.out)) ?_
              simp only [Act.put, List.setIfInBounds_toArray, List.set_cons_succ, List.set_cons_zero]
              refine wpList_val (v := .bool true) (wanted_of rfl rfl rfl rfl) (exec_neInt true rfl (ev rfl) evk H29.out) ?_
              simp only [Act.put, List.setIfInBounds_toArray, List.set_cons_succ, List.set_cons_zero]
              refine wpList_val (v := .bool true) (wanted_of rfl rfl rfl rfl) (exec_pt rfl (ev rfl) (ev rfl)) ?_
              simp only [Act.put, List.setIfInBounds_toArray, List.set_cons_succ, List.set_cons_zero]
              refine wpList_valn (v := .bool true) rfl (exec_pf rfl (ev rfl) (ev rfl)) ?_
              simp only [Act.put, List.setIfInBounds_toArray, List.set_cons_succ, List.set_cons_zero]
              refine wpList_nil ?_
              go_wp2_with fail
              go_ret
              exact ⟨by rw [HF.out]; rfl, HB2.out⟩
          · have H23 : Hid (decide (x.m ≤ (j : Int)) = false) := Lib.hid (decide_eq_false gm)
            have HGM := Lib.hid gm
            clear g2 gm
            go_upto_region 7 with fail
            refine wp_region_lit ?_
            refine wpList_valn rfl (exec_mv rfl (ev rfl)) ?_
            simp only [Act.put, List.setIfInBounds_toArray, List.set_cons_succ, List.set_cons_zero]
            refine wpList_valn rfl (exec_faddr rfl (ev rfl) faR1) ?_
            simp only [Act.put, List.setIfInBounds_toArray, List.set_cons_succ, List.set_cons_zero]
            refine wpList_valn rfl (exec_ix rfl (ev rfl) (ev rfl) (ix16 hlt)) ?_
            simp only [Act.put, List.setIfInBounds_toArray, List.set_cons_succ, List.set_cons_zero]
            refine wpList_valn rfl (exec_ld rfl (ev rfl) (ldU8 HC.out)) ?_
            simp only [Act.put, List.setIfInBounds_toArray, List.set_cons_succ, List.set_cons_zero]
            refine wpList_valn (v := .bool false) rfl (exec_gtr false rfl (ev rfl) evk H17.out) ?_
            simp only [Act.put, List.setIfInBounds_toArray, List.set_cons_succ, List.set_cons_zero]
            refine wpList_valn (v := .bool false) rfl (exec_mv rfl (ev rfl)) ?_
            simp only [Act.put, List.setIfInBounds_toArray, List.set_cons_succ, List.set_cons_zero]
            refine wpList_val (wanted_of rfl rfl rfl rfl) (exec_mv rfl (ev rfl)) ?_
            simp only [Act.put, List.setIfInBounds_toArray, List.set_cons_succ, List.set_cons_zero]
            refine wpList_val (wanted_of rfl rfl rfl rfl) (exec_faddr rfl (ev rfl) faR0) ?_
            simp only [Act.put, List.setIfInBounds_toArray, List.set_cons_succ, List.set_cons_zero]
            refine wpList_val (wanted_of rfl rfl rfl rfl) (exec_faddr rfl (ev rfl) faG0) ?_
            simp only [Act.put, List.setIfInBounds_toArray, List.set_cons_succ, List.set_cons_zero]
            refine wpList_val (wanted_of rfl rfl rfl rfl) (exec_ld rfl (ev rfl) (ldInt HM.out)) ?_
            simp only [Act.put, List.setIfInBounds_toArray, List.set_cons_succ, List.set_cons_zero]
            refine wpList_val (v := .bool false) (wanted_of rfl rfl rfl rfl) (exec_geq false rfl (ev rfl) (ev rfl) H23.out) ?_
            simp only [Act.put, List.setIfInBounds_toArray, List.set_cons_succ, List.set_cons_zero]
            refine wpList_skips 5 (v := .bool false) (wanted_of rfl rfl rfl rfl) (exec_mv rfl (ev rfl)) (by kernel_rfl) ?_
            simp only [skipAct, List.take_succ_cons, List.take_zero, List.drop_succ_cons, List.drop_zero, Act.put, List.setIfInBounds_toArray, List.set_cons_succ, List.set_cons_zero]
            refine wpList_val (v := .bool false) (wanted_of rfl rfl rfl rfl) (exec_pf rfl (ev rfl) evk) ?_
            simp only [Act.put, List.setIfInBounds_toArray, List.set_cons_succ, List.set_cons_zero]
            refine wpList_valn (v := .bool false) rfl (exec_pf rfl (ev rfl) (ev rfl)) ?_
            simp only [Act.put, List.setIfInBounds_toArray, List.set_cons_succ, List.set_cons_zero]
            refine wpList_nil ?_
            have cs := HC.out
            have HN1 : Hid (∀ k, k < j + 1 → sta x k ≤ 2) := Lib.hid fun k hk => by
              by_cases e : k = j
              · rw [e]; exact HLE.out
              · exact HA1.out k (by omega)
            have HN2 : Hid (∀ k : Nat, k < j + 1 → x.m ≤ (k : Int) → sta x k = 0) := Lib.hid fun k hk hm => by
              by_cases e : k = j
              · rw [e] at hm; exact absurd hm HGM.out
              · exact HA2.out k (by omega) hm
            by_cases h2 : sta x j = 2
            · have hd : (sta x j == 2) = true := by rw [h2]; rfl
              have HEQ := Lib.hid h2
              clear h2
              go_wp2_with fail
              go_round
              case rel => exact ⟨j + 1, by omega, by go_num, by rw [HS.out, if_pos (by rw [← HST.out, HEQ.out])]; go_num, HN1.out, HN2.out⟩
              case measure => simp [intOf]; omega
            · have hd : (sta x j == 2) = false := by simpa using h2
              have HEQ := Lib.hid h2
              clear h2
              go_wp2_with fail
              go_round
              case rel => exact ⟨j + 1, by omega, by go_num, by rw [HS.out, if_neg (by rw [← HST.out]; exact HEQ.out), Nat.add_zero], HN1.out, HN2.out⟩
              case measure => simp [intOf]; omega
      · have e : j = 16 := by omega
        subst e
        have HF := Lib.hid (HOK2.out (HSTA.out.2 ⟨HA1.out, HA2.out⟩))
        rw [HH.out] at HF
        have hle := healK_le x.st.toList 16
        generalize healK x.st.toList 16 = n at *
        clear HA1 HA2 HNO HSTA hlt hj HST HOK2
        obtain ⟨c, hc⟩ : ∃ c, x.cur = c := ⟨_, rfl⟩
        obtain ⟨s, hs⟩ : ∃ s, x.s = s := ⟨_, rfl⟩
        rw [hc, hs] at HF
        rw [hc] at HCU
        rw [hs] at HSS
        clear hc hs
        by_cases q1 : n ≤ 1
        · have H40 : Hid (decide ((n : Int) ≤ 1) = true) := Lib.hid (decide_eq_true (by omega))
          by_cases q2 : 0 ≤ c
          · have H44 : Hid (decide ((0 : Int) ≤ c) = true) := Lib.hid (decide_eq_true q2)
            by_cases q3 : c < s
            · have H52 : Hid (decide (c < s) = true) := Lib.hid (decide_eq_true q3)
              by_cases q4 : n = 1
              · have H56 : Hid (((n : Int) == 1) = true) := Lib.hid (by rw [q4]; rfl)
                go_upto_region 11 with fail
                refine wp_region_lit ?_
                refine wpList_valn rfl (exec_mv rfl (ev rfl)) ?_
                simp only [Act.put, List.setIfInBounds_toArray, List.set_cons_succ, List.set_cons_zero]
                refine wpList_valn (v := .bool true) rfl (exec_leq true rfl (ev rfl) evk H40.out) ?_
                simp only [Act.put, List.setIfInBounds_toArray, List.set_cons_succ, List.set_cons_zero]
                refine wpList_valn (v := .bool true) rfl (exec_mv rfl (ev rfl)) ?_
                simp only [Act.put, List.setIfInBounds_toArray, List.set_cons_succ, List.set_cons_zero]
                refine wpList_val (wanted_of rfl rfl rfl rfl) (exec_faddr rfl (ev rfl) faR2) ?_
                simp only [Act.put, List.setIfInBounds_toArray, List.set_cons_succ, List.set_cons_zero]
                refine wpList_val (wanted_of rfl rfl rfl rfl) (exec_ld rfl (ev rfl) (ldInt HCU.out)) ?_
                simp only [Act.put, List.setIfInBounds_toArray, List.set_cons_succ, List.set_cons_zero]
                refine wpList_val (v := .bool true) (wanted_of rfl rfl rfl rfl) (exec_geq true rfl (ev rfl) evk H44.out) ?_
                simp only [Act.put, List.setIfInBounds_toArray, List.set_cons_succ, List.set_cons_zero]
                refine wpList_valn (v := .bool true) rfl (exec_pt rfl (ev rfl) (ev rfl)) ?_
                simp only [Act.put, List.setIfInBounds_toArray, List.set_cons_succ, List.set_cons_zero]
                refine wpList_valn (v := .bool true) rfl (exec_mv rfl (ev rfl)) ?_
                simp only [Act.put, List.setIfInBounds_toArray, List.set_cons_succ, List.set_cons_zero]
                refine wpList_val (wanted_of rfl rfl rfl rfl) (exec_faddr rfl (ev rfl) faR2) ?_
                simp only [Act.put, List.setIfInBounds_toArray, List.set_cons_succ, List.set_cons_zero]
                refine wpList_val (wanted_of rfl rfl rfl rfl) (exec_ld rfl (ev rfl) (ldInt HCU.out)) ?_
                simp only [Act.put, List.setIfInBounds_toArray, List.set_cons_succ, List.set_cons_zero]
                refine wpList_val (wanted_of rfl rfl rfl rfl) (exec_faddr rfl (ev rfl) faR0) ?_
                simp only [Act.put, List.setIfInBounds_toArray, List.set_cons_succ, List.set_cons_zero]
                refine wpList_val (wanted_of rfl rfl rfl rfl) (exec_faddr rfl (ev rfl) faG1) ?_
                simp only [Act.put, List.setIfInBounds_toArray, List.set_cons_succ, List.set_cons_zero]
                refine wpList_val (wanted_of rfl rfl rfl rfl) (exec_ld rfl (ev rfl) (ldInt HSS.out)) ?_
                simp only [Act.put, List.setIfInBounds_toArray, List.set_cons_succ, List.set_cons_zero]
                refine wpList_val (v := .bool true) (wanted_of rfl rfl rfl rfl) (exec_lss true rfl (ev rfl) (ev rfl) H52.out) ?_
                simp only [Act.put, List.setIfInBounds_toArray, List.set_cons_succ, List.set_cons_zero]
                refine wpList_valn (v := .bool true) rfl (exec_pt rfl (ev rfl) (ev rfl)) ?_
                simp only [Act.put, List.setIfInBounds_toArray, List.set_cons_succ, List.set_cons_zero]
                refine wpList_valn (v := .bool true) rfl (exec_mv rfl (ev rfl)) ?_
                simp only [Act.put, List.setIfInBounds_toArray, List.set_cons_succ, List.set_cons_zero]
                refine wpList_val (wanted_of rfl rfl rfl rfl) (exec_mv rfl (ev rfl)) ?_
                simp only [Act.put, List.setIfInBounds_toArray, List.set_cons_succ, List.set_cons_zero]
                refine wpList_val (v := .bool true) (wanted_of rfl rfl rfl rfl) (exec_eqInt true rfl (ev rfl) evk H56.out) ?_
                simp only [Act.put, List.setIfInBounds_toArray, List.set_cons_succ, List.set_cons_zero]
                refine wpList_skips 3 (v := .bool true) (wanted_of rfl rfl rfl rfl) (exec_mv rfl (ev rfl)) (by kernel_rfl) ?_
                simp only [skipAct, List.take_succ_cons, List.take_zero, List.drop_succ_cons, List.drop_zero, Act.put, List.setIfInBounds_toArray, List.set_cons_succ, List.set_cons_zero]
                refine wpList_val (v := .bool true) (wanted_of rfl rfl rfl rfl) (exec_pt rfl (ev rfl) evk) ?_
                simp only [Act.put, List.setIfInBounds_toArray, List.set_cons_succ, List.set_cons_zero]
                refine wpList_valn (v := .bool true) rfl (exec_pt rfl (ev rfl) (ev rfl)) ?_
                simp only [Act.put, List.setIfInBounds_toArray, List.set_cons_succ, List.set_cons_zero]
                refine wpList_valn (v := .bool true) rfl (exec_as rfl (ev rfl)) ?_
                simp only [Act.put, List.setIfInBounds_toArray, List.set_cons_succ, List.set_cons_zero]
                refine wpList_nil ?_
                go_wp2_with fail
                go_ret
                exact ⟨ret_bool (by rw [HF.out]; rw [decide_eq_true q1, decide_eq_true (by omega)]; rfl), HB2.out⟩
              · have H56 : Hid (((n : Int) == 1) = false) := Lib.hid (by simp; omega)
                by_cases q5 : c = 0
                · have H60 : Hid ((c == 0) = true) := Lib.hid (by simpa using q5)
                  go_upto_region 11 with fail
                  refine wp_region_lit ?_
                  refine wpList_valn rfl (exec_mv rfl (ev rfl)) ?_
                  simp only [Act.put, List.setIfInBounds_toArray, List.set_cons_succ, List.set_cons_zero]
                  refine wpList_valn (v := .bool true) rfl (exec_leq true rfl (ev rfl) evk H40.out) ?_
                  simp only [Act.put, List.setIfInBounds_toArray, List.set_cons_succ, List.set_cons_zero]
                  refine wpList_valn (v := .bool true) rfl (exec_mv rfl (ev rfl)) ?_
                  simp only [Act.put, List.setIfInBounds_toArray, List.set_cons_succ, List.set_cons_zero]
                  refine wpList_val (wanted_of rfl rfl rfl rfl) (exec_faddr rfl (ev rfl) faR2) ?_
                  simp only [Act.put, List.setIfInBounds_toArray, List.set_cons_succ, List.set_cons_zero]
                  refine wpList_val (wanted_of rfl rfl rfl rfl) (exec_ld rfl (ev rfl) (ldInt HCU.out)) ?_
                  simp only [Act.put, List.setIfInBounds_toArray, List.set_cons_succ, List.set_cons_zero]
                  refine wpList_val (v := .bool true) (wanted_of rfl rfl rfl rfl) (exec_geq true rfl (ev rfl) evk H44.out) ?_
                  simp only [Act.put, List.setIfInBounds_toArray, List.set_cons_succ, List.set_cons_zero]
                  refine wpList_valn (v := .bool true) rfl (exec_pt rfl (ev rfl) (ev rfl)) ?_
                  simp only [Act.put, List.setIfInBounds_toArray, List.set_cons_succ, List.set_cons_zero]
                  refine wpList_valn (v := .bool true) rfl (exec_mv rfl (ev rfl)) ?_
                  simp only [Act.put, List.setIfInBounds_toArray, List.set_cons_succ, List.set_cons_zero]
                  refine wpList_val (wanted_of rfl rfl rfl rfl) (exec_faddr rfl (ev rfl) faR2) ?_
                  simp only [Act.put, List.setIfInBounds_toArray, List.set_cons_succ, List.set_cons_zero]
                  refine wpList_val (wanted_of rfl rfl rfl rfl) (exec_ld rfl (ev rfl) (ldInt HCU.out)) ?_
                  simp only [Act.put, List.setIfInBounds_toArray, List.set_cons_succ, List.set_cons_zero]
                  refine wpList_val (wanted_of rfl rfl rfl rfl) (exec_faddr rfl (ev rfl) faR0) ?_
                  simp only [Act.put, List.setIfInBounds_toArray, List.set_cons_succ, List.set_cons_zero]
                  refine wpList_val (wanted_of rfl rfl rfl rfl) (exec_faddr rfl (ev rfl) faG1) ?_
                  simp only [Act.put, List.setIfInBounds_toArray, List.set_cons_succ, List.set_cons_zero]
                  refine wpList_val (wanted_of rfl rfl rfl rfl) (exec_ld rfl (ev rfl) (ldInt HSS.out)) ?_
                  simp only [Act.put, List.setIfInBounds_toArray, List.set_cons_succ, List.set_cons_zero]
                  refine wpList_val (v := .bool true) (wanted_of rfl rfl rfl rfl) (exec_lss true rfl (ev rfl) (ev rfl) H52.out) ?_
                  simp only [Act.put, List.setIfInBounds_toArray, List.set_cons_succ, List.set_cons_zero]
                  refine wpList_valn (v := .bool true) rfl (exec_pt rfl (ev rfl) (ev rfl)) ?_
                  simp only [Act.put, List.setIfInBounds_toArray, List.set_cons_succ, List.set_cons_zero]
                  refine wpList_valn (v := .bool true) rfl (exec_mv rfl (ev rfl)) ?_
                  simp only [Act.put, List.setIfInBounds_toArray, List.set_cons_succ, List.set_cons_zero]
                  refine wpList_val (wanted_of rfl rfl rfl rfl) (exec_mv rfl (ev rfl)) ?_
                  simp only [Act.put, List.setIfInBounds_toArray, List.set_cons_succ, List.set_cons_zero]
                  refine wpList_val (v := .bool false) (wanted_of rfl rfl rfl rfl) (exec_eqInt false rfl (ev rfl) evk H56.out) ?_
                  simp only [Act.put, List.setIfInBounds_toArray, List.set_cons_succ, List.set_cons_zero]
                  refine wpList_val (v := .bool false) (wanted_of rfl rfl rfl rfl) (exec_mv rfl (ev rfl)) ?_
                  simp only [Act.put, List.setIfInBounds_toArray, List.set_cons_succ, List.set_cons_zero]
                  refine wpList_val (wanted_of rfl rfl rfl rfl) (exec_faddr rfl (ev rfl) faR2) ?_
                  simp only [Act.put, List.setIfInBounds_toArray, List.set_cons_succ, List.set_cons_zero]
                  refine wpList_val (wanted_of rfl rfl rfl rfl) (exec_ld rfl (ev rfl) (ldInt HCU.out)) ?_
                  simp only [Act.put, List.setIfInBounds_toArray, List.set_cons_succ, List.set_cons_zero]
                  refine wpList_val (v := .bool true) (wanted_of rfl rfl rfl rfl) (exec_eqInt true rfl (ev rfl) evk H60.out) ?_
                  simp only [Act.put, List.setIfInBounds_toArray, List.set_cons_succ, List.set_cons_zero]
                  refine wpList_val (v := .bool true) (wanted_of rfl rfl rfl rfl) (exec_pf rfl (ev rfl) (ev rfl)) ?_
                  simp only [Act.put, List.setIfInBounds_toArray, List.set_cons_succ, List.set_cons_zero]
                  refine wpList_valn (v := .bool true) rfl (exec_pt rfl (ev rfl) (ev rfl)) ?_
                  simp only [Act.put, List.setIfInBounds_toArray, List.set_cons_succ, List.set_cons_zero]
                  refine wpList_valn (v := .bool true) rfl (exec_as rfl (ev rfl)) ?_
                  simp only [Act.put, List.setIfInBounds_toArray, List.set_cons_succ, List.set_cons_zero]
                  refine wpList_nil ?_
                  go_wp2_with fail
                  go_ret
                  exact ⟨ret_bool (by rw [HF.out]; rw [decide_eq_true q1, decide_eq_true (by omega)]; rfl), HB2.out⟩
                · have H60 : Hid ((c == 0) = false) := Lib.hid (by simpa using q5)
                  go_upto_region 11 with fail
                  refine wp_region_lit ?_
                  refine wpList_valn rfl (exec_mv rfl (ev rfl)) ?_
                  simp only [Act.put, List.setIfInBounds_toArray, List.set_cons_succ, List.set_cons_zero]
                  refine wpList_valn (v := .bool true) rfl (exec_leq true rfl (ev rfl) evk H40.out) ?_
                  simp only [Act.put, List.setIfInBounds_toArray, List.set_cons_succ, List.set_cons_zero]
                  refine wpList_valn (v := .bool true) rfl (exec_mv rfl (ev rfl)) ?_
                  simp only [Act.put, List.setIfInBounds_toArray, List.set_cons_succ, List.set_cons_zero]
                  refine wpList_val (wanted_of rfl rfl rfl rfl) (exec_faddr rfl (ev rfl) faR2) ?_
                  simp only [Act.put, List.setIfInBounds_toArray, List.set_cons_succ, List.set_cons_zero]
                  refine wpList_val (wanted_of rfl rfl rfl rfl) (exec_ld rfl (ev rfl) (ldInt HCU.out)) ?_
                  simp only [Act.put, List.setIfInBounds_toArray, List.set_cons_succ, List.set_cons_zero]
                  refine wpList_val (v := .bool true) (wanted_of rfl rfl rfl rfl) (exec_geq true rfl (ev rfl) evk H44.out) ?_
                  simp only [Act.put, List.setIfInBounds_toArray, List.set_cons_succ, List.set_cons_zero]
                  refine wpList_valn (v := .bool true) rfl (exec_pt rfl (ev rfl) (ev rfl)) ?_
                  simp only [Act.put, List.setIfInBounds_toArray, List.set_cons_succ, List.set_cons_zero]
                  refine wpList_valn (v := .bool true) rfl (exec_mv rfl (ev rfl)) ?_
                  simp only [Act.put, List.setIfInBounds_toArray, List.set_cons_succ, List.set_cons_zero]
                  refine wpList_val (wanted_of rfl rfl rfl rfl) (exec_faddr rfl (ev rfl) faR2) ?_
                  simp only [Act.put, List.setIfInBounds_toArray, List.set_cons_succ, List.set_cons_zero]
                  refine wpList_val (wanted_of rfl rfl rfl rfl) (exec_ld rfl (ev rfl) (ldInt HCU.out)) ?_
                  simp only [Act.put, List.setIfInBounds_toArray, List.set_cons_succ, List.set_cons_zero]
                  refine wpList_val (wanted_of rfl rfl rfl rfl) (exec_faddr rfl (ev rfl) faR0) ?_
                  simp only [Act.put, List.setIfInBounds_toArray, List.set_cons_succ, List.set_cons_zero]
                  refine wpList_val (wanted_of rfl rfl rfl rfl) (exec_faddr rfl (ev rfl) faG1) ?_
                  simp only [Act.put, List.setIfInBounds_toArray, List.set_cons_succ, List.set_cons_zero]
                  refine wpList_val (wanted_of rfl rfl rfl rfl) (exec_ld rfl (ev rfl) (ldInt HSS.out)) ?_
                  simp only [Act.put, List.setIfInBounds_toArray, List.set_cons_succ, List.set_cons_zero]
                  refine wpList_val (v := .bool true) (wanted_of rfl rfl rfl rfl) (exec_lss true rfl (ev rfl) (ev rfl) H52.out) ?_
                  simp only [Act.put, List.setIfInBounds_toArray, List.set_cons_succ, List.set_cons_zero]
                  refine wpList_valn (v := .bool true) rfl (exec_pt rfl (ev rfl) (ev rfl)) ?_
                  simp only [Act.put, List.setIfInBounds_toArray, List.set_cons_succ, List.set_cons_zero]
                  refine wpList_valn (v := .bool true) rfl (exec_mv rfl (ev rfl)) ?_
                  simp only [Act.put, List.setIfInBounds_toArray, List.set_cons_succ, List.set_cons_zero]
                  refine wpList_val (wanted_of rfl rfl rfl rfl) (exec_mv rfl (ev rfl)) ?_
                  simp only [Act.put, List.setIfInBounds_toArray, List.set_cons_succ, List.set_cons_zero]
                  refine wpList_val (v := .bool false) (wanted_of rfl rfl rfl rfl) (exec_eqInt false rfl (ev rfl) evk H56.out) ?_
                  simp only [Act.put, List.setIfInBounds_toArray, List.set_cons_succ, List.set_cons_zero]
                  refine wpList_val (v := .bool false) (wanted_of rfl rfl rfl rfl) (exec_mv rfl (ev rfl)) ?_
                  simp only [Act.put, List.setIfInBounds_toArray, List.set_cons_succ, List.set_cons_zero]
                  refine wpList_val (wanted_of rfl rfl rfl rfl) (exec_faddr rfl (ev rfl) faR2) ?_
                  simp only [Act.put, List.setIfInBounds_toArray, List.set_cons_succ, List.set_cons_zero]
                  refine wpList_val (wanted_of rfl rfl rfl rfl) (exec_ld rfl (ev rfl) (ldInt HCU.out)) ?_
                  simp only [Act.put, List.setIfInBounds_toArray, List.set_cons_succ, List.set_cons_zero]
                  refine wpList_val (v := .bool false) (wanted_of rfl rfl rfl rfl) (exec_eqInt false rfl (ev rfl) evk H60.out) ?_
                  simp only [Act.put, List.setIfInBounds_toArray, List.set_cons_succ, List.set_cons_zero]
                  refine wpList_val (v := .bool false) (wanted_of rfl rfl rfl rfl) (exec_pf rfl (ev rfl) (ev rfl)) ?_
                  simp only [Act.put, List.setIfInBounds_toArray, List.set_cons_succ, List.set_cons_zero]
                  refine wpList_valn (v := .bool false) rfl (exec_pt rfl (ev rfl) (ev rfl)) ?_
                  simp only [Act.put, List.setIfInBounds_toArray, List.set_cons_succ, List.set_cons_zero]
                  refine wpList_valn (v := .bool false) rfl (exec_as rfl (ev rfl)) ?_
                  simp only [Act.put, List.setIfInBounds_toArray, List.set_cons_succ, List.set_cons_zero]
                  refine wpList_nil ?_
                  go_wp2_with fail
                  go_ret
                  exact ⟨ret_bool (by rw [HF.out]; rw [decide_eq_true q1, decide_eq_false (by omega)]; rfl), HB2.out⟩
            · have H52 : Hid (decide (c < s) = false) := Lib.hid (decide_eq_false q3)
              go_upto_region 11 with fail
              refine wp_region_lit ?_
              refine wpList_valn rfl (exec_mv rfl (ev rfl)) ?_
              simp only [Act.put, List.setIfInBounds_toArray, List.set_cons_succ, List.set_cons_zero]
              refine wpList_valn (v := .bool true) rfl (exec_leq true rfl (ev rfl) evk H40.out) ?_
              simp only [Act.put, List.setIfInBounds_toArray, List.set_cons_succ, List.set_cons_zero]
              refine wpList_valn (v := .bool true) rfl (exec_mv rfl (ev rfl)) ?_
              simp only [Act.put, List.setIfInBounds_toArray, List.set_cons_succ, List.set_cons_zero]
              refine wpList_val (wanted_of rfl rfl rfl rfl) (exec_faddr rfl (ev rfl) faR2) ?_
              simp only [Act.put, List.setIfInBounds_toArray, List.set_cons_succ, List.set_cons_zero]
              refine wpList_val (wanted_of rfl rfl rfl rfl) (exec_ld rfl (ev rfl) (ldInt HCU.out)) ?_
              simp only [Act.put, List.setIfInBounds_toArray, List.set_cons_succ, List.set_cons_zero]
              refine wpList_val (v := .bool true) (wanted_of rfl rfl rfl rfl) (exec_geq true rfl (ev rfl) evk H44.out) ?_
              simp only [Act.put, List.setIfInBounds_toArray, List.set_cons_succ, List.set_cons_zero]
              refine wpList_valn (v := .bool true) rfl (exec_pt rfl (ev rfl) (ev rfl)) ?_
              simp only [Act.put, List.setIfInBounds_toArray, List.set_cons_succ, List.set_cons_zero]
              refine wpList_valn (v := .bool true) rfl (exec_mv rfl (ev rfl)) ?_
              simp only [Act.put, List.setIfInBounds_toArray, List.set_cons_succ, List.set_cons_zero]
              refine wpList_val (wanted_of rfl rfl rfl rfl) (exec_faddr rfl (ev rfl) faR2) ?_
              simp only [Act.put, List.setIfInBounds_toArray, List.set_cons_succ, List.set_cons_zero]
              refine wpList_val (wanted_of rfl rfl rfl rfl) (exec_ld rfl (ev rfl) (ldInt HCU.out)) ?_
              simp only [Act.put, List.setIfInBounds_toArray, List.set_cons_succ, List.set_cons_zero]
              refine wpList_val (wanted_of rfl rfl rfl rfl) (exec_faddr rfl (ev rfl) faR0) ?_
              simp only [Act.put, List.setIfInBounds_toArray, List.set_cons_succ, List.set_cons_zero]
              refine wpList_val (wanted_of rfl rfl rfl rfl) (exec_faddr rfl (ev rfl) faG1) ?_
              simp only [Act.put, List.setIfInBounds_toArray, List.set_cons_succ, List.set_cons_zero]
              refine wpList_val (wanted_of rfl rfl rfl rfl) (exec_ld rfl (ev rfl) (ldInt HSS.out)) ?_
              simp only [Act.put, List.setIfInBounds_toArray, List.set_cons_succ, List.set_cons_zero]
              refine wpList_val (v := .bool false) (wanted_of rfl rfl rfl rfl) (exec_lss false rfl (ev rfl) (ev rfl) H52.out) ?_
              simp only [Act.put, List.setIfInBounds_toArray, List.set_cons_succ, List.set_cons_zero]
              refine wpList_valn (v := .bool false) rfl (exec_pt rfl (ev rfl) (ev rfl)) ?_
              simp only [Act.put, List.setIfInBounds_toArray, List.set_cons_succ, List.set_cons_zero]
              refine wpList_skips 7 (v := .bool false) rfl (exec_mv rfl (ev rfl)) (by kernel_rfl) ?_
              simp only [skipAct, List.take_succ_cons, List.take_zero, List.drop_succ_cons, List.drop_zero, Act.put, List.setIfInBounds_toArray, List.set_cons_succ, List.set_cons_zero]
              refine wpList_valn (v := .bool false) rfl (exec_pf rfl (ev rfl) evk) ?_
              simp only [Act.put, List.setIfInBounds_toArray, List.set_cons_succ, List.set_cons_zero]
              refine wpList_valn (v := .bool false) rfl (exec_as rfl (ev rfl)) ?_
              simp only [Act.put, List.setIfInBounds_toArray, List.set_cons_succ, List.set_cons_zero]
              refine wpList_nil ?_
              go_wp2_with fail
              go_ret
              exact ⟨ret_bool (by rw [HF.out]; rw [decide_eq_true q1, decide_eq_false (by omega)]; rfl), HB2.out⟩
          · have H44 : Hid (decide ((0 : Int) ≤ c) = false) := Lib.hid (decide_eq_false q2)
            go_upto_region 11 with fail
            refine wp_region_lit ?_
            refine wpList_valn rfl (exec_mv rfl (ev rfl)) ?_
            simp only [Act.put, List.setIfInBounds_toArray, List.set_cons_succ, List.set_cons_zero]
            refine wpList_valn (v := .bool true) rfl (exec_leq true rfl (ev rfl) evk H40.out) ?_
            simp only [Act.put, List.setIfInBounds_toArray, List.set_cons_succ, List.set_cons_zero]
            refine wpList_valn (v := .bool true) rfl (exec_mv rfl (ev rfl)) ?_
            simp only [Act.put, List.setIfInBounds_toArray, List.set_cons_succ, List.set_cons_zero]
            refine wpList_val (wanted_of rfl rfl rfl rfl) (exec_faddr rfl (ev rfl) faR2) ?_
            simp only [Act.put, List.setIfInBounds_toArray, List.set_cons_succ, List.set_cons_zero]
            refine wpList_val (wanted_of rfl rfl rfl rfl) (exec_ld rfl (ev rfl) (ldInt HCU.out)) ?_
            simp only [Act.put, List.setIfInBounds_toArray, List.set_cons_succ, List.set_cons_zero]
            refine wpList_val (v := .bool false) (wanted_of rfl rfl rfl rfl) (exec_geq false rfl (ev rfl) evk H44.out) ?_
            simp only [Act.put, List.setIfInBounds_toArray, List.set_cons_succ, List.set_cons_zero]
            refine wpList_valn (v := .bool false) rfl (exec_pt rfl (ev rfl) (ev rfl)) ?_
            simp only [Act.put, List.setIfInBounds_toArray, List.set_cons_succ, List.set_cons_zero]
            refine wpList_skips 6 (v := .bool false) rfl (exec_mv rfl (ev rfl)) (by kernel_rfl) ?_
            simp only [skipAct, List.take_succ_cons, List.take_zero, List.drop_succ_cons, List.drop_zero, Act.put, List.setIfInBounds_toArray, List.set_cons_succ, List.set_cons_zero]
            refine wpList_valn (v := .bool false) rfl (exec_pf rfl (ev rfl) evk) ?_
            simp only [Act.put, List.setIfInBounds_toArray, List.set_cons_succ, List.set_cons_zero]
            refine wpList_skips 7 (v := .bool false) rfl (exec_mv rfl (ev rfl)) (by kernel_rfl) ?_
            simp only [skipAct, List.take_succ_cons, List.take_zero, List.drop_succ_cons, List.drop_zero, Act.put, List.setIfInBounds_toArray, List.set_cons_succ, List.set_cons_zero]
            refine wpList_valn (v := .bool false) rfl (exec_pf rfl (ev rfl) evk) ?_
            simp only [Act.put, List.setIfInBounds_toArray, List.set_cons_succ, List.set_cons_zero]
            refine wpList_valn (v := .bool false) rfl (exec_as rfl (ev rfl)) ?_
            simp only [Act.put, List.setIfInBounds_toArray, List.set_cons_succ, List.set_cons_zero]
            refine wpList_nil ?_
            go_wp2_with fail
            go_ret
            exact ⟨ret_bool (by rw [HF.out]; rw [decide_eq_true q1, decide_eq_false (by omega)]; rfl), HB2.out⟩
        · have H40 : Hid (decide ((n : Int) ≤ 1) = false) := Lib.hid (decide_eq_false (by omega))
          go_upto_region 11 with fail
          refine wp_region_lit ?_
          refine wpList_valn rfl (exec_mv rfl (ev rfl)) ?_
          simp only [Act.put, List.setIfInBounds_toArray, List.set_cons_succ, List.set_cons_zero]
          refine wpList_valn (v := .bool false) rfl (exec_leq false rfl (ev rfl) evk H40.out) ?_
          simp only [Act.put, List.setIfInBounds_toArray, List.set_cons_succ, List.set_cons_zero]
          refine wpList_skips 3 (v := .bool false) rfl (exec_mv rfl (ev rfl)) (by kernel_rfl) ?_
          simp only [skipAct, List.take_succ_cons, List.take_zero, List.drop_succ_cons, List.drop_zero, Act.put, List.setIfInBounds_toArray, List.set_cons_succ, List.set_cons_zero]
          refine wpList_valn (v := .bool false) rfl (exec_pf rfl (ev rfl) evk) ?_
          simp only [Act.put, List.setIfInBounds_toArray, List.set_cons_succ, List.set_cons_zero]
          refine wpList_skips 6 (v := .bool false) rfl (exec_mv rfl (ev rfl)) (by kernel_rfl) ?_
          simp only [skipAct, List.take_succ_cons, List.take_zero, List.drop_succ_cons, List.drop_zero, Act.put, List.setIfInBounds_toArray, List.set_cons_succ, List.set_cons_zero]
          refine wpList_valn (v := .bool false) rfl (exec_pf rfl (ev rfl) evk) ?_
          simp only [Act.put, List.setIfInBounds_toArray, List.set_cons_succ, List.set_cons_zero]
          refine wpList_skips 7 (v := .bool false) rfl (exec_mv rfl (ev rfl)) (by kernel_rfl) ?_
          simp only [skipAct, List.take_succ_cons, List.take_zero, List.drop_succ_cons, List.drop_zero, Act.put, List.setIfInBounds_toArray, List.set_cons_succ, List.set_cons_zero]
          refine wpList_valn (v := .bool false) rfl (exec_pf rfl (ev rfl) evk) ?_
          simp only [Act.put, List.setIfInBounds_toArray, List.set_cons_succ, List.set_cons_zero]
          refine wpList_valn (v := .bool false) rfl (exec_as rfl (ev rfl)) ?_
          simp only [Act.put, List.setIfInBounds_toArray, List.set_cons_succ, List.set_cons_zero]
          refine wpList_nil ?_
          go_wp2_with fail
          go_ret
          exact ⟨ret_bool (by rw [HF.out]; rw [decide_eq_false q1]; rfl), HB2.out⟩
set_option maxHeartbeats 2000000 in
theorem rmay (x : Sup) (w : World) : Calls Tryd.prog 11 #[sup x] w fun e w' => e = .returned (.bool (supB x)) ∧ Below w.heap.size w w' := by
  have HF := Lib.hid (sup_split x)
  obtain ⟨h1, h2, h3⟩ := boxS_new w x
  have HR := Lib.hid h1
  have HB := Lib.hid h2
  have HZ := Lib.hid h3
  obtain ⟨c0, c1, c2, c3, c4, c5, c6⟩ := h1.cells
  clear h1 h2 h3
  go_enter Tryd.func11, Tryd.ntmps11
  by_cases hid : x.id = 0
  · rw [decide_eq_false (by simpa using hid)] at HF
    have hd : ((x.id : Int) != 0) = false := by rw [hid]; rfl
    go_wp2_with (first | (refine wpList_valn rfl (exec_boxS rfl rfl) ?_) | fail)
    go_ret
    exact ⟨ret_bool (by rw [HF.out]; rfl), HB.out⟩
  · rw [decide_eq_true (by simpa using hid)] at HF
    have hd : ((x.id : Int) != 0) = true := by simp; omega
    go_wp2_with (first | (refine wpList_valn rfl (exec_boxS rfl rfl) ?_) | (refine wpList_val (by rfl) (exec_loadR (c := x.ros) rfl rfl ?_) ?_; (with_reducible exact HR.out.rosr)) | fail)
    generalize w.alloc (.cells (celS x).toArray 29) = w1 at *
    clear c0 c1 c2 c3 c4 c5 c6
    refine (rfine x.ros w1).mono ?_
    rintro e w2 ⟨rfl, hb⟩
    obtain ⟨c0, c1, c2, c3, c4, c5, c6⟩ := (HR.out.below HZ.out hb).cells
    have HB2 := Lib.hid (HB.out.trans (hb.mono (Nat.le_of_lt HZ.out)))
    clear hb HR HB HZ hd hid
    generalize fineB x.ros = p at *
    generalize x.self = a at *
    generalize x.ros.m = m at *
    cases p
    · go_wp2_with fail
      go_ret
      exact ⟨ret_bool (by rw [HF.out]; rfl), HB2.out⟩
    · by_cases ha : 0 ≤ a
      · go_wp2
        go_ret
        exact ⟨ret_bool (by rw [HF.out]; simp [ha]), HB2.out⟩
      · have ha' : a < 0 := by omega
        go_wp2
        go_ret
        exact ⟨ret_bool (by rw [HF.out]; simp; omega), HB2.out⟩
end Go.Proofs.YtiilclncedipiaaDoor
namespace Go.Proofs.YtiilclncedipiaaDoor
open Go.RowKit
set_option linter.unusedVariables false
set_option linter.unusedSimpArgs false
set_option maxRecDepth 100000

set_option maxHeartbeats 1000000 in
theorem rlaid1 (B : Nat) (v : Value) (a : List UInt8) (n k : Nat) (w : World) (hm : Made w B v a) (hB : B ≤ w.heap.size) (ha : a.length ≤ 100) (hn : n < 18446744073709551616) (h1 : 1 ≤ k) (h2 : k ≤ 8) (hk : n < 2 ^ (8 * k)) :
    Calls Tryd.prog 49 #[v, .int .u64 n, .int .i64 k] w fun e w' => ∃ v', e = .returned v' ∧ Made w' B v' (a ++ digL 8 k n) ∧ Below B w w' := by
  have HM := Lib.hid hm
  have HB := Lib.hid hB
  have HK := Lib.hid hk
  clear hm hB hk
  obtain ⟨A0, c0, rfl, _, _⟩ := HM.out.form
  go_enter Tryd.func49, Tryd.ntmps49
  go_wp2_with fail
  refine (rput_ok n k _ w (Lib.hid rfl) hn h1 h2 HK.out).mono ?_
  rintro e w1 ⟨v1, rfl, hm1, hb1⟩
  obtain ⟨A1, c1, rfl, hr1, _, _⟩ := hm1.open_ (length_digL 8 k n)
  have HM1 := Lib.hid (HM.out.below hb1)
  have HR1 := Lib.hid hr1
  have HB1 : Hid (B ≤ w1.heap.size) := Lib.hid (Nat.le_trans HB.out hb1.size)
  have HBB := Lib.hid (hb1.mono HB.out)
  clear hm1 hr1 hb1
  go_wp2_with (first | (refine wpList_app rfl _ _ rfl B _ k c1 _ a (digL 8 k n) A1 rfl rfl HM1.out HR1.out HB1.out ?_ ?_) | fail)
  · omega
  intro v2 w2 hm2 hg2
  have HM2 := Lib.hid hm2
  have HB2 := Lib.hid (HBB.out.grown hg2 HB1.out (fun k hk => (HM1.out.lt k hk).1))
  clear hm2 hg2
  go_wp2_with fail
  go_ret
  exact ⟨_, rfl, HM2.out, HB2.out⟩
set_option maxHeartbeats 1000000 in
theorem rnumber (A : Option Addr) (n c N : Nat) (b : List UInt8) (p k : Nat) (w : World) (hb : Rd w N A n b) (hn : n ≤ maxLen) (h1 : 1 ≤ k) (h2 : k ≤ 4) (h3 : p + k ≤ n) :
    Calls Tryd.prog 36 #[.slice A n c, .int .i64 p, .int .i64 k] w fun e w' => e = .returned (.int .i64 (val 8 (piece b p k) : Nat)) ∧ w = w' := by
  have hv : val 8 (piece b p k) < 4294967296 := by
    have h := val_piece_lt (b := b) (p := p) (k := k) (by have := hb.1; omega)
    have h4 : 2 ^ (k * 8) ≤ 2 ^ 32 := Nat.pow_le_pow_right (by omega) (by omega)
    omega
  go_enter Tryd.func36, Tryd.ntmps36
  go_wp2_with fail
  refine (rget_ok A n c N b p k w hb hn h1 (by omega) h3).mono ?_
  rintro e w' ⟨rfl, rfl⟩
  obtain ⟨v, hvv⟩ : ∃ v, val 8 (piece b p k) = v := ⟨_, rfl⟩
  rw [hvv] at hv
  rw [hvv]
  have HV := Lib.hid hvv
  clear hvv
  go_wp2_with fail
  go_ret
  exact ⟨by rw [HV.out]; rfl, rfl⟩
theorem body_yes {x : Sup} (h : x.ros.gone = true) : digL 8 8 x.id ++ digL 8 1 x.ros.m.toNat ++ digL 8 2 x.ros.s.toNat ++ digL 8 2 x.ros.r.toNat ++ digL 8 1 x.self.toNat ++ digL 8 4 (val 2 x.ros.st.toList) ++ digL 8 2 x.ros.cur.toNat ++ [1] = bodyL x := by
  unfold bodyL goneN
  rw [h]
  simp only [List.append_assoc, if_true]
  rfl
theorem body_no {x : Sup} (h : x.ros.gone = false) : digL 8 8 x.id ++ digL 8 1 x.ros.m.toNat ++ digL 8 2 x.ros.s.toNat ++ digL 8 2 x.ros.r.toNat ++ digL 8 1 x.self.toNat ++ digL 8 4 (val 2 x.ros.st.toList) ++ digL 8 2 x.ros.cur.toNat ++ [0] = bodyL x := by
  unfold bodyL goneN
  rw [h]
  simp only [List.append_assoc, Bool.false_eq_true, if_false]
  rfl
set_option maxHeartbeats 4000000 in
theorem rbody (x : Sup) (w : World) (hid : x.id < 18446744073709551616) (hx : supB x = true) : Calls Tryd.prog 27 #[sup x] w fun e w' => ∃ v, e = .returned v ∧ Made w' w.heap.size v (bodyL x) ∧ Below w.heap.size w w' := by
  obtain ⟨h1, h2, h3⟩ := boxS_new w x
  have HS0 := Lib.hid h1
  have HB0 := Lib.hid h2
  have HZ0 : Hid (w.heap.size + 1 ≤ (w.alloc (.cells (celS x).toArray 29)).heap.size) := Lib.hid h3
  clear h1 h2 h3
  obtain ⟨_, hf, q1, q2⟩ := of_supB hx
  obtain ⟨hgeo, hsta, _, q3, q4, _⟩ := of_fineB hf
  obtain ⟨g1, g2, g3, g4, g5, g6⟩ := of_geoB hgeo
  have HNAR : Hid (narrow 2 x.ros.st.toList = true) := Lib.hid (by
    unfold narrow
    rw [List.all_eq_true]
    intro u hu
    simpa using st_small hsta u hu)
  have HSMALL := Lib.hid (sta_val hsta)
  obtain ⟨M, hM⟩ : ∃ M : Nat, x.ros.m.toNat = M := ⟨_, rfl⟩
  obtain ⟨T, hT⟩ : ∃ T : Nat, x.ros.s.toNat = T := ⟨_, rfl⟩
  obtain ⟨R, hR⟩ : ∃ R : Nat, x.ros.r.toNat = R := ⟨_, rfl⟩
  obtain ⟨E, hE⟩ : ∃ E : Nat, x.self.toNat = E := ⟨_, rfl⟩
  obtain ⟨C, hC⟩ : ∃ C : Nat, x.ros.cur.toNat = C := ⟨_, rfl⟩
  have HCR : Hid (∀ w' rb, RosAt w' rb x.ros → w'.cell? ⟨rb, 0, none⟩ = some (.int .i64 (M : Nat)) ∧ w'.cell? ⟨rb, 1, none⟩ = some (.int .i64 (T : Nat)) ∧ w'.cell? ⟨rb, 2, none⟩ = some (.int .i64 (R : Nat)) ∧ w'.cell? ⟨rb, 19, none⟩ = some (.int .i64 (C : Nat)) ∧ w'.cell? ⟨rb, 20, none⟩ = some (.bool x.ros.gone)) := Lib.hid fun w' rb h => by
    have := h.cells
    rw [show x.ros.m = (M : Int) from by omega, show x.ros.s = (T : Int) from by omega, show x.ros.r = (R : Int) from by omega, show x.ros.cur = (C : Int) from by omega] at this
    exact this
  have HCR2 : Hid (∀ w' sb, SupAt w' sb x → w'.cell? ⟨sb, 2, none⟩ = some (.int .i64 (M : Nat)) ∧ w'.cell? ⟨sb, 3, none⟩ = some (.int .i64 (T : Nat)) ∧ w'.cell? ⟨sb, 4, none⟩ = some (.int .i64 (R : Nat)) ∧ w'.cell? ⟨sb, 21, none⟩ = some (.int .i64 (C : Nat)) ∧ w'.cell? ⟨sb, 22, none⟩ = some (.bool x.ros.gone)) := Lib.hid fun w' sb h => by
    have := h.cells.2.2
    rw [show x.ros.m = (M : Int) from by omega, show x.ros.s = (T : Int) from by omega, show x.ros.r = (R : Int) from by omega, show x.ros.cur = (C : Int) from by omega] at this
    exact this
  have HCS : Hid (∀ w' sb, SupAt w' sb x → w'.cell? ⟨sb, 0, none⟩ = some (.int .u64 x.id) ∧ w'.cell? ⟨sb, 1, none⟩ = some (.int .i64 (E : Nat))) := Lib.hid fun w' sb h => by
    have := h.cells
    rw [show x.self = (E : Int) from by omega] at this
    exact ⟨this.1, this.2.1⟩
  have hM16 : M ≤ 16 := by omega
  have hT64 : T ≤ 64 := by omega
  have hR256 : R ≤ 256 := by omega
  have hE16 : E ≤ 16 := by omega
  have hC64 : C ≤ 64 := by omega
  have HYES := fun h => Lib.hid (body_yes (x := x) h)
  have HNO := fun h => Lib.hid (body_no (x := x) h)
  rw [hM, hT, hR, hE, hC] at HYES HNO
  clear hf q1 q2 hgeo hsta q3 q4 g1 g2 g3 g4 g5 g6 hM hT hR hE hC hx
  go_enter Tryd.func27, Tryd.ntmps27
  go_upto_region 1 with (first | (refine wpList_valn rfl (exec_boxS rfl rfl) ?_) | fail)
  generalize w.alloc (.cells (celS x).toArray 29) = w1 at *
  obtain ⟨s, hs⟩ : ∃ s, w.heap.size = s := ⟨_, rfl⟩
  have HSD := Lib.hid hs
  rw [hs] at HS0 HB0 HZ0 ⊢
  clear hs
  have HM0 : Hid (Made w1 (s + 1) (.slice none 0 0) []) := Lib.hid (World.ownsRow_nil _ _ _ _)
  have HX := Lib.hid hid
  clear hid
  obtain ⟨c0, c1⟩ := HCS.out _ _ HS0.out
  obtain ⟨d0, d1, d2, d3, d4⟩ := HCR2.out _ _ HS0.out
  go_wp2_with fail
  refine (rlaid1 (s + 1) _ _ x.id 8 w1 HM0.out HZ0.out (by simp [length_digL]) (by exact HX.out) (by omega) (by omega) (by exact HX.out)).mono ?_
  rintro e w2 ⟨v1, rfl, hm, hb⟩
  have HM1 := Lib.hid hm
  have HS1 := Lib.hid (HS0.out.below (Nat.lt_succ_self _) hb)
  have HB1 := Lib.hid (HB0.out.trans (hb.mono (Nat.le_succ _)))
  have HZ1 : Hid (s + 1 ≤ w2.heap.size) := Lib.hid (Nat.le_trans HZ0.out hb.size)
  clear hm hb HM0 HS0 HB0 HZ0 c0 c1 d0 d1 d2 d3 d4
  obtain ⟨c0, c1⟩ := HCS.out _ _ HS1.out
  obtain ⟨d0, d1, d2, d3, d4⟩ := HCR2.out _ _ HS1.out
  go_wp2_with fail
  refine (rlaid1 (s + 1) _ _ M 1 w2 HM1.out HZ1.out (by simp [length_digL]) (by omega) (by omega) (by omega) (by omega)).mono ?_
  rintro e w3 ⟨v2, rfl, hm, hb⟩
  have HM2 := Lib.hid hm
  have HS2 := Lib.hid (HS1.out.below (Nat.lt_succ_self _) hb)
  have HB2 := Lib.hid (HB1.out.trans (hb.mono (Nat.le_succ _)))
  have HZ2 : Hid (s + 1 ≤ w3.heap.size) := Lib.hid (Nat.le_trans HZ1.out hb.size)
  clear hm hb HM1 HS1 HB1 HZ1 c0 c1 d0 d1 d2 d3 d4
  obtain ⟨c0, c1⟩ := HCS.out _ _ HS2.out
  obtain ⟨d0, d1, d2, d3, d4⟩ := HCR2.out _ _ HS2.out
  go_wp2_with fail
  refine (rlaid1 (s + 1) _ _ T 2 w3 HM2.out HZ2.out (by simp [length_digL]) (by omega) (by omega) (by omega) (by omega)).mono ?_
  rintro e w4 ⟨v3, rfl, hm, hb⟩
  have HM3 := Lib.hid hm
  have HS3 := Lib.hid (HS2.out.below (Nat.lt_succ_self _) hb)
  have HB3 := Lib.hid (HB2.out.trans (hb.mono (Nat.le_succ _)))
  have HZ3 : Hid (s + 1 ≤ w4.heap.size) := Lib.hid (Nat.le_trans HZ2.out hb.size)
  clear hm hb HM2 HS2 HB2 HZ2 c0 c1 d0 d1 d2 d3 d4
  obtain ⟨c0, c1⟩ := HCS.out _ _ HS3.out
  obtain ⟨d0, d1, d2, d3, d4⟩ := HCR2.out _ _ HS3.out
  go_wp2_with fail
  refine (rlaid1 (s + 1) _ _ R 2 w4 HM3.out HZ3.out (by simp [length_digL]) (by omega) (by omega) (by omega) (by omega)).mono ?_
  rintro e w5 ⟨v4, rfl, hm, hb⟩
  have HM4 := Lib.hid hm
  have HS4 := Lib.hid (HS3.out.below (Nat.lt_succ_self _) hb)
  have HB4 := Lib.hid (HB3.out.trans (hb.mono (Nat.le_succ _)))
  have HZ4 : Hid (s + 1 ≤ w5.heap.size) := Lib.hid (Nat.le_trans HZ3.out hb.size)
  clear hm hb HM3 HS3 HB3 HZ3 c0 c1 d0 d1 d2 d3 d4
  obtain ⟨c0, c1⟩ := HCS.out _ _ HS4.out
  obtain ⟨d0, d1, d2, d3, d4⟩ := HCR2.out _ _ HS4.out
  go_wp2_with fail
  refine (rlaid1 (s + 1) _ _ E 1 w5 HM4.out HZ4.out (by simp [length_digL]) (by omega) (by omega) (by omega) (by omega)).mono ?_
  rintro e w6 ⟨v5, rfl, hm, hb⟩
  have HM5 := Lib.hid hm
  have HS5 := Lib.hid (HS4.out.below (Nat.lt_succ_self _) hb)
  have HB5 := Lib.hid (HB4.out.trans (hb.mono (Nat.le_succ _)))
  have HZ5 : Hid (s + 1 ≤ w6.heap.size) := Lib.hid (Nat.le_trans HZ4.out hb.size)
  clear hm hb HM4 HS4 HB4 HZ4 c0 c1 d0 d1 d2 d3 d4
  have HRD := Lib.hid HS5.out.rd
  go_wp2_with (first | (refine wpList_valn rfl (exec_all16 rfl rfl) ?_) | fail)
  refine (rbits_any _ 16 16 _ 2 _ x.ros.st.toList w6 (Lib.hid rfl) HRD.out (Nat.le_refl _) (by omega) (by omega) (by omega)).mono ?_
  rintro e w7 ⟨⟨hy, _⟩, hb⟩
  obtain ⟨vb, rfl, hmb⟩ := hy HNAR.out
  rw [show bytesOf 16 2 = 4 from rfl] at hmb
  obtain ⟨Ab, cb, rfl, hrb, _, _⟩ := hmb.open_ (length_digL 8 4 _)
  have HRB := Lib.hid hrb
  have HM6 := Lib.hid (HM5.out.below hb)
  have HS6 := Lib.hid (HS5.out.below (blk_lt HS5.out) hb)
  have HB6 := Lib.hid (HB5.out.trans (hb.mono (Nat.le_trans (Nat.le_succ s) HZ5.out)))
  have HZ6 : Hid (s + 1 ≤ w7.heap.size) := Lib.hid (Nat.le_trans HZ5.out hb.size)
  clear hmb hrb hb HM5 HS5 HB5 HZ5 HRD hy
  obtain ⟨a, ha⟩ : ∃ a, [] ++ digL 8 8 x.id ++ digL 8 1 M ++ digL 8 2 T ++ digL 8 2 R ++ digL 8 1 E = a := ⟨_, rfl⟩
  have hal : a.length = 14 := by rw [← ha]; simp [length_digL]
  rw [ha] at HM6
  have HA := Lib.hid ha
  have HAL := Lib.hid hal
  clear ha hal
  go_wp2_with (first | (refine wpList_app rfl _ _ rfl (s + 1) _ 4 cb _ a (digL 8 4 (val 2 x.ros.st.toList)) Ab rfl rfl HM6.out HRB.out HZ6.out ?_ ?_) | fail)
  · rw [HAL.out]; omega
  intro v8 w8 hm8 hg8
  have hb8 : Below (s + 1) w7 w8 := (Below.refl _ _).grown hg8 HZ6.out (fun k hk => (HM6.out.lt k hk).1)
  have HM7 := Lib.hid hm8
  have HS7 := Lib.hid (HS6.out.below (Nat.lt_succ_self _) hb8)
  have HB7 := Lib.hid (HB6.out.trans (hb8.mono (Nat.le_succ _)))
  have HZ7 : Hid (s + 1 ≤ w8.heap.size) := Lib.hid (Nat.le_trans HZ6.out hb8.size)
  clear hm8 hg8 hb8 HM6 HS6 HB6 HZ6 HRB
  obtain ⟨c0, c1⟩ := HCS.out _ _ HS7.out
  obtain ⟨d0, d1, d2, d3, d4⟩ := HCR2.out _ _ HS7.out
  go_wp2_with fail
  refine (rlaid1 (s + 1) _ _ C 2 w8 HM7.out HZ7.out (by rw [List.length_append, HAL.out, length_digL]; omega) (by omega) (by omega) (by omega) (by omega)).mono ?_
  rintro e w9 ⟨v9, rfl, hm, hb⟩
  have HM8 := Lib.hid hm
  have HS8 := Lib.hid (HS7.out.below (Nat.lt_succ_self _) hb)
  have HB8 := Lib.hid (HB7.out.trans (hb.mono (Nat.le_succ _)))
  have HZ8 : Hid (s + 1 ≤ w9.heap.size) := Lib.hid (Nat.le_trans HZ7.out hb.size)
  clear hm hb HM7 HS7 HB7 HZ7 c0 c1 d0 d1 d2 d3 d4
  have d4 := (HCR2.out _ _ HS8.out).2.2.2.2
  cases hgn : x.ros.gone
  · have HF := HNO hgn
    rw [hgn] at d4
    have HMA := Lib.hid (HM8.out.below ((Below.refl _ w9).alloc (Nat.le_refl _) (.cells #[.int .u8 0] 5)))
    have HRA := Lib.hid (rd_new w9 [0] #[.int .u8 0] rfl)
    have HZA : Hid (s + 1 ≤ (w9.alloc (.cells #[.int .u8 0] 5)).heap.size) := Lib.hid (by have := HZ8.out; simp only [World.size_alloc]; omega)
    have HBA := Lib.hid (HB8.out.alloc (Nat.le_trans (Nat.le_succ s) HZ8.out) (.cells #[.int .u8 0] 5))
    clear HYES HNO hgn
    go_wp2_with (first | (refine wpList_app rfl _ _ rfl (s + 1) _ 1 1 _ _ [0] _ rfl rfl HMA.out HRA.out HZA.out ?_ ?_) | fail)
    · rw [List.length_append, List.length_append, HAL.out, length_digL, length_digL]; omega
    intro v10 w10 hm10 hg10
    rw [← HA.out] at hm10
    have hF := HF.out
    simp only [List.append_assoc] at hF
    simp only [List.nil_append, List.append_assoc] at hm10
    rw [hF] at hm10
    clear hF
    have HM10 := Lib.hid hm10
    have HB10 := Lib.hid (HBA.out.grown hg10 (Nat.le_trans (Nat.le_succ s) HZA.out) (fun k hk => Nat.le_trans (Nat.le_succ s) (HMA.out.lt k hk).1))
    clear hm10 hg10
    go_wp2_with fail
    go_ret
    exact ⟨_, rfl, by rw [HSD.out]; exact HM10.out.base (Nat.le_succ _), by rw [HSD.out]; exact HB10.out⟩
  · have HF := HYES hgn
    rw [hgn] at d4
    have HMA := Lib.hid (HM8.out.below ((Below.refl _ w9).alloc (Nat.le_refl _) (.cells #[.int .u8 1] 5)))
    have HRA := Lib.hid (rd_new w9 [1] #[.int .u8 1] rfl)
    have HZA : Hid (s + 1 ≤ (w9.alloc (.cells #[.int .u8 1] 5)).heap.size) := Lib.hid (by have := HZ8.out; simp only [World.size_alloc]; omega)
    have HBA := Lib.hid (HB8.out.alloc (Nat.le_trans (Nat.le_succ s) HZ8.out) (.cells #[.int .u8 1] 5))
    clear HYES HNO hgn
    go_wp2_with (first | (refine wpList_app rfl _ _ rfl (s + 1) _ 1 1 _ _ [1] _ rfl rfl HMA.out HRA.out HZA.out ?_ ?_) | fail)
    · rw [List.length_append, List.length_append, HAL.out, length_digL, length_digL]; omega
    intro v10 w10 hm10 hg10
    rw [← HA.out] at hm10
    have hF := HF.out
    simp only [List.append_assoc] at hF
    simp only [List.nil_append, List.append_assoc] at hm10
    rw [hF] at hm10
    clear hF
    have HM10 := Lib.hid hm10
    have HB10 := Lib.hid (HBA.out.grown hg10 (Nat.le_trans (Nat.le_succ s) HZA.out) (fun k hk => Nat.le_trans (Nat.le_succ s) (HMA.out.lt k hk).1))
    clear hm10 hg10
    go_wp2_with fail
    go_ret
    exact ⟨_, rfl, by rw [HSD.out]; exact HM10.out.base (Nat.le_succ _), by rw [HSD.out]; exact HB10.out⟩
end Go.Proofs.YtiilclncedipiaaDoor
namespace Go.Proofs.YtiilclncedipiaaDoor
open Go.RowKit
set_option linter.unusedVariables false
set_option linter.unusedSimpArgs false
set_option maxRecDepth 100000

section
variable {ρ : Operand → Value} {o : Oper} {x y : Operand} {w : World} {r : TypeId}
theorem ldBool {ad : Addr} {k : Bool} (h : w.cell? ad = some (.bool k)) : (Instr.loadAt 4 (.pointer (some ad))).run Tryd.prog w = .ok (.bool k) w := by simp [go_sem, h]
theorem exec_neBool {a b : Bool} (c : Bool) (ho : o.op = .binOp .neq 4 x y r) (hx : ρ x = .bool a) (hy : ρ y = .bool b) (h : (a != b) = c) : (execOp ρ o).run Tryd.prog w = .ok (.value (.bool c)) w := by
  have he := run_equalIn_bool' (P := Tryd.prog) w 9999 4 a b Tryd.underlying4
  have h' : (!(a == b)) = c := h
  unfold execOp
  simp [ho, hx, hy, eqGuard, binOp, Op.equal, Op.maxDepth, he]
  simpa using h'
theorem faR3 {b : Nat} : (Instr.fieldAt 27 (.pointer (some ⟨b, 0, none⟩)) 3).run Tryd.prog w = .ok (.pointer (some ⟨b, 20, none⟩)) w := by kernel_rfl
theorem faG2 {b : Nat} : (Instr.fieldAt 24 (.pointer (some ⟨b, 0, none⟩)) 2).run Tryd.prog w = .ok (.pointer (some ⟨b, 2, none⟩)) w := by kernel_rfl
end
set_option maxHeartbeats 2000000 in
theorem rrosters (x y : Ros) (w : World) : Calls Tryd.prog 13 #[ros x, ros y] w fun e w' => e = .returned (.bool (decide (x = y))) ∧ Below w.heap.size w w' := by
  obtain ⟨h1, h2, h3⟩ := boxR_new w x
  have HX := Lib.hid (h1.past (.cells (celR y).toArray 27))
  have HY : Hid (RosAt ((w.alloc (.cells (celR x).toArray 27)).alloc (.cells (celR y).toArray 27)) (w.heap.size + 1) y) := Lib.hid (by
    have := RosAt.new (w.alloc (.cells (celR x).toArray 27)) y
    rwa [World.size_alloc] at this)
  have HB := Lib.hid (h2.alloc h2.size (.cells (celR y).toArray 27))
  clear h1 h2 h3
  go_enter Tryd.func13, Tryd.ntmps13
  go_upto_region 1 with (first | (refine wpList_valn rfl (exec_boxR rfl rfl) ?_) | fail)
  try simp only [World.size_alloc]
  generalize (w.alloc (.cells (celR x).toArray 27)).alloc (.cells (celR y).toArray 27) = w1 at *
  have HXm := Lib.hid HX.out.cells.1
  have HXs := Lib.hid HX.out.cells.2.1
  have HXr := Lib.hid HX.out.cells.2.2.1
  have HXc := Lib.hid HX.out.cells.2.2.2.1
  have HXg := Lib.hid HX.out.cells.2.2.2.2
  have HYm := Lib.hid HY.out.cells.1
  have HYs := Lib.hid HY.out.cells.2.1
  have HYr := Lib.hid HY.out.cells.2.2.1
  have HYc := Lib.hid HY.out.cells.2.2.2.1
  have HYg := Lib.hid HY.out.cells.2.2.2.2
  by_cases qm : x.m = y.m
  · have HDm : Hid ((x.m != y.m) = false) := Lib.hid (by rw [qm]; simp)
    by_cases qs : x.s = y.s
    · have HDs : Hid ((x.s != y.s) = false) := Lib.hid (by rw [qs]; simp)
      by_cases qr : x.r = y.r
      · have HDr : Hid ((x.r != y.r) = false) := Lib.hid (by rw [qr]; simp)
        by_cases qc : x.cur = y.cur
        · have HDc : Hid ((x.cur != y.cur) = false) := Lib.hid (by rw [qc]; simp)
          by_cases qg : x.gone = y.gone
          · have HDg : Hid ((x.gone != y.gone) = false) := Lib.hid (by rw [qg]; simp)
            refine wp_region_lit ?_
            refine wpList_valn rfl (exec_faddr rfl (ev rfl) faR0) ?_
            simp only [Act.put, List.setIfInBounds_toArray, List.set_cons_succ, List.set_cons_zero]
            refine wpList_valn rfl (exec_faddr rfl (ev rfl) faG0) ?_
            simp only [Act.put, List.setIfInBounds_toArray, List.set_cons_succ, List.set_cons_zero]
            refine wpList_valn rfl (exec_ld rfl (ev rfl) (ldInt HXm.out)) ?_
            simp only [Act.put, List.setIfInBounds_toArray, List.set_cons_succ, List.set_cons_zero]
            refine wpList_valn rfl (exec_faddr rfl (ev rfl) faR0) ?_
            simp only [Act.put, List.setIfInBounds_toArray, List.set_cons_succ, List.set_cons_zero]
            refine wpList_valn rfl (exec_faddr rfl (ev rfl) faG0) ?_
            simp only [Act.put, List.setIfInBounds_toArray, List.set_cons_succ, List.set_cons_zero]
            refine wpList_valn rfl (exec_ld rfl (ev rfl) (ldInt HYm.out)) ?_
            simp only [Act.put, List.setIfInBounds_toArray, List.set_cons_succ, List.set_cons_zero]
            refine wpList_valn (v := .bool false) rfl (exec_neInt false rfl (ev rfl) (ev rfl) HDm.out) ?_
            simp only [Act.put, List.setIfInBounds_toArray, List.set_cons_succ, List.set_cons_zero]
            refine wpList_valn (v := .bool false) rfl (exec_mv rfl (ev rfl)) ?_
            simp only [Act.put, List.setIfInBounds_toArray, List.set_cons_succ, List.set_cons_zero]
            refine wpList_val (wanted_of rfl rfl rfl rfl) (exec_faddr rfl (ev rfl) faR0) ?_
            simp only [Act.put, List.setIfInBounds_toArray, List.set_cons_succ, List.set_cons_zero]
            refine wpList_val (wanted_of rfl rfl rfl rfl) (exec_faddr rfl (ev rfl) faG1) ?_
            simp only [Act.put, List.setIfInBounds_toArray, List.set_cons_succ, List.set_cons_zero]
            refine wpList_val (wanted_of rfl rfl rfl rfl) (exec_ld rfl (ev rfl) (ldInt HXs.out)) ?_
            simp only [Act.put, List.setIfInBounds_toArray, List.set_cons_succ, List.set_cons_zero]
            refine wpList_val (wanted_of rfl rfl rfl rfl) (exec_faddr rfl (ev rfl) faR0) ?_
            simp only [Act.put, List.setIfInBounds_toArray, List.set_cons_succ, List.set_cons_zero]
            refine wpList_val (wanted_of rfl rfl rfl rfl) (exec_faddr rfl (ev rfl) faG1) ?_
            simp only [Act.put, List.setIfInBounds_toArray, List.set_cons_succ, List.set_cons_zero]
            refine wpList_val (wanted_of rfl rfl rfl rfl) (exec_ld rfl (ev rfl) (ldInt HYs.out)) ?_
            simp only [Act.put, List.setIfInBounds_toArray, List.set_cons_succ, List.set_cons_zero]
            refine wpList_val (v := .bool false) (wanted_of rfl rfl rfl rfl) (exec_neInt false rfl (ev rfl) (ev rfl) HDs.out) ?_
            simp only [Act.put, List.setIfInBounds_toArray, List.set_cons_succ, List.set_cons_zero]
            refine wpList_valn (v := .bool false) rfl (exec_pf rfl (ev rfl) (ev rfl)) ?_
            simp only [Act.put, List.setIfInBounds_toArray, List.set_cons_succ, List.set_cons_zero]
            refine wpList_valn (v := .bool false) rfl (exec_mv rfl (ev rfl)) ?_
            simp only [Act.put, List.setIfInBounds_toArray, List.set_cons_succ, List.set_cons_zero]
            refine wpList_val (wanted_of rfl rfl rfl rfl) (exec_faddr rfl (ev rfl) faR0) ?_
            simp only [Act.put, List.setIfInBounds_toArray, List.set_cons_succ, List.set_cons_zero]
            refine wpList_val (wanted_of rfl rfl rfl rfl) (exec_faddr rfl (ev rfl) faG2) ?_
            simp only [Act.put, List.setIfInBounds_toArray, List.set_cons_succ, List.set_cons_zero]
            refine wpList_val (wanted_of rfl rfl rfl rfl) (exec_ld rfl (ev rfl) (ldInt HXr.out)) ?_
            simp only [Act.put, List.setIfInBounds_toArray, List.set_cons_succ, List.set_cons_zero]
            refine wpList_val (wanted_of rfl rfl rfl rfl) (exec_faddr rfl (ev rfl) faR0) ?_
            simp only [Act.put, List.setIfInBounds_toArray, List.set_cons_succ, List.set_cons_zero]
            refine wpList_val (wanted_of rfl rfl rfl rfl) (exec_faddr rfl (ev rfl) faG2) ?_
            simp only [Act.put, List.setIfInBounds_toArray, List.set_cons_succ, List.set_cons_zero]
            refine wpList_val (wanted_of rfl rfl rfl rfl) (exec_ld rfl (ev rfl) (ldInt HYr.out)) ?_
            simp only [Act.put, List.setIfInBounds_toArray, List.set_cons_succ, List.set_cons_zero]
            refine wpList_val (v := .bool false) (wanted_of rfl rfl rfl rfl) (exec_neInt false rfl (ev rfl) (ev rfl) HDr.out) ?_
            simp only [Act.put, List.setIfInBounds_toArray, List.set_cons_succ, List.set_cons_zero]
            refine wpList_valn (v := .bool false) rfl (exec_pf rfl (ev rfl) (ev rfl)) ?_
            simp only [Act.put, List.setIfInBounds_toArray, List.set_cons_succ, List.set_cons_zero]
            refine wpList_valn (v := .bool false) rfl (exec_mv rfl (ev rfl)) ?_
            simp only [Act.put, List.setIfInBounds_toArray, List.set_cons_succ, List.set_cons_zero]
            refine wpList_val (wanted_of rfl rfl rfl rfl) (exec_faddr rfl (ev rfl) faR2) ?_
            simp only [Act.put, List.setIfInBounds_toArray, List.set_cons_succ, List.set_cons_zero]
            refine wpList_val (wanted_of rfl rfl rfl rfl) (exec_ld rfl (ev rfl) (ldInt HXc.out)) ?_
            simp only [Act.put, List.setIfInBounds_toArray, List.set_cons_succ, List.set_cons_zero]
            refine wpList_val (wanted_of rfl rfl rfl rfl) (exec_faddr rfl (ev rfl) faR2) ?_
            simp only [Act.put, List.setIfInBounds_toArray, List.set_cons_succ, List.set_cons_zero]
            refine wpList_val (wanted_of rfl rfl rfl rfl) (exec_ld rfl (ev rfl) (ldInt HYc.out)) ?_
            simp only [Act.put, List.setIfInBounds_toArray, List.set_cons_succ, List.set_cons_zero]
            refine wpList_val (v := .bool false) (wanted_of rfl rfl rfl rfl) (exec_neInt false rfl (ev rfl) (ev rfl) HDc.out) ?_
            simp only [Act.put, List.setIfInBounds_toArray, List.set_cons_succ, List.set_cons_zero]
            refine wpList_valn (v := .bool false) rfl (exec_pf rfl (ev rfl) (ev rfl)) ?_
            simp only [Act.put, List.setIfInBounds_toArray, List.set_cons_succ, List.set_cons_zero]
            refine wpList_valn (v := .bool false) rfl (exec_mv rfl (ev rfl)) ?_
            simp only [Act.put, List.setIfInBounds_toArray, List.set_cons_succ, List.set_cons_zero]
            refine wpList_val (wanted_of rfl rfl rfl rfl) (exec_faddr rfl (ev rfl) faR3) ?_
            simp only [Act.put, List.setIfInBounds_toArray, List.set_cons_succ, List.set_cons_zero]
            refine wpList_val (wanted_of rfl rfl rfl rfl) (exec_ld rfl (ev rfl) (ldBool HXg.out)) ?_
            simp only [Act.put, List.setIfInBounds_toArray, List.set_cons_succ, List.set_cons_zero]
            refine wpList_val (wanted_of rfl rfl rfl rfl) (exec_faddr rfl (ev rfl) faR3) ?_
            simp only [Act.put, List.setIfInBounds_toArray, List.set_cons_succ, List.set_cons_zero]
            refine wpList_val (wanted_of rfl rfl rfl rfl) (exec_ld rfl (ev rfl) (ldBool HYg.out)) ?_
            simp only [Act.put, List.setIfInBounds_toArray, List.set_cons_succ, List.set_cons_zero]
            refine wpList_val (v := .bool false) (wanted_of rfl rfl rfl rfl) (exec_neBool false rfl (ev rfl) (ev rfl) HDg.out) ?_
            simp only [Act.put, List.setIfInBounds_toArray, List.set_cons_succ, List.set_cons_zero]
            refine wpList_valn (v := .bool false) rfl (exec_pf rfl (ev rfl) (ev rfl)) ?_
            simp only [Act.put, List.setIfInBounds_toArray, List.set_cons_succ, List.set_cons_zero]
            refine wpList_nil ?_
            go_wp2_with fail
            refine wp_region_above (B := w1.heap.size) (by kernel_rfl) ?_
            refine qv_val rfl (fun w' hw => exec_faddr rfl (ev rfl) faR1) ?_
            simp only [Act.put, List.setIfInBounds_toArray, List.set_cons_succ, List.set_cons_zero]
            refine qv_val rfl (fun w' hw => exec_all16 rfl (ev rfl)) ?_
            simp only [Act.put, List.setIfInBounds_toArray, List.set_cons_succ, List.set_cons_zero]
            refine qv_val rfl (fun w' hw => exec_faddr rfl (ev rfl) faR1) ?_
            simp only [Act.put, List.setIfInBounds_toArray, List.set_cons_succ, List.set_cons_zero]
            refine qv_val rfl (fun w' hw => exec_all16 rfl (ev rfl)) ?_
            simp only [Act.put, List.setIfInBounds_toArray, List.set_cons_succ, List.set_cons_zero]
            refine qv_call rfl (fun _ => exec_cl Tryd.call30 rfl (evc (ev rfl) (evc (ev rfl) evn))) (above_of (Nat.le_refl _) fun w' hw => same_any _ _ 16 16 16 16 _ x.st.toList y.st.toList w' (HX.out.below (blk_lt HX.out) hw).rd16 (HY.out.below (blk_lt HY.out) hw).rd16 (Nat.le_refl _) (by unfold maxLen; omega)) ?_
            simp only [Act.put, List.setIfInBounds_toArray, List.set_cons_succ, List.set_cons_zero]
            refine qv_val rfl (fun w' hw => exec_as rfl (ev rfl)) ?_
            simp only [Act.put, List.setIfInBounds_toArray, List.set_cons_succ, List.set_cons_zero]
            refine wpQuiet_nil ?_
            intro w2 hw
            have HB2 := Lib.hid (HB.out.trans (hw.mono HB.out.size))
            clear hw
            have HEQ : Hid (same x.st.toList y.st.toList = decide (x = y)) := Lib.hid (by
              by_cases h : x.st.toList = y.st.toList
              · rw [h, decide_eq_true (ros_ext ⟨qm, qs, qr⟩ h qc qg)]; simp [same]
              · rw [decide_eq_false (fun e : x = y => h (by rw [e]))]; exact beq_eq_false_iff_ne.2 h)
            go_wp2_with fail
            go_ret
            exact ⟨by rw [← HEQ.out]; rfl, HB2.out⟩
          · have HDg : Hid ((x.gone != y.gone) = true) := Lib.hid (by simpa using qg)
            have HNE : Hid (decide (x = y) = false) := Lib.hid (decide_eq_false (fun e : x = y => qg (by rw [e])))
            refine wp_region_lit ?_
            refine wpList_valn rfl (exec_faddr rfl (ev rfl) faR0) ?_
            simp only [Act.put, List.setIfInBounds_toArray, List.set_cons_succ, List.set_cons_zero]
            refine wpList_valn rfl (exec_faddr rfl (ev rfl) faG0) ?_
            simp only [Act.put, List.setIfInBounds_toArray, List.set_cons_succ, List.set_cons_zero]
            refine wpList_valn rfl (exec_ld rfl (ev rfl) (ldInt HXm.out)) ?_
            simp only [Act.put, List.setIfInBounds_toArray, List.set_cons_succ, List.set_cons_zero]
            refine wpList_valn rfl (exec_faddr rfl (ev rfl) faR0) ?_
            simp only [Act.put, List.setIfInBounds_toArray, List.set_cons_succ, List.set_cons_zero]
            refine wpList_valn rfl (exec_faddr rfl (ev rfl) faG0) ?_
            simp only [Act.put, List.setIfInBounds_toArray, List.set_cons_succ, List.set_cons_zero]
            refine wpList_valn rfl (exec_ld rfl (ev rfl) (ldInt HYm.out)) ?_
            simp only [Act.put, List.setIfInBounds_toArray, List.set_cons_succ, List.set_cons_zero]
            refine wpList_valn (v := .bool false) rfl (exec_neInt false rfl (ev rfl) (ev rfl) HDm.out) ?_
            simp only [Act.put, List.setIfInBounds_toArray, List.set_cons_succ, List.set_cons_zero]
            refine wpList_valn (v := .bool false) rfl (exec_mv rfl (ev rfl)) ?_
            simp only [Act.put, List.setIfInBounds_toArray, List.set_cons_succ, List.set_cons_zero]
            refine wpList_val (wanted_of rfl rfl rfl rfl) (exec_faddr rfl (ev rfl) faR0) ?_
            simp only [Act.put, List.setIfInBounds_toArray, List.set_cons_succ, List.set_cons_zero]
            refine wpList_val (wanted_of rfl rfl rfl rfl) (exec_faddr rfl (ev rfl) faG1) ?_
            simp only [Act.put, List.setIfInBounds_toArray, List.set_cons_succ, List.set_cons_zero]
            refine wpList_val (wanted_of rfl rfl rfl rfl) (exec_ld rfl (ev rfl) (ldInt HXs.out)) ?_
            simp only [Act.put, List.setIfInBounds_toArray, List.set_cons_succ, List.set_cons_zero]
            refine wpList_val (wanted_of rfl rfl rfl rfl) (exec_faddr rfl (ev rfl) faR0) ?_
            simp only [Act.put, List.setIfInBounds_toArray, List.set_cons_succ, List.set_cons_zero]
            refine wpList_val (wanted_of rfl rfl rfl rfl) (exec_faddr rfl (ev rfl) faG1) ?_
            simp only [Act.put, List.setIfInBounds_toArray, List.set_cons_succ, List.set_cons_zero]
            refine wpList_val (wanted_of rfl rfl rfl rfl) (exec_ld rfl (ev rfl) (ldInt HYs.out)) ?_
            simp only [Act.put, List.setIfInBounds_toArray, List.set_cons_succ, List.set_cons_zero]
            refine wpList_val (v := .bool false) (wanted_of rfl rfl rfl rfl) (exec_neInt false rfl (ev rfl) (ev rfl) HDs.out) ?_
            simp only [Act.put, List.setIfInBounds_toArray, List.set_cons_succ, List.set_cons_zero]
            refine wpList_valn (v := .bool false) rfl (exec_pf rfl (ev rfl) (ev rfl)) ?_
            simp only [Act.put, List.setIfInBounds_toArray, List.set_cons_succ, List.set_cons_zero]
            refine wpList_valn (v := .bool false) rfl (exec_mv rfl (ev rfl)) ?_
            simp only [Act.put, List.setIfInBounds_toArray, List.set_cons_succ, List.set_cons_zero]
            refine wpList_val (wanted_of rfl rfl rfl rfl) (exec_faddr rfl (ev rfl) faR0) ?_
            simp only [Act.put, List.setIfInBounds_toArray, List.set_cons_succ, List.set_cons_zero]
            refine wpList_val (wanted_of rfl rfl rfl rfl) (exec_faddr rfl (ev rfl) faG2) ?_
            simp only [Act.put, List.setIfInBounds_toArray, List.set_cons_succ, List.set_cons_zero]
            refine wpList_val (wanted_of rfl rfl rfl rfl) (exec_ld rfl (ev rfl) (ldInt HXr.out)) ?_
            simp only [Act.put, List.setIfInBounds_toArray, List.set_cons_succ, List.set_cons_zero]
            refine wpList_val (wanted_of rfl rfl rfl rfl) (exec_faddr rfl (ev rfl) faR0) ?_
            simp only [Act.put, List.setIfInBounds_toArray, List.set_cons_succ, List.set_cons_zero]
            refine wpList_val (wanted_of rfl rfl rfl rfl) (exec_faddr rfl (ev rfl) faG2) ?_
            simp only [Act.put, List.setIfInBounds_toArray, List.set_cons_succ, List.set_cons_zero]
            refine wpList_val (wanted_of rfl rfl rfl rfl) (exec_ld rfl (ev rfl) (ldInt HYr.out)) ?_
            simp only [Act.put, List.setIfInBounds_toArray, List.set_cons_succ, List.set_cons_zero]
            refine wpList_val (v := .bool false) (wanted_of rfl rfl rfl rfl) (exec_neInt false rfl (ev rfl) (ev rfl) HDr.out) ?_
            simp only [Act.put, List.setIfInBounds_toArray, List.set_cons_succ, List.set_cons_zero]
            refine wpList_valn (v := .bool false) rfl (exec_pf rfl (ev rfl) (ev rfl)) ?_
            simp only [Act.put, List.setIfInBounds_toArray, List.set_cons_succ, List.set_cons_zero]
            refine wpList_valn (v := .bool false) rfl (exec_mv rfl (ev rfl)) ?_
            simp only [Act.put, List.setIfInBounds_toArray, List.set_cons_succ, List.set_cons_zero]
            refine wpList_val (wanted_of rfl rfl rfl rfl) (exec_faddr rfl (ev rfl) faR2) ?_
            simp only [Act.put, List.setIfInBounds_toArray, List.set_cons_succ, List.set_cons_zero]
            refine wpList_val (wanted_of rfl rfl rfl rfl) (exec_ld rfl (ev rfl) (ldInt HXc.out)) ?_
            simp only [Act.put, List.setIfInBounds_toArray, List.set_cons_succ, List.set_cons_zero]
            refine wpList_val (wanted_of rfl rfl rfl rfl) (exec_faddr rfl (ev rfl) faR2) ?_
            simp only [Act.put, List.setIfInBounds_toArray, List.set_cons_succ, List.set_cons_zero]
            refine wpList_val (wanted_of rfl rfl rfl rfl) (exec_ld rfl (ev rfl) (ldInt HYc.out)) ?_
            simp only [Act.put, List.setIfInBounds_toArray, List.set_cons_succ, List.set_cons_zero]
            refine wpList_val (v := .bool false) (wanted_of rfl rfl rfl rfl) (exec_neInt false rfl (ev rfl) (ev rfl) HDc.out) ?_
            simp only [Act.put, List.setIfInBounds_toArray, List.set_cons_succ, List.set_cons_zero]
            refine wpList_valn (v := .bool false) rfl (exec_pf rfl (ev rfl) (ev rfl)) ?_
            simp only [Act.put, List.setIfInBounds_toArray, List.set_cons_succ, List.set_cons_zero]
            refine wpList_valn (v := .bool false) rfl (exec_mv rfl (ev rfl)) ?_
            simp only [Act.put, List.setIfInBounds_toArray, List.set_cons_succ, List.set_cons_zero]
            refine wpList_val (wanted_of rfl rfl rfl rfl) (exec_faddr rfl (ev rfl) faR3) ?_
            simp only [Act.put, List.setIfInBounds_toArray, List.set_cons_succ, List.set_cons_zero]
            refine wpList_val (wanted_of rfl rfl rfl rfl) (exec_ld rfl (ev rfl) (ldBool HXg.out)) ?_
            simp only [Act.put, List.setIfInBounds_toArray, List.set_cons_succ, List.set_cons_zero]
            refine wpList_val (wanted_of rfl rfl rfl rfl) (exec_faddr rfl (ev rfl) faR3) ?_
            simp only [Act.put, List.setIfInBounds_toArray, List.set_cons_succ, List.set_cons_zero]
            refine wpList_val (wanted_of rfl rfl rfl rfl) (exec_ld rfl (ev rfl) (ldBool HYg.out)) ?_
            simp only [Act.put, List.setIfInBounds_toArray, List.set_cons_succ, List.set_cons_zero]
            refine wpList_val (v := .bool true) (wanted_of rfl rfl rfl rfl) (exec_neBool true rfl (ev rfl) (ev rfl) HDg.out) ?_
            simp only [Act.put, List.setIfInBounds_toArray, List.set_cons_succ, List.set_cons_zero]
            refine wpList_valn (v := .bool true) rfl (exec_pf rfl (ev rfl) (ev rfl)) ?_
            simp only [Act.put, List.setIfInBounds_toArray, List.set_cons_succ, List.set_cons_zero]
            refine wpList_nil ?_
            go_wp2_with fail
            go_ret
            exact ⟨by rw [HNE.out]; rfl, HB.out⟩
        · have HDc : Hid ((x.cur != y.cur) = true) := Lib.hid (by simpa using qc)
          have HNE : Hid (decide (x = y) = false) := Lib.hid (decide_eq_false (fun e : x = y => qc (by rw [e])))
          refine wp_region_lit ?_
          refine wpList_valn rfl (exec_faddr rfl (ev rfl) faR0) ?_
          simp only [Act.put, List.setIfInBounds_toArray, List.set_cons_succ, List.set_cons_zero]
          refine wpList_valn rfl (exec_faddr rfl (ev rfl) faG0) ?_
          simp only [Act.put, List.setIfInBounds_toArray, List.set_cons_succ, List.set_cons_zero]
          refine wpList_valn rfl (exec_ld rfl (ev rfl) (ldInt HXm.out)) ?_
          simp only [Act.put, List.setIfInBounds_toArray, List.set_cons_succ, List.set_cons_zero]
          refine wpList_valn rfl (exec_faddr rfl (ev rfl) faR0) ?_
          simp only [Act.put, List.setIfInBounds_toArray, List.set_cons_succ, List.set_cons_zero]
          refine wpList_valn rfl (exec_faddr rfl (ev rfl) faG0) ?_
          simp only [Act.put, List.setIfInBounds_toArray, List.set_cons_succ, List.set_cons_zero]
          refine wpList_valn rfl (exec_ld rfl (ev rfl) (ldInt HYm.out)) ?_
          simp only [Act.put, List.setIfInBounds_toArray, List.set_cons_succ, List.set_cons_zero]
          refine wpList_valn (v := .bool false) rfl (exec_neInt false rfl (ev rfl) (ev rfl) HDm.out) ?_
          simp only [Act.put, List.setIfInBounds_toArray, List.set_cons_succ, List.set_cons_zero]
          refine wpList_valn (v := .bool false) rfl (exec_mv rfl (ev rfl)) ?_
          simp only [Act.put, List.setIfInBounds_toArray, List.set_cons_succ, List.set_cons_zero]
          refine wpList_val (wanted_of rfl rfl rfl rfl) (exec_faddr rfl (ev rfl) faR0) ?_
          simp only [Act.put, List.setIfInBounds_toArray, List.set_cons_succ, List.set_cons_zero]
          refine wpList_val (wanted_of rfl rfl rfl rfl) (exec_faddr rfl (ev rfl) faG1) ?_
          simp only [Act.put, List.setIfInBounds_toArray, List.set_cons_succ, List.set_cons_zero]
          refine wpList_val (wanted_of rfl rfl rfl rfl) (exec_ld rfl (ev rfl) (ldInt HXs.out)) ?_
          simp only [Act.put, List.setIfInBounds_toArray, List.set_cons_succ, List.set_cons_zero]
          refine wpList_val (wanted_of rfl rfl rfl rfl) (exec_faddr rfl (ev rfl) faR0) ?_
          simp only [Act.put, List.setIfInBounds_toArray, List.set_cons_succ, List.set_cons_zero]
          refine wpList_val (wanted_of rfl rfl rfl rfl) (exec_faddr rfl (ev rfl) faG1) ?_
          simp only [Act.put, List.setIfInBounds_toArray, List.set_cons_succ, List.set_cons_zero]
          refine wpList_val (wanted_of rfl rfl rfl rfl) (exec_ld rfl (ev rfl) (ldInt HYs.out)) ?_
          simp only [Act.put, List.setIfInBounds_toArray, List.set_cons_succ, List.set_cons_zero]
          refine wpList_val (v := .bool false) (wanted_of rfl rfl rfl rfl) (exec_neInt false rfl (ev rfl) (ev rfl) HDs.out) ?_
          simp only [Act.put, List.setIfInBounds_toArray, List.set_cons_succ, List.set_cons_zero]
          refine wpList_valn (v := .bool false) rfl (exec_pf rfl (ev rfl) (ev rfl)) ?_
          simp only [Act.put, List.setIfInBounds_toArray, List.set_cons_succ, List.set_cons_zero]
          refine wpList_valn (v := .bool false) rfl (exec_mv rfl (ev rfl)) ?_
          simp only [Act.put, List.setIfInBounds_toArray, List.set_cons_succ, List.set_cons_zero]
          refine wpList_val (wanted_of rfl rfl rfl rfl) (exec_faddr rfl (ev rfl) faR0) ?_
          simp only [Act.put, List.setIfInBounds_toArray, List.set_cons_succ, List.set_cons_zero]
          refine wpList_val (wanted_of rfl rfl rfl rfl) (exec_faddr rfl (ev rfl) faG2) ?_
          simp only [Act.put, List.setIfInBounds_toArray, List.set_cons_succ, List.set_cons_zero]
          refine wpList_val (wanted_of rfl rfl rfl rfl) (exec_ld rfl (ev rfl) (ldInt HXr.out)) ?_
          simp only [Act.put, List.setIfInBounds_toArray, List.set_cons_succ, List.set_cons_zero]
          refine wpList_val (wanted_of rfl rfl rfl rfl) (exec_faddr rfl (ev rfl) faR0) ?_
          simp only [Act.put, List.setIfInBounds_toArray, List.set_cons_succ, List.set_cons_zero]
          refine wpList_val (wanted_of rfl rfl rfl rfl) (exec_faddr rfl (ev rfl) faG2) ?_
          simp only [Act.put, List.setIfInBounds_toArray, List.set_cons_succ, List.set_cons_zero]
          refine wpList_val (wanted_of rfl rfl rfl rfl) (exec_ld rfl (ev rfl) (ldInt HYr.out)) ?_
          simp only [Act.put, List.setIfInBounds_toArray, List.set_cons_succ, List.set_cons_zero]
          refine wpList_val (v := .bool false) (wanted_of rfl rfl rfl rfl) (exec_neInt false rfl (ev rfl) (ev rfl) HDr.out) ?_
          simp only [Act.put, List.setIfInBounds_toArray, List.set_cons_succ, List.set_cons_zero]
          refine wpList_valn (v := .bool false) rfl (exec_pf rfl (ev rfl) (ev rfl)) ?_
          simp only [Act.put, List.setIfInBounds_toArray, List.set_cons_succ, List.set_cons_zero]
          refine wpList_valn (v := .bool false) rfl (exec_mv rfl (ev rfl)) ?_
          simp only [Act.put, List.setIfInBounds_toArray, List.set_cons_succ, List.set_cons_zero]
          refine wpList_val (wanted_of rfl rfl rfl rfl) (exec_faddr rfl (ev rfl) faR2) ?_
          simp only [Act.put, List.setIfInBounds_toArray, List.set_cons_succ, List.set_cons_zero]
          refine wpList_val (wanted_of rfl rfl rfl rfl) (exec_ld rfl (ev rfl) (ldInt HXc.out)) ?_
          simp only [Act.put, List.setIfInBounds_toArray, List.set_cons_succ, List.set_cons_zero]
          refine wpList_val (wanted_of rfl rfl rfl rfl) (exec_faddr rfl (ev rfl) faR2) ?_
          simp only [Act.put, List.setIfInBounds_toArray, List.set_cons_succ, List.set_cons_zero]
          refine wpList_val (wanted_of rfl rfl rfl rfl) (exec_ld rfl (ev rfl) (ldInt HYc.out)) ?_
          simp only [Act.put, List.setIfInBounds_toArray, List.set_cons_succ, List.set_cons_zero]
          refine wpList_val (v := .bool true) (wanted_of rfl rfl rfl rfl) (exec_neInt true rfl (ev rfl) (ev rfl) HDc.out) ?_
          simp only [Act.put, List.setIfInBounds_toArray, List.set_cons_succ, List.set_cons_zero]
          refine wpList_valn (v := .bool true) rfl (exec_pf rfl (ev rfl) (ev rfl)) ?_
          simp only [Act.put, List.setIfInBounds_toArray, List.set_cons_succ, List.set_cons_zero]
          refine wpList_skips 5 (v := .bool true) rfl (exec_mv rfl (ev rfl)) (by kernel_rfl) ?_
          simp only [skipAct, List.take_succ_cons, List.take_zero, List.drop_succ_cons, List.drop_zero, Act.put, List.setIfInBounds_toArray, List.set_cons_succ, List.set_cons_zero]
          refine wpList_valn (v := .bool true) rfl (exec_pt rfl (ev rfl) evk) ?_
          simp only [Act.put, List.setIfInBounds_toArray, List.set_cons_succ, List.set_cons_zero]
          refine wpList_nil ?_
          go_wp2_with fail
          go_ret
          exact ⟨by rw [HNE.out]; rfl, HB.out⟩
      · have HDr : Hid ((x.r != y.r) = true) := Lib.hid (by simpa using qr)
        have HNE : Hid (decide (x = y) = false) := Lib.hid (decide_eq_false (fun e : x = y => qr (by rw [e])))
        refine wp_region_lit ?_
        refine wpList_valn rfl (exec_faddr rfl (ev rfl) faR0) ?_
        simp only [Act.put, List.setIfInBounds_toArray, List.set_cons_succ, List.set_cons_zero]
        refine wpList_valn rfl (exec_faddr rfl (ev rfl) faG0) ?_
        simp only [Act.put, List.setIfInBounds_toArray, List.set_cons_succ, List.set_cons_zero]
        refine wpList_valn rfl (exec_ld rfl (ev rfl) (ldInt HXm.out)) ?_
        simp only [Act.put, List.setIfInBounds_toArray, List.set_cons_succ, List.set_cons_zero]
        refine wpList_valn rfl (exec_faddr rfl (ev rfl) faR0) ?_
        simp only [Act.put, List.setIfInBounds_toArray, List.set_cons_succ, List.set_cons_zero]
        refine wpList_valn rfl (exec_faddr rfl (ev rfl) faG0) ?_
        simp only [Act.put, List.setIfInBounds_toArray, List.set_cons_succ, List.set_cons_zero]
        refine wpList_valn rfl (exec_ld rfl (ev rfl) (ldInt HYm.out)) ?_
        simp only [Act.put, List.setIfInBounds_toArray, List.set_cons_succ, List.set_cons_zero]
        refine wpList_valn (v := .bool false) rfl (exec_neInt false rfl (ev rfl) (ev rfl) HDm.out) ?_
        simp only [Act.put, List.setIfInBounds_toArray, List.set_cons_succ, List.set_cons_zero]
        refine wpList_valn (v := .bool false) rfl (exec_mv rfl (ev rfl)) ?_
        simp only [Act.put, List.setIfInBounds_toArray, List.set_cons_succ, List.set_cons_zero]
        refine wpList_val (wanted_of rfl rfl rfl rfl) (exec_faddr rfl (ev rfl) faR0) ?_
        simp only [Act.put, List.setIfInBounds_toArray, List.set_cons_succ, List.set_cons_zero]
        refine wpList_val (wanted_of rfl rfl rfl rfl) (exec_faddr rfl (ev rfl) faG1) ?_
        simp only [Act.put, List.setIfInBounds_toArray, List.set_cons_succ, List.set_cons_zero]
        refine wpList_val (wanted_of rfl rfl rfl rfl) (exec_ld rfl (ev rfl) (ldInt HXs.out)) ?_
        simp only [Act.put, List.setIfInBounds_toArray, List.set_cons_succ, List.set_cons_zero]
        refine wpList_val (wanted_of rfl rfl rfl rfl) (exec_faddr rfl (ev rfl) faR0) ?_
        simp only [Act.put, List.setIfInBounds_toArray, List.set_cons_succ, List.set_cons_zero]
        refine wpList_val (wanted_of rfl rfl rfl rfl) (exec_faddr rfl (ev rfl) faG1) ?_
        simp only [Act.put, List.setIfInBounds_toArray, List.set_cons_succ, List.set_cons_zero]
        refine wpList_val (wanted_of rfl rfl rfl rfl) (exec_ld rfl (ev rfl) (ldInt HYs.out)) ?_
        simp only [Act.put, List.setIfInBounds_toArray, List.set_cons_succ, List.set_cons_zero]
        refine wpList_val (v := .bool false) (wanted_of rfl rfl rfl rfl) (exec_neInt false rfl (ev rfl) (ev rfl) HDs.out) ?_
        simp only [Act.put, List.setIfInBounds_toArray, List.set_cons_succ, List.set_cons_zero]
        refine wpList_valn (v := .bool false) rfl (exec_pf rfl (ev rfl) (ev rfl)) ?_
        simp only [Act.put, List.setIfInBounds_toArray, List.set_cons_succ, List.set_cons_zero]
        refine wpList_valn (v := .bool false) rfl (exec_mv rfl (ev rfl)) ?_
        simp only [Act.put, List.setIfInBounds_toArray, List.set_cons_succ, List.set_cons_zero]
        refine wpList_val (wanted_of rfl rfl rfl rfl) (exec_faddr rfl (ev rfl) faR0) ?_
        simp only [Act.put, List.setIfInBounds_toArray, List.set_cons_succ, List.set_cons_zero]
        refine wpList_val (wanted_of rfl rfl rfl rfl) (exec_faddr rfl (ev rfl) faG2) ?_
        simp only [Act.put, List.setIfInBounds_toArray, List.set_cons_succ, List.set_cons_zero]
        refine wpList_val (wanted_of rfl rfl rfl rfl) (exec_ld rfl (ev rfl) (ldInt HXr.out)) ?_
        simp only [Act.put, List.setIfInBounds_toArray, List.set_cons_succ, List.set_cons_zero]
        refine wpList_val (wanted_of rfl rfl rfl rfl) (exec_faddr rfl (ev rfl) faR0) ?_
        simp only [Act.put, List.setIfInBounds_toArray, List.set_cons_succ, List.set_cons_zero]
        refine wpList_val (wanted_of rfl rfl rfl rfl) (exec_faddr rfl (ev rfl) faG2) ?_
        simp only [Act.put, List.setIfInBounds_toArray, List.set_cons_succ, List.set_cons_zero]
        refine wpList_val (wanted_of rfl rfl rfl rfl) (exec_ld rfl (ev rfl) (ldInt HYr.out)) ?_
        simp only [Act.put, List.setIfInBounds_toArray, List.set_cons_succ, List.set_cons_zero]
        refine wpList_val (v := .bool true) (wanted_of rfl rfl rfl rfl) (exec_neInt true rfl (ev rfl) (ev rfl) HDr.out) ?_
        simp only [Act.put, List.setIfInBounds_toArray, List.set_cons_succ, List.set_cons_zero]
        refine wpList_valn (v := .bool true) rfl (exec_pf rfl (ev rfl) (ev rfl)) ?_
        simp only [Act.put, List.setIfInBounds_toArray, List.set_cons_succ, List.set_cons_zero]
        refine wpList_skips 5 (v := .bool true) rfl (exec_mv rfl (ev rfl)) (by kernel_rfl) ?_
        simp only [skipAct, List.take_succ_cons, List.take_zero, List.drop_succ_cons, List.drop_zero, Act.put, List.setIfInBounds_toArray, List.set_cons_succ, List.set_cons_zero]
        refine wpList_valn (v := .bool true) rfl (exec_pt rfl (ev rfl) evk) ?_
        simp only [Act.put, List.setIfInBounds_toArray, List.set_cons_succ, List.set_cons_zero]
        refine wpList_skips 5 (v := .bool true) rfl (exec_mv rfl (ev rfl)) (by kernel_rfl) ?_
        simp only [skipAct, List.take_succ_cons, List.take_zero, List.drop_succ_cons, List.drop_zero, Act.put, List.setIfInBounds_toArray, List.set_cons_succ, List.set_cons_zero]
        refine wpList_valn (v := .bool true) rfl (exec_pt rfl (ev rfl) evk) ?_
        simp only [Act.put, List.setIfInBounds_toArray, List.set_cons_succ, List.set_cons_zero]
        refine wpList_nil ?_
        go_wp2_with fail
        go_ret
        exact ⟨by rw [HNE.out]; rfl, HB.out⟩
    · have HDs : Hid ((x.s != y.s) = true) := Lib.hid (by simpa using qs)
      have HNE : Hid (decide (x = y) = false) := Lib.hid (decide_eq_false (fun e : x = y => qs (by rw [e])))
      refine wp_region_lit ?_
      refine wpList_valn rfl (exec_faddr rfl (ev rfl) faR0) ?_
      simp only [Act.put, List.setIfInBounds_toArray, List.set_cons_succ, List.set_cons_zero]
      refine wpList_valn rfl (exec_faddr rfl (ev rfl) faG0) ?_
      simp only [Act.put, List.setIfInBounds_toArray, List.set_cons_succ, List.set_cons_zero]
      refine wpList_valn rfl (exec_ld rfl (ev rfl) (ldInt HXm.out)) ?_
      simp only [Act.put, List.setIfInBounds_toArray, List.set_cons_succ, List.set_cons_zero]
      refine wpList_valn rfl (exec_faddr rfl (ev rfl) faR0) ?_
      simp only [Act.put, List.setIfInBounds_toArray, List.set_cons_succ, List.set_cons_zero]
      refine wpList_valn rfl (exec_faddr rfl (ev rfl) faG0) ?_
      simp only [Act.put, List.setIfInBounds_toArray, List.set_cons_succ, List.set_cons_zero]
      refine wpList_valn rfl (exec_ld rfl (ev rfl) (ldInt HYm.out)) ?_
      simp only [Act.put, List.setIfInBounds_toArray, List.set_cons_succ, List.set_cons_zero]
      refine wpList_valn (v := .bool false) rfl (exec_neInt false rfl (ev rfl) (ev rfl) HDm.out) ?_
      simp only [Act.put, List.setIfInBounds_toArray, List.set_cons_succ, List.set_cons_zero]
      refine wpList_valn (v := .bool false) rfl (exec_mv rfl (ev rfl)) ?_
      simp only [Act.put, List.setIfInBounds_toArray, List.set_cons_succ, List.set_cons_zero]
      refine wpList_val (wanted_of rfl rfl rfl rfl) (exec_faddr rfl (ev rfl) faR0) ?_
      simp only [Act.put, List.setIfInBounds_toArray, List.set_cons_succ, List.set_cons_zero]
      refine wpList_val (wanted_of rfl rfl rfl rfl) (exec_faddr rfl (ev rfl) faG1) ?_
      simp only [Act.put, List.setIfInBounds_toArray, List.set_cons_succ, List.set_cons_zero]
      refine wpList_val (wanted_of rfl rfl rfl rfl) (exec_ld rfl (ev rfl) (ldInt HXs.out)) ?_
      simp only [Act.put, List.setIfInBounds_toArray, List.set_cons_succ, List.set_cons_zero]
      refine wpList_val (wanted_of rfl rfl rfl rfl) (exec_faddr rfl (ev rfl) faR0) ?_
      simp only [Act.put, List.setIfInBounds_toArray, List.set_cons_succ, List.set_cons_zero]
      refine wpList_val (wanted_of rfl rfl rfl rfl) (exec_faddr rfl (ev rfl) faG1) ?_
      simp only [Act.put, List.setIfInBounds_toArray, List.set_cons_succ, List.set_cons_zero]
      refine wpList_val (wanted_of rfl rfl rfl rfl) (exec_ld rfl (ev rfl) (ldInt HYs.out)) ?_
      simp only [Act.put, List.setIfInBounds_toArray, List.set_cons_succ, List.set_cons_zero]
      refine wpList_val (v := .bool true) (wanted_of rfl rfl rfl rfl) (exec_neInt true rfl (ev rfl) (ev rfl) HDs.out) ?_
      simp only [Act.put, List.setIfInBounds_toArray, List.set_cons_succ, List.set_cons_zero]
      refine wpList_valn (v := .bool true) rfl (exec_pf rfl (ev rfl) (ev rfl)) ?_
      simp only [Act.put, List.setIfInBounds_toArray, List.set_cons_succ, List.set_cons_zero]
      refine wpList_skips 7 (v := .bool true) rfl (exec_mv rfl (ev rfl)) (by kernel_rfl) ?_
      simp only [skipAct, List.take_succ_cons, List.take_zero, List.drop_succ_cons, List.drop_zero, Act.put, List.setIfInBounds_toArray, List.set_cons_succ, List.set_cons_zero]
      refine wpList_valn (v := .bool true) rfl (exec_pt rfl (ev rfl) evk) ?_
      simp only [Act.put, List.setIfInBounds_toArray, List.set_cons_succ, List.set_cons_zero]
      refine wpList_skips 5 (v := .bool true) rfl (exec_mv rfl (ev rfl)) (by kernel_rfl) ?_
      simp only [skipAct, List.take_succ_cons, List.take_zero, List.drop_succ_cons, List.drop_zero, Act.put, List.setIfInBounds_toArray, List.set_cons_succ, List.set_cons_zero]
      refine wpList_valn (v := .bool true) rfl (exec_pt rfl (ev rfl) evk) ?_
      simp only [Act.put, List.setIfInBounds_toArray, List.set_cons_succ, List.set_cons_zero]
      refine wpList_skips 5 (v := .bool true) rfl (exec_mv rfl (ev rfl)) (by kernel_rfl) ?_
      simp only [skipAct, List.take_succ_cons, List.take_zero, List.drop_succ_cons, List.drop_zero, Act.put, List.setIfInBounds_toArray, List.set_cons_succ, List.set_cons_zero]
      refine wpList_valn (v := .bool true) rfl (exec_pt rfl (ev rfl) evk) ?_
      simp only [Act.put, List.setIfInBounds_toArray, List.set_cons_succ, List.set_cons_zero]
      refine wpList_nil ?_
      go_wp2_with fail
      go_ret
      exact ⟨by rw [HNE.out]; rfl, HB.out⟩
  · have HDm : Hid ((x.m != y.m) = true) := Lib.hid (by simpa using qm)
    have HNE : Hid (decide (x = y) = false) := Lib.hid (decide_eq_false (fun e : x = y => qm (by rw [e])))
    refine wp_region_lit ?_
    refine wpList_valn rfl (exec_faddr rfl (ev rfl) faR0) ?_
    simp only [Act.put, List.setIfInBounds_toArray, List.set_cons_succ, List.set_cons_zero]
    refine wpList_valn rfl (exec_faddr rfl (ev rfl) faG0) ?_
    simp only [Act.put, List.setIfInBounds_toArray, List.set_cons_succ, List.set_cons_zero]
    refine wpList_valn rfl (exec_ld rfl (ev rfl) (ldInt HXm.out)) ?_
    simp only [Act.put, List.setIfInBounds_toArray, List.set_cons_succ, List.set_cons_zero]
    refine wpList_valn rfl (exec_faddr rfl (ev rfl) faR0) ?_
    simp only [Act.put, List.setIfInBounds_toArray, List.set_cons_succ, List.set_cons_zero]
    refine wpList_valn rfl (exec_faddr rfl (ev rfl) faG0) ?_
    simp only [Act.put, List.setIfInBounds_toArray, List.set_cons_succ, List.set_cons_zero]
    refine wpList_valn rfl (exec_ld rfl (ev rfl) (ldInt HYm.out)) ?_
    simp only [Act.put, List.setIfInBounds_toArray, List.set_cons_succ, List.set_cons_zero]
    refine wpList_valn (v := .bool true) rfl (exec_neInt true rfl (ev rfl) (ev rfl) HDm.out) ?_
    simp only [Act.put, List.setIfInBounds_toArray, List.set_cons_succ, List.set_cons_zero]
    refine wpList_skips 7 (v := .bool true) rfl (exec_mv rfl (ev rfl)) (by kernel_rfl) ?_
    simp only [skipAct, List.take_succ_cons, List.take_zero, List.drop_succ_cons, List.drop_zero, Act.put, List.setIfInBounds_toArray, List.set_cons_succ, List.set_cons_zero]
    refine wpList_valn (v := .bool true) rfl (exec_pt rfl (ev rfl) evk) ?_
    simp only [Act.put, List.setIfInBounds_toArray, List.set_cons_succ, List.set_cons_zero]
    refine wpList_skips 7 (v := .bool true) rfl (exec_mv rfl (ev rfl)) (by kernel_rfl) ?_
    simp only [skipAct, List.take_succ_cons, List.take_zero, List.drop_succ_cons, List.drop_zero, Act.put, List.setIfInBounds_toArray, List.set_cons_succ, List.set_cons_zero]
    refine wpList_valn (v := .bool true) rfl (exec_pt rfl (ev rfl) evk) ?_
    simp only [Act.put, List.setIfInBounds_toArray, List.set_cons_succ, List.set_cons_zero]
    refine wpList_skips 5 (v := .bool true) rfl (exec_mv rfl (ev rfl)) (by kernel_rfl) ?_
    simp only [skipAct, List.take_succ_cons, List.take_zero, List.drop_succ_cons, List.drop_zero, Act.put, List.setIfInBounds_toArray, List.set_cons_succ, List.set_cons_zero]
    refine wpList_valn (v := .bool true) rfl (exec_pt rfl (ev rfl) evk) ?_
    simp only [Act.put, List.setIfInBounds_toArray, List.set_cons_succ, List.set_cons_zero]
    refine wpList_skips 5 (v := .bool true) rfl (exec_mv rfl (ev rfl)) (by kernel_rfl) ?_
    simp only [skipAct, List.take_succ_cons, List.take_zero, List.drop_succ_cons, List.drop_zero, Act.put, List.setIfInBounds_toArray, List.set_cons_succ, List.set_cons_zero]
    refine wpList_valn (v := .bool true) rfl (exec_pt rfl (ev rfl) evk) ?_
    simp only [Act.put, List.setIfInBounds_toArray, List.set_cons_succ, List.set_cons_zero]
    refine wpList_nil ?_
    go_wp2_with fail
    go_ret
    exact ⟨by rw [HNE.out]; rfl, HB.out⟩
set_option maxHeartbeats 1000000 in
theorem rsuput (n : Nat) (x : Sup) (w : World) (hn : n < 18446744073709551616) (hid : x.id < 18446744073709551616) :
    Calls Tryd.prog 9 #[.int .u64 n, sup x] w fun e w' => e = .returned (.tuple #[blk (sputB n x), .int .i64 (sputE n x : Nat)]) ∧ Below w.heap.size w w' := by
  obtain ⟨h1, h2, h3⟩ := boxS_new w x
  have HS := Lib.hid (h1.past (.cells (cel zeroB).toArray 31))
  have HB := Lib.hid (h2.alloc h2.size (.cells (cel zeroB).toArray 31))
  have HN := Lib.hid hn
  have HI := Lib.hid hid
  have HR : Hid (((w.alloc (.cells (celS x).toArray 29)).alloc (.cells (cel zeroB).toArray 31)).there (w.heap.size + 1) 0 64) := Lib.hid (by
    have := there_new (w.alloc (.cells (celS x).toArray 29)) zeroB 31
    rwa [World.size_alloc] at this)
  have HZ : Hid (w.heap.size + 1 < ((w.alloc (.cells (celS x).toArray 29)).alloc (.cells (cel zeroB).toArray 31)).heap.size) := Lib.hid (by simp only [World.size_alloc]; omega)
  clear h1 h2 h3 hn hid
  go_enter Tryd.func9, Tryd.ntmps9
  go_wp2_with (first | (refine wpList_valn rfl (exec_boxS rfl rfl) ?_) | (refine wpList_valn rfl (exec_alloc rfl) ?_) | fail)
  try simp only [World.size_alloc]
  generalize (w.alloc (.cells (celS x).toArray 29)).alloc (.cells (cel zeroB).toArray 31) = w1 at *
  refine (revent n w1).mono ?_
  rintro e w' ⟨rfl, rfl⟩
  by_cases hev : evB n = true
  · rw [hev]
    have HEV := Lib.hid hev
    clear hev
    go_wp2_with (first | (refine wpList_val (by rfl) (exec_loadS (c := x) rfl rfl ?_) ?_; (with_reducible exact HS.out.range)) | fail)
    refine (rmay x w1).mono ?_
    rintro e w2 ⟨rfl, hb⟩
    have HS2 := Lib.hid (HS.out.below (blk_lt HS.out) hb)
    have HB2 := Lib.hid (HB.out.trans (hb.mono HB.out.size))
    have HR2 := Lib.hid (there_below HR.out HZ.out hb)
    have HZ2 : Hid (w.heap.size + 1 < w2.heap.size) := Lib.hid (by have := hb.size; have := HZ.out; omega)
    clear hb HS HB HR HZ
    by_cases hm : supB x = true
    · rw [hm]
      have HM := Lib.hid hm
      clear hm
      go_wp2_with (first | (refine wpList_valn rfl (exec_loadS (c := x) rfl rfl ?_) ?_; (with_reducible exact HS2.out.range)) | fail)
      refine (rbody x w2 HI.out HM.out).mono ?_
      rintro e w3 ⟨v, rfl, hv, hb⟩
      obtain ⟨A, c, rfl, hrd, _, _⟩ := hv.open_ (bodyL_length x)
      have HB3 := Lib.hid (HB2.out.trans (hb.mono HB2.out.size))
      have HR3 := Lib.hid (there_below HR2.out HZ2.out hb)
      have HRD := Lib.hid hrd
      have HZ3 : Hid (w.heap.size + 1 < w3.heap.size) := Lib.hid (Nat.lt_of_lt_of_le HZ2.out hb.size)
      clear hb hv hrd HS2 HB2 HR2 HZ2
      go_wp2_with fail
      refine (rsput_all n 21 c _ A (bodyL x) w3 HN.out HRD.out (Nat.le_refl _) (by unfold maxLen; omega)).mono ?_
      rintro e w5 ⟨rfl, hb⟩
      rw [body_putE x HEV.out]
      have HR5 := Lib.hid (there_below HR3.out HZ3.out hb)
      have HB5 := Lib.hid (HB3.out.trans (hb.mono HB3.out.size))
      have HPB := Lib.hid (sputB_ok HEV.out HM.out)
      have HPE := Lib.hid (sputE_ok HEV.out HM.out)
      clear hb HRD HR3 HZ3 HB3
      generalize putB n (bodyL x) = pb at *
      go_wp2_with (first | (refine wpList_nuln rfl (exec_store (c := pb) rfl rfl rfl ?_) ?_; (with_reducible exact HR5.out)) | fail)
      refine bodyPost_ret (res_blk2 rfl _ _ _ rfl (World.rangeAt_setCells_same _ _ _ _ (by rw [cel_length]; exact HR5.out))) rfl ⟨by rw [HPB.out, HPE.out]; rfl, below_setCells HB5.out (Nat.le_succ _) _⟩
    · have hm' : supB x = false := by simpa using hm
      have HPB := Lib.hid (sputB_no (n := n) (x := x) (fun h => hm h.2))
      have HPE := Lib.hid (sputE_no (n := n) (x := x) (fun h => hm h.2))
      rw [hm']
      clear hm hm'
      go_wp2_with (first | (refine wpList_valn rfl (exec_build (c := zeroB) (parts := []) rfl rfl) ?_) | (refine wpList_nuln rfl (exec_store (c := zeroB) rfl rfl rfl ?_) ?_; (with_reducible exact HR2.out)) | fail)
      refine bodyPost_ret (res_blk2 rfl _ _ _ rfl (World.rangeAt_setCells_same _ _ _ _ (by rw [cel_length]; exact HR2.out))) rfl ⟨by rw [HPB.out, HPE.out]; rfl, below_setCells HB2.out (Nat.le_succ _) _⟩
  · have hev' : evB n = false := by simpa using hev
    have HPB := Lib.hid (sputB_no (n := n) (x := x) (fun h => hev h.1))
    have HPE := Lib.hid (sputE_no (n := n) (x := x) (fun h => hev h.1))
    rw [hev']
    clear hev hev'
    go_wp2_with (first | (refine wpList_valn rfl (exec_build (c := zeroB) (parts := []) rfl rfl) ?_) | (refine wpList_nuln rfl (exec_store (c := zeroB) rfl rfl rfl ?_) ?_; (with_reducible exact HR.out)) | fail)
    refine bodyPost_ret (res_blk2 rfl _ _ _ rfl (World.rangeAt_setCells_same _ _ _ _ (by rw [cel_length]; exact HR.out))) rfl ⟨by rw [HPB.out, HPE.out]; rfl, below_setCells HB.out (Nat.le_succ _) _⟩
theorem revent_b (n : Nat) (w : World) {b : Bool} (h : evB n = b) : Calls Tryd.prog 26 #[.int .u64 n] w fun e w' => e = .returned (.bool b) ∧ Below w.heap.size w w' := by
  subst h
  exact (revent n w).mono fun e w' ⟨he, hw⟩ => ⟨he, hw ▸ Below.refl _ _⟩
end Go.Proofs.YtiilclncedipiaaDoor
