/-
  The program's device: Flush.
-/
import Derived.Test.YtokdmcikoaagmaaPdx
import Derived.Test.YtokdmcikoaagmaaEltV
namespace Go.Proofs.Ytokdmcikoaagmaa
open Go.RowKit
set_option linter.unusedVariables false

theorem undW : ∃ d, Try.prog.underlying LwE.t = some d ∧ d.isRow = true := ⟨_, Try.underlying68, rfl⟩
section
variable {ρ : Operand → Value} {o : Oper} {x y : Operand} {w : World} {b off : Nat} {a : Int × Blk}
theorem exec_loadW (ho : o.op = .load LwE.t x) (hx : ρ x = .pointer (some ⟨b, off, none⟩)) (hc : w.rangeAt b off (cel65 a)) : (execOp ρ o).run Try.prog w = .ok (.value (.agg (cel65 a).toArray)) w := by
  obtain ⟨d, h1, h2⟩ := undW
  exact exec_loadE (E := LwE) h1 h2 ho hx hc
theorem exec_allocW (ho : o.op = .alloc LwE.t) : (execOp ρ o).run Try.prog w = .ok (.value (.pointer (some ⟨w.heap.size, 0, none⟩))) (w.alloc (.cells LwE.z.cells LwE.t)) := exec_allocE (E := LwE) ho
theorem exec_fillW (ho : o.op = .store LwE.t x y) (hx : ρ x = .pointer (some ⟨w.heap.size, 0, none⟩)) (hy : ρ y = .agg (cel65 a).toArray) : (execOp ρ o).run Try.prog (w.alloc (.cells LwE.z.cells LwE.t)) = .ok .skip (w.alloc (.cells (cel65 a).toArray LwE.t)) := exec_fillE (E := LwE) ho hx hy
end
section
variable {w w' : World} {p gg n c k : Nat} {vL : Value} {S : List Blk} {L : List (Int × Blk)}
/-- A sector is laid anew. -/
theorem PD.setS (h : PD w p (.slice (some ⟨gg, 0, none⟩) n c) vL S L false) (hk : k < n) (x : Blk) : PD (w.setCells gg (k * 64) (cel x)) p (.slice (some ⟨gg, 0, none⟩) n c) vL (S.set k x) L false := by
  have hO : Only (fun b => b = gg) w (w.setCells gg (k * 64) (cel x)) := (Only.refl (fun b => b = gg) w).setCells (.inl rfl) _ _
  refine ⟨?_, by rw [List.length_set]; exact h.one, h.alive.store hk x, h.L_.only hO fun b hb e => ?_, fun e => absurd e (by decide)⟩
  · rw [List.length_set]
    exact hO.keep h.at_ (fun e => h.S_.not_at h.at_ (by decide) (by rw [e]; rfl))
  · rcases h.L_.other h.S_ (by decide) with e' | e'
    · rw [e'] at hb; cases hb
    · exact e' (by rw [hb, e]; rfl)
end
theorem p_flush_dead (p : Nat) (vS vL : Value) (S : List Blk) (L : List (Int × Blk)) (w : World) (h : PD w p vS vL S L true) :
    Calls Try.prog 14 #[.pointer (some ⟨p, 0, none⟩)] w fun e w' => e = .returned (.int .i64 9) ∧ w = w' := by
  obtain ⟨c0, c1, c2, c3⟩ := cells4 h.at_
  go_enter Try.func14, Try.ntmps14
  go_wp2_with fail
  refine (p_made p vS vL S L true w h).mono ?_
  rintro e w1 ⟨rfl, rfl⟩
  go_wp2_with fail
  go_ret
  exact ⟨rfl, rfl⟩
set_option maxHeartbeats 2000000 in
theorem p_flush_ok (p : Nat) (vS vL : Value) (S : List Blk) (L : List (Int × Blk)) (w : World) (h : PD w p vS vL S L false) (hF : Fit S L) :
    Calls Try.prog 14 #[.pointer (some ⟨p, 0, none⟩)] w fun e w' => e = .returned (.int .i64 0) ∧ PD w' p vS (.slice none 0 0) (flS S L) [] false ∧ Only (foot p vS vL) w w' := by
  obtain ⟨c0, c1, c2, c3⟩ := cells4 h.at_
  obtain ⟨AL, cL, rfl, hl1, hl2⟩ := h.L_.form
  unfold maxLen at hl2
  have HH := Lib.hid h
  have HF := Lib.hid hF
  clear h hF
  go_enter Try.func14, Try.ntmps14
  go_wp2_with fail
  refine (p_made p vS _ S L false w HH.out).mono ?_
  rintro e w1 ⟨rfl, rfl⟩
  go_wp2_with fail
  clear c0 c1 c2 c3
  go_loopw [4, 17] (fun v4 i wr => ∃ j : Nat, j ≤ L.length ∧ i = .int .i64 j ∧ PD wr p vS (.slice AL L.length cL) (flS S (L.take j)) L false ∧ Only (foot p vS (.slice AL L.length cL)) w wr) (fun _ i _ => L.length - (intOf i).toNat)
  case atStart => exact ⟨0, Nat.zero_le _, rfl, HH.out, Only.refl _ _⟩
  case round =>
    obtain ⟨j, hj, rfl, hr, hon⟩ := hrel
    by_cases hlt : j < L.length
    · obtain ⟨k, hqk, hk⟩ := HF.out.at_ hlt
      have hlenS := flS_len S (L.take j)
      obtain ⟨gS, cS, rfl⟩ := hr.alive.slice hlenS (by omega)
      obtain ⟨bA, oA, hAe, hAl, rA⟩ := hr.L_.rd.pairs hlt
      have HS := Lib.hid (flS_succ (S := S) hlt)
      rw [hqk] at HS
      generalize hq : L.getD j (0, zeroB) = q at *
      obtain ⟨q1, x⟩ := q
      obtain rfl : q1 = (k : Int) := hqk
      clear hq
      have h1 := hr.below ((Below.refl _ _).alloc (Nat.le_refl _) (.cells (cel65 ((k : Int), x)).toArray LwE.t))
      have HON := Lib.hid (hon.alloc (.cells (cel65 ((k : Int), x)).toArray LwE.t))
      have hnw := pair_new wr ((k : Int), x) LwE.t
      have HRA := Lib.hid rA
      subst hAe
      clear rA hr hon
      have hLL : (j : Int) < (L.length : Int) := by omega
      go_wp2_with (first | (refine wpList_val rfl (exec_indexE (E := LwE) rfl rfl rfl hlt) ?_) | (refine wpList_val rfl (exec_loadW rfl rfl HRA.out) ?_) | (refine wpList_val rfl (exec_allocW rfl) ?_) | (refine wpList_nul rfl (exec_fillW rfl rfl rfl) ?_) | fail)
      generalize hy : wr.heap.size = y at *
      generalize wr.alloc (.cells (cel65 ((k : Int), x)).toArray LwE.t) = w1 at *
      obtain ⟨c0, c1, c2, c3⟩ := cells4 h1.at_
      have HA := Lib.hid c1
      have HN := Lib.hid hnw
      have H1 := Lib.hid h1
      have HKT := Lib.hid (show w1.there gS (k * 64) 64 from by
        have := H1.out.alive.there hk (j := 0) (m := 64) (Nat.le_refl _)
        rw [Nat.add_zero] at this
        exact this)
      clear c0 c1 c2 c3 hnw h1 hlenS
      refine wp_region_still_tail 9 (by kernel_rfl) (by kernel_rfl) ?_
      simp only [List.take_succ_cons, List.take_zero, List.drop_succ_cons, List.drop_zero]
      refine st_val rfl (exec_mv rfl (ev rfl)) ?_
      simp only [Act.put, List.setIfInBounds_toArray, List.set_cons_succ, List.set_cons_zero]
      refine st_val rfl (exec_nil rfl (ev rfl)) ?_
      simp only [Act.put, List.setIfInBounds_toArray, List.set_cons_succ, List.set_cons_zero]
      refine st_val rfl (exec_faddr rfl (ev rfl) faP1) ?_
      simp only [Act.put, List.setIfInBounds_toArray, List.set_cons_succ, List.set_cons_zero]
      refine st_val rfl (exec_ld rfl (ev rfl) (ldB HA.out)) ?_
      simp only [Act.put, List.setIfInBounds_toArray, List.set_cons_succ, List.set_cons_zero]
      refine st_val rfl (exec_faddr rfl (ev rfl) faV0) ?_
      simp only [Act.put, List.setIfInBounds_toArray, List.set_cons_succ, List.set_cons_zero]
      refine st_val rfl (exec_ld rfl (ev rfl) (ldI HN.out.1)) ?_
      simp only [Act.put, List.setIfInBounds_toArray, List.set_cons_succ, List.set_cons_zero]
      refine st_val rfl (exec_faddr rfl (ev rfl) faV1) ?_
      simp only [Act.put, List.setIfInBounds_toArray, List.set_cons_succ, List.set_cons_zero]
      refine st_val rfl (exec_load rfl (ev rfl) HN.out.2) ?_
      simp only [Act.put, List.setIfInBounds_toArray, List.set_cons_succ, List.set_cons_zero]
      refine st_val rfl (exec_index0 (E := BlkE) rfl (ev rfl) (ev rfl) hk) ?_
      simp only [Act.put, List.setIfInBounds_toArray, List.set_cons_succ, List.set_cons_zero]
      refine wpStill_nil ?_
      change wpList _ _ _ _ _ w1.drew
      go_wp2_with (first | (refine wpList_nul rfl (exec_store rfl rfl rfl HKT.out) ?_) | fail)
      go_roundw
      case rel =>
        have hd : PD w1.drew p (.slice (some ⟨gS, 0, none⟩) S.length cS) (.slice (some ⟨bA, oA, none⟩) L.length cL) (flS S (L.take j)) L false := ⟨H1.out.at_, H1.out.one, H1.out.S_, H1.out.L_, H1.out.dead⟩
        exact ⟨j + 1, by omega, by go_num, by rw [HS.out]; exact hd.setS hk x, HON.out.drew.setCells (.inl (.inr (.inl rfl))) _ _⟩
      case measure => simp [intOf]; omega
    · have hjn : j = L.length := by omega
      subst hjn
      obtain ⟨c0, c1, c2, c3⟩ := cells4 hr.at_
      have f2 := frozen_of_row wr p 2 _ _ hr.at_
      have HRr := Lib.hid hr
      have HON := Lib.hid hon
      clear hr hon
      have hLL : ¬((L.length : Int) < (L.length : Int)) := by omega
      go_wp2_with fail
      go_ret
      have hd := HRr.out.setL (MadeE.nil _ _) (fun _ => rfl)
      rw [List.take_length] at hd
      exact ⟨rfl, hd, HON.out.setCell (.inl (.inl rfl)) _⟩
end Go.Proofs.Ytokdmcikoaagmaa
