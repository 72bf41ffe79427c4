/-
  The reference's device: Flush.
-/
import Derived.Test.YtokdmcikoaagmaaDskW
namespace Go.Proofs.Ytokdmcikoaagmaa
open Go.RowKit
set_option linter.unusedVariables false

theorem exec_index0 {α : Type} {E : Elt α} {ρ : Operand → Value} {o : Oper} {x y : Operand} {w : World} {b n c j : Nat} (ho : o.op = .indexAddr E.s x y) (hx : ρ x = .slice (some ⟨b, 0, none⟩) n c) (hy : ρ y = .int .i64 (j : Int)) (hj : j < n) : (execOp ρ o).run Try.prog w = .ok (.value (.pointer (some ⟨b, j * E.n, none⟩))) w := by
  have := exec_indexE (E := E) (ρ := ρ) (w := w) ho hx hy hj
  rwa [Nat.zero_add] at this
theorem MadeE.slice {α : Type} {E : Elt α} {w : World} {B n : Nat} {v : Value} {l : List α} (h : MadeE E w B v l) (hn : l.length = n) (hl : 0 < n) : ∃ g c, v = .slice (some ⟨g, 0, none⟩) n c := by
  subst hn
  rcases h.2 with ⟨_, h0⟩ | ⟨g, cap, cur, rfl, _⟩
  · omega
  · exact ⟨g, cap, rfl⟩
section
variable {w : World} {p b off gg n c k : Nat} {vL : Value} {S : List Blk} {L : List (Int × Blk)} {g : Bool}
theorem faL0 : (Instr.fieldAt 78 (.pointer (some ⟨b, off, none⟩)) 0).run Try.prog w = .ok (.pointer (some ⟨b, off, none⟩)) w := by kernel_rfl
theorem faL1 : (Instr.fieldAt 78 (.pointer (some ⟨b, off, none⟩)) 1).run Try.prog w = .ok (.pointer (some ⟨b, off + 1, none⟩)) w := by kernel_rfl
theorem ldI {a : Addr} {x : Int} (h : w.cell? a = some (.int .i64 x)) : (Instr.loadAt 3 (.pointer (some a))).run Try.prog w = .ok (.int .i64 x) w := by simp [go_sem, h]
/-- A sector is laid anew. -/
theorem RefD.setS (h : RefD w p (.slice (some ⟨gg, 0, none⟩) n c) vL S L g) (hk : k < n) (x : Blk) : RefD (w.setCells gg (k * 64) (cel x)) p (.slice (some ⟨gg, 0, none⟩) n c) vL (S.set k x) L g := by
  have hO : Only (fun b => b = gg) w (w.setCells gg (k * 64) (cel x)) := (Only.refl (fun b => b = gg) w).setCells (.inl rfl) _ _
  refine ⟨hO.keep h.at_ (fun e => h.S_.not_at h.at_ (by decide) (by rw [e]; rfl)), h.S_.store hk x, h.L_.only hO fun b hb e => ?_⟩
  rcases h.L_.other h.S_ (by decide) with e' | e'
  · rw [e'] at hb; cases hb
  · exact e' (by rw [hb, e]; rfl)
end
def flS (S : List Blk) (L : List (Int × Blk)) : List Blk := L.foldl (fun S q => S.set q.1.toNat q.2) S
theorem flS_len (S : List Blk) (L : List (Int × Blk)) : (flS S L).length = S.length := by
  unfold flS
  induction L generalizing S with
  | nil => rfl
  | cons q L ih => rw [List.foldl_cons, ih, List.length_set]
theorem flS_succ {S : List Blk} {L : List (Int × Blk)} {i : Nat} (hi : i < L.length) : flS S (L.take (i + 1)) = (flS S (L.take i)).set (L.getD i (0, zeroB)).1.toNat (L.getD i (0, zeroB)).2 := by
  rw [List.take_add_one, List.getD, List.getElem?_eq_getElem hi]
  simp only [flS, Option.toList_some, List.foldl_append, List.foldl_cons, List.foldl_nil, Option.getD_some]
/-- What is loose is of sectors that there are. -/
def Fit (S : List Blk) (L : List (Int × Blk)) : Prop := ∀ q ∈ L, 0 ≤ q.1 ∧ q.1 < S.length
theorem Fit.at_ {S : List Blk} {L : List (Int × Blk)} (h : Fit S L) {i : Nat} (hi : i < L.length) : ∃ k : Nat, (L.getD i (0, zeroB)).1 = k ∧ k < S.length := by
  have := h _ (List.getElem_mem hi)
  refine ⟨(L.getD i (0, zeroB)).1.toNat, ?_, ?_⟩
  · simp only [List.getD, List.getElem?_eq_getElem hi, Option.getD_some]; omega
  · simp only [List.getD, List.getElem?_eq_getElem hi, Option.getD_some]; omega
theorem r_flush_dead (p : Nat) (vS vL : Value) (S : List Blk) (L : List (Int × Blk)) (w : World) (h : RefD w p vS vL S L true) :
    Calls Try.prog 28 #[.pointer (some ⟨p, 0, none⟩)] w fun e w' => e = .returned (.int .i64 9) ∧ w = w' := by
  obtain ⟨c0, c1, c2⟩ := cells3 h.at_
  go_enter Try.func28, Try.ntmps28
  go_wp2
  go_ret
  exact ⟨rfl, rfl⟩
set_option maxHeartbeats 2000000 in
theorem r_flush_ok (p : Nat) (vS vL : Value) (S : List Blk) (L : List (Int × Blk)) (w : World) (h : RefD w p vS vL S L false) (hF : Fit S L) :
    Calls Try.prog 28 #[.pointer (some ⟨p, 0, none⟩)] w fun e w' => e = .returned (.int .i64 0) ∧ RefD w' p vS (.slice none 0 0) (flS S L) [] false ∧ Only (foot p vS vL) w w' := by
  obtain ⟨c0, c1, c2⟩ := cells3 h.at_
  obtain ⟨AL, cL, rfl, hl1, hl2⟩ := h.L_.form
  unfold maxLen at hl2
  have HH := Lib.hid h
  have HF := Lib.hid hF
  clear h hF
  go_enter Try.func28, Try.ntmps28
  go_wp2
  clear c0 c1 c2
  go_loopw [3] (fun i wr => ∃ j : Nat, j ≤ L.length ∧ i = .int .i64 j ∧ RefD wr p vS (.slice AL L.length cL) (flS S (L.take j)) L false ∧ Only (foot p vS (.slice AL L.length cL)) w wr) (fun i _ => L.length - (intOf i).toNat)
  case atStart => exact ⟨0, Nat.zero_le _, rfl, HH.out, Only.refl _ _⟩
  case round =>
    obtain ⟨j, hj, rfl, hr, hon⟩ := hrel
    obtain ⟨c0, c1, c2⟩ := cells3 hr.at_
    by_cases hlt : j < L.length
    · obtain ⟨k, hqk, hk⟩ := HF.out.at_ hlt
      have hlenS := flS_len S (L.take j)
      obtain ⟨gS, cS, rfl⟩ := hr.S_.slice hlenS (by omega)
      obtain ⟨bA, oA, hAe, hAl, cA, rA⟩ := hr.L_.rd.pair hlt
      have HS := Lib.hid (flS_succ (S := S) hlt)
      rw [hqk] at cA HS
      generalize (L.getD j (0, zeroB)).2 = x at *
      have HRA := Lib.hid rA
      have HA := Lib.hid (⟨c0, c1⟩ : _ ∧ _)
      have HRr := Lib.hid hr
      have HON := Lib.hid hon
      subst hAe
      have HKT := Lib.hid (show wr.there gS (k * 64) 64 from by
        have := HRr.out.S_.there hk (j := 0) (m := 64) (Nat.le_refl _)
        rw [Nat.add_zero] at this
        exact this)
      clear hr hon rA hqk hlenS
      have hLL : (j : Int) < (L.length : Int) := by omega
      go_wp2_with fail
      refine wp_region_still_tail 21 (by kernel_rfl) (by kernel_rfl) ?_
      simp only [List.take_succ_cons, List.take_zero, List.drop_succ_cons, List.drop_zero]
      refine st_val rfl (exec_mv rfl (ev rfl)) ?_
      simp only [Act.put, List.setIfInBounds_toArray, List.set_cons_succ, List.set_cons_zero]
      refine st_val rfl (exec_nil rfl (ev rfl)) ?_
      simp only [Act.put, List.setIfInBounds_toArray, List.set_cons_succ, List.set_cons_zero]
      refine st_val rfl (exec_faddr rfl (ev rfl) faD0) ?_
      simp only [Act.put, List.setIfInBounds_toArray, List.set_cons_succ, List.set_cons_zero]
      refine st_val rfl (exec_ld rfl (ev rfl) (ldB HA.out.1)) ?_
      simp only [Act.put, List.setIfInBounds_toArray, List.set_cons_succ, List.set_cons_zero]
      refine st_val rfl (exec_mv rfl (ev rfl)) ?_
      simp only [Act.put, List.setIfInBounds_toArray, List.set_cons_succ, List.set_cons_zero]
      refine st_val rfl (exec_nil rfl (ev rfl)) ?_
      simp only [Act.put, List.setIfInBounds_toArray, List.set_cons_succ, List.set_cons_zero]
      refine st_val rfl (exec_faddr rfl (ev rfl) faD1) ?_
      simp only [Act.put, List.setIfInBounds_toArray, List.set_cons_succ, List.set_cons_zero]
      refine st_val rfl (exec_ld rfl (ev rfl) (ldS HA.out.2)) ?_
      simp only [Act.put, List.setIfInBounds_toArray, List.set_cons_succ, List.set_cons_zero]
      refine st_val rfl (exec_mv rfl (ev rfl)) ?_
      simp only [Act.put, List.setIfInBounds_toArray, List.set_cons_succ, List.set_cons_zero]
      refine st_val rfl (exec_indexE (E := LooE) rfl (ev rfl) (ev rfl) hlt) ?_
      simp only [Act.put, List.setIfInBounds_toArray, List.set_cons_succ, List.set_cons_zero]
      refine st_val rfl (exec_faddr rfl (ev rfl) faL0) ?_
      simp only [Act.put, List.setIfInBounds_toArray, List.set_cons_succ, List.set_cons_zero]
      refine st_val rfl (exec_ld rfl (ev rfl) (ldI cA)) ?_
      simp only [Act.put, List.setIfInBounds_toArray, List.set_cons_succ, List.set_cons_zero]
      refine st_val rfl (exec_mv rfl (ev rfl)) ?_
      simp only [Act.put, List.setIfInBounds_toArray, List.set_cons_succ, List.set_cons_zero]
      refine st_val rfl (exec_nil rfl (ev rfl)) ?_
      simp only [Act.put, List.setIfInBounds_toArray, List.set_cons_succ, List.set_cons_zero]
      refine st_val rfl (exec_faddr rfl (ev rfl) faD1) ?_
      simp only [Act.put, List.setIfInBounds_toArray, List.set_cons_succ, List.set_cons_zero]
      refine st_val rfl (exec_ld rfl (ev rfl) (ldS HA.out.2)) ?_
      simp only [Act.put, List.setIfInBounds_toArray, List.set_cons_succ, List.set_cons_zero]
      refine st_val rfl (exec_mv rfl (ev rfl)) ?_
      simp only [Act.put, List.setIfInBounds_toArray, List.set_cons_succ, List.set_cons_zero]
      refine st_val rfl (exec_indexE (E := LooE) rfl (ev rfl) (ev rfl) hlt) ?_
      simp only [Act.put, List.setIfInBounds_toArray, List.set_cons_succ, List.set_cons_zero]
      refine st_val rfl (exec_faddr rfl (ev rfl) faL1) ?_
      simp only [Act.put, List.setIfInBounds_toArray, List.set_cons_succ, List.set_cons_zero]
      refine st_val rfl (exec_load rfl (ev rfl) HRA.out) ?_
      simp only [Act.put, List.setIfInBounds_toArray, List.set_cons_succ, List.set_cons_zero]
      refine st_val rfl (exec_index0 (E := BlkE) rfl (ev rfl) (ev rfl) hk) ?_
      simp only [Act.put, List.setIfInBounds_toArray, List.set_cons_succ, List.set_cons_zero]
      refine wpStill_nil ?_
      change wpList _ _ _ _ _ wr.drew
      go_wp2_with (first | (refine wpList_nul rfl (exec_store rfl rfl rfl HKT.out) ?_))
      go_roundw
      case rel =>
        have hd : RefD wr.drew p (.slice (some ⟨gS, 0, none⟩) S.length cS) (.slice (some ⟨bA, oA, none⟩) L.length cL) (flS S (L.take j)) L false := ⟨HRr.out.at_, HRr.out.S_, HRr.out.L_⟩
        exact ⟨j + 1, by omega, by go_num, by rw [HS.out]; exact hd.setS hk x, HON.out.drew.setCells (.inl (.inr (.inl rfl))) _ _⟩
      case measure => simp [intOf]; omega
    · have hjn : j = L.length := by omega
      subst hjn
      have f1 := frozen_of_row wr p 1 _ _ hr.at_
      have HRr := Lib.hid hr
      have HON := Lib.hid hon
      clear hr hon
      have hLL : ¬((L.length : Int) < (L.length : Int)) := by omega
      go_wp2
      go_ret
      have hd := HRr.out.setL (MadeE.nil _ _)
      rw [List.take_length] at hd
      exact ⟨rfl, hd, HON.out.setCell (.inl (.inl rfl)) _⟩
end Go.Proofs.Ytokdmcikoaagmaa
