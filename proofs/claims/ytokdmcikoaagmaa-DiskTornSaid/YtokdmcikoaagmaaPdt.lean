/-
  The program's device: Rot, New.
-/
import Derived.Test.YtokdmcikoaagmaaPdf
namespace Go.Proofs.Ytokdmcikoaagmaa
open Go.RowKit
set_option linter.unusedVariables false

section
variable {w : World} {p gg n c k i : Nat} {vL : Value} {S : List Blk} {L : List (Int × Blk)}
theorem PD.setByte (h : PD w p (.slice (some ⟨gg, 0, none⟩) n c) vL S L false) (hk : k < n) (hi : i < 64) (v : UInt8) : PD (w.setCell ⟨gg, k * 64 + i, none⟩ (.int .u8 (v.toNat : Int))) p (.slice (some ⟨gg, 0, none⟩) n c) vL (S.set k ((S.getD k zeroB).set i v)) L false := by
  have hO : Only (fun b => b = gg) w (w.setCell ⟨gg, k * 64 + i, none⟩ (.int .u8 (v.toNat : Int))) := only_set w gg _ _
  refine ⟨?_, by rw [List.length_set]; exact h.one, ?_, h.L_.only hO fun b hb e => ?_, fun e => absurd e (by decide)⟩
  · rw [List.length_set]
    exact hO.keep h.at_ (fun e => h.S_.not_at h.at_ (by decide) (by rw [e]; rfl))
  · refine h.alive.put hk (j := i) (vs := [.int .u8 (v.toNat : Int)]) ((S.getD k zeroB).set i v) ?_ (by show i + 1 ≤ 64; omega)
    show cel ((S.getD k zeroB).set i v) = (cel (S.getD k zeroB)).take i ++ [_] ++ (cel (S.getD k zeroB)).drop (i + 1)
    rw [← cel_set _ hi, List.set_eq_take_append_cons_drop, if_pos (by rw [cel_length]; exact hi)]
    simp
  · rcases h.L_.other h.S_ (by decide) with e' | e'
    · rw [e'] at hb; cases hb
    · exact e' (by rw [hb, e]; rfl)
end
set_option maxHeartbeats 2000000 in
theorem p_rot_ok (p k i : Nat) (u : UInt8) (vS vL : Value) (S : List Blk) (L : List (Int × Blk)) (w : World) (h : PD w p vS vL S L false) (hk : k < S.length) (hi : i < 64) :
    Calls Try.prog 21 #[.pointer (some ⟨p, 0, none⟩), .int .i64 k, .int .i64 i, .int .u8 (u.toNat : Int)] w fun e w' => e = .returned (.int .i64 0) ∧ PD w' p vS vL (S.set k (rotB (S.getD k zeroB) i u)) L false ∧ Only (foot p vS vL) w w' := by
  obtain ⟨c0, c1, c2, c3⟩ := cells4 h.at_
  obtain ⟨gS, cS, rfl⟩ := h.alive.slice rfl (by omega)
  obtain ⟨bS, oS, hSe, hSl, rS⟩ := h.alive.rd.blk hk
  injection hSe with hSe
  injection hSe with e1 e2
  subst e1 e2
  obtain ⟨y, hy⟩ : ∃ y, S.getD k zeroB = y := ⟨_, rfl⟩
  have HY := Lib.hid hy
  rw [hy] at rS
  have hc := rS i _ (cel_at _ hi)
  rw [Nat.zero_add, byt_get _ hi] at hc
  have HD := Lib.hid (decide_eq_true (p := 0 ≤ (k : Int) ∧ (k : Int) < S.length) (by omega))
  have hil : (i : Int) < 64 := by omega
  have HT := Lib.hid (show w.there gS (k * 64 + i) 1 from h.alive.there hk (j := i) (m := 1) (by show i + 1 ≤ 64; omega))
  have hf : w.frozen? ⟨gS, k * 64 + i, none⟩ = false := by have := (HT.out 0 (by omega)).2; simpa using this
  have HH := Lib.hid h
  have HA := Lib.hid c1
  have HR : rotB (S.getD k zeroB) i u = y.set i (y[i] ^^^ u) := by rw [hy]; unfold rotB; rw [dif_pos hi]
  have HRR := Lib.hid HR
  have HC := Lib.hid hc
  clear HR rS hy h
  go_enter Try.func21, Try.ntmps21
  go_wp2_with fail
  refine (p_made p _ vL S L false w HH.out).mono ?_
  rintro e w1 ⟨rfl, rfl⟩
  go_wp2_with fail
  refine (p_has p _ vL S L false k w HH.out).mono ?_
  rintro e w1 ⟨rfl, rfl⟩
  rw [HD.out]
  go_wp2_with fail
  refine wp_region_still_tail 13 (by kernel_rfl) (by kernel_rfl) ?_
  simp only [List.take_succ_cons, List.take_zero, List.drop_succ_cons, List.drop_zero]
  refine st_val rfl (exec_mv rfl (ev rfl)) ?_
  simp only [Act.put, List.setIfInBounds_toArray, List.set_cons_succ, List.set_cons_zero]
  refine st_val rfl (exec_nil rfl (ev rfl)) ?_
  simp only [Act.put, List.setIfInBounds_toArray, List.set_cons_succ, List.set_cons_zero]
  refine st_val rfl (exec_faddr rfl (ev rfl) faP1) ?_
  simp only [Act.put, List.setIfInBounds_toArray, List.set_cons_succ, List.set_cons_zero]
  refine st_val rfl (exec_ld rfl (ev rfl) (ldB HA.out)) ?_
  simp only [Act.put, List.setIfInBounds_toArray, List.set_cons_succ, List.set_cons_zero]
  refine st_val rfl (exec_mv rfl (ev rfl)) ?_
  simp only [Act.put, List.setIfInBounds_toArray, List.set_cons_succ, List.set_cons_zero]
  refine st_val rfl (exec_mv rfl (ev rfl)) ?_
  simp only [Act.put, List.setIfInBounds_toArray, List.set_cons_succ, List.set_cons_zero]
  refine st_val rfl (exec_ix0B rfl (ev rfl) (ev rfl) hk) ?_
  simp only [Act.put, List.setIfInBounds_toArray, List.set_cons_succ, List.set_cons_zero]
  refine st_val rfl (exec_ix rfl (ev rfl) (ev rfl) (run_ixB hi)) ?_
  simp only [Act.put, List.setIfInBounds_toArray, List.set_cons_succ, List.set_cons_zero]
  refine st_val rfl (exec_ld rfl (ev rfl) (ldU HC.out)) ?_
  simp only [Act.put, List.setIfInBounds_toArray, List.set_cons_succ, List.set_cons_zero]
  refine st_val rfl (exec_mv rfl (ev rfl)) ?_
  simp only [Act.put, List.setIfInBounds_toArray, List.set_cons_succ, List.set_cons_zero]
  refine st_val rfl (exec_xor8 rfl (ev rfl) (ev rfl)) ?_
  simp only [Act.put, List.setIfInBounds_toArray, List.set_cons_succ, List.set_cons_zero]
  refine st_val rfl (exec_ix0B rfl (ev rfl) (ev rfl) hk) ?_
  simp only [Act.put, List.setIfInBounds_toArray, List.set_cons_succ, List.set_cons_zero]
  refine st_val rfl (exec_ix rfl (ev rfl) (ev rfl) (run_ixB hi)) ?_
  simp only [Act.put, List.setIfInBounds_toArray, List.set_cons_succ, List.set_cons_zero]
  refine wpStill_nil ?_
  change wpList _ _ _ _ _ w.drew
  have hcd : w.drew.cell? ⟨gS, k * 64 + i, none⟩ = some (.int .u8 (y[i].toNat : Int)) := HC.out
  have hfd : w.drew.frozen? ⟨gS, k * 64 + i, none⟩ = false := hf
  go_wp2_with fail
  go_ret
  refine ⟨rfl, ?_, (Only.refl _ w).drew.setCell (.inl (.inr (.inl rfl))) _⟩
  rw [HRR.out]
  have hset := HH.out.setByte hk hi (y[i] ^^^ u)
  rw [HY.out] at hset
  simp only [UInt8.toNat_xor] at hset
  exact ⟨hset.at_, hset.one, hset.S_, hset.L_, hset.dead⟩
set_option maxHeartbeats 1000000 in
theorem p_rot_no (p : Nat) (n i : Int) (u : UInt8) (vS vL : Value) (S : List Blk) (L : List (Int × Blk)) (g : Bool) (w : World) (h : PD w p vS vL S L g) (he : rotE S g n i ≠ 0) :
    Calls Try.prog 21 #[.pointer (some ⟨p, 0, none⟩), .int .i64 n, .int .i64 i, .int .u8 (u.toNat : Int)] w fun e w' => e = .returned (.int .i64 (rotE S g n i)) ∧ w = w' := by
  obtain ⟨c0, c1, c2, c3⟩ := cells4 h.at_
  by_cases hn : 0 ≤ n ∧ n < S.length
  · have HD := Lib.hid (decide_eq_true hn)
    have hor : i < 0 ∨ (0 ≤ i ∧ 64 ≤ i) ∨ (0 ≤ i ∧ i < 64) := by omega
    rcases hor with h1 | ⟨h1, h2⟩ | ⟨h1, h2⟩
    rotate_right 1
    · cases g
      · exact absurd (show rotE S false n i = 0 by unfold rotE; rw [if_pos ⟨hn.1, hn.2, h1, h2⟩]; rfl) he
      · have HE := Lib.hid (show rotE S true n i = 9 by unfold rotE; rw [if_pos ⟨hn.1, hn.2, h1, h2⟩]; rfl)
        clear he hn
        go_enter Try.func21, Try.ntmps21
        go_wp2_with fail
        refine (p_made p vS vL S L true w h).mono ?_
        rintro e w1 ⟨rfl, rfl⟩
        go_wp2_with fail
        refine (p_has p vS vL S L true n w h).mono ?_
        rintro e w1 ⟨rfl, rfl⟩
        rw [HD.out]
        go_wp2_with fail
        go_ret
        exact ⟨ret_int HE.out.symm, rfl⟩
    all_goals
      have HE := Lib.hid (show rotE S g n i = 2 by unfold rotE; rw [if_neg (by omega)])
      clear he hn
      go_enter Try.func21, Try.ntmps21
      go_wp2_with fail
      refine (p_made p vS vL S L g w h).mono ?_
      rintro e w1 ⟨rfl, rfl⟩
      go_wp2_with fail
      refine (p_has p vS vL S L g n w h).mono ?_
      rintro e w1 ⟨rfl, rfl⟩
      rw [HD.out]
      go_wp2_with fail
      go_ret
      exact ⟨ret_int HE.out.symm, rfl⟩
  · have HD := Lib.hid (decide_eq_false hn)
    have HE := Lib.hid (show rotE S g n i = 2 by unfold rotE; rw [if_neg (by omega)])
    clear he hn
    go_enter Try.func21, Try.ntmps21
    go_wp2_with fail
    refine (p_made p vS vL S L g w h).mono ?_
    rintro e w1 ⟨rfl, rfl⟩
    go_wp2_with fail
    refine (p_has p vS vL S L g n w h).mono ?_
    rintro e w1 ⟨rfl, rfl⟩
    rw [HD.out]
    go_wp2_with fail
    go_ret
    exact ⟨ret_int HE.out.symm, rfl⟩
theorem p_rot (p : Nat) (n i : Int) (u : UInt8) (vS vL : Value) (S : List Blk) (L : List (Int × Blk)) (g : Bool) (w : World) (h : PD w p vS vL S L g) :
    Calls Try.prog 21 #[.pointer (some ⟨p, 0, none⟩), .int .i64 n, .int .i64 i, .int .u8 (u.toNat : Int)] w fun e w' => e = .returned (.int .i64 (rotE S g n i)) ∧ PD w' p vS vL (rotS S g n i u) L g ∧ Only (foot p vS vL) w w' := by
  by_cases he : rotE S g n i = 0
  · have hin : 0 ≤ n ∧ n < S.length ∧ 0 ≤ i ∧ i < 64 := by
      by_cases h0 : 0 ≤ n ∧ n < S.length ∧ 0 ≤ i ∧ i < 64
      · exact h0
      · unfold rotE at he; rw [if_neg h0] at he; omega
    have hg : g = false := by
      cases g
      · rfl
      · unfold rotE at he; rw [if_pos hin] at he; simp at he
    subst hg
    obtain ⟨k, rfl⟩ := Int.eq_ofNat_of_zero_le hin.1
    obtain ⟨j, rfl⟩ := Int.eq_ofNat_of_zero_le hin.2.2.1
    have e : rotS S false k j u = S.set k (rotB (S.getD k zeroB) j u) := by unfold rotS; rw [if_pos he]; rfl
    rw [e, he]
    exact p_rot_ok p k j u vS vL S L w h (by omega) (by omega)
  · have e : rotS S g n i u = S := by unfold rotS; rw [if_neg he]
    rw [e]
    exact (p_rot_no p n i u vS vL S L g w h he).mono fun e w' ⟨h1, h2⟩ => by subst h2; exact ⟨h1, h, Only.refl _ _⟩
set_option maxHeartbeats 1000000 in
theorem p_new_ok (k : Nat) (w : World) (h1 : 1 ≤ k) (h2 : k ≤ 512) :
    Calls Try.prog 8 #[.int .i64 k] w fun e w' => ∃ p vS, e = .returned (.tuple #[.pointer (some ⟨p, 0, none⟩), .int .i64 0]) ∧ PD w' p vS (.slice none 0 0) (List.replicate k zeroB) [] false ∧ Below w.heap.size w w' ∧ ∀ b, foot p vS (.slice none 0 0) b → w.heap.size ≤ b := by
  go_enter Try.func8, Try.ntmps8
  have HM := Lib.hid (heap_alloc_new w (.cells (madeCells (cel zeroB).toArray (k * 64)) 33))
  have HB := Lib.hid ((Below.refl w.heap.size w).alloc (Nat.le_refl _) (.cells (madeCells (cel zeroB).toArray (k * 64)) 33))
  have HSZ := Lib.hid (World.size_alloc w (.cells (madeCells (cel zeroB).toArray (k * 64)) 33))
  go_wp2_with (first | (refine wpList_val rfl (exec_make (n := k) rfl rfl rfl (by omega)) ?_) | fail)
  generalize w.alloc (.cells (madeCells (cel zeroB).toArray (k * 64)) 33) = w1 at *
  go_ret2
  have hS : MadeE BlkE w1 0 (.slice (some ⟨w.heap.size, 0, none⟩) k k) (List.replicate k zeroB) := MadeE.of_block (E := BlkE) HM.out (by rw [← flat_zeros]; rfl) (Nat.zero_le _) (by simp) (by unfold maxLen; omega)
  have hnw := heap_alloc_new w1 (.cells #[.int .i64 (k : Int), .slice (some ⟨w.heap.size, 0, none⟩) k k, .slice none 0 0, .bool false] 61)
  rw [HSZ.out] at hnw
  refine ⟨w.heap.size + 1, _, rfl, ⟨by rw [List.length_replicate]; exact hnw, by simpa using h1, hS.below ((Below.refl _ _).alloc (Nat.le_refl _) _), MadeE.nil _ _, fun e => absurd e (by decide)⟩, HB.out.alloc HB.out.size _, fun b hb => ?_⟩
  rcases hb with rfl | hb | hb
  · omega
  · simp [Value.ownBlock] at hb; omega
  · simp [Value.ownBlock] at hb
theorem p_new_no (n : Int) (w : World) (h : ¬(1 ≤ n ∧ n ≤ 512)) :
    Calls Try.prog 8 #[.int .i64 n] w fun e w' => e = .returned (.tuple #[.pointer none, .int .i64 2]) ∧ w = w' := by
  have hor : n < 1 ∨ (1 ≤ n ∧ 512 < n) := by omega
  clear h
  rcases hor with h | ⟨h, h'⟩
  all_goals
    go_enter Try.func8, Try.ntmps8
    go_wp2
    go_ret2
    exact ⟨rfl, rfl⟩
end Go.Proofs.Ytokdmcikoaagmaa
