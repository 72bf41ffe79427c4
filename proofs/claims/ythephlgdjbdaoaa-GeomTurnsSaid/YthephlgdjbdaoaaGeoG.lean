/-
  geom.Block.
-/
import Derived.Test.YthephlgdjbdaoaaGeoF
namespace Go.Proofs.Ythephlgdjbdaoaa
open Go.RowKit
set_option linter.unusedVariables false

/-- What Block answers. -/
def inP (m s t k : Int) : Bool := decide (0 ≤ t ∧ t < s ∧ 0 ≤ k ∧ k < m)
theorem inP_iff {m s t k : Int} : inP m s t k = true ↔ (0 ≤ t ∧ t < s ∧ 0 ≤ k ∧ k < m) := by unfold inP; rw [decide_eq_true_iff]
theorem inP_not {m s t k : Int} : inP m s t k = false ↔ ¬(0 ≤ t ∧ t < s ∧ 0 ≤ k ∧ k < m) := by unfold inP; rw [decide_eq_false_iff_not]
def blE (m s r t k : Int) : Int := if may m s r = true then (if inP m s t k = true then (if k.toNat = par m.toNat t.toNat then 7 else 0) else 12) else 2
def blN (m s r t k : Int) : Int := if may m s r = true then (if inP m s t k = true then (if k.toNat = par m.toNat t.toNat then 0 else ((t.toNat * (m.toNat - 1) + nth m.toNat t.toNat k.toNat : Nat) : Int)) else 0) else 0
def blV (m s r t k : Int) : Value := .tuple #[.int .i64 (blN m s r t k), .int .i64 (blE m s r t k)]
theorem blV_no {m s r : Int} (t k : Int) (h : may m s r = false) : blV m s r t k = .tuple #[.int .i64 0, .int .i64 2] := by simp [blV, blN, blE, h]
theorem blV_out {m s r t k : Int} (h : may m s r = true) (h' : inP m s t k = false) : blV m s r t k = .tuple #[.int .i64 0, .int .i64 12] := by simp [blV, blN, blE, h, h']
theorem blV_par {M S T k : Nat} {r : Int} (h : may M S r = true) (h' : inP M S T k = true) (hp : k = par M T) : blV M S r T k = .tuple #[.int .i64 0, .int .i64 7] := by
  unfold blV blN blE
  simp only [h, h', if_true]
  rw [if_pos (show (k : Int).toNat = par (M : Int).toNat (T : Int).toNat from hp), if_pos (show (k : Int).toNat = par (M : Int).toNat (T : Int).toNat from hp)]
theorem blV_in {M S T k : Nat} {r : Int} (h : may M S r = true) (h' : inP M S T k = true) (hp : k ≠ par M T) : blV M S r T k = .tuple #[.int .i64 ((T * (M - 1) + nth M T k : Nat) : Int), .int .i64 0] := by
  unfold blV blN blE
  simp only [h, h', if_true]
  rw [if_neg (show (k : Int).toNat ≠ par (M : Int).toNat (T : Int).toNat from hp), if_neg (show (k : Int).toNat ≠ par (M : Int).toNat (T : Int).toNat from hp)]
  rfl
theorem block_no (m s r t k : Int) (w : World) (h : may m s r = false) : Calls Try.prog 19 #[geoV m s r, placeV t k] w fun e w' => e = .returned (blV m s r t k) ∧ Below w.heap.size w w' := by
  rw [blV_no t k h]
  have H := Lib.hid h
  clear h
  unfold geoV placeV
  go_enter Try.func19, Try.ntmps19
  go_wp2_with fail
  refine (may_prog m s r _).mono ?_
  rintro e w1 ⟨rfl, hb1⟩
  rw [H.out]
  obtain ⟨K0, K1, hs, HB⟩ := behind_gp hb1 (new1 ..) (new2 ..)
  clear hb1
  go_wp2
  go_ret2
  exact ⟨rfl, HB.out⟩
set_option maxHeartbeats 1000000 in
theorem block_out (m s r t k : Int) (w : World) (h : may m s r = true) (h' : inP m s t k = false) : Calls Try.prog 19 #[geoV m s r, placeV t k] w fun e w' => e = .returned (blV m s r t k) ∧ Below w.heap.size w w' := by
  rw [blV_out h h']
  have hn := inP_not.1 h'
  have H := Lib.hid h
  clear h h'
  have h3 : has s t = false ∨ (has s t = true ∧ k < 0) ∨ (has s t = true ∧ 0 ≤ k ∧ m ≤ k) := by
    cases hh : has s t
    · exact .inl rfl
    · have := has_iff.1 hh
      by_cases hk : k < 0
      · exact .inr (.inl ⟨rfl, hk⟩)
      · exact .inr (.inr ⟨rfl, by omega, by omega⟩)
  clear hn
  have go : ∀ (b : Bool), has s t = b → (b = true → (k < 0 ∨ (0 ≤ k ∧ m ≤ k))) → Calls Try.prog 19 #[geoV m s r, placeV t k] w fun e w' => e = .returned (.tuple #[.int .i64 0, .int .i64 12]) ∧ Below w.heap.size w w' := by
    intro b hb hor
    have HBo := Lib.hid hb
    unfold geoV placeV
    cases b
    · clear hor h3 hb
      go_enter Try.func19, Try.ntmps19
      go_wp2_with fail
      refine (may_prog m s r _).mono ?_
      rintro e w1 ⟨rfl, hb1⟩
      rw [H.out]
      obtain ⟨K0, K1, hs, HB⟩ := behind_gp hb1 (new1 ..) (new2 ..)
      obtain ⟨c0, c1, c2⟩ := cells3 K0.out
      obtain ⟨p0, p1, f0, f1⟩ := cells2 K1.out
      clear hb1
      go_wp2_with fail
      refine (has_prog m s r t _).mono ?_
      rintro e w2 ⟨rfl, hb2⟩
      rw [HBo.out]
      go_wp2
      go_ret2
      exact ⟨rfl, HB.out.trans (hb2.mono HB.out.size)⟩
    · have hor := hor rfl
      clear h3 hb
      rcases hor with hk | ⟨hk, hk'⟩
      all_goals
        go_enter Try.func19, Try.ntmps19
        go_wp2_with fail
        refine (may_prog m s r _).mono ?_
        rintro e w1 ⟨rfl, hb1⟩
        rw [H.out]
        obtain ⟨K0, K1, hs, HB⟩ := behind_gp hb1 (new1 ..) (new2 ..)
        obtain ⟨c0, c1, c2⟩ := cells3 K0.out
        obtain ⟨p0, p1, f0, f1⟩ := cells2 K1.out
        clear hb1
        go_wp2_with fail
        refine (has_prog m s r t _).mono ?_
        rintro e w2 ⟨rfl, hb2⟩
        rw [HBo.out]
        obtain ⟨d0, d1, d2⟩ := cells3 (blk_keep K0.out hb2)
        obtain ⟨q0, q1, g0, g1⟩ := cells2 (blk_keep K1.out hb2)
        have HB2 := Lib.hid (HB.out.trans (hb2.mono HB.out.size))
        clear hb2 c0 c1 c2 p0 p1 f0 f1
        go_wp2
        go_ret2
        exact ⟨rfl, HB2.out⟩
  rcases h3 with hh | ⟨hh, hk⟩ | ⟨hh, hk⟩
  · exact go false hh (fun e => by cases e)
  · exact go true hh (fun _ => .inl hk)
  · exact go true hh (fun _ => .inr hk)
set_option maxHeartbeats 1000000 in
theorem block_par (M S T k : Nat) (r : Int) (w : World) (h : may M S r = true) (h' : inP M S T k = true) (hp : k = par M T) : Calls Try.prog 19 #[geoV M S r, placeV T k] w fun e w' => e = .returned (blV M S r T k) ∧ Below w.heap.size w w' := by
  rw [blV_par h h' hp]
  have hn := inP_iff.1 h'
  have hm := may_iff.1 h
  have HH := Lib.hid (show has S T = true from has_iff.2 (by omega))
  have H := Lib.hid h
  clear h h'
  have HP := Lib.hid hp
  clear hp
  unfold geoV placeV
  go_enter Try.func19, Try.ntmps19
  go_wp2_with fail
  refine (may_prog M S r _).mono ?_
  rintro e w1 ⟨rfl, hb1⟩
  rw [H.out]
  obtain ⟨K0, K1, hs, HB⟩ := behind_gp hb1 (new1 ..) (new2 ..)
  obtain ⟨c0, c1, c2⟩ := cells3 K0.out
  obtain ⟨p0, p1, f0, f1⟩ := cells2 K1.out
  clear hb1
  go_wp2_with fail
  refine (has_prog M S r T _).mono ?_
  rintro e w2 ⟨rfl, hb2⟩
  rw [HH.out]
  have K02 := Lib.hid (blk_keep K0.out hb2)
  have K12 := Lib.hid (blk_keep K1.out hb2)
  obtain ⟨d0, d1, d2⟩ := cells3 K02.out
  obtain ⟨q0, q1, g0, g1⟩ := cells2 K12.out
  have HB2 := Lib.hid (HB.out.trans (hb2.mono HB.out.size))
  clear hb2 c0 c1 c2 p0 p1 f0 f1 K0 K1
  go_wp2_with fail
  refine (par_prog M T S r _ (by omega) (by omega) (by omega)).mono ?_
  rintro e w3 ⟨rfl, hb3⟩
  unfold placeV
  rw [← HP.out]
  have K03 := Lib.hid (blk_keep K02.out hb3)
  have K13 := Lib.hid (blk_keep K12.out hb3)
  obtain ⟨c0, c1, c2⟩ := cells3 K03.out
  obtain ⟨p0, p1, f0, f1⟩ := cells2 K13.out
  have hs3 : w.heap.size + 1 < w3.heap.size := blk_lt K13.out
  have hs4 : w.heap.size < w3.heap.size := blk_lt K03.out
  have HB3 := Lib.hid (HB2.out.trans (hb3.mono HB2.out.size))
  clear hb3 d0 d1 d2 q0 q1 g0 g1 K02 K12 hs
  go_wp2
  go_ret2
  exact ⟨rfl, HB3.out.alloc HB3.out.size _⟩
set_option maxHeartbeats 1000000 in
theorem block_in (M S T k : Nat) (r : Int) (w : World) (h : may M S r = true) (h' : inP M S T k = true) (hp : k ≠ par M T) : Calls Try.prog 19 #[geoV M S r, placeV T k] w fun e w' => e = .returned (blV M S r T k) ∧ Below w.heap.size w w' := by
  rw [blV_in h h' hp]
  have hn := inP_iff.1 h'
  have hm := may_iff.1 h
  have HH := Lib.hid (show has S T = true from has_iff.2 (by omega))
  have H := Lib.hid h
  clear h h'
  have hpl := par_lt T (M := M) (by omega)
  have hni := nth_int (M := M) T k (by omega)
  have hnl : nth M T k < M - 1 := (dat_nth (T := T) (by omega) (by omega) hp).1
  have HNI := Lib.hid hni
  have HM := Lib.hid (mul_nat (M := M) (S := T) (by omega) (by omega) (by omega))
  have HA := Lib.hid (show IntKind.i64.wrap (((T * (M - 1) : Nat) : Int) + ((nth M T k : Nat) : Int)) = ((T * (M - 1) + nth M T k : Nat) : Int) by
    have h := Nat.mul_le_mul (show T ≤ 64 by omega) (show M - 1 ≤ 15 by omega)
    generalize T * (M - 1) = q at *
    rw [← Int.natCast_add]
    exact IntWalk.i64_in _ (by omega))
  clear hni
  generalize hpq : par M T = P at *
  have HPQ := Lib.hid hpq
  clear hpq
  unfold geoV placeV
  go_enter Try.func19, Try.ntmps19
  go_wp2_with fail
  refine (may_prog M S r _).mono ?_
  rintro e w1 ⟨rfl, hb1⟩
  rw [H.out]
  obtain ⟨K0, K1, hs, HB⟩ := behind_gp hb1 (new1 ..) (new2 ..)
  obtain ⟨c0, c1, c2⟩ := cells3 K0.out
  obtain ⟨p0, p1, f0, f1⟩ := cells2 K1.out
  clear hb1
  go_wp2_with fail
  refine (has_prog M S r T _).mono ?_
  rintro e w2 ⟨rfl, hb2⟩
  rw [HH.out]
  have K02 := Lib.hid (blk_keep K0.out hb2)
  have K12 := Lib.hid (blk_keep K1.out hb2)
  obtain ⟨d0, d1, d2⟩ := cells3 K02.out
  obtain ⟨q0, q1, g0, g1⟩ := cells2 K12.out
  have HB2 := Lib.hid (HB.out.trans (hb2.mono HB.out.size))
  clear hb2 c0 c1 c2 p0 p1 f0 f1 K0 K1
  go_wp2_with fail
  refine (par_prog M T S r _ (by omega) (by omega) (by omega)).mono ?_
  rintro e w3 ⟨rfl, hb3⟩
  unfold placeV
  rw [HPQ.out]
  have K03 := Lib.hid (blk_keep K02.out hb3)
  have K13 := Lib.hid (blk_keep K12.out hb3)
  obtain ⟨c0, c1, c2⟩ := cells3 K03.out
  obtain ⟨p0, p1, f0, f1⟩ := cells2 K13.out
  have hs3 : w.heap.size + 1 < w3.heap.size := blk_lt K13.out
  have hs4 : w.heap.size < w3.heap.size := blk_lt K03.out
  have HB3 := Lib.hid (HB2.out.trans (hb3.mono HB2.out.size))
  clear hb3 d0 d1 d2 q0 q1 g0 g1 K02 K12 hs
  go_wp2
  rw [HNI.out]
  have K04 := Lib.hid (blk_past K03.out (.cells #[.int .i64 T, .int .i64 P] 25))
  have K14 := Lib.hid (blk_past K13.out (.cells #[.int .i64 T, .int .i64 P] 25))
  have HB4 := Lib.hid (HB3.out.alloc HB3.out.size (.cells #[.int .i64 T, .int .i64 P] 25))
  clear c0 c1 c2 p0 p1 f0 f1 hs3 hs4 K03 K13 HB3
  generalize w3.alloc (.cells #[.int .i64 T, .int .i64 P] 25) = w4 at *
  have CC := fun (w' : World) (hw : Below w4.heap.size w4 w') => cells3 (blk_keep K04.out hw)
  have PP := fun (w' : World) (hw : Below w4.heap.size w4 w') => cells2 (blk_keep K14.out hw)
  refine wp_region_above (B := w4.heap.size) (by kernel_rfl) ?_
  refine qv_val rfl (fun w' hw => exec_faddr rfl (ev rfl) faP0) ?_
  simp only [Act.put, List.setIfInBounds_toArray, List.set_cons_succ, List.set_cons_zero]
  refine qv_val rfl (fun w' hw => exec_ld rfl (ev rfl) (ldI (PP w' hw).1)) ?_
  simp only [Act.put, List.setIfInBounds_toArray, List.set_cons_succ, List.set_cons_zero]
  refine qv_val rfl (fun w' hw => exec_ld rfl (ev rfl) (ldG (CC w' hw).1 (CC w' hw).2.1 (CC w' hw).2.2)) ?_
  simp only [Act.put, List.setIfInBounds_toArray, List.set_cons_succ, List.set_cons_zero]
  refine qv_call rfl (fun _ => exec_cl Try.call27 rfl (evc (ev rfl) evn)) (above_of (Nat.le_refl _) fun w' hw => width_prog M S r w' (by omega) (by omega)) ?_
  simp only [Act.put, List.setIfInBounds_toArray, List.set_cons_succ, List.set_cons_zero]
  refine qv_val rfl (fun w' hw => exec_mul rfl (ev rfl) (ev rfl) HM.out) ?_
  simp only [Act.put, List.setIfInBounds_toArray, List.set_cons_succ, List.set_cons_zero]
  refine qv_val rfl (fun w' hw => exec_mv rfl (ev rfl)) ?_
  simp only [Act.put, List.setIfInBounds_toArray, List.set_cons_succ, List.set_cons_zero]
  refine qv_val rfl (fun w' hw => exec_add rfl (ev rfl) (ev rfl) HA.out) ?_
  simp only [Act.put, List.setIfInBounds_toArray, List.set_cons_succ, List.set_cons_zero]
  refine qv_val rfl (fun w' hw => exec_as rfl (ev rfl)) ?_
  simp only [Act.put, List.setIfInBounds_toArray, List.set_cons_succ, List.set_cons_zero]
  refine qv_val rfl (fun w' hw => exec_as rfl evk) ?_
  simp only [Act.put, List.setIfInBounds_toArray, List.set_cons_succ, List.set_cons_zero]
  refine wpQuiet_nil ?_
  intro w5 hw5
  go_wp2_with fail
  go_ret2
  exact ⟨rfl, HB4.out.trans (hw5.mono HB4.out.size)⟩
theorem block_prog (m s r t k : Int) (w : World) : Calls Try.prog 19 #[geoV m s r, placeV t k] w fun e w' => e = .returned (blV m s r t k) ∧ Below w.heap.size w w' := by
  cases h : may m s r
  · exact block_no m s r t k w h
  · cases h' : inP m s t k
    · exact block_out m s r t k w h h'
    · obtain ⟨M, S, rfl, rfl, _⟩ := nat_geo h
      have hn := inP_iff.1 h'
      obtain ⟨T, rfl⟩ := Int.eq_ofNat_of_zero_le hn.1
      obtain ⟨j, rfl⟩ := Int.eq_ofNat_of_zero_le hn.2.2.1
      by_cases hp : j = par M T
      · exact block_par M S T j r w h h' hp
      · exact block_in M S T j r w h h' hp
end Go.Proofs.Ythephlgdjbdaoaa
