/-
  geom.Parity, Sector: what they answer, and that they do; the references' too.
-/
import Derived.Test.YthephlgdjbdaoaaGeoB
namespace Go.Proofs.Ythephlgdjbdaoaa
open Go.RowKit
set_option linter.unusedVariables false

/-- The error of a geometry and a stripe; what Parity answers. -/
def parE (m s r t : Int) : Int := if may m s r = true then (if has s t = true then 0 else 12) else 2
def parN (m s r t : Int) : Int := if may m s r = true then (if has s t = true then ((par m.toNat t.toNat : Nat) : Int) else 0) else 0
theorem parE_no {m s r : Int} (t : Int) (h : may m s r = false) : parE m s r t = 2 := by simp [parE, h]
theorem parN_no {m s r : Int} (t : Int) (h : may m s r = false) : parN m s r t = 0 := by simp [parN, h]
theorem parE_out {m s r t : Int} (h : may m s r = true) (h' : has s t = false) : parE m s r t = 12 := by simp [parE, h, h']
theorem parN_out {m s r t : Int} (h : may m s r = true) (h' : has s t = false) : parN m s r t = 0 := by simp [parN, h, h']
theorem parE_in {m s r t : Int} (h : may m s r = true) (h' : has s t = true) : parE m s r t = 0 := by simp [parE, h, h']
theorem parN_in {m s r t : Int} (h : may m s r = true) (h' : has s t = true) : parN m s r t = ((par m.toNat t.toNat : Nat) : Int) := by simp [parN, h, h']

/-- A geometry that may be, and a stripe of it, as natural numbers. -/
theorem nat_geo {m s r : Int} (h : may m s r = true) : ∃ M S : Nat, m = M ∧ s = S ∧ 3 ≤ M ∧ M ≤ 16 ∧ 1 ≤ S ∧ S ≤ 64 := by
  have := may_iff.1 h
  exact ⟨m.toNat, s.toNat, by omega, by omega, by omega, by omega, by omega, by omega⟩
theorem nat_stripe {S : Nat} {t : Int} (h : has S t = true) : ∃ T : Nat, t = T ∧ T < S := by
  have := has_iff.1 h
  exact ⟨t.toNat, by omega, by omega⟩

theorem parity_no (m s r t : Int) (w : World) (h : may m s r = false) : Calls Try.prog 8 #[geoV m s r, .int .i64 t] w fun e w' => e = .returned (.tuple #[.int .i64 0, .int .i64 2]) ∧ Below w.heap.size w w' := by
  have H := Lib.hid h
  clear h
  unfold geoV
  go_enter Try.func8, Try.ntmps8
  go_wp2_with fail
  refine (may_prog m s r _).mono ?_
  rintro e w1 ⟨rfl, hb1⟩
  obtain ⟨K0, HB⟩ := behind_g hb1 (new1 ..)
  rw [H.out]
  clear hb1
  go_wp2
  go_ret2
  exact ⟨rfl, HB.out⟩
theorem parity_out (m s r t : Int) (w : World) (h : may m s r = true) (h' : has s t = false) : Calls Try.prog 8 #[geoV m s r, .int .i64 t] w fun e w' => e = .returned (.tuple #[.int .i64 0, .int .i64 12]) ∧ Below w.heap.size w w' := by
  have H := Lib.hid h
  have H' := Lib.hid h'
  clear h h'
  unfold geoV
  go_enter Try.func8, Try.ntmps8
  go_wp2_with fail
  refine (may_prog m s r _).mono ?_
  rintro e w1 ⟨rfl, hb1⟩
  obtain ⟨K0, HB⟩ := behind_g hb1 (new1 ..)
  obtain ⟨c0, c1, c2⟩ := cells3 K0.out
  rw [H.out]
  clear hb1
  go_wp2_with fail
  refine (has_prog m s r t _).mono ?_
  rintro e w2 ⟨rfl, hb2⟩
  rw [H'.out]
  go_wp2
  go_ret2
  exact ⟨rfl, HB.out.trans (hb2.mono HB.out.size)⟩
theorem parity_in (M S T : Nat) (r : Int) (w : World) (h : may M S r = true) (h' : has S T = true) : Calls Try.prog 8 #[geoV M S r, .int .i64 T] w fun e w' => e = .returned (.tuple #[.int .i64 (par M T), .int .i64 0]) ∧ Below w.heap.size w w' := by
  have hm := may_iff.1 h
  have ht := has_iff.1 h'
  have hf := fieldP1 T (par M T)
  have H := Lib.hid h
  have H' := Lib.hid h'
  clear h h'
  unfold geoV
  go_enter Try.func8, Try.ntmps8
  go_wp2_with fail
  refine (may_prog M S r _).mono ?_
  rintro e w1 ⟨rfl, hb1⟩
  obtain ⟨K0, HB⟩ := behind_g hb1 (new1 ..)
  obtain ⟨c0, c1, c2⟩ := cells3 K0.out
  rw [H.out]
  clear hb1
  go_wp2_with fail
  refine (has_prog M S r T _).mono ?_
  rintro e w2 ⟨rfl, hb2⟩
  obtain ⟨d0, d1, d2⟩ := cells3 (blk_keep K0.out hb2)
  rw [H'.out]
  go_wp2_with fail
  refine (par_prog M T S r _ (by omega) (by omega) (by omega)).mono ?_
  rintro e w3 ⟨rfl, hb3⟩
  unfold placeV
  go_wp2
  go_ret2
  exact ⟨rfl, (HB.out.trans (hb2.mono HB.out.size)).trans (hb3.mono (by have := HB.out.size; have := hb2.size; omega))⟩
theorem parity_prog (m s r t : Int) (w : World) : Calls Try.prog 8 #[geoV m s r, .int .i64 t] w fun e w' => e = .returned (.tuple #[.int .i64 (parN m s r t), .int .i64 (parE m s r t)]) ∧ Below w.heap.size w w' := by
  cases h : may m s r
  · rw [parN_no t h, parE_no t h]; exact parity_no m s r t w h
  · cases h' : has s t
    · rw [parN_out h h', parE_out h h']; exact parity_out m s r t w h h'
    · rw [parN_in h h', parE_in h h']
      obtain ⟨M, S, rfl, rfl, _⟩ := nat_geo h
      obtain ⟨T, rfl, _⟩ := nat_stripe h'
      exact parity_in M S T r w h h'
theorem parity_ref (m s r t : Int) (w : World) : Calls Try.prog 9 #[geoV m s r, .int .i64 t] w fun e w' => e = .returned (.tuple #[.int .i64 (parN m s r t), .int .i64 (parE m s r t)]) ∧ Below w.heap.size w w' := by
  cases h : may m s r
  · have hE := Lib.hid (parE_no t h)
    have hN := Lib.hid (parN_no t h)
    have H := Lib.hid h
    clear h
    unfold geoV
    go_enter Try.func9, Try.ntmps9
    go_wp2_with fail
    refine (may_ref m s r _).mono ?_
    rintro e w1 ⟨rfl, hb1⟩
    obtain ⟨K0, HB⟩ := behind_g hb1 (new1 ..)
    rw [H.out]
    clear hb1
    go_wp2
    go_ret2
    exact ⟨ret_ints hN.out.symm hE.out.symm, HB.out⟩
  · cases h' : has s t
    · have hE := Lib.hid (parE_out h h')
      have hN := Lib.hid (parN_out h h')
      have ht := has_not.1 h'
      have H := Lib.hid h
      clear h h'
      unfold geoV
      go_enter Try.func9, Try.ntmps9
      go_wp2_with fail
      refine (may_ref m s r _).mono ?_
      rintro e w1 ⟨rfl, hb1⟩
      obtain ⟨K0, HB⟩ := behind_g hb1 (new1 ..)
      obtain ⟨c0, c1, c2⟩ := cells3 K0.out
      rw [H.out]
      clear hb1
      by_cases h0 : t < 0
      · clear ht
        go_wp2
        go_ret2
        exact ⟨ret_ints hN.out.symm hE.out.symm, HB.out⟩
      · have h1 : s ≤ t := by omega
        clear ht
        go_wp2
        go_ret2
        exact ⟨ret_ints hN.out.symm hE.out.symm, HB.out⟩
    · obtain ⟨M, S, rfl, rfl, _, _, _, _⟩ := nat_geo h
      obtain ⟨T, rfl, _⟩ := nat_stripe h'
      have hE := Lib.hid (parE_in h h')
      have hN := Lib.hid (parN_in h h')
      have ht := has_iff.1 h'
      have hpi := par_int T (M := M) (by omega)
      have hne : (M : Int) ≠ 0 := by omega
      have H := Lib.hid h
      clear h h'
      unfold geoV
      go_enter Try.func9, Try.ntmps9
      go_wp2_with fail
      refine (may_ref M S r _).mono ?_
      rintro e w1 ⟨rfl, hb1⟩
      obtain ⟨K0, HB⟩ := behind_g hb1 (new1 ..)
      obtain ⟨c0, c1, c2⟩ := cells3 K0.out
      rw [H.out]
      clear hb1
      go_wp2
      go_region
      go_wp2
      go_ret2
      exact ⟨ret_ints hN.out.symm hE.out.symm, bd HB.out⟩
/-- What Sector answers. -/
def secN (t : Int) : Int := if has 64 t = true then 2 + t else 0
def secE (t : Int) : Int := if has 64 t = true then 0 else 12
theorem sector_prog (t : Int) (w : World) : Calls Try.prog 21 #[.int .i64 t] w fun e w' => e = .returned (.tuple #[.int .i64 (secN t), .int .i64 (secE t)]) ∧ Below w.heap.size w w' := by
  go_enter Try.func21, Try.ntmps21
  go_wp2
  all_goals
    go_ret2
    refine ⟨ret_ints ?_ ?_, Below.refl _ _⟩
    all_goals
      first
      | unfold secN
      | unfold secE
      first
      | rw [if_pos (has_iff.2 (by omega))]
      | rw [if_neg (by rw [has_iff]; omega)]
theorem sector_ref (t : Int) (w : World) : Calls Try.prog 22 #[.int .i64 t] w fun e w' => e = .returned (.tuple #[.int .i64 (secN t), .int .i64 (secE t)]) ∧ Below w.heap.size w w' := by
  go_enter Try.func22, Try.ntmps22
  go_wp2
  all_goals
    go_ret2
    refine ⟨ret_ints ?_ ?_, Below.refl _ _⟩
    all_goals
      first
      | unfold secN
      | unfold secE
      first
      | rw [if_pos (has_iff.2 (by omega))]
      | rw [if_neg (by rw [has_iff]; omega)]
/-- How many blocks. -/
def cntN (m s r : Int) : Int := if may m s r = true then ((s.toNat * (m.toNat - 1) : Nat) : Int) else 0
theorem cntN_no {m s r : Int} (h : may m s r = false) : cntN m s r = 0 := by simp [cntN, h]
theorem cntN_in {M S : Nat} {r : Int} (h : may M S r = true) : cntN M S r = ((S * (M - 1) : Nat) : Int) := by unfold cntN; rw [if_pos h]; rfl
theorem blocks_prog (m s r : Int) (w : World) : Calls Try.prog 12 #[geoV m s r] w fun e w' => e = .returned (.int .i64 (cntN m s r)) ∧ Below w.heap.size w w' := by
  cases h : may m s r
  · rw [cntN_no h]; exact blocks_no m s r w h
  · obtain ⟨M, S, rfl, rfl, _⟩ := nat_geo h
    rw [cntN_in h]; exact blocks_ok M S r w h
theorem blocks_ref (m s r : Int) (w : World) : Calls Try.prog 13 #[geoV m s r] w fun e w' => e = .returned (.int .i64 (cntN m s r)) ∧ Below w.heap.size w w' := by
  cases h : may m s r
  · have hN := Lib.hid (cntN_no h)
    have H := Lib.hid h
    clear h
    unfold geoV
    go_enter Try.func13, Try.ntmps13
    go_wp2_with fail
    refine (may_ref m s r _).mono ?_
    rintro e w1 ⟨rfl, hb1⟩
    obtain ⟨K0, HB⟩ := behind_g hb1 (new1 ..)
    rw [H.out]
    clear hb1
    go_wp2
    go_ret
    exact ⟨ret_int hN.out.symm, HB.out⟩
  · obtain ⟨M, S, rfl, rfl, _, _, _, _⟩ := nat_geo h
    have hmul := mul_nat (M := M) (S := S) (by omega) (by omega) (by omega)
    have hN := Lib.hid (cntN_in h)
    have H := Lib.hid h
    have hlt : (M : Int) - 1 = ((M - 1 : Nat) : Int) := by omega
    clear h
    unfold geoV
    go_enter Try.func13, Try.ntmps13
    go_wp2_with fail
    refine (may_ref M S r _).mono ?_
    rintro e w1 ⟨rfl, hb1⟩
    obtain ⟨K0, HB⟩ := behind_g hb1 (new1 ..)
    obtain ⟨c0, c1, c2⟩ := cells3 K0.out
    rw [H.out]
    clear hb1
    go_wp2
    go_ret
    exact ⟨ret_int (by rw [hN.out, Int.natCast_mul]), HB.out⟩
end Go.Proofs.Ythephlgdjbdaoaa
