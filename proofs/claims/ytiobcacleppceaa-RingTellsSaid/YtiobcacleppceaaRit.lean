/-
  ring.Take, and the document's.
-/
import Derived.Test.YtiobcacleppceaaRis
namespace Go.Proofs.Ytiobcacleppceaa
open Go.RowKit
set_option linter.unusedVariables false
set_option linter.unusedSimpArgs false

theorem tol_iff {r t h n : Int} : tolB r t h n = true ↔ mayB r t h = true ∧ 0 ≤ n := by unfold tolB; exact decide_eq_true_iff
theorem rom_iff {r t h n : Int} : romB r t h n = true ↔ n ≤ r - (h - t) ∧ h + n ≤ 4611686018427387904 := by unfold romB; exact decide_eq_true_iff
theorem tak_no {r t h n : Int} (hm : ¬(mayB r t h = true ∧ 0 ≤ n)) : takN r t h n = 0 ∧ takE r t h n = 2 := by
  have : tolB r t h n = false := by unfold tolB; exact decide_eq_false hm
  unfold takN takE; rw [this]; exact ⟨rfl, rfl⟩
theorem tak_full {r t h n : Int} (hm : mayB r t h = true) (h0 : 0 ≤ n) (hr : ¬(n ≤ r - (h - t) ∧ h + n ≤ 4611686018427387904)) : takN r t h n = 0 ∧ takE r t h n = 10 := by
  have e1 : romB r t h n = false := by unfold romB; exact decide_eq_false hr
  unfold takN takE; rw [tol_iff.2 ⟨hm, h0⟩, e1]; exact ⟨rfl, rfl⟩
theorem tak_in {r t h n : Int} (hm : mayB r t h = true) (h0 : 0 ≤ n) (hr : n ≤ r - (h - t) ∧ h + n ≤ 4611686018427387904) : takN r t h n = h + n ∧ takE r t h n = 0 := by
  unfold takN takE; rw [tol_iff.2 ⟨hm, h0⟩, rom_iff.2 hr]; exact ⟨rfl, rfl⟩

set_option maxHeartbeats 1000000 in
theorem ptak (r t h n : Int) (w : World) (ht0 : 0 ≤ t) (ht1 : t ≤ 18446744073709551615) (hh0 : 0 ≤ h) (hh1 : h ≤ 18446744073709551615) (hn : n ≤ 9223372036854775807) : Calls Try.prog 10 #[.int .i64 r, .int .u64 t, .int .u64 h, .int .i64 n] w fun e w' => e = .returned (.tuple #[.int .u64 (takN r t h n), .int .i64 (takE r t h n)]) ∧ w = w' := by
  go_enter Try.func10, Try.ntmps10
  go_wp2_with fail
  refine (pfre r t h w ht0 ht1 hh0 hh1).mono ?_
  rintro e w1 ⟨rfl, rfl⟩
  cases hm : mayB r t h
  · have hs := Lib.hid (tak_no (r := r) (t := t) (h := h) (n := n) (by rw [hm]; simp))
    rw [(fre_no hm).1, (fre_no hm).2]
    clear hm
    go_wp2
    go_ret2
    exact ⟨ret_pair hs.out, rfl⟩
  · have HM := Lib.hid hm
    obtain ⟨g1, g2, g3, g4, g5⟩ := mayB_iff.1 hm
    rw [(fre_in hm).1, (fre_in hm).2]
    clear hm
    by_cases h0 : 0 ≤ n
    · by_cases hf : n ≤ r - (h - t)
      · by_cases ha : h + n ≤ 4611686018427387904
        · have hs := Lib.hid (tak_in HM.out h0 ⟨hf, ha⟩)
          go_wp2_with fail
          refine (ahead_ok h w hh0 g4).mono ?_
          rintro e w1 ⟨rfl, rfl⟩
          go_wp2
          go_ret2
          exact ⟨ret_pair ⟨hs.out.1.trans (by omega), hs.out.2⟩, rfl⟩
        · have hs := Lib.hid (tak_full HM.out h0 (fun x => ha x.2))
          go_wp2_with fail
          refine (ahead_ok h w hh0 g4).mono ?_
          rintro e w1 ⟨rfl, rfl⟩
          go_wp2
          go_ret2
          exact ⟨ret_pair hs.out, rfl⟩
      · have hs := Lib.hid (tak_full HM.out h0 (fun x => hf x.1))
        go_wp2
        go_ret2
        exact ⟨ret_pair hs.out, rfl⟩
    · have hs := Lib.hid (tak_no (r := r) (t := t) (h := h) (n := n) (fun x => h0 x.2))
      go_wp2
      go_ret2
      exact ⟨ret_pair hs.out, rfl⟩
set_option maxHeartbeats 1000000 in
theorem rtak (r t h n : Int) (w : World) (ht0 : 0 ≤ t) (ht1 : t ≤ 18446744073709551615) (hh0 : 0 ≤ h) (hh1 : h ≤ 18446744073709551615) (hn : n ≤ 9223372036854775807) : Calls Try.prog 11 #[.int .i64 r, .int .u64 t, .int .u64 h, .int .i64 n] w fun e w' => e = .returned (.tuple #[.int .u64 (takN r t h n), .int .i64 (takE r t h n)]) ∧ w = w' := by
  go_enter Try.func11, Try.ntmps11
  go_wp2_with fail
  refine (rmay r t h w ht0 ht1 hh0 hh1).mono ?_
  rintro e w1 ⟨rfl, rfl⟩
  cases hm : mayB r t h
  · have hs := Lib.hid (tak_no (r := r) (t := t) (h := h) (n := n) (by rw [hm]; simp))
    clear hm
    go_wp2
    go_ret2
    exact ⟨ret_pair hs.out, rfl⟩
  · have HM := Lib.hid hm
    have HF := Lib.hid (fre_in hm)
    obtain ⟨g1, g2, g3, g4, g5⟩ := mayB_iff.1 hm
    clear hm
    by_cases h0 : 0 ≤ n
    · go_wp2_with fail
      refine (rfre r t h w ht0 ht1 hh0 hh1).mono ?_
      rintro e w1 ⟨rfl, rfl⟩
      rw [HF.out.1, HF.out.2]
      by_cases hf : n ≤ r - (h - t)
      · by_cases ha : h + n ≤ 4611686018427387904
        · have hs := Lib.hid (tak_in HM.out h0 ⟨hf, ha⟩)
          go_wp2
          go_ret2
          exact ⟨ret_pair ⟨hs.out.1.trans (by omega), hs.out.2⟩, rfl⟩
        · have hs := Lib.hid (tak_full HM.out h0 (fun x => ha x.2))
          go_wp2
          go_ret2
          exact ⟨ret_pair hs.out, rfl⟩
      · have hs := Lib.hid (tak_full HM.out h0 (fun x => hf x.1))
        go_wp2
        go_ret2
        exact ⟨ret_pair hs.out, rfl⟩
    · have hs := Lib.hid (tak_no (r := r) (t := t) (h := h) (n := n) (fun x => h0 x.2))
      go_wp2
      go_ret2
      exact ⟨ret_pair hs.out, rfl⟩
end Go.Proofs.Ytiobcacleppceaa
