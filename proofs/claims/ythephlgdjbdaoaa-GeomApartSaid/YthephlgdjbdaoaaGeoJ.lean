/-
  three, geo; lives: the places that each law of layer 4 asks besides are as the document tells.
-/
import Derived.Test.YthephlgdjbdaoaaGeoI
namespace Go.Proofs.Ythephlgdjbdaoaa
open Go.RowKit
set_option linter.unusedVariables false

theorem res_geo {fn : Func} {p : Tmp} {m s r : Int} {tmps : Array Value} {w : World} {b : Nat} (h : fn.results = #[.cell p 23]) (hp : tmps.getD p undef = .pointer (some ⟨b, 0, none⟩))
    (h0 : w.cell? ⟨b, 0, none⟩ = some (.int .i64 m)) (h1 : w.cell? ⟨b, 1, none⟩ = some (.int .i64 s)) (h2 : w.cell? ⟨b, 2, none⟩ = some (.int .i64 r)) : (results fn tmps).run Try.prog w = .ok (geoV m s r) w := by
  have hp' : tmps[p]?.getD undef = .pointer (some ⟨b, 0, none⟩) := by simpa using hp
  have hl : (loadVar 23 ⟨b, 0, none⟩).run Try.prog w = .ok (geoV m s r) w := by simp [go_sem, loadVar, h0, h1, h2, geoV]
  simp [results, h, hp', asAddr, hl]
theorem three_ok (w : World) : Calls Try.prog 30 #[] w fun e w' => e = .returned (geoV 3 4 40) ∧ Below w.heap.size w w' := by
  go_enter Try.func30, Try.ntmps30
  go_wp2
  refine bodyPost_ret (res_geo (b := w.heap.size) (m := 3) (s := 4) (r := 40) rfl rfl (by go_simp) (by go_simp) (by go_simp)) rfl ⟨rfl, ?_⟩
  exact (Below.refl _ _).alloc (Nat.le_refl _) _
theorem geo_ok (a b : Nat) (w : World) (ha : a < 256) (hb : b < 256) : Calls Try.prog 24 #[.int .u8 a, .int .u8 b] w fun e w' => e = .returned (geoV ((3 + a % 14 : Nat) : Int) ((1 + b % 64 : Nat) : Int) 40) ∧ Below w.heap.size w w' := by
  go_enter Try.func24, Try.ntmps24
  go_wp2
  refine bodyPost_ret (res_geo (b := w.heap.size) (m := ((3 + a % 14 : Nat) : Int)) (s := ((1 + b % 64 : Nat) : Int)) (r := 40) rfl rfl (by go_simp) (by go_simp) (by go_simp)) rfl ⟨rfl, ?_⟩
  exact (Below.refl _ _).alloc (Nat.le_refl _) _
set_option maxHeartbeats 2000000 in
theorem lives_yes (w : World) : Calls Try.prog 23 #[] w fun e w' => e = .returned (.bool true) ∧ Below w.heap.size w w' := by
  have E1 := Lib.hid (show parN 3 4 40 3 = 2 from by decide)
  have E2 := Lib.hid (show parE 3 4 40 3 = 0 from by decide)
  have E3 := Lib.hid (show parE 3 4 40 1 = 0 from by decide)
  have E4 := Lib.hid (show datL 3 4 40 1 = [2, 0] from by decide)
  have E5 := Lib.hid (show atV 3 4 40 2 = .tuple #[.agg #[.int .i64 1, .int .i64 2], .int .i64 0] from by rfl)
  have E6 := Lib.hid (show blV 3 4 40 1 1 = .tuple #[.int .i64 0, .int .i64 7] from by rfl)
  have E7 := Lib.hid (show cntN 3 4 40 = 8 from by decide)
  go_enter Try.func23, Try.ntmps23
  go_wp2_with fail
  refine (three_ok w).mono ?_
  rintro e w1 ⟨rfl, hb1⟩
  go_wp2_with fail
  refine (parity_prog 3 4 40 3 w1).mono ?_
  rintro e w2 ⟨rfl, hb2⟩
  rw [E1.out, E2.out]
  have B2 := Lib.hid (two hb1 hb2)
  clear hb1 hb2
  go_wp2_with fail
  refine (three_ok w2).mono ?_
  rintro e w3 ⟨rfl, hb3⟩
  go_wp2_with fail
  refine (data_prog 3 4 40 1 _ w3 (Lib.hid rfl)).mono ?_
  rintro e w4 ⟨v, rfl, hv, hb4⟩
  rw [E3.out]
  rw [E4.out] at hv
  have B4 := Lib.hid (two B2.out (two hb3 hb4))
  clear hb3 hb4
  go_wp2_with fail
  refine (three_ok w4).mono ?_
  rintro e w5 ⟨rfl, hb5⟩
  have hv5 := hv.below hb5
  go_wp2_with fail
  refine (at_prog 3 4 40 2 w5).mono ?_
  rintro e w6 ⟨rfl, hb6⟩
  rw [E5.out]
  have hv6 := hv5.below hb6
  have B6 := Lib.hid (two B4.out (two hb5 hb6))
  clear hb5 hb6 hv hv5
  go_wp2_with fail
  have K6 := new1 w6 #[.int .i64 1, .int .i64 2] 25
  have hv7 := hv6.below ((Below.refl _ _).alloc (Nat.le_refl _) (.cells #[.int .i64 1, .int .i64 2] 25))
  have B7 := Lib.hid (B6.out.alloc B6.out.size (.cells #[.int .i64 1, .int .i64 2] 25))
  generalize hp : w6.heap.size = P at *
  generalize w6.alloc (.cells #[.int .i64 1, .int .i64 2] 25) = w7 at *
  clear hv6 B6 hp
  refine (three_ok w7).mono ?_
  rintro e w8 ⟨rfl, hb8⟩
  go_wp2_with fail
  refine (block_prog 3 4 40 1 1 w8).mono ?_
  rintro e w9 ⟨rfl, hb9⟩
  rw [E6.out]
  have K9 := blk_keep (blk_keep K6 hb8) hb9
  have hv9 := (hv7.below hb8).below hb9
  have B9 := Lib.hid (two B7.out (two hb8 hb9))
  clear hb8 hb9 hv7 K6 B7
  go_wp2_with fail
  refine (three_ok w9).mono ?_
  rintro e w10 ⟨rfl, hb10⟩
  go_wp2_with fail
  refine (blocks_prog 3 4 40 w10).mono ?_
  rintro e w11 ⟨rfl, hb11⟩
  rw [E7.out]
  have K11 := blk_keep (blk_keep K9 hb10) hb11
  have hv11 := (hv9.below hb10).below hb11
  have B11 := Lib.hid (two B9.out (two hb10 hb11))
  clear hb10 hb11 hv9 K9 B9
  obtain ⟨A, c, rfl, hrd, hc1, hc2⟩ := hv11.open_ (n := 2) rfl
  go_wp2_with fail
  have hnew : RdE IntE _ _ _ 2 _ := rdE_new (E := IntE) (l := [2, 0]) w11 #[.int .i64 2, .int .i64 0] 3 rfl
  refine (ints_any _ _ _ _ _ _ _ _ _ _ (hrd.up _) hnew (by simp) (by unfold maxLen; omega)).mono ?_
  rintro e w12 ⟨rfl, hb12⟩
  rw [show sameI [2, 0] [2, 0] = true from by decide]
  obtain ⟨p0, p1, f0, f1⟩ := cells2 (blk_keep (blk_past K11 _) hb12)
  have B12 := Lib.hid ((B11.out.alloc B11.out.size _).trans (hb12.mono (by rw [World.size_alloc]; have := B11.out.size; omega)))
  clear hb12 hnew hrd hv11 K11
  go_wp2
  go_ret
  exact ⟨rfl, B12.out⟩
end Go.Proofs.Ythephlgdjbdaoaa
