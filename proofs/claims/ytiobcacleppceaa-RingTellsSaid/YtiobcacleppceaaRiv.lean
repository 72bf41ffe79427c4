/-
  ashlarlaw12.lives.
-/
import Derived.Test.YtiobcacleppceaaRil
import Derived.Test.YtiobcacleppceaaRit
namespace Go.Proofs.Ytiobcacleppceaa
open Go.RowKit
set_option linter.unusedVariables false
set_option linter.unusedSimpArgs false

theorem MadeE.alloc {α : Type} {E : Elt α} {w : World} {B : Nat} {v : Value} {l : List α} (h : MadeE E w B v l) (o : Obj) : MadeE E (w.alloc o) B v l := h.below ((Below.refl _ _).alloc (Nat.le_refl _) o)
theorem lives_yes (w : World) : Calls Try.prog 15 #[] w fun e w' => e = .returned (.bool true) ∧ Below w.heap.size w w' := by
  go_enter Try.func15, Try.ntmps15
  go_wp2_with fail
  refine (psec 40 81 w (by omega) (by omega)).mono ?_
  rintro e w1 ⟨rfl, rfl⟩
  rw [show secN 40 81 = 1 from by decide, show secE 40 81 = 0 from by decide]
  go_wp2_with fail
  refine (pfre 40 10 30 w (by omega) (by omega) (by omega) (by omega)).mono ?_
  rintro e w1 ⟨rfl, rfl⟩
  rw [show freN 40 10 30 = 20 from by decide, show freE 40 10 30 = 0 from by decide]
  go_wp2_with fail
  refine (ptak 40 10 30 20 w (by omega) (by omega) (by omega) (by omega) (by omega)).mono ?_
  rintro e w1 ⟨rfl, rfl⟩
  rw [show takN 40 10 30 20 = 50 from by decide, show takE 40 10 30 20 = 0 from by decide]
  go_wp2_with fail
  refine (ptak 40 10 30 21 w (by omega) (by omega) (by omega) (by omega) (by omega)).mono ?_
  rintro e w1 ⟨rfl, rfl⟩
  rw [show takN 40 10 30 21 = 0 from by decide, show takE 40 10 30 21 = 10 from by decide]
  go_wp2_with fail
  refine (plis 4 3 3 _ w (Lib.hid rfl) (by omega) (by omega) (by omega) (by omega)).mono ?_
  rintro e w1 ⟨v, rfl, hv, hb⟩
  rw [show lisL 4 3 3 = [3, 0, 1] from by decide] at hv
  rw [show lisE 4 3 3 = 0 from by decide]
  obtain ⟨A, c, rfl, hrd, hc1, hc2⟩ := hv.open_ (n := 3) rfl
  have hnew : RdE IntE _ _ _ 3 _ := rdE_new (E := IntE) (l := [3, 0, 1]) w1 #[.int .i64 3, .int .i64 0, .int .i64 1] 3 rfl
  have hup := hrd.up (.cells #[.int .i64 3, .int .i64 0, .int .i64 1] 3)
  have HB := Lib.hid (hb.alloc hb.size (.cells #[.int .i64 3, .int .i64 0, .int .i64 1] 3))
  clear hv hrd hb
  go_wp2_with fail
  refine (ints_any _ _ _ _ _ _ _ _ _ _ hup hnew (by rw [World.size_alloc]; exact Nat.le_refl _) (by unfold maxLen; omega)).mono ?_
  rintro e w2 ⟨rfl, hb2⟩
  rw [show sameI [3, 0, 1] [3, 0, 1] = true from by decide]
  have HB2 := Lib.hid (HB.out.trans (hb2.mono HB.out.size))
  clear hb2 hnew hup
  go_wp2
  go_ret
  exact ⟨rfl, HB2.out⟩
end Go.Proofs.Ytiobcacleppceaa
