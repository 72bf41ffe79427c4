/-
  'GeomSectors' of the landed code answers true for every input, and its arguments read as they did: the statement GeomSectorsSaid, with no condition beyond the row's own.
-/
import Derived.Test.YthephlgdjbdaoaaKnob
import Derived.Test.YthephlgdjbdaoaaGeoJ
namespace Go.Proofs.Ythephlgdjbdaoaa.geomSectors
open Go.RowKit Go.ChangeShapes Go.WideShapes Go.ChangeAt
set_option linter.unusedVariables false

theorem walk (W : World) (a0 : Int) (w0 : (Lit.int .i64 a0).wf = true) :
    Calls Try.prog 7 #[.int .i64 a0] W fun e w' => e = .returned (.bool true) ∧ Below W.heap.size W w' := by
  have hor : a0 < 0 ∨ (0 ≤ a0 ∧ 64 ≤ a0) ∨ (0 ≤ a0 ∧ a0 < 64) := by omega
  rcases hor with h | ⟨h, h'⟩ | ⟨h, h'⟩
  · have E1 := Lib.hid (show secN a0 = 0 by unfold secN; rw [if_neg (by rw [has_iff]; omega)])
    have E2 := Lib.hid (show secE a0 = 12 by unfold secE; rw [if_neg (by rw [has_iff]; omega)])
    go_enter Try.func7, Try.ntmps7
    go_wp2_with fail
    refine (sector_prog a0 W).mono ?_
    rintro e w1 ⟨rfl, hb1⟩
    rw [E1.out, E2.out]
    go_wp2_with fail
    refine (lives_yes w1).mono ?_
    rintro e w2 ⟨rfl, hb2⟩
    go_wp2
    go_ret
    exact ⟨rfl, two hb1 hb2⟩
  · have E1 := Lib.hid (show secN a0 = 0 by unfold secN; rw [if_neg (by rw [has_iff]; omega)])
    have E2 := Lib.hid (show secE a0 = 12 by unfold secE; rw [if_neg (by rw [has_iff]; omega)])
    go_enter Try.func7, Try.ntmps7
    go_wp2_with fail
    refine (sector_prog a0 W).mono ?_
    rintro e w1 ⟨rfl, hb1⟩
    rw [E1.out, E2.out]
    go_wp2_with fail
    refine (lives_yes w1).mono ?_
    rintro e w2 ⟨rfl, hb2⟩
    go_wp2
    go_ret
    exact ⟨rfl, two hb1 hb2⟩
  · have E1 := Lib.hid (show secN a0 = 2 + a0 by unfold secN; rw [if_pos (by rw [has_iff]; omega)])
    have E2 := Lib.hid (show secE a0 = 0 by unfold secE; rw [if_pos (by rw [has_iff]; omega)])
    go_enter Try.func7, Try.ntmps7
    go_wp2_with fail
    refine (sector_prog a0 W).mono ?_
    rintro e w1 ⟨rfl, hb1⟩
    rw [E1.out, E2.out]
    go_wp2_with fail
    refine (lives_yes w1).mono ?_
    rintro e w2 ⟨rfl, hb2⟩
    go_wp2
    go_ret
    exact ⟨rfl, two hb1 hb2⟩

set_option maxRecDepth 100000 in
theorem lifted (os : Os) (started : os.Started) (H : Type) (enc : TypeId × Value → H) :
    ReturnsInHanded {} Try.checked os 7 .any (Rows.geomSectorsSpec.pre6 enc Try.prog Try.f7 Rows.geomSectorsRow.domain false) (Rows.geomSectorsSpec.post enc Try.prog Try.f7 false true false false) := by
  refine returnsInHanded_of_change_sized (C := Try.checked) own_knob started (by kernel_rfl) Try.func7
    (ChangeSpec.witness6 (enc := enc) (C := Try.checked) false ⟨#[], #[.int .i64 0], []⟩ 8 (by kernel_rfl) (by kernel_rfl) (by kernel_rfl) (by kernel_rfl)) ?_
  intro W base args ds gs before hval0 hW hcnd hsz0 _
  have hsz : (DataW.weightsEach Try.prog (Try.f7.params.toList ++ Rows.geomSectorsSpec.plain.varTypes Try.prog) (ds ++ gs)).all (· ≤ reachBytes) = true := hsz0
  clear hsz0
  have hval : ∀ (j : Nat) t v, Try.f7.params[j]? = some t → args[j]? = some v → Value.okWide Try.prog W .any base t v := hval0
  have hW' := hW
  obtain ⟨p, q, hA0, hV, rfl, hfz, hnd⟩ := hW
  have hA : DataW.TrodAll enc Try.prog W 0 (fun _ => true) true Try.f7.params.toList args.toList ds p := hA0
  rw [Try.params7] at hA hval hsz
  obtain ⟨v0, vs0, d0, ds0, p0, q0, hargs, rfl, rfl, h0, r0⟩ := trodAll_cons hA
  obtain ⟨rfl, rfl, rfl⟩ := trodAll_nil r0
  obtain rfl : args = #[v0] := by cases args; simp_all
  obtain ⟨rfl, rfl⟩ := trodVars_none hV
  obtain ⟨a0, rfl, rfl, rfl, w0⟩ := open_int Try.underlying3 (hval 0 3 v0 rfl rfl) h0
  clear hA0 hval0
  refine (walk W a0 w0).mono fun e W' ⟨he, bel⟩ => ?_
  subst he
  exact ⟨_, rfl, _, _, _, [], _, [], hW', trodAll_mk1 (shut_bool Try.underlying4 _), (trodAll_cons_mk (shut_int Try.underlying3 w0) trodAll_mk0), rfl, bel.frame _, fun h => by cases h⟩

theorem over : Rows.geomSectorsRow.holds Try.pinned (OpenSpec.ofChange Rows.geomSectorsSpec) :=
  OpenClaim.holds_of_wide 7 Try.f7 rfl rfl rfl rfl rfl rfl rfl ⟨rfl, rfl, rfl, rfl, rfl⟩ rfl rfl rfl rfl rfl (by kernel_rfl) Try.func7 (by kernel_rfl)
    (of_decide_eq_true (by kernel_rfl)) (by unfold Func.isWrapper; first | (rw [if_pos (by decide +kernel)]; kernel_rfl) | (rw [if_neg (by decide +kernel)]; exact ⟨rfl, rfl⟩))
    (fun os started H enc _ => lifted os started H enc)

theorem proved : Rows.GeomSectorsSaid := over
#print axioms proved
end Go.Proofs.Ythephlgdjbdaoaa.geomSectors
