/-
  geom.Blocks, Parity.
-/
import Derived.Test.YthephlgdjbdaoaaGeo
namespace Go.Proofs.Ythephlgdjbdaoaa
open Go.RowKit
set_option linter.unusedVariables false
theorem mul_nat {M S : Nat} (h3 : 3 ≤ M) (h16 : M ≤ 16) (h64 : S ≤ 64) : IntKind.i64.wrap ((S : Int) * ((M - 1 : Nat) : Int)) = ((S * (M - 1) : Nat) : Int) := by
  have h := Nat.mul_le_mul h64 (show M - 1 ≤ 15 by omega)
  rw [← Int.natCast_mul]
  exact IntWalk.i64_in _ (by omega)
set_option maxHeartbeats 1000000 in
theorem blocks_ok (M S : Nat) (r : Int) (w : World) (h : may M S r = true) : Calls Try.prog 12 #[geoV M S r] w fun e w' => e = .returned (.int .i64 ((S * (M - 1) : Nat) : Int)) ∧ Below w.heap.size w w' := by
  have hM := may_iff.1 h
  have HMUL := Lib.hid (mul_nat (M := M) (S := S) (by omega) (by omega) (by omega))
  have H := Lib.hid h
  clear h
  unfold geoV
  go_enter Try.func12, Try.ntmps12
  go_wp2_with fail
  refine (may_prog M S r _).mono ?_
  rintro e w1 ⟨rfl, hb1⟩
  obtain ⟨K0, HB⟩ := behind_g hb1 (new1 ..)
  obtain ⟨c0, c1, c2⟩ := cells3 K0.out
  rw [H.out]
  clear hb1
  go_wp2_with fail
  have CC := fun (w' : World) (hw : Below w1.heap.size w1 w') => cells3 (blk_keep K0.out hw)
  refine wp_region_above (B := w1.heap.size) (by kernel_rfl) ?_
  refine qv_val rfl (fun w' hw => exec_faddr rfl (ev rfl) faG1) ?_
  simp only [Act.put, List.setIfInBounds_toArray, List.set_cons_succ, List.set_cons_zero]
  refine qv_val rfl (fun w' hw => exec_ld rfl (ev rfl) (ldI (CC w' hw).2.1)) ?_
  simp only [Act.put, List.setIfInBounds_toArray, List.set_cons_succ, List.set_cons_zero]
  refine qv_val rfl (fun w' hw => exec_ld rfl (ev rfl) (ldG (CC w' hw).1 (CC w' hw).2.1 (CC w' hw).2.2)) ?_
  simp only [Act.put, List.setIfInBounds_toArray, List.set_cons_succ, List.set_cons_zero]
  refine qv_call rfl (fun _ => exec_cl Try.call27 rfl (evc (ev rfl) evn)) (above_of (Nat.le_refl _) fun w' hw => width_prog M S r w' (by omega) (by omega)) ?_
  simp only [Act.put, List.setIfInBounds_toArray, List.set_cons_succ, List.set_cons_zero]
  refine qv_val rfl (fun w' hw => exec_mul rfl (ev rfl) (ev rfl) HMUL.out) ?_
  simp only [Act.put, List.setIfInBounds_toArray, List.set_cons_succ, List.set_cons_zero]
  refine qv_val rfl (fun w' hw => exec_as rfl (ev rfl)) ?_
  simp only [Act.put, List.setIfInBounds_toArray, List.set_cons_succ, List.set_cons_zero]
  refine wpQuiet_nil ?_
  intro w2 hw2
  go_wp2_with fail
  go_ret
  exact ⟨rfl, HB.out.trans (hw2.mono HB.out.size)⟩
end Go.Proofs.Ythephlgdjbdaoaa
