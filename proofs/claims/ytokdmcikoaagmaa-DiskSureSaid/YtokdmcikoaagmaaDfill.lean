/-
  filled: a device on which writes were done.
-/
import Derived.Test.YtokdmcikoaagmaaDplays
namespace Go.Proofs.Ytokdmcikoaagmaa
open Go.RowKit
set_option linter.unusedVariables false

section
variable {ρ : Operand → Value} {o : Oper} {x y : Operand} {w : World} {a : Int}
theorem run_cvU : (convert 3 45 (.int .i64 a)).run Try.prog w = .ok (.int .u64 (IntKind.u64.wrap a)) w := by
  simp [convert, go_sem]
theorem run_cvI (h : IntKind.i64.wrap a = a) : (convert 45 3 (.int .u64 a)).run Try.prog w = .ok (.int .i64 a) w := by
  simp [convert, go_sem, h]
theorem exec_cvU (ho : o.op = .convert 3 45 x) (hx : ρ x = .int .i64 a) : (execOp ρ o).run Try.prog w = .ok (.value (.int .u64 (IntKind.u64.wrap a))) w := by
  unfold execOp
  simp only [ho, hx, Sem.run_bind, run_cvU, Result.andThen_ok, Sem.run_pure]
theorem exec_cvN (ho : o.op = .convert 3 45 x) (hx : ρ x = .int .i64 a) (h : IntKind.u64.wrap a = a) : (execOp ρ o).run Try.prog w = .ok (.value (.int .u64 a)) w := by
  have := exec_cvU (ρ := ρ) (w := w) ho hx
  rwa [h] at this
theorem exec_cvI (ho : o.op = .convert 45 3 x) (hx : ρ x = .int .u64 a) (h : IntKind.i64.wrap a = a) : (execOp ρ o).run Try.prog w = .ok (.value (.int .i64 a)) w := by
  unfold execOp
  simp only [ho, hx, Sem.run_bind, run_cvI h, Result.andThen_ok, Sem.run_pure]
theorem exec_remU {t r : TypeId} {b c : Int} (ho : o.op = .binOp .rem t x y r) (hx : ρ x = .int .u64 a) (hy : ρ y = .int .u64 b) (h0 : b ≠ 0) (h : a.tmod b = c) : (execOp ρ o).run Try.prog w = .ok (.value (.int .u64 c)) w := by
  unfold execOp
  simp [ho, hx, hy, eqGuard, binOp, Op.intDiv, h, h0]
theorem faW0 {b off : Nat} : (Instr.fieldAt 47 (.pointer (some ⟨b, off, none⟩)) 0).run Try.prog w = .ok (.pointer (some ⟨b, off, none⟩)) w := by kernel_rfl
theorem faW1 {b off : Nat} : (Instr.fieldAt 47 (.pointer (some ⟨b, off, none⟩)) 1).run Try.prog w = .ok (.pointer (some ⟨b, off + 1, none⟩)) w := by kernel_rfl
end
/-- A number by a remainder of what it is without a sign. -/
theorem place_u (a : Int) (n : Nat) (h : 0 < n) : ∃ k : Nat, k < n ∧ (IntKind.u64.wrap a).tmod (n : Int) = (k : Int) := by
  have h1 : 0 ≤ IntKind.u64.wrap a := by rw [IntKind.wrap_u64]; omega
  have h2 := Int.tmod_eq_emod_of_nonneg (b := (n : Int)) h1
  have h3 := Int.emod_nonneg (IntKind.u64.wrap a) (b := (n : Int)) (by omega)
  have h4 := Int.emod_lt_of_pos (IntKind.u64.wrap a) (b := (n : Int)) (by omega)
  obtain ⟨k, hk⟩ := Int.eq_ofNat_of_zero_le h3
  exact ⟨k, by omega, by rw [h2, hk]⟩
theorem wrL_ok {S : List Blk} {L : List (Int × Blk)} {k : Nat} {b : Blk} (hk : k < S.length) : askE S false (k : Int) = 0 ∧ wrL S L false (k : Int) b = L ++ [((k : Int), b)] := by
  have h := askE_ok (S := S) (n := (k : Int)) (by omega)
  exact ⟨h, by unfold wrL; rw [if_pos h]⟩
set_option maxRecDepth 100000 in
set_option maxHeartbeats 4000000 in
theorem filled_ok (D : Dev) (a : Nat) (A : Option Addr) (n c : Nat) (l : List (Int × Blk)) (w : World) (ha : a < 256) (hl : RdE WrE w w.heap.size A n l) (hnc : n ≤ c) (hc : c ≤ maxLen) :
    Calls Try.prog 13 #[.int .u8 a, .slice A n c] w fun e w' => ∃ (p : Nat), e = .returned (.tuple #[.pointer (some ⟨p, 0, none⟩), .int .i64 ((1 + a % 16 : Nat) : Int), .bool true]) ∧ ∃ (F : Nat → Prop) (L : List (Int × Blk)), D.Dv w' F p (List.replicate (1 + a % 16) zeroB) L false ∧ L.length ≤ 40 ∧ Below w.heap.size w w' ∧ ∀ b, F b → w.heap.size ≤ b := by
  unfold maxLen at hc
  have hlen : (List.replicate (1 + a % 16) zeroB).length = 1 + a % 16 := by simp
  have hk1 : 1 ≤ 1 + a % 16 ∧ 1 + a % 16 ≤ 16 := by omega
  have hke : (1 + (a : Int) % 16) = ((1 + a % 16 : Nat) : Int) := by omega
  have HL := Lib.hid hl
  have HKE := Lib.hid hke
  clear hl hke
  go_enter Try.func13, Try.ntmps13
  go_wp2_with fail
  rw [HKE.out]
  generalize hkk : 1 + a % 16 = k at *
  have HKK := Lib.hid hkk
  clear hkk
  refine (D.new_ok k w (by omega) (by omega)).mono ?_
  rintro e w1 ⟨p, F1, rfl, hd, hb1, hf1⟩
  go_wp2_with fail
  go_loopw [10] (fun i wr => ∃ (j : Nat) (F : Nat → Prop) (L : List (Int × Blk)), j ≤ n ∧ j ≤ 40 ∧ i = .int .i64 j ∧ D.Dv wr F p (List.replicate k zeroB) L false ∧ L.length ≤ j ∧ Below w.heap.size w wr ∧ ∀ b, F b → w.heap.size ≤ b) (fun i _ => n - (intOf i).toNat)
  case atStart => exact ⟨0, F1, _, Nat.zero_le _, by omega, rfl, hd, by simp, hb1, hf1⟩
  case round =>
    clear hd hb1 hf1
    obtain ⟨j, F, L, hjn, hj4, rfl, hd, hLj, hbl, hf⟩ := hrel
    by_cases hltt : j < n ∧ j < 40
    · obtain ⟨hlt, h40⟩ := hltt
      have h40' : (j : Int) < 40 := by omega
      have hln : (j : Int) < (n : Int) := by omega
      obtain ⟨bA, oA, hAe, hA, cA, rA⟩ := (HL.out.below hbl).pair hlt
      generalize (l.getD j (0, zeroB)).1 = bn at *
      generalize (l.getD j (0, zeroB)).2 = x at *
      obtain ⟨q, hqk, hq⟩ := place_u bn k (by omega)
      have hk31 : IntKind.u64.wrap (k : Int) = (k : Int) := by rw [IntKind.wrap_u64]; omega
      have hq31 : IntKind.i64.wrap (q : Int) = (q : Int) := IntWalk.i64_in _ (by omega)
      have hkne : (k : Int) ≠ 0 := by omega
      have HX := Lib.hid (⟨cA, rA⟩ : _ ∧ _)
      have HD := Lib.hid hd
      have HBL := Lib.hid hbl
      have HQ := Lib.hid hq
      subst hAe
      clear cA rA hd hbl hq
      go_wp2_with fail
      refine wp_region_held (S := fun w' => Hid (w'.cell? ⟨bA, oA + j * 65, none⟩ = some (.int .i64 bn) ∧ w'.rangeAt bA (oA + j * 65 + 1) (cel x))) (by kernel_rfl) ?_
      change wpAnyH _ _ _ _ _ 18 _ _ wr.drew
      have hS : Hid (wr.drew.cell? ⟨bA, oA + j * 65, none⟩ = some (.int .i64 bn) ∧ wr.drew.rangeAt bA (oA + j * 65 + 1) (cel x)) := Lib.hid HX.out
      have hq := HQ.out
      refine held_val 0 rfl (by kernel_rfl) (by kernel_rfl) (by kernel_rfl) rfl (fun w' hw => exec_mv rfl (ev rfl)) (fun _ _ _ h => h) hS ?_
      simp only [Act.put, List.setIfInBounds_toArray, List.set_cons_succ, List.set_cons_zero]
      refine held_val 1 rfl (by kernel_rfl) (by kernel_rfl) (by kernel_rfl) rfl (fun w' hw => exec_mv rfl (ev rfl)) (fun _ _ _ h => h) hS ?_
      simp only [Act.put, List.setIfInBounds_toArray, List.set_cons_succ, List.set_cons_zero]
      refine held_val 2 rfl (by kernel_rfl) (by kernel_rfl) (by kernel_rfl) rfl (fun w' hw => exec_mv rfl (ev rfl)) (fun _ _ _ h => h) hS ?_
      simp only [Act.put, List.setIfInBounds_toArray, List.set_cons_succ, List.set_cons_zero]
      refine held_val 3 rfl (by kernel_rfl) (by kernel_rfl) (by kernel_rfl) rfl (fun w' hw => exec_indexE (E := WrE) rfl (ev rfl) (ev rfl) hlt) (fun _ _ _ h => h) hS ?_
      simp only [Act.put, List.setIfInBounds_toArray, List.set_cons_succ, List.set_cons_zero]
      refine held_val 4 rfl (by kernel_rfl) (by kernel_rfl) (by kernel_rfl) rfl (fun w' hw => exec_faddr rfl (ev rfl) faW0) (fun _ _ _ h => h) hS ?_
      simp only [Act.put, List.setIfInBounds_toArray, List.set_cons_succ, List.set_cons_zero]
      refine held_val 5 rfl (by kernel_rfl) (by kernel_rfl) (by kernel_rfl) rfl (fun w' hw => exec_ld rfl (ev rfl) (ldI hw.out.1)) (fun _ _ _ h => h) hS ?_
      simp only [Act.put, List.setIfInBounds_toArray, List.set_cons_succ, List.set_cons_zero]
      refine held_val 6 rfl (by kernel_rfl) (by kernel_rfl) (by kernel_rfl) rfl (fun w' hw => exec_cvU rfl (ev rfl)) (fun _ _ _ h => h) hS ?_
      simp only [Act.put, List.setIfInBounds_toArray, List.set_cons_succ, List.set_cons_zero]
      refine held_val 7 rfl (by kernel_rfl) (by kernel_rfl) (by kernel_rfl) rfl (fun w' hw => exec_mv rfl (ev rfl)) (fun _ _ _ h => h) hS ?_
      simp only [Act.put, List.setIfInBounds_toArray, List.set_cons_succ, List.set_cons_zero]
      refine held_val 8 rfl (by kernel_rfl) (by kernel_rfl) (by kernel_rfl) rfl (fun w' hw => exec_cvN rfl (ev rfl) hk31) (fun _ _ _ h => h) hS ?_
      simp only [Act.put, List.setIfInBounds_toArray, List.set_cons_succ, List.set_cons_zero]
      refine held_val 9 rfl (by kernel_rfl) (by kernel_rfl) (by kernel_rfl) rfl (fun w' hw => exec_remU rfl (ev rfl) (ev rfl) hkne hq) (fun _ _ _ h => h) hS ?_
      simp only [Act.put, List.setIfInBounds_toArray, List.set_cons_succ, List.set_cons_zero]
      refine held_val 10 rfl (by kernel_rfl) (by kernel_rfl) (by kernel_rfl) rfl (fun w' hw => exec_cvI rfl (ev rfl) hq31) (fun _ _ _ h => h) hS ?_
      simp only [Act.put, List.setIfInBounds_toArray, List.set_cons_succ, List.set_cons_zero]
      refine held_val 11 rfl (by kernel_rfl) (by kernel_rfl) (by kernel_rfl) rfl (fun w' hw => exec_mv rfl (ev rfl)) (fun _ _ _ h => h) hS ?_
      simp only [Act.put, List.setIfInBounds_toArray, List.set_cons_succ, List.set_cons_zero]
      refine held_val 12 rfl (by kernel_rfl) (by kernel_rfl) (by kernel_rfl) rfl (fun w' hw => exec_mv rfl (ev rfl)) (fun _ _ _ h => h) hS ?_
      simp only [Act.put, List.setIfInBounds_toArray, List.set_cons_succ, List.set_cons_zero]
      refine held_val 13 rfl (by kernel_rfl) (by kernel_rfl) (by kernel_rfl) rfl (fun w' hw => exec_indexE (E := WrE) rfl (ev rfl) (ev rfl) hlt) (fun _ _ _ h => h) hS ?_
      simp only [Act.put, List.setIfInBounds_toArray, List.set_cons_succ, List.set_cons_zero]
      refine held_val 14 rfl (by kernel_rfl) (by kernel_rfl) (by kernel_rfl) rfl (fun w' hw => exec_faddr rfl (ev rfl) faW1) (fun _ _ _ h => h) hS ?_
      simp only [Act.put, List.setIfInBounds_toArray, List.set_cons_succ, List.set_cons_zero]
      refine held_val 15 rfl (by kernel_rfl) (by kernel_rfl) (by kernel_rfl) rfl (fun w' hw => exec_load rfl (ev rfl) hw.out.2) (fun _ _ _ h => h) hS ?_
      simp only [Act.put, List.setIfInBounds_toArray, List.set_cons_succ, List.set_cons_zero]
      have hd1 := D.below HD.out (bd (Below.refl _ _))
      obtain ⟨hask, hwr⟩ := wrL_ok (L := L) (b := x) (show q < (List.replicate k zeroB).length by rw [hlen]; exact hqk)
      refine held_call 16 rfl (by kernel_rfl) rfl (exec_cl Try.call16 rfl (evc (ev rfl) (evc (ev rfl) (evc (ev rfl) evn)))) ((D.write (q : Int) x (by omega) hd1).mono ?_)
      rintro e w2 ⟨rfl, F2, hd2, ho2, hg2⟩
      rw [hwr] at hd2
      rw [hask]
      have hnF : ¬ F bA := fun e => by have := hf bA e; omega
      have hA1 : bA < wr.drew.heap.size := Nat.lt_of_lt_of_le hA HBL.out.size
      have hS2 : Hid (w2.cell? ⟨bA, oA + j * 65, none⟩ = some (.int .i64 bn) ∧ w2.rangeAt bA (oA + j * 65 + 1) (cel x)) :=
        Lib.hid ⟨(ho2.cell (p := ⟨bA, oA + j * 65, none⟩) hA1 hnF).trans hS.out.1, fun i v hi => (ho2.cell (p := ⟨bA, oA + j * 65 + 1 + i, none⟩) hA1 hnF).trans (hS.out.2 i v hi)⟩
      have hb2 := (bd HBL.out).trans (ho2.below hf HBL.out.size)
      have hf2 := hg2.above hf HBL.out.size
      refine ⟨_, rfl, hS2, ?_⟩
      simp only [Act.put, List.setIfInBounds_toArray, List.set_cons_succ, List.set_cons_zero]
      refine held_val 17 rfl (by kernel_rfl) (by kernel_rfl) (by kernel_rfl) rfl (fun w' hw => exec_neInt false rfl (ev rfl) evk rfl) (fun _ _ _ h => h) hS2 ?_
      simp only [Act.put, List.setIfInBounds_toArray, List.set_cons_succ, List.set_cons_zero]
      refine wpAnyH_done (by kernel_rfl) ?_ _
      go_wp2_with fail
      go_roundw
      case rel => exact ⟨j + 1, F2, _, by omega, by omega, by go_num, hd2, by rw [List.length_append]; simp; omega, hb2, hf2⟩
      case measure => simp [intOf]; omega
    · have hor : ¬((j : Int) < (n : Int)) ∨ (((j : Int) < (n : Int)) ∧ ¬((j : Int) < 40)) := by omega
      have HD := Lib.hid hd
      have HBL := Lib.hid hbl
      clear hd hbl
      rcases hor with h | ⟨h, h'⟩
      all_goals
        go_wp2_with fail
        refine bodyPost_ret (v := .tuple #[.pointer (some ⟨p, 0, none⟩), .int .i64 (k : Int), .bool true]) (by simp [results]) rfl ⟨p, ?_, F, L, by rw [HKK.out]; exact HD.out, by omega, HBL.out, hf⟩
        rw [HKE.out]
end Go.Proofs.Ytokdmcikoaagmaa
