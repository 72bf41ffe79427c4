/-
  slices.Index, Contains over rows of truth values and of numbers; Grow, Concat over rows of truth values.
-/
import Derived.Test.YtplanbjjfaihbaaPnP
import Derived.Test.YtplanbjjfaihbaaPnS
import Derived.Test.YtplanbjjfaihbaaBlkS
import Derived.Lib.AppendZeros
namespace Go.Proofs.Ytplanbjjfaihbaa
open Go.RowKit
set_option linter.unusedVariables false
set_option linter.unusedSimpArgs false
set_option maxRecDepth 100000

set_option maxHeartbeats 1000000 in
theorem pindexQ (A : Option Addr) (n c N : Nat) (l : List Bool) (x : Bool) (w : World) (hl : RdE BoE w N A n l) (hn : n ≤ maxLen) : Calls Try.prog 27 #[.slice A n c, .bool x] w fun e w' => ∃ r : Int, e = .returned (.int .i64 r) ∧ decide (r ≥ 0) = decide (x ∈ l) ∧ w = w' := by
  have HL := Lib.hid hl
  have HN : Hid (n ≤ 9223372036854775807) := Lib.hid (by unfold maxLen at hn; omega)
  have HLN := Lib.hid hl.1
  clear hl hn
  go_enter Try.func27, Try.ntmps27
  go_wp2_with fail
  go_loopw [8] (fun v wr => ∃ i : Nat, v = .int .i64 i ∧ i ≤ n ∧ (∀ j, j < i → l.getD j false ≠ x) ∧ w = wr) (fun v _ => n - (intOf v).toNat)
  case atStart => exact ⟨0, by go_num, by omega, fun j hj => absurd hj (by omega), rfl⟩
  case round =>
    obtain ⟨i, rfl, hi, hj, rfl⟩ := hrel
    have HJ := Lib.hid hj
    clear hj
    by_cases hlt : i < n
    · have HI := Lib.hid hlt
      have HT : Hid (decide ((i : Int) < (n : Int)) = true) := Lib.hid (decide_eq_true (by omega))
      obtain ⟨b, off, rfl, hb, hc⟩ := HL.out.bo hlt
      obtain ⟨y, hy⟩ : ∃ y, l.getD i false = y := ⟨_, rfl⟩
      rw [hy] at hc
      have HY := Lib.hid hy
      have HC := Lib.hid hc
      have HA : Hid (IntKind.i64.wrap ((i : Int) + 1) = ((i + 1 : Nat) : Int)) := Lib.hid (by have := HN.out; rw [i64k ⟨by omega, by omega⟩]; omega)
      clear hb hc hy hlt hi
      go_upto_region 2 with fail
      refine wp_region_lit ?_
      refine wpList_valn (v := .bool true) rfl (exec_lss true rfl (ev rfl) (ev rfl) HT.out) ?_
      simp only [Act.put, List.setIfInBounds_toArray, List.set_cons_succ, List.set_cons_zero]
      refine wpList_nil ?_
      go_upto_region 3 with fail
      refine wp_region_lit ?_
      refine wpList_valn rfl (exec_mv rfl (ev rfl)) ?_
      simp only [Act.put, List.setIfInBounds_toArray, List.set_cons_succ, List.set_cons_zero]
      refine wpList_valn rfl (exec_as rfl (ev rfl)) ?_
      simp only [Act.put, List.setIfInBounds_toArray, List.set_cons_succ, List.set_cons_zero]
      refine wpList_nil ?_
      by_cases he : x = y
      · have HE : Hid ((x == y) = true) := Lib.hid (by rw [he]; exact beq_self_eq_true _)
        have HM : Hid (x ∈ l) := Lib.hid (by rw [he, ← HY.out, List.getD, List.getElem?_eq_getElem (by have := HLN.out; have := HI.out; omega)]; exact List.getElem_mem _)
        clear he
        go_upto_region 4 with fail
        refine wp_region_lit ?_
        refine wpList_valn rfl (exec_mv rfl (ev rfl)) ?_
        simp only [Act.put, List.setIfInBounds_toArray, List.set_cons_succ, List.set_cons_zero]
        refine wpList_valn rfl (exec_mv rfl (ev rfl)) ?_
        simp only [Act.put, List.setIfInBounds_toArray, List.set_cons_succ, List.set_cons_zero]
        refine wpList_valn rfl (exec_mv rfl (ev rfl)) ?_
        simp only [Act.put, List.setIfInBounds_toArray, List.set_cons_succ, List.set_cons_zero]
        refine wpList_valn rfl (exec_indexE (E := BoE) rfl (ev rfl) (ev rfl) HI.out) ?_
        simp only [Act.put, List.setIfInBounds_toArray, List.set_cons_succ, List.set_cons_zero]
        refine wpList_valn rfl (exec_ld rfl (ev rfl) (ldBoE (by show w.cell? ⟨b, off + i * 1, none⟩ = _; rw [Nat.mul_one]; exact HC.out))) ?_
        simp only [Act.put, List.setIfInBounds_toArray, List.set_cons_succ, List.set_cons_zero]
        refine wpList_valn (v := .bool true) rfl (exec_eqBool true rfl (ev rfl) (ev rfl) HE.out) ?_
        simp only [Act.put, List.setIfInBounds_toArray, List.set_cons_succ, List.set_cons_zero]
        refine wpList_nil ?_
        go_upto_region 5 with fail
        refine wp_region_lit ?_
        refine wpList_valn rfl (exec_mv rfl (ev rfl)) ?_
        simp only [Act.put, List.setIfInBounds_toArray, List.set_cons_succ, List.set_cons_zero]
        refine wpList_valn rfl (exec_as rfl (ev rfl)) ?_
        simp only [Act.put, List.setIfInBounds_toArray, List.set_cons_succ, List.set_cons_zero]
        refine wpList_nil ?_
        go_wp2_with fail
        go_ret
        exact ⟨_, rfl, by rw [decide_eq_true HM.out]; exact decide_eq_true (by omega), rfl⟩
      have HE : Hid ((x == y) = false) := Lib.hid (beq_eq_false_iff_ne.2 he)
      have HNE := Lib.hid he
      clear he
      go_upto_region 4 with fail
      refine wp_region_lit ?_
      refine wpList_valn rfl (exec_mv rfl (ev rfl)) ?_
      simp only [Act.put, List.setIfInBounds_toArray, List.set_cons_succ, List.set_cons_zero]
      refine wpList_valn rfl (exec_mv rfl (ev rfl)) ?_
      simp only [Act.put, List.setIfInBounds_toArray, List.set_cons_succ, List.set_cons_zero]
      refine wpList_valn rfl (exec_mv rfl (ev rfl)) ?_
      simp only [Act.put, List.setIfInBounds_toArray, List.set_cons_succ, List.set_cons_zero]
      refine wpList_valn rfl (exec_indexE (E := BoE) rfl (ev rfl) (ev rfl) HI.out) ?_
      simp only [Act.put, List.setIfInBounds_toArray, List.set_cons_succ, List.set_cons_zero]
      refine wpList_valn rfl (exec_ld rfl (ev rfl) (ldBoE (by show w.cell? ⟨b, off + i * 1, none⟩ = _; rw [Nat.mul_one]; exact HC.out))) ?_
      simp only [Act.put, List.setIfInBounds_toArray, List.set_cons_succ, List.set_cons_zero]
      refine wpList_valn (v := .bool false) rfl (exec_eqBool false rfl (ev rfl) (ev rfl) HE.out) ?_
      simp only [Act.put, List.setIfInBounds_toArray, List.set_cons_succ, List.set_cons_zero]
      refine wpList_nil ?_
      go_upto_region 6 with fail
      refine wp_region_lit ?_
      refine wpList_valn rfl (exec_add rfl (ev rfl) evk HA.out) ?_
      simp only [Act.put, List.setIfInBounds_toArray, List.set_cons_succ, List.set_cons_zero]
      refine wpList_valn rfl (exec_mv rfl (ev rfl)) ?_
      simp only [Act.put, List.setIfInBounds_toArray, List.set_cons_succ, List.set_cons_zero]
      refine wpList_nil ?_
      go_wp2_with fail
      go_roundw
      case rel => exact ⟨i + 1, by go_num, HI.out, fun j hj => by
        by_cases e : j = i
        · rw [e, HY.out]; exact fun e => HNE.out e.symm
        · exact HJ.out j (by omega), by first | rfl | trivial⟩
      case measure => have := HI.out; simp [intOf]; omega
    have hin : i = n := by omega
    subst hin
    have HT : Hid (decide ((i : Int) < (i : Int)) = false) := Lib.hid (decide_eq_false (by omega))
    have HM : Hid (decide (x ∈ l) = false) := Lib.hid (decide_eq_false fun h => by
      obtain ⟨j, hj, e⟩ := List.mem_iff_getElem.1 h
      refine HJ.out j (by have := HLN.out; omega) ?_
      rw [List.getD, List.getElem?_eq_getElem hj]
      exact e)
    clear hlt hi
    go_upto_region 2 with fail
    refine wp_region_lit ?_
    refine wpList_valn (v := .bool false) rfl (exec_lss false rfl (ev rfl) (ev rfl) HT.out) ?_
    simp only [Act.put, List.setIfInBounds_toArray, List.set_cons_succ, List.set_cons_zero]
    refine wpList_nil ?_
    go_upto_region 7 with fail
    refine wp_region_lit ?_
    refine wpList_valn rfl (exec_as rfl evk) ?_
    simp only [Act.put, List.setIfInBounds_toArray, List.set_cons_succ, List.set_cons_zero]
    refine wpList_nil ?_
    go_wp2_with fail
    go_ret
    exact ⟨_, rfl, by rw [HM.out]; rfl, rfl⟩
theorem pcontQ (A : Option Addr) (n c N : Nat) (l : List Bool) (x : Bool) (w : World) (hl : RdE BoE w N A n l) (hn : n ≤ maxLen) : Calls Try.prog 17 #[.slice A n c, .bool x] w fun e w' => e = .returned (.bool (decide (x ∈ l))) ∧ w = w' := by
  go_enter Try.func17, Try.ntmps17
  go_wp2_with fail
  refine (pindexQ A n c N l x w hl hn).mono ?_
  rintro e w1 ⟨r, rfl, hr, rfl⟩
  have HR := Lib.hid hr
  clear hr
  go_wp2_with fail
  go_ret
  exact ⟨ret_bool HR.out, rfl⟩
set_option maxHeartbeats 1000000 in
theorem pindexI (A : Option Addr) (n c N : Nat) (l : List Int) (x : Int) (w : World) (hl : RdE IntE w N A n l) (hn : n ≤ maxLen) : Calls Try.prog 33 #[.slice A n c, .int .i64 x] w fun e w' => ∃ r : Int, e = .returned (.int .i64 r) ∧ decide (r ≥ 0) = decide (x ∈ l) ∧ w = w' := by
  have HL := Lib.hid hl
  have HN : Hid (n ≤ 9223372036854775807) := Lib.hid (by unfold maxLen at hn; omega)
  have HLN := Lib.hid hl.1
  clear hl hn
  go_enter Try.func33, Try.ntmps33
  go_wp2_with fail
  go_loopw [8] (fun v wr => ∃ i : Nat, v = .int .i64 i ∧ i ≤ n ∧ (∀ j, j < i → l.getD j 0 ≠ x) ∧ w = wr) (fun v _ => n - (intOf v).toNat)
  case atStart => exact ⟨0, by go_num, by omega, fun j hj => absurd hj (by omega), rfl⟩
  case round =>
    obtain ⟨i, rfl, hi, hj, rfl⟩ := hrel
    have HJ := Lib.hid hj
    clear hj
    by_cases hlt : i < n
    · have HI := Lib.hid hlt
      have HT : Hid (decide ((i : Int) < (n : Int)) = true) := Lib.hid (decide_eq_true (by omega))
      obtain ⟨b, off, rfl, hb, hc⟩ := HL.out.int hlt
      obtain ⟨y, hy⟩ : ∃ y, l.getD i 0 = y := ⟨_, rfl⟩
      rw [hy] at hc
      have HY := Lib.hid hy
      have HC := Lib.hid hc
      have HA : Hid (IntKind.i64.wrap ((i : Int) + 1) = ((i + 1 : Nat) : Int)) := Lib.hid (by have := HN.out; rw [i64k ⟨by omega, by omega⟩]; omega)
      clear hb hc hy hlt hi
      go_upto_region 2 with fail
      refine wp_region_lit ?_
      refine wpList_valn (v := .bool true) rfl (exec_lss true rfl (ev rfl) (ev rfl) HT.out) ?_
      simp only [Act.put, List.setIfInBounds_toArray, List.set_cons_succ, List.set_cons_zero]
      refine wpList_nil ?_
      go_upto_region 3 with fail
      refine wp_region_lit ?_
      refine wpList_valn rfl (exec_mv rfl (ev rfl)) ?_
      simp only [Act.put, List.setIfInBounds_toArray, List.set_cons_succ, List.set_cons_zero]
      refine wpList_valn rfl (exec_as rfl (ev rfl)) ?_
      simp only [Act.put, List.setIfInBounds_toArray, List.set_cons_succ, List.set_cons_zero]
      refine wpList_nil ?_
      by_cases he : x = y
      · have HE : Hid ((x == y) = true) := Lib.hid (by rw [he]; exact beq_self_eq_true _)
        have HM : Hid (x ∈ l) := Lib.hid (by rw [he, ← HY.out, List.getD, List.getElem?_eq_getElem (by have := HLN.out; have := HI.out; omega)]; exact List.getElem_mem _)
        clear he
        go_upto_region 4 with fail
        refine wp_region_lit ?_
        refine wpList_valn rfl (exec_mv rfl (ev rfl)) ?_
        simp only [Act.put, List.setIfInBounds_toArray, List.set_cons_succ, List.set_cons_zero]
        refine wpList_valn rfl (exec_mv rfl (ev rfl)) ?_
        simp only [Act.put, List.setIfInBounds_toArray, List.set_cons_succ, List.set_cons_zero]
        refine wpList_valn rfl (exec_mv rfl (ev rfl)) ?_
        simp only [Act.put, List.setIfInBounds_toArray, List.set_cons_succ, List.set_cons_zero]
        refine wpList_valn rfl (exec_indexE (E := IntE) rfl (ev rfl) (ev rfl) HI.out) ?_
        simp only [Act.put, List.setIfInBounds_toArray, List.set_cons_succ, List.set_cons_zero]
        refine wpList_valn rfl (exec_ld rfl (ev rfl) (ldInP (by show w.cell? ⟨b, off + i * 1, none⟩ = _; rw [Nat.mul_one]; exact HC.out))) ?_
        simp only [Act.put, List.setIfInBounds_toArray, List.set_cons_succ, List.set_cons_zero]
        refine wpList_valn (v := .bool true) rfl (exec_eqInt true rfl (ev rfl) (ev rfl) HE.out) ?_
        simp only [Act.put, List.setIfInBounds_toArray, List.set_cons_succ, List.set_cons_zero]
        refine wpList_nil ?_
        go_upto_region 5 with fail
        refine wp_region_lit ?_
        refine wpList_valn rfl (exec_mv rfl (ev rfl)) ?_
        simp only [Act.put, List.setIfInBounds_toArray, List.set_cons_succ, List.set_cons_zero]
        refine wpList_valn rfl (exec_as rfl (ev rfl)) ?_
        simp only [Act.put, List.setIfInBounds_toArray, List.set_cons_succ, List.set_cons_zero]
        refine wpList_nil ?_
        go_wp2_with fail
        go_ret
        exact ⟨_, rfl, by rw [decide_eq_true HM.out]; exact decide_eq_true (by omega), rfl⟩
      have HE : Hid ((x == y) = false) := Lib.hid (beq_eq_false_iff_ne.2 he)
      have HNE := Lib.hid he
      clear he
      go_upto_region 4 with fail
      refine wp_region_lit ?_
      refine wpList_valn rfl (exec_mv rfl (ev rfl)) ?_
      simp only [Act.put, List.setIfInBounds_toArray, List.set_cons_succ, List.set_cons_zero]
      refine wpList_valn rfl (exec_mv rfl (ev rfl)) ?_
      simp only [Act.put, List.setIfInBounds_toArray, List.set_cons_succ, List.set_cons_zero]
      refine wpList_valn rfl (exec_mv rfl (ev rfl)) ?_
      simp only [Act.put, List.setIfInBounds_toArray, List.set_cons_succ, List.set_cons_zero]
      refine wpList_valn rfl (exec_indexE (E := IntE) rfl (ev rfl) (ev rfl) HI.out) ?_
      simp only [Act.put, List.setIfInBounds_toArray, List.set_cons_succ, List.set_cons_zero]
      refine wpList_valn rfl (exec_ld rfl (ev rfl) (ldInP (by show w.cell? ⟨b, off + i * 1, none⟩ = _; rw [Nat.mul_one]; exact HC.out))) ?_
      simp only [Act.put, List.setIfInBounds_toArray, List.set_cons_succ, List.set_cons_zero]
      refine wpList_valn (v := .bool false) rfl (exec_eqInt false rfl (ev rfl) (ev rfl) HE.out) ?_
      simp only [Act.put, List.setIfInBounds_toArray, List.set_cons_succ, List.set_cons_zero]
      refine wpList_nil ?_
      go_upto_region 6 with fail
      refine wp_region_lit ?_
      refine wpList_valn rfl (exec_add rfl (ev rfl) evk HA.out) ?_
      simp only [Act.put, List.setIfInBounds_toArray, List.set_cons_succ, List.set_cons_zero]
      refine wpList_valn rfl (exec_mv rfl (ev rfl)) ?_
      simp only [Act.put, List.setIfInBounds_toArray, List.set_cons_succ, List.set_cons_zero]
      refine wpList_nil ?_
      go_wp2_with fail
      go_roundw
      case rel => exact ⟨i + 1, by go_num, HI.out, fun j hj => by
        by_cases e : j = i
        · rw [e, HY.out]; exact fun e => HNE.out e.symm
        · exact HJ.out j (by omega), by first | rfl | trivial⟩
      case measure => have := HI.out; simp [intOf]; omega
    have hin : i = n := by omega
    subst hin
    have HT : Hid (decide ((i : Int) < (i : Int)) = false) := Lib.hid (decide_eq_false (by omega))
    have HM : Hid (decide (x ∈ l) = false) := Lib.hid (decide_eq_false fun h => by
      obtain ⟨j, hj, e⟩ := List.mem_iff_getElem.1 h
      refine HJ.out j (by have := HLN.out; omega) ?_
      rw [List.getD, List.getElem?_eq_getElem hj]
      exact e)
    clear hlt hi
    go_upto_region 2 with fail
    refine wp_region_lit ?_
    refine wpList_valn (v := .bool false) rfl (exec_lss false rfl (ev rfl) (ev rfl) HT.out) ?_
    simp only [Act.put, List.setIfInBounds_toArray, List.set_cons_succ, List.set_cons_zero]
    refine wpList_nil ?_
    go_upto_region 7 with fail
    refine wp_region_lit ?_
    refine wpList_valn rfl (exec_as rfl evk) ?_
    simp only [Act.put, List.setIfInBounds_toArray, List.set_cons_succ, List.set_cons_zero]
    refine wpList_nil ?_
    go_wp2_with fail
    go_ret
    exact ⟨_, rfl, by rw [HM.out]; rfl, rfl⟩
theorem pcontI (A : Option Addr) (n c N : Nat) (l : List Int) (x : Int) (w : World) (hl : RdE IntE w N A n l) (hn : n ≤ maxLen) : Calls Try.prog 29 #[.slice A n c, .int .i64 x] w fun e w' => e = .returned (.bool (decide (x ∈ l))) ∧ w = w' := by
  go_enter Try.func29, Try.ntmps29
  go_wp2_with fail
  refine (pindexI A n c N l x w hl hn).mono ?_
  rintro e w1 ⟨r, rfl, hr, rfl⟩
  have HR := Lib.hid hr
  clear hr
  go_wp2_with fail
  go_ret
  exact ⟨ret_bool HR.out, rfl⟩
section
variable {ρ : Operand → Value} {o : Oper} {x y : Operand} {w w' : World} {A : Option Addr} {n c k : Nat} {v v' u : Value} {t e tx : TypeId}
theorem exec_capQ (hu : Try.prog.underlying t = some (.slice e)) (ho : o.op = .call { callee := .builtin .cap, args := #[x], argTypes := #[t] }) (hx : ρ x = .slice A n c) : (execOp ρ o).run Try.prog w = .ok (.value (.int .i64 (c : Int))) w := by
  simp [execOp, ho, resolve, invoke, builtin, hx, Builtin.cap_, run_underlying hu, Result.andThen]
  rfl
theorem exec_headE {α : Type} {E : Elt α} (ho : o.op = .slice E.s x none (some y) none) (hx : ρ x = .slice A n c) (hy : ρ y = .int .i64 (k : Int)) (hk : k ≤ c) : (execOp ρ o).run Try.prog w = .ok (.value (.slice A k c)) w := by
  have hs := run_sizeE E w
  unfold execOp
  simp [ho, hx, hy, Instr.sliceAt, Instr.slice, Instr.sliceBounds, Instr.sliceBound, asIntOf, run_underlying E.und, hs]
  have e : A.map (fun x => x.add 0) = A := addr_zero A
  rw [if_pos hk, e, ite_self]
theorem exec_cutQ (ho : o.op = .slice 22 x none (some y) none) (hx : ρ x = .slice A n c) (hy : ρ y = .int .i64 (k : Int)) (hk : k ≤ c) : (execOp ρ o).run Try.prog w = .ok (.value (.slice A k c)) w := exec_headE (E := BoE) ho hx hy hk
theorem exec_appR (ho : o.op = .call { callee := .builtin .append, args := #[x, y], argTypes := #[t, tx] }) (hx : ρ x = v) (hy : ρ y = u)
    (hrun : (Builtin.append_ #[t, tx] o.type #[v, u]).run Try.prog w = .ok v' w') : (execOp ρ o).run Try.prog w = .ok (.value v') w' := by
  simp [execOp, ho, resolve, invoke, builtin, hx, hy, hrun, Result.andThen]
end
set_option maxHeartbeats 1000000 in
theorem pgrowQ (n : Nat) (h0 : 0 < n) (hn : n ≤ 1000) (w : World) : Calls Try.prog 28 #[.slice none 0 0, .int .i64 n] w fun e w' => ∃ v, e = .returned v ∧ MadeE BoE w' w.heap.size v [] ∧ Below w.heap.size w w' := by
  obtain ⟨i0, hi, hz0, hz1, hz2⟩ := info_parts BoE.info
  have h := Lib.run_append_nil_zeros (P := Try.prog) w 22 3 22 4 i0 (.bool false) .i64 .i64 Try.underlying22 Try.underlying3 hi hz0 n h0 (by rw [hz1]; decide) (by omega) (by rw [hz2]; show n * 1 ≤ _; omega)
  have hge := grownCap_ge w n 0 4
  have hle := grownCap_le_maxLen w n 0 4 (by unfold maxLen; omega)
  generalize grownCap w n 0 4 = cap at h hge hle
  generalize hZ : (Builtin.zeroCells (Value.bool false).cells n ++ Builtin.zeroCells (Value.bool false).cells (cap - n)) = Z at h
  have hZs : Z.size = cap := by rw [← hZ]; simp [size_zeroCells, Value.cells]; omega
  have HA := Lib.hid h
  have HZ := Lib.hid hZs
  have HLE := Lib.hid hle
  have T0 : Hid (decide ((n : Int) < 0) = false) := Lib.hid (decide_eq_false (by omega))
  have T1 : Hid (decide ((n : Int) > 0) = true) := Lib.hid (decide_eq_true (by omega))
  have S0 : Hid (IntKind.i64.wrap ((0 : Int) - 0) = 0) := Lib.hid (by decide)
  have S1 : Hid (IntKind.i64.wrap ((n : Int) - 0) = (n : Int)) := Lib.hid (by rw [i64k ⟨by omega, by omega⟩]; omega)
  clear h hge hle hZ hZs hi hz0 hz1 hz2
  go_enter Try.func28, Try.ntmps28
  go_upto_region 1 with fail
  refine wp_region_lit ?_
  refine wpList_valn rfl (exec_mv rfl (ev rfl)) ?_
  simp only [Act.put, List.setIfInBounds_toArray, List.set_cons_succ, List.set_cons_zero]
  refine wpList_valn (v := .bool false) rfl (exec_lss false rfl (ev rfl) evk T0.out) ?_
  simp only [Act.put, List.setIfInBounds_toArray, List.set_cons_succ, List.set_cons_zero]
  refine wpList_nil ?_
  go_upto_region 3 with fail
  refine wp_region_lit ?_
  refine wpList_valn rfl (exec_mv rfl (ev rfl)) ?_
  simp only [Act.put, List.setIfInBounds_toArray, List.set_cons_succ, List.set_cons_zero]
  refine wpList_valn rfl (exec_mv rfl (ev rfl)) ?_
  simp only [Act.put, List.setIfInBounds_toArray, List.set_cons_succ, List.set_cons_zero]
  refine wpList_valn rfl (exec_capQ Try.underlying22 rfl (ev rfl)) ?_
  simp only [Act.put, List.setIfInBounds_toArray, List.set_cons_succ, List.set_cons_zero]
  refine wpList_valn rfl (exec_mv rfl (ev rfl)) ?_
  simp only [Act.put, List.setIfInBounds_toArray, List.set_cons_succ, List.set_cons_zero]
  refine wpList_valn rfl (exec_lenQ Try.underlying22 rfl (ev rfl)) ?_
  simp only [Act.put, List.setIfInBounds_toArray, List.set_cons_succ, List.set_cons_zero]
  refine wpList_valn rfl (exec_sub rfl (ev rfl) (ev rfl) S0.out) ?_
  simp only [Act.put, List.setIfInBounds_toArray, List.set_cons_succ, List.set_cons_zero]
  refine wpList_valn rfl (exec_sub rfl (ev rfl) (ev rfl) S1.out) ?_
  simp only [Act.put, List.setIfInBounds_toArray, List.set_cons_succ, List.set_cons_zero]
  refine wpList_valn rfl (exec_as rfl (ev rfl)) ?_
  simp only [Act.put, List.setIfInBounds_toArray, List.set_cons_succ, List.set_cons_zero]
  refine wpList_nil ?_
  go_upto_region 4 with fail
  refine wp_region_lit ?_
  refine wpList_valn rfl (exec_mv rfl (ev rfl)) ?_
  simp only [Act.put, List.setIfInBounds_toArray, List.set_cons_succ, List.set_cons_zero]
  refine wpList_valn (v := .bool true) rfl (exec_gtr true rfl (ev rfl) evk T1.out) ?_
  simp only [Act.put, List.setIfInBounds_toArray, List.set_cons_succ, List.set_cons_zero]
  refine wpList_nil ?_
  go_upto_region 5 with fail
  refine wp_region_lit ?_
  refine wpList_valn rfl (exec_mv rfl (ev rfl)) ?_
  simp only [Act.put, List.setIfInBounds_toArray, List.set_cons_succ, List.set_cons_zero]
  refine wpList_valn rfl (exec_mv rfl (ev rfl)) ?_
  simp only [Act.put, List.setIfInBounds_toArray, List.set_cons_succ, List.set_cons_zero]
  refine wpList_valn rfl (exec_capQ Try.underlying22 rfl (ev rfl)) ?_
  simp only [Act.put, List.setIfInBounds_toArray, List.set_cons_succ, List.set_cons_zero]
  refine wpList_valn rfl (exec_headE (E := BoE) (k := 0) rfl (ev rfl) (ev rfl) (Nat.zero_le _)) ?_
  simp only [Act.put, List.setIfInBounds_toArray, List.set_cons_succ, List.set_cons_zero]
  refine wpList_valn rfl (exec_mv rfl (ev rfl)) ?_
  simp only [Act.put, List.setIfInBounds_toArray, List.set_cons_succ, List.set_cons_zero]
  refine wpList_valn rfl (exec_appR rfl (ev rfl) (ev rfl) HA.out) ?_
  simp only [Act.put, List.setIfInBounds_toArray, List.set_cons_succ, List.set_cons_zero]
  refine wpList_valn rfl (exec_mv rfl (ev rfl)) ?_
  simp only [Act.put, List.setIfInBounds_toArray, List.set_cons_succ, List.set_cons_zero]
  refine wpList_valn rfl (exec_lenQ Try.underlying22 rfl (ev rfl)) ?_
  simp only [Act.put, List.setIfInBounds_toArray, List.set_cons_succ, List.set_cons_zero]
  refine wpList_valn rfl (exec_cutQ rfl (ev rfl) (ev rfl) (Nat.zero_le _)) ?_
  simp only [Act.put, List.setIfInBounds_toArray, List.set_cons_succ, List.set_cons_zero]
  refine wpList_valn rfl (exec_as rfl (ev rfl)) ?_
  simp only [Act.put, List.setIfInBounds_toArray, List.set_cons_succ, List.set_cons_zero]
  refine wpList_nil ?_
  go_wp2_with fail
  go_ret
  have hb : Below w.heap.size w (w.drew.alloc (.cells Z 4)) := (bd (Below.refl _ _)).alloc (Nat.le_refl _) _
  exact ⟨_, rfl, ⟨rfl, .inr ⟨w.heap.size, cap, Z, rfl, Nat.le_refl _, heap_alloc_new w.drew _, Nat.zero_le _, HLE.out, by rw [HZ.out]; exact (Nat.mul_one _).symm, rfl⟩⟩, hb⟩
def SlQ : Elt (Option Addr × Nat × Nat) where
  s := 55
  t := 22
  n := 1
  by_ := 24
  cel x := [.slice x.1 x.2.1 x.2.2]
  d := (none, 0, 0)
  z := .slice none 0 0
  pos := by omega
  small := by omega
  len _ := rfl
  one x v hv := by simp at hv; subst hv; rfl
  und := Try.underlying55
  info := by kernel_rfl
  zc := rfl
theorem ldSlQ {w : World} {ad : Addr} {A : Option Addr} {n c : Nat} (h : w.cell? ad = some (.slice A n c)) : (Instr.loadAt 22 (.pointer (some ad))).run Try.prog w = .ok (.slice A n c) w := by simp [go_sem, h]
theorem RdE.sl {w : World} {B n : Nat} {A : Option Addr} {l : List (Option Addr × Nat × Nat)} (h : RdE SlQ w B A n l) {k : Nat} (hk : k < n) {x : Option Addr × Nat × Nat} (hx : l.getD k (none, 0, 0) = x) : ∃ b off, A = some ⟨b, off, none⟩ ∧ b < B ∧ w.cell? ⟨b, off + k * SlQ.n, none⟩ = some (.slice x.1 x.2.1 x.2.2) := by
  obtain ⟨b, off, e, hb, hc⟩ := h.2 k hk
  refine ⟨b, off, e, hb, ?_⟩
  have h0 := hc 0 (.slice x.1 x.2.1 x.2.2) (by rw [← hx]; rfl)
  rwa [Nat.add_zero] at h0
theorem flat_step (R : List (List Bool)) (i : Nat) : (R.take (i + 1)).flatten = (R.take i).flatten ++ R.getD i [] := by
  rw [List.take_add_one, List.flatten_append, List.getD]
  cases R[i]? <;> simp
theorem flat_le (R : List (List Bool)) (i : Nat) : (R.take i).flatten.length ≤ R.flatten.length := by
  conv => rhs; rw [← List.take_append_drop i R, List.flatten_append, List.length_append]
  omega
set_option maxHeartbeats 2000000 in
theorem pconcat (A : Option Addr) (c N q : Nat) (L : List (Option Addr × Nat × Nat)) (R : List (List Bool)) (w : World) (hL : RdE SlQ w N A q L) (hR : R.length = q) (hq : q ≤ 1000)
    (hall : ∀ i, i < q → RdE BoE w N (L.getD i (none, 0, 0)).1 (L.getD i (none, 0, 0)).2.1 (R.getD i [])) (hN : N ≤ w.heap.size) (h0 : 0 < R.flatten.length) (h1 : R.flatten.length ≤ 1000) :
    Calls Try.prog 18 #[.slice A q c] w fun e w' => ∃ v, e = .returned v ∧ MadeE BoE w' w.heap.size v R.flatten ∧ Below w.heap.size w w' := by
  have HL := Lib.hid hL
  have HR := Lib.hid hR
  have HQ := Lib.hid hq
  have HALL := Lib.hid hall
  have HN := Lib.hid hN
  have H01 := Lib.hid (And.intro h0 h1)
  clear hL hR hq hall hN h0 h1
  go_enter Try.func18, Try.ntmps18
  go_upto_region 2 with fail
  refine wp_region_lit ?_
  refine wpList_valn rfl (exec_mv rfl (ev rfl)) ?_
  simp only [Act.put, List.setIfInBounds_toArray, List.set_cons_succ, List.set_cons_zero]
  refine wpList_valn rfl (exec_lenQ Try.underlying55 rfl (ev rfl)) ?_
  simp only [Act.put, List.setIfInBounds_toArray, List.set_cons_succ, List.set_cons_zero]
  refine wpList_valn rfl (exec_mv rfl evk) ?_
  simp only [Act.put, List.setIfInBounds_toArray, List.set_cons_succ, List.set_cons_zero]
  refine wpList_nil ?_
  go_wp2_with fail
  go_loopw [3, 11] (fun s v wr => ∃ i : Nat, v = .int .i64 i ∧ i ≤ q ∧ s = .int .i64 (((R.take i).flatten.length : Nat) : Int) ∧ w = wr) (fun _ v _ => q - (intOf v).toNat)
  case atStart => exact ⟨0, by go_num, by omega, rfl, rfl⟩
  case round =>
    obtain ⟨i, rfl, hi, rfl, rfl⟩ := hrel
    by_cases hlt : i < q
    · have HI := Lib.hid hlt
      have HT : Hid (decide ((i : Int) < (q : Int)) = true) := Lib.hid (decide_eq_true (by omega))
      obtain ⟨x, hx⟩ : ∃ x, L.getD i (none, 0, 0) = x := ⟨_, rfl⟩
      obtain ⟨b, off, rfl, hb, hc⟩ := HL.out.sl hlt hx
      have HX := Lib.hid hx
      have HC := Lib.hid hc
      have HLE : Hid (x.2.1 = (R.getD i []).length) := Lib.hid (by have := (HALL.out i hlt).1; rw [hx] at this; exact this.symm)
      have HA : Hid (IntKind.i64.wrap ((i : Int) + 1) = ((i + 1 : Nat) : Int)) := Lib.hid (by have := HQ.out; rw [i64k ⟨by omega, by omega⟩]; omega)
      have HB : Hid (IntKind.i64.wrap ((((R.take i).flatten.length : Nat) : Int) + ((x.2.1 : Nat) : Int)) = (((R.take (i + 1)).flatten.length : Nat) : Int)) := Lib.hid (by
        have h := flat_le R (i + 1)
        have h2 := H01.out.2
        rw [flat_step, List.length_append] at h ⊢
        rw [HLE.out, i64k ⟨by omega, by omega⟩]
        omega)
      have HG : Hid (decide ((((R.take (i + 1)).flatten.length : Nat) : Int) < 0) = false) := Lib.hid (decide_eq_false (by omega))
      clear hb hc hx hlt hi
      go_upto_region 3 with fail
      refine wp_region_lit ?_
      refine wpList_valn (v := .bool true) rfl (exec_lss true rfl (ev rfl) (ev rfl) HT.out) ?_
      simp only [Act.put, List.setIfInBounds_toArray, List.set_cons_succ, List.set_cons_zero]
      refine wpList_nil ?_
      go_upto_region 4 with fail
      refine wp_region_lit ?_
      refine wpList_valn rfl (exec_indexE (E := SlQ) rfl (ev rfl) (ev rfl) HI.out) ?_
      simp only [Act.put, List.setIfInBounds_toArray, List.set_cons_succ, List.set_cons_zero]
      refine wpList_valn rfl (exec_ld rfl (ev rfl) (ldSlQ HC.out)) ?_
      simp only [Act.put, List.setIfInBounds_toArray, List.set_cons_succ, List.set_cons_zero]
      refine wpList_valn rfl (exec_as rfl (ev rfl)) ?_
      simp only [Act.put, List.setIfInBounds_toArray, List.set_cons_succ, List.set_cons_zero]
      refine wpList_nil ?_
      go_upto_region 5 with fail
      refine wp_region_lit ?_
      refine wpList_valn rfl (exec_mv rfl (ev rfl)) ?_
      simp only [Act.put, List.setIfInBounds_toArray, List.set_cons_succ, List.set_cons_zero]
      refine wpList_valn rfl (exec_mv rfl (ev rfl)) ?_
      simp only [Act.put, List.setIfInBounds_toArray, List.set_cons_succ, List.set_cons_zero]
      refine wpList_valn rfl (exec_lenQ Try.underlying22 rfl (ev rfl)) ?_
      simp only [Act.put, List.setIfInBounds_toArray, List.set_cons_succ, List.set_cons_zero]
      refine wpList_valn rfl (exec_add rfl (ev rfl) (ev rfl) HB.out) ?_
      simp only [Act.put, List.setIfInBounds_toArray, List.set_cons_succ, List.set_cons_zero]
      refine wpList_valn rfl (exec_as rfl (ev rfl)) ?_
      simp only [Act.put, List.setIfInBounds_toArray, List.set_cons_succ, List.set_cons_zero]
      refine wpList_nil ?_
      go_upto_region 6 with fail
      refine wp_region_lit ?_
      refine wpList_valn rfl (exec_mv rfl (ev rfl)) ?_
      simp only [Act.put, List.setIfInBounds_toArray, List.set_cons_succ, List.set_cons_zero]
      refine wpList_valn (v := .bool false) rfl (exec_lss false rfl (ev rfl) evk HG.out) ?_
      simp only [Act.put, List.setIfInBounds_toArray, List.set_cons_succ, List.set_cons_zero]
      refine wpList_nil ?_
      go_upto_region 8 with fail
      refine wp_region_lit ?_
      refine wpList_valn rfl (exec_add rfl (ev rfl) evk HA.out) ?_
      simp only [Act.put, List.setIfInBounds_toArray, List.set_cons_succ, List.set_cons_zero]
      refine wpList_valn rfl (exec_mv rfl (ev rfl)) ?_
      simp only [Act.put, List.setIfInBounds_toArray, List.set_cons_succ, List.set_cons_zero]
      refine wpList_nil ?_
      go_wp2_with fail
      go_roundw
      case rel => exact ⟨i + 1, by go_num, HI.out, rfl, by first | rfl | trivial⟩
      case measure => have := HI.out; simp [intOf]; omega
    have hin : i = q := by omega
    subst hin
    have HT : Hid (decide ((i : Int) < (i : Int)) = false) := Lib.hid (decide_eq_false (by omega))
    have HF : Hid ((R.take i).flatten = R.flatten) := Lib.hid (by rw [List.take_of_length_le (by have := HR.out; omega)])
    clear hlt hi
    rw [HF.out]
    go_upto_region 3 with fail
    refine wp_region_lit ?_
    refine wpList_valn (v := .bool false) rfl (exec_lss false rfl (ev rfl) (ev rfl) HT.out) ?_
    simp only [Act.put, List.setIfInBounds_toArray, List.set_cons_succ, List.set_cons_zero]
    refine wpList_nil ?_
    go_upto_region 9 with fail
    refine wp_region_lit ?_
    refine wpList_valn rfl (exec_mv rfl (ev rfl)) ?_
    simp only [Act.put, List.setIfInBounds_toArray, List.set_cons_succ, List.set_cons_zero]
    refine wpList_call rfl (exec_cl Try.call28 rfl (evc evk (evc (ev rfl) evn))) ?_
    refine (pgrowQ R.flatten.length H01.out.1 H01.out.2 w).mono ?_
    rintro e w1 ⟨v1, rfl, hm1, hb1⟩
    refine ⟨_, rfl, ?_⟩
    have HM1 := Lib.hid hm1
    have HW1 := Lib.hid hb1
    clear hm1 hb1
    simp only [Act.put, List.setIfInBounds_toArray, List.set_cons_succ, List.set_cons_zero]
    refine wpList_valn rfl (exec_as rfl (ev rfl)) ?_
    simp only [Act.put, List.setIfInBounds_toArray, List.set_cons_succ, List.set_cons_zero]
    refine wpList_nil ?_
    go_upto_region 10 with fail
    refine wp_region_lit ?_
    refine wpList_valn rfl (exec_mv rfl (ev rfl)) ?_
    simp only [Act.put, List.setIfInBounds_toArray, List.set_cons_succ, List.set_cons_zero]
    refine wpList_valn rfl (exec_lenQ Try.underlying55 rfl (ev rfl)) ?_
    simp only [Act.put, List.setIfInBounds_toArray, List.set_cons_succ, List.set_cons_zero]
    refine wpList_valn rfl (exec_mv rfl evk) ?_
    simp only [Act.put, List.setIfInBounds_toArray, List.set_cons_succ, List.set_cons_zero]
    refine wpList_nil ?_
    go_wp2_with fail
    go_loopw [6, 27] (fun s v wr => ∃ j : Nat, v = .int .i64 j ∧ j ≤ i ∧ MadeE BoE wr w.heap.size s ((R.take j).flatten) ∧ Below w.heap.size w wr) (fun _ v _ => i - (intOf v).toNat)
    case atStart => exact ⟨0, by go_num, by omega, HM1.out, HW1.out⟩
    case round =>
      obtain ⟨j, rfl, hj, hm, hb⟩ := hrel
      have HM := Lib.hid hm
      have HW := Lib.hid hb
      clear hm hb
      by_cases hlt : j < i
      · have HI := Lib.hid hlt
        have HT : Hid (decide ((j : Int) < (i : Int)) = true) := Lib.hid (decide_eq_true (by omega))
        obtain ⟨x, hx⟩ : ∃ x, L.getD j (none, 0, 0) = x := ⟨_, rfl⟩
        obtain ⟨b, off, rfl, hb, hc⟩ := (HL.out.below (HW.out.mono HN.out)).sl hlt hx
        have HC := Lib.hid hc
        have HRX : Hid (RdE BoE wr N x.1 x.2.1 (R.getD j [])) := Lib.hid (by have := (HALL.out j hlt).below (HW.out.mono HN.out); rwa [hx] at this)
        have HA : Hid (IntKind.i64.wrap ((j : Int) + 1) = ((j + 1 : Nat) : Int)) := Lib.hid (by have := HQ.out; rw [i64k ⟨by omega, by omega⟩]; omega)
        obtain ⟨v2, w2, hrun, hm2, hg2⟩ := run_appE BoE wr 22 w.heap.size N x.2.1 x.2.2 u6 ((R.take j).flatten) (R.getD j []) x.1 HM.out HRX.out HW.out.size (by
          have h := flat_le R (j + 1)
          have h2 := H01.out.2
          have h3 := HRX.out.1
          rw [flat_step, List.length_append] at h
          omega)
        have HRUN := Lib.hid hrun
        have HM2 : Hid (MadeE BoE w2 w.heap.size v2 ((R.take (j + 1)).flatten)) := Lib.hid (by rw [flat_step]; exact hm2)
        have HW2 : Hid (Below w.heap.size w w2) := Lib.hid (HW.out.grown hg2 HW.out.size (fun j' hj' => HM.out.lt_own j' hj'))
        clear hb hc hx hlt hj hrun hm2 hg2
        go_upto_region 11 with fail
        refine wp_region_lit ?_
        refine wpList_valn (v := .bool true) rfl (exec_lss true rfl (ev rfl) (ev rfl) HT.out) ?_
        simp only [Act.put, List.setIfInBounds_toArray, List.set_cons_succ, List.set_cons_zero]
        refine wpList_nil ?_
        go_upto_region 12 with fail
        refine wp_region_lit ?_
        refine wpList_valn rfl (exec_indexE (E := SlQ) rfl (ev rfl) (ev rfl) HI.out) ?_
        simp only [Act.put, List.setIfInBounds_toArray, List.set_cons_succ, List.set_cons_zero]
        refine wpList_valn rfl (exec_ld rfl (ev rfl) (ldSlQ HC.out)) ?_
        simp only [Act.put, List.setIfInBounds_toArray, List.set_cons_succ, List.set_cons_zero]
        refine wpList_valn rfl (exec_as rfl (ev rfl)) ?_
        simp only [Act.put, List.setIfInBounds_toArray, List.set_cons_succ, List.set_cons_zero]
        refine wpList_nil ?_
        go_upto_region 13 with fail
        refine wp_region_lit ?_
        refine wpList_valn rfl (exec_mv rfl (ev rfl)) ?_
        simp only [Act.put, List.setIfInBounds_toArray, List.set_cons_succ, List.set_cons_zero]
        refine wpList_valn rfl (exec_mv rfl (ev rfl)) ?_
        simp only [Act.put, List.setIfInBounds_toArray, List.set_cons_succ, List.set_cons_zero]
        refine wpList_valn rfl (exec_appR rfl (ev rfl) (ev rfl) HRUN.out) ?_
        simp only [Act.put, List.setIfInBounds_toArray, List.set_cons_succ, List.set_cons_zero]
        refine wpList_valn rfl (exec_as rfl (ev rfl)) ?_
        simp only [Act.put, List.setIfInBounds_toArray, List.set_cons_succ, List.set_cons_zero]
        refine wpList_nil ?_
        go_upto_region 14 with fail
        refine wp_region_lit ?_
        refine wpList_valn rfl (exec_add rfl (ev rfl) evk HA.out) ?_
        simp only [Act.put, List.setIfInBounds_toArray, List.set_cons_succ, List.set_cons_zero]
        refine wpList_valn rfl (exec_mv rfl (ev rfl)) ?_
        simp only [Act.put, List.setIfInBounds_toArray, List.set_cons_succ, List.set_cons_zero]
        refine wpList_nil ?_
        go_wp2_with fail
        go_roundw
        case rel => exact ⟨j + 1, by go_num, HI.out, HM2.out, HW2.out⟩
        case measure => have := HI.out; simp [intOf]; omega
      have hin : j = i := by omega
      subst hin
      have HT : Hid (decide ((j : Int) < (j : Int)) = false) := Lib.hid (decide_eq_false (by omega))
      rw [HF.out] at HM
      clear hlt hj
      go_upto_region 11 with fail
      refine wp_region_lit ?_
      refine wpList_valn (v := .bool false) rfl (exec_lss false rfl (ev rfl) (ev rfl) HT.out) ?_
      simp only [Act.put, List.setIfInBounds_toArray, List.set_cons_succ, List.set_cons_zero]
      refine wpList_nil ?_
      go_upto_region 15 with fail
      refine wp_region_lit ?_
      refine wpList_valn rfl (exec_mv rfl (ev rfl)) ?_
      simp only [Act.put, List.setIfInBounds_toArray, List.set_cons_succ, List.set_cons_zero]
      refine wpList_valn rfl (exec_as rfl (ev rfl)) ?_
      simp only [Act.put, List.setIfInBounds_toArray, List.set_cons_succ, List.set_cons_zero]
      refine wpList_nil ?_
      go_wp2_with fail
      go_ret
      exact ⟨_, rfl, HM.out, HW.out⟩
end Go.Proofs.Ytplanbjjfaihbaa
