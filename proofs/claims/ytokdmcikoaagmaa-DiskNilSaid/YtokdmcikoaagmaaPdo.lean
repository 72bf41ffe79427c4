/-
  The program's device: Copy.
-/
import Derived.Test.YtokdmcikoaagmaaPdc
namespace Go.Proofs.Ytokdmcikoaagmaa
open Go.RowKit
set_option linter.unusedVariables false

theorem exec_mk0E {α : Type} {E : Elt α} {ρ : Operand → Value} {o : Oper} {w : World} (ho : o.op = .buildSlice E.s 0 #[]) :
    (execOp ρ o).run Try.prog w = .ok (.value (.slice (some ⟨w.heap.size, 0, none⟩) 0 0)) (w.alloc (.cells #[] E.t)) := by
  have hz := run_zeroE E w
  have hs := run_sizeE E w
  unfold execOp
  simp [ho, Instr.buildSlice, run_underlying E.und, hs, Instr.fill, newRow]
  congr 2
  exact Array.eq_empty_of_size_eq_zero (by simp)
set_option maxHeartbeats 1000000 in
theorem clone_B (w : World) (v : Value) (l : List Blk) (h : MadeE BlkE w 0 v l) (hl : l.length ≤ 34359738368) :
    Calls Try.prog 36 #[v] w fun e w' => ∃ v', e = .returned v' ∧ MadeE BlkE w' w.heap.size v' l ∧ Below w.heap.size w w' := by
  have hq : ∀ (w : World) (a : Option Addr) (n c n' c' : Nat), (binOp .eql BlkE.s (.slice a n c) (.slice none n' c')).run Try.prog w = .ok (.bool a.isNone) w := fun w a n c n' c' => Lib.run_eql_slice_nil w _ _ a n c n' c' BlkE.und
  simp only [show BlkE.s = 58 from rfl] at hq
  obtain ⟨A, c, rfl, hc1, hc2⟩ := h.form
  have hrd := h.rd
  rcases h.2 with ⟨hv, h0⟩ | ⟨g, cap, cur, hv, _⟩
  · injection hv with e1 e2 e3
    subst e1 e3
    obtain rfl : l = [] := List.eq_nil_of_length_eq_zero e2
    go_enter Try.func36, Try.ntmps36
    go_wp2
    go_ret
    exact ⟨_, rfl, MadeE.nil _ _, Below.refl _ _⟩
  · injection hv with e1 e2 e3
    subst e1 e3
    have hA := (Below.refl w.heap.size w).alloc (Nat.le_refl _) (.cells #[] BlkE.t)
    have hm : MadeE BlkE (w.alloc (.cells #[] BlkE.t)) w.heap.size (.slice (some ⟨w.heap.size, 0, none⟩) 0 0) [] := MadeE.of_block (E := BlkE) (cs := #[]) (heap_alloc_new w _) rfl (Nat.le_refl _) rfl (Nat.zero_le _)
    have hr1 := hrd.step hA
    have HA := Lib.hid hA
    have HM := Lib.hid hm
    have HR := Lib.hid hr1
    have HLE := Lib.hid hA.size
    clear hA hm hr1 hrd h
    go_enter Try.func36, Try.ntmps36
    go_wp2_with (first | (refine wpList_val rfl (exec_mk0E (E := BlkE) rfl) ?_) | (at_builtin; refine wpList_appE BlkE rfl _ _ rfl w.heap.size _ _ _ _ [] l _ rfl rfl HM.out HR.out HLE.out ?c1 ?_) | fail)
    intro v' w' hm' hg
    go_wp2_with fail
    go_ret
    refine ⟨_, rfl, ?_, HA.out.grown hg HLE.out fun k e => ?_⟩
    · simpa using hm'
    · simp [Value.ownBlock] at e; omega
set_option maxHeartbeats 1000000 in
theorem clone_W (w : World) (v : Value) (l : List (Int × Blk)) (h : MadeE LwE w 0 v l) (hl : l.length ≤ 34359738368) :
    Calls Try.prog 37 #[v] w fun e w' => ∃ v', e = .returned v' ∧ MadeE LwE w' w.heap.size v' l ∧ Below w.heap.size w w' := by
  have hq : ∀ (w : World) (a : Option Addr) (n c n' c' : Nat), (binOp .eql LwE.s (.slice a n c) (.slice none n' c')).run Try.prog w = .ok (.bool a.isNone) w := fun w a n c n' c' => Lib.run_eql_slice_nil w _ _ a n c n' c' LwE.und
  simp only [show LwE.s = 59 from rfl] at hq
  obtain ⟨A, c, rfl, hc1, hc2⟩ := h.form
  have hrd := h.rd
  rcases h.2 with ⟨hv, h0⟩ | ⟨g, cap, cur, hv, _⟩
  · injection hv with e1 e2 e3
    subst e1 e3
    obtain rfl : l = [] := List.eq_nil_of_length_eq_zero e2
    go_enter Try.func37, Try.ntmps37
    go_wp2
    go_ret
    exact ⟨_, rfl, MadeE.nil _ _, Below.refl _ _⟩
  · injection hv with e1 e2 e3
    subst e1 e3
    have hA := (Below.refl w.heap.size w).alloc (Nat.le_refl _) (.cells #[] LwE.t)
    have hm : MadeE LwE (w.alloc (.cells #[] LwE.t)) w.heap.size (.slice (some ⟨w.heap.size, 0, none⟩) 0 0) [] := MadeE.of_block (E := LwE) (cs := #[]) (heap_alloc_new w _) rfl (Nat.le_refl _) rfl (Nat.zero_le _)
    have hr1 := hrd.step hA
    have HA := Lib.hid hA
    have HM := Lib.hid hm
    have HR := Lib.hid hr1
    have HLE := Lib.hid hA.size
    clear hA hm hr1 hrd h
    go_enter Try.func37, Try.ntmps37
    go_wp2_with (first | (refine wpList_val rfl (exec_mk0E (E := LwE) rfl) ?_) | (at_builtin; refine wpList_appE LwE rfl _ _ rfl w.heap.size _ _ _ _ [] l _ rfl rfl HM.out HR.out HLE.out ?c1 ?_) | fail)
    intro v' w' hm' hg
    go_wp2_with fail
    go_ret
    refine ⟨_, rfl, ?_, HA.out.grown hg HLE.out fun k e => ?_⟩
    · simpa using hm'
    · simp [Value.ownBlock] at e; omega
section
variable {ρ : Operand → Value} {o : Oper} {x y z u : Operand} {w : World} {i : Int} {A A' : Option Addr} {n n' c c' : Nat} {g : Bool}
theorem run_buildD : (Instr.build 61 #[(0, .int .i64 i), (1, .slice A n c), (2, .slice A' n' c'), (3, .bool g)]).run Try.prog w = .ok (.agg #[.int .i64 i, .slice A n c, .slice A' n' c', .bool g]) w := by kernel_rfl
theorem exec_buildD (ho : o.op = .build 61 #[(0, x), (1, y), (2, z), (3, u)]) (hx : ρ x = .int .i64 i) (hy : ρ y = .slice A n c) (hz : ρ z = .slice A' n' c') (hu : ρ u = .bool g) : (execOp ρ o).run Try.prog w = .ok (.value (.agg #[.int .i64 i, .slice A n c, .slice A' n' c', .bool g])) w := by
  have h := run_buildD (w := w) (i := i) (A := A) (n := n) (c := c) (A' := A') (n' := n') (c' := c') (g := g)
  unfold execOp
  simp only [ho, List.map_toArray, List.map_cons, List.map_nil, hx, hy, hz, hu, Sem.run_bind, h, Result.andThen_ok, Sem.run_pure]
theorem exec_boxD {cs : Array Value} (ho : o.op = .box 61 x) (hx : ρ x = .agg cs) : (execOp ρ o).run Try.prog w = .ok (.value (.pointer (some ⟨w.heap.size, 0, none⟩))) (w.alloc (.cells cs 61)) := by
  have h : (Instr.box 61 (.agg cs)).run Try.prog w = .ok (.pointer (some ⟨w.heap.size, 0, none⟩)) (w.alloc (.cells cs 61)) := by simp [Instr.box, newVar, newRow, Value.cells]
  unfold execOp
  simp only [ho, hx, Sem.run_bind, h, Result.andThen_ok, Sem.run_pure]
end
set_option maxHeartbeats 2000000 in
theorem p_copy (p : Nat) (vS vL : Value) (S : List Blk) (L : List (Int × Blk)) (g : Bool) (w : World) (h : PD w p vS vL S L g) (hSl : S.length ≤ 512) (hLl : L.length ≤ 1000000) :
    Calls Try.prog 20 #[.pointer (some ⟨p, 0, none⟩)] w fun e w' => ∃ p' vS' vL', e = .returned (.pointer (some ⟨p', 0, none⟩)) ∧ PD w' p' vS' vL' S L g ∧ Below w.heap.size w w' ∧ ∀ b, foot p' vS' vL' b → w.heap.size ≤ b := by
  obtain ⟨AS, cS, rfl, _, _⟩ := h.S_.form
  obtain ⟨AL, cL, rfl, _, _⟩ := h.L_.form
  have hlen : (if g = true then [] else S).length ≤ 34359738368 := by
    split
    · simp
    · omega
  obtain ⟨S', hS'⟩ : ∃ S', (if g = true then [] else S) = S' := ⟨_, rfl⟩
  have hMS := h.S_
  rw [hS'] at hlen hMS
  rw [hS'] at h
  have HS' := Lib.hid hS'
  have HD := Lib.hid h.dead
  have HO := Lib.hid h.one
  have hat := h.at_
  have HP := Lib.hid h
  have HML := Lib.hid h.L_
  have HMS := Lib.hid hMS
  have HLEN := Lib.hid hlen
  have HAT := Lib.hid hat
  clear h hS' hMS hlen hat
  go_enter Try.func20, Try.ntmps20
  go_wp2_with fail
  refine (p_made p _ _ S L g w HP.out).mono ?_
  rintro e w1 ⟨rfl, rfl⟩
  go_wp2_with fail
  refine wp_region_last (fun w' => w'.heap[p]? = some (.cells #[.int .i64 (S.length : Int), .slice AS S'.length cS, .slice AL L.length cL, .bool g] 61)) 20 (by kernel_rfl) ?_
  change wpAnyZ _ _ _ _ _ _ 21 _ _ w.drew
  have hS : w.drew.heap[p]? = some (.cells #[.int .i64 (S.length : Int), .slice AS S'.length cS, .slice AL L.length cL, .bool g] 61) := HAT.out
  refine last_val 0 rfl (by kernel_rfl) (by kernel_rfl) (by kernel_rfl) (by decide) (by kernel_rfl) rfl (fun w' hw => exec_mv rfl (ev rfl)) (fun _ _ _ h => h) hS ?_
  simp only [Act.put, List.setIfInBounds_toArray, List.set_cons_succ, List.set_cons_zero]
  refine last_val 1 rfl (by kernel_rfl) (by kernel_rfl) (by kernel_rfl) (by decide) (by kernel_rfl) rfl (fun w' hw => exec_nil rfl (ev rfl)) (fun _ _ _ h => h) hS ?_
  simp only [Act.put, List.setIfInBounds_toArray, List.set_cons_succ, List.set_cons_zero]
  refine last_val 2 rfl (by kernel_rfl) (by kernel_rfl) (by kernel_rfl) (by decide) (by kernel_rfl) rfl (fun w' hw => exec_faddr rfl (ev rfl) faP0) (fun _ _ _ h => h) hS ?_
  simp only [Act.put, List.setIfInBounds_toArray, List.set_cons_succ, List.set_cons_zero]
  refine last_val 3 rfl (by kernel_rfl) (by kernel_rfl) (by kernel_rfl) (by decide) (by kernel_rfl) rfl (fun w' hw => exec_ld rfl (ev rfl) (ldI (cells4 hw).1)) (fun _ _ _ h => h) hS ?_
  simp only [Act.put, List.setIfInBounds_toArray, List.set_cons_succ, List.set_cons_zero]
  refine last_val 4 rfl (by kernel_rfl) (by kernel_rfl) (by kernel_rfl) (by decide) (by kernel_rfl) rfl (fun w' hw => exec_mv rfl (ev rfl)) (fun _ _ _ h => h) hS ?_
  simp only [Act.put, List.setIfInBounds_toArray, List.set_cons_succ, List.set_cons_zero]
  refine last_val 5 rfl (by kernel_rfl) (by kernel_rfl) (by kernel_rfl) (by decide) (by kernel_rfl) rfl (fun w' hw => exec_nil rfl (ev rfl)) (fun _ _ _ h => h) hS ?_
  simp only [Act.put, List.setIfInBounds_toArray, List.set_cons_succ, List.set_cons_zero]
  refine last_val 6 rfl (by kernel_rfl) (by kernel_rfl) (by kernel_rfl) (by decide) (by kernel_rfl) rfl (fun w' hw => exec_faddr rfl (ev rfl) faP1) (fun _ _ _ h => h) hS ?_
  simp only [Act.put, List.setIfInBounds_toArray, List.set_cons_succ, List.set_cons_zero]
  refine last_val 7 rfl (by kernel_rfl) (by kernel_rfl) (by kernel_rfl) (by decide) (by kernel_rfl) rfl (fun w' hw => exec_ld rfl (ev rfl) (ldB (cells4 hw).2.1)) (fun _ _ _ h => h) hS ?_
  simp only [Act.put, List.setIfInBounds_toArray, List.set_cons_succ, List.set_cons_zero]
  refine last_val 9 rfl (by kernel_rfl) (by kernel_rfl) (by kernel_rfl) (by decide) (by kernel_rfl) rfl (fun w' hw => exec_mv rfl (ev rfl)) (fun _ _ _ h => h) hS ?_
  simp only [Act.put, List.setIfInBounds_toArray, List.set_cons_succ, List.set_cons_zero]
  refine last_val 10 rfl (by kernel_rfl) (by kernel_rfl) (by kernel_rfl) (by decide) (by kernel_rfl) rfl (fun w' hw => exec_nil rfl (ev rfl)) (fun _ _ _ h => h) hS ?_
  simp only [Act.put, List.setIfInBounds_toArray, List.set_cons_succ, List.set_cons_zero]
  refine last_val 11 rfl (by kernel_rfl) (by kernel_rfl) (by kernel_rfl) (by decide) (by kernel_rfl) rfl (fun w' hw => exec_faddr rfl (ev rfl) faP2) (fun _ _ _ h => h) hS ?_
  simp only [Act.put, List.setIfInBounds_toArray, List.set_cons_succ, List.set_cons_zero]
  refine last_val 12 rfl (by kernel_rfl) (by kernel_rfl) (by kernel_rfl) (by decide) (by kernel_rfl) rfl (fun w' hw => exec_ld rfl (ev rfl) (ldP (cells4 hw).2.2.1)) (fun _ _ _ h => h) hS ?_
  simp only [Act.put, List.setIfInBounds_toArray, List.set_cons_succ, List.set_cons_zero]
  refine last_val 14 rfl (by kernel_rfl) (by kernel_rfl) (by kernel_rfl) (by decide) (by kernel_rfl) rfl (fun w' hw => exec_mv rfl (ev rfl)) (fun _ _ _ h => h) hS ?_
  simp only [Act.put, List.setIfInBounds_toArray, List.set_cons_succ, List.set_cons_zero]
  refine last_val 15 rfl (by kernel_rfl) (by kernel_rfl) (by kernel_rfl) (by decide) (by kernel_rfl) rfl (fun w' hw => exec_nil rfl (ev rfl)) (fun _ _ _ h => h) hS ?_
  simp only [Act.put, List.setIfInBounds_toArray, List.set_cons_succ, List.set_cons_zero]
  refine last_val 16 rfl (by kernel_rfl) (by kernel_rfl) (by kernel_rfl) (by decide) (by kernel_rfl) rfl (fun w' hw => exec_faddr rfl (ev rfl) faP3) (fun _ _ _ h => h) hS ?_
  simp only [Act.put, List.setIfInBounds_toArray, List.set_cons_succ, List.set_cons_zero]
  refine last_val 17 rfl (by kernel_rfl) (by kernel_rfl) (by kernel_rfl) (by decide) (by kernel_rfl) rfl (fun w' hw => exec_ld rfl (ev rfl) (ldG (cells4 hw).2.2.2)) (fun _ _ _ h => h) hS ?_
  simp only [Act.put, List.setIfInBounds_toArray, List.set_cons_succ, List.set_cons_zero]
  refine last_call 8 rfl (by kernel_rfl) rfl (exec_cl Try.call36 rfl (evc (ev rfl) evn)) ((clone_B w.drew _ S' HMS.out HLEN.out).mono ?_)
  rintro e w2 ⟨v2, rfl, hm2, hb2⟩
  obtain ⟨A2, c2, rfl, _, _⟩ := hm2.form
  have hb2' : Below w.heap.size w w2 := (bd (Below.refl _ w)).trans hb2
  have hS2 := blk_keep HAT.out hb2'
  refine ⟨_, rfl, fun _ => hS2, ?_⟩
  simp only [Act.put, List.setIfInBounds_toArray, List.set_cons_succ, List.set_cons_zero]
  refine last_call 13 rfl (by kernel_rfl) rfl (exec_cl Try.call37 rfl (evc (ev rfl) evn)) ((clone_W w2 _ L (HML.out.below hb2') (by omega)).mono ?_)
  rintro e w3 ⟨v3, rfl, hm3, hb3⟩
  obtain ⟨A3, c3, rfl, _, _⟩ := hm3.form
  have hb3' : Below w.heap.size w w3 := hb2'.trans (hb3.mono hb2'.size)
  have hS3 := blk_keep HAT.out hb3'
  refine ⟨_, rfl, fun _ => hS3, ?_⟩
  simp only [Act.put, List.setIfInBounds_toArray, List.set_cons_succ, List.set_cons_zero]
  refine last_turn 18 rfl (by kernel_rfl) rfl (exec_buildD rfl (ev rfl) (ev rfl) (ev rfl) (ev rfl)) (fun _ => hS3) ?_
  simp only [Act.put, List.setIfInBounds_toArray, List.set_cons_succ, List.set_cons_zero]
  refine last_turn 19 rfl (by kernel_rfl) rfl (exec_boxD rfl (ev rfl)) (fun _ => blk_past hS3 _) ?_
  simp only [Act.put, List.setIfInBounds_toArray, List.set_cons_succ, List.set_cons_zero]
  refine last_turn 20 rfl (by kernel_rfl) rfl (exec_as rfl (ev rfl)) (fun e => absurd rfl e) ?_
  simp only [Act.put, List.setIfInBounds_toArray, List.set_cons_succ, List.set_cons_zero]
  refine wpAnyZ_done (by kernel_rfl) ?_ _
  go_wp2_with fail
  go_ret
  have hal := (Below.refl w3.heap.size w3).alloc (Nat.le_refl _) (.cells #[.int .i64 (S.length : Int), .slice A2 S'.length c2, .slice A3 L.length c3, .bool g] 61)
  have hm2' := (hm2.below hb3).below hal
  have hm3' := hm3.below hal
  have hsz := hb3'.size
  have hsz2 := hb2'.size
  refine ⟨_, _, _, rfl, ⟨heap_alloc_new w3 _, HO.out, ?_, hm3'.base (Nat.zero_le _), HD.out⟩, hb3'.trans (hal.mono hsz), fun b hb => ?_⟩
  · rw [HS'.out]; exact hm2'.base (Nat.zero_le _)
  · rcases hb with rfl | hb | hb
    · exact hsz
    · exact hm2'.lt_own b hb
    · exact Nat.le_trans hsz2 (hm3'.lt_own b hb)
end Go.Proofs.Ytokdmcikoaagmaa
