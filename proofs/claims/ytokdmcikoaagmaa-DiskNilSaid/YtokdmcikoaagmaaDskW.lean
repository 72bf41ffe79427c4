/-
  The reference's device: Fail, Write.
-/
import Derived.Test.YtokdmcikoaagmaaDskS
import Derived.Test.YtokdmcikoaagmaaLast
namespace Go.Proofs.Ytokdmcikoaagmaa
open Go.RowKit
set_option linter.unusedVariables false

section
variable {w w' : World} {p : Nat} {vS vL : Value} {S : List Blk} {L : List (Int × Blk)} {g : Bool}
theorem only_set (w : World) (p i : Nat) (v : Value) : Only (fun b => b = p) w (w.setCell ⟨p, i, none⟩ v) := (Only.refl (fun b => b = p) w).setCell (p := ⟨p, i, none⟩) (.inl rfl) v
theorem RefD.setG (h : RefD w p vS vL S L g) (g' : Bool) : RefD (w.setCell ⟨p, 2, none⟩ (.bool g')) p vS vL S L g' := by
  have hO := only_set w p 2 (.bool g')
  refine ⟨?_, h.S_.only hO fun b hb e => h.S_.not_at h.at_ (by decide) (by rw [hb, e]), h.L_.only hO fun b hb e => h.L_.not_at h.at_ (by decide) (by rw [hb, e])⟩
  have := heap_setCell_same w p 2 _ _ (.bool g') h.at_
  simpa using this
theorem RefD.setL (h : RefD w p vS vL S L g) {vL' : Value} {L' : List (Int × Blk)} (h' : MadeE LooE w 0 vL' L') : RefD (w.setCell ⟨p, 1, none⟩ vL') p vS vL' S L' g := by
  have hO := only_set w p 1 vL'
  refine ⟨?_, h.S_.only hO fun b hb e => h.S_.not_at h.at_ (by decide) (by rw [hb, e]), h'.only hO fun b hb e => h'.not_at h.at_ (by decide) (by rw [hb, e])⟩
  have := heap_setCell_same w p 1 _ _ vL' h.at_
  simpa using this
theorem lay_L (hp : w.heap[p]? = some (.cells #[vS, vL, .bool g] 65)) (hS : MadeE BlkE w 0 vS S) {vL' : Value} {L' : List (Int × Blk)} (h' : MadeE LooE w 0 vL' L') : RefD (w.setCell ⟨p, 1, none⟩ vL') p vS vL' S L' g := by
  have hO := only_set w p 1 vL'
  refine ⟨?_, hS.only hO fun b hb e => hS.not_at hp (by decide) (by rw [hb, e]), h'.only hO fun b hb e => h'.not_at hp (by decide) (by rw [hb, e])⟩
  have := heap_setCell_same w p 1 _ _ vL' hp
  simpa using this
theorem faD0 {b : Nat} : (Instr.fieldAt 65 (.pointer (some ⟨b, 0, none⟩)) 0).run Try.prog w = .ok (.pointer (some ⟨b, 0, none⟩)) w := by kernel_rfl
theorem faD1 {b : Nat} : (Instr.fieldAt 65 (.pointer (some ⟨b, 0, none⟩)) 1).run Try.prog w = .ok (.pointer (some ⟨b, 1, none⟩)) w := by kernel_rfl
theorem faD2 {b : Nat} : (Instr.fieldAt 65 (.pointer (some ⟨b, 0, none⟩)) 2).run Try.prog w = .ok (.pointer (some ⟨b, 2, none⟩)) w := by kernel_rfl
theorem ldS {a : Addr} {A : Option Addr} {n c : Nat} (h : w.cell? a = some (.slice A n c)) : (Instr.loadAt 63 (.pointer (some a))).run Try.prog w = .ok (.slice A n c) w := by simp [go_sem, h]
theorem ldB {a : Addr} {A : Option Addr} {n c : Nat} (h : w.cell? a = some (.slice A n c)) : (Instr.loadAt 58 (.pointer (some a))).run Try.prog w = .ok (.slice A n c) w := by simp [go_sem, h]
theorem stS {a : Addr} {v : Value} {A : Option Addr} {n c : Nat} (h : w.cell? a = some v) (hf : w.frozen? a = false) : (Instr.storeAt 63 (.pointer (some a)) (.slice A n c)).run Try.prog w = .ok () (w.setCell a (.slice A n c)) := by simp [go_sem, h, hf]
theorem run_buildL (k : Int) (b : Blk) : (Instr.build 78 #[(0, .int .i64 k), (1, blk b)]).run Try.prog w = .ok (pairV k b) w := by
  have hz := run_zeroE LooE w
  have h1 := fill_one (place := fun i => (#[(0, 1), (1, 64)] : Array (Nat × Nat))[i]?) (i := 0) (off := 0) (size := 1) (v := .int .i64 k) (pre := []) (mid := [.int .i64 0]) (post := cel zeroB) (vs := [.int .i64 k]) (rest := [(1, blk b)]) rfl rfl rfl rfl rfl
  have h2 := fill_one (place := fun i => (#[(0, 1), (1, 64)] : Array (Nat × Nat))[i]?) (i := 1) (off := 1) (size := 64) (v := blk b) (pre := [.int .i64 k]) (mid := cel zeroB) (post := []) (vs := cel b) (rest := []) rfl rfl (cel_length b) rfl (cel_length zeroB)
  simp only [List.nil_append, List.append_nil, List.singleton_append] at h1 h2
  have h3 := h1.trans h2
  have hz' : (zeroValue 78).run Try.prog w = .ok (pairV 0 zeroB) w := hz
  have hc : (pairV 0 zeroB).cells = (.int .i64 0 :: cel zeroB).toArray := rfl
  simp only [Instr.build, Sem.run_bind, hz', run_underlying Try.underlying78, Result.andThen_ok, hc]
  refine Eq.trans (congrArg (fun r => Result.andThen r _) (?h : _ = Result.ok #[(0, 1), (1, 64)] w)) ?_
  case h => kernel_rfl
  simp only [Result.andThen_ok]
  have h4 : Instr.fill (fun i => (#[(0, 1), (1, 64)] : Array (Nat × Nat))[i]?) (.int .i64 k :: cel b).toArray [] = some (.int .i64 k :: cel b).toArray := by rw [Instr.fill]
  rw [h3.trans h4]
  rfl
theorem exec_buildL {ρ : Operand → Value} {o : Oper} {x y : Operand} {k : Int} {b : Blk} (ho : o.op = .build 78 #[(0, x), (1, y)]) (hx : ρ x = .int .i64 k) (hy : ρ y = blk b) : (execOp ρ o).run Try.prog w = .ok (.value (pairV k b)) w := by
  have h := run_buildL (w := w) k b
  unfold execOp
  simp only [ho, List.map_toArray, List.map_cons, List.map_nil, hx, hy, Sem.run_bind, h, Result.andThen_ok, Sem.run_pure]
theorem pair_cells (k : Int) (b : Blk) : (pairV k b).cells = (LooE.cel (k, b)).toArray := rfl
theorem RefD.ldL (h : RefD w p vS vL S L g) : w.cell? ⟨p, 1, none⟩ = some vL := (cells3 h.at_).2.1
theorem RefD.ldS (h : RefD w p vS vL S L g) : w.cell? ⟨p, 0, none⟩ = some vS := (cells3 h.at_).1
end
theorem r_fail (p : Nat) (vS vL : Value) (S : List Blk) (L : List (Int × Blk)) (g : Bool) (w : World) (h : RefD w p vS vL S L g) :
    Calls Try.prog 32 #[.pointer (some ⟨p, 0, none⟩)] w fun e w' => (∃ v, e = .returned v) ∧ RefD w' p vS (.slice none 0 0) S [] true ∧ Only (foot p vS vL) w w' := by
  obtain ⟨c0, c1, c2⟩ := cells3 h.at_
  have f1 := frozen_of_row w p 1 _ _ h.at_
  have f2 := frozen_of_row w p 2 _ _ h.at_
  have H := Lib.hid h
  clear h
  go_enter Try.func32, Try.ntmps32
  go_wp2
  refine bodyPost_end (results_none rfl _ _ _) rfl ⟨⟨_, rfl⟩, (H.out.setG true).setL (MadeE.nil _ _), ?_⟩
  exact ((only_set w p 2 _).trans (only_set _ p 1 _) fun b hb => .inl hb).widen fun b hb => .inl hb
set_option maxHeartbeats 1000000 in
theorem r_write_no (p : Nat) (vS vL : Value) (S : List Blk) (L : List (Int × Blk)) (g : Bool) (n : Int) (b : Blk) (w : World) (h : RefD w p vS vL S L g) (he0 : askE S g n ≠ 0) :
    Calls Try.prog 26 #[.pointer (some ⟨p, 0, none⟩), .int .i64 n, blk b] w fun e w' => e = .returned (.int .i64 (askE S g n)) ∧ Below w.heap.size w w' := by
  have hA := (Below.refl w.heap.size w).alloc (Nat.le_refl _) (.cells (cel b).toArray 33)
  have h1 := h.below hA
  have HA := Lib.hid hA
  clear hA
  have H0 := Lib.hid he0
  rcases askE_is (S := S) (g := g) (n := n) with he | he | ⟨he, _⟩
  · have HE := Lib.hid he
    clear he he0
    go_enter Try.func26, Try.ntmps26
    go_wp2_with (first | (refine wpList_val rfl (exec_box rfl rfl) ?_) | fail)
    refine (r_asks p vS vL S L g n _ h1).mono ?_
    rintro e w1 ⟨rfl, rfl⟩
    rw [HE.out]
    go_wp2_with fail
    go_ret
    exact ⟨ret_int HE.out.symm, HA.out⟩
  · have HE := Lib.hid he
    clear he he0
    go_enter Try.func26, Try.ntmps26
    go_wp2_with (first | (refine wpList_val rfl (exec_box rfl rfl) ?_) | fail)
    refine (r_asks p vS vL S L g n _ h1).mono ?_
    rintro e w1 ⟨rfl, rfl⟩
    rw [HE.out]
    go_wp2_with fail
    go_ret
    exact ⟨ret_int HE.out.symm, HA.out⟩
  · exact absurd he he0
set_option maxHeartbeats 1000000 in
theorem r_write_ok (p k : Nat) (vS vL : Value) (S : List Blk) (L : List (Int × Blk)) (b : Blk) (w : World) (h : RefD w p vS vL S L false) (hk : k < S.length) (hL : L.length < 1000000) :
    Calls Try.prog 26 #[.pointer (some ⟨p, 0, none⟩), .int .i64 k, blk b] w fun e w' => e = .returned (.int .i64 0) ∧ ∃ vL', RefD w' p vS vL' S (L ++ [((k : Int), b)]) false ∧ Only (foot p vS vL) w w' ∧ (∀ x, vL'.ownBlock = some x → vL.ownBlock = some x ∨ w.heap.size ≤ x) := by
  have hA := (Below.refl w.heap.size w).alloc (Nat.le_refl _) (.cells (cel b).toArray 33)
  have h1 := h.below hA
  have HA := Lib.hid hA
  have HE := Lib.hid (askE_ok (S := S) (n := (k : Int)) (by omega))
  have HB := Lib.hid (new1 w (cel b).toArray 33)
  clear hA
  obtain ⟨AL, cL, rfl, hl1, hl2⟩ := h1.L_.form
  go_enter Try.func26, Try.ntmps26
  go_wp2_with (first | (refine wpList_val rfl (exec_box rfl rfl) ?_) | fail)
  refine (r_asks p vS _ S L false k _ h1).mono ?_
  rintro e w1 ⟨rfl, rfl⟩
  rw [HE.out]
  go_wp2_with fail
  generalize hy : w.heap.size = y at *
  generalize w.alloc (.cells (cel b).toArray 33) = w1 at *
  refine wp_region_last (fun w' => w'.heap[p]? = some (.cells #[vS, .slice AL L.length cL, .bool false] 65) ∧ w'.heap[y]? = some (.cells (cel b).toArray 33)) 12 (by kernel_rfl) ?_
  change wpAnyZ _ _ _ _ _ _ 13 _ _ w1.drew
  have hS : w1.drew.heap[p]? = some (.cells #[vS, .slice AL L.length cL, .bool false] 65) ∧ w1.drew.heap[y]? = some (.cells (cel b).toArray 33) := ⟨h1.at_, HB.out⟩
  refine last_val 0 rfl (by kernel_rfl) (by kernel_rfl) (by kernel_rfl) (by decide) (by kernel_rfl) rfl (fun w' hw => exec_mv rfl (ev rfl)) (fun _ _ _ h => h) hS ?_
  simp only [Act.put, List.setIfInBounds_toArray, List.set_cons_succ, List.set_cons_zero]
  refine last_val 1 rfl (by kernel_rfl) (by kernel_rfl) (by kernel_rfl) (by decide) (by kernel_rfl) rfl (fun w' hw => exec_mv rfl (ev rfl)) (fun _ _ _ h => h) hS ?_
  simp only [Act.put, List.setIfInBounds_toArray, List.set_cons_succ, List.set_cons_zero]
  refine last_val 2 rfl (by kernel_rfl) (by kernel_rfl) (by kernel_rfl) (by decide) (by kernel_rfl) rfl (fun w' hw => exec_nil rfl (ev rfl)) (fun _ _ _ h => h) hS ?_
  simp only [Act.put, List.setIfInBounds_toArray, List.set_cons_succ, List.set_cons_zero]
  refine last_val 3 rfl (by kernel_rfl) (by kernel_rfl) (by kernel_rfl) (by decide) (by kernel_rfl) rfl (fun w' hw => exec_faddr rfl (ev rfl) faD1) (fun _ _ _ h => h) hS ?_
  simp only [Act.put, List.setIfInBounds_toArray, List.set_cons_succ, List.set_cons_zero]
  refine last_val 4 rfl (by kernel_rfl) (by kernel_rfl) (by kernel_rfl) (by decide) (by kernel_rfl) rfl (fun w' hw => exec_ld rfl (ev rfl) (ldS (cells3 hw.1).2.1)) (fun _ _ _ h => h) hS ?_
  simp only [Act.put, List.setIfInBounds_toArray, List.set_cons_succ, List.set_cons_zero]
  refine last_val 5 rfl (by kernel_rfl) (by kernel_rfl) (by kernel_rfl) (by decide) (by kernel_rfl) rfl (fun w' hw => exec_mv rfl (ev rfl)) (fun _ _ _ h => h) hS ?_
  simp only [Act.put, List.setIfInBounds_toArray, List.set_cons_succ, List.set_cons_zero]
  refine last_val 6 rfl (by kernel_rfl) (by kernel_rfl) (by kernel_rfl) (by decide) (by kernel_rfl) rfl (fun w' hw => exec_load rfl (ev rfl) (blk_range hw.2)) (fun _ _ _ h => h) hS ?_
  simp only [Act.put, List.setIfInBounds_toArray, List.set_cons_succ, List.set_cons_zero]
  refine last_val 7 rfl (by kernel_rfl) (by kernel_rfl) (by kernel_rfl) (by decide) (by kernel_rfl) rfl (fun w' hw => exec_buildL rfl (ev rfl) (ev rfl)) (fun _ _ _ h => h) hS ?_
  simp only [Act.put, List.setIfInBounds_toArray, List.set_cons_succ, List.set_cons_zero]
  have hr : RefD w1.drew p vS (.slice AL L.length cL) S L false := ⟨h1.at_, h1.S_, h1.L_⟩
  have hS2 : RefD (w1.drew.alloc (.cells (LooE.cel ((k : Int), b)).toArray LooE.t)) p vS (.slice AL L.length cL) S L false := hr.below ((Below.refl _ _).alloc (Nat.le_refl _) _)
  have hb2 := blk_past hS.2 (.cells (LooE.cel ((k : Int), b)).toArray LooE.t)
  have hnew : RdE LooE _ _ _ 1 _ := rdE_new (E := LooE) (l := [((k : Int), b)]) w1.drew (LooE.cel ((k : Int), b)).toArray LooE.t (by rw [flatE_cons]; simp [flatE])
  obtain ⟨v3, w3, hrun, hm3, hg3, ho3⟩ := run_appE_own LooE _ 63 0 _ 1 1 _ _ _ _ hS2.L_ hnew (Nat.zero_le _) (by omega)
  have hO2 : Only (foot p vS (.slice AL L.length cL)) w (w1.drew.alloc (.cells (LooE.cel ((k : Int), b)).toArray LooE.t)) := (Only.of_below _ (hy ▸ HA.out)).drew.alloc _
  have hO3 := hO2.grown hg3 (fun x hx => .inl (.inr (.inr hx)))
  have hp3 : w3.heap[p]? = some (.cells #[vS, .slice AL L.length cL, .bool false] 65) := (hg3.block p (blk_lt hS2.at_) (fun e => hS2.L_.not_at hS2.at_ (by decide) e.symm)).trans hS2.at_
  have hy3 : w3.heap[y]? = some (.cells (cel b).toArray 33) := (hg3.block y (blk_lt hb2) (fun e => hS2.L_.not_at hb2 (by decide) e.symm)).trans hb2
  have hSS3 := hS2.S_.kept hg3 (hS2.S_.other hS2.L_ (by decide))
  refine last_turn 8 rfl (by kernel_rfl) rfl (exec_mk1E (E := LooE) (a := ((k : Int), b)) rfl (ev rfl) (pair_cells _ _) (by decide)) (fun _ => ⟨hS2.at_, hb2⟩) ?_
  simp only [Act.put, List.setIfInBounds_toArray, List.set_cons_succ, List.set_cons_zero]
  refine last_turn 9 rfl (by kernel_rfl) rfl (exec_appE (E := LooE) rfl (ev rfl) (ev rfl) hrun) (fun _ => ⟨hp3, hy3⟩) ?_
  simp only [Act.put, List.setIfInBounds_toArray, List.set_cons_succ, List.set_cons_zero]
  refine last_turn 10 rfl (by kernel_rfl) rfl (exec_nil rfl (ev rfl)) (fun _ => ⟨hp3, hy3⟩) ?_
  simp only [Act.put, List.setIfInBounds_toArray, List.set_cons_succ, List.set_cons_zero]
  refine last_turn 11 rfl (by kernel_rfl) rfl (exec_faddr rfl (ev rfl) faD1) (fun _ => ⟨hp3, hy3⟩) ?_
  simp only [Act.put, List.setIfInBounds_toArray, List.set_cons_succ, List.set_cons_zero]
  obtain ⟨A3, c3, rfl, _, _⟩ := hm3.form
  refine last_nul 12 rfl (by kernel_rfl) rfl (exec_st rfl (ev rfl) (ev rfl) (stS (cells3 hp3).2.1 (frozen_of_row _ _ _ _ _ hp3))) (fun e => absurd rfl e) ?_
  simp only [Act.put]
  refine wpAnyZ_done (by kernel_rfl) ?_ _
  go_wp2_with fail
  go_ret
  refine ⟨rfl, _, lay_L hp3 hSS3 hm3, hO3.setCell (.inl (.inl rfl)) _, fun x hx => ?_⟩
  rcases ho3 x hx with e | e
  · exact .inl e
  · refine .inr (Nat.le_trans ?_ e)
    have := hO2.size
    omega
/-- What Write leaves. -/
def wrL (S : List Blk) (L : List (Int × Blk)) (g : Bool) (n : Int) (b : Blk) : List (Int × Blk) := if askE S g n = 0 then L ++ [(n, b)] else L
theorem r_write (p : Nat) (vS vL : Value) (S : List Blk) (L : List (Int × Blk)) (g : Bool) (n : Int) (b : Blk) (w : World) (h : RefD w p vS vL S L g) (hL : L.length < 1000000) :
    Calls Try.prog 26 #[.pointer (some ⟨p, 0, none⟩), .int .i64 n, blk b] w fun e w' => e = .returned (.int .i64 (askE S g n)) ∧ ∃ vL', RefD w' p vS vL' S (wrL S L g n b) g ∧ Only (foot p vS vL) w w' ∧ (∀ x, vL'.ownBlock = some x → vL.ownBlock = some x ∨ w.heap.size ≤ x) := by
  by_cases he : askE S g n = 0
  · rcases askE_is (S := S) (g := g) (n := n) with h1 | h1 | ⟨_, rfl, k, rfl, hk⟩
    · omega
    · omega
    · have e : wrL S L false k b = L ++ [((k : Int), b)] := by unfold wrL; rw [if_pos he]
      rw [e, he]
      exact r_write_ok p k vS vL S L b w h hk hL
  · have e : wrL S L g n b = L := by unfold wrL; rw [if_neg he]
    rw [e]
    exact (r_write_no p vS vL S L g n b w h he).mono fun e w' ⟨h1, h2⟩ => ⟨h1, vL, h.below h2, Only.of_below _ h2, fun x hx => .inl hx⟩
end Go.Proofs.Ytokdmcikoaagmaa
