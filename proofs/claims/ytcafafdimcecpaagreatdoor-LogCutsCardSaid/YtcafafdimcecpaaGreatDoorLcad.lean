import Derived.Test.YtcafafdimcecpaaGreatDoorLcac
import Derived.Laws.CopyRow
import Derived.Laws.IdiomCopy
import Derived.RangeFuncNested
import Derived.RangeFuncBound
import Derived.RangeFuncCalls
import Derived.RangeFuncLeaves
import Derived.Shelf.Abstract
import Derived.Shelf.RegionOpen
import Derived.WalkKit
import Derived.OwnWalkIn
import Derived.TacticsInMore
import Derived.LoopNIn
import Derived.LoopIn
import Derived.Test.YtcafafdimcecpaaGreatDoorLcZ
namespace Go.Proofs.YtcafafdimcecpaaGreatDoor
open Go.RowKit
set_option linter.unusedVariables false
set_option maxRecDepth 100000
set_option maxHeartbeats 1000000 in
theorem p_sure (p : Nat) (vS vL : Value) (S : List Blk) (L : List (Int × Blk)) (g : Bool) (n : Int) (w : World) (h : PD w p vS vL S L g) :
    Calls Tryz.prog 79 #[.pointer (some ⟨p, 0, none⟩), .int .i64 n] w fun e w' => e = .returned (.tuple #[blk (sureB S g n), .int .i64 (ce S g n)]) ∧ Below w.heap.size w w' := by
  have hA := (Below.refl w.heap.size w).alloc (Nat.le_refl _) (.cells (cel al).toArray 65)
  have h1 := h.below hA
  have HT := Lib.hid (db w al 65)
  have HA := Lib.hid hA
  clear hA
  rcases dU (S := S) (g := g) (n := n) with he | he | ⟨he, rfl, k, rfl, hk⟩
  · have HS := Lib.hid (sureB_no (S := S) (g := g) (n := n) (by omega))
    have HE := Lib.hid he
    clear he
    go_enter Tryz.func79, Tryz.ntmps79
    go_wp2_with (first | (refine ai rfl (aK rfl) ?_) | fail)
    refine (eI p vS vL S L g n _ h1).mono ?_
    rintro e w1 ⟨rfl, rfl⟩
    rw [HE.out]
    go_wp2_with (first | (refine ai rfl (bU (c := al) (parts := []) rfl rfl) ?_) | (refine aF rfl (aH rfl rfl rfl HT.out) ?_))
    refine bodyPost_ret (bN rfl _ _ _ rfl (World.rangeAt_setCells_same _ _ _ _ (by rw [ax]; exact HT.out))) rfl ⟨by rw [HS.out, HE.out]; rfl, below_setCells HA.out (Nat.le_refl _) _⟩
  · have HS := Lib.hid (sureB_no (S := S) (g := g) (n := n) (by omega))
    have HE := Lib.hid he
    clear he
    go_enter Tryz.func79, Tryz.ntmps79
    go_wp2_with (first | (refine ai rfl (aK rfl) ?_) | fail)
    refine (eI p vS vL S L g n _ h1).mono ?_
    rintro e w1 ⟨rfl, rfl⟩
    rw [HE.out]
    go_wp2_with (first | (refine ai rfl (bU (c := al) (parts := []) rfl rfl) ?_) | (refine aF rfl (aH rfl rfl rfl HT.out) ?_))
    refine bodyPost_ret (bN rfl _ _ _ rfl (World.rangeAt_setCells_same _ _ _ _ (by rw [ax]; exact HT.out))) rfl ⟨by rw [HS.out, HE.out]; rfl, below_setCells HA.out (Nat.le_refl _) _⟩
  · have HS := Lib.hid (sureB_ok he)
    have HE := Lib.hid he
    clear he
    obtain ⟨A, c, rfl, hrd, hc1, hc2⟩ := h1.alive.open_ rfl
    obtain ⟨b, off, rfl, hb, hr⟩ := hrd.blk hk
    obtain ⟨c0, c1, c2, c3⟩ := cK h1.at_
    generalize S.getD k al = x at *
    have HR := Lib.hid hr
    clear hr hrd
    go_enter Tryz.func79, Tryz.ntmps79
    go_wp2_with (first | (refine ai rfl (aK rfl) ?_) | fail)
    refine (eI p _ vL S L false k _ h1).mono ?_
    rintro e w1 ⟨rfl, rfl⟩
    rw [HE.out]
    go_wp2_with (first | (refine ai rfl (aJ rfl rfl HR.out) ?_) | (refine aF rfl (aH rfl rfl rfl HT.out) ?_))
    refine bodyPost_ret (bN rfl _ _ _ rfl (World.rangeAt_setCells_same _ _ _ _ (by rw [ax]; exact HT.out))) rfl ⟨by rw [HS.out, HE.out]; rfl, below_setCells HA.out (Nat.le_refl _) _⟩
section
variable {w w' : World} {p : Nat} {vS vL : Value} {S : List Blk} {L : List (Int × Blk)} {g : Bool}
theorem p_lay_L (hp : w.heap[p]? = some (.cells #[.int .i64 (S.length : Int), vS, vL, .bool g] 167)) (h1 : 1 ≤ S.length) (hS : aA BlkE w 0 vS (if g = true then [] else S)) {vL' : Value} {L' : List (Int × Blk)} (h' : aA LwE w 0 vL' L') (hd : g = true → L' = []) : PD (w.setCell ⟨p, 2, none⟩ vL') p vS vL' S L' g := by
  have hO := ct w p 2 vL'
  refine ⟨?_, h1, hS.only hO fun b hb e => hS.cq hp (by decide) (by rw [hb, e]), h'.only hO fun b hb e => h'.cq hp (by decide) (by rw [hb, e]), hd⟩
  have := heap_setCell_same w p 2 _ _ vL' hp
  simpa using this
theorem PD.setL (h : PD w p vS vL S L g) {vL' : Value} {L' : List (Int × Blk)} (h' : aA LwE w 0 vL' L') (hd : g = true → L' = []) : PD (w.setCell ⟨p, 2, none⟩ vL') p vS vL' S L' g := p_lay_L h.at_ h.one h.S_ h' hd
theorem faP1 {b : Nat} : (Instr.fieldAt 167 (.pointer (some ⟨b, 0, none⟩)) 1).run Tryz.prog w = .ok (.pointer (some ⟨b, 1, none⟩)) w := by kernel_rfl
theorem faPw2 {b : Nat} : (Instr.fieldAt 167 (.pointer (some ⟨b, 0, none⟩)) 2).run Tryz.prog w = .ok (.pointer (some ⟨b, 2, none⟩)) w := by kernel_rfl
theorem faV0 {b off : Nat} : (Instr.fieldAt 169 (.pointer (some ⟨b, off, none⟩)) 0).run Tryz.prog w = .ok (.pointer (some ⟨b, off, none⟩)) w := by kernel_rfl
theorem faV1 {b off : Nat} : (Instr.fieldAt 169 (.pointer (some ⟨b, off, none⟩)) 1).run Tryz.prog w = .ok (.pointer (some ⟨b, off + 1, none⟩)) w := by kernel_rfl
theorem ldP {a : Addr} {A : Option Addr} {n c : Nat} (h : w.cell? a = some (.slice A n c)) : (Instr.loadAt 165 (.pointer (some a))).run Tryz.prog w = .ok (.slice A n c) w := by simp [go_sem, h]
theorem stP {a : Addr} {v : Value} {A : Option Addr} {n c : Nat} (h : w.cell? a = some v) (hf : w.frozen? a = false) : (Instr.storeAt 165 (.pointer (some a)) (.slice A n c)).run Tryz.prog w = .ok () (w.setCell a (.slice A n c)) := by simp [go_sem, h, hf]
theorem run_buildW (k : Int) (b : Blk) : (Instr.build 169 #[(0, .int .i64 k), (1, blk b)]).run Tryz.prog w = .ok (pairV k b) w := by
  have hz := run_zeroE LwE w
  have h1 := fill_one (place := fun i => (#[(0, 1), (1, 64)] : Array (Nat × Nat))[i]?) (i := 0) (off := 0) (size := 1) (v := .int .i64 k) (pre := []) (mid := [.int .i64 0]) (post := cel al) (vs := [.int .i64 k]) (rest := [(1, blk b)]) rfl rfl rfl rfl rfl
  have h2 := fill_one (place := fun i => (#[(0, 1), (1, 64)] : Array (Nat × Nat))[i]?) (i := 1) (off := 1) (size := 64) (v := blk b) (pre := [.int .i64 k]) (mid := cel al) (post := []) (vs := cel b) (rest := []) rfl rfl (ax b) rfl (ax al)
  simp only [List.nil_append, List.append_nil, List.singleton_append] at h1 h2
  have h3 := h1.trans h2
  have hz' : (zeroValue 169).run Tryz.prog w = .ok (pairV 0 al) w := hz
  have hc : (pairV 0 al).cells = (.int .i64 0 :: cel al).toArray := rfl
  simp only [Instr.build, Sem.run_bind, hz', run_underlying Tryz.underlying169, Result.andThen_ok, hc]
  refine Eq.trans (congrArg (fun r => Result.andThen r _) (?h : _ = Result.ok #[(0, 1), (1, 64)] w)) ?_
  case h => kernel_rfl
  simp only [Result.andThen_ok]
  have h4 : Instr.fill (fun i => (#[(0, 1), (1, 64)] : Array (Nat × Nat))[i]?) (.int .i64 k :: cel b).toArray [] = some (.int .i64 k :: cel b).toArray := by rw [Instr.fill]
  rw [h3.trans h4]
  rfl
theorem exec_buildW {ρ : Operand → Value} {o : Oper} {x y : Operand} {k : Int} {b : Blk} (ho : o.op = .build 169 #[(0, x), (1, y)]) (hx : ρ x = .int .i64 k) (hy : ρ y = blk b) : (execOp ρ o).run Tryz.prog w = .ok (.value (pairV k b)) w := by
  have h := run_buildW (w := w) k b
  unfold execOp
  simp only [ho, List.map_toArray, List.map_cons, List.map_nil, hx, hy, Sem.run_bind, h, Result.andThen_ok, Sem.run_pure]
theorem pairW_cells (k : Int) (b : Blk) : (pairV k b).cells = (LwE.cel (k, b)).toArray := rfl
end
set_option maxHeartbeats 1000000 in
theorem p_fail (p : Nat) (vS vL : Value) (S : List Blk) (L : List (Int × Blk)) (g : Bool) (w : World) (h : PD w p vS vL S L g) :
    Calls Tryz.prog 109 #[.pointer (some ⟨p, 0, none⟩)] w fun e w' => e = .returned (.int .i64 0) ∧ PD w' p (.slice none 0 0) (.slice none 0 0) S [] true ∧ Only (foot p vS vL) w w' := by
  obtain ⟨c0, c1, c2, c3⟩ := cK h.at_
  have f0 := frozen_of_row w p 0 _ _ h.at_
  have f1 := frozen_of_row w p 1 _ _ h.at_
  have f2 := frozen_of_row w p 2 _ _ h.at_
  have f3 := frozen_of_row w p 3 _ _ h.at_
  have H := Lib.hid h
  clear h
  go_enter Tryz.func109, Tryz.ntmps109
  go_wp2_with fail
  refine (eL p vS vL S L g w H.out).mono ?_
  rintro e w1 ⟨rfl, rfl⟩
  go_wp2_with fail
  go_ret
  refine ⟨rfl, ⟨?_, H.out.one, aA.nil _ _, aA.nil _ _, fun _ => rfl⟩, ?_⟩
  · have h0 := H.out.at_
    have h1 := heap_setCell_same w p 0 _ _ (.int .i64 (S.length : Int)) h0
    have h2 := heap_setCell_same _ p 1 _ _ (.slice none 0 0) h1
    have h3 := heap_setCell_same _ p 2 _ _ (.slice none 0 0) h2
    have h4 := heap_setCell_same _ p 3 _ _ (.bool true) h3
    simpa using h4
  · have hO : Only (fun b => b = p) w w := Only.refl _ _
    exact ((((hO.setCell (p := ⟨p, 0, none⟩) (.inl rfl) _).setCell (p := ⟨p, 1, none⟩) (.inl rfl) _).setCell (p := ⟨p, 2, none⟩) (.inl rfl) _).setCell (p := ⟨p, 3, none⟩) (.inl rfl) _).widen fun b hb => .inl hb
set_option maxHeartbeats 1000000 in
theorem p_write_no (p : Nat) (vS vL : Value) (S : List Blk) (L : List (Int × Blk)) (g : Bool) (n : Int) (b : Blk) (w : World) (h : PD w p vS vL S L g) (he0 : ce S g n ≠ 0) :
    Calls Tryz.prog 82 #[.pointer (some ⟨p, 0, none⟩), .int .i64 n, blk b] w fun e w' => e = .returned (.int .i64 (ce S g n)) ∧ Below w.heap.size w w' := by
  have hA := (Below.refl w.heap.size w).alloc (Nat.le_refl _) (.cells (cel b).toArray 65)
  have h1 := h.below hA
  have HA := Lib.hid hA
  clear hA
  have H0 := Lib.hid he0
  rcases dU (S := S) (g := g) (n := n) with he | he | ⟨he, _⟩
  rotate_right 1
  · exact absurd he he0
  all_goals
    have HE := Lib.hid he
    clear he he0
    go_enter Tryz.func82, Tryz.ntmps82
    go_wp2_with (first | (refine ai rfl (bD rfl rfl) ?_) | fail)
    refine (eI p vS vL S L g n _ h1).mono ?_
    rintro e w1 ⟨rfl, rfl⟩
    rw [HE.out]
    go_wp2_with fail
    go_ret
    exact ⟨aQ HE.out.symm, HA.out⟩
set_option maxHeartbeats 1000000 in
theorem p_write_ok (p k : Nat) (vS vL : Value) (S : List Blk) (L : List (Int × Blk)) (b : Blk) (w : World) (h : PD w p vS vL S L false) (hk : k < S.length) (hL : L.length < 1000000) :
    Calls Tryz.prog 82 #[.pointer (some ⟨p, 0, none⟩), .int .i64 k, blk b] w fun e w' => e = .returned (.int .i64 0) ∧ ∃ vL', PD w' p vS vL' S (L ++ [((k : Int), b)]) false ∧ Only (foot p vS vL) w w' ∧ (∀ x, vL'.ownBlock = some x → vL.ownBlock = some x ∨ w.heap.size ≤ x) := by
  have hA := (Below.refl w.heap.size w).alloc (Nat.le_refl _) (.cells (cel b).toArray 65)
  have h1 := h.below hA
  have HA := Lib.hid hA
  have HE := Lib.hid (fq (S := S) (n := (k : Int)) (by omega))
  have HB := Lib.hid (new1 w (cel b).toArray 65)
  clear hA
  obtain ⟨AL, cL, rfl, hl1, hl2⟩ := h1.L_.form
  go_enter Tryz.func82, Tryz.ntmps82
  go_wp2_with (first | (refine ai rfl (bD rfl rfl) ?_) | fail)
  refine (eI p vS _ S L false k _ h1).mono ?_
  rintro e w1 ⟨rfl, rfl⟩
  rw [HE.out]
  go_wp2_with fail
  generalize hy : w.heap.size = y at *
  generalize w.alloc (.cells (cel b).toArray 65) = w1 at *
  refine bx (fun w' => w'.heap[p]? = some (.cells #[.int .i64 (S.length : Int), vS, .slice AL L.length cL, .bool false] 167) ∧ w'.heap[y]? = some (.cells (cel b).toArray 65)) 12 (by kernel_rfl) ?_
  change cm _ _ _ _ _ _ 13 _ _ w1.drew
  have hS : w1.drew.heap[p]? = some (.cells #[.int .i64 (S.length : Int), vS, .slice AL L.length cL, .bool false] 167) ∧ w1.drew.heap[y]? = some (.cells (cel b).toArray 65) := ⟨h1.at_, HB.out⟩
  refine ap 0 rfl (by kernel_rfl) (by kernel_rfl) (by kernel_rfl) (by decide) (by kernel_rfl) rfl (fun w' hw => ah rfl (ev rfl)) (fun _ _ _ h => h) hS ?_
  simp only [Act.put, aa, ae, af]
  refine ap 1 rfl (by kernel_rfl) (by kernel_rfl) (by kernel_rfl) (by decide) (by kernel_rfl) rfl (fun w' hw => ah rfl (ev rfl)) (fun _ _ _ h => h) hS ?_
  simp only [Act.put, aa, ae, af]
  refine ap 2 rfl (by kernel_rfl) (by kernel_rfl) (by kernel_rfl) (by decide) (by kernel_rfl) rfl (fun w' hw => az rfl (ev rfl)) (fun _ _ _ h => h) hS ?_
  simp only [Act.put, aa, ae, af]
  refine ap 3 rfl (by kernel_rfl) (by kernel_rfl) (by kernel_rfl) (by decide) (by kernel_rfl) rfl (fun w' hw => ak rfl (ev rfl) faPw2) (fun _ _ _ h => h) hS ?_
  simp only [Act.put, aa, ae, af]
  refine ap 4 rfl (by kernel_rfl) (by kernel_rfl) (by kernel_rfl) (by decide) (by kernel_rfl) rfl (fun w' hw => av rfl (ev rfl) (ldP (cK hw.1).2.2.1)) (fun _ _ _ h => h) hS ?_
  simp only [Act.put, aa, ae, af]
  refine ap 5 rfl (by kernel_rfl) (by kernel_rfl) (by kernel_rfl) (by decide) (by kernel_rfl) rfl (fun w' hw => ah rfl (ev rfl)) (fun _ _ _ h => h) hS ?_
  simp only [Act.put, aa, ae, af]
  refine ap 6 rfl (by kernel_rfl) (by kernel_rfl) (by kernel_rfl) (by decide) (by kernel_rfl) rfl (fun w' hw => aJ rfl (ev rfl) (blk_range hw.2)) (fun _ _ _ h => h) hS ?_
  simp only [Act.put, aa, ae, af]
  refine ap 7 rfl (by kernel_rfl) (by kernel_rfl) (by kernel_rfl) (by decide) (by kernel_rfl) rfl (fun w' hw => exec_buildW rfl (ev rfl) (ev rfl)) (fun _ _ _ h => h) hS ?_
  simp only [Act.put, aa, ae, af]
  have hr : PD w1.drew p vS (.slice AL L.length cL) S L false := ⟨h1.at_, h1.one, h1.S_, h1.L_, h1.dead⟩
  have hS2 : PD (w1.drew.alloc (.cells (LwE.cel ((k : Int), b)).toArray LwE.t)) p vS (.slice AL L.length cL) S L false := hr.below ((Below.refl _ _).alloc (Nat.le_refl _) _)
  have hb2 := bM hS.2 (.cells (LwE.cel ((k : Int), b)).toArray LwE.t)
  have hnew : RdE LwE _ _ _ 1 _ := dZ (E := LwE) (l := [((k : Int), b)]) w1.drew (LwE.cel ((k : Int), b)).toArray LwE.t (by rw [dA]; simp [bj])
  obtain ⟨v3, w3, hrun, hm3, hg3, ho3⟩ := er LwE _ 165 0 _ 1 1 _ _ _ _ hS2.L_ hnew (Nat.zero_le _) (by omega)
  have hO2 : Only (foot p vS (.slice AL L.length cL)) w (w1.drew.alloc (.cells (LwE.cel ((k : Int), b)).toArray LwE.t)) := (Only.of_below _ (hy ▸ HA.out)).drew.alloc _
  have hO3 := hO2.grown hg3 (fun x hx => .inl (.inr (.inr hx)))
  have hp3 : w3.heap[p]? = some (.cells #[.int .i64 (S.length : Int), vS, .slice AL L.length cL, .bool false] 167) := (hg3.block p (aV hS2.at_) (fun e => hS2.L_.cq hS2.at_ (by decide) e.symm)).trans hS2.at_
  have hy3 : w3.heap[y]? = some (.cells (cel b).toArray 65) := (hg3.block y (aV hb2) (fun e => hS2.L_.cq hb2 (by decide) e.symm)).trans hb2
  have hSS3 := hS2.S_.kept hg3 (hS2.S_.other hS2.L_ (by decide))
  refine bl 8 rfl (by kernel_rfl) rfl (dc (E := LwE) (a := ((k : Int), b)) rfl (ev rfl) (pairW_cells _ _) (by decide)) (fun _ => ⟨hS2.at_, hb2⟩) ?_
  simp only [Act.put, aa, ae, af]
  refine bl 9 rfl (by kernel_rfl) rfl (fB (E := LwE) rfl (ev rfl) (ev rfl) hrun) (fun _ => ⟨hp3, hy3⟩) ?_
  simp only [Act.put, aa, ae, af]
  refine bl 10 rfl (by kernel_rfl) rfl (az rfl (ev rfl)) (fun _ => ⟨hp3, hy3⟩) ?_
  simp only [Act.put, aa, ae, af]
  refine bl 11 rfl (by kernel_rfl) rfl (ak rfl (ev rfl) faPw2) (fun _ => ⟨hp3, hy3⟩) ?_
  simp only [Act.put, aa, ae, af]
  obtain ⟨A3, c3, rfl, _, _⟩ := hm3.form
  refine ey 12 rfl (by kernel_rfl) rfl (exec_st rfl (ev rfl) (ev rfl) (stP (cK hp3).2.2.1 (frozen_of_row _ _ _ _ _ hp3))) (fun e => absurd rfl e) ?_
  simp only [Act.put]
  refine b8 (by kernel_rfl) ?_ _
  go_wp2_with fail
  go_ret
  refine ⟨rfl, _, p_lay_L hp3 h1.one hSS3 hm3 (fun e => absurd e (by decide)), hO3.setCell (.inl (.inl rfl)) _, fun x hx => ?_⟩
  rcases ho3 x hx with e | e
  · exact .inl e
  · refine .inr (Nat.le_trans ?_ e)
    have := hO2.size
    omega
theorem p_write (p : Nat) (vS vL : Value) (S : List Blk) (L : List (Int × Blk)) (g : Bool) (n : Int) (b : Blk) (w : World) (h : PD w p vS vL S L g) (hL : L.length < 1000000) :
    Calls Tryz.prog 82 #[.pointer (some ⟨p, 0, none⟩), .int .i64 n, blk b] w fun e w' => e = .returned (.int .i64 (ce S g n)) ∧ ∃ vL', PD w' p vS vL' S (wrL S L g n b) g ∧ Only (foot p vS vL) w w' ∧ (∀ x, vL'.ownBlock = some x → vL.ownBlock = some x ∨ w.heap.size ≤ x) := by
  by_cases he : ce S g n = 0
  · rcases dU (S := S) (g := g) (n := n) with h1 | h1 | ⟨_, rfl, k, rfl, hk⟩
    · omega
    · omega
    · have e : wrL S L false k b = L ++ [((k : Int), b)] := by unfold wrL; rw [if_pos he]
      rw [e, he]
      exact p_write_ok p k vS vL S L b w h hk hL
  · have e : wrL S L g n b = L := by unfold wrL; rw [if_neg he]
    rw [e]
    exact (p_write_no p vS vL S L g n b w h he).mono fun e w' ⟨h1, h2⟩ => ⟨h1, vL, h.below h2, Only.of_below _ h2, fun x hx => .inl hx⟩
theorem undW : ∃ d, Tryz.prog.underlying LwE.t = some d ∧ d.isRow = true := ⟨_, Tryz.underlying169, rfl⟩
section
variable {ρ : Operand → Value} {o : Oper} {x y : Operand} {w : World} {b off : Nat} {a : Int × Blk}
theorem exec_loadW (ho : o.op = .load LwE.t x) (hx : ρ x = .pointer (some ⟨b, off, none⟩)) (hc : w.rangeAt b off (dC a)) : (execOp ρ o).run Tryz.prog w = .ok (.value (.agg (dC a).toArray)) w := by
  obtain ⟨d, h1, h2⟩ := undW
  exact exec_loadE (E := LwE) h1 h2 ho hx hc
theorem exec_allocW (ho : o.op = .alloc LwE.t) : (execOp ρ o).run Tryz.prog w = .ok (.value (.pointer (some ⟨w.heap.size, 0, none⟩))) (w.alloc (.cells LwE.z.cells LwE.t)) := exec_allocE (E := LwE) ho
theorem exec_fillW (ho : o.op = .store LwE.t x y) (hx : ρ x = .pointer (some ⟨w.heap.size, 0, none⟩)) (hy : ρ y = .agg (dC a).toArray) : (execOp ρ o).run Tryz.prog (w.alloc (.cells LwE.z.cells LwE.t)) = .ok .skip (w.alloc (.cells (dC a).toArray LwE.t)) := exec_fillE (E := LwE) ho hx hy
end
section
variable {w w' : World} {p gg n c k : Nat} {vL : Value} {S : List Blk} {L : List (Int × Blk)}
theorem PD.setS (h : PD w p (.slice (some ⟨gg, 0, none⟩) n c) vL S L false) (hk : k < n) (x : Blk) : PD (w.setCells gg (k * 64) (cel x)) p (.slice (some ⟨gg, 0, none⟩) n c) vL (S.set k x) L false := by
  have hO : Only (fun b => b = gg) w (w.setCells gg (k * 64) (cel x)) := (Only.refl (fun b => b = gg) w).setCells (.inl rfl) _ _
  refine ⟨?_, by rw [List.length_set]; exact h.one, h.alive.store hk x, h.L_.only hO fun b hb e => ?_, fun e => absurd e (by decide)⟩
  · rw [List.length_set]
    exact hO.keep h.at_ (fun e => h.S_.cq h.at_ (by decide) (by rw [e]; rfl))
  · rcases h.L_.other h.S_ (by decide) with e' | e'
    · rw [e'] at hb; cases hb
    · exact e' (by rw [hb, e]; rfl)
end
theorem p_flush_dead (p : Nat) (vS vL : Value) (S : List Blk) (L : List (Int × Blk)) (w : World) (h : PD w p vS vL S L true) :
    Calls Tryz.prog 165 #[.pointer (some ⟨p, 0, none⟩)] w fun e w' => e = .returned (.int .i64 9) ∧ w = w' := by
  obtain ⟨c0, c1, c2, c3⟩ := cK h.at_
  go_enter Tryz.func165, Tryz.ntmps165
  go_wp2_with fail
  refine (eL p vS vL S L true w h).mono ?_
  rintro e w1 ⟨rfl, rfl⟩
  go_wp2_with fail
  go_ret
  exact ⟨rfl, rfl⟩
set_option maxHeartbeats 2000000 in
theorem p_flush_ok (p : Nat) (vS vL : Value) (S : List Blk) (L : List (Int × Blk)) (w : World) (h : PD w p vS vL S L false) (hF : Fit S L) :
    Calls Tryz.prog 165 #[.pointer (some ⟨p, 0, none⟩)] w fun e w' => e = .returned (.int .i64 0) ∧ PD w' p vS (.slice none 0 0) (flS S L) [] false ∧ Only (foot p vS vL) w w' := by
  obtain ⟨c0, c1, c2, c3⟩ := cK h.at_
  obtain ⟨AL, cL, rfl, hl1, hl2⟩ := h.L_.form
  unfold maxLen at hl2
  have HH := Lib.hid h
  have HF := Lib.hid hF
  clear h hF
  go_enter Tryz.func165, Tryz.ntmps165
  go_wp2_with fail
  refine (eL p vS _ S L false w HH.out).mono ?_
  rintro e w1 ⟨rfl, rfl⟩
  go_wp2_with fail
  clear c0 c1 c2 c3
  go_loopw [4, 17] (fun v4 i wr => ∃ j : Nat, j ≤ L.length ∧ i = .int .i64 j ∧ PD wr p vS (.slice AL L.length cL) (flS S (L.take j)) L false ∧ Only (foot p vS (.slice AL L.length cL)) w wr) (fun _ i _ => L.length - (intOf i).toNat)
  case atStart => exact ⟨0, Nat.zero_le _, rfl, HH.out, Only.refl _ _⟩
  case round =>
    obtain ⟨j, hj, rfl, hr, hon⟩ := hrel
    by_cases hlt : j < L.length
    · obtain ⟨k, hqk, hk⟩ := HF.out.at_ hlt
      have hlenS := fu S (L.take j)
      obtain ⟨gS, cS, rfl⟩ := hr.alive.slice hlenS (by omega)
      obtain ⟨bA, oA, hAe, hAl, rA⟩ := hr.L_.rd.pairs hlt
      have HS := Lib.hid (flS_succ (S := S) hlt)
      rw [hqk] at HS
      generalize hq : L.getD j (0, al) = q at *
      obtain ⟨q1, x⟩ := q
      obtain rfl : q1 = (k : Int) := hqk
      clear hq
      have h1 := hr.below ((Below.refl _ _).alloc (Nat.le_refl _) (.cells (dC ((k : Int), x)).toArray LwE.t))
      have HON := Lib.hid (hon.alloc (.cells (dC ((k : Int), x)).toArray LwE.t))
      have hnw := pair_new wr ((k : Int), x) LwE.t
      have HRA := Lib.hid rA
      subst hAe
      clear rA hr hon
      have hLL : (j : Int) < (L.length : Int) := by omega
      go_wp2_with (first | (refine ai rfl (a8 (E := LwE) rfl rfl rfl hlt) ?_) | (refine ai rfl (exec_loadW rfl rfl HRA.out) ?_) | (refine ai rfl (exec_allocW rfl) ?_) | (refine aF rfl (exec_fillW rfl rfl rfl) ?_) | fail)
      generalize hy : wr.heap.size = y at *
      generalize wr.alloc (.cells (dC ((k : Int), x)).toArray LwE.t) = w1 at *
      obtain ⟨c0, c1, c2, c3⟩ := cK h1.at_
      have HA := Lib.hid c1
      have HN := Lib.hid hnw
      have H1 := Lib.hid h1
      have HKT := Lib.hid (show w1.there gS (k * 64) 64 from by
        have := H1.out.alive.there hk (j := 0) (m := 64) (Nat.le_refl _)
        rw [Nat.add_zero] at this
        exact this)
      clear c0 c1 c2 c3 hnw h1 hlenS
      refine wp_region_still_tail 9 (by kernel_rfl) (by kernel_rfl) ?_
      simp only [List.take_succ_cons, List.take_zero, List.drop_succ_cons, List.drop_zero]
      refine aw rfl (ah rfl (ev rfl)) ?_
      simp only [Act.put, aa, ae, af]
      refine aw rfl (az rfl (ev rfl)) ?_
      simp only [Act.put, aa, ae, af]
      refine aw rfl (ak rfl (ev rfl) faP1) ?_
      simp only [Act.put, aa, ae, af]
      refine aw rfl (av rfl (ev rfl) (ldB HA.out)) ?_
      simp only [Act.put, aa, ae, af]
      refine aw rfl (ak rfl (ev rfl) faV0) ?_
      simp only [Act.put, aa, ae, af]
      refine aw rfl (av rfl (ev rfl) (ldI HN.out.1)) ?_
      simp only [Act.put, aa, ae, af]
      refine aw rfl (ak rfl (ev rfl) faV1) ?_
      simp only [Act.put, aa, ae, af]
      refine aw rfl (aJ rfl (ev rfl) HN.out.2) ?_
      simp only [Act.put, aa, ae, af]
      refine aw rfl (du (E := BlkE) rfl (ev rfl) (ev rfl) hk) ?_
      simp only [Act.put, aa, ae, af]
      refine wpStill_nil ?_
      change wpList _ _ _ _ _ w1.drew
      go_wp2_with (first | (refine aF rfl (aH rfl rfl rfl HKT.out) ?_) | fail)
      go_roundw
      case rel =>
        have hd : PD w1.drew p (.slice (some ⟨gS, 0, none⟩) S.length cS) (.slice (some ⟨bA, oA, none⟩) L.length cL) (flS S (L.take j)) L false := ⟨H1.out.at_, H1.out.one, H1.out.S_, H1.out.L_, H1.out.dead⟩
        exact ⟨j + 1, by omega, by go_num, by rw [HS.out]; exact hd.setS hk x, HON.out.drew.setCells (.inl (.inr (.inl rfl))) _ _⟩
      case measure => simp [intOf]; omega
    · have hjn : j = L.length := by omega
      subst hjn
      obtain ⟨c0, c1, c2, c3⟩ := cK hr.at_
      have f2 := frozen_of_row wr p 2 _ _ hr.at_
      have HRr := Lib.hid hr
      have HON := Lib.hid hon
      clear hr hon
      have hLL : ¬((L.length : Int) < (L.length : Int)) := by omega
      go_wp2_with fail
      go_ret
      have hd := HRr.out.setL (aA.nil _ _) (fun _ => rfl)
      rw [List.take_length] at hd
      exact ⟨rfl, hd, HON.out.setCell (.inl (.inl rfl)) _⟩
section
variable {w : World} {p gg n c k i : Nat} {vL : Value} {S : List Blk} {L : List (Int × Blk)}
theorem PD.setByte (h : PD w p (.slice (some ⟨gg, 0, none⟩) n c) vL S L false) (hk : k < n) (hi : i < 64) (v : UInt8) : PD (w.setCell ⟨gg, k * 64 + i, none⟩ (.int .u8 (v.toNat : Int))) p (.slice (some ⟨gg, 0, none⟩) n c) vL (S.set k ((S.getD k al).set i v)) L false := by
  have hO : Only (fun b => b = gg) w (w.setCell ⟨gg, k * 64 + i, none⟩ (.int .u8 (v.toNat : Int))) := ct w gg _ _
  refine ⟨?_, by rw [List.length_set]; exact h.one, ?_, h.L_.only hO fun b hb e => ?_, fun e => absurd e (by decide)⟩
  · rw [List.length_set]
    exact hO.keep h.at_ (fun e => h.S_.cq h.at_ (by decide) (by rw [e]; rfl))
  · refine h.alive.put hk (j := i) (vs := [.int .u8 (v.toNat : Int)]) ((S.getD k al).set i v) ?_ (by show i + 1 ≤ 64; omega)
    show cel ((S.getD k al).set i v) = (cel (S.getD k al)).take i ++ [_] ++ (cel (S.getD k al)).drop (i + 1)
    rw [← cel_set _ hi, List.set_eq_take_append_cons_drop, if_pos (by rw [ax]; exact hi)]
    simp
  · rcases h.L_.other h.S_ (by decide) with e' | e'
    · rw [e'] at hb; cases hb
    · exact e' (by rw [hb, e]; rfl)
end
set_option maxHeartbeats 2000000 in
theorem p_rot_ok (p k i : Nat) (u : UInt8) (vS vL : Value) (S : List Blk) (L : List (Int × Blk)) (w : World) (h : PD w p vS vL S L false) (hk : k < S.length) (hi : i < 64) :
    Calls Tryz.prog 100 #[.pointer (some ⟨p, 0, none⟩), .int .i64 k, .int .i64 i, .int .u8 (u.toNat : Int)] w fun e w' => e = .returned (.int .i64 0) ∧ PD w' p vS vL (S.set k (rotB (S.getD k al) i u)) L false ∧ Only (foot p vS vL) w w' := by
  obtain ⟨c0, c1, c2, c3⟩ := cK h.at_
  obtain ⟨gS, cS, rfl⟩ := h.alive.slice rfl (by omega)
  obtain ⟨bS, oS, hSe, hSl, rS⟩ := h.alive.rd.blk hk
  injection hSe with hSe
  injection hSe with e1 e2
  subst e1 e2
  obtain ⟨y, hy⟩ : ∃ y, S.getD k al = y := ⟨_, rfl⟩
  have HY := Lib.hid hy
  rw [hy] at rS
  have hc := rS i _ (dX _ hi)
  rw [Nat.zero_add, eR _ hi] at hc
  have HD := Lib.hid (decide_eq_true (p := 0 ≤ (k : Int) ∧ (k : Int) < S.length) (by omega))
  have hil : (i : Int) < 64 := by omega
  have HT := Lib.hid (show w.there gS (k * 64 + i) 1 from h.alive.there hk (j := i) (m := 1) (by show i + 1 ≤ 64; omega))
  have hf : w.frozen? ⟨gS, k * 64 + i, none⟩ = false := by have := (HT.out 0 (by omega)).2; simpa using this
  have HH := Lib.hid h
  have HA := Lib.hid c1
  have HR : rotB (S.getD k al) i u = y.set i (y[i] ^^^ u) := by rw [hy]; unfold rotB; rw [dif_pos hi]
  have HRR := Lib.hid HR
  have HC := Lib.hid hc
  clear HR rS hy h
  go_enter Tryz.func100, Tryz.ntmps100
  go_wp2_with fail
  refine (eL p _ vL S L false w HH.out).mono ?_
  rintro e w1 ⟨rfl, rfl⟩
  go_wp2_with fail
  refine (p_has p _ vL S L false k w HH.out).mono ?_
  rintro e w1 ⟨rfl, rfl⟩
  rw [HD.out]
  go_wp2_with fail
  refine wp_region_still_tail 13 (by kernel_rfl) (by kernel_rfl) ?_
  simp only [List.take_succ_cons, List.take_zero, List.drop_succ_cons, List.drop_zero]
  refine aw rfl (ah rfl (ev rfl)) ?_
  simp only [Act.put, aa, ae, af]
  refine aw rfl (az rfl (ev rfl)) ?_
  simp only [Act.put, aa, ae, af]
  refine aw rfl (ak rfl (ev rfl) faP1) ?_
  simp only [Act.put, aa, ae, af]
  refine aw rfl (av rfl (ev rfl) (ldB HA.out)) ?_
  simp only [Act.put, aa, ae, af]
  refine aw rfl (ah rfl (ev rfl)) ?_
  simp only [Act.put, aa, ae, af]
  refine aw rfl (ah rfl (ev rfl)) ?_
  simp only [Act.put, aa, ae, af]
  refine aw rfl (fx rfl (ev rfl) (ev rfl) hk) ?_
  simp only [Act.put, aa, ae, af]
  refine aw rfl (dS rfl (ev rfl) (ev rfl) (run_ixB hi)) ?_
  simp only [Act.put, aa, ae, af]
  refine aw rfl (av rfl (ev rfl) (ldU HC.out)) ?_
  simp only [Act.put, aa, ae, af]
  refine aw rfl (ah rfl (ev rfl)) ?_
  simp only [Act.put, aa, ae, af]
  refine aw rfl (exec_xor8 rfl (ev rfl) (ev rfl)) ?_
  simp only [Act.put, aa, ae, af]
  refine aw rfl (fx rfl (ev rfl) (ev rfl) hk) ?_
  simp only [Act.put, aa, ae, af]
  refine aw rfl (dS rfl (ev rfl) (ev rfl) (run_ixB hi)) ?_
  simp only [Act.put, aa, ae, af]
  refine wpStill_nil ?_
  change wpList _ _ _ _ _ w.drew
  have hcd : w.drew.cell? ⟨gS, k * 64 + i, none⟩ = some (.int .u8 (y[i].toNat : Int)) := HC.out
  have hfd : w.drew.frozen? ⟨gS, k * 64 + i, none⟩ = false := hf
  go_wp2_with fail
  go_ret
  refine ⟨rfl, ?_, (Only.refl _ w).drew.setCell (.inl (.inr (.inl rfl))) _⟩
  rw [HRR.out]
  have hset := HH.out.setByte hk hi (y[i] ^^^ u)
  rw [HY.out] at hset
  simp only [UInt8.toNat_xor] at hset
  exact ⟨hset.at_, hset.one, hset.S_, hset.L_, hset.dead⟩
set_option maxHeartbeats 1000000 in
theorem p_rot_no (p : Nat) (n i : Int) (u : UInt8) (vS vL : Value) (S : List Blk) (L : List (Int × Blk)) (g : Bool) (w : World) (h : PD w p vS vL S L g) (he : rotE S g n i ≠ 0) :
    Calls Tryz.prog 100 #[.pointer (some ⟨p, 0, none⟩), .int .i64 n, .int .i64 i, .int .u8 (u.toNat : Int)] w fun e w' => e = .returned (.int .i64 (rotE S g n i)) ∧ w = w' := by
  obtain ⟨c0, c1, c2, c3⟩ := cK h.at_
  by_cases hn : 0 ≤ n ∧ n < S.length
  · have HD := Lib.hid (decide_eq_true hn)
    have hor : i < 0 ∨ (0 ≤ i ∧ 64 ≤ i) ∨ (0 ≤ i ∧ i < 64) := by omega
    rcases hor with h1 | ⟨h1, h2⟩ | ⟨h1, h2⟩
    rotate_right 1
    · cases g
      · exact absurd (show rotE S false n i = 0 by unfold rotE; rw [if_pos ⟨hn.1, hn.2, h1, h2⟩]; rfl) he
      · have HE := Lib.hid (show rotE S true n i = 9 by unfold rotE; rw [if_pos ⟨hn.1, hn.2, h1, h2⟩]; rfl)
        clear he hn
        go_enter Tryz.func100, Tryz.ntmps100
        go_wp2_with fail
        refine (eL p vS vL S L true w h).mono ?_
        rintro e w1 ⟨rfl, rfl⟩
        go_wp2_with fail
        refine (p_has p vS vL S L true n w h).mono ?_
        rintro e w1 ⟨rfl, rfl⟩
        rw [HD.out]
        go_wp2_with fail
        go_ret
        exact ⟨aQ HE.out.symm, rfl⟩
    all_goals
      have HE := Lib.hid (show rotE S g n i = 2 by unfold rotE; rw [if_neg (by omega)])
      clear he hn
      go_enter Tryz.func100, Tryz.ntmps100
      go_wp2_with fail
      refine (eL p vS vL S L g w h).mono ?_
      rintro e w1 ⟨rfl, rfl⟩
      go_wp2_with fail
      refine (p_has p vS vL S L g n w h).mono ?_
      rintro e w1 ⟨rfl, rfl⟩
      rw [HD.out]
      go_wp2_with fail
      go_ret
      exact ⟨aQ HE.out.symm, rfl⟩
  · have HD := Lib.hid (decide_eq_false hn)
    have HE := Lib.hid (show rotE S g n i = 2 by unfold rotE; rw [if_neg (by omega)])
    clear he hn
    go_enter Tryz.func100, Tryz.ntmps100
    go_wp2_with fail
    refine (eL p vS vL S L g w h).mono ?_
    rintro e w1 ⟨rfl, rfl⟩
    go_wp2_with fail
    refine (p_has p vS vL S L g n w h).mono ?_
    rintro e w1 ⟨rfl, rfl⟩
    rw [HD.out]
    go_wp2_with fail
    go_ret
    exact ⟨aQ HE.out.symm, rfl⟩
theorem p_rot (p : Nat) (n i : Int) (u : UInt8) (vS vL : Value) (S : List Blk) (L : List (Int × Blk)) (g : Bool) (w : World) (h : PD w p vS vL S L g) :
    Calls Tryz.prog 100 #[.pointer (some ⟨p, 0, none⟩), .int .i64 n, .int .i64 i, .int .u8 (u.toNat : Int)] w fun e w' => e = .returned (.int .i64 (rotE S g n i)) ∧ PD w' p vS vL (rotS S g n i u) L g ∧ Only (foot p vS vL) w w' := by
  by_cases he : rotE S g n i = 0
  · have hin : 0 ≤ n ∧ n < S.length ∧ 0 ≤ i ∧ i < 64 := by
      by_cases h0 : 0 ≤ n ∧ n < S.length ∧ 0 ≤ i ∧ i < 64
      · exact h0
      · unfold rotE at he; rw [if_neg h0] at he; omega
    have hg : g = false := by
      cases g
      · rfl
      · unfold rotE at he; rw [if_pos hin] at he; simp at he
    subst hg
    obtain ⟨k, rfl⟩ := Int.eq_ofNat_of_zero_le hin.1
    obtain ⟨j, rfl⟩ := Int.eq_ofNat_of_zero_le hin.2.2.1
    have e : rotS S false k j u = S.set k (rotB (S.getD k al) j u) := by unfold rotS; rw [if_pos he]; rfl
    rw [e, he]
    exact p_rot_ok p k j u vS vL S L w h (by omega) (by omega)
  · have e : rotS S g n i u = S := by unfold rotS; rw [if_neg he]
    rw [e]
    exact (p_rot_no p n i u vS vL S L g w h he).mono fun e w' ⟨h1, h2⟩ => by subst h2; exact ⟨h1, h, Only.refl _ _⟩
set_option maxHeartbeats 1000000 in
theorem p_new_ok (k : Nat) (w : World) (h1 : 1 ≤ k) (h2 : k ≤ 512) :
    Calls Tryz.prog 103 #[.int .i64 k] w fun e w' => ∃ p vS, e = .returned (.tuple #[.pointer (some ⟨p, 0, none⟩), .int .i64 0]) ∧ PD w' p vS (.slice none 0 0) (List.replicate k al) [] false ∧ Below w.heap.size w w' ∧ ∀ b, foot p vS (.slice none 0 0) b → w.heap.size ≤ b := by
  go_enter Tryz.func103, Tryz.ntmps103
  have HM := Lib.hid (heap_alloc_new w (.cells (madeCells (cel al).toArray (k * 64)) 65))
  have HB := Lib.hid ((Below.refl w.heap.size w).alloc (Nat.le_refl _) (.cells (madeCells (cel al).toArray (k * 64)) 65))
  have HSZ := Lib.hid (World.size_alloc w (.cells (madeCells (cel al).toArray (k * 64)) 65))
  go_wp2_with (first | (refine ai rfl (exec_make (n := k) rfl rfl rfl (by omega)) ?_) | fail)
  generalize w.alloc (.cells (madeCells (cel al).toArray (k * 64)) 65) = w1 at *
  go_ret2
  have hS : aA BlkE w1 0 (.slice (some ⟨w.heap.size, 0, none⟩) k k) (List.replicate k al) := aA.of_block (E := BlkE) HM.out (by rw [← flat_zeros]; rfl) (Nat.zero_le _) (by simp) (by unfold maxLen; omega)
  have hnw := heap_alloc_new w1 (.cells #[.int .i64 (k : Int), .slice (some ⟨w.heap.size, 0, none⟩) k k, .slice none 0 0, .bool false] 167)
  rw [HSZ.out] at hnw
  refine ⟨w.heap.size + 1, _, rfl, ⟨by rw [List.length_replicate]; exact hnw, by simpa using h1, hS.below ((Below.refl _ _).alloc (Nat.le_refl _) _), aA.nil _ _, fun e => absurd e (by decide)⟩, HB.out.alloc HB.out.size _, fun b hb => ?_⟩
  rcases hb with rfl | hb | hb
  · omega
  · simp [Value.ownBlock] at hb; omega
  · simp [Value.ownBlock] at hb
theorem p_new_no (n : Int) (w : World) (h : ¬(1 ≤ n ∧ n ≤ 512)) :
    Calls Tryz.prog 103 #[.int .i64 n] w fun e w' => e = .returned (.tuple #[.pointer none, .int .i64 2]) ∧ w = w' := by
  have hor : n < 1 ∨ (1 ≤ n ∧ 512 < n) := by omega
  clear h
  rcases hor with h | ⟨h, h'⟩
  all_goals
    go_enter Tryz.func103, Tryz.ntmps103
    go_wp2
    go_ret2
    exact ⟨rfl, rfl⟩
section
variable {o : Oper} {a : Act} {x y : Operand} {w : World} {u v c : Int}
theorem exec_min {t1 t2 : TypeId} (ho : o.op = .call { callee := .builtin .min, args := #[x, y], argTypes := #[t1, t2] }) (hx : a.eval x = .int .i64 u) (hy : a.eval y = .int .i64 v) (h : (if v < u then v else u) = c) : (execOp a.eval o).run Tryz.prog w = .ok (.value (.int .i64 c)) w := by
  subst h
  have hrun := run_min_int2 (P := Tryz.prog) (w := w) #[t1, t2] o.type .i64 .i64 u v
  simp [execOp, ho, resolve, invoke, builtin, hx, hy, hrun, Result.andThen]
theorem exec_max {t1 t2 : TypeId} (ho : o.op = .call { callee := .builtin .max, args := #[x, y], argTypes := #[t1, t2] }) (hx : a.eval x = .int .i64 u) (hy : a.eval y = .int .i64 v) (h : (if v > u then v else u) = c) : (execOp a.eval o).run Tryz.prog w = .ok (.value (.int .i64 c)) w := by
  subst h
  have hrun : (Builtin.max_ #[t1, t2] o.type #[.int .i64 u, .int .i64 v]).run Tryz.prog w = .ok (.int .i64 (if v > u then v else u)) w := by simp [Builtin.max_, Builtin.max2]
  simp [execOp, ho, resolve, invoke, builtin, hx, hy, hrun, Result.andThen]
end
def cutA (A : Option Addr) (c : Nat) : Option Addr := if c = 0 then A else A.map (·.add 0)
theorem cutA_some (b off c : Nat) : cutA (some ⟨b, off, none⟩) c = some ⟨b, off, none⟩ := by
  unfold cutA
  split
  · rfl
  · simp [add_mid]
section
variable {ρ : Operand → Value} {o : Oper} {x y : Operand} {w : World} {A : Option Addr} {n c t b off : Nat}
theorem run_cutI (h : t ≤ c) : (Instr.sliceAt 36 (.slice A n c) none (some (.int .i64 (t : Int))) none).run Tryz.prog w = .ok (.slice (cutA A c) t c) w := by
  simp [Instr.sliceAt, Instr.slice, Instr.sliceBounds, Instr.sliceBound, asIntOf, run_underlying Tryz.underlying36, cutA]
  intro hh; omega
theorem exec_cutI (ho : o.op = .slice 36 x none (some y) none) (hx : ρ x = .slice A n c) (hy : ρ y = .int .i64 (t : Int)) (h : t ≤ c) : (execOp ρ o).run Tryz.prog w = .ok (.value (.slice (cutA A c) t c)) w := by
  have h1 := run_cutI (A := A) (n := n) (w := w) h
  unfold execOp
  simp only [ho, hx, hy, Option.map_some, Option.map_none, Sem.run_bind, h1, Result.andThen_ok, Sem.run_pure]
theorem exec_ixI {j : Nat} (ho : o.op = .indexAddr dq.s x y) (hx : ρ x = .slice (some ⟨b, off, none⟩) n c) (hy : ρ y = .int .i64 (j : Int)) (hj : j < n) : (execOp ρ o).run Tryz.prog w = .ok (.value (.pointer (some ⟨b, off + j, none⟩))) w := by
  have h := a8 (E := dq) (w := w) ho hx hy hj
  rwa [show dq.n = 1 from rfl, Nat.mul_one] at h
theorem run_cutB (h : t ≤ 64) : (Instr.sliceAt 65 (.pointer (some ⟨b, off, none⟩)) none (some (.int .i64 (t : Int))) none).run Tryz.prog w = .ok (.slice (some ⟨b, off, none⟩) t 64) w := by
  simp [Instr.sliceAt, Instr.sliceBounds, Instr.sliceBound, Instr.sureAddr, asIntOf, run_underlying undB, Tryz.sizeOf5, add_mid]
  intro hh; omega
theorem exec_cutB (ho : o.op = .slice 65 x none (some y) none) (hx : ρ x = .pointer (some ⟨b, off, none⟩)) (hy : ρ y = .int .i64 (t : Int)) (h : t ≤ 64) : (execOp ρ o).run Tryz.prog w = .ok (.value (.slice (some ⟨b, off, none⟩) t 64)) w := by
  have h1 := run_cutB (b := b) (off := off) (w := w) h
  unfold execOp
  simp only [ho, hx, hy, Option.map_some, Option.map_none, Sem.run_bind, h1, Result.andThen_ok, Sem.run_pure]
end
theorem run_copyS {w : World} {dT sT ty elem : TypeId} {g off n c m c' : Nat} {ad : Addr} {cs : List Value} (hu : Tryz.prog.underlying dT = some (.slice elem)) (hs : (Tryz.prog.info? elem).map (·.size) = some 1)
    (hn : cs.length = Nat.min m n) (hsrc : ∀ j v, cs[j]? = some v → w.cell? (ad.add j) = some v) (ht : w.there g off cs.length) (h1 : ∀ v ∈ cs, v.oneCell' = true) :
    (Builtin.copy_ #[dT, sT] ty #[.slice (some ⟨g, off, none⟩) n c, .slice (some ad) m c']).run Tryz.prog w = .ok (goInt cs.length) (w.setCells g off cs) := by
  have hl := run_loadCells_list (P := Tryz.prog) w ad cs hsrc
  have hst := run_storeCells_cells (P := Tryz.prog) g off cs 0 w (fun j hj => (ht j hj).1) (fun j hj => (ht j hj).2) h1
  rw [Nat.add_zero] at hst
  cases hq : Tryz.prog.info? elem with
  | none => simp [hq] at hs
  | some i =>
    have hi : i.size = 1 := by simpa [hq] using hs
    simp [Builtin.copy_, run_underlying hu, Builtin.lenOf, Builtin.firstCells, sizeOf, typeInfo, hq, hi, ← hn, hl, hst]
theorem exec_copyS {o : Oper} {a : Act} {x y : Operand} {w : World} {g off n c m c' : Nat} {ad : Addr} {cs : List Value} (ho : o.op = .call { callee := .builtin .copy, args := #[x, y], argTypes := #[160, 160] })
    (hx : a.eval x = .slice (some ⟨g, off, none⟩) n c) (hy : a.eval y = .slice (some ad) m c') (hn : cs.length = Nat.min m n) (hsrc : ∀ j v, cs[j]? = some v → w.cell? (ad.add j) = some v) (ht : w.there g off cs.length) (h1 : ∀ v ∈ cs, v.oneCell' = true) :
    (execOp a.eval o).run Tryz.prog w = .ok (.value (goInt cs.length)) (w.setCells g off cs) := by
  have hrun := run_copyS (w := w) (dT := 160) (sT := 160) (ty := o.type) (c := c) (c' := c') Tryz.underlying160 (by kernel_rfl) hn hsrc ht h1
  simp [execOp, ho, resolve, invoke, builtin, hx, hy, hrun, Result.andThen]
def kp (z : Int) : Nat := (min (max z 0) 64).toNat
theorem kp_le (z : Int) : kp z ≤ 64 := by unfold kp; omega
theorem kp_is (z : Int) : (if (64 : Int) < max z 0 then (64 : Int) else max z 0) = (kp z : Int) := by
  unfold kp
  split <;> omega
theorem kp_max (z : Int) : (if (0 : Int) > z then (0 : Int) else z) = max z 0 := by split <;> omega
theorem torn_cel (y x : Blk) (z : Int) : cel (torn y x z) = (cel y).take 0 ++ (cel x).take (kp z) ++ (cel y).drop (0 + ((cel x).take (kp z)).length) := by
  have hk := kp_le z
  apply List.ext_getElem?
  intro j
  by_cases hj : j < 64
  · rw [dX _ hj, dY _ _ _ hj, List.take_zero, List.nil_append, List.length_take, ax, Nat.min_eq_left hk, Nat.zero_add]
    by_cases h : j < kp z
    · rw [List.getElem?_append_left (by rw [List.length_take, ax]; omega), List.getElem?_take_of_lt h, dX _ hj, if_pos (by unfold kp at h; omega)]
    · rw [List.getElem?_append_right (by rw [List.length_take, ax]; omega), List.length_take, ax, Nat.min_eq_left hk, List.getElem?_drop, show kp z + (j - kp z) = j from by omega, dX _ hj, if_neg (by unfold kp at h; omega)]
  · rw [List.getElem?_eq_none (by rw [ax]; omega), List.getElem?_eq_none]
    simp only [List.length_append, List.length_take, List.length_drop, ax]
    omega
section
variable {w w' : World} {p gg n c k : Nat} {vL : Value} {S : List Blk} {L : List (Int × Blk)}
theorem PD.putS (h : PD w p (.slice (some ⟨gg, 0, none⟩) n c) vL S L false) (hk : k < n) {vs : List Value} (a : Blk) (ha : cel a = (cel (S.getD k al)).take 0 ++ vs ++ (cel (S.getD k al)).drop (0 + vs.length)) (hj : 0 + vs.length ≤ 64) : PD (w.setCells gg (k * 64) vs) p (.slice (some ⟨gg, 0, none⟩) n c) vL (S.set k a) L false := by
  have hO : Only (fun b => b = gg) w (w.setCells gg (k * 64) vs) := (Only.refl (fun b => b = gg) w).setCells (.inl rfl) _ _
  refine ⟨?_, by rw [List.length_set]; exact h.one, h.alive.put hk (j := 0) a ha hj, h.L_.only hO fun b hb e => ?_, fun e => absurd e (by decide)⟩
  · rw [List.length_set]
    exact hO.keep h.at_ (fun e => h.S_.cq h.at_ (by decide) (by rw [e]; rfl))
  · rcases h.L_.other h.S_ (by decide) with e' | e'
    · rw [e'] at hb; cases hb
    · exact e' (by rw [hb, e]; rfl)
end
theorem set_getD (S : List Blk) (k : Nat) : S.set k (S.getD k al) = S := by
  apply List.ext_getElem?
  intro j
  rw [List.getElem?_set]
  split
  · rename_i h
    subst h
    split
    · rename_i h; rw [List.getD, List.getElem?_eq_getElem h]; rfl
    · rename_i h; rw [List.getElem?_eq_none (by omega)]
  · rfl
theorem torn_zero (y x : Blk) : torn y x 0 = y := Vector.ext fun i h => by rw [torn_get _ _ _ _ h, if_neg (by omega)]
theorem crI_rest (S : List Blk) (L : List (Int × Blk)) (P : List Int) (i d : Nat) (h : P.length ≤ i) : crI S L P (i + d) = crI S L P i := by
  induction d with
  | zero => rfl
  | succ d ih =>
    have hz : P.getD (i + d) 0 = 0 := by rw [List.getD, List.getElem?_eq_none (by omega)]; rfl
    show crI S L P ((i + d) + 1) = _
    rw [crI, hz, torn_zero, set_getD, ih]
set_option maxRecDepth 100000 in
set_option maxHeartbeats 4000000 in
theorem p_crash (p : Nat) (vS vL : Value) (S : List Blk) (L : List (Int × Blk)) (g : Bool) (A : Option Addr) (n c : Nat) (P : List Int) (w : World) (h : PD w p vS vL S L g) (hF : Fit S L) (hP : RdE dq w w.heap.size A n P) (hc1 : n ≤ c) (hc2 : c ≤ maxLen) (hN : ∀ x, A = some x → 0 < n → ¬ foot p vS vL x.block) :
    Calls Tryz.prog 69 #[.pointer (some ⟨p, 0, none⟩), .slice A n c] w fun e w' => e = .returned (.tuple #[.int .i64 ((min L.length n : Nat) : Int), .int .i64 0]) ∧ PD w' p vS (.slice none 0 0) (crI S L P L.length) [] g ∧ Only (foot p vS vL) w w' := by
  obtain ⟨c0, c1, c2, c3⟩ := cK h.at_
  obtain ⟨AL, cL, rfl, hl1, hl2⟩ := h.L_.form
  unfold maxLen at hl2 hc2
  obtain ⟨T, hT⟩ : ∃ T, min L.length n = T := ⟨_, rfl⟩
  have hTn : T ≤ n := by omega
  have hTL : T ≤ L.length := by omega
  have hTc : T ≤ c := by omega
  have hmin : (if (L.length : Int) < (n : Int) then (L.length : Int) else (n : Int)) = (T : Int) := by split <;> omega
  have HT := Lib.hid hT
  have HMIN := Lib.hid hmin
  have HH := Lib.hid h
  have HF := Lib.hid hF
  have HP := Lib.hid hP
  have HN := Lib.hid hN
  have HPL := Lib.hid hP.1
  rw [hT]
  clear h hF hP hN hT hmin
  go_enter Tryz.func69, Tryz.ntmps69
  go_wp2_with fail
  refine (eL p vS _ S L g w HH.out).mono ?_
  rintro e w1 ⟨rfl, rfl⟩
  go_wp2_with (first | (refine ai rfl (exec_min rfl rfl rfl HMIN.out) ?_) | (refine ai rfl (exec_cutI rfl rfl rfl hTc) ?_) | fail)
  clear c0 c1 c2 c3
  obtain ⟨A', hA'⟩ : ∃ A', cutA A c = A' := ⟨_, rfl⟩
  have HA' := Lib.hid hA'
  rw [hA']
  clear hA'
  go_loopw [7, 8, 9, 10, 26] (fun v7 v8 v9 v10 i wr => ∃ j : Nat, j ≤ T ∧ i = .int .i64 j ∧ PD wr p vS (.slice AL L.length cL) (crI S L P j) L g ∧ Only (foot p vS (.slice AL L.length cL)) w wr) (fun _ _ _ _ i _ => T - (intOf i).toNat)
  case atStart => exact ⟨0, Nat.zero_le _, rfl, HH.out, Only.refl _ _⟩
  case round =>
    obtain ⟨j, hj, rfl, hr, hon⟩ := hrel
    have HB := Lib.hid (HP.out.only hon (Nat.le_refl _) HN.out)
    by_cases hlt : j < T
    · have hjL : j < L.length := by omega
      have hjn : j < n := by omega
      obtain rfl : g = false := by
        cases g
        · rfl
        · have := hr.dead rfl
          subst this
          simp at hjL
      obtain ⟨k, hqk, hk⟩ := HF.out.at_ hjL
      have hlenS := crI_len S L P j
      have hstep : crI S L P (j + 1) = (crI S L P j).set k (torn ((crI S L P j).getD k al) (L.getD j (0, al)).2 (P.getD j 0)) := by rw [crI, hqk]; rfl
      obtain ⟨gS, cS, rfl⟩ := hr.alive.slice hlenS (by omega)
      obtain ⟨bA, oA, hAe, hAl, rA⟩ := hr.L_.rd.pairs hjL
      obtain ⟨bP, oP, hPe, _, cP⟩ := HB.out.int hjn
      have hA2 : A' = some ⟨bP, oP, none⟩ := by have := HA'.out; rw [hPe, cutA_some] at this; exact this.symm
      generalize hq : L.getD j (0, al) = q at *
      obtain ⟨q1, x⟩ := q
      obtain rfl : q1 = (k : Int) := hqk
      generalize P.getD j 0 = z at *
      have h1 := hr.below ((Below.refl _ _).alloc (Nat.le_refl _) (.cells (dC ((k : Int), x)).toArray LwE.t))
      have HON := Lib.hid (hon.alloc (.cells (dC ((k : Int), x)).toArray LwE.t))
      have hnw := pair_new wr ((k : Int), x) LwE.t
      obtain ⟨c0, c1, c2, c3⟩ := cK hr.at_
      have HRA := Lib.hid rA
      have HST := Lib.hid hstep
      have HKM := Lib.hid (kp_max z)
      have HKI := Lib.hid (kp_is z)
      have HKL := Lib.hid (kp_le z)
      have HTC := Lib.hid (fun y : Blk => torn_cel y x z)
      subst hAe
      subst hA2
      clear rA hr hon hq hstep HA' hPe
      have hLL : (j : Int) < (T : Int) := by omega
      go_wp2_with (first | (refine ai rfl (exec_ixI rfl rfl rfl hlt) ?_) | (refine ai rfl (a8 (E := LwE) rfl rfl rfl hjL) ?_) | (refine ai rfl (exec_loadW rfl rfl HRA.out) ?_) | (refine ai rfl (exec_allocW rfl) ?_) | (refine aF rfl (exec_fillW rfl rfl rfl) ?_) | (refine ai rfl (exec_max rfl rfl rfl HKM.out) ?_) | (refine ai rfl (exec_min rfl rfl rfl HKI.out) ?_) | fail)
      generalize hy : wr.heap.size = y at *
      generalize wr.alloc (.cells (dC ((k : Int), x)).toArray LwE.t) = w1 at *
      clear c0 c1 c2 c3
      obtain ⟨c0, c1, c2, c3⟩ := cK h1.at_
      have HA := Lib.hid c1
      have HNW := Lib.hid hnw
      have H1 := Lib.hid h1
      have hlen : ((cel x).take (kp z)).length = kp z := by rw [List.length_take, ax]; have := HKL.out; omega
      have HLEN := Lib.hid hlen
      have HKT := Lib.hid (show w1.there gS (k * 64) ((cel x).take (kp z)).length from by
        have := H1.out.alive.there hk (j := 0) (m := ((cel x).take (kp z)).length) (by rw [hlen]; have := HKL.out; show 0 + _ ≤ 64; omega)
        rw [Nat.add_zero] at this
        exact this)
      have HSRC := Lib.hid (show ∀ m v, ((cel x).take (kp z))[m]? = some v → w1.cell? ((⟨y, 1, none⟩ : Addr).add m) = some v from fun m v hm => by
        rw [add_mid]
        have hm2 : m < kp z := by have := (List.getElem?_eq_some_iff.1 hm).1; rwa [hlen] at this
        rw [List.getElem?_take_of_lt hm2] at hm
        exact HNW.out.2 m v hm)
      have HONE := Lib.hid (show ∀ v ∈ (cel x).take (kp z), v.oneCell' = true from fun v hv => cel_one x v (List.mem_of_mem_take hv))
      clear c0 c1 c2 c3 hnw h1 hlenS hlen
      refine wp_region_still_tail 12 (by kernel_rfl) (by kernel_rfl) ?_
      simp only [List.take_succ_cons, List.take_zero, List.drop_succ_cons, List.drop_zero]
      refine aw rfl (ah rfl (ev rfl)) ?_
      simp only [Act.put, aa, ae, af]
      refine aw rfl (az rfl (ev rfl)) ?_
      simp only [Act.put, aa, ae, af]
      refine aw rfl (ak rfl (ev rfl) faP1) ?_
      simp only [Act.put, aa, ae, af]
      refine aw rfl (av rfl (ev rfl) (ldB HA.out)) ?_
      simp only [Act.put, aa, ae, af]
      refine aw rfl (ak rfl (ev rfl) faV0) ?_
      simp only [Act.put, aa, ae, af]
      refine aw rfl (av rfl (ev rfl) (ldI HNW.out.1)) ?_
      simp only [Act.put, aa, ae, af]
      refine aw rfl (fx rfl (ev rfl) (ev rfl) hk) ?_
      simp only [Act.put, aa, ae, af]
      refine aw rfl (ah rfl (ev rfl)) ?_
      simp only [Act.put, aa, ae, af]
      refine aw rfl (exec_cutB rfl (ev rfl) (ev rfl) HKL.out) ?_
      simp only [Act.put, aa, ae, af]
      refine aw rfl (ak rfl (ev rfl) faV1) ?_
      simp only [Act.put, aa, ae, af]
      refine aw rfl (ah rfl (ev rfl)) ?_
      simp only [Act.put, aa, ae, af]
      refine aw rfl (exec_cutB rfl (ev rfl) (ev rfl) HKL.out) ?_
      simp only [Act.put, aa, ae, af]
      refine wpStill_nil ?_
      change wpList _ _ _ _ _ w1.drew
      refine ai rfl (exec_copyS (cs := (cel x).take (kp z)) rfl (ev rfl) (ev rfl) (by rw [HLEN.out]; exact (Nat.min_self _).symm) HSRC.out HKT.out HONE.out) ?_
      simp only [Act.put, aa, ae, af]
      go_wp2_with fail
      go_roundw
      case rel =>
        have hd : PD w1.drew p (.slice (some ⟨gS, 0, none⟩) S.length cS) (.slice (some ⟨bA, oA, none⟩) L.length cL) (crI S L P j) L false := ⟨H1.out.at_, H1.out.one, H1.out.S_, H1.out.L_, H1.out.dead⟩
        exact ⟨j + 1, by omega, by go_num, by rw [HST.out]; exact hd.putS hk _ (HTC.out _) (by rw [HLEN.out]; have := HKL.out; omega), HON.out.drew.setCells (.inl (.inr (.inl rfl))) _ _⟩
      case measure => simp [intOf]; omega
    · have hjn : j = T := by omega
      subst hjn
      obtain ⟨c0, c1, c2, c3⟩ := cK hr.at_
      have f2 := frozen_of_row wr p 2 _ _ hr.at_
      have HRr := Lib.hid hr
      have HON := Lib.hid hon
      clear hr hon
      have hLL : ¬((j : Int) < (j : Int)) := by omega
      go_wp2_with fail
      go_ret2
      have hd := HRr.out.setL (aA.nil _ _) (fun _ => rfl)
      have hcr : crI S L P L.length = crI S L P j := by
        rcases Nat.lt_or_ge j L.length with e | e
        · have e2 : L.length = j + (L.length - j) := by omega
          rw [e2]
          exact crI_rest S L P j _ (by have := HPL.out; have := HT.out; omega)
        · have e2 : j = L.length := by omega
          rw [← e2]
      rw [hcr]
      exact ⟨rfl, hd, HON.out.setCell (.inl (.inl rfl)) _⟩
def noDefer (o : Oper) : Bool := match o.op with
  | .defer _ => false
  | _ => true
theorem noDefer_spec {o : Oper} (h : noDefer o = true) : ∀ c, o.op ≠ .defer c := by
  intro c e
  unfold noDefer at h
  rw [e] at h
  cases h
section
variable {F : Fence} {n : Nat} {P : Program} {ops : Array Oper} {rest : List Oper} {o : Oper} {a : Act} {w w' : World} {Q : Exit → Act → World → Prop} {v : Value}
theorem dh (hg : o.guard = none) (hd : noDefer o = true) (ha : o.about P w a.eval = none) (h : (execOp a.eval o).run P w = .ok (.value v) w') (hr : wpListIn F n P ops Q rest (a.put o.dst v) w') : wpListIn F n P ops Q (o :: rest) a w := by
  refine wpListIn_plain hg fun K hK => ?_
  unfold Oper.wpIn
  refine ⟨fun f hf => (by rw [ha] at hf; cases hf), ?_⟩
  rw [Oper.semAt_plain F _ _ (noDefer_spec hd), h]
  exact hK _ _ hr
theorem wpListIn_nul (hg : o.guard = none) (hd : noDefer o = true) (ha : o.about P w a.eval = none) (h : (execOp a.eval o).run P w = .ok .skip w') (hr : wpListIn F n P ops Q rest (a.put o.dst undef) w') : wpListIn F n P ops Q (o :: rest) a w := by
  refine wpListIn_plain hg fun K hK => ?_
  unfold Oper.wpIn
  refine ⟨fun f hf => (by rw [ha] at hf; cases hf), ?_⟩
  rw [Oper.semAt_plain F _ _ (noDefer_spec hd), h]
  exact hK _ _ hr
end
open Go.RowKit Go.Shelf
attribute [local go_sem] Oper.semAt_some
def cmd (L : List (Int × Blk)) : Nat → List (Nat × (Int × Blk))
  | 0 => []
  | d + 1 => cmd L d ++ [(L.length - 1 - d, L.getD (L.length - 1 - d) (0, al))]
theorem cmd_len (L : List (Int × Blk)) (d : Nat) : (cmd L d).length = d := by
  induction d with
  | zero => rfl
  | succ d ih => rw [cmd, List.length_append, ih]; rfl
theorem cmd_mem (L : List (Int × Blk)) (d i : Nat) (h1 : L.length - d ≤ i) (h2 : i < L.length) : (i, L.getD i (0, al)) ∈ cmd L d := by
  induction d with
  | zero => omega
  | succ d ih =>
    rw [cmd]
    by_cases e : L.length - d ≤ i
    · exact List.mem_append.2 (.inl (ih e))
    · have : i = L.length - 1 - d := by omega
      subst this
      exact List.mem_append.2 (.inr (by simp))
def encW (x : Nat × (Int × Blk)) : Array Value := #[.int .i64 (x.1 : Int), .agg (dC x.2).toArray]
set_option maxHeartbeats 1000000 in
theorem backward_in (F : Fence) (n : Nat) (h : F.fn 195) (hro : F.round = none) (a : Option Addr) (len cap : Nat) (w : World) :
    CallsIn F n Tryz.prog 195 #[.slice a len cap] w fun e w' => e = .returned (.func (.func 202) #[] #[.pointer (some ⟨w.heap.size, 0, none⟩)]) ∧ w' = w.alloc (.cells #[.slice a len cap] 165) := by
  refine callsIn_of_wp Tryz.func195 rfl h ?_ hro
  simp only [Tryz.ntmps195, List.size_toArray, List.length_cons, List.length_nil, Nat.reduceAdd, Nat.reduceSub, Array.replicate_succ, Array.replicate_zero, List.push_toArray, List.append_toArray, List.nil_append, List.cons_append]
  gi_wp2
  go_ret
  exact ⟨rfl, rfl⟩
set_option maxRecDepth 100000 in
set_option maxHeartbeats 2000000 in
theorem back1_in (F : Fence) (n : Nat) (h40 : F.fn 202) (hro : F.round = none) (hn : 1 ≤ n) (l Bs n₀ : Nat) (A : Option Addr) (cap : Nat) (L : List (Int × Blk)) (hLl : L.length ≤ 1000000) (J Jx : List (Nat × (Int × Blk)) → World → Prop)
    (hY : ∀ pre x W, J pre W → pre.length < L.length → YieldAt F (n - 1) Tryz.prog l (encW x) W fun e W' =>
      (e = .returned (.bool true) ∧ J (pre ++ [x]) W' ∧ Below n₀ W W') ∨ (e = .returned (.bool false) ∧ Jx (pre ++ [x]) W'))
    (W : World) (hBn : Bs < n₀) (hBs : W.cell? ⟨Bs, 0, none⟩ = some (.slice A L.length cap)) (hL : RdE LwE W n₀ A L.length L) (h0 : J [] W) :
    CallsIn F n Tryz.prog 202 #[.func (.yield l) #[] #[], .pointer (some ⟨Bs, 0, none⟩)] W fun e W' => (∃ v, e = .returned v) ∧
      ((∃ ys, ys = cmd L L.length ∧ J ys W') ∨ (∃ pre, (∃ d, d ≤ L.length ∧ pre = cmd L d) ∧ Jx pre W')) := by
  refine callsIn_of_wp Tryz.func202 rfl h40 ?_ hro
  simp only [Tryz.ntmps202, List.size_toArray, List.length_cons, List.length_nil, Nat.reduceAdd, Nat.reduceSub, Array.replicate_succ, Array.replicate_zero, List.push_toArray, List.append_toArray, List.nil_append, List.cons_append]
  gi_wp2
  gi_loopw [3] (fun i wr => ∃ r : Nat, r ≤ L.length ∧ i = .int .i64 ((r : Int) - 1) ∧ J (cmd L (L.length - r)) wr ∧ Below n₀ W wr)
    (fun i _ => (intOf i + 1).toNat)
  case atStart => exact ⟨L.length, Nat.le_refl _, rfl, by rw [Nat.sub_self]; exact h0, Below.refl _ _⟩
  case round =>
    obtain ⟨r, hr, rfl, hJs, hnx⟩ := hrel
    have hbx : wr.cell? ⟨Bs, 0, none⟩ = some (.slice A L.length cap) := (hnx.cell (p := ⟨Bs, 0, none⟩) hBn).trans hBs
    have hLr := hL.below hnx
    cases r with
    | zero =>
      clear hLr hbx
      rw [Nat.sub_zero] at hJs
      have e : ((0 : Nat) : Int) - 1 = -1 := rfl
      rw [e]
      gi_wp2
      go_end0
      exact ⟨⟨_, rfl⟩, .inl ⟨_, rfl, hJs⟩⟩
    | succ m =>
      have e : ((m + 1 : Nat) : Int) - 1 = (m : Int) := by omega
      rw [e]
      clear e
      have hlt : m < L.length := hr
      obtain ⟨bA, oA, rfl, hbA, rA⟩ := RdE.pairs hLr hlt
      have hnext : cmd L (L.length - m) = cmd L (L.length - (m + 1)) ++ [(m, L.getD m (0, al))] := by
        have e1 : L.length - m = (L.length - (m + 1)) + 1 := by omega
        rw [e1, cmd]
        have e2 : L.length - 1 - (L.length - (m + 1)) = m := by omega
        rw [e2]
      have HNX := Lib.hid hnext
      obtain ⟨fn, tmps, assign, body, hy, hR⟩ := hY _ (m, L.getD m (0, al)) wr hJs (by rw [cmd_len]; omega)
      rw [← hnext] at hR
      have HRA := Lib.hid rA
      generalize L.getD m (0, al) = q at *
      unfold encW at hy
      dsimp only at hy
      clear hnext rA hLr
      gi_wp2_with (first | (refine dh rfl rfl rfl (a8 (E := LwE) rfl rfl rfl hlt) ?_) | (refine dh rfl rfl rfl (exec_loadW rfl rfl HRA.out) ?_) | fail)
      refine hR.mono ?_
      rintro e W3 (⟨rfl, hJ3, hk3⟩ | ⟨rfl, hJx3⟩)
      · gi_wp2
        go_roundw
        case rel => exact ⟨m, by omega, rfl, hJ3, hnx.trans hk3⟩
        case measure => simp [intOf]
      · gi_wp2
        refine bodyPost_ret (results_none rfl _ _ _) rfl ?_
        exact ⟨⟨_, rfl⟩, .inr ⟨_, ⟨L.length - m, by omega, rfl⟩, hJx3⟩⟩
theorem back_stops (F : Fence) (n : Nat) (h40 : F.fn 202) (hro : F.round = none) (hn : 1 ≤ n) (Bs : Nat) (A : Option Addr) (cap : Nat) (L : List (Int × Blk)) (hLl : L.length ≤ 1000000) (w : World) (hBn : Bs < w.heap.size) (hBs : w.cell? ⟨Bs, 0, none⟩ = some (.slice A L.length cap)) (hL : RdE LwE w w.heap.size A L.length L) :
    SeqStopsK F n Tryz.prog 202 #[.pointer (some ⟨Bs, 0, none⟩)] encW (Below w.heap.size) (fun ys => ys = cmd L L.length) (fun pre => ∃ d, d ≤ L.length ∧ pre = cmd L d) L.length w := fun l J Jx W hW _ _ hY h0 =>
  back1_in F n h40 hro hn l Bs w.heap.size A cap L hLl J Jx hY W hBn ((hW.cell (p := ⟨Bs, 0, none⟩) hBn).trans hBs) (hL.below hW) h0
end Go.Proofs.YtcafafdimcecpaaGreatDoor
