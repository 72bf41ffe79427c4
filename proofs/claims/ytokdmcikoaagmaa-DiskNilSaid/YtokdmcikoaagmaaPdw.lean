/-
  The program's device: Sure, Fail, Write.
-/
import Derived.Test.YtokdmcikoaagmaaPdk
namespace Go.Proofs.Ytokdmcikoaagmaa
open Go.RowKit
set_option linter.unusedVariables false

set_option maxHeartbeats 1000000 in
theorem p_sure (p : Nat) (vS vL : Value) (S : List Blk) (L : List (Int × Blk)) (g : Bool) (n : Int) (w : World) (h : PD w p vS vL S L g) :
    Calls Try.prog 18 #[.pointer (some ⟨p, 0, none⟩), .int .i64 n] w fun e w' => e = .returned (.tuple #[blk (sureB S g n), .int .i64 (askE S g n)]) ∧ Below w.heap.size w w' := by
  have hA := (Below.refl w.heap.size w).alloc (Nat.le_refl _) (.cells (cel zeroB).toArray 33)
  have h1 := h.below hA
  have HT := Lib.hid (there_new w zeroB 33)
  have HA := Lib.hid hA
  clear hA
  rcases askE_is (S := S) (g := g) (n := n) with he | he | ⟨he, rfl, k, rfl, hk⟩
  · have HS := Lib.hid (sureB_no (S := S) (g := g) (n := n) (by omega))
    have HE := Lib.hid he
    clear he
    go_enter Try.func18, Try.ntmps18
    go_wp2_with (first | (refine wpList_val rfl (exec_alloc rfl) ?_) | fail)
    refine (p_refusal p vS vL S L g n _ h1).mono ?_
    rintro e w1 ⟨rfl, rfl⟩
    rw [HE.out]
    go_wp2_with (first | (refine wpList_val rfl (exec_build (c := zeroB) (parts := []) rfl rfl) ?_) | (refine wpList_nul rfl (exec_store rfl rfl rfl HT.out) ?_))
    refine bodyPost_ret (res_blk2 rfl _ _ _ rfl (World.rangeAt_setCells_same _ _ _ _ (by rw [cel_length]; exact HT.out))) rfl ⟨by rw [HS.out, HE.out]; rfl, below_setCells HA.out (Nat.le_refl _) _⟩
  · have HS := Lib.hid (sureB_no (S := S) (g := g) (n := n) (by omega))
    have HE := Lib.hid he
    clear he
    go_enter Try.func18, Try.ntmps18
    go_wp2_with (first | (refine wpList_val rfl (exec_alloc rfl) ?_) | fail)
    refine (p_refusal p vS vL S L g n _ h1).mono ?_
    rintro e w1 ⟨rfl, rfl⟩
    rw [HE.out]
    go_wp2_with (first | (refine wpList_val rfl (exec_build (c := zeroB) (parts := []) rfl rfl) ?_) | (refine wpList_nul rfl (exec_store rfl rfl rfl HT.out) ?_))
    refine bodyPost_ret (res_blk2 rfl _ _ _ rfl (World.rangeAt_setCells_same _ _ _ _ (by rw [cel_length]; exact HT.out))) rfl ⟨by rw [HS.out, HE.out]; rfl, below_setCells HA.out (Nat.le_refl _) _⟩
  · have HS := Lib.hid (sureB_ok he)
    have HE := Lib.hid he
    clear he
    obtain ⟨A, c, rfl, hrd, hc1, hc2⟩ := h1.alive.open_ rfl
    obtain ⟨b, off, rfl, hb, hr⟩ := hrd.blk hk
    obtain ⟨c0, c1, c2, c3⟩ := cells4 h1.at_
    generalize S.getD k zeroB = x at *
    have HR := Lib.hid hr
    clear hr hrd
    go_enter Try.func18, Try.ntmps18
    go_wp2_with (first | (refine wpList_val rfl (exec_alloc rfl) ?_) | fail)
    refine (p_refusal p _ vL S L false k _ h1).mono ?_
    rintro e w1 ⟨rfl, rfl⟩
    rw [HE.out]
    go_wp2_with (first | (refine wpList_val rfl (exec_load rfl rfl HR.out) ?_) | (refine wpList_nul rfl (exec_store rfl rfl rfl HT.out) ?_))
    refine bodyPost_ret (res_blk2 rfl _ _ _ rfl (World.rangeAt_setCells_same _ _ _ _ (by rw [cel_length]; exact HT.out))) rfl ⟨by rw [HS.out, HE.out]; rfl, below_setCells HA.out (Nat.le_refl _) _⟩
section
variable {w w' : World} {p : Nat} {vS vL : Value} {S : List Blk} {L : List (Int × Blk)} {g : Bool}
theorem p_lay_L (hp : w.heap[p]? = some (.cells #[.int .i64 (S.length : Int), vS, vL, .bool g] 61)) (h1 : 1 ≤ S.length) (hS : MadeE BlkE w 0 vS (if g = true then [] else S)) {vL' : Value} {L' : List (Int × Blk)} (h' : MadeE LwE w 0 vL' L') (hd : g = true → L' = []) : PD (w.setCell ⟨p, 2, none⟩ vL') p vS vL' S L' g := by
  have hO := only_set w p 2 vL'
  refine ⟨?_, h1, hS.only hO fun b hb e => hS.not_at hp (by decide) (by rw [hb, e]), h'.only hO fun b hb e => h'.not_at hp (by decide) (by rw [hb, e]), hd⟩
  have := heap_setCell_same w p 2 _ _ vL' hp
  simpa using this
theorem PD.setL (h : PD w p vS vL S L g) {vL' : Value} {L' : List (Int × Blk)} (h' : MadeE LwE w 0 vL' L') (hd : g = true → L' = []) : PD (w.setCell ⟨p, 2, none⟩ vL') p vS vL' S L' g := p_lay_L h.at_ h.one h.S_ h' hd
theorem faP0 {b : Nat} : (Instr.fieldAt 61 (.pointer (some ⟨b, 0, none⟩)) 0).run Try.prog w = .ok (.pointer (some ⟨b, 0, none⟩)) w := by kernel_rfl
theorem faP1 {b : Nat} : (Instr.fieldAt 61 (.pointer (some ⟨b, 0, none⟩)) 1).run Try.prog w = .ok (.pointer (some ⟨b, 1, none⟩)) w := by kernel_rfl
theorem faP2 {b : Nat} : (Instr.fieldAt 61 (.pointer (some ⟨b, 0, none⟩)) 2).run Try.prog w = .ok (.pointer (some ⟨b, 2, none⟩)) w := by kernel_rfl
theorem faP3 {b : Nat} : (Instr.fieldAt 61 (.pointer (some ⟨b, 0, none⟩)) 3).run Try.prog w = .ok (.pointer (some ⟨b, 3, none⟩)) w := by kernel_rfl
theorem faV0 {b off : Nat} : (Instr.fieldAt 68 (.pointer (some ⟨b, off, none⟩)) 0).run Try.prog w = .ok (.pointer (some ⟨b, off, none⟩)) w := by kernel_rfl
theorem faV1 {b off : Nat} : (Instr.fieldAt 68 (.pointer (some ⟨b, off, none⟩)) 1).run Try.prog w = .ok (.pointer (some ⟨b, off + 1, none⟩)) w := by kernel_rfl
theorem ldP {a : Addr} {A : Option Addr} {n c : Nat} (h : w.cell? a = some (.slice A n c)) : (Instr.loadAt 59 (.pointer (some a))).run Try.prog w = .ok (.slice A n c) w := by simp [go_sem, h]
theorem ldG {a : Addr} {b : Bool} (h : w.cell? a = some (.bool b)) : (Instr.loadAt 4 (.pointer (some a))).run Try.prog w = .ok (.bool b) w := by simp [go_sem, h]
theorem stP {a : Addr} {v : Value} {A : Option Addr} {n c : Nat} (h : w.cell? a = some v) (hf : w.frozen? a = false) : (Instr.storeAt 59 (.pointer (some a)) (.slice A n c)).run Try.prog w = .ok () (w.setCell a (.slice A n c)) := by simp [go_sem, h, hf]
theorem run_buildW (k : Int) (b : Blk) : (Instr.build 68 #[(0, .int .i64 k), (1, blk b)]).run Try.prog w = .ok (pairV k b) w := by
  have hz := run_zeroE LwE w
  have h1 := fill_one (place := fun i => (#[(0, 1), (1, 64)] : Array (Nat × Nat))[i]?) (i := 0) (off := 0) (size := 1) (v := .int .i64 k) (pre := []) (mid := [.int .i64 0]) (post := cel zeroB) (vs := [.int .i64 k]) (rest := [(1, blk b)]) rfl rfl rfl rfl rfl
  have h2 := fill_one (place := fun i => (#[(0, 1), (1, 64)] : Array (Nat × Nat))[i]?) (i := 1) (off := 1) (size := 64) (v := blk b) (pre := [.int .i64 k]) (mid := cel zeroB) (post := []) (vs := cel b) (rest := []) rfl rfl (cel_length b) rfl (cel_length zeroB)
  simp only [List.nil_append, List.append_nil, List.singleton_append] at h1 h2
  have h3 := h1.trans h2
  have hz' : (zeroValue 68).run Try.prog w = .ok (pairV 0 zeroB) w := hz
  have hc : (pairV 0 zeroB).cells = (.int .i64 0 :: cel zeroB).toArray := rfl
  simp only [Instr.build, Sem.run_bind, hz', run_underlying Try.underlying68, Result.andThen_ok, hc]
  refine Eq.trans (congrArg (fun r => Result.andThen r _) (?h : _ = Result.ok #[(0, 1), (1, 64)] w)) ?_
  case h => kernel_rfl
  simp only [Result.andThen_ok]
  have h4 : Instr.fill (fun i => (#[(0, 1), (1, 64)] : Array (Nat × Nat))[i]?) (.int .i64 k :: cel b).toArray [] = some (.int .i64 k :: cel b).toArray := by rw [Instr.fill]
  rw [h3.trans h4]
  rfl
theorem exec_buildW {ρ : Operand → Value} {o : Oper} {x y : Operand} {k : Int} {b : Blk} (ho : o.op = .build 68 #[(0, x), (1, y)]) (hx : ρ x = .int .i64 k) (hy : ρ y = blk b) : (execOp ρ o).run Try.prog w = .ok (.value (pairV k b)) w := by
  have h := run_buildW (w := w) k b
  unfold execOp
  simp only [ho, List.map_toArray, List.map_cons, List.map_nil, hx, hy, Sem.run_bind, h, Result.andThen_ok, Sem.run_pure]
theorem pairW_cells (k : Int) (b : Blk) : (pairV k b).cells = (LwE.cel (k, b)).toArray := rfl
end
set_option maxHeartbeats 1000000 in
theorem p_fail (p : Nat) (vS vL : Value) (S : List Blk) (L : List (Int × Blk)) (g : Bool) (w : World) (h : PD w p vS vL S L g) :
    Calls Try.prog 23 #[.pointer (some ⟨p, 0, none⟩)] w fun e w' => e = .returned (.int .i64 0) ∧ PD w' p (.slice none 0 0) (.slice none 0 0) S [] true ∧ Only (foot p vS vL) w w' := by
  obtain ⟨c0, c1, c2, c3⟩ := cells4 h.at_
  have f0 := frozen_of_row w p 0 _ _ h.at_
  have f1 := frozen_of_row w p 1 _ _ h.at_
  have f2 := frozen_of_row w p 2 _ _ h.at_
  have f3 := frozen_of_row w p 3 _ _ h.at_
  have H := Lib.hid h
  clear h
  go_enter Try.func23, Try.ntmps23
  go_wp2_with fail
  refine (p_made p vS vL S L g w H.out).mono ?_
  rintro e w1 ⟨rfl, rfl⟩
  go_wp2_with fail
  go_ret
  refine ⟨rfl, ⟨?_, H.out.one, MadeE.nil _ _, MadeE.nil _ _, fun _ => rfl⟩, ?_⟩
  · have h0 := H.out.at_
    have h1 := heap_setCell_same w p 0 _ _ (.int .i64 (S.length : Int)) h0
    have h2 := heap_setCell_same _ p 1 _ _ (.slice none 0 0) h1
    have h3 := heap_setCell_same _ p 2 _ _ (.slice none 0 0) h2
    have h4 := heap_setCell_same _ p 3 _ _ (.bool true) h3
    simpa using h4
  · have hO : Only (fun b => b = p) w w := Only.refl _ _
    exact ((((hO.setCell (p := ⟨p, 0, none⟩) (.inl rfl) _).setCell (p := ⟨p, 1, none⟩) (.inl rfl) _).setCell (p := ⟨p, 2, none⟩) (.inl rfl) _).setCell (p := ⟨p, 3, none⟩) (.inl rfl) _).widen fun b hb => .inl hb
end Go.Proofs.Ytokdmcikoaagmaa
