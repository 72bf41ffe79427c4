/-
  The program's device: what it has, where it lies; made, has, refusal, Sectors, Dead, Loose.
  The program's device: Sure, Fail, Write.
  The program's device: Write.
  The program's device: Flush.
  The program's device: Rot, New.
  The program's device: Crash.
  The program's device: Copy.
-/
import Derived.Test.YtpcdcnnnkblhiaaME
import Derived.Test.YtpcdcnnnkblhiaaMC
import Derived.Laws.CopyRow
import Derived.Laws.IdiomCopy
namespace Go.Proofs.Ytpcdcnnnkblhiaa
open Go.RowKit
set_option linter.unusedVariables false
set_option maxRecDepth 100000

def LwE : Elt (Int × Blk) := pairE 79 83 Try.underlying79 (by kernel_rfl)
theorem cells4 {w : World} {b : Nat} {t : TypeId} {x y z u : Value} (h : w.heap[b]? = some (.cells #[x, y, z, u] t (0, 0))) : w.cell? ⟨b, 0, none⟩ = some x ∧ w.cell? ⟨b, 1, none⟩ = some y ∧ w.cell? ⟨b, 2, none⟩ = some z ∧ w.cell? ⟨b, 3, none⟩ = some u := by
  refine ⟨?_, ?_, ?_, ?_⟩
  · rw [cell_of_row w b 0 _ t (0, 0) h]; rfl
  · rw [cell_of_row w b 1 _ t (0, 0) h]; rfl
  · rw [cell_of_row w b 2 _ t (0, 0) h]; rfl
  · rw [cell_of_row w b 3 _ t (0, 0) h]; rfl
/-- The program's device lies at p: its rows are vS, vL (of a dead one nothing is left); it has S, what is loose is L, it is dead just if g. -/
structure PD (w : World) (p : Nat) (vS vL : Value) (S : List Blk) (L : List (Int × Blk)) (g : Bool) : Prop where
  at_ : w.heap[p]? = some (.cells #[.int .i64 (S.length : Int), vS, vL, .bool g] 81)
  one : 1 ≤ S.length
  S_ : MadeE BlkE w 0 vS (if g = true then [] else S)
  L_ : MadeE LwE w 0 vL L
  dead : g = true → L = []
section
variable {w w' : World} {p : Nat} {vS vL : Value} {S : List Blk} {L : List (Int × Blk)} {g : Bool} {F : Nat → Prop}
theorem PD.lt (h : PD w p vS vL S L g) : ∀ k, foot p vS vL k → k < w.heap.size := by
  intro k hk
  rcases hk with rfl | hk | hk
  · exact (Array.getElem?_eq_some_iff.1 h.at_).1
  · exact h.S_.own_lt k hk
  · exact h.L_.own_lt k hk
theorem PD.only (h : PD w p vS vL S L g) (k : Only F w w') (hn : ∀ b, foot p vS vL b → ¬ F b) : PD w' p vS vL S L g :=
  ⟨k.keep h.at_ (hn p (.inl rfl)), h.one, h.S_.only k fun b hb => hn b (.inr (.inl hb)), h.L_.only k fun b hb => hn b (.inr (.inr hb)), h.dead⟩
theorem PD.below (h : PD w p vS vL S L g) (k : Below w.heap.size w w') : PD w' p vS vL S L g := h.only (Only.of_below (fun _ => False) k) fun _ _ e => e
theorem PD.alive (h : PD w p vS vL S L false) : MadeE BlkE w 0 vS S := h.S_
end
theorem p_made (p : Nat) (vS vL : Value) (S : List Blk) (L : List (Int × Blk)) (g : Bool) (w : World) (h : PD w p vS vL S L g) :
    Calls Try.prog 62 #[.pointer (some ⟨p, 0, none⟩)] w fun e w' => e = .returned (.bool true) ∧ w = w' := by
  obtain ⟨c0, c1, c2, c3⟩ := cells4 h.at_
  have h1 : 0 < S.length := h.one
  go_enter Try.func62, Try.ntmps62
  go_wp2
  go_ret
  exact ⟨rfl, rfl⟩
theorem p_has (p : Nat) (vS vL : Value) (S : List Blk) (L : List (Int × Blk)) (g : Bool) (n : Int) (w : World) (h : PD w p vS vL S L g) :
    Calls Try.prog 63 #[.pointer (some ⟨p, 0, none⟩), .int .i64 n] w fun e w' => e = .returned (.bool (decide (0 ≤ n ∧ n < S.length))) ∧ w = w' := by
  obtain ⟨c0, c1, c2, c3⟩ := cells4 h.at_
  by_cases h0 : 0 ≤ n
  · by_cases h1 : n < S.length
    · have HD := Lib.hid (decide_eq_true (p := 0 ≤ n ∧ n < S.length) ⟨h0, h1⟩)
      go_enter Try.func63, Try.ntmps63
      go_wp2
      go_ret
      exact ⟨ret_bool HD.out.symm, rfl⟩
    · have HD := Lib.hid (decide_eq_false (p := 0 ≤ n ∧ n < S.length) (fun e => h1 e.2))
      go_enter Try.func63, Try.ntmps63
      go_wp2
      go_ret
      exact ⟨ret_bool (decide_eq_false (by omega)).symm, rfl⟩
  · have HD := Lib.hid (decide_eq_false (p := 0 ≤ n ∧ n < S.length) (fun e => h0 e.1))
    go_enter Try.func63, Try.ntmps63
    go_wp2
    go_ret
    exact ⟨ret_bool (by have e : decide (0 ≤ n) = false := decide_eq_false (by omega); rw [e]; rfl), rfl⟩
theorem p_refusal (p : Nat) (vS vL : Value) (S : List Blk) (L : List (Int × Blk)) (g : Bool) (n : Int) (w : World) (h : PD w p vS vL S L g) :
    Calls Try.prog 61 #[.pointer (some ⟨p, 0, none⟩), .int .i64 n] w fun e w' => e = .returned (.int .i64 (askE S g n)) ∧ w = w' := by
  obtain ⟨c0, c1, c2, c3⟩ := cells4 h.at_
  by_cases h1 : 0 ≤ n ∧ n < S.length
  · have HD := Lib.hid (decide_eq_true h1)
    cases g
    · have HE := Lib.hid (askE_ok h1)
      clear h1
      go_enter Try.func61, Try.ntmps61
      go_wp2_with fail
      refine (p_made p vS vL S L false w h).mono ?_
      rintro e w1 ⟨rfl, rfl⟩
      go_wp2_with fail
      refine (p_has p vS vL S L false n w h).mono ?_
      rintro e w1 ⟨rfl, rfl⟩
      rw [HD.out]
      go_wp2_with fail
      go_ret
      exact ⟨ret_int HE.out.symm, rfl⟩
    · have HE := Lib.hid (askE_dead h1)
      clear h1
      go_enter Try.func61, Try.ntmps61
      go_wp2_with fail
      refine (p_made p vS vL S L true w h).mono ?_
      rintro e w1 ⟨rfl, rfl⟩
      go_wp2_with fail
      refine (p_has p vS vL S L true n w h).mono ?_
      rintro e w1 ⟨rfl, rfl⟩
      rw [HD.out]
      go_wp2_with fail
      go_ret
      exact ⟨ret_int HE.out.symm, rfl⟩
  · have HD := Lib.hid (decide_eq_false h1)
    have HE := Lib.hid (askE_out g h1)
    clear h1
    go_enter Try.func61, Try.ntmps61
    go_wp2_with fail
    refine (p_made p vS vL S L g w h).mono ?_
    rintro e w1 ⟨rfl, rfl⟩
    go_wp2_with fail
    refine (p_has p vS vL S L g n w h).mono ?_
    rintro e w1 ⟨rfl, rfl⟩
    rw [HD.out]
    go_wp2_with fail
    go_ret
    exact ⟨ret_int HE.out.symm, rfl⟩
theorem p_sectors (p : Nat) (vS vL : Value) (S : List Blk) (L : List (Int × Blk)) (g : Bool) (w : World) (h : PD w p vS vL S L g) :
    Calls Try.prog 60 #[.pointer (some ⟨p, 0, none⟩)] w fun e w' => e = .returned (.int .i64 (S.length : Int)) ∧ w = w' := by
  obtain ⟨c0, c1, c2, c3⟩ := cells4 h.at_
  go_enter Try.func60, Try.ntmps60
  go_wp2_with fail
  refine (p_made p vS vL S L g w h).mono ?_
  rintro e w1 ⟨rfl, rfl⟩
  go_wp2_with fail
  go_ret
  exact ⟨rfl, rfl⟩
theorem p_dead (p : Nat) (vS vL : Value) (S : List Blk) (L : List (Int × Blk)) (g : Bool) (w : World) (h : PD w p vS vL S L g) :
    Calls Try.prog 56 #[.pointer (some ⟨p, 0, none⟩)] w fun e w' => e = .returned (.bool g) ∧ w = w' := by
  obtain ⟨c0, c1, c2, c3⟩ := cells4 h.at_
  go_enter Try.func56, Try.ntmps56
  go_wp2_with fail
  refine (p_made p vS vL S L g w h).mono ?_
  rintro e w1 ⟨rfl, rfl⟩
  go_wp2_with fail
  go_ret
  exact ⟨rfl, rfl⟩
end Go.Proofs.Ytpcdcnnnkblhiaa
namespace Go.Proofs.Ytpcdcnnnkblhiaa
open Go.RowKit
set_option linter.unusedVariables false
set_option maxRecDepth 100000

set_option maxHeartbeats 1000000 in
theorem p_sure (p : Nat) (vS vL : Value) (S : List Blk) (L : List (Int × Blk)) (g : Bool) (n : Int) (w : World) (h : PD w p vS vL S L g) :
    Calls Try.prog 58 #[.pointer (some ⟨p, 0, none⟩), .int .i64 n] w fun e w' => e = .returned (.tuple #[blk (sureB S g n), .int .i64 (askE S g n)]) ∧ Below w.heap.size w w' := by
  have hA := (Below.refl w.heap.size w).alloc (Nat.le_refl _) (.cells (cel zeroB).toArray 34)
  have h1 := h.below hA
  have HT := Lib.hid (there_new w zeroB 34)
  have HA := Lib.hid hA
  clear hA
  rcases askE_is (S := S) (g := g) (n := n) with he | he | ⟨he, rfl, k, rfl, hk⟩
  · have HS := Lib.hid (sureB_no (S := S) (g := g) (n := n) (by omega))
    have HE := Lib.hid he
    clear he
    go_enter Try.func58, Try.ntmps58
    go_wp2_with (first | (refine wpList_val rfl (exec_alloc rfl) ?_) | fail)
    refine (p_refusal p vS vL S L g n _ h1).mono ?_
    rintro e w1 ⟨rfl, rfl⟩
    rw [HE.out]
    go_wp2_with (first | (refine wpList_val rfl (exec_build (c := zeroB) (parts := []) rfl rfl) ?_) | (refine wpList_nul rfl (exec_store rfl rfl rfl HT.out) ?_))
    refine bodyPost_ret (res_blk2 rfl _ _ _ rfl (World.rangeAt_setCells_same _ _ _ _ (by rw [cel_length]; exact HT.out))) rfl ⟨by rw [HS.out, HE.out]; rfl, below_setCells HA.out (Nat.le_refl _) _⟩
  · have HS := Lib.hid (sureB_no (S := S) (g := g) (n := n) (by omega))
    have HE := Lib.hid he
    clear he
    go_enter Try.func58, Try.ntmps58
    go_wp2_with (first | (refine wpList_val rfl (exec_alloc rfl) ?_) | fail)
    refine (p_refusal p vS vL S L g n _ h1).mono ?_
    rintro e w1 ⟨rfl, rfl⟩
    rw [HE.out]
    go_wp2_with (first | (refine wpList_val rfl (exec_build (c := zeroB) (parts := []) rfl rfl) ?_) | (refine wpList_nul rfl (exec_store rfl rfl rfl HT.out) ?_))
    refine bodyPost_ret (res_blk2 rfl _ _ _ rfl (World.rangeAt_setCells_same _ _ _ _ (by rw [cel_length]; exact HT.out))) rfl ⟨by rw [HS.out, HE.out]; rfl, below_setCells HA.out (Nat.le_refl _) _⟩
  · have HS := Lib.hid (sureB_ok he)
    have HE := Lib.hid he
    clear he
    obtain ⟨A, c, rfl, hrd, hc1, hc2⟩ := h1.alive.open_ rfl
    obtain ⟨b, off, rfl, hb, hr⟩ := hrd.blk hk
    obtain ⟨c0, c1, c2, c3⟩ := cells4 h1.at_
    generalize S.getD k zeroB = x at *
    have HR := Lib.hid hr
    clear hr hrd
    go_enter Try.func58, Try.ntmps58
    go_wp2_with (first | (refine wpList_val rfl (exec_alloc rfl) ?_) | fail)
    refine (p_refusal p _ vL S L false k _ h1).mono ?_
    rintro e w1 ⟨rfl, rfl⟩
    rw [HE.out]
    go_wp2_with (first | (refine wpList_val rfl (exec_load rfl rfl HR.out) ?_) | (refine wpList_nul rfl (exec_store rfl rfl rfl HT.out) ?_))
    refine bodyPost_ret (res_blk2 rfl _ _ _ rfl (World.rangeAt_setCells_same _ _ _ _ (by rw [cel_length]; exact HT.out))) rfl ⟨by rw [HS.out, HE.out]; rfl, below_setCells HA.out (Nat.le_refl _) _⟩
section
variable {w w' : World} {p : Nat} {vS vL : Value} {S : List Blk} {L : List (Int × Blk)} {g : Bool}
theorem p_lay_L (hp : w.heap[p]? = some (.cells #[.int .i64 (S.length : Int), vS, vL, .bool g] 81)) (h1 : 1 ≤ S.length) (hS : MadeE BlkE w 0 vS (if g = true then [] else S)) {vL' : Value} {L' : List (Int × Blk)} (h' : MadeE LwE w 0 vL' L') (hd : g = true → L' = []) : PD (w.setCell ⟨p, 2, none⟩ vL') p vS vL' S L' g := by
  have hO := only_set w p 2 vL'
  refine ⟨?_, h1, hS.only hO fun b hb e => hS.not_at hp (by decide) (by rw [hb, e]), h'.only hO fun b hb e => h'.not_at hp (by decide) (by rw [hb, e]), hd⟩
  have := heap_setCell_same w p 2 _ _ vL' hp
  simpa using this
theorem PD.setL (h : PD w p vS vL S L g) {vL' : Value} {L' : List (Int × Blk)} (h' : MadeE LwE w 0 vL' L') (hd : g = true → L' = []) : PD (w.setCell ⟨p, 2, none⟩ vL') p vS vL' S L' g := p_lay_L h.at_ h.one h.S_ h' hd
theorem faP0 {b : Nat} : (Instr.fieldAt 81 (.pointer (some ⟨b, 0, none⟩)) 0).run Try.prog w = .ok (.pointer (some ⟨b, 0, none⟩)) w := by kernel_rfl
theorem faP1 {b : Nat} : (Instr.fieldAt 81 (.pointer (some ⟨b, 0, none⟩)) 1).run Try.prog w = .ok (.pointer (some ⟨b, 1, none⟩)) w := by kernel_rfl
theorem faP2 {b : Nat} : (Instr.fieldAt 81 (.pointer (some ⟨b, 0, none⟩)) 2).run Try.prog w = .ok (.pointer (some ⟨b, 2, none⟩)) w := by kernel_rfl
theorem faP3 {b : Nat} : (Instr.fieldAt 81 (.pointer (some ⟨b, 0, none⟩)) 3).run Try.prog w = .ok (.pointer (some ⟨b, 3, none⟩)) w := by kernel_rfl
theorem faV0 {b off : Nat} : (Instr.fieldAt 83 (.pointer (some ⟨b, off, none⟩)) 0).run Try.prog w = .ok (.pointer (some ⟨b, off, none⟩)) w := by kernel_rfl
theorem faV1 {b off : Nat} : (Instr.fieldAt 83 (.pointer (some ⟨b, off, none⟩)) 1).run Try.prog w = .ok (.pointer (some ⟨b, off + 1, none⟩)) w := by kernel_rfl
theorem ldP {a : Addr} {A : Option Addr} {n c : Nat} (h : w.cell? a = some (.slice A n c)) : (Instr.loadAt 79 (.pointer (some a))).run Try.prog w = .ok (.slice A n c) w := by simp [go_sem, h]
theorem ldG {a : Addr} {b : Bool} (h : w.cell? a = some (.bool b)) : (Instr.loadAt 4 (.pointer (some a))).run Try.prog w = .ok (.bool b) w := by simp [go_sem, h]
theorem stP {a : Addr} {v : Value} {A : Option Addr} {n c : Nat} (h : w.cell? a = some v) (hf : w.frozen? a = false) : (Instr.storeAt 79 (.pointer (some a)) (.slice A n c)).run Try.prog w = .ok () (w.setCell a (.slice A n c)) := by simp [go_sem, h, hf]
theorem run_buildW (k : Int) (b : Blk) : (Instr.build 83 #[(0, .int .i64 k), (1, blk b)]).run Try.prog w = .ok (pairV k b) w := by
  have hz := run_zeroE LwE w
  have h1 := fill_one (place := fun i => (#[(0, 1), (1, 64)] : Array (Nat × Nat))[i]?) (i := 0) (off := 0) (size := 1) (v := .int .i64 k) (pre := []) (mid := [.int .i64 0]) (post := cel zeroB) (vs := [.int .i64 k]) (rest := [(1, blk b)]) rfl rfl rfl rfl rfl
  have h2 := fill_one (place := fun i => (#[(0, 1), (1, 64)] : Array (Nat × Nat))[i]?) (i := 1) (off := 1) (size := 64) (v := blk b) (pre := [.int .i64 k]) (mid := cel zeroB) (post := []) (vs := cel b) (rest := []) rfl rfl (cel_length b) rfl (cel_length zeroB)
  simp only [List.nil_append, List.append_nil, List.singleton_append] at h1 h2
  have h3 := h1.trans h2
  have hz' : (zeroValue 83).run Try.prog w = .ok (pairV 0 zeroB) w := hz
  have hc : (pairV 0 zeroB).cells = (.int .i64 0 :: cel zeroB).toArray := rfl
  simp only [Instr.build, Sem.run_bind, hz', run_underlying Try.underlying83, Result.andThen_ok, hc]
  refine Eq.trans (congrArg (fun r => Result.andThen r _) (?h : _ = Result.ok #[(0, 1), (1, 64)] w)) ?_
  case h => kernel_rfl
  simp only [Result.andThen_ok]
  have h4 : Instr.fill (fun i => (#[(0, 1), (1, 64)] : Array (Nat × Nat))[i]?) (.int .i64 k :: cel b).toArray [] = some (.int .i64 k :: cel b).toArray := by rw [Instr.fill]
  rw [h3.trans h4]
  rfl
theorem exec_buildW {ρ : Operand → Value} {o : Oper} {x y : Operand} {k : Int} {b : Blk} (ho : o.op = .build 83 #[(0, x), (1, y)]) (hx : ρ x = .int .i64 k) (hy : ρ y = blk b) : (execOp ρ o).run Try.prog w = .ok (.value (pairV k b)) w := by
  have h := run_buildW (w := w) k b
  unfold execOp
  simp only [ho, List.map_toArray, List.map_cons, List.map_nil, hx, hy, Sem.run_bind, h, Result.andThen_ok, Sem.run_pure]
theorem pairW_cells (k : Int) (b : Blk) : (pairV k b).cells = (LwE.cel (k, b)).toArray := rfl
end
set_option maxHeartbeats 1000000 in
theorem p_fail (p : Nat) (vS vL : Value) (S : List Blk) (L : List (Int × Blk)) (g : Bool) (w : World) (h : PD w p vS vL S L g) :
    Calls Try.prog 26 #[.pointer (some ⟨p, 0, none⟩)] w fun e w' => e = .returned (.int .i64 0) ∧ PD w' p (.slice none 0 0) (.slice none 0 0) S [] true ∧ Only (foot p vS vL) w w' := by
  obtain ⟨c0, c1, c2, c3⟩ := cells4 h.at_
  have f0 := frozen_of_row w p 0 _ _ h.at_
  have f1 := frozen_of_row w p 1 _ _ h.at_
  have f2 := frozen_of_row w p 2 _ _ h.at_
  have f3 := frozen_of_row w p 3 _ _ h.at_
  have H := Lib.hid h
  clear h
  go_enter Try.func26, Try.ntmps26
  go_wp2_with fail
  refine (p_made p vS vL S L g w H.out).mono ?_
  rintro e w1 ⟨rfl, rfl⟩
  go_wp2_with fail
  go_ret
  refine ⟨rfl, ⟨?_, H.out.one, MadeE.nil _ _, MadeE.nil _ _, fun _ => rfl⟩, ?_⟩
  · have h0 := H.out.at_
    have h1 := heap_setCell_same w p 0 _ _ (.int .i64 (S.length : Int)) h0
    have h2 := heap_setCell_same _ p 1 _ _ (.slice none 0 0) h1
    have h3 := heap_setCell_same _ p 2 _ _ (.slice none 0 0) h2
    have h4 := heap_setCell_same _ p 3 _ _ (.bool true) h3
    simpa using h4
  · have hO : Only (fun b => b = p) w w := Only.refl _ _
    exact ((((hO.setCell (p := ⟨p, 0, none⟩) (.inl rfl) _).setCell (p := ⟨p, 1, none⟩) (.inl rfl) _).setCell (p := ⟨p, 2, none⟩) (.inl rfl) _).setCell (p := ⟨p, 3, none⟩) (.inl rfl) _).widen fun b hb => .inl hb
end Go.Proofs.Ytpcdcnnnkblhiaa
namespace Go.Proofs.Ytpcdcnnnkblhiaa
open Go.RowKit
set_option linter.unusedVariables false
set_option maxRecDepth 100000

set_option maxHeartbeats 1000000 in
theorem p_write_no (p : Nat) (vS vL : Value) (S : List Blk) (L : List (Int × Blk)) (g : Bool) (n : Int) (b : Blk) (w : World) (h : PD w p vS vL S L g) (he0 : askE S g n ≠ 0) :
    Calls Try.prog 24 #[.pointer (some ⟨p, 0, none⟩), .int .i64 n, blk b] w fun e w' => e = .returned (.int .i64 (askE S g n)) ∧ Below w.heap.size w w' := by
  have hA := (Below.refl w.heap.size w).alloc (Nat.le_refl _) (.cells (cel b).toArray 34)
  have h1 := h.below hA
  have HA := Lib.hid hA
  clear hA
  have H0 := Lib.hid he0
  rcases askE_is (S := S) (g := g) (n := n) with he | he | ⟨he, _⟩
  rotate_right 1
  · exact absurd he he0
  all_goals
    have HE := Lib.hid he
    clear he he0
    go_enter Try.func24, Try.ntmps24
    go_wp2_with (first | (refine wpList_val rfl (exec_box rfl rfl) ?_) | fail)
    refine (p_refusal p vS vL S L g n _ h1).mono ?_
    rintro e w1 ⟨rfl, rfl⟩
    rw [HE.out]
    go_wp2_with fail
    go_ret
    exact ⟨ret_int HE.out.symm, HA.out⟩
set_option maxHeartbeats 1000000 in
theorem p_write_ok (p k : Nat) (vS vL : Value) (S : List Blk) (L : List (Int × Blk)) (b : Blk) (w : World) (h : PD w p vS vL S L false) (hk : k < S.length) (hL : L.length < 1000000) :
    Calls Try.prog 24 #[.pointer (some ⟨p, 0, none⟩), .int .i64 k, blk b] w fun e w' => e = .returned (.int .i64 0) ∧ ∃ vL', PD w' p vS vL' S (L ++ [((k : Int), b)]) false ∧ Only (foot p vS vL) w w' ∧ (∀ x, vL'.ownBlock = some x → vL.ownBlock = some x ∨ w.heap.size ≤ x) := by
  have hA := (Below.refl w.heap.size w).alloc (Nat.le_refl _) (.cells (cel b).toArray 34)
  have h1 := h.below hA
  have HA := Lib.hid hA
  have HE := Lib.hid (askE_ok (S := S) (n := (k : Int)) (by omega))
  have HB := Lib.hid (new1 w (cel b).toArray 34)
  clear hA
  obtain ⟨AL, cL, rfl, hl1, hl2⟩ := h1.L_.form
  go_enter Try.func24, Try.ntmps24
  go_wp2_with (first | (refine wpList_val rfl (exec_box rfl rfl) ?_) | fail)
  refine (p_refusal p vS _ S L false k _ h1).mono ?_
  rintro e w1 ⟨rfl, rfl⟩
  rw [HE.out]
  go_wp2_with fail
  generalize hy : w.heap.size = y at *
  generalize w.alloc (.cells (cel b).toArray 34) = w1 at *
  refine wp_region_last (fun w' => w'.heap[p]? = some (.cells #[.int .i64 (S.length : Int), vS, .slice AL L.length cL, .bool false] 81) ∧ w'.heap[y]? = some (.cells (cel b).toArray 34)) 12 (by kernel_rfl) ?_
  change wpAnyZ _ _ _ _ _ _ 13 _ _ w1.drew
  have hS : w1.drew.heap[p]? = some (.cells #[.int .i64 (S.length : Int), vS, .slice AL L.length cL, .bool false] 81) ∧ w1.drew.heap[y]? = some (.cells (cel b).toArray 34) := ⟨h1.at_, HB.out⟩
  refine last_val 0 rfl (by kernel_rfl) (by kernel_rfl) (by kernel_rfl) (by decide) (by kernel_rfl) rfl (fun w' hw => exec_mv rfl (ev rfl)) (fun _ _ _ h => h) hS ?_
  simp only [Act.put, List.setIfInBounds_toArray, List.set_cons_succ, List.set_cons_zero]
  refine last_val 1 rfl (by kernel_rfl) (by kernel_rfl) (by kernel_rfl) (by decide) (by kernel_rfl) rfl (fun w' hw => exec_mv rfl (ev rfl)) (fun _ _ _ h => h) hS ?_
  simp only [Act.put, List.setIfInBounds_toArray, List.set_cons_succ, List.set_cons_zero]
  refine last_val 2 rfl (by kernel_rfl) (by kernel_rfl) (by kernel_rfl) (by decide) (by kernel_rfl) rfl (fun w' hw => exec_nil rfl (ev rfl)) (fun _ _ _ h => h) hS ?_
  simp only [Act.put, List.setIfInBounds_toArray, List.set_cons_succ, List.set_cons_zero]
  refine last_val 3 rfl (by kernel_rfl) (by kernel_rfl) (by kernel_rfl) (by decide) (by kernel_rfl) rfl (fun w' hw => exec_faddr rfl (ev rfl) faP2) (fun _ _ _ h => h) hS ?_
  simp only [Act.put, List.setIfInBounds_toArray, List.set_cons_succ, List.set_cons_zero]
  refine last_val 4 rfl (by kernel_rfl) (by kernel_rfl) (by kernel_rfl) (by decide) (by kernel_rfl) rfl (fun w' hw => exec_ld rfl (ev rfl) (ldP (cells4 hw.1).2.2.1)) (fun _ _ _ h => h) hS ?_
  simp only [Act.put, List.setIfInBounds_toArray, List.set_cons_succ, List.set_cons_zero]
  refine last_val 5 rfl (by kernel_rfl) (by kernel_rfl) (by kernel_rfl) (by decide) (by kernel_rfl) rfl (fun w' hw => exec_mv rfl (ev rfl)) (fun _ _ _ h => h) hS ?_
  simp only [Act.put, List.setIfInBounds_toArray, List.set_cons_succ, List.set_cons_zero]
  refine last_val 6 rfl (by kernel_rfl) (by kernel_rfl) (by kernel_rfl) (by decide) (by kernel_rfl) rfl (fun w' hw => exec_load rfl (ev rfl) (blk_range hw.2)) (fun _ _ _ h => h) hS ?_
  simp only [Act.put, List.setIfInBounds_toArray, List.set_cons_succ, List.set_cons_zero]
  refine last_val 7 rfl (by kernel_rfl) (by kernel_rfl) (by kernel_rfl) (by decide) (by kernel_rfl) rfl (fun w' hw => exec_buildW rfl (ev rfl) (ev rfl)) (fun _ _ _ h => h) hS ?_
  simp only [Act.put, List.setIfInBounds_toArray, List.set_cons_succ, List.set_cons_zero]
  have hr : PD w1.drew p vS (.slice AL L.length cL) S L false := ⟨h1.at_, h1.one, h1.S_, h1.L_, h1.dead⟩
  have hS2 : PD (w1.drew.alloc (.cells (LwE.cel ((k : Int), b)).toArray LwE.t)) p vS (.slice AL L.length cL) S L false := hr.below ((Below.refl _ _).alloc (Nat.le_refl _) _)
  have hb2 := blk_past hS.2 (.cells (LwE.cel ((k : Int), b)).toArray LwE.t)
  have hnew : RdE LwE _ _ _ 1 _ := rdE_new (E := LwE) (l := [((k : Int), b)]) w1.drew (LwE.cel ((k : Int), b)).toArray LwE.t (by rw [flatE_cons]; simp [flatE])
  obtain ⟨v3, w3, hrun, hm3, hg3, ho3⟩ := run_appE_own LwE _ 79 0 _ 1 1 _ _ _ _ hS2.L_ hnew (Nat.zero_le _) (by omega)
  have hO2 : Only (foot p vS (.slice AL L.length cL)) w (w1.drew.alloc (.cells (LwE.cel ((k : Int), b)).toArray LwE.t)) := (Only.of_below _ (hy ▸ HA.out)).drew.alloc _
  have hO3 := hO2.grown hg3 (fun x hx => .inl (.inr (.inr hx)))
  have hp3 : w3.heap[p]? = some (.cells #[.int .i64 (S.length : Int), vS, .slice AL L.length cL, .bool false] 81) := (hg3.block p (blk_lt hS2.at_) (fun e => hS2.L_.not_at hS2.at_ (by decide) e.symm)).trans hS2.at_
  have hy3 : w3.heap[y]? = some (.cells (cel b).toArray 34) := (hg3.block y (blk_lt hb2) (fun e => hS2.L_.not_at hb2 (by decide) e.symm)).trans hb2
  have hSS3 := hS2.S_.kept hg3 (hS2.S_.other hS2.L_ (by decide))
  refine last_turn 8 rfl (by kernel_rfl) rfl (exec_mk1E (E := LwE) (a := ((k : Int), b)) rfl (ev rfl) (pairW_cells _ _) (by decide)) (fun _ => ⟨hS2.at_, hb2⟩) ?_
  simp only [Act.put, List.setIfInBounds_toArray, List.set_cons_succ, List.set_cons_zero]
  refine last_turn 9 rfl (by kernel_rfl) rfl (exec_appE (E := LwE) rfl (ev rfl) (ev rfl) hrun) (fun _ => ⟨hp3, hy3⟩) ?_
  simp only [Act.put, List.setIfInBounds_toArray, List.set_cons_succ, List.set_cons_zero]
  refine last_turn 10 rfl (by kernel_rfl) rfl (exec_nil rfl (ev rfl)) (fun _ => ⟨hp3, hy3⟩) ?_
  simp only [Act.put, List.setIfInBounds_toArray, List.set_cons_succ, List.set_cons_zero]
  refine last_turn 11 rfl (by kernel_rfl) rfl (exec_faddr rfl (ev rfl) faP2) (fun _ => ⟨hp3, hy3⟩) ?_
  simp only [Act.put, List.setIfInBounds_toArray, List.set_cons_succ, List.set_cons_zero]
  obtain ⟨A3, c3, rfl, _, _⟩ := hm3.form
  refine last_nul 12 rfl (by kernel_rfl) rfl (exec_st rfl (ev rfl) (ev rfl) (stP (cells4 hp3).2.2.1 (frozen_of_row _ _ _ _ _ hp3))) (fun e => absurd rfl e) ?_
  simp only [Act.put]
  refine wpAnyZ_done (by kernel_rfl) ?_ _
  go_wp2_with fail
  go_ret
  refine ⟨rfl, _, p_lay_L hp3 h1.one hSS3 hm3 (fun e => absurd e (by decide)), hO3.setCell (.inl (.inl rfl)) _, fun x hx => ?_⟩
  rcases ho3 x hx with e | e
  · exact .inl e
  · refine .inr (Nat.le_trans ?_ e)
    have := hO2.size
    omega
theorem p_write (p : Nat) (vS vL : Value) (S : List Blk) (L : List (Int × Blk)) (g : Bool) (n : Int) (b : Blk) (w : World) (h : PD w p vS vL S L g) (hL : L.length < 1000000) :
    Calls Try.prog 24 #[.pointer (some ⟨p, 0, none⟩), .int .i64 n, blk b] w fun e w' => e = .returned (.int .i64 (askE S g n)) ∧ ∃ vL', PD w' p vS vL' S (wrL S L g n b) g ∧ Only (foot p vS vL) w w' ∧ (∀ x, vL'.ownBlock = some x → vL.ownBlock = some x ∨ w.heap.size ≤ x) := by
  by_cases he : askE S g n = 0
  · rcases askE_is (S := S) (g := g) (n := n) with h1 | h1 | ⟨_, rfl, k, rfl, hk⟩
    · omega
    · omega
    · have e : wrL S L false k b = L ++ [((k : Int), b)] := by unfold wrL; rw [if_pos he]
      rw [e, he]
      exact p_write_ok p k vS vL S L b w h hk hL
  · have e : wrL S L g n b = L := by unfold wrL; rw [if_neg he]
    rw [e]
    exact (p_write_no p vS vL S L g n b w h he).mono fun e w' ⟨h1, h2⟩ => ⟨h1, vL, h.below h2, Only.of_below _ h2, fun x hx => .inl hx⟩
end Go.Proofs.Ytpcdcnnnkblhiaa
namespace Go.Proofs.Ytpcdcnnnkblhiaa
open Go.RowKit
set_option linter.unusedVariables false
set_option maxRecDepth 100000

theorem undW : ∃ d, Try.prog.underlying LwE.t = some d ∧ d.isRow = true := ⟨_, Try.underlying83, rfl⟩
section
variable {ρ : Operand → Value} {o : Oper} {x y : Operand} {w : World} {b off : Nat} {a : Int × Blk}
theorem exec_loadW (ho : o.op = .load LwE.t x) (hx : ρ x = .pointer (some ⟨b, off, none⟩)) (hc : w.rangeAt b off (cel65 a)) : (execOp ρ o).run Try.prog w = .ok (.value (.agg (cel65 a).toArray)) w := by
  obtain ⟨d, h1, h2⟩ := undW
  exact exec_loadE (E := LwE) h1 h2 ho hx hc
theorem exec_allocW (ho : o.op = .alloc LwE.t) : (execOp ρ o).run Try.prog w = .ok (.value (.pointer (some ⟨w.heap.size, 0, none⟩))) (w.alloc (.cells LwE.z.cells LwE.t)) := exec_allocE (E := LwE) ho
theorem exec_fillW (ho : o.op = .store LwE.t x y) (hx : ρ x = .pointer (some ⟨w.heap.size, 0, none⟩)) (hy : ρ y = .agg (cel65 a).toArray) : (execOp ρ o).run Try.prog (w.alloc (.cells LwE.z.cells LwE.t)) = .ok .skip (w.alloc (.cells (cel65 a).toArray LwE.t)) := exec_fillE (E := LwE) ho hx hy
end
section
variable {w w' : World} {p gg n c k : Nat} {vL : Value} {S : List Blk} {L : List (Int × Blk)}
/-- A sector is laid anew. -/
theorem PD.setS (h : PD w p (.slice (some ⟨gg, 0, none⟩) n c) vL S L false) (hk : k < n) (x : Blk) : PD (w.setCells gg (k * 64) (cel x)) p (.slice (some ⟨gg, 0, none⟩) n c) vL (S.set k x) L false := by
  have hO : Only (fun b => b = gg) w (w.setCells gg (k * 64) (cel x)) := (Only.refl (fun b => b = gg) w).setCells (.inl rfl) _ _
  refine ⟨?_, by rw [List.length_set]; exact h.one, h.alive.store hk x, h.L_.only hO fun b hb e => ?_, fun e => absurd e (by decide)⟩
  · rw [List.length_set]
    exact hO.keep h.at_ (fun e => h.S_.not_at h.at_ (by decide) (by rw [e]; rfl))
  · rcases h.L_.other h.S_ (by decide) with e' | e'
    · rw [e'] at hb; cases hb
    · exact e' (by rw [hb, e]; rfl)
end
theorem p_flush_dead (p : Nat) (vS vL : Value) (S : List Blk) (L : List (Int × Blk)) (w : World) (h : PD w p vS vL S L true) :
    Calls Try.prog 25 #[.pointer (some ⟨p, 0, none⟩)] w fun e w' => e = .returned (.int .i64 9) ∧ w = w' := by
  obtain ⟨c0, c1, c2, c3⟩ := cells4 h.at_
  go_enter Try.func25, Try.ntmps25
  go_wp2_with fail
  refine (p_made p vS vL S L true w h).mono ?_
  rintro e w1 ⟨rfl, rfl⟩
  go_wp2_with fail
  go_ret
  exact ⟨rfl, rfl⟩
set_option maxHeartbeats 2000000 in
theorem p_flush_ok (p : Nat) (vS vL : Value) (S : List Blk) (L : List (Int × Blk)) (w : World) (h : PD w p vS vL S L false) (hF : Fit S L) :
    Calls Try.prog 25 #[.pointer (some ⟨p, 0, none⟩)] w fun e w' => e = .returned (.int .i64 0) ∧ PD w' p vS (.slice none 0 0) (flS S L) [] false ∧ Only (foot p vS vL) w w' := by
  obtain ⟨c0, c1, c2, c3⟩ := cells4 h.at_
  obtain ⟨AL, cL, rfl, hl1, hl2⟩ := h.L_.form
  unfold maxLen at hl2
  have HH := Lib.hid h
  have HF := Lib.hid hF
  clear h hF
  go_enter Try.func25, Try.ntmps25
  go_wp2_with fail
  refine (p_made p vS _ S L false w HH.out).mono ?_
  rintro e w1 ⟨rfl, rfl⟩
  go_wp2_with fail
  clear c0 c1 c2 c3
  go_loopw [4, 17] (fun v4 i wr => ∃ j : Nat, j ≤ L.length ∧ i = .int .i64 j ∧ PD wr p vS (.slice AL L.length cL) (flS S (L.take j)) L false ∧ Only (foot p vS (.slice AL L.length cL)) w wr) (fun _ i _ => L.length - (intOf i).toNat)
  case atStart => exact ⟨0, Nat.zero_le _, rfl, HH.out, Only.refl _ _⟩
  case round =>
    obtain ⟨j, hj, rfl, hr, hon⟩ := hrel
    by_cases hlt : j < L.length
    · obtain ⟨k, hqk, hk⟩ := HF.out.at_ hlt
      have hlenS := flS_len S (L.take j)
      obtain ⟨gS, cS, rfl⟩ := hr.alive.slice hlenS (by omega)
      obtain ⟨bA, oA, hAe, hAl, rA⟩ := hr.L_.rd.pairs hlt
      have HS := Lib.hid (flS_succ (S := S) hlt)
      rw [hqk] at HS
      generalize hq : L.getD j (0, zeroB) = q at *
      obtain ⟨q1, x⟩ := q
      obtain rfl : q1 = (k : Int) := hqk
      clear hq
      have h1 := hr.below ((Below.refl _ _).alloc (Nat.le_refl _) (.cells (cel65 ((k : Int), x)).toArray LwE.t))
      have HON := Lib.hid (hon.alloc (.cells (cel65 ((k : Int), x)).toArray LwE.t))
      have hnw := pair_new wr ((k : Int), x) LwE.t
      have HRA := Lib.hid rA
      subst hAe
      clear rA hr hon
      have hLL : (j : Int) < (L.length : Int) := by omega
      go_wp2_with (first | (refine wpList_val rfl (exec_indexE (E := LwE) rfl rfl rfl hlt) ?_) | (refine wpList_val rfl (exec_loadW rfl rfl HRA.out) ?_) | (refine wpList_val rfl (exec_allocW rfl) ?_) | (refine wpList_nul rfl (exec_fillW rfl rfl rfl) ?_) | fail)
      generalize hy : wr.heap.size = y at *
      generalize wr.alloc (.cells (cel65 ((k : Int), x)).toArray LwE.t) = w1 at *
      obtain ⟨c0, c1, c2, c3⟩ := cells4 h1.at_
      have HA := Lib.hid c1
      have HN := Lib.hid hnw
      have H1 := Lib.hid h1
      have HKT := Lib.hid (show w1.there gS (k * 64) 64 from by
        have := H1.out.alive.there hk (j := 0) (m := 64) (Nat.le_refl _)
        rw [Nat.add_zero] at this
        exact this)
      clear c0 c1 c2 c3 hnw h1 hlenS
      refine wp_region_still_tail 9 (by kernel_rfl) (by kernel_rfl) ?_
      simp only [List.take_succ_cons, List.take_zero, List.drop_succ_cons, List.drop_zero]
      refine st_val rfl (exec_mv rfl (ev rfl)) ?_
      simp only [Act.put, List.setIfInBounds_toArray, List.set_cons_succ, List.set_cons_zero]
      refine st_val rfl (exec_nil rfl (ev rfl)) ?_
      simp only [Act.put, List.setIfInBounds_toArray, List.set_cons_succ, List.set_cons_zero]
      refine st_val rfl (exec_faddr rfl (ev rfl) faP1) ?_
      simp only [Act.put, List.setIfInBounds_toArray, List.set_cons_succ, List.set_cons_zero]
      refine st_val rfl (exec_ld rfl (ev rfl) (ldB HA.out)) ?_
      simp only [Act.put, List.setIfInBounds_toArray, List.set_cons_succ, List.set_cons_zero]
      refine st_val rfl (exec_faddr rfl (ev rfl) faV0) ?_
      simp only [Act.put, List.setIfInBounds_toArray, List.set_cons_succ, List.set_cons_zero]
      refine st_val rfl (exec_ld rfl (ev rfl) (ldI HN.out.1)) ?_
      simp only [Act.put, List.setIfInBounds_toArray, List.set_cons_succ, List.set_cons_zero]
      refine st_val rfl (exec_faddr rfl (ev rfl) faV1) ?_
      simp only [Act.put, List.setIfInBounds_toArray, List.set_cons_succ, List.set_cons_zero]
      refine st_val rfl (exec_load rfl (ev rfl) HN.out.2) ?_
      simp only [Act.put, List.setIfInBounds_toArray, List.set_cons_succ, List.set_cons_zero]
      refine st_val rfl (exec_index0 (E := BlkE) rfl (ev rfl) (ev rfl) hk) ?_
      simp only [Act.put, List.setIfInBounds_toArray, List.set_cons_succ, List.set_cons_zero]
      refine wpStill_nil ?_
      change wpList _ _ _ _ _ w1.drew
      go_wp2_with (first | (refine wpList_nul rfl (exec_store rfl rfl rfl HKT.out) ?_) | fail)
      go_roundw
      case rel =>
        have hd : PD w1.drew p (.slice (some ⟨gS, 0, none⟩) S.length cS) (.slice (some ⟨bA, oA, none⟩) L.length cL) (flS S (L.take j)) L false := ⟨H1.out.at_, H1.out.one, H1.out.S_, H1.out.L_, H1.out.dead⟩
        exact ⟨j + 1, by omega, by go_num, by rw [HS.out]; exact hd.setS hk x, HON.out.drew.setCells (.inl (.inr (.inl rfl))) _ _⟩
      case measure => simp [intOf]; omega
    · have hjn : j = L.length := by omega
      subst hjn
      obtain ⟨c0, c1, c2, c3⟩ := cells4 hr.at_
      have f2 := frozen_of_row wr p 2 _ _ hr.at_
      have HRr := Lib.hid hr
      have HON := Lib.hid hon
      clear hr hon
      have hLL : ¬((L.length : Int) < (L.length : Int)) := by omega
      go_wp2_with fail
      go_ret
      have hd := HRr.out.setL (MadeE.nil _ _) (fun _ => rfl)
      rw [List.take_length] at hd
      exact ⟨rfl, hd, HON.out.setCell (.inl (.inl rfl)) _⟩
end Go.Proofs.Ytpcdcnnnkblhiaa
namespace Go.Proofs.Ytpcdcnnnkblhiaa
open Go.RowKit
set_option linter.unusedVariables false
set_option maxRecDepth 100000

section
variable {w : World} {p gg n c k i : Nat} {vL : Value} {S : List Blk} {L : List (Int × Blk)}
theorem PD.setByte (h : PD w p (.slice (some ⟨gg, 0, none⟩) n c) vL S L false) (hk : k < n) (hi : i < 64) (v : UInt8) : PD (w.setCell ⟨gg, k * 64 + i, none⟩ (.int .u8 (v.toNat : Int))) p (.slice (some ⟨gg, 0, none⟩) n c) vL (S.set k ((S.getD k zeroB).set i v)) L false := by
  have hO : Only (fun b => b = gg) w (w.setCell ⟨gg, k * 64 + i, none⟩ (.int .u8 (v.toNat : Int))) := only_set w gg _ _
  refine ⟨?_, by rw [List.length_set]; exact h.one, ?_, h.L_.only hO fun b hb e => ?_, fun e => absurd e (by decide)⟩
  · rw [List.length_set]
    exact hO.keep h.at_ (fun e => h.S_.not_at h.at_ (by decide) (by rw [e]; rfl))
  · refine h.alive.put hk (j := i) (vs := [.int .u8 (v.toNat : Int)]) ((S.getD k zeroB).set i v) ?_ (by show i + 1 ≤ 64; omega)
    show cel ((S.getD k zeroB).set i v) = (cel (S.getD k zeroB)).take i ++ [_] ++ (cel (S.getD k zeroB)).drop (i + 1)
    rw [← cel_set _ hi, List.set_eq_take_append_cons_drop, if_pos (by rw [cel_length]; exact hi)]
    simp
  · rcases h.L_.other h.S_ (by decide) with e' | e'
    · rw [e'] at hb; cases hb
    · exact e' (by rw [hb, e]; rfl)
end
set_option maxHeartbeats 2000000 in
theorem p_rot_ok (p k i : Nat) (u : UInt8) (vS vL : Value) (S : List Blk) (L : List (Int × Blk)) (w : World) (h : PD w p vS vL S L false) (hk : k < S.length) (hi : i < 64) :
    Calls Try.prog 28 #[.pointer (some ⟨p, 0, none⟩), .int .i64 k, .int .i64 i, .int .u8 (u.toNat : Int)] w fun e w' => e = .returned (.int .i64 0) ∧ PD w' p vS vL (S.set k (rotB (S.getD k zeroB) i u)) L false ∧ Only (foot p vS vL) w w' := by
  obtain ⟨c0, c1, c2, c3⟩ := cells4 h.at_
  obtain ⟨gS, cS, rfl⟩ := h.alive.slice rfl (by omega)
  obtain ⟨bS, oS, hSe, hSl, rS⟩ := h.alive.rd.blk hk
  injection hSe with hSe
  injection hSe with e1 e2
  subst e1 e2
  obtain ⟨y, hy⟩ : ∃ y, S.getD k zeroB = y := ⟨_, rfl⟩
  have HY := Lib.hid hy
  rw [hy] at rS
  have hc := rS i _ (cel_at _ hi)
  rw [Nat.zero_add, byt_get _ hi] at hc
  have HD := Lib.hid (decide_eq_true (p := 0 ≤ (k : Int) ∧ (k : Int) < S.length) (by omega))
  have hil : (i : Int) < 64 := by omega
  have HT := Lib.hid (show w.there gS (k * 64 + i) 1 from h.alive.there hk (j := i) (m := 1) (by show i + 1 ≤ 64; omega))
  have hf : w.frozen? ⟨gS, k * 64 + i, none⟩ = false := by have := (HT.out 0 (by omega)).2; simpa using this
  have HH := Lib.hid h
  have HA := Lib.hid c1
  have HR : rotB (S.getD k zeroB) i u = y.set i (y[i] ^^^ u) := by rw [hy]; unfold rotB; rw [dif_pos hi]
  have HRR := Lib.hid HR
  have HC := Lib.hid hc
  clear HR rS hy h
  go_enter Try.func28, Try.ntmps28
  go_wp2_with fail
  refine (p_made p _ vL S L false w HH.out).mono ?_
  rintro e w1 ⟨rfl, rfl⟩
  go_wp2_with fail
  refine (p_has p _ vL S L false k w HH.out).mono ?_
  rintro e w1 ⟨rfl, rfl⟩
  rw [HD.out]
  go_wp2_with fail
  refine wp_region_still_tail 13 (by kernel_rfl) (by kernel_rfl) ?_
  simp only [List.take_succ_cons, List.take_zero, List.drop_succ_cons, List.drop_zero]
  refine st_val rfl (exec_mv rfl (ev rfl)) ?_
  simp only [Act.put, List.setIfInBounds_toArray, List.set_cons_succ, List.set_cons_zero]
  refine st_val rfl (exec_nil rfl (ev rfl)) ?_
  simp only [Act.put, List.setIfInBounds_toArray, List.set_cons_succ, List.set_cons_zero]
  refine st_val rfl (exec_faddr rfl (ev rfl) faP1) ?_
  simp only [Act.put, List.setIfInBounds_toArray, List.set_cons_succ, List.set_cons_zero]
  refine st_val rfl (exec_ld rfl (ev rfl) (ldB HA.out)) ?_
  simp only [Act.put, List.setIfInBounds_toArray, List.set_cons_succ, List.set_cons_zero]
  refine st_val rfl (exec_mv rfl (ev rfl)) ?_
  simp only [Act.put, List.setIfInBounds_toArray, List.set_cons_succ, List.set_cons_zero]
  refine st_val rfl (exec_mv rfl (ev rfl)) ?_
  simp only [Act.put, List.setIfInBounds_toArray, List.set_cons_succ, List.set_cons_zero]
  refine st_val rfl (exec_ix0B rfl (ev rfl) (ev rfl) hk) ?_
  simp only [Act.put, List.setIfInBounds_toArray, List.set_cons_succ, List.set_cons_zero]
  refine st_val rfl (exec_ix rfl (ev rfl) (ev rfl) (run_ixB hi)) ?_
  simp only [Act.put, List.setIfInBounds_toArray, List.set_cons_succ, List.set_cons_zero]
  refine st_val rfl (exec_ld rfl (ev rfl) (ldU HC.out)) ?_
  simp only [Act.put, List.setIfInBounds_toArray, List.set_cons_succ, List.set_cons_zero]
  refine st_val rfl (exec_mv rfl (ev rfl)) ?_
  simp only [Act.put, List.setIfInBounds_toArray, List.set_cons_succ, List.set_cons_zero]
  refine st_val rfl (exec_xor8 rfl (ev rfl) (ev rfl)) ?_
  simp only [Act.put, List.setIfInBounds_toArray, List.set_cons_succ, List.set_cons_zero]
  refine st_val rfl (exec_ix0B rfl (ev rfl) (ev rfl) hk) ?_
  simp only [Act.put, List.setIfInBounds_toArray, List.set_cons_succ, List.set_cons_zero]
  refine st_val rfl (exec_ix rfl (ev rfl) (ev rfl) (run_ixB hi)) ?_
  simp only [Act.put, List.setIfInBounds_toArray, List.set_cons_succ, List.set_cons_zero]
  refine wpStill_nil ?_
  change wpList _ _ _ _ _ w.drew
  have hcd : w.drew.cell? ⟨gS, k * 64 + i, none⟩ = some (.int .u8 (y[i].toNat : Int)) := HC.out
  have hfd : w.drew.frozen? ⟨gS, k * 64 + i, none⟩ = false := hf
  go_wp2_with fail
  go_ret
  refine ⟨rfl, ?_, (Only.refl _ w).drew.setCell (.inl (.inr (.inl rfl))) _⟩
  rw [HRR.out]
  have hset := HH.out.setByte hk hi (y[i] ^^^ u)
  rw [HY.out] at hset
  simp only [UInt8.toNat_xor] at hset
  exact ⟨hset.at_, hset.one, hset.S_, hset.L_, hset.dead⟩
set_option maxHeartbeats 1000000 in
theorem p_rot_no (p : Nat) (n i : Int) (u : UInt8) (vS vL : Value) (S : List Blk) (L : List (Int × Blk)) (g : Bool) (w : World) (h : PD w p vS vL S L g) (he : rotE S g n i ≠ 0) :
    Calls Try.prog 28 #[.pointer (some ⟨p, 0, none⟩), .int .i64 n, .int .i64 i, .int .u8 (u.toNat : Int)] w fun e w' => e = .returned (.int .i64 (rotE S g n i)) ∧ w = w' := by
  obtain ⟨c0, c1, c2, c3⟩ := cells4 h.at_
  by_cases hn : 0 ≤ n ∧ n < S.length
  · have HD := Lib.hid (decide_eq_true hn)
    have hor : i < 0 ∨ (0 ≤ i ∧ 64 ≤ i) ∨ (0 ≤ i ∧ i < 64) := by omega
    rcases hor with h1 | ⟨h1, h2⟩ | ⟨h1, h2⟩
    rotate_right 1
    · cases g
      · exact absurd (show rotE S false n i = 0 by unfold rotE; rw [if_pos ⟨hn.1, hn.2, h1, h2⟩]; rfl) he
      · have HE := Lib.hid (show rotE S true n i = 9 by unfold rotE; rw [if_pos ⟨hn.1, hn.2, h1, h2⟩]; rfl)
        clear he hn
        go_enter Try.func28, Try.ntmps28
        go_wp2_with fail
        refine (p_made p vS vL S L true w h).mono ?_
        rintro e w1 ⟨rfl, rfl⟩
        go_wp2_with fail
        refine (p_has p vS vL S L true n w h).mono ?_
        rintro e w1 ⟨rfl, rfl⟩
        rw [HD.out]
        go_wp2_with fail
        go_ret
        exact ⟨ret_int HE.out.symm, rfl⟩
    all_goals
      have HE := Lib.hid (show rotE S g n i = 2 by unfold rotE; rw [if_neg (by omega)])
      clear he hn
      go_enter Try.func28, Try.ntmps28
      go_wp2_with fail
      refine (p_made p vS vL S L g w h).mono ?_
      rintro e w1 ⟨rfl, rfl⟩
      go_wp2_with fail
      refine (p_has p vS vL S L g n w h).mono ?_
      rintro e w1 ⟨rfl, rfl⟩
      rw [HD.out]
      go_wp2_with fail
      go_ret
      exact ⟨ret_int HE.out.symm, rfl⟩
  · have HD := Lib.hid (decide_eq_false hn)
    have HE := Lib.hid (show rotE S g n i = 2 by unfold rotE; rw [if_neg (by omega)])
    clear he hn
    go_enter Try.func28, Try.ntmps28
    go_wp2_with fail
    refine (p_made p vS vL S L g w h).mono ?_
    rintro e w1 ⟨rfl, rfl⟩
    go_wp2_with fail
    refine (p_has p vS vL S L g n w h).mono ?_
    rintro e w1 ⟨rfl, rfl⟩
    rw [HD.out]
    go_wp2_with fail
    go_ret
    exact ⟨ret_int HE.out.symm, rfl⟩
theorem p_rot (p : Nat) (n i : Int) (u : UInt8) (vS vL : Value) (S : List Blk) (L : List (Int × Blk)) (g : Bool) (w : World) (h : PD w p vS vL S L g) :
    Calls Try.prog 28 #[.pointer (some ⟨p, 0, none⟩), .int .i64 n, .int .i64 i, .int .u8 (u.toNat : Int)] w fun e w' => e = .returned (.int .i64 (rotE S g n i)) ∧ PD w' p vS vL (rotS S g n i u) L g ∧ Only (foot p vS vL) w w' := by
  by_cases he : rotE S g n i = 0
  · have hin : 0 ≤ n ∧ n < S.length ∧ 0 ≤ i ∧ i < 64 := by
      by_cases h0 : 0 ≤ n ∧ n < S.length ∧ 0 ≤ i ∧ i < 64
      · exact h0
      · unfold rotE at he; rw [if_neg h0] at he; omega
    have hg : g = false := by
      cases g
      · rfl
      · unfold rotE at he; rw [if_pos hin] at he; simp at he
    subst hg
    obtain ⟨k, rfl⟩ := Int.eq_ofNat_of_zero_le hin.1
    obtain ⟨j, rfl⟩ := Int.eq_ofNat_of_zero_le hin.2.2.1
    have e : rotS S false k j u = S.set k (rotB (S.getD k zeroB) j u) := by unfold rotS; rw [if_pos he]; rfl
    rw [e, he]
    exact p_rot_ok p k j u vS vL S L w h (by omega) (by omega)
  · have e : rotS S g n i u = S := by unfold rotS; rw [if_neg he]
    rw [e]
    exact (p_rot_no p n i u vS vL S L g w h he).mono fun e w' ⟨h1, h2⟩ => by subst h2; exact ⟨h1, h, Only.refl _ _⟩
set_option maxHeartbeats 1000000 in
theorem p_new_ok (k : Nat) (w : World) (h1 : 1 ≤ k) (h2 : k ≤ 512) :
    Calls Try.prog 23 #[.int .i64 k] w fun e w' => ∃ p vS, e = .returned (.tuple #[.pointer (some ⟨p, 0, none⟩), .int .i64 0]) ∧ PD w' p vS (.slice none 0 0) (List.replicate k zeroB) [] false ∧ Below w.heap.size w w' ∧ ∀ b, foot p vS (.slice none 0 0) b → w.heap.size ≤ b := by
  go_enter Try.func23, Try.ntmps23
  have HM := Lib.hid (heap_alloc_new w (.cells (madeCells (cel zeroB).toArray (k * 64)) 34))
  have HB := Lib.hid ((Below.refl w.heap.size w).alloc (Nat.le_refl _) (.cells (madeCells (cel zeroB).toArray (k * 64)) 34))
  have HSZ := Lib.hid (World.size_alloc w (.cells (madeCells (cel zeroB).toArray (k * 64)) 34))
  go_wp2_with (first | (refine wpList_val rfl (exec_make (n := k) rfl rfl rfl (by omega)) ?_) | fail)
  generalize w.alloc (.cells (madeCells (cel zeroB).toArray (k * 64)) 34) = w1 at *
  go_ret2
  have hS : MadeE BlkE w1 0 (.slice (some ⟨w.heap.size, 0, none⟩) k k) (List.replicate k zeroB) := MadeE.of_block (E := BlkE) HM.out (by rw [← flat_zeros]; rfl) (Nat.zero_le _) (by simp) (by unfold maxLen; omega)
  have hnw := heap_alloc_new w1 (.cells #[.int .i64 (k : Int), .slice (some ⟨w.heap.size, 0, none⟩) k k, .slice none 0 0, .bool false] 81)
  rw [HSZ.out] at hnw
  refine ⟨w.heap.size + 1, _, rfl, ⟨by rw [List.length_replicate]; exact hnw, by simpa using h1, hS.below ((Below.refl _ _).alloc (Nat.le_refl _) _), MadeE.nil _ _, fun e => absurd e (by decide)⟩, HB.out.alloc HB.out.size _, fun b hb => ?_⟩
  rcases hb with rfl | hb | hb
  · omega
  · simp [Value.ownBlock] at hb; omega
  · simp [Value.ownBlock] at hb
theorem p_new_no (n : Int) (w : World) (h : ¬(1 ≤ n ∧ n ≤ 512)) :
    Calls Try.prog 23 #[.int .i64 n] w fun e w' => e = .returned (.tuple #[.pointer none, .int .i64 2]) ∧ w = w' := by
  have hor : n < 1 ∨ (1 ≤ n ∧ 512 < n) := by omega
  clear h
  rcases hor with h | ⟨h, h'⟩
  all_goals
    go_enter Try.func23, Try.ntmps23
    go_wp2
    go_ret2
    exact ⟨rfl, rfl⟩
end Go.Proofs.Ytpcdcnnnkblhiaa
namespace Go.Proofs.Ytpcdcnnnkblhiaa
open Go.RowKit
set_option linter.unusedVariables false

/-! ### What one operation does: the lesser, the greater of two numbers; a cut; copy -/
section
variable {o : Oper} {a : Act} {x y : Operand} {w : World} {u v c : Int}
theorem exec_min {t1 t2 : TypeId} (ho : o.op = .call { callee := .builtin .min, args := #[x, y], argTypes := #[t1, t2] }) (hx : a.eval x = .int .i64 u) (hy : a.eval y = .int .i64 v) (h : (if v < u then v else u) = c) : (execOp a.eval o).run Try.prog w = .ok (.value (.int .i64 c)) w := by
  subst h
  have hrun := run_min_int2 (P := Try.prog) (w := w) #[t1, t2] o.type .i64 .i64 u v
  simp [execOp, ho, resolve, invoke, builtin, hx, hy, hrun, Result.andThen]
theorem exec_max {t1 t2 : TypeId} (ho : o.op = .call { callee := .builtin .max, args := #[x, y], argTypes := #[t1, t2] }) (hx : a.eval x = .int .i64 u) (hy : a.eval y = .int .i64 v) (h : (if v > u then v else u) = c) : (execOp a.eval o).run Try.prog w = .ok (.value (.int .i64 c)) w := by
  subst h
  have hrun : (Builtin.max_ #[t1, t2] o.type #[.int .i64 u, .int .i64 v]).run Try.prog w = .ok (.int .i64 (if v > u then v else u)) w := by simp [Builtin.max_, Builtin.max2]
  simp [execOp, ho, resolve, invoke, builtin, hx, hy, hrun, Result.andThen]
end
/-- Where a slice's head lies: where the slice lay. -/
def cutA (A : Option Addr) (c : Nat) : Option Addr := if c = 0 then A else A.map (·.add 0)
theorem cutA_some (b off c : Nat) : cutA (some ⟨b, off, none⟩) c = some ⟨b, off, none⟩ := by
  unfold cutA
  split
  · rfl
  · simp [add_mid]
section
variable {ρ : Operand → Value} {o : Oper} {x y : Operand} {w : World} {A : Option Addr} {n c t b off : Nat}
theorem run_cutI (h : t ≤ c) : (Instr.sliceAt 22 (.slice A n c) none (some (.int .i64 (t : Int))) none).run Try.prog w = .ok (.slice (cutA A c) t c) w := by
  simp [Instr.sliceAt, Instr.slice, Instr.sliceBounds, Instr.sliceBound, asIntOf, run_underlying Try.underlying22, cutA]
  intro hh; omega
theorem exec_cutI (ho : o.op = .slice 22 x none (some y) none) (hx : ρ x = .slice A n c) (hy : ρ y = .int .i64 (t : Int)) (h : t ≤ c) : (execOp ρ o).run Try.prog w = .ok (.value (.slice (cutA A c) t c)) w := by
  have h1 := run_cutI (A := A) (n := n) (w := w) h
  unfold execOp
  simp only [ho, hx, hy, Option.map_some, Option.map_none, Sem.run_bind, h1, Result.andThen_ok, Sem.run_pure]
theorem exec_ixI {j : Nat} (ho : o.op = .indexAddr IntE.s x y) (hx : ρ x = .slice (some ⟨b, off, none⟩) n c) (hy : ρ y = .int .i64 (j : Int)) (hj : j < n) : (execOp ρ o).run Try.prog w = .ok (.value (.pointer (some ⟨b, off + j, none⟩))) w := by
  have h := exec_indexE (E := IntE) (w := w) ho hx hy hj
  rwa [show IntE.n = 1 from rfl, Nat.mul_one] at h
theorem run_cutB (h : t ≤ 64) : (Instr.sliceAt 34 (.pointer (some ⟨b, off, none⟩)) none (some (.int .i64 (t : Int))) none).run Try.prog w = .ok (.slice (some ⟨b, off, none⟩) t 64) w := by
  simp [Instr.sliceAt, Instr.sliceBounds, Instr.sliceBound, Instr.sureAddr, asIntOf, run_underlying undB, Try.sizeOf5, add_mid]
  intro hh; omega
theorem exec_cutB (ho : o.op = .slice 34 x none (some y) none) (hx : ρ x = .pointer (some ⟨b, off, none⟩)) (hy : ρ y = .int .i64 (t : Int)) (h : t ≤ 64) : (execOp ρ o).run Try.prog w = .ok (.value (.slice (some ⟨b, off, none⟩) t 64)) w := by
  have h1 := run_cutB (b := b) (off := off) (w := w) h
  unfold execOp
  simp only [ho, hx, hy, Option.map_some, Option.map_none, Sem.run_bind, h1, Result.andThen_ok, Sem.run_pure]
end
theorem run_copyS {w : World} {dT sT ty elem : TypeId} {g off n c m c' : Nat} {ad : Addr} {cs : List Value} (hu : Try.prog.underlying dT = some (.slice elem)) (hs : (Try.prog.info? elem).map (·.size) = some 1)
    (hn : cs.length = Nat.min m n) (hsrc : ∀ j v, cs[j]? = some v → w.cell? (ad.add j) = some v) (ht : w.there g off cs.length) (h1 : ∀ v ∈ cs, v.oneCell' = true) :
    (Builtin.copy_ #[dT, sT] ty #[.slice (some ⟨g, off, none⟩) n c, .slice (some ad) m c']).run Try.prog w = .ok (goInt cs.length) (w.setCells g off cs) := by
  have hl := run_loadCells_list (P := Try.prog) w ad cs hsrc
  have hst := run_storeCells_cells (P := Try.prog) g off cs 0 w (fun j hj => (ht j hj).1) (fun j hj => (ht j hj).2) h1
  rw [Nat.add_zero] at hst
  cases hq : Try.prog.info? elem with
  | none => simp [hq] at hs
  | some i =>
    have hi : i.size = 1 := by simpa [hq] using hs
    simp [Builtin.copy_, run_underlying hu, Builtin.lenOf, Builtin.firstCells, sizeOf, typeInfo, hq, hi, ← hn, hl, hst]
theorem exec_copyS {o : Oper} {a : Act} {x y : Operand} {w : World} {g off n c m c' : Nat} {ad : Addr} {cs : List Value} (ho : o.op = .call { callee := .builtin .copy, args := #[x, y], argTypes := #[84, 84] })
    (hx : a.eval x = .slice (some ⟨g, off, none⟩) n c) (hy : a.eval y = .slice (some ad) m c') (hn : cs.length = Nat.min m n) (hsrc : ∀ j v, cs[j]? = some v → w.cell? (ad.add j) = some v) (ht : w.there g off cs.length) (h1 : ∀ v ∈ cs, v.oneCell' = true) :
    (execOp a.eval o).run Try.prog w = .ok (.value (goInt cs.length)) (w.setCells g off cs) := by
  have hrun := run_copyS (w := w) (dT := 84) (sT := 84) (ty := o.type) (c := c) (c' := c') Try.underlying84 (by kernel_rfl) hn hsrc ht h1
  simp [execOp, ho, resolve, invoke, builtin, hx, hy, hrun, Result.andThen]
/-- How many bytes of a write are kept. -/
def kp (z : Int) : Nat := (min (max z 0) 64).toNat
theorem kp_le (z : Int) : kp z ≤ 64 := by unfold kp; omega
theorem kp_is (z : Int) : (if (64 : Int) < max z 0 then (64 : Int) else max z 0) = (kp z : Int) := by
  unfold kp
  split <;> omega
theorem kp_max (z : Int) : (if (0 : Int) > z then (0 : Int) else z) = max z 0 := by split <;> omega
theorem torn_cel (y x : Blk) (z : Int) : cel (torn y x z) = (cel y).take 0 ++ (cel x).take (kp z) ++ (cel y).drop (0 + ((cel x).take (kp z)).length) := by
  have hk := kp_le z
  apply List.ext_getElem?
  intro j
  by_cases hj : j < 64
  · rw [cel_at _ hj, torn_byt _ _ _ hj, List.take_zero, List.nil_append, List.length_take, cel_length, Nat.min_eq_left hk, Nat.zero_add]
    by_cases h : j < kp z
    · rw [List.getElem?_append_left (by rw [List.length_take, cel_length]; omega), List.getElem?_take_of_lt h, cel_at _ hj, if_pos (by unfold kp at h; omega)]
    · rw [List.getElem?_append_right (by rw [List.length_take, cel_length]; omega), List.length_take, cel_length, Nat.min_eq_left hk, List.getElem?_drop, show kp z + (j - kp z) = j from by omega, cel_at _ hj, if_neg (by unfold kp at h; omega)]
  · rw [List.getElem?_eq_none (by rw [cel_length]; omega), List.getElem?_eq_none]
    simp only [List.length_append, List.length_take, List.length_drop, cel_length]
    omega
section
variable {w w' : World} {p gg n c k : Nat} {vL : Value} {S : List Blk} {L : List (Int × Blk)}
/-- A sector's head is laid anew. -/
theorem PD.putS (h : PD w p (.slice (some ⟨gg, 0, none⟩) n c) vL S L false) (hk : k < n) {vs : List Value} (a : Blk) (ha : cel a = (cel (S.getD k zeroB)).take 0 ++ vs ++ (cel (S.getD k zeroB)).drop (0 + vs.length)) (hj : 0 + vs.length ≤ 64) : PD (w.setCells gg (k * 64) vs) p (.slice (some ⟨gg, 0, none⟩) n c) vL (S.set k a) L false := by
  have hO : Only (fun b => b = gg) w (w.setCells gg (k * 64) vs) := (Only.refl (fun b => b = gg) w).setCells (.inl rfl) _ _
  refine ⟨?_, by rw [List.length_set]; exact h.one, h.alive.put hk (j := 0) a ha hj, h.L_.only hO fun b hb e => ?_, fun e => absurd e (by decide)⟩
  · rw [List.length_set]
    exact hO.keep h.at_ (fun e => h.S_.not_at h.at_ (by decide) (by rw [e]; rfl))
  · rcases h.L_.other h.S_ (by decide) with e' | e'
    · rw [e'] at hb; cases hb
    · exact e' (by rw [hb, e]; rfl)
end
theorem set_getD (S : List Blk) (k : Nat) : S.set k (S.getD k zeroB) = S := by
  apply List.ext_getElem?
  intro j
  rw [List.getElem?_set]
  split
  · rename_i h
    subst h
    split
    · rename_i h; rw [List.getD, List.getElem?_eq_getElem h]; rfl
    · rename_i h; rw [List.getElem?_eq_none (by omega)]
  · rfl
theorem torn_zero (y x : Blk) : torn y x 0 = y := Vector.ext fun i h => by rw [torn_get _ _ _ _ h, if_neg (by omega)]
/-- What takes no number is lost. -/
theorem crI_rest (S : List Blk) (L : List (Int × Blk)) (P : List Int) (i d : Nat) (h : P.length ≤ i) : crI S L P (i + d) = crI S L P i := by
  induction d with
  | zero => rfl
  | succ d ih =>
    have hz : P.getD (i + d) 0 = 0 := by rw [List.getD, List.getElem?_eq_none (by omega)]; rfl
    show crI S L P ((i + d) + 1) = _
    rw [crI, hz, torn_zero, set_getD, ih]
set_option maxRecDepth 100000 in
set_option maxHeartbeats 4000000 in
theorem p_crash (p : Nat) (vS vL : Value) (S : List Blk) (L : List (Int × Blk)) (g : Bool) (A : Option Addr) (n c : Nat) (P : List Int) (w : World) (h : PD w p vS vL S L g) (hF : Fit S L) (hP : RdE IntE w w.heap.size A n P) (hc1 : n ≤ c) (hc2 : c ≤ maxLen) (hN : ∀ x, A = some x → 0 < n → ¬ foot p vS vL x.block) :
    Calls Try.prog 29 #[.pointer (some ⟨p, 0, none⟩), .slice A n c] w fun e w' => e = .returned (.tuple #[.int .i64 ((min L.length n : Nat) : Int), .int .i64 0]) ∧ PD w' p vS (.slice none 0 0) (crI S L P L.length) [] g ∧ Only (foot p vS vL) w w' := by
  obtain ⟨c0, c1, c2, c3⟩ := cells4 h.at_
  obtain ⟨AL, cL, rfl, hl1, hl2⟩ := h.L_.form
  unfold maxLen at hl2 hc2
  obtain ⟨T, hT⟩ : ∃ T, min L.length n = T := ⟨_, rfl⟩
  have hTn : T ≤ n := by omega
  have hTL : T ≤ L.length := by omega
  have hTc : T ≤ c := by omega
  have hmin : (if (L.length : Int) < (n : Int) then (L.length : Int) else (n : Int)) = (T : Int) := by split <;> omega
  have HT := Lib.hid hT
  have HMIN := Lib.hid hmin
  have HH := Lib.hid h
  have HF := Lib.hid hF
  have HP := Lib.hid hP
  have HN := Lib.hid hN
  have HPL := Lib.hid hP.1
  rw [hT]
  clear h hF hP hN hT hmin
  go_enter Try.func29, Try.ntmps29
  go_wp2_with fail
  refine (p_made p vS _ S L g w HH.out).mono ?_
  rintro e w1 ⟨rfl, rfl⟩
  go_wp2_with (first | (refine wpList_val rfl (exec_min rfl rfl rfl HMIN.out) ?_) | (refine wpList_val rfl (exec_cutI rfl rfl rfl hTc) ?_) | fail)
  clear c0 c1 c2 c3
  obtain ⟨A', hA'⟩ : ∃ A', cutA A c = A' := ⟨_, rfl⟩
  have HA' := Lib.hid hA'
  rw [hA']
  clear hA'
  go_loopw [7, 8, 9, 10, 26] (fun v7 v8 v9 v10 i wr => ∃ j : Nat, j ≤ T ∧ i = .int .i64 j ∧ PD wr p vS (.slice AL L.length cL) (crI S L P j) L g ∧ Only (foot p vS (.slice AL L.length cL)) w wr) (fun _ _ _ _ i _ => T - (intOf i).toNat)
  case atStart => exact ⟨0, Nat.zero_le _, rfl, HH.out, Only.refl _ _⟩
  case round =>
    obtain ⟨j, hj, rfl, hr, hon⟩ := hrel
    have HB := Lib.hid (HP.out.only hon (Nat.le_refl _) HN.out)
    by_cases hlt : j < T
    · have hjL : j < L.length := by omega
      have hjn : j < n := by omega
      obtain rfl : g = false := by
        cases g
        · rfl
        · have := hr.dead rfl
          subst this
          simp at hjL
      obtain ⟨k, hqk, hk⟩ := HF.out.at_ hjL
      have hlenS := crI_len S L P j
      have hstep : crI S L P (j + 1) = (crI S L P j).set k (torn ((crI S L P j).getD k zeroB) (L.getD j (0, zeroB)).2 (P.getD j 0)) := by rw [crI, hqk]; rfl
      obtain ⟨gS, cS, rfl⟩ := hr.alive.slice hlenS (by omega)
      obtain ⟨bA, oA, hAe, hAl, rA⟩ := hr.L_.rd.pairs hjL
      obtain ⟨bP, oP, hPe, _, cP⟩ := HB.out.int hjn
      have hA2 : A' = some ⟨bP, oP, none⟩ := by have := HA'.out; rw [hPe, cutA_some] at this; exact this.symm
      generalize hq : L.getD j (0, zeroB) = q at *
      obtain ⟨q1, x⟩ := q
      obtain rfl : q1 = (k : Int) := hqk
      generalize P.getD j 0 = z at *
      have h1 := hr.below ((Below.refl _ _).alloc (Nat.le_refl _) (.cells (cel65 ((k : Int), x)).toArray LwE.t))
      have HON := Lib.hid (hon.alloc (.cells (cel65 ((k : Int), x)).toArray LwE.t))
      have hnw := pair_new wr ((k : Int), x) LwE.t
      obtain ⟨c0, c1, c2, c3⟩ := cells4 hr.at_
      have HRA := Lib.hid rA
      have HST := Lib.hid hstep
      have HKM := Lib.hid (kp_max z)
      have HKI := Lib.hid (kp_is z)
      have HKL := Lib.hid (kp_le z)
      have HTC := Lib.hid (fun y : Blk => torn_cel y x z)
      subst hAe
      subst hA2
      clear rA hr hon hq hstep HA' hPe
      have hLL : (j : Int) < (T : Int) := by omega
      go_wp2_with (first | (refine wpList_val rfl (exec_ixI rfl rfl rfl hlt) ?_) | (refine wpList_val rfl (exec_indexE (E := LwE) rfl rfl rfl hjL) ?_) | (refine wpList_val rfl (exec_loadW rfl rfl HRA.out) ?_) | (refine wpList_val rfl (exec_allocW rfl) ?_) | (refine wpList_nul rfl (exec_fillW rfl rfl rfl) ?_) | (refine wpList_val rfl (exec_max rfl rfl rfl HKM.out) ?_) | (refine wpList_val rfl (exec_min rfl rfl rfl HKI.out) ?_) | fail)
      generalize hy : wr.heap.size = y at *
      generalize wr.alloc (.cells (cel65 ((k : Int), x)).toArray LwE.t) = w1 at *
      clear c0 c1 c2 c3
      obtain ⟨c0, c1, c2, c3⟩ := cells4 h1.at_
      have HA := Lib.hid c1
      have HNW := Lib.hid hnw
      have H1 := Lib.hid h1
      have hlen : ((cel x).take (kp z)).length = kp z := by rw [List.length_take, cel_length]; have := HKL.out; omega
      have HLEN := Lib.hid hlen
      have HKT := Lib.hid (show w1.there gS (k * 64) ((cel x).take (kp z)).length from by
        have := H1.out.alive.there hk (j := 0) (m := ((cel x).take (kp z)).length) (by rw [hlen]; have := HKL.out; show 0 + _ ≤ 64; omega)
        rw [Nat.add_zero] at this
        exact this)
      have HSRC := Lib.hid (show ∀ m v, ((cel x).take (kp z))[m]? = some v → w1.cell? ((⟨y, 1, none⟩ : Addr).add m) = some v from fun m v hm => by
        rw [add_mid]
        have hm2 : m < kp z := by have := (List.getElem?_eq_some_iff.1 hm).1; rwa [hlen] at this
        rw [List.getElem?_take_of_lt hm2] at hm
        exact HNW.out.2 m v hm)
      have HONE := Lib.hid (show ∀ v ∈ (cel x).take (kp z), v.oneCell' = true from fun v hv => cel_one x v (List.mem_of_mem_take hv))
      clear c0 c1 c2 c3 hnw h1 hlenS hlen
      refine wp_region_still_tail 12 (by kernel_rfl) (by kernel_rfl) ?_
      simp only [List.take_succ_cons, List.take_zero, List.drop_succ_cons, List.drop_zero]
      refine st_val rfl (exec_mv rfl (ev rfl)) ?_
      simp only [Act.put, List.setIfInBounds_toArray, List.set_cons_succ, List.set_cons_zero]
      refine st_val rfl (exec_nil rfl (ev rfl)) ?_
      simp only [Act.put, List.setIfInBounds_toArray, List.set_cons_succ, List.set_cons_zero]
      refine st_val rfl (exec_faddr rfl (ev rfl) faP1) ?_
      simp only [Act.put, List.setIfInBounds_toArray, List.set_cons_succ, List.set_cons_zero]
      refine st_val rfl (exec_ld rfl (ev rfl) (ldB HA.out)) ?_
      simp only [Act.put, List.setIfInBounds_toArray, List.set_cons_succ, List.set_cons_zero]
      refine st_val rfl (exec_faddr rfl (ev rfl) faV0) ?_
      simp only [Act.put, List.setIfInBounds_toArray, List.set_cons_succ, List.set_cons_zero]
      refine st_val rfl (exec_ld rfl (ev rfl) (ldI HNW.out.1)) ?_
      simp only [Act.put, List.setIfInBounds_toArray, List.set_cons_succ, List.set_cons_zero]
      refine st_val rfl (exec_ix0B rfl (ev rfl) (ev rfl) hk) ?_
      simp only [Act.put, List.setIfInBounds_toArray, List.set_cons_succ, List.set_cons_zero]
      refine st_val rfl (exec_mv rfl (ev rfl)) ?_
      simp only [Act.put, List.setIfInBounds_toArray, List.set_cons_succ, List.set_cons_zero]
      refine st_val rfl (exec_cutB rfl (ev rfl) (ev rfl) HKL.out) ?_
      simp only [Act.put, List.setIfInBounds_toArray, List.set_cons_succ, List.set_cons_zero]
      refine st_val rfl (exec_faddr rfl (ev rfl) faV1) ?_
      simp only [Act.put, List.setIfInBounds_toArray, List.set_cons_succ, List.set_cons_zero]
      refine st_val rfl (exec_mv rfl (ev rfl)) ?_
      simp only [Act.put, List.setIfInBounds_toArray, List.set_cons_succ, List.set_cons_zero]
      refine st_val rfl (exec_cutB rfl (ev rfl) (ev rfl) HKL.out) ?_
      simp only [Act.put, List.setIfInBounds_toArray, List.set_cons_succ, List.set_cons_zero]
      refine wpStill_nil ?_
      change wpList _ _ _ _ _ w1.drew
      refine wpList_val rfl (exec_copyS (cs := (cel x).take (kp z)) rfl (ev rfl) (ev rfl) (by rw [HLEN.out]; exact (Nat.min_self _).symm) HSRC.out HKT.out HONE.out) ?_
      simp only [Act.put, List.setIfInBounds_toArray, List.set_cons_succ, List.set_cons_zero]
      go_wp2_with fail
      go_roundw
      case rel =>
        have hd : PD w1.drew p (.slice (some ⟨gS, 0, none⟩) S.length cS) (.slice (some ⟨bA, oA, none⟩) L.length cL) (crI S L P j) L false := ⟨H1.out.at_, H1.out.one, H1.out.S_, H1.out.L_, H1.out.dead⟩
        exact ⟨j + 1, by omega, by go_num, by rw [HST.out]; exact hd.putS hk _ (HTC.out _) (by rw [HLEN.out]; have := HKL.out; omega), HON.out.drew.setCells (.inl (.inr (.inl rfl))) _ _⟩
      case measure => simp [intOf]; omega
    · have hjn : j = T := by omega
      subst hjn
      obtain ⟨c0, c1, c2, c3⟩ := cells4 hr.at_
      have f2 := frozen_of_row wr p 2 _ _ hr.at_
      have HRr := Lib.hid hr
      have HON := Lib.hid hon
      clear hr hon
      have hLL : ¬((j : Int) < (j : Int)) := by omega
      go_wp2_with fail
      go_ret2
      have hd := HRr.out.setL (MadeE.nil _ _) (fun _ => rfl)
      have hcr : crI S L P L.length = crI S L P j := by
        rcases Nat.lt_or_ge j L.length with e | e
        · have e2 : L.length = j + (L.length - j) := by omega
          rw [e2]
          exact crI_rest S L P j _ (by have := HPL.out; have := HT.out; omega)
        · have e2 : j = L.length := by omega
          rw [← e2]
      rw [hcr]
      exact ⟨rfl, hd, HON.out.setCell (.inl (.inl rfl)) _⟩
end Go.Proofs.Ytpcdcnnnkblhiaa
namespace Go.Proofs.Ytpcdcnnnkblhiaa
open Go.RowKit
set_option linter.unusedVariables false
set_option maxRecDepth 100000

theorem exec_mk0E {α : Type} {E : Elt α} {ρ : Operand → Value} {o : Oper} {w : World} (ho : o.op = .buildSlice E.s 0 #[]) :
    (execOp ρ o).run Try.prog w = .ok (.value (.slice (some ⟨w.heap.size, 0, none⟩) 0 0)) (w.alloc (.cells #[] E.t)) := by
  have hz := run_zeroE E w
  have hs := run_sizeE E w
  unfold execOp
  simp [ho, Instr.buildSlice, run_underlying E.und, hs, Instr.fill, newRow]
  congr 2
  exact Array.eq_empty_of_size_eq_zero (by simp)
set_option maxHeartbeats 1000000 in
theorem clone_B (w : World) (v : Value) (l : List Blk) (h : MadeE BlkE w 0 v l) (hl : l.length ≤ 34359738368) :
    Calls Try.prog 76 #[v] w fun e w' => ∃ v', e = .returned v' ∧ MadeE BlkE w' w.heap.size v' l ∧ Below w.heap.size w w' := by
  have hq : ∀ (w : World) (a : Option Addr) (n c n' c' : Nat), (binOp .eql BlkE.s (.slice a n c) (.slice none n' c')).run Try.prog w = .ok (.bool a.isNone) w := fun w a n c n' c' => Lib.run_eql_slice_nil w _ _ a n c n' c' BlkE.und
  simp only [show BlkE.s = 78 from rfl] at hq
  obtain ⟨A, c, rfl, hc1, hc2⟩ := h.form
  have hrd := h.rd
  rcases h.2 with ⟨hv, h0⟩ | ⟨g, cap, cur, hv, _⟩
  · injection hv with e1 e2 e3
    subst e1 e3
    obtain rfl : l = [] := List.eq_nil_of_length_eq_zero e2
    go_enter Try.func76, Try.ntmps76
    go_wp2
    go_ret
    exact ⟨_, rfl, MadeE.nil _ _, Below.refl _ _⟩
  · injection hv with e1 e2 e3
    subst e1 e3
    have hA := (Below.refl w.heap.size w).alloc (Nat.le_refl _) (.cells #[] BlkE.t)
    have hm : MadeE BlkE (w.alloc (.cells #[] BlkE.t)) w.heap.size (.slice (some ⟨w.heap.size, 0, none⟩) 0 0) [] := MadeE.of_block (E := BlkE) (cs := #[]) (heap_alloc_new w _) rfl (Nat.le_refl _) rfl (Nat.zero_le _)
    have hr1 := hrd.step hA
    have HA := Lib.hid hA
    have HM := Lib.hid hm
    have HR := Lib.hid hr1
    have HLE := Lib.hid hA.size
    clear hA hm hr1 hrd h
    go_enter Try.func76, Try.ntmps76
    go_wp2_with (first | (refine wpList_val rfl (exec_mk0E (E := BlkE) rfl) ?_) | (at_builtin; refine wpList_appE BlkE rfl _ _ rfl w.heap.size _ _ _ _ [] l _ rfl rfl HM.out HR.out HLE.out ?c1 ?_) | fail)
    intro v' w' hm' hg
    go_wp2_with fail
    go_ret
    refine ⟨_, rfl, ?_, HA.out.grown hg HLE.out fun k e => ?_⟩
    · simpa using hm'
    · simp [Value.ownBlock] at e; omega
set_option maxHeartbeats 1000000 in
theorem clone_W (w : World) (v : Value) (l : List (Int × Blk)) (h : MadeE LwE w 0 v l) (hl : l.length ≤ 34359738368) :
    Calls Try.prog 77 #[v] w fun e w' => ∃ v', e = .returned v' ∧ MadeE LwE w' w.heap.size v' l ∧ Below w.heap.size w w' := by
  have hq : ∀ (w : World) (a : Option Addr) (n c n' c' : Nat), (binOp .eql LwE.s (.slice a n c) (.slice none n' c')).run Try.prog w = .ok (.bool a.isNone) w := fun w a n c n' c' => Lib.run_eql_slice_nil w _ _ a n c n' c' LwE.und
  simp only [show LwE.s = 79 from rfl] at hq
  obtain ⟨A, c, rfl, hc1, hc2⟩ := h.form
  have hrd := h.rd
  rcases h.2 with ⟨hv, h0⟩ | ⟨g, cap, cur, hv, _⟩
  · injection hv with e1 e2 e3
    subst e1 e3
    obtain rfl : l = [] := List.eq_nil_of_length_eq_zero e2
    go_enter Try.func77, Try.ntmps77
    go_wp2
    go_ret
    exact ⟨_, rfl, MadeE.nil _ _, Below.refl _ _⟩
  · injection hv with e1 e2 e3
    subst e1 e3
    have hA := (Below.refl w.heap.size w).alloc (Nat.le_refl _) (.cells #[] LwE.t)
    have hm : MadeE LwE (w.alloc (.cells #[] LwE.t)) w.heap.size (.slice (some ⟨w.heap.size, 0, none⟩) 0 0) [] := MadeE.of_block (E := LwE) (cs := #[]) (heap_alloc_new w _) rfl (Nat.le_refl _) rfl (Nat.zero_le _)
    have hr1 := hrd.step hA
    have HA := Lib.hid hA
    have HM := Lib.hid hm
    have HR := Lib.hid hr1
    have HLE := Lib.hid hA.size
    clear hA hm hr1 hrd h
    go_enter Try.func77, Try.ntmps77
    go_wp2_with (first | (refine wpList_val rfl (exec_mk0E (E := LwE) rfl) ?_) | (at_builtin; refine wpList_appE LwE rfl _ _ rfl w.heap.size _ _ _ _ [] l _ rfl rfl HM.out HR.out HLE.out ?c1 ?_) | fail)
    intro v' w' hm' hg
    go_wp2_with fail
    go_ret
    refine ⟨_, rfl, ?_, HA.out.grown hg HLE.out fun k e => ?_⟩
    · simpa using hm'
    · simp [Value.ownBlock] at e; omega
section
variable {ρ : Operand → Value} {o : Oper} {x y z u : Operand} {w : World} {i : Int} {A A' : Option Addr} {n n' c c' : Nat} {g : Bool}
theorem run_buildD : (Instr.build 81 #[(0, .int .i64 i), (1, .slice A n c), (2, .slice A' n' c'), (3, .bool g)]).run Try.prog w = .ok (.agg #[.int .i64 i, .slice A n c, .slice A' n' c', .bool g]) w := by kernel_rfl
theorem exec_buildD (ho : o.op = .build 81 #[(0, x), (1, y), (2, z), (3, u)]) (hx : ρ x = .int .i64 i) (hy : ρ y = .slice A n c) (hz : ρ z = .slice A' n' c') (hu : ρ u = .bool g) : (execOp ρ o).run Try.prog w = .ok (.value (.agg #[.int .i64 i, .slice A n c, .slice A' n' c', .bool g])) w := by
  have h := run_buildD (w := w) (i := i) (A := A) (n := n) (c := c) (A' := A') (n' := n') (c' := c') (g := g)
  unfold execOp
  simp only [ho, List.map_toArray, List.map_cons, List.map_nil, hx, hy, hz, hu, Sem.run_bind, h, Result.andThen_ok, Sem.run_pure]
theorem exec_boxD {cs : Array Value} (ho : o.op = .box 81 x) (hx : ρ x = .agg cs) : (execOp ρ o).run Try.prog w = .ok (.value (.pointer (some ⟨w.heap.size, 0, none⟩))) (w.alloc (.cells cs 81)) := by
  have h : (Instr.box 81 (.agg cs)).run Try.prog w = .ok (.pointer (some ⟨w.heap.size, 0, none⟩)) (w.alloc (.cells cs 81)) := by simp [Instr.box, newVar, newRow, Value.cells]
  unfold execOp
  simp only [ho, hx, Sem.run_bind, h, Result.andThen_ok, Sem.run_pure]
end
set_option maxHeartbeats 2000000 in
theorem p_copy (p : Nat) (vS vL : Value) (S : List Blk) (L : List (Int × Blk)) (g : Bool) (w : World) (h : PD w p vS vL S L g) (hSl : S.length ≤ 512) (hLl : L.length ≤ 1000000) :
    Calls Try.prog 48 #[.pointer (some ⟨p, 0, none⟩)] w fun e w' => ∃ p' vS' vL', e = .returned (.pointer (some ⟨p', 0, none⟩)) ∧ PD w' p' vS' vL' S L g ∧ Below w.heap.size w w' ∧ ∀ b, foot p' vS' vL' b → w.heap.size ≤ b := by
  obtain ⟨AS, cS, rfl, _, _⟩ := h.S_.form
  obtain ⟨AL, cL, rfl, _, _⟩ := h.L_.form
  have hlen : (if g = true then [] else S).length ≤ 34359738368 := by
    split
    · simp
    · omega
  obtain ⟨S', hS'⟩ : ∃ S', (if g = true then [] else S) = S' := ⟨_, rfl⟩
  have hMS := h.S_
  rw [hS'] at hlen hMS
  rw [hS'] at h
  have HS' := Lib.hid hS'
  have HD := Lib.hid h.dead
  have HO := Lib.hid h.one
  have hat := h.at_
  have HP := Lib.hid h
  have HML := Lib.hid h.L_
  have HMS := Lib.hid hMS
  have HLEN := Lib.hid hlen
  have HAT := Lib.hid hat
  clear h hS' hMS hlen hat
  go_enter Try.func48, Try.ntmps48
  go_wp2_with fail
  refine (p_made p _ _ S L g w HP.out).mono ?_
  rintro e w1 ⟨rfl, rfl⟩
  go_wp2_with fail
  refine wp_region_last (fun w' => w'.heap[p]? = some (.cells #[.int .i64 (S.length : Int), .slice AS S'.length cS, .slice AL L.length cL, .bool g] 81)) 20 (by kernel_rfl) ?_
  change wpAnyZ _ _ _ _ _ _ 21 _ _ w.drew
  have hS : w.drew.heap[p]? = some (.cells #[.int .i64 (S.length : Int), .slice AS S'.length cS, .slice AL L.length cL, .bool g] 81) := HAT.out
  refine last_val 0 rfl (by kernel_rfl) (by kernel_rfl) (by kernel_rfl) (by decide) (by kernel_rfl) rfl (fun w' hw => exec_mv rfl (ev rfl)) (fun _ _ _ h => h) hS ?_
  simp only [Act.put, List.setIfInBounds_toArray, List.set_cons_succ, List.set_cons_zero]
  refine last_val 1 rfl (by kernel_rfl) (by kernel_rfl) (by kernel_rfl) (by decide) (by kernel_rfl) rfl (fun w' hw => exec_nil rfl (ev rfl)) (fun _ _ _ h => h) hS ?_
  simp only [Act.put, List.setIfInBounds_toArray, List.set_cons_succ, List.set_cons_zero]
  refine last_val 2 rfl (by kernel_rfl) (by kernel_rfl) (by kernel_rfl) (by decide) (by kernel_rfl) rfl (fun w' hw => exec_faddr rfl (ev rfl) faP0) (fun _ _ _ h => h) hS ?_
  simp only [Act.put, List.setIfInBounds_toArray, List.set_cons_succ, List.set_cons_zero]
  refine last_val 3 rfl (by kernel_rfl) (by kernel_rfl) (by kernel_rfl) (by decide) (by kernel_rfl) rfl (fun w' hw => exec_ld rfl (ev rfl) (ldI (cells4 hw).1)) (fun _ _ _ h => h) hS ?_
  simp only [Act.put, List.setIfInBounds_toArray, List.set_cons_succ, List.set_cons_zero]
  refine last_val 4 rfl (by kernel_rfl) (by kernel_rfl) (by kernel_rfl) (by decide) (by kernel_rfl) rfl (fun w' hw => exec_mv rfl (ev rfl)) (fun _ _ _ h => h) hS ?_
  simp only [Act.put, List.setIfInBounds_toArray, List.set_cons_succ, List.set_cons_zero]
  refine last_val 5 rfl (by kernel_rfl) (by kernel_rfl) (by kernel_rfl) (by decide) (by kernel_rfl) rfl (fun w' hw => exec_nil rfl (ev rfl)) (fun _ _ _ h => h) hS ?_
  simp only [Act.put, List.setIfInBounds_toArray, List.set_cons_succ, List.set_cons_zero]
  refine last_val 6 rfl (by kernel_rfl) (by kernel_rfl) (by kernel_rfl) (by decide) (by kernel_rfl) rfl (fun w' hw => exec_faddr rfl (ev rfl) faP1) (fun _ _ _ h => h) hS ?_
  simp only [Act.put, List.setIfInBounds_toArray, List.set_cons_succ, List.set_cons_zero]
  refine last_val 7 rfl (by kernel_rfl) (by kernel_rfl) (by kernel_rfl) (by decide) (by kernel_rfl) rfl (fun w' hw => exec_ld rfl (ev rfl) (ldB (cells4 hw).2.1)) (fun _ _ _ h => h) hS ?_
  simp only [Act.put, List.setIfInBounds_toArray, List.set_cons_succ, List.set_cons_zero]
  refine last_val 9 rfl (by kernel_rfl) (by kernel_rfl) (by kernel_rfl) (by decide) (by kernel_rfl) rfl (fun w' hw => exec_mv rfl (ev rfl)) (fun _ _ _ h => h) hS ?_
  simp only [Act.put, List.setIfInBounds_toArray, List.set_cons_succ, List.set_cons_zero]
  refine last_val 10 rfl (by kernel_rfl) (by kernel_rfl) (by kernel_rfl) (by decide) (by kernel_rfl) rfl (fun w' hw => exec_nil rfl (ev rfl)) (fun _ _ _ h => h) hS ?_
  simp only [Act.put, List.setIfInBounds_toArray, List.set_cons_succ, List.set_cons_zero]
  refine last_val 11 rfl (by kernel_rfl) (by kernel_rfl) (by kernel_rfl) (by decide) (by kernel_rfl) rfl (fun w' hw => exec_faddr rfl (ev rfl) faP2) (fun _ _ _ h => h) hS ?_
  simp only [Act.put, List.setIfInBounds_toArray, List.set_cons_succ, List.set_cons_zero]
  refine last_val 12 rfl (by kernel_rfl) (by kernel_rfl) (by kernel_rfl) (by decide) (by kernel_rfl) rfl (fun w' hw => exec_ld rfl (ev rfl) (ldP (cells4 hw).2.2.1)) (fun _ _ _ h => h) hS ?_
  simp only [Act.put, List.setIfInBounds_toArray, List.set_cons_succ, List.set_cons_zero]
  refine last_val 14 rfl (by kernel_rfl) (by kernel_rfl) (by kernel_rfl) (by decide) (by kernel_rfl) rfl (fun w' hw => exec_mv rfl (ev rfl)) (fun _ _ _ h => h) hS ?_
  simp only [Act.put, List.setIfInBounds_toArray, List.set_cons_succ, List.set_cons_zero]
  refine last_val 15 rfl (by kernel_rfl) (by kernel_rfl) (by kernel_rfl) (by decide) (by kernel_rfl) rfl (fun w' hw => exec_nil rfl (ev rfl)) (fun _ _ _ h => h) hS ?_
  simp only [Act.put, List.setIfInBounds_toArray, List.set_cons_succ, List.set_cons_zero]
  refine last_val 16 rfl (by kernel_rfl) (by kernel_rfl) (by kernel_rfl) (by decide) (by kernel_rfl) rfl (fun w' hw => exec_faddr rfl (ev rfl) faP3) (fun _ _ _ h => h) hS ?_
  simp only [Act.put, List.setIfInBounds_toArray, List.set_cons_succ, List.set_cons_zero]
  refine last_val 17 rfl (by kernel_rfl) (by kernel_rfl) (by kernel_rfl) (by decide) (by kernel_rfl) rfl (fun w' hw => exec_ld rfl (ev rfl) (ldG (cells4 hw).2.2.2)) (fun _ _ _ h => h) hS ?_
  simp only [Act.put, List.setIfInBounds_toArray, List.set_cons_succ, List.set_cons_zero]
  refine last_call 8 rfl (by kernel_rfl) rfl (exec_cl Try.call76 rfl (evc (ev rfl) evn)) ((clone_B w.drew _ S' HMS.out HLEN.out).mono ?_)
  rintro e w2 ⟨v2, rfl, hm2, hb2⟩
  obtain ⟨A2, c2, rfl, _, _⟩ := hm2.form
  have hb2' : Below w.heap.size w w2 := (bd (Below.refl _ w)).trans hb2
  have hS2 := blk_keep HAT.out hb2'
  refine ⟨_, rfl, fun _ => hS2, ?_⟩
  simp only [Act.put, List.setIfInBounds_toArray, List.set_cons_succ, List.set_cons_zero]
  refine last_call 13 rfl (by kernel_rfl) rfl (exec_cl Try.call77 rfl (evc (ev rfl) evn)) ((clone_W w2 _ L (HML.out.below hb2') (by omega)).mono ?_)
  rintro e w3 ⟨v3, rfl, hm3, hb3⟩
  obtain ⟨A3, c3, rfl, _, _⟩ := hm3.form
  have hb3' : Below w.heap.size w w3 := hb2'.trans (hb3.mono hb2'.size)
  have hS3 := blk_keep HAT.out hb3'
  refine ⟨_, rfl, fun _ => hS3, ?_⟩
  simp only [Act.put, List.setIfInBounds_toArray, List.set_cons_succ, List.set_cons_zero]
  refine last_turn 18 rfl (by kernel_rfl) rfl (exec_buildD rfl (ev rfl) (ev rfl) (ev rfl) (ev rfl)) (fun _ => hS3) ?_
  simp only [Act.put, List.setIfInBounds_toArray, List.set_cons_succ, List.set_cons_zero]
  refine last_turn 19 rfl (by kernel_rfl) rfl (exec_boxD rfl (ev rfl)) (fun _ => blk_past hS3 _) ?_
  simp only [Act.put, List.setIfInBounds_toArray, List.set_cons_succ, List.set_cons_zero]
  refine last_turn 20 rfl (by kernel_rfl) rfl (exec_as rfl (ev rfl)) (fun e => absurd rfl e) ?_
  simp only [Act.put, List.setIfInBounds_toArray, List.set_cons_succ, List.set_cons_zero]
  refine wpAnyZ_done (by kernel_rfl) ?_ _
  go_wp2_with fail
  go_ret
  have hal := (Below.refl w3.heap.size w3).alloc (Nat.le_refl _) (.cells #[.int .i64 (S.length : Int), .slice A2 S'.length c2, .slice A3 L.length c3, .bool g] 81)
  have hm2' := (hm2.below hb3).below hal
  have hm3' := hm3.below hal
  have hsz := hb3'.size
  have hsz2 := hb2'.size
  refine ⟨_, _, _, rfl, ⟨heap_alloc_new w3 _, HO.out, ?_, hm3'.base (Nat.zero_le _), HD.out⟩, hb3'.trans (hal.mono hsz), fun b hb => ?_⟩
  · rw [HS'.out]; exact hm2'.base (Nat.zero_le _)
  · rcases hb with rfl | hb | hb
    · exact hsz
    · exact hm2'.lt_own b hb
    · exact Nat.le_trans hsz2 (hm3'.lt_own b hb)
end Go.Proofs.Ytpcdcnnnkblhiaa
