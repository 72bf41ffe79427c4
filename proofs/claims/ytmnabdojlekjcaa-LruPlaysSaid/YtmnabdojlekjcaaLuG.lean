/-
  A list that lives; what none, and a zero one, answer: LruNil's walk.
-/
import Derived.Test.YtmnabdojlekjcaaLuD
import Derived.Test.YtmnabdojlekjcaaInts
namespace Go.Proofs.Ytmnabdojlekjcaa
open Go.RowKit
set_option linter.unusedVariables false
set_option linter.unusedSimpArgs false
set_option maxRecDepth 100000

section
variable {w w' : World} {B p room : Nat} {L : List Ky} {k : Int}
theorem pl_touch_v {g e0 : Int} {t : Bool} {L' : List Ky} (w : World) (h : PL w B p room L) (hw : (Lit.int .i64 k).wf = true) (hg : tchG room k L = g) (ht : tchW room k L = t) (he : tchE room k L = e0) (hs : tchS room k L = L') :
    Calls Try.prog 16 #[.pointer (some ⟨p, 0, none⟩), .int .i64 k] w fun e w' => e = .returned (.tuple #[.int .i64 g, .bool t, .int .i64 e0]) ∧ PL w' B p room L' ∧ TurnP B w w' := by
  subst hg ht he hs
  exact pl_touch w h hw
theorem pl_pin_v {e0 : Int} {is : Bool} {L' : List Ky} (w : World) (h : PL w B p room L) (hw : (Lit.int .i64 k).wf = true) (he : fndE k L = e0) (hs : pinS k is L = L') : Calls Try.prog 17 #[.pointer (some ⟨p, 0, none⟩), .int .i64 k, .bool is] w fun e w' => e = .returned (.int .i64 e0) ∧ PL w' B p room L' ∧ TurnP B w w' := by
  subst he hs
  exact pl_pin w h hw is
theorem pl_drop_v {e0 : Int} {L' : List Ky} (w : World) (h : PL w B p room L) (hw : (Lit.int .i64 k).wf = true) (he : fndE k L = e0) (hs : drpS k L = L') : Calls Try.prog 20 #[.pointer (some ⟨p, 0, none⟩), .int .i64 k] w fun e w' => e = .returned (.int .i64 e0) ∧ PL w' B p room L' ∧ TurnP B w w' := by
  subst he hs
  exact pl_drop w h hw
theorem pl_has_v {t : Bool} (w : World) (h : PL w B p room L) (hw : (Lit.int .i64 k).wf = true) (ht : hasK k L = t) : Calls Try.prog 18 #[.pointer (some ⟨p, 0, none⟩), .int .i64 k] w fun e w' => e = .returned (.bool t) ∧ w = w' := by
  subst ht
  exact pl_has w h hw
theorem pl_pinned_v {t : Bool} (w : World) (h : PL w B p room L) (hw : (Lit.int .i64 k).wf = true) (ht : pndK k L = t) : Calls Try.prog 19 #[.pointer (some ⟨p, 0, none⟩), .int .i64 k] w fun e w' => e = .returned (.bool t) ∧ w = w' := by
  subst ht
  exact pl_pinned w h hw
theorem wf_i {k : Int} (h : -9223372036854775808 ≤ k ∧ k ≤ 9223372036854775807) : (Lit.int .i64 k).wf = true := WalkArith.wf_i64 h
/-- Rows of numbers stay where the program's list turns. -/
theorem made_turnP {v : Value} {b : Nat} {l : List Int} (h : MadeE IntE w b v l) (ht : TurnP B w w') : MadeE IntE w' b v l := by
  refine ⟨h.1, ?_⟩
  rcases h.2 with hn | ⟨g, cap, cur, rfl, hbg, hg, rest⟩
  · exact .inl hn
  · exact .inr ⟨g, cap, cur, rfl, hbg, ht.keep hg (by show ¬ (3 = 52 ∨ 3 = 49); decide), rest⟩
end
def L5 : List Ky := [⟨5, false⟩]
def L65 : List Ky := [⟨6, false⟩, ⟨5, false⟩]
def L65p : List Ky := [⟨6, false⟩, ⟨5, true⟩]
def L75 : List Ky := [⟨7, false⟩, ⟨5, true⟩]
set_option maxHeartbeats 2000000 in
theorem l_lives (w : World) : Calls Try.prog 10 #[] w fun e w' => e = .returned (.bool true) ∧ Below w.heap.size w w' := by
  go_enter Try.func10, Try.ntmps10
  go_wp2_with fail
  refine (pl_new 2 w (by omega) (by omega)).mono ?_
  rintro e w1 ⟨p, rfl, h1, b1⟩
  have H1 := Lib.hid h1
  have B1 := Lib.hid b1
  clear h1 b1
  go_wp2_with fail
  refine (pl_touch_v w1 H1.out (wf_i (by omega)) (g := 0) (t := false) (e0 := 0) (L' := L5) rfl rfl rfl rfl).mono ?_
  rintro e w2 ⟨rfl, h2, t2⟩
  have H2 := Lib.hid h2
  have T2 := Lib.hid t2
  clear h2 t2
  go_wp2_with fail
  refine (pl_touch_v w2 H2.out (wf_i (by omega)) (g := 0) (t := false) (e0 := 0) (L' := L65) rfl rfl rfl rfl).mono ?_
  rintro e w3 ⟨rfl, h3, t3⟩
  have H3 := Lib.hid h3
  have T3 := Lib.hid (T2.out.trans t3)
  clear h3 t3
  go_wp2_with fail
  refine (pl_pin_v w3 H3.out (wf_i (by omega)) (e0 := 0) (L' := L65p) rfl rfl).mono ?_
  rintro e w4 ⟨rfl, h4, t4⟩
  have H4 := Lib.hid h4
  have T4 := Lib.hid (T3.out.trans t4)
  clear h4 t4
  go_wp2_with fail
  refine (pl_touch_v w4 H4.out (wf_i (by omega)) (g := 6) (t := true) (e0 := 0) (L' := L75) rfl rfl rfl rfl).mono ?_
  rintro e w5 ⟨rfl, h5, t5⟩
  have H5 := Lib.hid h5
  have T5 := Lib.hid (T4.out.trans t5)
  clear h5 t5
  go_wp2_with fail
  refine (pl_keys w5 H5.out).mono ?_
  rintro e w6 ⟨v6, rfl, hm6, b6⟩
  obtain ⟨A6, c6, hv6, h61, h62⟩ := hm6.form
  subst hv6
  have hr6 : RdE IntE w6 w6.heap.size A6 2 [7, 5] := hm6.rd
  have HR := Lib.hid hr6
  have H6 := Lib.hid (H5.out.below b6)
  have T6 := Lib.hid (T5.out.trans (Turn.of_below b6))
  clear hm6 b6 h61 h62 hr6
  go_wp2_with fail
  refine (ints_any _ _ _ _ _ _ (w6.heap.size + 1) _ [7, 5] _ (HR.out.up _) (rdE_new w6 _ _ rfl) (by simp) (by unfold maxLen; decide)).mono ?_
  rintro e w7 ⟨rfl, b7⟩
  have b7' := ((Below.refl w6.heap.size w6).alloc (Nat.le_refl _) (.cells #[.int .i64 7, .int .i64 5] 3)).trans (b7.mono (by simp))
  have H7 := Lib.hid (H6.out.below b7')
  have T7 := Lib.hid (T6.out.trans (Turn.of_below b7'))
  clear b7 b7'
  rw [show sameI [7, 5] [7, 5] = true from rfl]
  go_wp2_with fail
  refine (pl_drop_v w7 H7.out (wf_i (by omega)) (e0 := 7) (L' := L75) rfl rfl).mono ?_
  rintro e w8 ⟨rfl, h8, t8⟩
  have T8 := Lib.hid (T7.out.trans t8)
  clear h8 t8
  go_wp2_with fail
  go_ret
  exact ⟨rfl, Turn.below B1.out T8.out B1.out.size⟩
/-- None, or a zero one. -/
def NoL15 (w : World) (v : Value) : Prop := v = .pointer none ∨ ∃ b, v = .pointer (some ⟨b, 0, none⟩) ∧ w.heap[b]? = some (.cells #[.int .i64 0, .pointer none, .map none] 49 (0, 0))
section
variable {w w' : World} {v : Value} {k : Int}
theorem NoL15.below (h : NoL15 w v) (hb : Below w.heap.size w w') : NoL15 w' v := by
  rcases h with h | ⟨b, h, ha⟩
  · exact .inl h
  · exact .inr ⟨b, h, blk_keep ha hb⟩
theorem no_made (h : NoL15 w v) : Calls Try.prog 27 #[v] w fun e w' => e = .returned (.bool false) ∧ w = w' := by
  rcases h with rfl | ⟨b, rfl, ha⟩
  · go_enter Try.func27, Try.ntmps27
    go_upto_region 1 with fail
    refine wp_region_lit ?_
    refine wpList_valn rfl (exec_mv rfl (ev rfl)) ?_
    simp only [Act.put, List.setIfInBounds_toArray, List.set_cons_succ, List.set_cons_zero]
    refine wpList_valn (v := .bool false) rfl (exec_neNil false Try.underlying23 rfl (ev rfl) evk rfl) ?_
    simp only [Act.put, List.setIfInBounds_toArray, List.set_cons_succ, List.set_cons_zero]
    refine wpList_skips 5 (v := .bool false) rfl (exec_mv rfl (ev rfl)) (by kernel_rfl) ?_
    simp only [skipAct, List.take_succ_cons, List.take_zero, List.drop_succ_cons, List.drop_zero, Act.put, List.setIfInBounds_toArray, List.set_cons_succ, List.set_cons_zero]
    refine wpList_valn (v := .bool false) rfl (exec_pf rfl (ev rfl) evk) ?_
    simp only [Act.put, List.setIfInBounds_toArray, List.set_cons_succ, List.set_cons_zero]
    refine wpList_valn (v := .bool false) rfl (exec_as rfl (ev rfl)) ?_
    simp only [Act.put, List.setIfInBounds_toArray, List.set_cons_succ, List.set_cons_zero]
    refine wpList_nil ?_
    go_wp2_with fail
    go_ret
    exact ⟨rfl, rfl⟩
  · have c0 := (cells3 ha).1
    clear ha
    go_enter Try.func27, Try.ntmps27
    go_wp2_with fail
    go_ret
    exact ⟨rfl, rfl⟩
theorem no_find (h : NoL15 w v) : Calls Try.prog 33 #[v, .int .i64 k] w fun e w' => e = .returned (.tuple #[.pointer none, .int .i64 1]) ∧ w = w' := by
  have H := Lib.hid h
  clear h
  go_enter Try.func33, Try.ntmps33
  go_wp2_with fail
  refine (no_made H.out).mono ?_
  rintro e w1 ⟨rfl, rfl⟩
  go_wp2_with fail
  go_ret2
  exact ⟨rfl, rfl⟩
theorem no_touch (h : NoL15 w v) : Calls Try.prog 16 #[v, .int .i64 k] w fun e w' => e = .returned (.tuple #[.int .i64 0, .bool false, .int .i64 1]) ∧ w = w' := by
  have H := Lib.hid h
  clear h
  go_enter Try.func16, Try.ntmps16
  go_wp2_with fail
  refine (no_made H.out).mono ?_
  rintro e w1 ⟨rfl, rfl⟩
  go_wp2_with fail
  go_ret3
  exact ⟨rfl, rfl⟩
theorem no_pin {t : Bool} (h : NoL15 w v) : Calls Try.prog 17 #[v, .int .i64 k, .bool t] w fun e w' => e = .returned (.int .i64 1) ∧ w = w' := by
  have H := Lib.hid h
  clear h
  go_enter Try.func17, Try.ntmps17
  go_wp2_with fail
  refine (no_find H.out).mono ?_
  rintro e w1 ⟨rfl, rfl⟩
  go_wp2_with fail
  go_ret
  exact ⟨rfl, rfl⟩
theorem no_drop (h : NoL15 w v) : Calls Try.prog 20 #[v, .int .i64 k] w fun e w' => e = .returned (.int .i64 1) ∧ w = w' := by
  have H := Lib.hid h
  clear h
  go_enter Try.func20, Try.ntmps20
  go_wp2_with fail
  refine (no_find H.out).mono ?_
  rintro e w1 ⟨rfl, rfl⟩
  go_wp2_with fail
  go_ret
  exact ⟨rfl, rfl⟩
theorem no_has (h : NoL15 w v) : Calls Try.prog 18 #[v, .int .i64 k] w fun e w' => e = .returned (.bool false) ∧ w = w' := by
  have H := Lib.hid h
  clear h
  go_enter Try.func18, Try.ntmps18
  go_wp2_with fail
  refine (no_find H.out).mono ?_
  rintro e w1 ⟨rfl, rfl⟩
  go_wp2_with fail
  go_ret
  exact ⟨rfl, rfl⟩
theorem no_pinned (h : NoL15 w v) : Calls Try.prog 19 #[v, .int .i64 k] w fun e w' => e = .returned (.bool false) ∧ w = w' := by
  have H := Lib.hid h
  clear h
  go_enter Try.func19, Try.ntmps19
  go_wp2_with fail
  refine (no_find H.out).mono ?_
  rintro e w1 ⟨rfl, rfl⟩
  go_wp2_with fail
  go_ret
  exact ⟨rfl, rfl⟩
theorem no_keys (h : NoL15 w v) : Calls Try.prog 13 #[v] w fun e w' => e = .returned (.slice none 0 0) ∧ w = w' := by
  have H := Lib.hid h
  clear h
  go_enter Try.func13, Try.ntmps13
  go_wp2_with fail
  refine (no_made H.out).mono ?_
  rintro e w1 ⟨rfl, rfl⟩
  go_wp2_with fail
  go_ret
  exact ⟨rfl, rfl⟩
theorem no_room (h : NoL15 w v) : Calls Try.prog 15 #[v] w fun e w' => e = .returned (.int .i64 0) ∧ w = w' := by
  have H := Lib.hid h
  clear h
  go_enter Try.func15, Try.ntmps15
  go_wp2_with fail
  refine (no_made H.out).mono ?_
  rintro e w1 ⟨rfl, rfl⟩
  go_wp2_with fail
  go_ret
  exact ⟨rfl, rfl⟩
end
set_option maxHeartbeats 2000000 in
theorem wlru_nil (k : Int) (is : Bool) (w : World) : Calls Try.prog 7 #[.int .i64 k, .bool is, .bool false] w fun e w' => e = .returned (.bool true) ∧ Below w.heap.size w w' := by
  have H : Hid (NoL15 w (.pointer none)) := Lib.hid (.inl rfl)
  go_enter Try.func7, Try.ntmps7
  go_wp2_with fail
  refine (no_touch H.out).mono ?_
  rintro e w1 ⟨rfl, rfl⟩
  go_wp2_with fail
  refine (no_pin H.out).mono ?_
  rintro e w1 ⟨rfl, rfl⟩
  go_wp2_with fail
  refine (no_drop H.out).mono ?_
  rintro e w1 ⟨rfl, rfl⟩
  go_wp2_with fail
  refine (no_has H.out).mono ?_
  rintro e w1 ⟨rfl, rfl⟩
  go_wp2_with fail
  refine (no_pinned H.out).mono ?_
  rintro e w1 ⟨rfl, rfl⟩
  go_wp2_with fail
  refine (no_keys H.out).mono ?_
  rintro e w1 ⟨rfl, rfl⟩
  go_wp2_with fail
  refine (no_room H.out).mono ?_
  rintro e w1 ⟨rfl, rfl⟩
  go_wp2_with fail
  refine (l_lives _).mono ?_
  rintro e w2 ⟨rfl, hb⟩
  go_wp2_with fail
  go_ret
  exact ⟨rfl, hb⟩
set_option maxHeartbeats 2000000 in
theorem wlru_zero (k : Int) (is : Bool) (w : World) : Calls Try.prog 7 #[.int .i64 k, .bool is, .bool true] w fun e w' => e = .returned (.bool true) ∧ Below w.heap.size w w' := by
  obtain ⟨w0, hw0⟩ : ∃ w0, w.alloc (.cells #[.int .i64 0, .pointer none, .map none] 49) = w0 := ⟨_, rfl⟩
  have H : Hid (NoL15 w0 (.pointer (some ⟨w.heap.size, 0, none⟩))) := Lib.hid (.inr ⟨w.heap.size, rfl, by rw [← hw0]; exact heap_alloc_new w _⟩)
  have HB : Hid (Below w.heap.size w w0) := Lib.hid (by rw [← hw0]; exact (Below.refl _ _).alloc (Nat.le_refl _) _)
  have HW := Lib.hid hw0
  clear hw0
  go_enter Try.func7, Try.ntmps7
  go_upto_region 4 with fail
  rw [HW.out]
  go_wp2_with fail
  refine (no_touch H.out).mono ?_
  rintro e w1 ⟨rfl, rfl⟩
  go_wp2_with fail
  refine (no_pin H.out).mono ?_
  rintro e w1 ⟨rfl, rfl⟩
  go_wp2_with fail
  refine (no_drop H.out).mono ?_
  rintro e w1 ⟨rfl, rfl⟩
  go_wp2_with fail
  refine (no_has H.out).mono ?_
  rintro e w1 ⟨rfl, rfl⟩
  go_wp2_with fail
  refine (no_pinned H.out).mono ?_
  rintro e w1 ⟨rfl, rfl⟩
  go_wp2_with fail
  refine (no_keys H.out).mono ?_
  rintro e w1 ⟨rfl, rfl⟩
  go_wp2_with fail
  refine (no_room H.out).mono ?_
  rintro e w1 ⟨rfl, rfl⟩
  go_wp2_with fail
  refine (l_lives _).mono ?_
  rintro e w2 ⟨rfl, hb⟩
  go_wp2_with fail
  go_ret
  exact ⟨rfl, HB.out.trans (hb.mono HB.out.size)⟩
theorem wlruNil (k : Int) (is z : Bool) (w : World) : Calls Try.prog 7 #[.int .i64 k, .bool is, .bool z] w fun e w' => e = .returned (.bool true) ∧ Below w.heap.size w w' := by
  cases z
  · exact wlru_nil k is w
  · exact wlru_zero k is w
end Go.Proofs.Ytmnabdojlekjcaa
