/-
  Two plans: are they the same?
-/
import Derived.Test.YtplanbjjfaihbaaPnO
namespace Go.Proofs.Ytplanbjjfaihbaa
open Go.RowKit
set_option linter.unusedVariables false
set_option linter.unusedSimpArgs false
set_option maxRecDepth 100000


def PlAt (w : World) (b : Nat) (z : Int) (A : Option Addr) (n c : Nat) : Prop := w.heap[b]? = some (.cells (plC z (.slice A n c)).toArray 25 (0, 0))
section
variable {w w' : World} {b : Nat} {z : Int} {A : Option Addr} {n c : Nat}
theorem PlAt.c0 (h : PlAt w b z A n c) : w.cell? ⟨b, 0, none⟩ = some (.int .u8 z) := (rng_at h) 0 _ rfl
theorem PlAt.c1 (h : PlAt w b z A n c) : w.cell? ⟨b, 1, none⟩ = some (.slice A n c) := (rng_at h) 1 _ rfl
theorem PlAt.below (h : PlAt w b z A n c) (hb : Below w.heap.size w w') : PlAt w' b z A n c := (hb.block b (blk_ltP h)).trans h
theorem faPn0 : (Instr.fieldAt 25 (.pointer (some ⟨b, 0, none⟩)) 0).run Try.prog w = .ok (.pointer (some ⟨b, 0, none⟩)) w := by kernel_rfl
theorem faPn1 : (Instr.fieldAt 25 (.pointer (some ⟨b, 0, none⟩)) 1).run Try.prog w = .ok (.pointer (some ⟨b, 1, none⟩)) w := by kernel_rfl
theorem ldIsP {ad : Addr} (h : w.cell? ad = some (.slice A n c)) : (Instr.loadAt 23 (.pointer (some ad))).run Try.prog w = .ok (.slice A n c) w := by simp [go_sem, h]
theorem ldInP {ad : Addr} {x : Int} (h : w.cell? ad = some (.int .i64 x)) : (Instr.loadAt 3 (.pointer (some ad))).run Try.prog w = .ok (.int .i64 x) w := by simp [go_sem, h]
end
set_option maxHeartbeats 2000000 in
theorem rsame (A B : Option Addr) (n m c d N N' : Nat) (z y : Int) (a b : List Int) (w : World) (ha : RdE IntE w N A n a) (hb : RdE IntE w N' B m b) (hN : N ≤ w.heap.size ∧ N' ≤ w.heap.size) (hn : n ≤ 100000) :
    Calls Try.prog 10 #[.agg (plC z (.slice A n c)).toArray, .agg (plC y (.slice B m d)).toArray] w fun e w' => e = .returned (.bool (decide (z = y ∧ a = b))) ∧ Below w.heap.size w w' := by
  have h1 := (Below.refl w.heap.size w).alloc (Nat.le_refl _) (.cells (plC z (.slice A n c)).toArray 25)
  have h2 := (Below.refl (w.alloc (.cells (plC z (.slice A n c)).toArray 25)).heap.size _).alloc (Nat.le_refl _) (.cells (plC y (.slice B m d)).toArray 25)
  have HPA : Hid (PlAt _ w.heap.size z A n c) := Lib.hid (PlAt.below (show PlAt (w.alloc (.cells (plC z (.slice A n c)).toArray 25)) w.heap.size z A n c from heap_alloc_new w _) h2)
  have HPB : Hid (PlAt ((w.alloc (.cells (plC z (.slice A n c)).toArray 25)).alloc (.cells (plC y (.slice B m d)).toArray 25)) (w.heap.size + 1) y B m d) := Lib.hid (by
    have h3 := heap_alloc_new (w.alloc (.cells (plC z (.slice A n c)).toArray 25)) (.cells (plC y (.slice B m d)).toArray 25)
    rw [World.size_alloc] at h3
    exact h3)
  have HW := Lib.hid (h1.trans (h2.mono h1.size))
  have HRA := Lib.hid (ha.below (HW.out.mono hN.1))
  have HRB := Lib.hid (hb.below (HW.out.mono hN.2))
  have HN := Lib.hid hn
  have HLA := Lib.hid ha.1
  have HLB := Lib.hid hb.1
  have HNW : Hid (N ≤ ((w.alloc (.cells (plC z (.slice A n c)).toArray 25)).alloc (.cells (plC y (.slice B m d)).toArray 25)).heap.size ∧ N' ≤ ((w.alloc (.cells (plC z (.slice A n c)).toArray 25)).alloc (.cells (plC y (.slice B m d)).toArray 25)).heap.size) := Lib.hid (by have := HW.out.size; omega)
  clear ha hb hN hn h1 h2
  go_enter Try.func10, Try.ntmps10
  go_upto_region 1 with (first | (refine wpList_valn rfl (exec_boxT rfl rfl) ?_) | fail)
  generalize (w.alloc (.cells (plC z (.slice A n c)).toArray 25)).alloc (.cells (plC y (.slice B m d)).toArray 25) = w2 at *
  by_cases k0 : z = y
  rotate_left 1
  · have T0 : Hid ((z != y) = true) := Lib.hid (by simp only [bne_iff_ne, ne_eq]; exact k0)
    have HD : Hid (decide (z = y ∧ a = b) = false) := Lib.hid (decide_eq_false fun e => k0 e.1)
    clear k0
    refine wp_region_lit ?_
    refine wpList_valn rfl (exec_faddr rfl (ev rfl) faPn0) ?_
    simp only [Act.put, List.setIfInBounds_toArray, List.set_cons_succ, List.set_cons_zero]
    refine wpList_valn rfl (exec_ld rfl (ev rfl) (ldU8 (HPA.out).c0)) ?_
    simp only [Act.put, List.setIfInBounds_toArray, List.set_cons_succ, List.set_cons_zero]
    refine wpList_valn rfl (exec_faddr rfl (ev rfl) faPn0) ?_
    simp only [Act.put, List.setIfInBounds_toArray, List.set_cons_succ, List.set_cons_zero]
    refine wpList_valn rfl (exec_ld rfl (ev rfl) (ldU8 (HPB.out).c0)) ?_
    simp only [Act.put, List.setIfInBounds_toArray, List.set_cons_succ, List.set_cons_zero]
    refine wpList_valn (v := .bool true) rfl (exec_neInt true rfl (ev rfl) (ev rfl) T0.out) ?_
    simp only [Act.put, List.setIfInBounds_toArray, List.set_cons_succ, List.set_cons_zero]
    refine wpList_skips 7 (v := .bool true) rfl (exec_mv rfl (ev rfl)) (by kernel_rfl) ?_
    simp only [skipAct, List.take_succ_cons, List.take_zero, List.drop_succ_cons, List.drop_zero, Act.put, List.setIfInBounds_toArray, List.set_cons_succ, List.set_cons_zero]
    refine wpList_valn (v := .bool true) rfl (exec_pt rfl (ev rfl) evk) ?_
    simp only [Act.put, List.setIfInBounds_toArray, List.set_cons_succ, List.set_cons_zero]
    refine wpList_nil ?_
    go_upto_region 2 with fail
    refine wp_region_lit ?_
    refine wpList_valn (v := .bool false) rfl (exec_as rfl evk) ?_
    simp only [Act.put, List.setIfInBounds_toArray, List.set_cons_succ, List.set_cons_zero]
    refine wpList_nil ?_
    go_wp2_with fail
    go_ret
    exact ⟨by rw [HD.out]; rfl, HW.out⟩
  have T0 : Hid ((z != y) = false) := Lib.hid (by rw [k0]; exact bne_self_eq_false _)
  by_cases k1 : n = m
  rotate_left 1
  · have T1 : Hid (((n : Int) != (m : Int)) = true) := Lib.hid (by simp only [bne_iff_ne, ne_eq]; omega)
    have HD : Hid (decide (z = y ∧ a = b) = false) := Lib.hid (decide_eq_false fun e => k1 (by rw [← HLA.out, ← HLB.out, e.2]))
    clear k0 k1
    refine wp_region_lit ?_
    refine wpList_valn rfl (exec_faddr rfl (ev rfl) faPn0) ?_
    simp only [Act.put, List.setIfInBounds_toArray, List.set_cons_succ, List.set_cons_zero]
    refine wpList_valn rfl (exec_ld rfl (ev rfl) (ldU8 (HPA.out).c0)) ?_
    simp only [Act.put, List.setIfInBounds_toArray, List.set_cons_succ, List.set_cons_zero]
    refine wpList_valn rfl (exec_faddr rfl (ev rfl) faPn0) ?_
    simp only [Act.put, List.setIfInBounds_toArray, List.set_cons_succ, List.set_cons_zero]
    refine wpList_valn rfl (exec_ld rfl (ev rfl) (ldU8 (HPB.out).c0)) ?_
    simp only [Act.put, List.setIfInBounds_toArray, List.set_cons_succ, List.set_cons_zero]
    refine wpList_valn (v := .bool false) rfl (exec_neInt false rfl (ev rfl) (ev rfl) T0.out) ?_
    simp only [Act.put, List.setIfInBounds_toArray, List.set_cons_succ, List.set_cons_zero]
    refine wpList_valn (v := .bool false) rfl (exec_mv rfl (ev rfl)) ?_
    simp only [Act.put, List.setIfInBounds_toArray, List.set_cons_succ, List.set_cons_zero]
    refine wpList_val (wanted_of rfl rfl rfl rfl) (exec_faddr rfl (ev rfl) faPn1) ?_
    simp only [Act.put, List.setIfInBounds_toArray, List.set_cons_succ, List.set_cons_zero]
    refine wpList_val (wanted_of rfl rfl rfl rfl) (exec_ld rfl (ev rfl) (ldIsP (HPA.out).c1)) ?_
    simp only [Act.put, List.setIfInBounds_toArray, List.set_cons_succ, List.set_cons_zero]
    refine wpList_val (wanted_of rfl rfl rfl rfl) (exec_lenQ Try.underlying23 rfl (ev rfl)) ?_
    simp only [Act.put, List.setIfInBounds_toArray, List.set_cons_succ, List.set_cons_zero]
    refine wpList_val (wanted_of rfl rfl rfl rfl) (exec_faddr rfl (ev rfl) faPn1) ?_
    simp only [Act.put, List.setIfInBounds_toArray, List.set_cons_succ, List.set_cons_zero]
    refine wpList_val (wanted_of rfl rfl rfl rfl) (exec_ld rfl (ev rfl) (ldIsP (HPB.out).c1)) ?_
    simp only [Act.put, List.setIfInBounds_toArray, List.set_cons_succ, List.set_cons_zero]
    refine wpList_val (wanted_of rfl rfl rfl rfl) (exec_lenQ Try.underlying23 rfl (ev rfl)) ?_
    simp only [Act.put, List.setIfInBounds_toArray, List.set_cons_succ, List.set_cons_zero]
    refine wpList_val (v := .bool true) (wanted_of rfl rfl rfl rfl) (exec_neInt true rfl (ev rfl) (ev rfl) T1.out) ?_
    simp only [Act.put, List.setIfInBounds_toArray, List.set_cons_succ, List.set_cons_zero]
    refine wpList_valn (v := .bool true) rfl (exec_pf rfl (ev rfl) (ev rfl)) ?_
    simp only [Act.put, List.setIfInBounds_toArray, List.set_cons_succ, List.set_cons_zero]
    refine wpList_nil ?_
    go_upto_region 2 with fail
    refine wp_region_lit ?_
    refine wpList_valn (v := .bool false) rfl (exec_as rfl evk) ?_
    simp only [Act.put, List.setIfInBounds_toArray, List.set_cons_succ, List.set_cons_zero]
    refine wpList_nil ?_
    go_wp2_with fail
    go_ret
    exact ⟨by rw [HD.out]; rfl, HW.out⟩
  have T1 : Hid (((n : Int) != (m : Int)) = false) := Lib.hid (by rw [k1]; exact bne_self_eq_false _)
  have HZ := Lib.hid k0
  have HM := Lib.hid k1
  clear k0 k1
  refine wp_region_lit ?_
  refine wpList_valn rfl (exec_faddr rfl (ev rfl) faPn0) ?_
  simp only [Act.put, List.setIfInBounds_toArray, List.set_cons_succ, List.set_cons_zero]
  refine wpList_valn rfl (exec_ld rfl (ev rfl) (ldU8 (HPA.out).c0)) ?_
  simp only [Act.put, List.setIfInBounds_toArray, List.set_cons_succ, List.set_cons_zero]
  refine wpList_valn rfl (exec_faddr rfl (ev rfl) faPn0) ?_
  simp only [Act.put, List.setIfInBounds_toArray, List.set_cons_succ, List.set_cons_zero]
  refine wpList_valn rfl (exec_ld rfl (ev rfl) (ldU8 (HPB.out).c0)) ?_
  simp only [Act.put, List.setIfInBounds_toArray, List.set_cons_succ, List.set_cons_zero]
  refine wpList_valn (v := .bool false) rfl (exec_neInt false rfl (ev rfl) (ev rfl) T0.out) ?_
  simp only [Act.put, List.setIfInBounds_toArray, List.set_cons_succ, List.set_cons_zero]
  refine wpList_valn (v := .bool false) rfl (exec_mv rfl (ev rfl)) ?_
  simp only [Act.put, List.setIfInBounds_toArray, List.set_cons_succ, List.set_cons_zero]
  refine wpList_val (wanted_of rfl rfl rfl rfl) (exec_faddr rfl (ev rfl) faPn1) ?_
  simp only [Act.put, List.setIfInBounds_toArray, List.set_cons_succ, List.set_cons_zero]
  refine wpList_val (wanted_of rfl rfl rfl rfl) (exec_ld rfl (ev rfl) (ldIsP (HPA.out).c1)) ?_
  simp only [Act.put, List.setIfInBounds_toArray, List.set_cons_succ, List.set_cons_zero]
  refine wpList_val (wanted_of rfl rfl rfl rfl) (exec_lenQ Try.underlying23 rfl (ev rfl)) ?_
  simp only [Act.put, List.setIfInBounds_toArray, List.set_cons_succ, List.set_cons_zero]
  refine wpList_val (wanted_of rfl rfl rfl rfl) (exec_faddr rfl (ev rfl) faPn1) ?_
  simp only [Act.put, List.setIfInBounds_toArray, List.set_cons_succ, List.set_cons_zero]
  refine wpList_val (wanted_of rfl rfl rfl rfl) (exec_ld rfl (ev rfl) (ldIsP (HPB.out).c1)) ?_
  simp only [Act.put, List.setIfInBounds_toArray, List.set_cons_succ, List.set_cons_zero]
  refine wpList_val (wanted_of rfl rfl rfl rfl) (exec_lenQ Try.underlying23 rfl (ev rfl)) ?_
  simp only [Act.put, List.setIfInBounds_toArray, List.set_cons_succ, List.set_cons_zero]
  refine wpList_val (v := .bool false) (wanted_of rfl rfl rfl rfl) (exec_neInt false rfl (ev rfl) (ev rfl) T1.out) ?_
  simp only [Act.put, List.setIfInBounds_toArray, List.set_cons_succ, List.set_cons_zero]
  refine wpList_valn (v := .bool false) rfl (exec_pf rfl (ev rfl) (ev rfl)) ?_
  simp only [Act.put, List.setIfInBounds_toArray, List.set_cons_succ, List.set_cons_zero]
  refine wpList_nil ?_
  go_wp2_with fail
  go_loopw [5] (fun v wr => ∃ i : Nat, v = .int .i64 i ∧ i ≤ n ∧ (∀ j, j < i → a.getD j 0 = b.getD j 0) ∧ Below w2.heap.size w2 wr) (fun v _ => n - (intOf v).toNat)
  case atStart => exact ⟨0, by go_num, by omega, fun j hj => absurd hj (by omega), Below.refl _ _⟩
  case round =>
    obtain ⟨i, rfl, hi, hj, hb⟩ := hrel
    have HJ := Lib.hid hj
    have HW2 := Lib.hid hb
    have HQA := Lib.hid (HPA.out.below hb)
    have HQB := Lib.hid (HPB.out.below hb)
    have HWW := Lib.hid (HW.out.trans (hb.mono HW.out.size))
    by_cases hlt : i < n
    · have HI := Lib.hid hlt
      have HIM : Hid (i < m) := Lib.hid (by have := HM.out; omega)
      have HT : Hid (decide ((i : Int) < (n : Int)) = true) := Lib.hid (decide_eq_true (by omega))
      obtain ⟨ba, oa, rfl, ha0, ha⟩ := (HRA.out.below (hb.mono HNW.out.1)).int hlt
      obtain ⟨bb, ob, rfl, hb0, hbb⟩ := (HRB.out.below (hb.mono HNW.out.2)).int HIM.out
      obtain ⟨x, hx⟩ : ∃ x, a.getD i 0 = x := ⟨_, rfl⟩
      obtain ⟨u, hu⟩ : ∃ u, b.getD i 0 = u := ⟨_, rfl⟩
      rw [hx] at ha
      rw [hu] at hbb
      have HXU := Lib.hid (And.intro hx hu)
      have HCA : Hid (∀ w', Below wr.heap.size wr w' → w'.cell? ⟨ba, oa + i * IntE.n, none⟩ = some (.int .i64 x)) := Lib.hid fun w' h => by
        rw [show oa + i * IntE.n = oa + i from by show oa + i * 1 = _; omega]
        exact (World.cell?_of_block (w := wr) (h.block ba (by have := HNW.out.1; have := hb.size; omega))).trans ha
      have HCB : Hid (∀ w', Below wr.heap.size wr w' → w'.cell? ⟨bb, ob + i * IntE.n, none⟩ = some (.int .i64 u)) := Lib.hid fun w' h => by
        rw [show ob + i * IntE.n = ob + i from by show ob + i * 1 = _; omega]
        exact (World.cell?_of_block (w := wr) (h.block bb (by have := HNW.out.2; have := hb.size; omega))).trans hbb
      have HAJ : Hid (IntKind.i64.wrap ((i : Int) + 1) = ((i + 1 : Nat) : Int)) := Lib.hid (by have := HN.out; rw [i64k ⟨by omega, by omega⟩]; omega)
      clear hi hj hb ha0 ha hb0 hbb hx hu hlt
      go_upto_region 4 with fail
      refine wp_region_lit ?_
      refine wpList_valn rfl (exec_mv rfl (ev rfl)) ?_
      simp only [Act.put, List.setIfInBounds_toArray, List.set_cons_succ, List.set_cons_zero]
      refine wpList_valn rfl (exec_faddr rfl (ev rfl) faPn1) ?_
      simp only [Act.put, List.setIfInBounds_toArray, List.set_cons_succ, List.set_cons_zero]
      refine wpList_valn rfl (exec_ld rfl (ev rfl) (ldIsP (HQA.out).c1)) ?_
      simp only [Act.put, List.setIfInBounds_toArray, List.set_cons_succ, List.set_cons_zero]
      refine wpList_valn rfl (exec_lenQ Try.underlying23 rfl (ev rfl)) ?_
      simp only [Act.put, List.setIfInBounds_toArray, List.set_cons_succ, List.set_cons_zero]
      refine wpList_valn (v := .bool true) rfl (exec_lss true rfl (ev rfl) (ev rfl) HT.out) ?_
      simp only [Act.put, List.setIfInBounds_toArray, List.set_cons_succ, List.set_cons_zero]
      refine wpList_nil ?_
      by_cases hxu : x = u
      rotate_left 1
      · have TX : Hid ((x != u) = true) := Lib.hid (by simp only [bne_iff_ne, ne_eq]; exact hxu)
        have HD : Hid (decide (z = y ∧ a = b) = false) := Lib.hid (decide_eq_false fun e => hxu (by rw [← HXU.out.1, ← HXU.out.2, e.2]))
        clear hxu
        go_upto_region 6 with fail
        refine wp_region_above (B := wr.heap.size) (by kernel_rfl) ?_
        refine qv_val rfl (fun w' hw => exec_faddr rfl (ev rfl) faPn1) ?_
        simp only [Act.put, List.setIfInBounds_toArray, List.set_cons_succ, List.set_cons_zero]
        refine qv_val rfl (fun w' hw => exec_ld rfl (ev rfl) (ldIsP (HQA.out.below hw).c1)) ?_
        simp only [Act.put, List.setIfInBounds_toArray, List.set_cons_succ, List.set_cons_zero]
        refine qv_val rfl (fun w' hw => exec_mv rfl (ev rfl)) ?_
        simp only [Act.put, List.setIfInBounds_toArray, List.set_cons_succ, List.set_cons_zero]
        refine qv_val rfl (fun w' hw => exec_indexE (E := IntE) rfl (ev rfl) (ev rfl) HI.out) ?_
        simp only [Act.put, List.setIfInBounds_toArray, List.set_cons_succ, List.set_cons_zero]
        refine qv_val rfl (fun w' hw => exec_ld rfl (ev rfl) (ldInP (HCA.out _ hw))) ?_
        simp only [Act.put, List.setIfInBounds_toArray, List.set_cons_succ, List.set_cons_zero]
        refine qv_val rfl (fun w' hw => exec_faddr rfl (ev rfl) faPn1) ?_
        simp only [Act.put, List.setIfInBounds_toArray, List.set_cons_succ, List.set_cons_zero]
        refine qv_val rfl (fun w' hw => exec_ld rfl (ev rfl) (ldIsP (HQB.out.below hw).c1)) ?_
        simp only [Act.put, List.setIfInBounds_toArray, List.set_cons_succ, List.set_cons_zero]
        refine qv_val rfl (fun w' hw => exec_mv rfl (ev rfl)) ?_
        simp only [Act.put, List.setIfInBounds_toArray, List.set_cons_succ, List.set_cons_zero]
        refine qv_val rfl (fun w' hw => exec_indexE (E := IntE) rfl (ev rfl) (ev rfl) HIM.out) ?_
        simp only [Act.put, List.setIfInBounds_toArray, List.set_cons_succ, List.set_cons_zero]
        refine qv_val rfl (fun w' hw => exec_ld rfl (ev rfl) (ldInP (HCB.out _ hw))) ?_
        simp only [Act.put, List.setIfInBounds_toArray, List.set_cons_succ, List.set_cons_zero]
        refine qv_val (v := .bool true) rfl (fun w' hw => exec_neInt true rfl (ev rfl) (ev rfl) TX.out) ?_
        simp only [Act.put, List.setIfInBounds_toArray, List.set_cons_succ, List.set_cons_zero]
        refine wpQuiet_nil ?_
        intro w3 hw
        have HW3 := Lib.hid (HW2.out.trans (hw.mono HW2.out.size))
        have HWW3 := Lib.hid (HWW.out.trans (hw.mono HWW.out.size))
        clear hw
        go_upto_region 7 with fail
        refine wp_region_lit ?_
        refine wpList_valn (v := .bool false) rfl (exec_as rfl evk) ?_
        simp only [Act.put, List.setIfInBounds_toArray, List.set_cons_succ, List.set_cons_zero]
        refine wpList_nil ?_
        go_wp2_with fail
        go_ret
        exact ⟨by rw [HD.out]; rfl, HWW3.out⟩
      have TX : Hid ((x != u) = false) := Lib.hid (by rw [hxu]; exact bne_self_eq_false _)
      have HXE := Lib.hid hxu
      clear hxu
      go_upto_region 6 with fail
      refine wp_region_above (B := wr.heap.size) (by kernel_rfl) ?_
      refine qv_val rfl (fun w' hw => exec_faddr rfl (ev rfl) faPn1) ?_
      simp only [Act.put, List.setIfInBounds_toArray, List.set_cons_succ, List.set_cons_zero]
      refine qv_val rfl (fun w' hw => exec_ld rfl (ev rfl) (ldIsP (HQA.out.below hw).c1)) ?_
      simp only [Act.put, List.setIfInBounds_toArray, List.set_cons_succ, List.set_cons_zero]
      refine qv_val rfl (fun w' hw => exec_mv rfl (ev rfl)) ?_
      simp only [Act.put, List.setIfInBounds_toArray, List.set_cons_succ, List.set_cons_zero]
      refine qv_val rfl (fun w' hw => exec_indexE (E := IntE) rfl (ev rfl) (ev rfl) HI.out) ?_
      simp only [Act.put, List.setIfInBounds_toArray, List.set_cons_succ, List.set_cons_zero]
      refine qv_val rfl (fun w' hw => exec_ld rfl (ev rfl) (ldInP (HCA.out _ hw))) ?_
      simp only [Act.put, List.setIfInBounds_toArray, List.set_cons_succ, List.set_cons_zero]
      refine qv_val rfl (fun w' hw => exec_faddr rfl (ev rfl) faPn1) ?_
      simp only [Act.put, List.setIfInBounds_toArray, List.set_cons_succ, List.set_cons_zero]
      refine qv_val rfl (fun w' hw => exec_ld rfl (ev rfl) (ldIsP (HQB.out.below hw).c1)) ?_
      simp only [Act.put, List.setIfInBounds_toArray, List.set_cons_succ, List.set_cons_zero]
      refine qv_val rfl (fun w' hw => exec_mv rfl (ev rfl)) ?_
      simp only [Act.put, List.setIfInBounds_toArray, List.set_cons_succ, List.set_cons_zero]
      refine qv_val rfl (fun w' hw => exec_indexE (E := IntE) rfl (ev rfl) (ev rfl) HIM.out) ?_
      simp only [Act.put, List.setIfInBounds_toArray, List.set_cons_succ, List.set_cons_zero]
      refine qv_val rfl (fun w' hw => exec_ld rfl (ev rfl) (ldInP (HCB.out _ hw))) ?_
      simp only [Act.put, List.setIfInBounds_toArray, List.set_cons_succ, List.set_cons_zero]
      refine qv_val (v := .bool false) rfl (fun w' hw => exec_neInt false rfl (ev rfl) (ev rfl) TX.out) ?_
      simp only [Act.put, List.setIfInBounds_toArray, List.set_cons_succ, List.set_cons_zero]
      refine wpQuiet_nil ?_
      intro w3 hw
      have HW3 := Lib.hid (HW2.out.trans (hw.mono HW2.out.size))
      have HWW3 := Lib.hid (HWW.out.trans (hw.mono HWW.out.size))
      clear hw
      go_upto_region 5 with fail
      refine wp_region_lit ?_
      refine wpList_valn rfl (exec_mv rfl (ev rfl)) ?_
      simp only [Act.put, List.setIfInBounds_toArray, List.set_cons_succ, List.set_cons_zero]
      refine wpList_valn rfl (exec_add rfl (ev rfl) evk HAJ.out) ?_
      simp only [Act.put, List.setIfInBounds_toArray, List.set_cons_succ, List.set_cons_zero]
      refine wpList_valn rfl (exec_as rfl (ev rfl)) ?_
      simp only [Act.put, List.setIfInBounds_toArray, List.set_cons_succ, List.set_cons_zero]
      refine wpList_nil ?_
      go_wp2_with fail
      go_roundw
      case rel => exact ⟨i + 1, by go_num, HI.out, fun j hj => by
        by_cases e : j = i
        · rw [e, HXU.out.1, HXU.out.2, HXE.out]
        · exact HJ.out j (by omega), HW3.out⟩
      case measure => have := HI.out; simp [intOf]; omega
    have hin : i = n := by omega
    subst hin
    have HT : Hid (decide ((i : Int) < (i : Int)) = false) := Lib.hid (decide_eq_false (by omega))
    have HD : Hid (decide (z = y ∧ a = b) = true) := Lib.hid (decide_eq_true ⟨HZ.out, ext_ints (by rw [HLA.out, HLB.out, HM.out]) fun j hj' => HJ.out j (by rw [HLA.out] at hj'; exact hj')⟩)
    clear hi hj hb hlt
    go_upto_region 4 with fail
    refine wp_region_lit ?_
    refine wpList_valn rfl (exec_mv rfl (ev rfl)) ?_
    simp only [Act.put, List.setIfInBounds_toArray, List.set_cons_succ, List.set_cons_zero]
    refine wpList_valn rfl (exec_faddr rfl (ev rfl) faPn1) ?_
    simp only [Act.put, List.setIfInBounds_toArray, List.set_cons_succ, List.set_cons_zero]
    refine wpList_valn rfl (exec_ld rfl (ev rfl) (ldIsP (HQA.out).c1)) ?_
    simp only [Act.put, List.setIfInBounds_toArray, List.set_cons_succ, List.set_cons_zero]
    refine wpList_valn rfl (exec_lenQ Try.underlying23 rfl (ev rfl)) ?_
    simp only [Act.put, List.setIfInBounds_toArray, List.set_cons_succ, List.set_cons_zero]
    refine wpList_valn (v := .bool false) rfl (exec_lss false rfl (ev rfl) (ev rfl) HT.out) ?_
    simp only [Act.put, List.setIfInBounds_toArray, List.set_cons_succ, List.set_cons_zero]
    refine wpList_nil ?_
    go_upto_region 8 with fail
    refine wp_region_lit ?_
    refine wpList_valn (v := .bool true) rfl (exec_as rfl evk) ?_
    simp only [Act.put, List.setIfInBounds_toArray, List.set_cons_succ, List.set_cons_zero]
    refine wpList_nil ?_
    go_wp2_with fail
    go_ret
    exact ⟨by rw [HD.out]; rfl, HWW.out⟩
end Go.Proofs.Ytplanbjjfaihbaa
