/-
  The program's seal.Put of a number and a body that may be.
-/
import Derived.Test.YtiandcigoflcmaaDoorSpb
namespace Go.Proofs.YtiandcigoflcmaaDoor
open Go.RowKit
set_option linter.unusedVariables false
set_option maxRecDepth 100000

theorem exec_fillP {ρ : Operand → Value} {o : Oper} {x y : Operand} {w : World} (g : Nat) (ho : o.op = .store 62 x y) (hx : ρ x = .pointer (some ⟨w.heap.size, 0, none⟩)) (hy : ρ y = .agg (partsA g)) :
    (execOp ρ o).run Tryd.prog (w.alloc (.cells #[.slice none 0 0, .slice none 0 0, .slice none 0 0, .slice none 0 0, .slice none 0 0] 62)) = .ok .skip (w.alloc (.cells (partsA g) 62)) :=
  exec_fillT (by kernel_rfl) rfl rfl ho hx hy
/-- What stands when the parts have been cut. -/
theorem putW_start (w w1 : World) (hb : Below ((w.alloc (.cells (cel zeroB).toArray 27)).alloc (.cells (cel zeroB).toArray 27)).heap.size ((w.alloc (.cells (cel zeroB).toArray 27)).alloc (.cells (cel zeroB).toArray 27)) w1) :
    PutW w.heap.size w (w1.alloc (.cells (partsA (w.heap.size + 1)) 62)) w.heap.size (w.heap.size + 1) w1.heap.size zeroB.toList := by
  have h1 := (Below.refl w.heap.size w).alloc (Nat.le_refl _) (.cells (cel zeroB).toArray 27)
  have h2 := h1.alloc h1.size (.cells (cel zeroB).toArray 27)
  have hs := hb.size
  simp only [World.size_alloc] at hs
  have hr : RowL w1 w.heap.size 27 zeroB.toList := RowL.below ((RowL.blk w zeroB 27).past _) (by simp only [World.size_alloc]; omega) hb
  have hg : RowL w1 (w.heap.size + 1) 27 zeroB.toList := RowL.below (by have := RowL.blk (w.alloc (.cells (cel zeroB).toArray 27)) zeroB 27; rwa [World.size_alloc] at this) (by simp only [World.size_alloc]; omega) hb
  have hbel : Below w.heap.size w w1 := h2.trans (hb.mono (by simp only [World.size_alloc]; omega))
  exact ⟨hr.past _, hg.past _, heap_alloc_new w1 _, hbel.alloc (by omega) _, Nat.le_refl _, by omega, by omega, by omega⟩
set_option maxHeartbeats 4000000 in
theorem put_yes (n m c N : Nat) (A : Option Addr) (b : List UInt8) (w : World) (T : Tab w) (hn : n < 18446744073709551616) (h0 : 0 < n) (hb : Rd w N A m b) (hN : N ≤ w.heap.size) (hm : m ≤ 44) :
    Calls Tryd.prog 20 #[.int .u64 n, .slice A m c] w fun e w' => e = .returned (.tuple #[blk (putB n b), .int .i64 (putE n b : Nat)]) ∧ Below w.heap.size w w' := by
  have hl := hb.1
  have hbl : b.length ≤ 44 := by omega
  have hE : putE n b = 0 := putE_ok (by omega) hbl
  have hB : putB n b = ofL (sealL n b) := putB_ok hE
  rw [hE, hB]
  have HS := Lib.hid (noSum_seal (n := n) hbl)
  have HH := Lib.hid (noSum_head (n := n) hbl)
  have HL := Lib.hid (noSum_length (n := n) hbl)
  have HL64 := Lib.hid (sealL_length n hbl)
  have HC := Lib.hid (more_lt (s := 0) (by omega) (headL n b))
  have HT := Lib.hid T
  have HR := Lib.hid hb
  have HB := Lib.hid hl
  have HN := Lib.hid hn
  have HNN := Lib.hid hN
  clear hE hB T hb hl hbl hn hN
  have hz : ((n : Int) == 0) = false := by simp; omega
  go_enter Tryd.func20, Tryd.ntmps20
  go_wp2_with (first | (refine wpList_val rfl (exec_alloc rfl) ?_) | fail)
  refine (cut_any (w.heap.size + 1) _).mono ?_
  rintro e w1 ⟨rfl, hb1⟩
  have hW := putW_start w w1 hb1
  have HBW := Lib.hid hb1.size
  clear hb1
  have HFP := HBW.out
  obtain ⟨c0, c1, c2, c3, c4⟩ := hW.par.cells
  obtain ⟨g, hg⟩ : ∃ g, w.heap.size + 1 = g := ⟨_, rfl⟩
  rw [hg] at hW c0 c1 c2 c3 c4
  rw [hg]
  have HGG := Lib.hid hg
  clear HFP hg
  have HW := Lib.hid hW
  clear hW
  go_wp2_with (first | (refine wpList_nul rfl (exec_fillP g rfl rfl rfl) ?_) | fail)
  clear c0 c1 c2 c3 c4 HBW HGG
  have HN8 := HN.out
  refine (lay_any g 0 8 n 27 zeroB.toList _ HW.out.row (by omega) (by omega) (by simp) (by simpa using HN8)).mono ?_
  rintro e w2 ⟨rfl, hr2, hg2⟩
  have HW2 := Lib.hid (HW.out.turn hr2 hg2 (Nat.le_refl _))
  clear hr2 hg2 HW
  obtain ⟨c0, c1, c2, c3, c4⟩ := HW2.out.par.cells
  generalize w1.heap.size = p at *
  obtain ⟨r, hr⟩ : ∃ r, r = w.heap.size := ⟨_, rfl⟩
  have HRR := Lib.hid hr
  rw [← hr] at HNN HW2 ⊢
  clear hr
  clear HN8
  go_wp2_with fail
  clear c0 c1 c2 c3 c4
  have HN8 := HN.out
  refine (lay_any g 56 8 n 27 _ _ HW2.out.row (by omega) (by omega) (by rw [noSum_1]; omega) (by simpa using HN8)).mono ?_
  rintro e w3 ⟨rfl, hr3, hg3⟩
  have HW3 := Lib.hid (HW2.out.turn hr3 hg3 (Nat.le_of_eq HRR.out))
  clear hr3 hg3 HW2 HN8
  obtain ⟨c0, c1, c2, c3, c4⟩ := HW3.out.par.cells
  have HR3 := Lib.hid (HR.out.below (HW3.out.bel.mono HNN.out))
  have HL2 := Lib.hid (noSum_2 n)
  obtain ⟨l2, hl2⟩ : ∃ l2, splice (splice zeroB.toList 0 (digL 8 8 n)) 56 (digL 8 8 n) = l2 := ⟨_, rfl⟩
  have HNS : Hid (splice l2 8 b = noSum n b) := Lib.hid (by rw [← hl2]; rfl)
  rw [hl2] at HW3 HL2
  clear hl2
  go_wp2_with (with_reducible refine wpList_copyL rfl _ _ rfl g 8 44 44 m c N A 27 l2 b rfl rfl HW3.out.row HR3.out hm ?c1 ?_)
  case c1 => rw [HL2.out]; omega
  intro w4 hr4 hg4
  rw [HNS.out] at hr4
  have HW4 := Lib.hid (HW3.out.turn hr4 hg4 (Nat.le_of_eq HRR.out))
  clear hr4 hg4 HW3 HR3 HL2 c0 c1 c2 c3 c4
  go_wp2_with fail
  refine wp_region_held (S := fun w' => Hid (PutW r w w' r g p (noSum n b) ∨ PutW r w w' r g p (sealL n b))) (by kernel_rfl) ?_
  change wpAnyH _ _ _ _ _ 7 _ _ w4.drew
  have hS : Hid (PutW r w w4.drew r g p (noSum n b) ∨ PutW r w w4.drew r g p (sealL n b)) := Lib.hid (.inl HW4.out.draw)
  refine held_val 0 rfl (by kernel_rfl) (by kernel_rfl) (by kernel_rfl) rfl (fun w' hw => exec_faddr rfl (ev rfl) faP2) (fun _ _ _ h => h) hS ?_
  simp only [Act.put, List.setIfInBounds_toArray, List.set_cons_succ, List.set_cons_zero]
  refine held_val 1 rfl (by kernel_rfl) (by kernel_rfl) (by kernel_rfl) rfl (fun w' hw => exec_ld rfl (ev rfl) (ldS (hw.out.elim (fun h => h.par.cells.2.2.1) (fun h => h.par.cells.2.2.1)))) (fun _ _ _ h => h) hS ?_
  simp only [Act.put, List.setIfInBounds_toArray, List.set_cons_succ, List.set_cons_zero]
  refine held_val 2 rfl (by kernel_rfl) (by kernel_rfl) (by kernel_rfl) rfl (fun w' hw => exec_faddr rfl (ev rfl) faP4) (fun _ _ _ h => h) hS ?_
  simp only [Act.put, List.setIfInBounds_toArray, List.set_cons_succ, List.set_cons_zero]
  refine held_val 3 rfl (by kernel_rfl) (by kernel_rfl) (by kernel_rfl) rfl (fun w' hw => exec_ld rfl (ev rfl) (ldS (hw.out.elim (fun h => h.par.cells.2.2.2.2) (fun h => h.par.cells.2.2.2.2)))) (fun _ _ _ h => h) hS ?_
  simp only [Act.put, List.setIfInBounds_toArray, List.set_cons_succ, List.set_cons_zero]
  refine held_call 4 rfl (by kernel_rfl) rfl (exec_cl Tryd.call35 rfl (evc (ev rfl) evn)) ?_
  have T4 : Tab w4.drew := (HT.out.below (by rw [← HRR.out]; exact HW4.out.draw.bel))
  have R4 := HW4.out.draw.row.rd (p := 0) (k := 52) (by rw [HL.out]; omega)
  rw [HH.out] at R4
  refine (of_any _ 52 52 _ (headL n b) _ T4 R4 (by unfold maxLen; omega)).mono ?_
  rintro e w' ⟨rfl, rfl⟩
  refine ⟨_, rfl, hS, ?_⟩
  simp only [Act.put, List.setIfInBounds_toArray, List.set_cons_succ, List.set_cons_zero]
  clear T4 R4
  refine held_val 5 rfl (by kernel_rfl) (by kernel_rfl) (by kernel_rfl) rfl (fun w' hw => exec_cv32 rfl (ev rfl) HC.out) (fun _ _ _ h => h) hS ?_
  simp only [Act.put, List.setIfInBounds_toArray, List.set_cons_succ, List.set_cons_zero]
  refine held_call 6 rfl (by kernel_rfl) rfl (exec_cl Tryd.call34 rfl (evc (ev rfl) (evc (ev rfl) evn))) ?_
  refine (lay_any g 52 4 (more 0 (headL n b)) 27 _ _ HW4.out.draw.row (by omega) (by omega) (by rw [HL.out]; omega) (by have := HC.out; simpa using this)).mono ?_
  rintro e w5 ⟨rfl, hr5, hg5⟩
  rw [HS.out] at hr5
  have HW5 := Lib.hid (HW4.out.draw.turn hr5 hg5 (Nat.le_of_eq HRR.out))
  refine ⟨_, rfl, Lib.hid (.inr HW5.out), ?_⟩
  simp only [Act.put, List.setIfInBounds_toArray, List.set_cons_succ, List.set_cons_zero]
  clear hr5 hg5 hS HW4
  refine wpAnyH_done (by kernel_rfl) ?_ _
  have HG := Lib.hid (HW5.out.row.range HL64.out)
  have HTH : Hid (w5.there r 0 64) := Lib.hid (there_row HW5.out.res.row (by simp))
  have HBB : Hid (Below w.heap.size w w5) := Lib.hid (by rw [← HRR.out]; exact HW5.out.bel)
  go_wp2_with (first | (refine wpList_val rfl (exec_load rfl rfl HG.out) ?_) | (refine wpList_nul rfl (exec_store rfl rfl rfl HTH.out) ?_) | fail)
  refine bodyPost_ret (res_blk2 rfl _ _ _ rfl (World.rangeAt_setCells_same _ _ _ _ (by rw [cel_length]; exact HTH.out))) rfl ⟨rfl, below_setCells HBB.out (Nat.le_of_eq HRR.out.symm) _⟩

/-- The program's Put, whatever it is given. -/
theorem put_all (n m c N : Nat) (A : Option Addr) (b : List UInt8) (w : World) (T : Tab w) (hn : n < 18446744073709551616) (hb : Rd w N A m b) (hN : N ≤ w.heap.size) (hm : m ≤ maxLen) :
    Calls Tryd.prog 20 #[.int .u64 n, .slice A m c] w fun e w' => e = .returned (.tuple #[blk (putB n b), .int .i64 (putE n b : Nat)]) ∧ Below w.heap.size w w' := by
  by_cases h0 : n = 0
  · subst h0
    exact put_arg m c A b w hb.1
  · by_cases h44 : m ≤ 44
    · exact put_yes n m c N A b w T hn (by omega) hb hN h44
    · exact put_long n m c A b w hb.1 (by omega) (by omega) hm
end Go.Proofs.YtiandcigoflcmaaDoor
