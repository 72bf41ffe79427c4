/-
  ashlarref00.CopyCells, Cells over whatever slices of cells.
-/
import Derived.Test.YtfemlaombdeebaaDoorCel
import Derived.Test.YtfemlaombdeebaaDoorBlkX
namespace Go.Proofs.YtfemlaombdeebaaDoor
open Go.RowKit
set_option linter.unusedVariables false
set_option linter.unusedSimpArgs false
set_option maxRecDepth 100000

theorem getC_ext {a b : List Cl} (hl : a.length = b.length) (h : ∀ k, k < a.length → a.getD k zeroC = b.getD k zeroC) : a = b := by
  apply List.ext_getElem hl
  intro k h1 h2
  have := h k h1
  rw [List.getD, List.getD, List.getElem?_eq_getElem h1, List.getElem?_eq_getElem h2] at this
  simpa using this
set_option maxHeartbeats 800000 in
theorem cells_any (A B : Option Addr) (n m c d N : Nat) (a b : List Cl) (w : World) (ha : RdE CellE w N A n a) (hb : RdE CellE w N B m b) (hN : N ≤ w.heap.size) (hn : n ≤ maxLen) :
    Calls Tryd.prog 9 #[.slice A n c, .slice B m d] w fun e w' => e = .returned (.bool (decide (a = b))) ∧ Below w.heap.size w w' := by
  unfold maxLen at hn
  by_cases hnm : n = m
  · subst hnm
    go_enter Tryd.func9, Tryd.ntmps9
    go_wp2_with fail
    go_loopw [5] (fun i wr => ∃ k : Nat, k ≤ n ∧ i = .int .i64 k ∧ (∀ j, j < k → a.getD j zeroC = b.getD j zeroC) ∧ Below w.heap.size w wr) (fun i _ => n - (intOf i).toNat)
    case atStart => exact ⟨0, Nat.zero_le _, rfl, fun j hj => absurd hj (by omega), Below.refl _ _⟩
    case round =>
      obtain ⟨k, hk, rfl, hj, hbl⟩ := hrel
      have HJ := Lib.hid hj
      clear hj
      by_cases hlt : k < n
      · obtain ⟨bA, oA, rfl, hA, cA⟩ := (ha.below (hbl.mono hN)).cl hlt
        obtain ⟨bB, oB, rfl, hB, cB⟩ := (hb.below (hbl.mono hN)).cl hlt
        have HX := Lib.hid (rfl : a.getD k zeroC = a.getD k zeroC)
        generalize hx : a.getD k zeroC = x at *
        generalize hy : b.getD k zeroC = y at *
        have HA := Lib.hid cA
        have HB := Lib.hid cB
        have HXX := Lib.hid hx
        have HYY := Lib.hid hy
        clear cA cB hx hy HX
        go_wp2_with fail
        by_cases hxy : x = y
        · have hd : (!decide (x = y)) = false := by simpa using hxy
          refine wp_region_read (by kernel_rfl) ?_
          refine st_val rfl (exec_move rfl) ?_
          simp only [Act.put, List.setIfInBounds_toArray, List.set_cons_succ, List.set_cons_zero]
          refine st_val rfl (exec_move rfl) ?_
          simp only [Act.put, List.setIfInBounds_toArray, List.set_cons_succ, List.set_cons_zero]
          refine st_val rfl (exec_indexE (E := CellE) rfl rfl rfl hlt) ?_
          simp only [Act.put, List.setIfInBounds_toArray, List.set_cons_succ, List.set_cons_zero]
          refine st_val rfl (exec_loadC rfl rfl HA.out) ?_
          simp only [Act.put, List.setIfInBounds_toArray, List.set_cons_succ, List.set_cons_zero]
          refine st_val rfl (exec_move rfl) ?_
          simp only [Act.put, List.setIfInBounds_toArray, List.set_cons_succ, List.set_cons_zero]
          refine st_val rfl (exec_move rfl) ?_
          simp only [Act.put, List.setIfInBounds_toArray, List.set_cons_succ, List.set_cons_zero]
          refine st_val rfl (exec_indexE (E := CellE) rfl rfl rfl hlt) ?_
          simp only [Act.put, List.setIfInBounds_toArray, List.set_cons_succ, List.set_cons_zero]
          refine st_val rfl (exec_loadC rfl rfl HB.out) ?_
          simp only [Act.put, List.setIfInBounds_toArray, List.set_cons_succ, List.set_cons_zero]
          refine st_val rfl (exec_neC false rfl rfl rfl hd) ?_
          simp only [Act.put, List.setIfInBounds_toArray, List.set_cons_succ, List.set_cons_zero]
          refine wpStill_nil ?_
          clear hd
          go_wp2_with fail
          go_roundw
          case rel =>
            refine ⟨k + 1, by omega, by go_num, ?_, bd hbl⟩
            intro j hj
            by_cases h : j = k
            · subst h; rw [HXX.out, HYY.out]; exact hxy
            · exact HJ.out j (by omega)
          case measure => simp [intOf]; omega
        · have hd : (!decide (x = y)) = true := by simpa using hxy
          refine wp_region_read (by kernel_rfl) ?_
          refine st_val rfl (exec_move rfl) ?_
          simp only [Act.put, List.setIfInBounds_toArray, List.set_cons_succ, List.set_cons_zero]
          refine st_val rfl (exec_move rfl) ?_
          simp only [Act.put, List.setIfInBounds_toArray, List.set_cons_succ, List.set_cons_zero]
          refine st_val rfl (exec_indexE (E := CellE) rfl rfl rfl hlt) ?_
          simp only [Act.put, List.setIfInBounds_toArray, List.set_cons_succ, List.set_cons_zero]
          refine st_val rfl (exec_loadC rfl rfl HA.out) ?_
          simp only [Act.put, List.setIfInBounds_toArray, List.set_cons_succ, List.set_cons_zero]
          refine st_val rfl (exec_move rfl) ?_
          simp only [Act.put, List.setIfInBounds_toArray, List.set_cons_succ, List.set_cons_zero]
          refine st_val rfl (exec_move rfl) ?_
          simp only [Act.put, List.setIfInBounds_toArray, List.set_cons_succ, List.set_cons_zero]
          refine st_val rfl (exec_indexE (E := CellE) rfl rfl rfl hlt) ?_
          simp only [Act.put, List.setIfInBounds_toArray, List.set_cons_succ, List.set_cons_zero]
          refine st_val rfl (exec_loadC rfl rfl HB.out) ?_
          simp only [Act.put, List.setIfInBounds_toArray, List.set_cons_succ, List.set_cons_zero]
          refine st_val rfl (exec_neC true rfl rfl rfl hd) ?_
          simp only [Act.put, List.setIfInBounds_toArray, List.set_cons_succ, List.set_cons_zero]
          refine wpStill_nil ?_
          clear hd
          go_wp2_with fail
          go_ret
          refine ⟨?_, bd hbl⟩
          rw [decide_eq_false]
          · rfl
          · rintro rfl
            exact hxy (HXX.out.symm.trans HYY.out)
      · go_wp2_with fail
        go_ret
        refine ⟨?_, hbl⟩
        rw [decide_eq_true]
        · rfl
        · exact getC_ext (by rw [ha.1, hb.1]) fun k h => HJ.out k (by have := ha.1; omega)
  · have hne : ((n : Int) != (m : Int)) = true := by simp; omega
    go_enter Tryd.func9, Tryd.ntmps9
    go_wp2_with fail
    go_ret
    refine ⟨?_, Below.refl _ _⟩
    rw [decide_eq_false]
    · rfl
    · rintro rfl
      exact hnm (ha.1.symm.trans hb.1)

end Go.Proofs.YtfemlaombdeebaaDoor
