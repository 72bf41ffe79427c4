/-
  ashlarref00.Blocks, CopyBlocks, WideBlocks, LeftBlocks over whatever slices of blocks.
-/
import Derived.Test.YtfemlaombdeebaaBlkH
namespace Go.Proofs.Ytfemlaombdeebaa
open Go.RowKit
set_option linter.unusedVariables false
set_option linter.unusedSimpArgs false

/-- The block that WideBlocks lays behind. -/
def sevenB : Blk := zeroB.set 0 7
theorem fill_seven : Instr.fill (fun i => some (i * 1, 1)) (cel zeroB).toArray [(0, .int .u8 7)] = some (cel sevenB).toArray := by kernel_rfl
section
variable {ρ : Operand → Value} {o : Oper} {x y : Operand} {w : World} {c d : Blk} {t : TypeId}
theorem exec_neqb (b : Bool) (ho : o.op = .binOp .neq 34 x y t) (hx : ρ x = blk c) (hy : ρ y = blk d) (h : (!decide (c = d)) = b) : (execOp ρ o).run Try.prog w = .ok (.value (.bool b)) w := by
  rw [exec_neq ho hx hy, h]
end
theorem wp_region_read {id : Nat} {Q : Exit → Act → World → Prop} {a : Act} {w : World} {l : List Oper} (hB : Region.lexB .any l.toArray = true) (h : wpStill Try.prog l.toArray w.drew (fun a' => Q .normal a' w.drew) l a) :
    (Code.region id l.toArray true).wp Try.prog Q a w := wp_region_still_lit (by kernel_rfl) hB h
theorem getD_ext {a b : List Blk} (hl : a.length = b.length) (h : ∀ k, k < a.length → a.getD k zeroB = b.getD k zeroB) : a = b := by
  apply List.ext_getElem hl
  intro k h1 h2
  have := h k h1
  rw [List.getD, List.getD, List.getElem?_eq_getElem h1, List.getElem?_eq_getElem h2] at this
  simpa using this

set_option maxHeartbeats 800000 in
theorem blocks_any (A B : Option Addr) (n m c d N : Nat) (a b : List Blk) (w : World) (ha : RdB w N A n a) (hb : RdB w N B m b) (hN : N ≤ w.heap.size) (hn : n ≤ maxLen) :
    Calls Try.prog 10 #[.slice A n c, .slice B m d] w fun e w' => e = .returned (.bool (decide (a = b))) ∧ Below w.heap.size w w' := by
  unfold maxLen at hn
  by_cases hnm : n = m
  · subst hnm
    go_enter Try.func10, Try.ntmps10
    go_wp2_with fail
    go_loopw [5] (fun i wr => ∃ k : Nat, k ≤ n ∧ i = .int .i64 k ∧ (∀ j, j < k → a.getD j zeroB = b.getD j zeroB) ∧ Below w.heap.size w wr) (fun i _ => n - (intOf i).toNat)
    case atStart => exact ⟨0, Nat.zero_le _, rfl, fun j hj => absurd hj (by omega), Below.refl _ _⟩
    case round =>
      obtain ⟨k, hk, rfl, hj, hbl⟩ := hrel
      have HJ := Lib.hid hj
      clear hj
      by_cases hlt : k < n
      · obtain ⟨bA, oA, rfl, hA, cA⟩ := (ha.below (hbl.mono hN)).2 k hlt
        obtain ⟨bB, oB, rfl, hB, cB⟩ := (hb.below (hbl.mono hN)).2 k hlt
        have HX := Lib.hid (rfl : a.getD k zeroB = a.getD k zeroB)
        generalize hx : a.getD k zeroB = x at *
        generalize hy : b.getD k zeroB = y at *
        have HA := Lib.hid cA
        have HB := Lib.hid cB
        have HXX := Lib.hid hx
        have HYY := Lib.hid hy
        clear cA cB hx hy HX
        go_wp2_with fail
        by_cases hxy : x = y
        · have hd : (!decide (x = y)) = false := by simpa using hxy
          refine wp_region_read (by kernel_rfl) ?_
          refine st_val rfl (exec_move rfl) ?_
          simp only [Act.put, List.setIfInBounds_toArray, List.set_cons_succ, List.set_cons_zero]
          refine st_val rfl (exec_move rfl) ?_
          simp only [Act.put, List.setIfInBounds_toArray, List.set_cons_succ, List.set_cons_zero]
          refine st_val rfl (exec_index rfl rfl rfl hlt) ?_
          simp only [Act.put, List.setIfInBounds_toArray, List.set_cons_succ, List.set_cons_zero]
          refine st_val rfl (exec_load rfl rfl HA.out) ?_
          simp only [Act.put, List.setIfInBounds_toArray, List.set_cons_succ, List.set_cons_zero]
          refine st_val rfl (exec_move rfl) ?_
          simp only [Act.put, List.setIfInBounds_toArray, List.set_cons_succ, List.set_cons_zero]
          refine st_val rfl (exec_move rfl) ?_
          simp only [Act.put, List.setIfInBounds_toArray, List.set_cons_succ, List.set_cons_zero]
          refine st_val rfl (exec_index rfl rfl rfl hlt) ?_
          simp only [Act.put, List.setIfInBounds_toArray, List.set_cons_succ, List.set_cons_zero]
          refine st_val rfl (exec_load rfl rfl HB.out) ?_
          simp only [Act.put, List.setIfInBounds_toArray, List.set_cons_succ, List.set_cons_zero]
          refine st_val rfl (exec_neqb false rfl rfl rfl hd) ?_
          simp only [Act.put, List.setIfInBounds_toArray, List.set_cons_succ, List.set_cons_zero]
          refine wpStill_nil ?_
          clear hd
          go_wp2_with fail
          go_roundw
          case rel =>
            refine ⟨k + 1, by omega, by go_num, ?_, bd hbl⟩
            intro j hj
            by_cases h : j = k
            · subst h; rw [HXX.out, HYY.out]; exact hxy
            · exact HJ.out j (by omega)
          case measure => simp [intOf]; omega
        · have hd : (!decide (x = y)) = true := by simpa using hxy
          refine wp_region_read (by kernel_rfl) ?_
          refine st_val rfl (exec_move rfl) ?_
          simp only [Act.put, List.setIfInBounds_toArray, List.set_cons_succ, List.set_cons_zero]
          refine st_val rfl (exec_move rfl) ?_
          simp only [Act.put, List.setIfInBounds_toArray, List.set_cons_succ, List.set_cons_zero]
          refine st_val rfl (exec_index rfl rfl rfl hlt) ?_
          simp only [Act.put, List.setIfInBounds_toArray, List.set_cons_succ, List.set_cons_zero]
          refine st_val rfl (exec_load rfl rfl HA.out) ?_
          simp only [Act.put, List.setIfInBounds_toArray, List.set_cons_succ, List.set_cons_zero]
          refine st_val rfl (exec_move rfl) ?_
          simp only [Act.put, List.setIfInBounds_toArray, List.set_cons_succ, List.set_cons_zero]
          refine st_val rfl (exec_move rfl) ?_
          simp only [Act.put, List.setIfInBounds_toArray, List.set_cons_succ, List.set_cons_zero]
          refine st_val rfl (exec_index rfl rfl rfl hlt) ?_
          simp only [Act.put, List.setIfInBounds_toArray, List.set_cons_succ, List.set_cons_zero]
          refine st_val rfl (exec_load rfl rfl HB.out) ?_
          simp only [Act.put, List.setIfInBounds_toArray, List.set_cons_succ, List.set_cons_zero]
          refine st_val rfl (exec_neqb true rfl rfl rfl hd) ?_
          simp only [Act.put, List.setIfInBounds_toArray, List.set_cons_succ, List.set_cons_zero]
          refine wpStill_nil ?_
          clear hd
          go_wp2_with fail
          go_ret
          refine ⟨?_, bd hbl⟩
          rw [decide_eq_false]
          · rfl
          · rintro rfl
            exact hxy (HXX.out.symm.trans HYY.out)
      · go_wp2_with fail
        go_ret
        refine ⟨?_, hbl⟩
        rw [decide_eq_true]
        · rfl
        · exact getD_ext (by rw [ha.1, hb.1]) fun k h => HJ.out k (by have := ha.1; omega)
  · have hne : ((n : Int) != (m : Int)) = true := by simp; omega
    go_enter Try.func10, Try.ntmps10
    go_wp2_with fail
    go_ret
    refine ⟨?_, Below.refl _ _⟩
    rw [decide_eq_false]
    · rfl
    · rintro rfl
      exact hnm (ha.1.symm.trans hb.1)

theorem copyB_any (A : Option Addr) (n c N B : Nat) (l : List Blk) (w : World) (HB : Hid (B = w.heap.size)) (hl : RdB w N A n l) (hN : N ≤ B) (hn : n ≤ 2199023255552) :
    Calls Try.prog 14 #[.slice A n c] w fun e w' => ∃ v, e = .returned v ∧ MadeB w' B v l ∧ Below B w w' := by
  have hBle := Nat.le_of_eq HB.out
  go_enter Try.func14, Try.ntmps14
  go_wp2_with (at_builtin; refine wpList_appB rfl _ _ rfl B N n c _ [] l A rfl rfl (MadeB.nil _ _) hl hBle ?c1 ?_)
  case c1 => simp; omega
  intro v1 w1 hm1 hg1
  go_wp2
  go_ret
  exact ⟨_, rfl, hm1, (Below.refl _ _).grown hg1 hBle (by simp [Value.ownBlock])⟩

/-- Block g is what WideBlocks made of l. -/
def WidedB (w : World) (g : Nat) (l : List Blk) : Prop := HoldsB w g (l ++ [sevenB, sevenB])
theorem WidedB.below {w w' : World} {g : Nat} {l : List Blk} (h : WidedB w g l) (hb : Below w.heap.size w w') : WidedB w' g l := HoldsB.below h hb
theorem WidedB.rd {w : World} {g : Nat} {l : List Blk} (h : WidedB w g l) : RdB w w.heap.size (some ⟨g, 0, none⟩) l.length l := by
  have := HoldsB.rd h l.length (by simp)
  rwa [List.take_left'] at this
  rfl

theorem step1 {l : List Blk} {j n : Nat} (hl : l.length = n) (hj : j < n) : (l.take j ++ List.replicate (n + 2 - j) zeroB).set j (l.getD j zeroB) = l.take (j + 1) ++ List.replicate (n + 2 - (j + 1)) zeroB := by
  have hlen : (l.take j).length = j := by rw [List.length_take]; omega
  rw [List.set_append_right _ _ (by omega), hlen, Nat.sub_self, show n + 2 - j = (n + 2 - (j + 1)) + 1 from by omega, List.replicate_succ, List.set_cons_zero, List.take_add_one, List.getElem?_eq_getElem (by omega), List.getD, List.getElem?_eq_getElem (by omega), Option.getD_some, Option.toList_some, List.append_assoc, List.singleton_append, show n + 2 - (j + 1) = n + 1 - j from by omega]
theorem step2 {l : List Blk} {m n : Nat} (hl : l.length = n) (hm : m < 2) : (l ++ (List.replicate m sevenB ++ List.replicate (2 - m) zeroB)).getD (n + m) zeroB = zeroB ∧
    (l ++ (List.replicate m sevenB ++ List.replicate (2 - m) zeroB)).set (n + m) sevenB = l ++ (List.replicate (m + 1) sevenB ++ List.replicate (2 - (m + 1)) zeroB) := by
  subst hl
  constructor
  · rw [List.getD, List.getElem?_append_right (by omega), Nat.add_sub_cancel_left, List.getElem?_append_right (by simp)]
    rw [List.getElem?_replicate]
    split <;> rfl
  · rw [List.set_append_right _ _ (by omega), Nat.add_sub_cancel_left]
    rcases Nat.lt_or_ge m 1 with h | h
    · have : m = 0 := by omega
      subst this; rfl
    · have : m = 1 := by omega
      subst this; rfl

theorem WidedB.seven {w : World} {g m n : Nat} {l : List Blk} (h : WidedB w g l) (hl : l.length = n) (hm : m < 2) : w.rangeAt g ((n + m) * 64) (cel sevenB) := fun j v hj => by
  subst hl
  have hlt : j < 64 := by have := (List.getElem?_eq_some_iff.1 hj).1; rwa [cel_length] at this
  have := HoldsB.byteAt h (k := l.length + m) (by simp; omega) hlt
  rw [this, ← hj, cel_at sevenB hlt]
  have e : (l ++ [sevenB, sevenB]).getD (l.length + m) zeroB = sevenB := by
    rw [List.getD, List.getElem?_append_right (by omega), Nat.add_sub_cancel_left]
    rcases Nat.lt_or_ge m 1 with h | h
    · have : m = 0 := by omega
      subst this; rfl
    · have : m = 1 := by omega
      subst this; rfl
  rw [e]

end Go.Proofs.Ytfemlaombdeebaa
