/-
  ashlarref00.Blocks, CopyBlocks, WideBlocks, LeftBlocks over whatever slices of blocks.
-/
import Derived.Test.YtfemlaombdeebaaDoorBlkH
namespace Go.Proofs.YtfemlaombdeebaaDoor
open Go.RowKit
set_option linter.unusedVariables false
set_option linter.unusedSimpArgs false

/-- The block that WideBlocks lays behind. -/
def sevenB : Blk := zeroB.set 0 7
theorem fill_seven : Instr.fill (fun i => some (i * 1, 1)) (cel zeroB).toArray [(0, .int .u8 7)] = some (cel sevenB).toArray := by kernel_rfl
section
variable {ρ : Operand → Value} {o : Oper} {x y : Operand} {w : World} {c d : Blk} {t : TypeId}
theorem exec_neqb (b : Bool) (ho : o.op = .binOp .neq 38 x y t) (hx : ρ x = blk c) (hy : ρ y = blk d) (h : (!decide (c = d)) = b) : (execOp ρ o).run Tryd.prog w = .ok (.value (.bool b)) w := by
  rw [exec_neq ho hx hy, h]
end
theorem wp_region_read {id : Nat} {Q : Exit → Act → World → Prop} {a : Act} {w : World} {l : List Oper} (hB : Region.lexB .any l.toArray = true) (h : wpStill Tryd.prog l.toArray w.drew (fun a' => Q .normal a' w.drew) l a) :
    (Code.region id l.toArray true).wp Tryd.prog Q a w := wp_region_still_lit (by kernel_rfl) hB h
theorem getD_ext {a b : List Blk} (hl : a.length = b.length) (h : ∀ k, k < a.length → a.getD k zeroB = b.getD k zeroB) : a = b := by
  apply List.ext_getElem hl
  intro k h1 h2
  have := h k h1
  rw [List.getD, List.getD, List.getElem?_eq_getElem h1, List.getElem?_eq_getElem h2] at this
  simpa using this

set_option maxHeartbeats 800000 in
theorem blocks_any (A B : Option Addr) (n m c d N : Nat) (a b : List Blk) (w : World) (ha : RdB w N A n a) (hb : RdB w N B m b) (hN : N ≤ w.heap.size) (hn : n ≤ maxLen) :
    Calls Tryd.prog 15 #[.slice A n c, .slice B m d] w fun e w' => e = .returned (.bool (decide (a = b))) ∧ Below w.heap.size w w' := by
  unfold maxLen at hn
  by_cases hnm : n = m
  · subst hnm
    go_enter Tryd.func15, Tryd.ntmps15
    go_wp2_with fail
    go_loopw [5] (fun i wr => ∃ k : Nat, k ≤ n ∧ i = .int .i64 k ∧ (∀ j, j < k → a.getD j zeroB = b.getD j zeroB) ∧ Below w.heap.size w wr) (fun i _ => n - (intOf i).toNat)
    case atStart => exact ⟨0, Nat.zero_le _, rfl, fun j hj => absurd hj (by omega), Below.refl _ _⟩
    case round =>
      obtain ⟨k, hk, rfl, hj, hbl⟩ := hrel
      have HJ := Lib.hid hj
      clear hj
      by_cases hlt : k < n
      · obtain ⟨bA, oA, rfl, hA, cA⟩ := (ha.below (hbl.mono hN)).2 k hlt
        obtain ⟨bB, oB, rfl, hB, cB⟩ := (hb.below (hbl.mono hN)).2 k hlt
        have HX := Lib.hid (rfl : a.getD k zeroB = a.getD k zeroB)
        generalize hx : a.getD k zeroB = x at *
        generalize hy : b.getD k zeroB = y at *
        have HA := Lib.hid cA
        have HB := Lib.hid cB
        have HXX := Lib.hid hx
        have HYY := Lib.hid hy
        clear cA cB hx hy HX
        go_wp2_with fail
        by_cases hxy : x = y
        · have hd : (!decide (x = y)) = false := by simpa using hxy
          refine wp_region_read (by kernel_rfl) ?_
          refine st_val rfl (exec_move rfl) ?_
          simp only [Act.put, List.setIfInBounds_toArray, List.set_cons_succ, List.set_cons_zero]
          refine st_val rfl (exec_move rfl) ?_
          simp only [Act.put, List.setIfInBounds_toArray, List.set_cons_succ, List.set_cons_zero]
          refine st_val rfl (exec_index rfl rfl rfl hlt) ?_
          simp only [Act.put, List.setIfInBounds_toArray, List.set_cons_succ, List.set_cons_zero]
          refine st_val rfl (exec_load rfl rfl HA.out) ?_
          simp only [Act.put, List.setIfInBounds_toArray, List.set_cons_succ, List.set_cons_zero]
          refine st_val rfl (exec_move rfl) ?_
          simp only [Act.put, List.setIfInBounds_toArray, List.set_cons_succ, List.set_cons_zero]
          refine st_val rfl (exec_move rfl) ?_
          simp only [Act.put, List.setIfInBounds_toArray, List.set_cons_succ, List.set_cons_zero]
          refine st_val rfl (exec_index rfl rfl rfl hlt) ?_
          simp only [Act.put, List.setIfInBounds_toArray, List.set_cons_succ, List.set_cons_zero]
          refine st_val rfl (exec_load rfl rfl HB.out) ?_
          simp only [Act.put, List.setIfInBounds_toArray, List.set_cons_succ, List.set_cons_zero]
          refine st_val rfl (exec_neqb false rfl rfl rfl hd) ?_
          simp only [Act.put, List.setIfInBounds_toArray, List.set_cons_succ, List.set_cons_zero]
          refine wpStill_nil ?_
          clear hd
          go_wp2_with fail
          go_roundw
          case rel =>
            refine ⟨k + 1, by omega, by go_num, ?_, bd hbl⟩
            intro j hj
            by_cases h : j = k
            · subst h; rw [HXX.out, HYY.out]; exact hxy
            · exact HJ.out j (by omega)
          case measure => simp [intOf]; omega
        · have hd : (!decide (x = y)) = true := by simpa using hxy
          refine wp_region_read (by kernel_rfl) ?_
          refine st_val rfl (exec_move rfl) ?_
          simp only [Act.put, List.setIfInBounds_toArray, List.set_cons_succ, List.set_cons_zero]
          refine st_val rfl (exec_move rfl) ?_
          simp only [Act.put, List.setIfInBounds_toArray, List.set_cons_succ, List.set_cons_zero]
          refine st_val rfl (exec_index rfl rfl rfl hlt) ?_
          simp only [Act.put, List.setIfInBounds_toArray, List.set_cons_succ, List.set_cons_zero]
          refine st_val rfl (exec_load rfl rfl HA.out) ?_
          simp only [Act.put, List.setIfInBounds_toArray, List.set_cons_succ, List.set_cons_zero]
          refine st_val rfl (exec_move rfl) ?_
          simp only [Act.put, List.setIfInBounds_toArray, List.set_cons_succ, List.set_cons_zero]
          refine st_val rfl (exec_move rfl) ?_
          simp only [Act.put, List.setIfInBounds_toArray, List.set_cons_succ, List.set_cons_zero]
          refine st_val rfl (exec_index rfl rfl rfl hlt) ?_
          simp only [Act.put, List.setIfInBounds_toArray, List.set_cons_succ, List.set_cons_zero]
          refine st_val rfl (exec_load rfl rfl HB.out) ?_
          simp only [Act.put, List.setIfInBounds_toArray, List.set_cons_succ, List.set_cons_zero]
          refine st_val rfl (exec_neqb true rfl rfl rfl hd) ?_
          simp only [Act.put, List.setIfInBounds_toArray, List.set_cons_succ, List.set_cons_zero]
          refine wpStill_nil ?_
          clear hd
          go_wp2_with fail
          go_ret
          refine ⟨?_, bd hbl⟩
          rw [decide_eq_false]
          · rfl
          · rintro rfl
            exact hxy (HXX.out.symm.trans HYY.out)
      · go_wp2_with fail
        go_ret
        refine ⟨?_, hbl⟩
        rw [decide_eq_true]
        · rfl
        · exact getD_ext (by rw [ha.1, hb.1]) fun k h => HJ.out k (by have := ha.1; omega)
  · have hne : ((n : Int) != (m : Int)) = true := by simp; omega
    go_enter Tryd.func15, Tryd.ntmps15
    go_wp2_with fail
    go_ret
    refine ⟨?_, Below.refl _ _⟩
    rw [decide_eq_false]
    · rfl
    · rintro rfl
      exact hnm (ha.1.symm.trans hb.1)

theorem copyB_any (A : Option Addr) (n c N B : Nat) (l : List Blk) (w : World) (HB : Hid (B = w.heap.size)) (hl : RdB w N A n l) (hN : N ≤ B) (hn : n ≤ 2199023255552) :
    Calls Tryd.prog 16 #[.slice A n c] w fun e w' => ∃ v, e = .returned v ∧ MadeB w' B v l ∧ Below B w w' := by
  have hBle := Nat.le_of_eq HB.out
  go_enter Tryd.func16, Tryd.ntmps16
  go_wp2_with (at_builtin; refine wpList_appB rfl _ _ rfl B N n c _ [] l A rfl rfl (MadeB.nil _ _) hl hBle ?c1 ?_)
  case c1 => simp; omega
  intro v1 w1 hm1 hg1
  go_wp2
  go_ret
  exact ⟨_, rfl, hm1, (Below.refl _ _).grown hg1 hBle (by simp [Value.ownBlock])⟩

/-- Block g is what WideBlocks made of l. -/
def WidedB (w : World) (g : Nat) (l : List Blk) : Prop := HoldsB w g (l ++ [sevenB, sevenB])
theorem WidedB.below {w w' : World} {g : Nat} {l : List Blk} (h : WidedB w g l) (hb : Below w.heap.size w w') : WidedB w' g l := HoldsB.below h hb
theorem WidedB.rd {w : World} {g : Nat} {l : List Blk} (h : WidedB w g l) : RdB w w.heap.size (some ⟨g, 0, none⟩) l.length l := by
  have := HoldsB.rd h l.length (by simp)
  rwa [List.take_left'] at this
  rfl

theorem step1 {l : List Blk} {j n : Nat} (hl : l.length = n) (hj : j < n) : (l.take j ++ List.replicate (n + 2 - j) zeroB).set j (l.getD j zeroB) = l.take (j + 1) ++ List.replicate (n + 2 - (j + 1)) zeroB := by
  have hlen : (l.take j).length = j := by rw [List.length_take]; omega
  rw [List.set_append_right _ _ (by omega), hlen, Nat.sub_self, show n + 2 - j = (n + 2 - (j + 1)) + 1 from by omega, List.replicate_succ, List.set_cons_zero, List.take_add_one, List.getElem?_eq_getElem (by omega), List.getD, List.getElem?_eq_getElem (by omega), Option.getD_some, Option.toList_some, List.append_assoc, List.singleton_append, show n + 2 - (j + 1) = n + 1 - j from by omega]
theorem step2 {l : List Blk} {m n : Nat} (hl : l.length = n) (hm : m < 2) : (l ++ (List.replicate m sevenB ++ List.replicate (2 - m) zeroB)).getD (n + m) zeroB = zeroB ∧
    (l ++ (List.replicate m sevenB ++ List.replicate (2 - m) zeroB)).set (n + m) sevenB = l ++ (List.replicate (m + 1) sevenB ++ List.replicate (2 - (m + 1)) zeroB) := by
  subst hl
  constructor
  · rw [List.getD, List.getElem?_append_right (by omega), Nat.add_sub_cancel_left, List.getElem?_append_right (by simp)]
    rw [List.getElem?_replicate]
    split <;> rfl
  · rw [List.set_append_right _ _ (by omega), Nat.add_sub_cancel_left]
    rcases Nat.lt_or_ge m 1 with h | h
    · have : m = 0 := by omega
      subst this; rfl
    · have : m = 1 := by omega
      subst this; rfl

set_option maxHeartbeats 800000 in
theorem wideB_any (A : Option Addr) (n c N B : Nat) (l : List Blk) (w : World) (HB : Hid (B = w.heap.size)) (hl : RdB w N A n l) (hN : N ≤ B) (hn : n ≤ 2199023255552) :
    Calls Tryd.prog 6 #[.slice A n c] w fun e w' => ∃ g, e = .returned (.slice (some ⟨g, 0, none⟩) n (n + 2)) ∧ B ≤ g ∧ WidedB w' g l ∧ Below B w w' := by
  have hBle : B ≤ w.heap.size := Nat.le_of_eq HB.out
  have hlen := hl.1
  have HL := Lib.hid hlen
  clear hlen
  have h0 := holdsB_made w (n + 2)
  have hb0 : Below B w (w.alloc (.cells (madeCells (cel zeroB).toArray ((n + 2) * 64)) 38)) := (Below.refl _ _).alloc hBle _
  have H0 := Lib.hid h0
  have HB0 := Lib.hid hb0
  clear h0 hb0
  go_enter Tryd.func6, Tryd.ntmps6
  go_wp2_with (refine wpList_val rfl (exec_make (n := n + 2) rfl rfl rfl (by omega)) ?_)
  have hsz : B ≤ w.heap.size := hBle
  generalize w.alloc (.cells (madeCells (cel zeroB).toArray ((n + 2) * 64)) 38) = w1 at *
  generalize hg : w.heap.size = g at *
  have HG := Lib.hid hg
  clear hg
  go_loopw [4] (fun i wr => ∃ j : Nat, j ≤ n ∧ i = .int .i64 j ∧ HoldsB wr g (l.take j ++ List.replicate (n + 2 - j) zeroB) ∧ Below B w wr) (fun i _ => n - (intOf i).toNat)
  case atStart => exact ⟨0, Nat.zero_le _, rfl, H0.out, HB0.out⟩
  case round =>
    clear H0 HB0
    obtain ⟨j, hj, rfl, hh, hbl⟩ := hrel
    have HH := Lib.hid hh
    clear hh
    by_cases hlt : j < n
    · obtain ⟨bA, oA, rfl, hA, cA⟩ := (hl.below (hbl.mono hN)).2 j hlt
      have HS := Lib.hid (step1 HL.out hlt)
      generalize l.getD j zeroB = x at *
      have hlen2 : j < (l.take j ++ List.replicate (n + 2 - j) zeroB).length := by
        have := HL.out
        simp
        omega
      have ht := HH.out.there hlen2
      have HT := Lib.hid ht
      have HC := Lib.hid cA
      have hh2 := HH.out.store hlen2 x
      rw [HS.out] at hh2
      have HH2 := Lib.hid hh2
      clear ht cA hh2 hlen2
      go_wp2_with (first | (refine wpList_val rfl (exec_load rfl rfl HC.out) ?_) | (refine wpList_nul rfl (exec_store rfl rfl rfl HT.out) ?_))
      go_roundw
      case rel => exact ⟨j + 1, by omega, by go_num, HH2.out, below_setCells hbl hBle _⟩
      case measure => simp [intOf]; omega
    · have hjn : j = n := by omega
      subst hjn
      have h3 := HH.out
      rw [List.take_of_length_le (Nat.le_of_eq HL.out), show j + 2 - j = 2 from by omega] at h3
      have H3 := Lib.hid h3
      clear h3 HH
      go_wp2_with fail
      go_loopw [5] (fun i wr => ∃ m : Nat, m ≤ 2 ∧ i = .int .i64 ((j : Int) + m) ∧ HoldsB wr g (l ++ (List.replicate m sevenB ++ List.replicate (2 - m) zeroB)) ∧ Below B w wr) (fun i _ => j + 2 - (intOf i).toNat)
      case atStart => exact ⟨0, by omega, by simp, H3.out, hbl⟩
      case round =>
        clear hbl H3
        obtain ⟨m, hm, rfl, hh, hbl⟩ := hrel
        have HH := Lib.hid hh
        clear hh
        by_cases hlt : m < 2
        · obtain ⟨hz, hs⟩ := step2 (l := l) HL.out hlt
          have hlen2 : j + m < (l ++ (List.replicate m sevenB ++ List.replicate (2 - m) zeroB)).length := by
            have := HL.out
            simp
            omega
          have hc := HH.out.byteAt hlen2 (r := 0) (by omega)
          have hfr := HH.out.frozen ((j + m) * 64)
          have hh2 := HH.out.byte hlen2 (r := 0) (by omega) 7
          rw [hz] at hh2 hc
          rw [show zeroB.set 0 7 = sevenB from rfl, hs] at hh2
          simp only [Nat.add_zero] at hh2 hc
          have HH2 := Lib.hid hh2
          clear hz hs hh2
          go_wp2_with fail
          go_roundw
          case rel => exact ⟨m + 1, by omega, by go_num, HH2.out, hbl.setCell hBle _⟩
          case measure => simp [intOf]; omega
        · have hm2 : m = 2 := by omega
          subst hm2
          go_wp2_with fail
          go_ret
          exact ⟨g, rfl, hBle, HH.out, hbl⟩

theorem WidedB.seven {w : World} {g m n : Nat} {l : List Blk} (h : WidedB w g l) (hl : l.length = n) (hm : m < 2) : w.rangeAt g ((n + m) * 64) (cel sevenB) := fun j v hj => by
  subst hl
  have hlt : j < 64 := by have := (List.getElem?_eq_some_iff.1 hj).1; rwa [cel_length] at this
  have := HoldsB.byteAt h (k := l.length + m) (by simp; omega) hlt
  rw [this, ← hj, cel_at sevenB hlt]
  have e : (l ++ [sevenB, sevenB]).getD (l.length + m) zeroB = sevenB := by
    rw [List.getD, List.getElem?_append_right (by omega), Nat.add_sub_cancel_left]
    rcases Nat.lt_or_ge m 1 with h | h
    · have : m = 0 := by omega
      subst this; rfl
    · have : m = 1 := by omega
      subst this; rfl
  rw [e]

set_option maxHeartbeats 800000 in
theorem leftB_yes (A : Option Addr) (n c N g B : Nat) (l : List Blk) (w : World) (HB : Hid (B = w.heap.size)) (hw : WidedB w g l) (hl : RdB w N A n l) (hN : N ≤ B) (hn : n ≤ 2199023255552) :
    Calls Tryd.prog 12 #[.slice (some ⟨g, 0, none⟩) n (n + 2), .slice A n c] w fun e w' => e = .returned (.bool true) ∧ Below B w w' := by
  have hrd := hw.rd
  have hlen : l.length = n := hl.1
  rw [hlen] at hrd
  have HL := Lib.hid hlen
  have HNS := Lib.hid (show (!decide (sevenB = sevenB)) = false by simp)
  clear hlen
  go_enter Tryd.func12, Tryd.ntmps12
  go_wp2_with fail
  refine (blocks_any _ _ _ _ _ _ w.heap.size l l _ hrd (hl.more (Nat.le_trans hN (Nat.le_of_eq HB.out))) (Nat.le_refl _) (by unfold maxLen; omega)).mono ?_
  rintro e w1 ⟨rfl, hb1⟩
  rw [decide_eq_true (rfl : l = l)]
  have hw1 := hw.below hb1
  clear hrd hl
  go_wp2_with fail
  have HBL := Lib.hid (Nat.le_of_eq HB.out)
  clear HB
  go_loop [6] (fun i => ∃ m : Nat, m ≤ 2 ∧ i = .int .i64 ((n : Int) + m)) (fun i => n + 2 - (intOf i).toNat)
  case atStart => exact ⟨0, by omega, by simp⟩
  case round =>
    obtain ⟨m, hm, rfl⟩ := hrel
    by_cases hlt : m < 2
    · have HS := Lib.hid (hw1.seven HL.out hlt)
      go_wp2_with (first | (refine wpList_val rfl (exec_load rfl rfl HS.out) ?_) | (refine wpList_val rfl (exec_build rfl fill_seven) ?_) | (refine wpList_val rfl (exec_neqb false rfl rfl rfl HNS.out) ?_))
      go_round
      case rel => exact ⟨m + 1, by omega, by go_num⟩
      case measure => simp [intOf]; omega
    · have hm2 : m = 2 := by omega
      subst hm2
      go_wp2_with fail
      go_ret
      exact ⟨rfl, hb1.mono HBL.out⟩
end Go.Proofs.YtfemlaombdeebaaDoor
