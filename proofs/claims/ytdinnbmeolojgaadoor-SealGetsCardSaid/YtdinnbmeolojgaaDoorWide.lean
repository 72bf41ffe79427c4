/-
  ashlarref00.Wide, Left over whatever byte slices.
-/
import Derived.Test.YtdinnbmeolojgaaDoorPre
import Derived.Test.YtdinnbmeolojgaaDoorSame
import Derived.Laws.NewBlocks
namespace Go.Proofs.YtdinnbmeolojgaaDoor
open Go.RowKit
set_option linter.unusedVariables false

/-- What Wide lays: the bytes, and three of 7 behind them. -/
def wideF (b : List UInt8) (j : Nat) : Int := if j < b.length then bt b j else 7
theorem wideF_lo (b : List UInt8) (j : Nat) : 0 ≤ wideF b j := by unfold wideF; split; exact bt_lo _ _; omega
theorem wideF_hi (b : List UInt8) (j : Nat) : wideF b j ≤ 255 := by unfold wideF; split; exact bt_hi _ _; omega
/-- Block g is what Wide made of b. -/
def Wided (w : World) (g : Nat) (b : List UInt8) : Prop := w.rowIs g 5 (b.length + 3) (fun j => .int .u8 (wideF b j))
theorem Wided.below {w w' : World} {g : Nat} {b : List UInt8} (h : Wided w g b) (hb : Below w.heap.size w w') : Wided w' g b := h.of_block (hb.block g h.lt)
theorem Wided.rd {w : World} {g : Nat} {b : List UInt8} (h : Wided w g b) : Rd w w.heap.size (some ⟨g, 0, none⟩) b.length b :=
  ⟨rfl, fun k hk => ⟨g, 0, rfl, h.lt, by
    have := h.cell (i := k) (by omega)
    rw [Nat.zero_add, this]
    show some (Value.int .u8 (wideF b k)) = _
    unfold wideF
    rw [if_pos hk]⟩⟩

set_option maxHeartbeats 800000 in
theorem wide_any (A : Option Addr) (n c N B : Nat) (b : List UInt8) (w : World) (HB : Hid (B = w.heap.size)) (hb : Rd w N A n b) (hN : N ≤ B) (hn : n ≤ 140737488351232) :
    Calls Tryd.prog 9 #[.slice A n c] w fun e w' => ∃ g, e = .returned (.slice (some ⟨g, 0, none⟩) n (n + 3)) ∧ B ≤ g ∧ Wided w' g b ∧ Below B w w' := by
  have hmk := run_make_row' (P := Tryd.prog) 23 5 (.int .u8 0) 1 Tryd.underlying23 u8info rfl .i64 .i64 (n + 3) (by omega) (by omega)
  have hBle : B ≤ w.heap.size := Nat.le_of_eq HB.out
  rw [show ((n + 3 : Nat) : Int) = (n : Int) + 3 from by omega] at hmk
  go_enter Tryd.func9, Tryd.ntmps9
  go_wp2
  clear hmk
  have hr0 := World.rowIs_made w (Value.int .u8 0) (n + 3) 5
  have hbl0 : Below B w (w.alloc (.cells (madeCells #[Value.int .u8 0] (n + 3)) 5)) := (Below.refl _ _).alloc hBle _
  generalize hg : w.heap.size = g at *
  have HG := Lib.hid hg
  clear hg
  go_loopw [4] (fun i wr => ∃ (j : Nat) (f : Nat → Int), j ≤ n ∧ i = .int .i64 j ∧ wr.rowIs g 5 (n + 3) (fun j => .int .u8 (f j)) ∧ (∀ m, m < j → f m = bt b m) ∧ Below B w wr) (fun i _ => n - (intOf i).toNat)
  case atStart => exact ⟨0, fun _ => 0, Nat.zero_le _, rfl, hr0, fun j hj => absurd hj (by omega), hbl0⟩
  case round =>
    obtain ⟨j, f, hj, rfl, hrow, hf, hbl⟩ := hrel
    by_cases hlt : j < n
    · have hc := hrow.cell (i := j) (by omega)
      have hfr := hrow.frozen j
      obtain ⟨bA, oA, rfl, hA, cA⟩ := (hb.below (hbl.mono hN)).2 j hlt
      have HFF := Lib.hid hf
      clear hf
      go_wp2
      go_roundw
      case rel =>
        refine ⟨j + 1, upd f j (bt b j), by omega, by go_num, row_put hrow _, ?_, hbl.setCell hBle _⟩
        intro m hm
        by_cases e : m = j
        · subst e; exact upd_at _ _ _
        · rw [upd_off _ _ e]; exact HFF.out m (by omega)
      case measure => simp [intOf]; omega
    · have hjn : j = n := by omega
      subst hjn
      go_wp2
      go_loopw [5] (fun i wr => ∃ (m : Nat) (f : Nat → Int), m ≤ 3 ∧ i = .int .i64 ((j : Int) + m) ∧ wr.rowIs g 5 (j + 3) (fun j => .int .u8 (f j)) ∧ (∀ k, k < j + m → f k = wideF b k) ∧ Below B w wr) (fun i _ => j + 3 - (intOf i).toNat)
      case atStart =>
        refine ⟨0, f, by omega, by simp, hrow, fun k hk => ?_, hbl⟩
        rw [hf k (by omega)]
        unfold wideF
        rw [if_pos (by have := hb.1; omega)]
      case round =>
        clear hrow hbl hf
        obtain ⟨m, f, hm, rfl, hrow, hf, hbl⟩ := hrel
        by_cases hlt : m < 3
        · have hc := hrow.cell (i := j + m) (by omega)
          have hfr := hrow.frozen (j + m)
          have HFF := Lib.hid hf
          clear hf
          go_wp2
          go_roundw
          case rel =>
            refine ⟨m + 1, upd f (j + m) 7, by omega, by go_num, row_put hrow _, ?_, hbl.setCell hBle _⟩
            intro k hk
            by_cases e : k = j + m
            · subst e
              rw [upd_at]
              unfold wideF
              rw [if_neg (by have := hb.1; omega)]
            · rw [upd_off _ _ e]; exact HFF.out k (by omega)
          case measure => simp [intOf]; omega
        · have hm3 : m = 3 := by omega
          subst hm3
          go_wp2
          go_ret
          refine ⟨g, rfl, hBle, ?_, hbl⟩
          unfold Wided
          rw [hb.1]
          exact hrow.congr fun k hk => by rw [hf k (by omega)]

set_option maxHeartbeats 800000 in
theorem left_yes (A : Option Addr) (n c N g B : Nat) (b : List UInt8) (w : World) (HB : Hid (B = w.heap.size)) (hw : Wided w g b) (hb : Rd w N A n b) (hN : N ≤ B) (hn : n ≤ 140737488351232) :
    Calls Tryd.prog 12 #[.slice (some ⟨g, 0, none⟩) n (n + 3), .slice A n c] w fun e w' => e = .returned (.bool true) ∧ Below B w w' := by
  have hrd := hw.rd
  have hlen : b.length = n := hb.1
  rw [hlen] at hrd
  have HL := Lib.hid hlen
  clear hlen
  have hss : same b b = true := by simp [same]
  go_enter Tryd.func12, Tryd.ntmps12
  go_wp2_with fail
  refine (same_any _ _ _ _ _ _ w.heap.size b b _ hrd (hb.more (Nat.le_trans hN (Nat.le_of_eq HB.out))) (Nat.le_refl _) (by unfold maxLen; omega)).mono ?_
  rintro e w1 ⟨rfl, hb1⟩
  rw [hss]
  have hw1 := hw.below hb1
  clear hrd hss hb
  go_wp2
  have HBL := Lib.hid (Nat.le_of_eq HB.out)
  clear HB
  go_loop [6] (fun i => ∃ m : Nat, m ≤ 3 ∧ i = .int .i64 ((n : Int) + m)) (fun i => n + 3 - (intOf i).toNat)
  case atStart => exact ⟨0, by omega, by simp⟩
  case round =>
    obtain ⟨m, hm, rfl⟩ := hrel
    by_cases hlt : m < 3
    · have hc : w1.cell? ⟨g, n + m, none⟩ = some (.int .u8 7) := by
        rw [World.rowIs.cell hw1 (by have := HL.out; omega)]
        unfold wideF
        rw [if_neg (by have := HL.out; omega)]
      go_wp2
      go_round
      case rel => exact ⟨m + 1, by omega, by go_num⟩
      case measure => simp [intOf]; omega
    · have hm3 : m = 3 := by omega
      subst hm3
      go_wp2
      go_ret
      exact ⟨rfl, hb1.mono HBL.out⟩

end Go.Proofs.YtdinnbmeolojgaaDoor
