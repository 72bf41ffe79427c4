/-
  ashlarref03.Torn.
-/
import Derived.Test.YtdinnbmeolojgaaDoorTornM
namespace Go.Proofs.YtdinnbmeolojgaaDoor
open Go.RowKit
set_option linter.unusedVariables false
set_option maxRecDepth 100000

set_option maxHeartbeats 800000 in
theorem refTorn_any (a b : Blk) (n : Int) (w : World) : Calls Tryd.prog 20 #[blk a, blk b, .int .i64 n] w fun e w' => e = .returned (blk (torn a b n)) ∧ Below w.heap.size w w' := by
  obtain ⟨hA, hB, hR, hO, hb⟩ := laid4 w a b zeroB a
  obtain ⟨w4, hw4⟩ : ∃ w4, four_ w a b zeroB a = w4 := ⟨_, rfl⟩
  rw [hw4] at hA hB hR hO hb
  have hA0 := World.rangeAt_alloc (World.rangeAt_alloc (range_new w (cel a) 26) (.cells (cel b).toArray 26)) (.cells (cel zeroB).toArray 26)
  have HA0 := Lib.hid hA0
  have HW := Lib.hid hw4
  have HB := Lib.hid hB
  have HR := Lib.hid hR
  clear hw4 hA hB hR hA0
  go_enter Tryd.func20, Tryd.ntmps20
  go_wp2_with (first | (refine wpList_val rfl (exec_box rfl rfl) ?_) | (refine wpList_val rfl (exec_alloc rfl) ?_) | (refine wpList_val rfl (exec_load rfl rfl HA0.out) ?_) | (refine wpList_nul rfl (exec_fill rfl rfl rfl) ?_))
  have hs := HW.out
  unfold four_ at hs
  rw [hs]
  clear hs HW
  generalize hsz : w.heap.size = s at *
  go_loopw [8] (fun i wr => ∃ (j : Nat) (f : Nat → Int), j ≤ 64 ∧ ((j : Int) ≤ n ∨ j = 0) ∧ i = .int .i64 j ∧ wr.rowIs (s + 1 + 1 + 1) 26 64 (fun j => .int .u8 (f j)) ∧ (∀ m, m < 64 → f m = if m < j then byt b m else byt a m) ∧ Below (s + 1 + 1 + 1) w4 wr) (fun i _ => 64 - (intOf i).toNat)
  case atStart => exact ⟨0, byt a, by omega, .inr rfl, rfl, hO, fun m hm => rfl, Below.refl _ _⟩
  case round =>
    obtain ⟨j, f, hj, hjn, rfl, hrow, hf, hbl⟩ := hrel
    have HF := Lib.hid hf
    clear hf hO
    by_cases hlt : j < 64 ∧ (j : Int) < n
    · obtain ⟨h64, hn⟩ := hlt
      first
        | (exfalso; omega)
        | skip
          have hc1 := hrow.cell (i := j) (by omega)
          have hfr := hrow.frozen j
          have hb' := range_below HB.out (by omega) hbl j _ (cel_at b h64)
          rw [Nat.zero_add] at hb'
          go_wp2_with fail
          go_roundw
          case rel =>
            refine ⟨j + 1, upd f j (byt b j), by omega, .inl (by omega), by go_num, row_put hrow _, ?_, hbl.setCell (by simp) _⟩
            intro m hm
            by_cases e : m = j
            · subst e; rw [upd_at, if_pos (by omega)]
            · rw [upd_off _ _ e, HF.out m hm]
              by_cases e2 : m < j
              · rw [if_pos e2, if_pos (by omega)]
              · rw [if_neg e2, if_neg (by omega)]
          case measure => simp [intOf]; omega
    · have hr := range_row (c := torn a b n) (o := 0) hrow (by omega) (fun m hm => by
        rw [Nat.zero_add, HF.out m hm, torn_byt _ _ _ hm]
        by_cases e : m < j
        · rw [if_pos e, if_pos (by omega)]
        · rw [if_neg e, if_neg (by omega)])
      have ht := there_below HR.out (by omega) hbl
      have hex : 64 ≤ j ∨ (j < 64 ∧ n ≤ (j : Int)) := by omega
      have HR2 := Lib.hid hr
      have HT2 := Lib.hid ht
      clear hr ht hlt
      rcases hex with h1 | ⟨h1, h2⟩
      all_goals
        go_wp2_with (first | (refine wpList_val rfl (exec_load rfl rfl HR2.out) ?_) | (refine wpList_nul rfl (exec_store rfl rfl rfl HT2.out) ?_))
        refine bodyPost_ret (res_blk rfl _ _ _ rfl (World.rangeAt_setCells_same _ _ _ _ (by rw [cel_length]; exact HT2.out))) rfl ⟨rfl, ?_⟩
        try rw [hsz]
        exact hb.trans (below_setCells (hbl.mono (by omega)) (by omega) _)
end Go.Proofs.YtdinnbmeolojgaaDoor
