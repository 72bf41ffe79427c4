/-
  ring.List, and the document's.
-/
import Derived.Test.YtiobcacleppceaaRis
import Derived.Test.YtiobcacleppceaaInts
import Derived.Test.YtiobcacleppceaaKnob
namespace Go.Proofs.Ytiobcacleppceaa
open Go.RowKit
set_option linter.unusedVariables false
set_option linter.unusedSimpArgs false

def lisB (r t n : Int) : Bool := decide (1 ≤ r ∧ r ≤ 256 ∧ t ≤ 4611686018427387904 ∧ 0 ≤ n ∧ n ≤ r ∧ t + n ≤ 4611686018427387905)
def secL (r t : Int) (n : Nat) : List Int := (List.range n).map fun (i : Nat) => (t + (i : Int)) % r
def lisL (r t n : Int) : List Int := if lisB r t n then secL r t n.toNat else []
def lisE (r t n : Int) : Int := if lisB r t n then 0 else 2
theorem lis_iff {r t n : Int} : lisB r t n = true ↔ 1 ≤ r ∧ r ≤ 256 ∧ t ≤ 4611686018427387904 ∧ 0 ≤ n ∧ n ≤ r ∧ t + n ≤ 4611686018427387905 := by unfold lisB; exact decide_eq_true_iff
theorem lis_not {r t n : Int} : lisB r t n = false ↔ ¬(1 ≤ r ∧ r ≤ 256 ∧ t ≤ 4611686018427387904 ∧ 0 ≤ n ∧ n ≤ r ∧ t + n ≤ 4611686018427387905) := by unfold lisB; rw [decide_eq_false_iff_not]
theorem lis_no {r t n : Int} (h : lisB r t n = false) : lisL r t n = [] ∧ lisE r t n = 2 := by unfold lisL lisE; rw [h]; exact ⟨rfl, rfl⟩
theorem lis_in {r t : Int} {n : Nat} (h : lisB r t n = true) : lisL r t n = secL r t n ∧ lisE r t n = 0 := by unfold lisL lisE; rw [h]; exact ⟨rfl, rfl⟩
theorem secL_len (r t : Int) (n : Nat) : (secL r t n).length = n := by simp [secL]
theorem secL_at {r t : Int} {n k : Nat} (h : k < n) : (secL r t n).getD k 0 = (t + (k : Int)) % r := by
  simp [secL, List.getD, List.getElem?_map, List.getElem?_range h]
theorem secL_succ {r t : Int} {n k : Nat} (h : k < n) : (secL r t n).take k ++ [(t + (k : Int)) % r] = (secL r t n).take (k + 1) := by
  rw [List.take_add_one]
  congr 1
  unfold secL
  simp [List.getElem?_map, List.getElem?_range h]
theorem lis_len (r t n : Int) : (lisL r t n).length ≤ 256 := by
  cases h : lisB r t n
  · rw [(lis_no h).1]; simp
  · obtain ⟨g1, g2, g3, g4, g5, g6⟩ := lis_iff.1 h
    obtain ⟨N, rfl⟩ : ∃ N : Nat, n = (N : Int) := ⟨n.toNat, by omega⟩
    rw [(lis_in h).1, secL_len]; omega

set_option maxHeartbeats 1000000 in
theorem plis_in (r t : Int) (N B : Nat) (w : World) (HB0 : Hid (B = w.heap.size)) (h0 : 0 ≤ t) (h : lisB r t N = true) :
    Calls Try.prog 12 #[.int .i64 r, .int .u64 t, .int .i64 N] w fun e w' => ∃ v, e = .returned (.tuple #[v, .int .i64 0]) ∧ MadeE IntE w' B v (secL r t N) ∧ Below B w w' := by
  obtain ⟨g1, g2, g3, g4, g5, g6⟩ := lis_iff.1 h
  clear h
  have hmk := run_make_row' (P := Try.prog) 29 3 (.int .i64 0) 8 Try.underlying29 IntE.info rfl .i64 .i64 N (by omega) (by omega)
  have HMK := Lib.hid hmk
  clear hmk
  go_enter Try.func12, Try.ntmps12
  go_wp2_with fail
  refine (ring_ok r w).mono ?_
  rintro e w1 ⟨rfl, rfl⟩
  rw [ring_true ⟨g1, g2⟩]
  go_wp2_with fail
  refine (pos_ok t w).mono ?_
  rintro e w1 ⟨rfl, rfl⟩
  rw [pos_true g3]
  by_cases hn : 0 < N
  case' pos =>
    go_wp2_with fail
    refine (ahead_ok t w h0 g3).mono ?_
    rintro e w1 ⟨rfl, rfl⟩
  all_goals
    have hmk := HMK.out w
    go_wp2
    clear hmk
    have hr0 := World.rowIs_made w (Value.int .i64 0) N 3
    have hbl0 : Below B w (w.alloc (.cells (madeCells #[Value.int .i64 0] N) 3)) := by rw [HB0.out]; exact (Below.refl _ _).alloc (Nat.le_refl _) _
    have hBg : B ≤ w.heap.size := Nat.le_of_eq HB0.out
    generalize hg : w.heap.size = g at *
    have HG := Lib.hid hg
    clear hg
    go_loopw [9, 40] (fun v i wr => ∃ (k : Nat) (f : Nat → Int), k ≤ N ∧ i = .int .i64 k ∧ wr.rowIs g 3 N (fun j => .int .i64 (f j)) ∧ (∀ j, j < k → f j = (t + (j : Int)) % r) ∧ Below B w wr) (fun _ i _ => N - (intOf i).toNat)
    case atStart => exact ⟨0, fun _ => 0, Nat.zero_le _, rfl, hr0, fun j hj => absurd hj (by omega), hbl0⟩
    case round =>
      clear hr0 hbl0
      obtain ⟨k, f, hk, rfl, hrow, hf, hbl⟩ := hrel
      have HF := Lib.hid hf
      clear hf
      by_cases hlt : k < N
      · clear hn
        go_wp2_with fail
        refine (sector_ok r (t + (k : Int)) _ g1 g2 (by omega) (by omega)).mono ?_
        rintro e w5 ⟨rfl, rfl⟩
        have hc := hrow.cell (i := k) hlt
        have hfr := hrow.frozen k
        generalize hx : (t + (k : Int)) % r = x at *
        have HX := Lib.hid hx
        clear hx
        go_wp2
        go_roundw
        case rel =>
          refine ⟨k + 1, upd f k x, by omega, by go_num, row_puti hrow _, ?_, hbl.setCell hBg _⟩
          intro j hj
          by_cases e : j = k
          · subst e; rw [upd_at]; exact HX.out.symm
          · rw [upd_off _ _ e]; exact HF.out j (by omega)
        case measure => simp [intOf]; omega
      · have hkn : k = N := by omega
        subst hkn
        go_wp2
        go_ret2
        exact ⟨_, rfl, made_ints hrow hBg (secL_len ..) (fun j hj => by rw [HF.out j hj, secL_at hj]) (by unfold maxLen; omega), hbl⟩
theorem plis_no (r t n : Int) (w : World) (h0 : 0 ≤ t) (h1 : t ≤ 18446744073709551615) (hn1 : -9223372036854775808 ≤ n) (hn2 : n ≤ 9223372036854775807) (h : lisB r t n = false) :
    Calls Try.prog 12 #[.int .i64 r, .int .u64 t, .int .i64 n] w fun e w' => e = .returned (.tuple #[.slice none 0 0, .int .i64 2]) ∧ w = w' := by
  have hq := lis_not.1 h
  clear h
  go_enter Try.func12, Try.ntmps12
  go_wp2_with fail
  refine (ring_ok r w).mono ?_
  rintro e w1 ⟨rfl, rfl⟩
  by_cases hr : 1 ≤ r ∧ r ≤ 256
  · rw [ring_true hr]
    go_wp2_with fail
    refine (pos_ok t w).mono ?_
    rintro e w1 ⟨rfl, rfl⟩
    by_cases ht : t ≤ 4611686018427387904
    · rw [pos_true ht]
      by_cases hn : 0 ≤ n ∧ n ≤ r
      · have hp : 0 < n := by omega
        have ha : 4611686018427387904 - t < n - 1 := by omega
        clear hq
        go_wp2_with fail
        refine (ahead_ok t w h0 ht).mono ?_
        rintro e w1 ⟨rfl, rfl⟩
        go_wp2
        go_ret2
        exact ⟨rfl, rfl⟩
      · clear hq
        by_cases h0 : 0 ≤ n
        · go_wp2
          go_ret2
          exact ⟨rfl, rfl⟩
        · go_wp2
          go_ret2
          exact ⟨rfl, rfl⟩
    · rw [pos_false ht]
      go_wp2
      go_ret2
      exact ⟨rfl, rfl⟩
  · rw [ring_false hr]
    go_wp2
    go_ret2
    exact ⟨rfl, rfl⟩
theorem plis (r t n : Int) (B : Nat) (w : World) (HB : Hid (B = w.heap.size)) (h0 : 0 ≤ t) (h1 : t ≤ 18446744073709551615) (hn1 : -9223372036854775808 ≤ n) (hn2 : n ≤ 9223372036854775807) :
    Calls Try.prog 12 #[.int .i64 r, .int .u64 t, .int .i64 n] w fun e w' => ∃ v, e = .returned (.tuple #[v, .int .i64 (lisE r t n)]) ∧ MadeE IntE w' B v (lisL r t n) ∧ Below B w w' := by
  cases h : lisB r t n
  · rw [(lis_no h).1, (lis_no h).2]; exact (plis_no r t n w h0 h1 hn1 hn2 h).mono fun e w' ⟨he, hw⟩ => ⟨_, he, MadeE.nil _ _, hw ▸ Below.refl _ _⟩
  · obtain ⟨N, rfl⟩ : ∃ N : Nat, n = (N : Int) := ⟨n.toNat, by have := lis_iff.1 h; omega⟩
    rw [(lis_in h).1, (lis_in h).2]
    exact plis_in r t N B w HB h0 h

/-! ### The document's -/
set_option maxHeartbeats 1000000 in
theorem rlis_in (r t : Int) (N B : Nat) (w : World) (HB0 : Hid (B = w.heap.size)) (h0 : 0 ≤ t) (h : lisB r t N = true) :
    Calls Try.prog 13 #[.int .i64 r, .int .u64 t, .int .i64 N] w fun e w' => ∃ v, e = .returned (.tuple #[v, .int .i64 0]) ∧ MadeE IntE w' B v (secL r t N) ∧ Below B w w' := by
  obtain ⟨g1, g2, g3, g4, g5, g6⟩ := lis_iff.1 h
  have HM := Lib.hid (show mayB r t t = true from mayB_iff.2 (by omega))
  clear h
  go_enter Try.func13, Try.ntmps13
  go_wp2_with fail
  refine (rmay r t t w h0 (by omega) h0 (by omega)).mono ?_
  rintro e w1 ⟨rfl, rfl⟩
  rw [HM.out]
  by_cases hn : 0 < N
  all_goals
    go_wp2
    go_loopw [8, 9, 10, 11] (fun v i x y wr => ∃ k : Nat, k ≤ N ∧ i = .int .i64 k ∧ MadeE IntE wr B v ((secL r t N).take k) ∧ Below B w wr) (fun _ i _ _ _ => N - (intOf i).toNat)
    case atStart => exact ⟨0, Nat.zero_le _, rfl, MadeE.nil _ _, Below.refl _ _⟩
    case round =>
      obtain ⟨k, hk, rfl, hmd, hbl⟩ := hrel
      by_cases hlt : k < N
      · clear hn
        go_wp2_with fail
        refine (rsec r (t + (k : Int)) _ (by omega) (by omega)).mono ?_
        rintro e w5 ⟨rfl, rfl⟩
        rw [(sec_in (mayB_iff.2 (by omega))).1, (sec_in (mayB_iff.2 (by omega))).2]
        have hsc := secL_succ (r := r) (t := t) hlt
        have hlk : ((secL r t N).take k).length ≤ 256 := by rw [List.length_take, secL_len]; omega
        generalize hx : (t + (k : Int)) % r = x at *
        generalize hl : (secL r t N).take k = l at *
        generalize hl' : (secL r t N).take (k + 1) = l' at *
        have HX := Lib.hid hx
        have HL := Lib.hid hl'
        have HSC := Lib.hid hsc
        clear hx hl hl' hsc
        have hnew : RdE IntE _ _ _ 1 _ := rdE_new (E := IntE) (l := [x]) wr #[.int .i64 x] 3 rfl
        have hmd' := hmd.below ((Below.refl wr.heap.size wr).alloc (Nat.le_refl _) (.cells #[.int .i64 x] 3))
        have hsz : B ≤ (wr.alloc (.cells #[.int .i64 x] 3)).heap.size := by rw [World.size_alloc]; have := hbl.size; have := HB0.out; omega
        go_wp2_with (at_builtin; refine wpList_appE IntE rfl _ _ rfl B _ 1 _ _ _ _ _ rfl rfl hmd' hnew hsz ?c1 ?_)
        case c1 => omega
        intro v6 w6 hm6 hg6
        have hb6 : Below B (wr.alloc (.cells #[.int .i64 x] 3)) w6 := (Below.refl _ _).grown hg6 hsz hmd.lt_own
        have hB6 : Below B w w6 := (hbl.alloc (by have := hbl.size; have := HB0.out; omega) _).trans hb6
        rw [HSC.out] at hm6
        clear hnew hmd' hsz hg6 hb6 hmd hbl
        go_wp2
        go_roundw
        case rel => exact ⟨k + 1, by omega, by go_num, by rw [HL.out]; exact hm6, hB6⟩
        case measure => simp [intOf]; omega
      · have hkn : k = N := by omega
        subst hkn
        rw [List.take_of_length_le (by rw [secL_len]; exact Nat.le_refl _)] at hmd
        go_wp2
        go_ret2
        exact ⟨_, rfl, hmd, hbl⟩
set_option maxHeartbeats 1000000 in
theorem rlis_no (r t n : Int) (w : World) (h0 : 0 ≤ t) (h1 : t ≤ 18446744073709551615) (hn1 : -9223372036854775808 ≤ n) (hn2 : n ≤ 9223372036854775807) (h : lisB r t n = false) :
    Calls Try.prog 13 #[.int .i64 r, .int .u64 t, .int .i64 n] w fun e w' => e = .returned (.tuple #[.slice none 0 0, .int .i64 2]) ∧ w = w' := by
  have hq := lis_not.1 h
  clear h
  go_enter Try.func13, Try.ntmps13
  go_wp2_with fail
  refine (rmay r t t w h0 h1 h0 h1).mono ?_
  rintro e w1 ⟨rfl, rfl⟩
  cases hm : mayB r t t
  · clear hm hq
    go_wp2
    go_ret2
    exact ⟨rfl, rfl⟩
  · obtain ⟨g1, g2, -, g3, -⟩ := mayB_iff.1 hm
    clear hm
    by_cases hn : 0 ≤ n ∧ n ≤ r
    · have hp : 0 < n := by omega
      have ha : 4611686018427387904 < t + (n - 1) := by omega
      clear hq
      go_wp2
      go_ret2
      exact ⟨rfl, rfl⟩
    · clear hq
      by_cases h0 : 0 ≤ n
      · go_wp2
        go_ret2
        exact ⟨rfl, rfl⟩
      · go_wp2
        go_ret2
        exact ⟨rfl, rfl⟩
theorem rlis (r t n : Int) (B : Nat) (w : World) (HB : Hid (B = w.heap.size)) (h0 : 0 ≤ t) (h1 : t ≤ 18446744073709551615) (hn1 : -9223372036854775808 ≤ n) (hn2 : n ≤ 9223372036854775807) :
    Calls Try.prog 13 #[.int .i64 r, .int .u64 t, .int .i64 n] w fun e w' => ∃ v, e = .returned (.tuple #[v, .int .i64 (lisE r t n)]) ∧ MadeE IntE w' B v (lisL r t n) ∧ Below B w w' := by
  cases h : lisB r t n
  · rw [(lis_no h).1, (lis_no h).2]; exact (rlis_no r t n w h0 h1 hn1 hn2 h).mono fun e w' ⟨he, hw⟩ => ⟨_, he, MadeE.nil _ _, hw ▸ Below.refl _ _⟩
  · obtain ⟨N, rfl⟩ : ∃ N : Nat, n = (N : Int) := ⟨n.toNat, by have := lis_iff.1 h; omega⟩
    rw [(lis_in h).1, (lis_in h).2]
    exact rlis_in r t N B w HB h0 h
end Go.Proofs.Ytiobcacleppceaa
