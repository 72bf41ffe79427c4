/-
  geom.At, Block.
-/
import Derived.Test.YthephlgdjbdaoaaGeoE
namespace Go.Proofs.Ythephlgdjbdaoaa
open Go.RowKit
set_option linter.unusedVariables false

/-- What At answers. -/
def inB (m s r n : Int) : Bool := decide (0 ≤ n ∧ n < cntN m s r)
theorem inB_iff {m s r n : Int} : inB m s r n = true ↔ (0 ≤ n ∧ n < cntN m s r) := by unfold inB; rw [decide_eq_true_iff]
theorem inB_not {m s r n : Int} : inB m s r n = false ↔ ¬(0 ≤ n ∧ n < cntN m s r) := by unfold inB; rw [decide_eq_false_iff_not]
def atE (m s r n : Int) : Int := if may m s r = true then (if inB m s r n = true then 0 else 12) else 2
def atS (m s r n : Int) : Int := if may m s r = true then (if inB m s r n = true then ((n.toNat / (m.toNat - 1) : Nat) : Int) else 0) else 0
def atM (m s r n : Int) : Int := if may m s r = true then (if inB m s r n = true then ((dat m.toNat (n.toNat / (m.toNat - 1)) (n.toNat % (m.toNat - 1)) : Nat) : Int) else 0) else 0
def atV (m s r n : Int) : Value := .tuple #[placeV (atS m s r n) (atM m s r n), .int .i64 (atE m s r n)]
theorem atV_no {m s r : Int} (n : Int) (h : may m s r = false) : atV m s r n = .tuple #[.agg #[.int .i64 0, .int .i64 0], .int .i64 2] := by simp [atV, atE, atS, atM, placeV, h]
theorem atV_out {m s r n : Int} (h : may m s r = true) (h' : inB m s r n = false) : atV m s r n = .tuple #[.agg #[.int .i64 0, .int .i64 0], .int .i64 12] := by simp [atV, atE, atS, atM, placeV, h, h']
theorem atV_in {M S n : Nat} {r : Int} (h : may M S r = true) (h' : inB M S r n = true) : atV M S r n = .tuple #[.agg #[.int .i64 ((n / (M - 1) : Nat) : Int), .int .i64 ((dat M (n / (M - 1)) (n % (M - 1)) : Nat) : Int)], .int .i64 0] := by
  unfold atV atE atS atM placeV
  simp only [h, h', if_true]
  rfl
theorem res_pl {fn : Func} {p u : Tmp} {x y : Int} {tmps : Array Value} {w : World} {b : Nat} {e : Value} (h : fn.results = #[.cell p 25, .tmp u]) (hp : tmps.getD p undef = .pointer (some ⟨b, 0, none⟩)) (hu : tmps.getD u undef = e)
    (h0 : w.cell? ⟨b, 0, none⟩ = some (.int .i64 x)) (h1 : w.cell? ⟨b, 1, none⟩ = some (.int .i64 y)) : (results fn tmps).run Try.prog w = .ok (.tuple #[.agg #[.int .i64 x, .int .i64 y], e]) w := by
  rw [← hu]; exact res_place2 h hp h0 h1
theorem at_no (m s r n : Int) (w : World) (h : may m s r = false) : Calls Try.prog 17 #[geoV m s r, .int .i64 n] w fun e w' => e = .returned (atV m s r n) ∧ Below w.heap.size w w' := by
  rw [atV_no n h]
  have H := Lib.hid h
  clear h
  unfold geoV
  go_enter Try.func17, Try.ntmps17
  go_wp2_with fail
  refine (may_prog m s r _).mono ?_
  rintro e w1 ⟨rfl, hb1⟩
  rw [H.out]
  obtain ⟨K0, K1, hs, HB⟩ := behind_gp hb1 (new1 ..) (new2 ..)
  obtain ⟨p0, p1, f0, f1⟩ := cells2 K1.out
  clear hb1
  go_wp2
  refine bodyPost_ret (res_pl (b := w.heap.size + 1) (x := 0) (y := 0) rfl rfl rfl (by go_simp) (by go_simp)) rfl ⟨rfl, ?_⟩
  exact (HB.out.setCell (by simp) _).setCell (by simp) _
set_option maxHeartbeats 1000000 in
theorem at_out (m s r n : Int) (w : World) (h : may m s r = true) (h' : inB m s r n = false) : Calls Try.prog 17 #[geoV m s r, .int .i64 n] w fun e w' => e = .returned (atV m s r n) ∧ Below w.heap.size w w' := by
  rw [atV_out h h']
  have hn := inB_not.1 h'
  have H := Lib.hid h
  clear h h'
  by_cases h0 : n < 0
  · clear hn
    unfold geoV
    go_enter Try.func17, Try.ntmps17
    go_wp2_with fail
    refine (may_prog m s r _).mono ?_
    rintro e w1 ⟨rfl, hb1⟩
    rw [H.out]
    obtain ⟨K0, K1, hs, HB⟩ := behind_gp hb1 (new1 ..) (new2 ..)
    obtain ⟨p0, p1, f0, f1⟩ := cells2 K1.out
    obtain ⟨c0, c1, c2⟩ := cells3 K0.out
    clear hb1
    go_wp2
    refine bodyPost_ret (res_pl (b := w.heap.size + 1) (x := 0) (y := 0) rfl rfl rfl (by go_simp) (by go_simp)) rfl ⟨rfl, ?_⟩
    exact (HB.out.setCell (by simp) _).setCell (by simp) _
  · have hge : cntN m s r ≤ n := by omega
    clear hn
    unfold geoV
    go_enter Try.func17, Try.ntmps17
    go_wp2_with fail
    refine (may_prog m s r _).mono ?_
    rintro e w1 ⟨rfl, hb1⟩
    rw [H.out]
    obtain ⟨K0, K1, hs, HB⟩ := behind_gp hb1 (new1 ..) (new2 ..)
    obtain ⟨c0, c1, c2⟩ := cells3 K0.out
    clear hb1
    go_wp2_with fail
    refine (blocks_prog m s r _).mono ?_
    rintro e w2 ⟨rfl, hb2⟩
    obtain ⟨p0, p1, f0, f1⟩ := cells2 (blk_keep K1.out hb2)
    have HB2 := Lib.hid (HB.out.trans (hb2.mono HB.out.size))
    clear hb2 c0 c1 c2
    go_wp2
    refine bodyPost_ret (res_pl (b := w.heap.size + 1) (x := 0) (y := 0) rfl rfl rfl (by go_simp) (by go_simp)) rfl ⟨rfl, ?_⟩
    exact (HB2.out.setCell (by simp) _).setCell (by simp) _
theorem quo_nat {a b : Nat} (h : a ≤ 1000000) : IntKind.i64.wrap ((a : Int).tdiv (b : Int)) = ((a / b : Nat) : Int) := by
  rw [tdiv_nat]
  have := Nat.div_le_self a b
  generalize a / b = q at *
  exact IntWalk.i64_in _ (by omega)
set_option maxHeartbeats 1000000 in
theorem at_in (M S n : Nat) (r : Int) (w : World) (h : may M S r = true) (h' : inB M S r n = true) : Calls Try.prog 17 #[geoV M S r, .int .i64 n] w fun e w' => e = .returned (atV M S r n) ∧ Below w.heap.size w w' := by
  rw [atV_in h h']
  have hn := inB_iff.1 h'
  rw [cntN_in h] at hn
  have hm := may_iff.1 h
  have hlt : n < S * (M - 1) := by omega
  have hle : S * (M - 1) ≤ 960 := by have := Nat.mul_le_mul (show S ≤ 64 by omega) (show M - 1 ≤ 15 by omega); omega
  have HC := Lib.hid (cntN_in h)
  have HNE := Lib.hid (show ((M - 1 : Nat) : Int) ≠ 0 by omega)
  have HQ := Lib.hid (quo_nat (b := M - 1) (show n ≤ 1000000 by omega))
  have HR := Lib.hid (tmod_nat n (M - 1))
  have hq : n / (M - 1) < S := Nat.div_lt_of_lt_mul (by rw [Nat.mul_comm]; exact hlt)
  have hr : n % (M - 1) < M - 1 := Nat.mod_lt _ (by omega)
  have hnc : (n : Int) < ((S * (M - 1) : Nat) : Int) := by omega
  generalize hN : S * (M - 1) = N at *
  have H := Lib.hid h
  clear h h' hn hlt hN
  generalize hqq : n / (M - 1) = q at *
  generalize hrr : n % (M - 1) = d at *
  clear hqq hrr
  unfold geoV
  go_enter Try.func17, Try.ntmps17
  go_wp2_with fail
  refine (may_prog M S r _).mono ?_
  rintro e w1 ⟨rfl, hb1⟩
  rw [H.out]
  obtain ⟨K0, K1, hs, HB⟩ := behind_gp hb1 (new1 ..) (new2 ..)
  obtain ⟨c0, c1, c2⟩ := cells3 K0.out
  clear hb1
  go_wp2_with fail
  refine (blocks_prog M S r _).mono ?_
  rintro e w2 ⟨rfl, hb2⟩
  rw [HC.out]
  have K02 := Lib.hid (blk_keep K0.out hb2)
  have K12 := Lib.hid (blk_keep K1.out hb2)
  have HB2 := Lib.hid (HB.out.trans (hb2.mono HB.out.size))
  clear hb2 c0 c1 c2
  go_wp2_with fail
  · have CC := fun (w' : World) (hw : Below w2.heap.size w2 w') => cells3 (blk_keep K02.out hw)
    refine wp_region_above (B := w2.heap.size) (by kernel_rfl) ?_
    refine qv_val rfl (fun w' hw => exec_mv rfl (ev rfl)) ?_
    simp only [Act.put, List.setIfInBounds_toArray, List.set_cons_succ, List.set_cons_zero]
    refine qv_val rfl (fun w' hw => exec_ld rfl (ev rfl) (ldG (CC w' hw).1 (CC w' hw).2.1 (CC w' hw).2.2)) ?_
    simp only [Act.put, List.setIfInBounds_toArray, List.set_cons_succ, List.set_cons_zero]
    refine qv_call rfl (fun _ => exec_cl Try.call27 rfl (evc (ev rfl) evn)) (above_of (Nat.le_refl _) fun w' hw => width_prog M S r w' (by omega) (by omega)) ?_
    simp only [Act.put, List.setIfInBounds_toArray, List.set_cons_succ, List.set_cons_zero]
    refine qv_val rfl (fun w' hw => exec_quo rfl (ev rfl) (ev rfl) HNE.out HQ.out) ?_
    simp only [Act.put, List.setIfInBounds_toArray, List.set_cons_succ, List.set_cons_zero]
    refine qv_val rfl (fun w' hw => exec_mv rfl (ev rfl)) ?_
    simp only [Act.put, List.setIfInBounds_toArray, List.set_cons_succ, List.set_cons_zero]
    refine qv_val rfl (fun w' hw => exec_ld rfl (ev rfl) (ldG (CC w' hw).1 (CC w' hw).2.1 (CC w' hw).2.2)) ?_
    simp only [Act.put, List.setIfInBounds_toArray, List.set_cons_succ, List.set_cons_zero]
    refine qv_call rfl (fun _ => exec_cl Try.call27 rfl (evc (ev rfl) evn)) (above_of (Nat.le_refl _) fun w' hw => width_prog M S r w' (by omega) (by omega)) ?_
    simp only [Act.put, List.setIfInBounds_toArray, List.set_cons_succ, List.set_cons_zero]
    refine qv_val rfl (fun w' hw => exec_rem rfl (ev rfl) (ev rfl) HNE.out HR.out) ?_
    simp only [Act.put, List.setIfInBounds_toArray, List.set_cons_succ, List.set_cons_zero]
    refine qv_val rfl (fun w' hw => exec_as rfl (ev rfl)) ?_
    simp only [Act.put, List.setIfInBounds_toArray, List.set_cons_succ, List.set_cons_zero]
    refine qv_val rfl (fun w' hw => exec_as rfl (ev rfl)) ?_
    simp only [Act.put, List.setIfInBounds_toArray, List.set_cons_succ, List.set_cons_zero]
    refine wpQuiet_nil ?_
    intro w3 hw3
    obtain ⟨d0, d1, d2⟩ := CC w3 hw3
    have K13 := Lib.hid (blk_keep K12.out hw3)
    have HB3 := Lib.hid (HB2.out.trans (hw3.mono HB2.out.size))
    clear CC hw3 hnc
    go_wp2_with fail
    refine (dat_prog M q d S r _ (by omega) (by omega) (by omega) (by omega)).mono ?_
    rintro e w4 ⟨rfl, hb4⟩
    unfold placeV
    obtain ⟨p0, p1, f0, f1⟩ := cells2 (blk_keep K13.out hb4)
    have HB4 := Lib.hid (HB3.out.trans (hb4.mono HB3.out.size))
    clear hb4 d0 d1 d2
    go_wp2
    refine bodyPost_ret (res_pl (b := w.heap.size + 1) (x := q) (y := dat M q d) rfl rfl rfl (by go_simp) (by go_simp)) rfl ⟨rfl, ?_⟩
    exact (HB4.out.setCell (by simp) _).setCell (by simp) _
theorem nat_block {M S : Nat} {r n : Int} (h' : inB M S r n = true) : ∃ k : Nat, n = k := ⟨n.toNat, by have := inB_iff.1 h'; omega⟩
theorem at_prog (m s r n : Int) (w : World) : Calls Try.prog 17 #[geoV m s r, .int .i64 n] w fun e w' => e = .returned (atV m s r n) ∧ Below w.heap.size w w' := by
  cases h : may m s r
  · exact at_no m s r n w h
  · cases h' : inB m s r n
    · exact at_out m s r n w h h'
    · obtain ⟨M, S, rfl, rfl, _⟩ := nat_geo h
      obtain ⟨k, rfl⟩ := nat_block h'
      exact at_in M S k r w h h'
end Go.Proofs.Ythephlgdjbdaoaa
