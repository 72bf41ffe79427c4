/-
  The document's list of what was asked for last: New, Touch, Pin, Drop, Has, Pinned, Keys.
-/
import Derived.Test.YtmnabdojlekjcaaLuE
namespace Go.Proofs.Ytmnabdojlekjcaa
open Go.RowKit
set_option linter.unusedVariables false
set_option linter.unusedSimpArgs false
set_option maxRecDepth 100000

section
variable {w w' : World} {B q room n c : Nat} {A : Option Addr} {v : Value} {L : List Ky} {k : Int}
def TchPostR (B q room : Nat) (k : Int) (L : List Ky) (w : World) (e : Ending) (w' : World) : Prop := e = .returned (.tuple #[.int .i64 (tchG room k L), .bool (tchW room k L), .int .i64 (tchE room k L)]) ∧ RL w' B q room (tchS room k L) ∧ TurnR B w w'
theorem cons_wo_len {i : Nat} (hi : i < L.length) (x : Ky) : (x :: wo L i).length = L.length := by have := wo_len hi; simp; omega
set_option maxHeartbeats 1000000 in
theorem rtouch_hit (w : World) (h : RLu w B q room v L) {i : Nat} (hp : plc k L = i) (hi : i < L.length) : Calls Try.prog 22 #[.pointer (some ⟨q, 0, none⟩), .int .i64 k] w (TchPostR B q room k L w) := by
  obtain ⟨A, c, rfl, h1, h2⟩ := h.row.form
  have HL := Lib.hid h
  have HP := Lib.hid (r_place_hit w h hp hi)
  have HPI := Lib.hid hp
  have HI := Lib.hid hi
  have HGE : Hid (decide ((0 : Int) ≤ (i : Int)) = true) := Lib.hid (decide_eq_true (by omega))
  obtain ⟨b, off, hA, hc⟩ := h.row.rd.ky hi
  obtain ⟨x, hx⟩ : ∃ x, L.getD i ky0 = x := ⟨_, rfl⟩
  rw [hx] at hc
  have HA := Lib.hid hA
  have HX := Lib.hid hx
  have HBK := Lib.hid (rng_below (B := w.heap.size) (w' := w.drew) hc (by
    have := hc 0 _ rfl
    exact World.block_lt_of_cell? w _ this) (bd (Below.refl _ w)))
  have HC := Lib.hid hc
  have HBL : Hid (b < w.heap.size) := Lib.hid (World.block_lt_of_cell? w _ (hc 0 _ rfl))
  clear h hp hi h1 h2 hA hc hx
  go_enter Try.func22, Try.ntmps22
  go_wp2_with fail
  refine HP.out.mono ?_
  rintro e w1 ⟨rfl, rfl⟩
  go_upto_region 2 with fail
  refine wp_region_lit ?_
  refine wpList_valn rfl (exec_mv rfl (ev rfl)) ?_
  simp only [Act.put, List.setIfInBounds_toArray, List.set_cons_succ, List.set_cons_zero]
  refine wpList_valn (v := .bool true) rfl (exec_geq true rfl (ev rfl) evk HGE.out) ?_
  simp only [Act.put, List.setIfInBounds_toArray, List.set_cons_succ, List.set_cons_zero]
  refine wpList_nil ?_
  go_upto_region 3 with fail
  refine wp_region_last (Below w.heap.size w) 14 (by kernel_rfl) ?_
  change wpAnyZ _ _ _ _ _ _ 15 _ _ w.drew
  refine last_val 0 rfl (by kernel_rfl) (by kernel_rfl) (by kernel_rfl) (by decide) (by kernel_rfl) rfl (fun w' hw => exec_mv rfl (ev rfl)) (fun _ _ _ h => h) (bd (Below.refl _ w)) ?_
  simp only [Act.put, List.setIfInBounds_toArray, List.set_cons_succ, List.set_cons_zero]
  refine last_val 1 rfl (by kernel_rfl) (by kernel_rfl) (by kernel_rfl) (by decide) (by kernel_rfl) rfl (fun w' hw => exec_mv rfl (ev rfl)) (fun _ _ _ h => h) (bd (Below.refl _ w)) ?_
  simp only [Act.put, List.setIfInBounds_toArray, List.set_cons_succ, List.set_cons_zero]
  refine last_val 2 rfl (by kernel_rfl) (by kernel_rfl) (by kernel_rfl) (by decide) (by kernel_rfl) rfl (fun w' hw => exec_nil rfl (ev rfl)) (fun _ _ _ h => h) (bd (Below.refl _ w)) ?_
  simp only [Act.put, List.setIfInBounds_toArray, List.set_cons_succ, List.set_cons_zero]
  refine last_val 3 rfl (by kernel_rfl) (by kernel_rfl) (by kernel_rfl) (by decide) (by kernel_rfl) rfl (fun w' hw => exec_faddr rfl (ev rfl) faRl1) (fun _ _ _ h => h) (bd (Below.refl _ w)) ?_
  simp only [Act.put, List.setIfInBounds_toArray, List.set_cons_succ, List.set_cons_zero]
  refine last_val 4 rfl (by kernel_rfl) (by kernel_rfl) (by kernel_rfl) (by decide) (by kernel_rfl) rfl (fun w' hw => exec_ld rfl (ev rfl) (ldKs ((HL.out.below hw)).c1)) (fun _ _ _ h => h) (bd (Below.refl _ w)) ?_
  simp only [Act.put, List.setIfInBounds_toArray, List.set_cons_succ, List.set_cons_zero]
  refine last_val 5 rfl (by kernel_rfl) (by kernel_rfl) (by kernel_rfl) (by decide) (by kernel_rfl) rfl (fun w' hw => exec_mv rfl (ev rfl)) (fun _ _ _ h => h) (bd (Below.refl _ w)) ?_
  simp only [Act.put, List.setIfInBounds_toArray, List.set_cons_succ, List.set_cons_zero]
  refine last_val 6 rfl (by kernel_rfl) (by kernel_rfl) (by kernel_rfl) (by decide) (by kernel_rfl) rfl (fun w' hw => exec_indexE (E := KyE) (b := b) (off := off) (j := i) rfl ((ev rfl).trans (by rw [HA.out])) (ev rfl) HI.out) (fun _ _ _ h => h) (bd (Below.refl _ w)) ?_
  simp only [Act.put, List.setIfInBounds_toArray, List.set_cons_succ, List.set_cons_zero]
  refine last_val 7 rfl (by kernel_rfl) (by kernel_rfl) (by kernel_rfl) (by decide) (by kernel_rfl) rfl (fun w' hw => exec_loadK (a := x) rfl (ev rfl) (rng_below HC.out HBL.out hw)) (fun _ _ _ h => h) (bd (Below.refl _ w)) ?_
  simp only [Act.put, List.setIfInBounds_toArray, List.set_cons_succ, List.set_cons_zero]
  refine last_val 8 rfl (by kernel_rfl) (by kernel_rfl) (by kernel_rfl) (by decide) (by kernel_rfl) rfl (fun w' hw => exec_mv rfl (ev rfl)) (fun _ _ _ h => h) (bd (Below.refl _ w)) ?_
  simp only [Act.put, List.setIfInBounds_toArray, List.set_cons_succ, List.set_cons_zero]
  refine last_val 9 rfl (by kernel_rfl) (by kernel_rfl) (by kernel_rfl) (by decide) (by kernel_rfl) rfl (fun w' hw => exec_mv rfl (ev rfl)) (fun _ _ _ h => h) (bd (Below.refl _ w)) ?_
  simp only [Act.put, List.setIfInBounds_toArray, List.set_cons_succ, List.set_cons_zero]
  refine last_call 10 rfl (by kernel_rfl) rfl (exec_cl Try.call36 rfl (evc (ev rfl) (evc (ev rfl) evn))) ?_
  refine (r_without w.drew (HL.out.below (bd (Below.refl _ w))) HI.out).mono ?_
  rintro e w2 ⟨v2, rfl, hm2, hb2⟩
  have hb2' : Below w.heap.size w w2 := (bd (Below.refl _ w)).trans hb2
  obtain ⟨A2, c2, rfl, _, _⟩ := hm2.form
  refine ⟨_, rfl, fun _ => hb2', ?_⟩
  simp only [Act.put, List.setIfInBounds_toArray, List.set_cons_succ, List.set_cons_zero]
  refine last_call 11 rfl (by kernel_rfl) rfl (exec_cl Try.call35 rfl (evc (ev rfl) (evc (ev rfl) evn))) ?_
  refine (r_ahead x w2 hm2.rd (Nat.le_refl _) (by have := wo_len HI.out; have := HL.out.len; omega)).mono ?_
  rintro e w3 ⟨v3, rfl, hm3, hb3⟩
  have hb3' := hb2'.trans (hb3.mono hb2'.size)
  obtain ⟨hset, htn⟩ := HL.out.set (room := room) hb3' (hm3.base hb2'.size) (by rw [cons_wo_len HI.out]; exact HL.out.len)
  obtain ⟨A3, c3, rfl, _, _⟩ := hm3.form
  refine ⟨_, rfl, fun _ => hb3', ?_⟩
  simp only [Act.put, List.setIfInBounds_toArray, List.set_cons_succ, List.set_cons_zero]
  refine last_turn 12 rfl (by kernel_rfl) rfl (exec_nil rfl (ev rfl)) (fun _ => hb3') ?_
  simp only [Act.put, List.setIfInBounds_toArray, List.set_cons_succ, List.set_cons_zero]
  refine last_turn 13 rfl (by kernel_rfl) rfl (exec_faddr rfl (ev rfl) faRl1) (fun _ => hb3') ?_
  simp only [Act.put, List.setIfInBounds_toArray, List.set_cons_succ, List.set_cons_zero]
  refine last_nul 14 rfl (by kernel_rfl) rfl (exec_st rfl (ev rfl) (ev rfl) (stKs (HL.out.below hb3').c1 ((HL.out.below hb3').fz 1))) (fun e => absurd rfl e) ?_
  simp only [Act.put]
  refine wpAnyZ_done (by kernel_rfl) ?_ _
  have HS := Lib.hid hset
  have HT := Lib.hid htn
  clear hm2 hb2 hb2' hm3 hb3 hb3' hset htn
  go_wp2_with fail
  go_ret3
  refine ⟨?_, ?_, HT.out⟩
  · unfold tchG tchW tchE
    rw [HPI.out, if_pos HI.out, if_pos HI.out, if_pos HI.out]
    rfl
  · unfold tchS
    rw [HPI.out, if_pos HI.out, HX.out]
    exact ⟨_, HS.out⟩
set_option maxHeartbeats 1000000 in
theorem rtouch_room (w : World) (h : RLu w B q room v L) (hi : ¬ plc k L < L.length) (hl : L.length < room) (hrm : room ≤ 64) : Calls Try.prog 22 #[.pointer (some ⟨q, 0, none⟩), .int .i64 k] w (TchPostR B q room k L w) := by
  obtain ⟨A, c, rfl, h1, h2⟩ := h.row.form
  have HL := Lib.hid h
  have HP := Lib.hid (r_place_no w h hi)
  have HI := Lib.hid hi
  have HGE : Hid (decide ((0 : Int) ≤ (-1 : Int)) = false) := Lib.hid (decide_eq_false (by omega))
  have HLT := Lib.hid hl
  have HLS : Hid (decide ((L.length : Int) < (room : Int)) = true) := Lib.hid (decide_eq_true (by omega))
  have HRM : Hid (L.length + 1 ≤ 64) := Lib.hid (by omega)
  clear hl hrm
  clear h hi h1 h2
  go_enter Try.func22, Try.ntmps22
  go_wp2_with fail
  refine HP.out.mono ?_
  rintro e w1 ⟨rfl, rfl⟩
  go_upto_region 2 with fail
  refine wp_region_lit ?_
  refine wpList_valn rfl (exec_mv rfl (ev rfl)) ?_
  simp only [Act.put, List.setIfInBounds_toArray, List.set_cons_succ, List.set_cons_zero]
  refine wpList_valn (v := .bool false) rfl (exec_geq false rfl (ev rfl) evk HGE.out) ?_
  simp only [Act.put, List.setIfInBounds_toArray, List.set_cons_succ, List.set_cons_zero]
  refine wpList_nil ?_
  go_upto_region 5 with fail
  refine wp_region_above (B := w.heap.size) (by kernel_rfl) ?_
  refine qv_val rfl (fun w' hw => exec_mv rfl (ev rfl)) ?_
  simp only [Act.put, List.setIfInBounds_toArray, List.set_cons_succ, List.set_cons_zero]
  refine qv_val rfl (fun w' hw => exec_nil rfl (ev rfl)) ?_
  simp only [Act.put, List.setIfInBounds_toArray, List.set_cons_succ, List.set_cons_zero]
  refine qv_val rfl (fun w' hw => exec_faddr rfl (ev rfl) faRl1) ?_
  simp only [Act.put, List.setIfInBounds_toArray, List.set_cons_succ, List.set_cons_zero]
  refine qv_val rfl (fun w' hw => exec_ld rfl (ev rfl) (ldKs ((HL.out.below hw)).c1)) ?_
  simp only [Act.put, List.setIfInBounds_toArray, List.set_cons_succ, List.set_cons_zero]
  refine qv_val rfl (fun w' hw => exec_lenE KyE rfl (ev rfl)) ?_
  simp only [Act.put, List.setIfInBounds_toArray, List.set_cons_succ, List.set_cons_zero]
  refine qv_val rfl (fun w' hw => exec_mv rfl (ev rfl)) ?_
  simp only [Act.put, List.setIfInBounds_toArray, List.set_cons_succ, List.set_cons_zero]
  refine qv_val rfl (fun w' hw => exec_nil rfl (ev rfl)) ?_
  simp only [Act.put, List.setIfInBounds_toArray, List.set_cons_succ, List.set_cons_zero]
  refine qv_val rfl (fun w' hw => exec_faddr rfl (ev rfl) faRl0) ?_
  simp only [Act.put, List.setIfInBounds_toArray, List.set_cons_succ, List.set_cons_zero]
  refine qv_val rfl (fun w' hw => exec_ld rfl (ev rfl) (ldInt ((HL.out.below hw)).c0)) ?_
  simp only [Act.put, List.setIfInBounds_toArray, List.set_cons_succ, List.set_cons_zero]
  refine qv_val (v := .bool true) rfl (fun w' hw => exec_lss true rfl (ev rfl) (ev rfl) HLS.out) ?_
  simp only [Act.put, List.setIfInBounds_toArray, List.set_cons_succ, List.set_cons_zero]
  refine wpQuiet_nil ?_
  intro w2 hw2
  have HL2 := Lib.hid (HL.out.below hw2)
  have HB2 := Lib.hid hw2
  clear hw2
  go_upto_region 6 with fail
  refine wp_region_lit ?_
  refine wpList_valn rfl (exec_mv rfl (ev rfl)) ?_
  simp only [Act.put, List.setIfInBounds_toArray, List.set_cons_succ, List.set_cons_zero]
  refine wpList_valn rfl (exec_mv rfl (ev rfl)) ?_
  simp only [Act.put, List.setIfInBounds_toArray, List.set_cons_succ, List.set_cons_zero]
  refine wpList_valn rfl (exec_bld1 rfl (ev rfl) (bldKy k _)) ?_
  simp only [Act.put, List.setIfInBounds_toArray, List.set_cons_succ, List.set_cons_zero]
  refine wpList_valn rfl (exec_mv rfl (ev rfl)) ?_
  simp only [Act.put, List.setIfInBounds_toArray, List.set_cons_succ, List.set_cons_zero]
  refine wpList_valn rfl (exec_nil rfl (ev rfl)) ?_
  simp only [Act.put, List.setIfInBounds_toArray, List.set_cons_succ, List.set_cons_zero]
  refine wpList_valn rfl (exec_faddr rfl (ev rfl) faRl1) ?_
  simp only [Act.put, List.setIfInBounds_toArray, List.set_cons_succ, List.set_cons_zero]
  refine wpList_valn rfl (exec_ld rfl (ev rfl) (ldKs (HL2.out).c1)) ?_
  simp only [Act.put, List.setIfInBounds_toArray, List.set_cons_succ, List.set_cons_zero]
  refine wpList_call rfl (exec_cl Try.call35 rfl (evc (ev rfl) (evc (ev rfl) evn))) ?_
  refine (r_ahead ⟨k, false⟩ w2 HL2.out.row.rd (Nat.le_refl _) HL2.out.len).mono ?_
  rintro e w3 ⟨v3, rfl, hm3, hb3⟩
  obtain ⟨hset, htn⟩ := HL2.out.set hb3 hm3 HRM.out
  have hc1 := (HL2.out.below hb3).c1
  have hfz := (HL2.out.below hb3).fz 1
  obtain ⟨A3, c3, rfl, _, _⟩ := hm3.form
  refine ⟨_, rfl, ?_⟩
  simp only [Act.put, List.setIfInBounds_toArray, List.set_cons_succ, List.set_cons_zero]
  refine wpList_valn rfl (exec_nil rfl (ev rfl)) ?_
  simp only [Act.put, List.setIfInBounds_toArray, List.set_cons_succ, List.set_cons_zero]
  refine wpList_valn rfl (exec_faddr rfl (ev rfl) faRl1) ?_
  simp only [Act.put, List.setIfInBounds_toArray, List.set_cons_succ, List.set_cons_zero]
  refine wpList_nuln rfl (exec_st rfl (ev rfl) (ev rfl) (stKs hc1 hfz)) ?_
  simp only [Act.put, List.setIfInBounds_toArray, List.set_cons_succ, List.set_cons_zero]
  refine wpList_nil ?_
  have HS := Lib.hid hset
  have HT := Lib.hid ((Turn.of_below (I := isRl) (B := B) HB2.out).trans htn)
  clear hm3 hb3 hset htn hc1 hfz
  go_wp2_with fail
  go_ret3
  refine ⟨?_, ?_, HT.out⟩
  · unfold tchG tchW tchE
    rw [if_neg HI.out, if_neg HI.out, if_neg HI.out, if_pos HLT.out, if_pos HLT.out, if_pos HLT.out]
    rfl
  · unfold tchS
    rw [if_neg HI.out, if_pos HLT.out]
    exact ⟨_, HS.out⟩
set_option maxHeartbeats 1000000 in
theorem rtouch_all (w : World) (h : RLu w B q room v L) (hi : ¬ plc k L < L.length) (hl : ¬ L.length < room) : Calls Try.prog 22 #[.pointer (some ⟨q, 0, none⟩), .int .i64 k] w (TchPostR B q room k L w) := by
  obtain ⟨A, c, rfl, h1, h2⟩ := h.row.form
  have HL := Lib.hid h
  have HP := Lib.hid (r_place_no w h hi)
  have HI := Lib.hid hi
  have HGE : Hid (decide ((0 : Int) ≤ (-1 : Int)) = false) := Lib.hid (decide_eq_false (by omega))
  have HLT := Lib.hid hl
  have HLS : Hid (decide ((L.length : Int) < (room : Int)) = false) := Lib.hid (decide_eq_false (by omega))
  have HN : Hid (L.length ≤ 64) := Lib.hid h.len
  have HW1 : Hid (IntKind.i64.wrap ((L.length : Int) - 1) = (L.length : Int) - 1) := Lib.hid (by have := h.len; rw [IntWalk.i64_in _ ⟨by omega, by omega⟩])
  clear hl
  clear h hi h1 h2
  go_enter Try.func22, Try.ntmps22
  go_wp2_with fail
  refine HP.out.mono ?_
  rintro e w1 ⟨rfl, rfl⟩
  go_upto_region 2 with fail
  refine wp_region_lit ?_
  refine wpList_valn rfl (exec_mv rfl (ev rfl)) ?_
  simp only [Act.put, List.setIfInBounds_toArray, List.set_cons_succ, List.set_cons_zero]
  refine wpList_valn (v := .bool false) rfl (exec_geq false rfl (ev rfl) evk HGE.out) ?_
  simp only [Act.put, List.setIfInBounds_toArray, List.set_cons_succ, List.set_cons_zero]
  refine wpList_nil ?_
  go_upto_region 5 with fail
  refine wp_region_above (B := w.heap.size) (by kernel_rfl) ?_
  refine qv_val rfl (fun w' hw => exec_mv rfl (ev rfl)) ?_
  simp only [Act.put, List.setIfInBounds_toArray, List.set_cons_succ, List.set_cons_zero]
  refine qv_val rfl (fun w' hw => exec_nil rfl (ev rfl)) ?_
  simp only [Act.put, List.setIfInBounds_toArray, List.set_cons_succ, List.set_cons_zero]
  refine qv_val rfl (fun w' hw => exec_faddr rfl (ev rfl) faRl1) ?_
  simp only [Act.put, List.setIfInBounds_toArray, List.set_cons_succ, List.set_cons_zero]
  refine qv_val rfl (fun w' hw => exec_ld rfl (ev rfl) (ldKs ((HL.out.below hw)).c1)) ?_
  simp only [Act.put, List.setIfInBounds_toArray, List.set_cons_succ, List.set_cons_zero]
  refine qv_val rfl (fun w' hw => exec_lenE KyE rfl (ev rfl)) ?_
  simp only [Act.put, List.setIfInBounds_toArray, List.set_cons_succ, List.set_cons_zero]
  refine qv_val rfl (fun w' hw => exec_mv rfl (ev rfl)) ?_
  simp only [Act.put, List.setIfInBounds_toArray, List.set_cons_succ, List.set_cons_zero]
  refine qv_val rfl (fun w' hw => exec_nil rfl (ev rfl)) ?_
  simp only [Act.put, List.setIfInBounds_toArray, List.set_cons_succ, List.set_cons_zero]
  refine qv_val rfl (fun w' hw => exec_faddr rfl (ev rfl) faRl0) ?_
  simp only [Act.put, List.setIfInBounds_toArray, List.set_cons_succ, List.set_cons_zero]
  refine qv_val rfl (fun w' hw => exec_ld rfl (ev rfl) (ldInt ((HL.out.below hw)).c0)) ?_
  simp only [Act.put, List.setIfInBounds_toArray, List.set_cons_succ, List.set_cons_zero]
  refine qv_val (v := .bool false) rfl (fun w' hw => exec_lss false rfl (ev rfl) (ev rfl) HLS.out) ?_
  simp only [Act.put, List.setIfInBounds_toArray, List.set_cons_succ, List.set_cons_zero]
  refine wpQuiet_nil ?_
  intro w2 hw2
  have HL2 := Lib.hid (HL.out.below hw2)
  have HB2 := Lib.hid hw2
  clear hw2
  go_upto_region 8 with fail
  refine wp_region_lit ?_
  refine wpList_valn rfl (exec_mv rfl (ev rfl)) ?_
  simp only [Act.put, List.setIfInBounds_toArray, List.set_cons_succ, List.set_cons_zero]
  refine wpList_valn rfl (exec_nil rfl (ev rfl)) ?_
  simp only [Act.put, List.setIfInBounds_toArray, List.set_cons_succ, List.set_cons_zero]
  refine wpList_valn rfl (exec_faddr rfl (ev rfl) faRl1) ?_
  simp only [Act.put, List.setIfInBounds_toArray, List.set_cons_succ, List.set_cons_zero]
  refine wpList_valn rfl (exec_ld rfl (ev rfl) (ldKs (HL2.out).c1)) ?_
  simp only [Act.put, List.setIfInBounds_toArray, List.set_cons_succ, List.set_cons_zero]
  refine wpList_valn rfl (exec_lenE KyE rfl (ev rfl)) ?_
  simp only [Act.put, List.setIfInBounds_toArray, List.set_cons_succ, List.set_cons_zero]
  refine wpList_valn rfl (exec_sub rfl (ev rfl) evk HW1.out) ?_
  simp only [Act.put, List.setIfInBounds_toArray, List.set_cons_succ, List.set_cons_zero]
  refine wpList_valn rfl (exec_as rfl (ev rfl)) ?_
  simp only [Act.put, List.setIfInBounds_toArray, List.set_cons_succ, List.set_cons_zero]
  refine wpList_nil ?_
  go_wp2_with fail
  go_loop [8] (fun i => ∃ j : Nat, j ≤ L.length ∧ i = .int .i64 ((j : Int) - 1) ∧ Hid (∀ t, j ≤ t → t < L.length → (L.getD t ky0).pin = true)) (fun i => (intOf i + 1).toNat)
  case atStart => exact ⟨L.length, Nat.le_refl _, rfl, Lib.hid fun t h1 h2 => absurd h2 (by omega)⟩
  case round =>
    obtain ⟨j, hj, rfl, hno⟩ := hrel
    cases j with
    | zero =>
      have HU : Hid (lu L = 0) := Lib.hid (lu_none fun t ht => hno.out t (Nat.zero_le _) ht)
      have hd : decide ((0 : Int) ≤ ((0 : Nat) : Int) - 1) = false := decide_eq_false (by omega)
      go_wp2_with fail
      go_ret3
      refine ⟨?_, ?_, Turn.of_below HB2.out⟩
      · unfold tchG tchW tchE
        rw [if_neg HI.out, if_neg HI.out, if_neg HI.out, if_neg HLT.out, if_neg HLT.out, if_neg HLT.out, if_pos HU.out, if_pos HU.out, if_pos HU.out]
        rfl
      · unfold tchS
        rw [if_neg HI.out, if_neg HLT.out, if_pos HU.out]
        exact ⟨_, HL2.out⟩
    | succ j =>
      have hjl : j < L.length := hj
      have HJ1 : Hid (((j + 1 : Nat) : Int) - 1 = (j : Int)) := Lib.hid (by omega)
      rw [HJ1.out]
      have HGJ : Hid (decide ((0 : Int) ≤ (j : Int)) = true) := Lib.hid (decide_eq_true (by omega))
      obtain ⟨b, off, hA, hc⟩ := HL2.out.row.rd.ky hjl
      obtain ⟨x, hx⟩ : ∃ x, L.getD j ky0 = x := ⟨_, rfl⟩
      rw [hx] at hc
      have HA := Lib.hid hA
      have HX := Lib.hid hx
      have HC := Lib.hid hc
      have HJ := Lib.hid hjl
      clear hA hx hc hjl
      go_upto_region 9 with fail
      refine wp_region_lit ?_
      refine wpList_valn rfl (exec_mv rfl (ev rfl)) ?_
      simp only [Act.put, List.setIfInBounds_toArray, List.set_cons_succ, List.set_cons_zero]
      refine wpList_valn (v := .bool true) rfl (exec_geq true rfl (ev rfl) evk HGJ.out) ?_
      simp only [Act.put, List.setIfInBounds_toArray, List.set_cons_succ, List.set_cons_zero]
      refine wpList_nil ?_
      cases hp : x.pin
      · have HPI := Lib.hid hp
        have HC1 : Hid (w2.cell? ⟨b, off + j * 2 + 1, none⟩ = some (.bool false)) := Lib.hid (by have := ky_p HC.out; rwa [hp] at this)
        have HU : Hid (lu L = j + 1) := Lib.hid (lu_of HJ.out (by rw [HX.out]; exact hp) fun t h1 h2 => hno.out t (by omega) h2)
        clear hp
        go_upto_region 11 with fail
        refine wp_region_lit ?_
        refine wpList_valn rfl (exec_mv rfl (ev rfl)) ?_
        simp only [Act.put, List.setIfInBounds_toArray, List.set_cons_succ, List.set_cons_zero]
        refine wpList_valn rfl (exec_nil rfl (ev rfl)) ?_
        simp only [Act.put, List.setIfInBounds_toArray, List.set_cons_succ, List.set_cons_zero]
        refine wpList_valn rfl (exec_faddr rfl (ev rfl) faRl1) ?_
        simp only [Act.put, List.setIfInBounds_toArray, List.set_cons_succ, List.set_cons_zero]
        refine wpList_valn rfl (exec_ld rfl (ev rfl) (ldKs (HL2.out).c1)) ?_
        simp only [Act.put, List.setIfInBounds_toArray, List.set_cons_succ, List.set_cons_zero]
        refine wpList_valn rfl (exec_mv rfl (ev rfl)) ?_
        simp only [Act.put, List.setIfInBounds_toArray, List.set_cons_succ, List.set_cons_zero]
        refine wpList_valn rfl (exec_indexE (E := KyE) (b := b) (off := off) (j := j) rfl ((ev rfl).trans (by rw [HA.out])) (ev rfl) HJ.out) ?_
        simp only [Act.put, List.setIfInBounds_toArray, List.set_cons_succ, List.set_cons_zero]
        refine wpList_valn rfl (exec_faddr rfl (ev rfl) faKy1) ?_
        simp only [Act.put, List.setIfInBounds_toArray, List.set_cons_succ, List.set_cons_zero]
        refine wpList_valn (v := .bool false) rfl (exec_ld rfl (ev rfl) (ldBo HC1.out)) ?_
        simp only [Act.put, List.setIfInBounds_toArray, List.set_cons_succ, List.set_cons_zero]
        refine wpList_valn (v := .bool true) rfl (exec_not false rfl (ev rfl)) ?_
        simp only [Act.put, List.setIfInBounds_toArray, List.set_cons_succ, List.set_cons_zero]
        refine wpList_nil ?_
        go_upto_region 12 with fail
        refine wp_region_lit ?_
        refine wpList_valn rfl (exec_mv rfl (ev rfl)) ?_
        simp only [Act.put, List.setIfInBounds_toArray, List.set_cons_succ, List.set_cons_zero]
        refine wpList_valn rfl (exec_nil rfl (ev rfl)) ?_
        simp only [Act.put, List.setIfInBounds_toArray, List.set_cons_succ, List.set_cons_zero]
        refine wpList_valn rfl (exec_faddr rfl (ev rfl) faRl1) ?_
        simp only [Act.put, List.setIfInBounds_toArray, List.set_cons_succ, List.set_cons_zero]
        refine wpList_valn rfl (exec_ld rfl (ev rfl) (ldKs (HL2.out).c1)) ?_
        simp only [Act.put, List.setIfInBounds_toArray, List.set_cons_succ, List.set_cons_zero]
        refine wpList_valn rfl (exec_mv rfl (ev rfl)) ?_
        simp only [Act.put, List.setIfInBounds_toArray, List.set_cons_succ, List.set_cons_zero]
        refine wpList_valn rfl (exec_indexE (E := KyE) (b := b) (off := off) (j := j) rfl ((ev rfl).trans (by rw [HA.out])) (ev rfl) HJ.out) ?_
        simp only [Act.put, List.setIfInBounds_toArray, List.set_cons_succ, List.set_cons_zero]
        refine wpList_valn rfl (exec_faddr rfl (ev rfl) faKy0) ?_
        simp only [Act.put, List.setIfInBounds_toArray, List.set_cons_succ, List.set_cons_zero]
        refine wpList_valn rfl (exec_ld rfl (ev rfl) (ldInt (ky_n HC.out))) ?_
        simp only [Act.put, List.setIfInBounds_toArray, List.set_cons_succ, List.set_cons_zero]
        refine wpList_valn rfl (exec_as rfl (ev rfl)) ?_
        simp only [Act.put, List.setIfInBounds_toArray, List.set_cons_succ, List.set_cons_zero]
        refine wpList_nil ?_
        go_upto_region 13 with fail
        refine wp_region_lit ?_
        refine wpList_valn rfl (exec_mv rfl (ev rfl)) ?_
        simp only [Act.put, List.setIfInBounds_toArray, List.set_cons_succ, List.set_cons_zero]
        refine wpList_valn rfl (exec_mv rfl (ev rfl)) ?_
        simp only [Act.put, List.setIfInBounds_toArray, List.set_cons_succ, List.set_cons_zero]
        refine wpList_valn rfl (exec_bld1 rfl (ev rfl) (bldKy k _)) ?_
        simp only [Act.put, List.setIfInBounds_toArray, List.set_cons_succ, List.set_cons_zero]
        refine wpList_valn rfl (exec_mv rfl (ev rfl)) ?_
        simp only [Act.put, List.setIfInBounds_toArray, List.set_cons_succ, List.set_cons_zero]
        refine wpList_valn rfl (exec_mv rfl (ev rfl)) ?_
        simp only [Act.put, List.setIfInBounds_toArray, List.set_cons_succ, List.set_cons_zero]
        refine wpList_call rfl (exec_cl Try.call36 rfl (evc (ev rfl) (evc (ev rfl) evn))) ?_
        refine (r_without w2 HL2.out HJ.out).mono ?_
        rintro e w3 ⟨v3, rfl, hm3, hb3⟩
        obtain ⟨A3, c3, rfl, _, _⟩ := hm3.form
        refine ⟨_, rfl, ?_⟩
        simp only [Act.put, List.setIfInBounds_toArray, List.set_cons_succ, List.set_cons_zero]
        refine wpList_call rfl (exec_cl Try.call35 rfl (evc (ev rfl) (evc (ev rfl) evn))) ?_
        refine (r_ahead ⟨k, false⟩ w3 hm3.rd (Nat.le_refl _) (by have := wo_len HJ.out; have := HN.out; omega)).mono ?_
        rintro e w4 ⟨v4, rfl, hm4, hb4⟩
        have hb4' := hb3.trans (hb4.mono hb3.size)
        obtain ⟨hset, htn⟩ := HL2.out.set hb4' (hm4.base hb3.size) (by rw [cons_wo_len HJ.out]; exact HN.out)
        have hc1 := (HL2.out.below hb4').c1
        have hfz := (HL2.out.below hb4').fz 1
        obtain ⟨A4, c4, rfl, _, _⟩ := hm4.form
        refine ⟨_, rfl, ?_⟩
        simp only [Act.put, List.setIfInBounds_toArray, List.set_cons_succ, List.set_cons_zero]
        refine wpList_valn rfl (exec_nil rfl (ev rfl)) ?_
        simp only [Act.put, List.setIfInBounds_toArray, List.set_cons_succ, List.set_cons_zero]
        refine wpList_valn rfl (exec_faddr rfl (ev rfl) faRl1) ?_
        simp only [Act.put, List.setIfInBounds_toArray, List.set_cons_succ, List.set_cons_zero]
        refine wpList_nuln rfl (exec_st rfl (ev rfl) (ev rfl) (stKs hc1 hfz)) ?_
        simp only [Act.put, List.setIfInBounds_toArray, List.set_cons_succ, List.set_cons_zero]
        refine wpList_nil ?_
        have HS := Lib.hid hset
        have HT := Lib.hid ((Turn.of_below (I := isRl) (B := B) HB2.out).trans htn)
        have HU0 : Hid (¬ lu L = 0) := Lib.hid (by have := HU.out; omega)
        clear hm3 hb3 hm4 hb4 hb4' hset htn hc1 hfz
        go_wp2_with fail
        go_ret3
        refine ⟨?_, ?_, HT.out⟩
        · unfold tchG tchW tchE
          rw [if_neg HI.out, if_neg HI.out, if_neg HI.out, if_neg HLT.out, if_neg HLT.out, if_neg HLT.out, if_neg HU0.out, if_neg HU0.out, if_neg HU0.out, HU.out, Nat.add_sub_cancel, HX.out]
          rfl
        · unfold tchS
          rw [if_neg HI.out, if_neg HLT.out, if_neg HU0.out, HU.out, Nat.add_sub_cancel]
          exact ⟨_, HS.out⟩
      · have HPI := Lib.hid hp
        have HC1 : Hid (w2.cell? ⟨b, off + j * 2 + 1, none⟩ = some (.bool true)) := Lib.hid (by have := ky_p HC.out; rwa [hp] at this)
        have HWJ : Hid (IntKind.i64.wrap ((j : Int) - 1) = (j : Int) - 1) := Lib.hid (by have := HN.out; have := HJ.out; rw [IntWalk.i64_in _ ⟨by omega, by omega⟩])
        clear hp
        go_upto_region 11 with fail
        refine wp_region_lit ?_
        refine wpList_valn rfl (exec_mv rfl (ev rfl)) ?_
        simp only [Act.put, List.setIfInBounds_toArray, List.set_cons_succ, List.set_cons_zero]
        refine wpList_valn rfl (exec_nil rfl (ev rfl)) ?_
        simp only [Act.put, List.setIfInBounds_toArray, List.set_cons_succ, List.set_cons_zero]
        refine wpList_valn rfl (exec_faddr rfl (ev rfl) faRl1) ?_
        simp only [Act.put, List.setIfInBounds_toArray, List.set_cons_succ, List.set_cons_zero]
        refine wpList_valn rfl (exec_ld rfl (ev rfl) (ldKs (HL2.out).c1)) ?_
        simp only [Act.put, List.setIfInBounds_toArray, List.set_cons_succ, List.set_cons_zero]
        refine wpList_valn rfl (exec_mv rfl (ev rfl)) ?_
        simp only [Act.put, List.setIfInBounds_toArray, List.set_cons_succ, List.set_cons_zero]
        refine wpList_valn rfl (exec_indexE (E := KyE) (b := b) (off := off) (j := j) rfl ((ev rfl).trans (by rw [HA.out])) (ev rfl) HJ.out) ?_
        simp only [Act.put, List.setIfInBounds_toArray, List.set_cons_succ, List.set_cons_zero]
        refine wpList_valn rfl (exec_faddr rfl (ev rfl) faKy1) ?_
        simp only [Act.put, List.setIfInBounds_toArray, List.set_cons_succ, List.set_cons_zero]
        refine wpList_valn (v := .bool true) rfl (exec_ld rfl (ev rfl) (ldBo HC1.out)) ?_
        simp only [Act.put, List.setIfInBounds_toArray, List.set_cons_succ, List.set_cons_zero]
        refine wpList_valn (v := .bool false) rfl (exec_not true rfl (ev rfl)) ?_
        simp only [Act.put, List.setIfInBounds_toArray, List.set_cons_succ, List.set_cons_zero]
        refine wpList_nil ?_
        go_upto_region 10 with fail
        refine wp_region_lit ?_
        refine wpList_valn rfl (exec_mv rfl (ev rfl)) ?_
        simp only [Act.put, List.setIfInBounds_toArray, List.set_cons_succ, List.set_cons_zero]
        refine wpList_valn rfl (exec_sub rfl (ev rfl) evk HWJ.out) ?_
        simp only [Act.put, List.setIfInBounds_toArray, List.set_cons_succ, List.set_cons_zero]
        refine wpList_valn rfl (exec_as rfl (ev rfl)) ?_
        simp only [Act.put, List.setIfInBounds_toArray, List.set_cons_succ, List.set_cons_zero]
        refine wpList_nil ?_
        go_wp2_with fail
        go_round
        case rel =>
          refine ⟨j, Nat.le_of_lt HJ.out, rfl, Lib.hid fun t h1 h2 => ?_⟩
          by_cases e : t = j
          · subst e; rw [HX.out]; exact HPI.out
          · exact hno.out t (by omega) h2
        case measure => simp [intOf]
theorem rl_touch (w : World) (h : RL w B q room L) (hrm : room ≤ 64) : Calls Try.prog 22 #[.pointer (some ⟨q, 0, none⟩), .int .i64 k] w (TchPostR B q room k L w) := by
  obtain ⟨v, h⟩ := h
  by_cases hi : plc k L < L.length
  · exact rtouch_hit w h rfl hi
  · by_cases hl : L.length < room
    · exact rtouch_room w h hi hl hrm
    · exact rtouch_all w h hi hl
theorem rpin_no (w : World) (h : RLu w B q room v L) (is : Bool) (hi : ¬ plc k L < L.length) : Calls Try.prog 23 #[.pointer (some ⟨q, 0, none⟩), .int .i64 k, .bool is] w fun e w' => e = .returned (.int .i64 (fndE k L)) ∧ RL w' B q room (pinS k is L) ∧ TurnR B w w' := by
  have HP := Lib.hid (r_place_no w h hi)
  have HI := Lib.hid hi
  have HL := Lib.hid h
  clear h hi
  go_enter Try.func23, Try.ntmps23
  go_wp2_with fail
  refine HP.out.mono ?_
  rintro e w1 ⟨rfl, rfl⟩
  go_wp2_with fail
  go_ret
  refine ⟨by unfold fndE; rw [if_neg HI.out]; rfl, ?_, Turn.refl _ _ _⟩
  unfold pinS
  rw [if_neg HI.out]
  exact ⟨_, HL.out⟩
theorem rdrop_no (w : World) (h : RLu w B q room v L) (hi : ¬ plc k L < L.length) : Calls Try.prog 24 #[.pointer (some ⟨q, 0, none⟩), .int .i64 k] w fun e w' => e = .returned (.int .i64 (fndE k L)) ∧ RL w' B q room (drpS k L) ∧ TurnR B w w' := by
  have HP := Lib.hid (r_place_no w h hi)
  have HI := Lib.hid hi
  have HL := Lib.hid h
  clear h hi
  go_enter Try.func24, Try.ntmps24
  go_wp2_with fail
  refine HP.out.mono ?_
  rintro e w1 ⟨rfl, rfl⟩
  go_wp2_with fail
  go_ret
  refine ⟨by unfold fndE; rw [if_neg HI.out]; rfl, ?_, Turn.refl _ _ _⟩
  unfold drpS
  rw [if_neg HI.out]
  exact ⟨_, HL.out⟩
set_option maxHeartbeats 1000000 in
theorem rpin_hit (w : World) (h : RLu w B q room v L) (is : Bool) {i : Nat} (hp : plc k L = i) (hi : i < L.length) : Calls Try.prog 23 #[.pointer (some ⟨q, 0, none⟩), .int .i64 k, .bool is] w fun e w' => e = .returned (.int .i64 (fndE k L)) ∧ RL w' B q room (pinS k is L) ∧ TurnR B w w' := by
  obtain ⟨A, c, rfl, h1, h2⟩ := h.row.form
  have HL := Lib.hid h
  have HP := Lib.hid (r_place_hit w h hp hi)
  have HPI := Lib.hid hp
  have HI := Lib.hid hi
  have hd : decide ((i : Int) < 0) = false := decide_eq_false (by omega)
  have HGE : Hid (decide ((0 : Int) ≤ (i : Int)) = true) := Lib.hid (decide_eq_true (by omega))
  have hn0 : (L.getD i ky0).n = k := by have := plc_at (k := k) (L := L) (by rw [hp]; exact hi); rwa [hp] at this
  obtain ⟨g, rfl⟩ : ∃ g, A = some ⟨g, 0, none⟩ := by
    rcases h.row.2 with ⟨e, h0⟩ | ⟨g, cap, cur, e, _⟩
    · injection e with e1 e2 e3; omega
    · injection e with e1 e2 e3; exact ⟨g, e1⟩
  have hput := h.row.put hi (j := 1) (vs := [.bool is]) ⟨k, is⟩ (by
    show [Value.int .i64 k, .bool is] = ([Value.int .i64 (L.getD i ky0).n, .bool (L.getD i ky0).pin] : List Value).take 1 ++ [.bool is] ++ _
    rw [hn0]; rfl) (by show 1 + 1 ≤ 2; omega)
  have hth := h.row.there hi (j := 1) (m := 1) (by show 1 + 1 ≤ 2; omega)
  obtain ⟨hc1, hf1⟩ := hth 0 (by omega)
  obtain ⟨u, hu⟩ := Option.isSome_iff_exists.1 hc1
  have HU := Lib.hid hu
  have HF := Lib.hid hf1
  have HPUT := Lib.hid hput
  obtain ⟨_, hlow, post, hg, _⟩ := h.row.parts
  have HG := Lib.hid hg
  have HLOW := Lib.hid hlow
  have HWN : Hid (g ≠ q) := Lib.hid fun e => by subst e; rw [h.at_] at hg; simp at hg; exact absurd hg.2 (by decide)
  clear h hp hi h1 h2 hn0 hput hth hc1 hf1 hu hg hlow
  go_enter Try.func23, Try.ntmps23
  go_wp2_with fail
  refine HP.out.mono ?_
  rintro e w1 ⟨rfl, rfl⟩
  go_upto_region 4 with fail
  refine wp_region_lit ?_
  refine wpList_valn rfl (exec_mv rfl (ev rfl)) ?_
  simp only [Act.put, List.setIfInBounds_toArray, List.set_cons_succ, List.set_cons_zero]
  refine wpList_valn rfl (exec_nil rfl (ev rfl)) ?_
  simp only [Act.put, List.setIfInBounds_toArray, List.set_cons_succ, List.set_cons_zero]
  refine wpList_valn rfl (exec_faddr rfl (ev rfl) faRl1) ?_
  simp only [Act.put, List.setIfInBounds_toArray, List.set_cons_succ, List.set_cons_zero]
  refine wpList_valn rfl (exec_ld rfl (ev rfl) (ldKs (HL.out).c1)) ?_
  simp only [Act.put, List.setIfInBounds_toArray, List.set_cons_succ, List.set_cons_zero]
  refine wpList_valn rfl (exec_mv rfl (ev rfl)) ?_
  simp only [Act.put, List.setIfInBounds_toArray, List.set_cons_succ, List.set_cons_zero]
  refine wpList_valn rfl (exec_mv rfl (ev rfl)) ?_
  simp only [Act.put, List.setIfInBounds_toArray, List.set_cons_succ, List.set_cons_zero]
  refine wpList_valn rfl (exec_indexE (E := KyE) (b := g) (off := 0) (j := i) rfl (ev rfl) (ev rfl) HI.out) ?_
  simp only [Act.put, List.setIfInBounds_toArray, List.set_cons_succ, List.set_cons_zero]
  refine wpList_valn rfl (exec_faddr rfl (ev rfl) faKy1) ?_
  simp only [Act.put, List.setIfInBounds_toArray, List.set_cons_succ, List.set_cons_zero]
  refine wpList_nuln rfl (exec_st rfl (ev rfl) (ev rfl) (stBo (ad := ⟨g, 0 + i * 2 + 1, none⟩) (by rw [Nat.zero_add]; exact HU.out) (by rw [Nat.zero_add]; exact HF.out))) ?_
  simp only [Act.put, List.setIfInBounds_toArray, List.set_cons_succ, List.set_cons_zero]
  refine wpList_nil ?_
  go_wp2_with fail
  go_ret
  have hp : pinS k is L = L.set i ⟨k, is⟩ := by unfold pinS; rw [HPI.out, if_pos HI.out]
  have hrow : MadeE KyE (w.setCell ⟨g, 0 + i * 2 + 1, none⟩ (.bool is)) B (.slice (some ⟨g, 0, none⟩) L.length c) (L.set i ⟨k, is⟩) := by rw [Nat.zero_add]; exact HPUT.out
  have hq : (w.setCell ⟨g, 0 + i * 2 + 1, none⟩ (.bool is)).heap[q]? = w.heap[q]? := heap_setCell_other w ⟨g, _, none⟩ q _ (Ne.symm HWN.out)
  refine ⟨by unfold fndE; rw [HPI.out, if_pos HI.out]; rfl, ⟨.slice (some ⟨g, 0, none⟩) L.length c, ?_⟩, (Turn.refl isRl B w).setCell (p := ⟨g, 0 + i * 2 + 1, none⟩) HLOW.out HG.out (.inr rfl) _⟩
  rw [hp]
  exact ⟨by rw [hq]; exact HL.out.at_, hrow, HL.out.low, by rw [List.length_set]; exact HL.out.len⟩
set_option maxHeartbeats 1000000 in
theorem rdrop_hit (w : World) (h : RLu w B q room v L) {i : Nat} (hp : plc k L = i) (hi : i < L.length) : Calls Try.prog 24 #[.pointer (some ⟨q, 0, none⟩), .int .i64 k] w fun e w' => e = .returned (.int .i64 (fndE k L)) ∧ RL w' B q room (drpS k L) ∧ TurnR B w w' := by
  obtain ⟨A, c, rfl, h1, h2⟩ := h.row.form
  have HL := Lib.hid h
  have HP := Lib.hid (r_place_hit w h hp hi)
  have HPI := Lib.hid hp
  have HI := Lib.hid hi
  have hd : decide ((i : Int) < 0) = false := decide_eq_false (by omega)
  have HGE : Hid (decide ((0 : Int) ≤ (i : Int)) = true) := Lib.hid (decide_eq_true (by omega))
  clear h hp hi h1 h2
  go_enter Try.func24, Try.ntmps24
  go_wp2_with fail
  refine HP.out.mono ?_
  rintro e w1 ⟨rfl, rfl⟩
  go_upto_region 4 with fail
  refine wp_region_lit ?_
  refine wpList_valn rfl (exec_mv rfl (ev rfl)) ?_
  simp only [Act.put, List.setIfInBounds_toArray, List.set_cons_succ, List.set_cons_zero]
  refine wpList_valn rfl (exec_mv rfl (ev rfl)) ?_
  simp only [Act.put, List.setIfInBounds_toArray, List.set_cons_succ, List.set_cons_zero]
  refine wpList_valn rfl (exec_mv rfl (ev rfl)) ?_
  simp only [Act.put, List.setIfInBounds_toArray, List.set_cons_succ, List.set_cons_zero]
  refine wpList_call rfl (exec_cl Try.call36 rfl (evc (ev rfl) (evc (ev rfl) evn))) ?_
  refine (r_without w HL.out HI.out).mono ?_
  rintro e w3 ⟨v3, rfl, hm3, hb3⟩
  obtain ⟨hset, htn⟩ := HL.out.set hb3 hm3 (by have := wo_len HI.out; have := HL.out.len; omega)
  have hc1 := (HL.out.below hb3).c1
  have hfz := (HL.out.below hb3).fz 1
  obtain ⟨A3, c3, rfl, _, _⟩ := hm3.form
  refine ⟨_, rfl, ?_⟩
  simp only [Act.put, List.setIfInBounds_toArray, List.set_cons_succ, List.set_cons_zero]
  refine wpList_valn rfl (exec_nil rfl (ev rfl)) ?_
  simp only [Act.put, List.setIfInBounds_toArray, List.set_cons_succ, List.set_cons_zero]
  refine wpList_valn rfl (exec_faddr rfl (ev rfl) faRl1) ?_
  simp only [Act.put, List.setIfInBounds_toArray, List.set_cons_succ, List.set_cons_zero]
  refine wpList_nuln rfl (exec_st rfl (ev rfl) (ev rfl) (stKs hc1 hfz)) ?_
  simp only [Act.put, List.setIfInBounds_toArray, List.set_cons_succ, List.set_cons_zero]
  refine wpList_nil ?_
  have HS := Lib.hid hset
  have HT := Lib.hid htn
  clear hm3 hb3 hset htn hc1 hfz
  go_wp2_with fail
  go_ret
  refine ⟨by unfold fndE; rw [HPI.out, if_pos HI.out]; rfl, ?_, HT.out⟩
  unfold drpS
  rw [HPI.out, if_pos HI.out]
  exact ⟨_, HS.out⟩
theorem rhas_no (w : World) (h : RLu w B q room v L) (hi : ¬ plc k L < L.length) : Calls Try.prog 25 #[.pointer (some ⟨q, 0, none⟩), .int .i64 k] w fun e w' => e = .returned (.bool (hasK k L)) ∧ w = w' := by
  have HP := Lib.hid (r_place_no w h hi)
  have hr : hasK k L = false := by unfold hasK; rw [decide_eq_false hi]
  rw [hr]
  clear h hi hr
  go_enter Try.func25, Try.ntmps25
  go_wp2_with fail
  refine HP.out.mono ?_
  rintro e w1 ⟨rfl, rfl⟩
  go_wp2_with fail
  go_ret
  exact ⟨rfl, rfl⟩
theorem rpinned_no (w : World) (h : RLu w B q room v L) (hi : ¬ plc k L < L.length) : Calls Try.prog 26 #[.pointer (some ⟨q, 0, none⟩), .int .i64 k] w fun e w' => e = .returned (.bool (pndK k L)) ∧ w = w' := by
  have HP := Lib.hid (r_place_no w h hi)
  have hr : pndK k L = false := by unfold pndK; rw [decide_eq_false hi]; rfl
  rw [hr]
  clear h hi hr
  go_enter Try.func26, Try.ntmps26
  go_wp2_with fail
  refine HP.out.mono ?_
  rintro e w1 ⟨rfl, rfl⟩
  go_wp2_with fail
  go_ret
  exact ⟨rfl, rfl⟩
theorem rhas_hit (w : World) (h : RLu w B q room v L) {i : Nat} (hp : plc k L = i) (hi : i < L.length) : Calls Try.prog 25 #[.pointer (some ⟨q, 0, none⟩), .int .i64 k] w fun e w' => e = .returned (.bool (hasK k L)) ∧ w = w' := by
  obtain ⟨A, c, rfl, h1, h2⟩ := h.row.form
  have HL := Lib.hid h
  have HP := Lib.hid (r_place_hit w h hp hi)
  have HPI := Lib.hid hp
  have HI := Lib.hid hi
  have hd : decide ((i : Int) < 0) = false := decide_eq_false (by omega)
  have HGE : Hid (decide ((0 : Int) ≤ (i : Int)) = true) := Lib.hid (decide_eq_true (by omega))
  have hr : hasK k L = true := by unfold hasK; rw [hp, decide_eq_true hi]
  have hge := HGE.out
  rw [hr]
  clear h hp hi h1 h2 hr
  go_enter Try.func25, Try.ntmps25
  go_wp2_with fail
  refine HP.out.mono ?_
  rintro e w1 ⟨rfl, rfl⟩
  go_wp2_with fail
  go_ret
  exact ⟨rfl, rfl⟩
theorem rpinned_hit (w : World) (h : RLu w B q room v L) {i : Nat} (hp : plc k L = i) (hi : i < L.length) : Calls Try.prog 26 #[.pointer (some ⟨q, 0, none⟩), .int .i64 k] w fun e w' => e = .returned (.bool (pndK k L)) ∧ w = w' := by
  obtain ⟨A, c, rfl, h1, h2⟩ := h.row.form
  have HL := Lib.hid h
  have HP := Lib.hid (r_place_hit w h hp hi)
  have HPI := Lib.hid hp
  have HI := Lib.hid hi
  have hd : decide ((i : Int) < 0) = false := decide_eq_false (by omega)
  have HGE : Hid (decide ((0 : Int) ≤ (i : Int)) = true) := Lib.hid (decide_eq_true (by omega))
  obtain ⟨b, off, hA, hc⟩ := h.row.rd.ky hi
  have hr : pndK k L = (L.getD i ky0).pin := by unfold pndK; rw [hp, decide_eq_true hi]; rfl
  rw [hr]
  have HA := Lib.hid hA
  have HC := Lib.hid hc
  clear h hp hi h1 h2 hr hA hc
  go_enter Try.func26, Try.ntmps26
  go_wp2_with fail
  refine HP.out.mono ?_
  rintro e w1 ⟨rfl, rfl⟩
  go_upto_region 2 with fail
  refine wp_region_lit ?_
  refine wpList_valn rfl (exec_mv rfl (ev rfl)) ?_
  simp only [Act.put, List.setIfInBounds_toArray, List.set_cons_succ, List.set_cons_zero]
  refine wpList_valn (v := .bool true) rfl (exec_geq true rfl (ev rfl) evk HGE.out) ?_
  simp only [Act.put, List.setIfInBounds_toArray, List.set_cons_succ, List.set_cons_zero]
  refine wpList_valn (v := .bool true) rfl (exec_mv rfl (ev rfl)) ?_
  simp only [Act.put, List.setIfInBounds_toArray, List.set_cons_succ, List.set_cons_zero]
  refine wpList_val (wanted_of rfl rfl rfl rfl) (exec_mv rfl (ev rfl)) ?_
  simp only [Act.put, List.setIfInBounds_toArray, List.set_cons_succ, List.set_cons_zero]
  refine wpList_val (wanted_of rfl rfl rfl rfl) (exec_nil rfl (ev rfl)) ?_
  simp only [Act.put, List.setIfInBounds_toArray, List.set_cons_succ, List.set_cons_zero]
  refine wpList_val (wanted_of rfl rfl rfl rfl) (exec_faddr rfl (ev rfl) faRl1) ?_
  simp only [Act.put, List.setIfInBounds_toArray, List.set_cons_succ, List.set_cons_zero]
  refine wpList_val (wanted_of rfl rfl rfl rfl) (exec_ld rfl (ev rfl) (ldKs (HL.out).c1)) ?_
  simp only [Act.put, List.setIfInBounds_toArray, List.set_cons_succ, List.set_cons_zero]
  refine wpList_val (wanted_of rfl rfl rfl rfl) (exec_mv rfl (ev rfl)) ?_
  simp only [Act.put, List.setIfInBounds_toArray, List.set_cons_succ, List.set_cons_zero]
  refine wpList_val (wanted_of rfl rfl rfl rfl) (exec_indexE (E := KyE) (b := b) (off := off) (j := i) rfl ((ev rfl).trans (by rw [HA.out])) (ev rfl) HI.out) ?_
  simp only [Act.put, List.setIfInBounds_toArray, List.set_cons_succ, List.set_cons_zero]
  refine wpList_val (wanted_of rfl rfl rfl rfl) (exec_faddr rfl (ev rfl) faKy1) ?_
  simp only [Act.put, List.setIfInBounds_toArray, List.set_cons_succ, List.set_cons_zero]
  refine wpList_val (wanted_of rfl rfl rfl rfl) (exec_ld rfl (ev rfl) (ldBo (ky_p HC.out))) ?_
  simp only [Act.put, List.setIfInBounds_toArray, List.set_cons_succ, List.set_cons_zero]
  refine wpList_valn rfl (exec_pt rfl (ev rfl) (ev rfl)) ?_
  simp only [Act.put, List.setIfInBounds_toArray, List.set_cons_succ, List.set_cons_zero]
  refine wpList_valn rfl (exec_as rfl (ev rfl)) ?_
  simp only [Act.put, List.setIfInBounds_toArray, List.set_cons_succ, List.set_cons_zero]
  refine wpList_nil ?_
  go_wp2_with fail
  go_ret
  exact ⟨rfl, rfl⟩
theorem rl_pin (w : World) (h : RL w B q room L) (is : Bool) : Calls Try.prog 23 #[.pointer (some ⟨q, 0, none⟩), .int .i64 k, .bool is] w fun e w' => e = .returned (.int .i64 (fndE k L)) ∧ RL w' B q room (pinS k is L) ∧ TurnR B w w' := by
  obtain ⟨v, h⟩ := h
  by_cases hi : plc k L < L.length
  · exact rpin_hit w h is rfl hi
  · exact rpin_no w h is hi
theorem rl_drop (w : World) (h : RL w B q room L) : Calls Try.prog 24 #[.pointer (some ⟨q, 0, none⟩), .int .i64 k] w fun e w' => e = .returned (.int .i64 (fndE k L)) ∧ RL w' B q room (drpS k L) ∧ TurnR B w w' := by
  obtain ⟨v, h⟩ := h
  by_cases hi : plc k L < L.length
  · exact rdrop_hit w h rfl hi
  · exact rdrop_no w h hi
theorem rl_has (w : World) (h : RL w B q room L) : Calls Try.prog 25 #[.pointer (some ⟨q, 0, none⟩), .int .i64 k] w fun e w' => e = .returned (.bool (hasK k L)) ∧ w = w' := by
  obtain ⟨v, h⟩ := h
  by_cases hi : plc k L < L.length
  · exact rhas_hit w h rfl hi
  · exact rhas_no w h hi
theorem rl_pinned (w : World) (h : RL w B q room L) : Calls Try.prog 26 #[.pointer (some ⟨q, 0, none⟩), .int .i64 k] w fun e w' => e = .returned (.bool (pndK k L)) ∧ w = w' := by
  obtain ⟨v, h⟩ := h
  by_cases hi : plc k L < L.length
  · exact rpinned_hit w h rfl hi
  · exact rpinned_no w h hi
set_option maxHeartbeats 1000000 in
theorem rl_keys (w : World) (h : RL w B q room L) : Calls Try.prog 14 #[.pointer (some ⟨q, 0, none⟩)] w fun e w' => ∃ v, e = .returned v ∧ MadeE IntE w' w.heap.size v (keyL L) ∧ Below w.heap.size w w' := by
  obtain ⟨v, h⟩ := h
  obtain ⟨A, c, rfl, h1, h2⟩ := h.row.form
  have HL := Lib.hid h
  have HN : Hid (L.length ≤ 64) := Lib.hid h.len
  have HKY : Hid (∀ i, i < L.length → keyL (L.take i) ++ [(L.getD i ky0).n] = keyL (L.take (i + 1))) := Lib.hid fun i hi => by
    have e0 : L.getD i ky0 = L[i] := by simp [List.getD, hi]
    rw [List.take_succ_eq_append_getElem hi, e0]
    unfold keyL
    rw [List.map_append]
    rfl
  have HKL : Hid (∀ i, i ≤ L.length → (keyL (L.take i)).length ≤ 64) := Lib.hid fun i hi => by have := HN.out; unfold keyL; simp; omega
  clear h h1 h2
  go_enter Try.func14, Try.ntmps14
  go_wp2_with fail
  go_loopw [3, 4] (fun u i wr => ∃ j : Nat, j ≤ L.length ∧ i = .int .i64 j ∧ MadeE IntE wr w.heap.size u (keyL (L.take j)) ∧ Below w.heap.size w wr) (fun _ i _ => L.length - (intOf i).toNat)
  case atStart => exact ⟨0, Nat.zero_le _, rfl, by rw [List.take_zero]; exact MadeE.nil _ _, Below.refl _ _⟩
  case round =>
    obtain ⟨j, hj, rfl, hm, hbl⟩ := hrel
    have HM := Lib.hid hm
    have HB := Lib.hid hbl
    have HLW := Lib.hid (HL.out.below hbl)
    clear hm hbl
    by_cases hlt : j < L.length
    · have HLS : Hid (decide ((j : Int) < (L.length : Int)) = true) := Lib.hid (decide_eq_true (by omega))
      obtain ⟨b, off, hA, hc⟩ := HLW.out.row.rd.ky hlt
      have HA := Lib.hid hA
      have HC := Lib.hid hc
      have HJ := Lib.hid hlt
      clear hA hc hlt
      go_upto_region 3 with fail
      refine wp_region_lit ?_
      refine wpList_valn rfl (exec_mv rfl (ev rfl)) ?_
      simp only [Act.put, List.setIfInBounds_toArray, List.set_cons_succ, List.set_cons_zero]
      refine wpList_valn rfl (exec_mv rfl (ev rfl)) ?_
      simp only [Act.put, List.setIfInBounds_toArray, List.set_cons_succ, List.set_cons_zero]
      refine wpList_valn rfl (exec_nil rfl (ev rfl)) ?_
      simp only [Act.put, List.setIfInBounds_toArray, List.set_cons_succ, List.set_cons_zero]
      refine wpList_valn rfl (exec_faddr rfl (ev rfl) faRl1) ?_
      simp only [Act.put, List.setIfInBounds_toArray, List.set_cons_succ, List.set_cons_zero]
      refine wpList_valn rfl (exec_ld rfl (ev rfl) (ldKs (HLW.out).c1)) ?_
      simp only [Act.put, List.setIfInBounds_toArray, List.set_cons_succ, List.set_cons_zero]
      refine wpList_valn rfl (exec_lenE KyE rfl (ev rfl)) ?_
      simp only [Act.put, List.setIfInBounds_toArray, List.set_cons_succ, List.set_cons_zero]
      refine wpList_valn (v := .bool true) rfl (exec_lss true rfl (ev rfl) (ev rfl) HLS.out) ?_
      simp only [Act.put, List.setIfInBounds_toArray, List.set_cons_succ, List.set_cons_zero]
      refine wpList_nil ?_
      go_upto_region 5 with fail
      refine wp_region_lit ?_
      refine wpList_valn rfl (exec_mv rfl (ev rfl)) ?_
      simp only [Act.put, List.setIfInBounds_toArray, List.set_cons_succ, List.set_cons_zero]
      refine wpList_valn rfl (exec_mv rfl (ev rfl)) ?_
      simp only [Act.put, List.setIfInBounds_toArray, List.set_cons_succ, List.set_cons_zero]
      refine wpList_valn rfl (exec_nil rfl (ev rfl)) ?_
      simp only [Act.put, List.setIfInBounds_toArray, List.set_cons_succ, List.set_cons_zero]
      refine wpList_valn rfl (exec_faddr rfl (ev rfl) faRl1) ?_
      simp only [Act.put, List.setIfInBounds_toArray, List.set_cons_succ, List.set_cons_zero]
      refine wpList_valn rfl (exec_ld rfl (ev rfl) (ldKs (HLW.out).c1)) ?_
      simp only [Act.put, List.setIfInBounds_toArray, List.set_cons_succ, List.set_cons_zero]
      refine wpList_valn rfl (exec_mv rfl (ev rfl)) ?_
      simp only [Act.put, List.setIfInBounds_toArray, List.set_cons_succ, List.set_cons_zero]
      refine wpList_valn rfl (exec_indexE (E := KyE) (b := b) (off := off) (j := j) rfl ((ev rfl).trans (by rw [HA.out])) (ev rfl) HJ.out) ?_
      simp only [Act.put, List.setIfInBounds_toArray, List.set_cons_succ, List.set_cons_zero]
      refine wpList_valn rfl (exec_faddr rfl (ev rfl) faKy0) ?_
      simp only [Act.put, List.setIfInBounds_toArray, List.set_cons_succ, List.set_cons_zero]
      refine wpList_valn rfl (exec_ld rfl (ev rfl) (ldInt (ky_n HC.out))) ?_
      simp only [Act.put, List.setIfInBounds_toArray, List.set_cons_succ, List.set_cons_zero]
      refine wpList_valn rfl (exec_mk1E (E := IntE) (a := (L.getD j ky0).n) rfl (ev rfl) rfl (by decide)) ?_
      simp only [Act.put, List.setIfInBounds_toArray, List.set_cons_succ, List.set_cons_zero]
      refine wpList_appE IntE rfl _ _ rfl w.heap.size (wr.heap.size + 1) 1 1 _ (keyL (L.take j)) [(L.getD j ky0).n] (some ⟨wr.heap.size, 0, none⟩) (ev rfl) (ev rfl) (HM.out.below ((Below.refl _ wr).alloc (Nat.le_refl _) _)) (rdE_new wr _ _ rfl) (by rw [World.size_alloc]; exact Nat.le_succ_of_le HB.out.size) (by have := HKL.out j hj; omega) ?_
      intro v' w2 hm2 hg2
      simp only [Act.put, List.setIfInBounds_toArray, List.set_cons_succ, List.set_cons_zero]
      refine wpList_valn rfl (exec_as rfl (ev rfl)) ?_
      simp only [Act.put, List.setIfInBounds_toArray, List.set_cons_succ, List.set_cons_zero]
      refine wpList_nil ?_
      rw [HKY.out j HJ.out] at hm2
      have HM2 := Lib.hid hm2
      have HB2 : Hid (Below w.heap.size w w2) := Lib.hid ((HB.out.alloc HB.out.size _).grown hg2 (by have := HB.out.size; simp; omega) fun j hj => HM.out.lt_own j hj)
      have hn := HN.out
      clear hm2 hg2
      go_wp2_with fail
      go_roundw
      case rel => exact ⟨j + 1, HJ.out, by go_num, HM2.out, HB2.out⟩
      case measure => have := HJ.out; simp [intOf]; omega
    · have HLS : Hid (decide ((j : Int) < (L.length : Int)) = false) := Lib.hid (decide_eq_false (by omega))
      have hm := HM.out
      rw [List.take_of_length_le (by omega)] at hm
      have HM2 := Lib.hid hm
      clear hm hlt
      go_upto_region 3 with fail
      refine wp_region_lit ?_
      refine wpList_valn rfl (exec_mv rfl (ev rfl)) ?_
      simp only [Act.put, List.setIfInBounds_toArray, List.set_cons_succ, List.set_cons_zero]
      refine wpList_valn rfl (exec_mv rfl (ev rfl)) ?_
      simp only [Act.put, List.setIfInBounds_toArray, List.set_cons_succ, List.set_cons_zero]
      refine wpList_valn rfl (exec_nil rfl (ev rfl)) ?_
      simp only [Act.put, List.setIfInBounds_toArray, List.set_cons_succ, List.set_cons_zero]
      refine wpList_valn rfl (exec_faddr rfl (ev rfl) faRl1) ?_
      simp only [Act.put, List.setIfInBounds_toArray, List.set_cons_succ, List.set_cons_zero]
      refine wpList_valn rfl (exec_ld rfl (ev rfl) (ldKs (HLW.out).c1)) ?_
      simp only [Act.put, List.setIfInBounds_toArray, List.set_cons_succ, List.set_cons_zero]
      refine wpList_valn rfl (exec_lenE KyE rfl (ev rfl)) ?_
      simp only [Act.put, List.setIfInBounds_toArray, List.set_cons_succ, List.set_cons_zero]
      refine wpList_valn (v := .bool false) rfl (exec_lss false rfl (ev rfl) (ev rfl) HLS.out) ?_
      simp only [Act.put, List.setIfInBounds_toArray, List.set_cons_succ, List.set_cons_zero]
      refine wpList_nil ?_
      go_wp2_with fail
      go_ret
      exact ⟨_, rfl, HM2.out, HB.out⟩
end
theorem rl_new_no (n : Int) (w : World) (h : ¬ (1 ≤ n ∧ n ≤ 64)) : Calls Try.prog 9 #[.int .i64 n] w fun e w' => e = .returned (.tuple #[.pointer none, .int .i64 2]) ∧ w = w' := by
  by_cases h1 : n < 1
  · have hd : decide (n < 1) = true := decide_eq_true h1
    go_enter Try.func9, Try.ntmps9
    go_wp2_with fail
    go_ret2
    exact ⟨rfl, rfl⟩
  · have hd : decide (n < 1) = false := decide_eq_false h1
    have hd2 : decide (64 < n) = true := decide_eq_true (by omega)
    go_enter Try.func9, Try.ntmps9
    go_wp2_with fail
    go_ret2
    exact ⟨rfl, rfl⟩
theorem rl_new (room : Nat) (w : World) (h1 : 1 ≤ room) (h2 : room ≤ 64) : Calls Try.prog 9 #[.int .i64 (room : Int)] w fun e w' => ∃ q, e = .returned (.tuple #[.pointer (some ⟨q, 0, none⟩), .int .i64 0]) ∧ RL w' w.heap.size q room [] ∧ Below w.heap.size w w' := by
  have hd : decide ((room : Int) < 1) = false := decide_eq_false (by omega)
  have hd2 : decide (64 < (room : Int)) = false := decide_eq_false (by omega)
  go_enter Try.func9, Try.ntmps9
  go_wp2_with fail
  go_ret2
  exact ⟨_, rfl, ⟨.slice none 0 0, heap_alloc_new w _, MadeE.nil _ _, Nat.le_refl _, by simp⟩, (Below.refl _ _).alloc (Nat.le_refl _) _⟩
end Go.Proofs.Ytmnabdojlekjcaa
