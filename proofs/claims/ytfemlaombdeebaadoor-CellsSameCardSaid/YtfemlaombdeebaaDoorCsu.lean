/-
  The sum of all bytes of sectors: the program's Sum, the document's.
-/
import Derived.Test.YtfemlaombdeebaaDoorCrcMore
import Derived.Test.YtfemlaombdeebaaDoorCelM
import Derived.Test.YtfemlaombdeebaaDoorCut
import Derived.Test.YtfemlaombdeebaaDoorBlkS
import Derived.Test.YtfemlaombdeebaaDoorSkip
import Derived.Test.YtfemlaombdeebaaDoorCpm
import Derived.Deep.DeepCutAuto
namespace Go.Proofs.YtfemlaombdeebaaDoor
open Go.RowKit
set_option linter.unusedVariables false
set_option linter.unusedSimpArgs false
set_option maxRecDepth 100000

theorem rd_rng {w : World} {b o N : Nat} {x : Blk} (h : w.rangeAt b o (cel x)) (hb : b < N) : Rd w N (some ⟨b, o, none⟩) 64 x.toList :=
  ⟨toList_len x, fun k hk => ⟨b, o, rfl, hb, h k _ (cel_at x hk)⟩⟩
theorem byts_succ {l : List Blk} {k : Nat} (h : k < l.length) : byts (l.take (k + 1)) = byts (l.take k) ++ (l.getD k zeroB).toList := by
  rw [List.take_succ_eq_append_getElem h, byts_append, List.getD, List.getElem?_eq_getElem h]
  simp [byts]
/-- The sum of sectors. -/
def sumB (l : List Blk) : Nat := more 0 (byts l)
theorem sumB_lt (l : List Blk) : sumB l < 4294967296 := more_lt (by omega) _
theorem sumB_succ {l : List Blk} {k : Nat} (h : k < l.length) : sumB (l.take (k + 1)) = more (sumB (l.take k)) (l.getD k zeroB).toList := by
  unfold sumB
  rw [byts_succ h, more_append]
set_option maxHeartbeats 2000000 in
theorem psum (A : Option Addr) (n c N : Nat) (l : List Blk) (w : World) (T : Tab w) (hl : RdB w N A n l) (hn : n ≤ 2199023255552) :
    Calls Tryd.prog 10 #[.slice A n c] w fun e w' => e = .returned (.int .u32 (sumB l : Nat)) ∧ w = w' := by
  have HL := Lib.hid hl.1
  have HRD := Lib.hid hl
  have HZ : Hid (more 0 [] = 0) := Lib.hid (by decide)
  have HZ0 : Hid (sumB (l.take 0) = 0) := Lib.hid (by rw [List.take_zero]; exact HZ.out)
  have HALL : Hid (sumB (l.take n) = sumB l) := Lib.hid (by rw [List.take_of_length_le (by rw [hl.1]; exact Nat.le_refl _)])
  clear hl
  go_enter Tryd.func10, Tryd.ntmps10
  go_wp2_with fail
  refine (of_any none 0 0 0 [] w T (Rd.nil _ _ _) (by unfold maxLen; omega)).mono ?_
  rintro e w' ⟨rfl, rfl⟩
  rw [HZ.out]
  go_wp2_with fail
  go_loop [3, 8] (fun x i => ∃ k : Nat, k ≤ n ∧ i = .int .i64 k ∧ x = .int .u32 (sumB (l.take k) : Nat)) (fun _ i => n - (intOf i).toNat)
  case atStart => exact ⟨0, Nat.zero_le _, rfl, by rw [HZ0.out]; rfl⟩
  case round =>
    obtain ⟨k, hk, rfl, rfl⟩ := hrel
    by_cases hlt : k < n
    · obtain ⟨b, off, rfl, hb, hr⟩ := HRD.out.2 k hlt
      have HR := Lib.hid (rd_rng hr hb)
      have HT1 : Hid (decide ((k : Int) < (n : Int)) = true) := Lib.hid (decide_eq_true (by omega))
      have HLT := Lib.hid hlt
      have HS := Lib.hid (sumB_lt (l.take k))
      have HNX := Lib.hid (sumB_succ (l := l) (k := k) (by rw [HL.out]; exact hlt))
      clear hr
      go_upto_region 3 with fail
      refine wp_region_lit ?_
      refine wpList_valn (v := .bool true) rfl (exec_lss true rfl (ev rfl) (ev rfl) HT1.out) ?_
      simp only [Act.put, List.setIfInBounds_toArray, List.set_cons_succ, List.set_cons_zero]
      refine wpList_nil ?_
      go_upto_region 4 with fail
      refine wp_region_lit ?_
      refine wpList_valn rfl (exec_mv rfl (ev rfl)) ?_
      simp only [Act.put, List.setIfInBounds_toArray, List.set_cons_succ, List.set_cons_zero]
      refine wpList_valn rfl (exec_as rfl (ev rfl)) ?_
      simp only [Act.put, List.setIfInBounds_toArray, List.set_cons_succ, List.set_cons_zero]
      refine wpList_nil ?_
      go_upto_region 5 with fail
      refine wp_region_lit ?_
      refine wpList_valn rfl (exec_mv rfl (ev rfl)) ?_
      simp only [Act.put, List.setIfInBounds_toArray, List.set_cons_succ, List.set_cons_zero]
      refine wpList_valn rfl (exec_mv rfl (ev rfl)) ?_
      simp only [Act.put, List.setIfInBounds_toArray, List.set_cons_succ, List.set_cons_zero]
      refine wpList_valn rfl (exec_mv rfl (ev rfl)) ?_
      simp only [Act.put, List.setIfInBounds_toArray, List.set_cons_succ, List.set_cons_zero]
      refine wpList_valn rfl (exec_index rfl (ev rfl) (ev rfl) HLT.out) ?_
      simp only [Act.put, List.setIfInBounds_toArray, List.set_cons_succ, List.set_cons_zero]
      refine wpList_valn rfl (exec_allB rfl (ev rfl)) ?_
      simp only [Act.put, List.setIfInBounds_toArray, List.set_cons_succ, List.set_cons_zero]
      refine wpList_call rfl (exec_cl Tryd.call28 rfl (evc (ev rfl) (evc (ev rfl) evn))) ?_
      refine (more_any (sumB (l.take k)) _ 64 64 N (l.getD k zeroB).toList w T HS.out HR.out (by unfold maxLen; omega)).mono ?_
      rintro e w' ⟨rfl, rfl⟩
      rw [← HNX.out]
      refine ⟨_, rfl, ?_⟩
      simp only [Act.put, List.setIfInBounds_toArray, List.set_cons_succ, List.set_cons_zero]
      refine wpList_valn rfl (exec_as rfl (ev rfl)) ?_
      simp only [Act.put, List.setIfInBounds_toArray, List.set_cons_succ, List.set_cons_zero]
      refine wpList_nil ?_
      go_wp2_with fail
      go_round
      case rel => exact ⟨k + 1, by have := HLT.out; omega, by go_num, rfl⟩
      case measure => simp [intOf]; have := HLT.out; omega
    · have e : k = n := by omega
      subst e
      rw [HALL.out]
      go_wp2_with fail
      go_ret
      exact ⟨rfl, rfl⟩
set_option maxHeartbeats 2000000 in
theorem rsum (A : Option Addr) (n c N : Nat) (l : List Blk) (w : World) (hl : RdB w N A n l) (hn : n ≤ 2199023255552) :
    Calls Tryd.prog 11 #[.slice A n c] w fun e w' => e = .returned (.int .u32 (sumB l : Nat)) ∧ w = w' := by
  have HL := Lib.hid hl.1
  have HRD := Lib.hid hl
  have HZ : Hid (more 0 [] = 0) := Lib.hid (by decide)
  have HZ0 : Hid (sumB (l.take 0) = 0) := Lib.hid (by rw [List.take_zero]; exact HZ.out)
  have HALL : Hid (sumB (l.take n) = sumB l) := Lib.hid (by rw [List.take_of_length_le (by rw [hl.1]; exact Nat.le_refl _)])
  clear hl
  go_enter Tryd.func11, Tryd.ntmps11
  go_wp2_with fail
  go_loop [3, 4] (fun x i => ∃ k : Nat, k ≤ n ∧ i = .int .i64 k ∧ x = .int .u32 (sumB (l.take k) : Nat)) (fun _ i => n - (intOf i).toNat)
  case atStart => exact ⟨0, Nat.zero_le _, rfl, by rw [HZ0.out]; rfl⟩
  case round =>
    obtain ⟨k, hk, rfl, rfl⟩ := hrel
    by_cases hlt : k < n
    · obtain ⟨b, off, rfl, hb, hr⟩ := HRD.out.2 k hlt
      have HR := Lib.hid (rd_rng hr hb)
      have HT1 : Hid (decide ((k : Int) < (n : Int)) = true) := Lib.hid (decide_eq_true (by omega))
      have HLT := Lib.hid hlt
      have HS := Lib.hid (sumB_lt (l.take k))
      have HNX := Lib.hid (sumB_succ (l := l) (k := k) (by rw [HL.out]; exact hlt))
      clear hr
      go_upto_region 3 with fail
      refine wp_region_lit ?_
      refine wpList_valn rfl (exec_mv rfl (ev rfl)) ?_
      simp only [Act.put, List.setIfInBounds_toArray, List.set_cons_succ, List.set_cons_zero]
      refine wpList_valn rfl (exec_mv rfl (ev rfl)) ?_
      simp only [Act.put, List.setIfInBounds_toArray, List.set_cons_succ, List.set_cons_zero]
      refine wpList_valn rfl (exec_lenB rfl (ev rfl)) ?_
      simp only [Act.put, List.setIfInBounds_toArray, List.set_cons_succ, List.set_cons_zero]
      refine wpList_valn (v := .bool true) rfl (exec_lss true rfl (ev rfl) (ev rfl) HT1.out) ?_
      simp only [Act.put, List.setIfInBounds_toArray, List.set_cons_succ, List.set_cons_zero]
      refine wpList_nil ?_
      go_upto_region 5 with fail
      refine wp_region_lit ?_
      refine wpList_valn rfl (exec_mv rfl (ev rfl)) ?_
      simp only [Act.put, List.setIfInBounds_toArray, List.set_cons_succ, List.set_cons_zero]
      refine wpList_valn rfl (exec_mv rfl (ev rfl)) ?_
      simp only [Act.put, List.setIfInBounds_toArray, List.set_cons_succ, List.set_cons_zero]
      refine wpList_valn rfl (exec_mv rfl (ev rfl)) ?_
      simp only [Act.put, List.setIfInBounds_toArray, List.set_cons_succ, List.set_cons_zero]
      refine wpList_valn rfl (exec_index rfl (ev rfl) (ev rfl) HLT.out) ?_
      simp only [Act.put, List.setIfInBounds_toArray, List.set_cons_succ, List.set_cons_zero]
      refine wpList_valn rfl (exec_allB rfl (ev rfl)) ?_
      simp only [Act.put, List.setIfInBounds_toArray, List.set_cons_succ, List.set_cons_zero]
      refine wpList_call rfl (exec_cl Tryd.call29 rfl (evc (ev rfl) (evc (ev rfl) evn))) ?_
      refine (refMore_any (sumB (l.take k)) _ 64 64 N (l.getD k zeroB).toList w HS.out HR.out (by unfold maxLen; omega)).mono ?_
      rintro e w' ⟨rfl, rfl⟩
      rw [← HNX.out]
      refine ⟨_, rfl, ?_⟩
      simp only [Act.put, List.setIfInBounds_toArray, List.set_cons_succ, List.set_cons_zero]
      refine wpList_valn rfl (exec_as rfl (ev rfl)) ?_
      simp only [Act.put, List.setIfInBounds_toArray, List.set_cons_succ, List.set_cons_zero]
      refine wpList_nil ?_
      go_wp2_with fail
      go_round
      case rel => exact ⟨k + 1, by have := HLT.out; omega, by go_num, rfl⟩
      case measure => simp [intOf]; have := HLT.out; omega
    · have e : k = n := by omega
      subst e
      rw [HALL.out]
      go_wp2_with fail
      go_ret
      exact ⟨rfl, rfl⟩
end Go.Proofs.YtfemlaombdeebaaDoor
