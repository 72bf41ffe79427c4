/-
  DiskPlays' walk.
-/
import Derived.Test.YtokdmcikoaagmaaDalike
namespace Go.Proofs.Ytokdmcikoaagmaa
open Go.RowKit
set_option linter.unusedVariables false

theorem exec_loadAct {ρ : Operand → Value} {o : Oper} {x : Operand} {w : World} {b off : Nat} {a : ActT} (ho : o.op = .load 36 x) (hx : ρ x = .pointer (some ⟨b, off, none⟩)) (hc : w.rangeAt b off (actC a)) : (execOp ρ o).run Try.prog w = .ok (.value (actV a)) w := by
  have h := run_loadAt_mid (P := Try.prog) w b off 36 (actC a) _ hc Try.underlying36 rfl (by rw [actC_len]; kernel_rfl)
  exact exec_ld ho hx h
set_option maxRecDepth 100000 in
set_option maxHeartbeats 2000000 in
theorem plays_no (D : Dev) (s : Int) (A : Option Addr) (n c : Nat) (w : World) (h : ¬(1 ≤ s ∧ s ≤ 512)) :
    Calls Try.prog 3 #[.int .i64 s, .slice A n c] w fun e w' => e = .returned (.bool true) ∧ Below w.heap.size w w' := by
  go_enter Try.func3, Try.ntmps3
  go_wp2_with fail
  refine (D.new_no s w h).mono ?_
  rintro e w1 ⟨rfl, hb1⟩
  go_wp2_with fail
  refine (r_new_no s w1 h).mono ?_
  rintro e w2 ⟨rfl, rfl⟩
  go_wp2_with fail
  refine (lives_yes D w1).mono ?_
  rintro e w3 ⟨rfl, hb3⟩
  go_wp2_with fail
  go_ret
  exact ⟨rfl, two hb1 hb3⟩
set_option maxRecDepth 100000 in
set_option maxHeartbeats 4000000 in
theorem plays_ok (D : Dev) (k : Nat) (A : Option Addr) (n c : Nat) (l : List ActT) (w : World) (h1 : 1 ≤ k) (h2 : k ≤ 512) (hl : RdE ActE w w.heap.size A n l) (hnc : n ≤ c) (hc : c ≤ maxLen) (hp : ∀ j, j < n → PicksIn w (l.getD j zeroAct)) :
    Calls Try.prog 3 #[.int .i64 k, .slice A n c] w fun e w' => e = .returned (.bool true) ∧ Below w.heap.size w w' := by
  unfold maxLen at hc
  have HP := Lib.hid hp
  have HL := Lib.hid hl
  clear hp hl
  go_enter Try.func3, Try.ntmps3
  go_wp2_with fail
  refine (D.new_ok k w h1 h2).mono ?_
  rintro e w1 ⟨pd, Fd, rfl, hd, hb1, hfd⟩
  go_wp2_with fail
  refine (rv_new k w1 h1 h2).mono ?_
  rintro e w2 ⟨pr, Fr, rfl, hr, hb2, hfr⟩
  have hT : Twin D w2 w.heap.size pd pr (List.replicate k zeroB) [] false := ⟨Fd, Fr, D.below hd hb2, hr, fun b hb hf => by have := D.lt hd b hb; have := hfr b hf; omega, hfd, fun b hb => Nat.le_trans hb1.size (hfr b hb)⟩
  have hB := two hb1 hb2
  clear hd hr hb1 hb2 hfd hfr
  go_wp2_with fail
  go_loopw [9] (fun i wr => ∃ (j : Nat) (S : List Blk) (L : List (Int × Blk)) (g : Bool), j ≤ n ∧ j ≤ 60 ∧ i = .int .i64 j ∧ Twin D wr w.heap.size pd pr S L g ∧ L.length ≤ j ∧ Below w.heap.size w wr) (fun i _ => n - (intOf i).toNat)
  case atStart => exact ⟨0, _, _, _, Nat.zero_le _, by omega, rfl, hT, by simp, hB⟩
  case round =>
    clear hT hB
    obtain ⟨j, S, L, g, hjn, hj6, rfl, hT, hLj, hbl⟩ := hrel
    have hTT := Lib.hid hT
    have HBL := Lib.hid hbl
    by_cases hlt : j < n ∧ j < 60
    · obtain ⟨hlt, h60⟩ := hlt
      have h60' : (j : Int) < 60 := by omega
      have hln : (j : Int) < (n : Int) := by omega
      obtain ⟨bA, oA, hAe, hA, hra⟩ := (HL.out.below hbl).2 j hlt
      obtain ⟨P, hPr, hPn, hPc⟩ := HP.out j hlt
      have hra' : wr.rangeAt bA (oA + j * 69) (actC (l.getD j zeroAct)) := hra
      clear hra
      generalize l.getD j zeroAct = a at *
      have HRA := Lib.hid hra'
      have HPP := Lib.hid (show ∃ P, RdE IntE wr w.heap.size a.A a.n P ∧ a.n ≤ a.c ∧ a.c ≤ maxLen from ⟨P, hPr.below hbl, hPn, hPc⟩)
      subst hAe
      clear hT hbl hra' hPr hPn hPc
      go_wp2_with (first | (refine wpList_val rfl (exec_loadAct rfl rfl HRA.out) ?_) | fail)
      refine (both_any D wr w.heap.size pd pr S L g a hTT.out HBL.out.size (by omega) HPP.out).mono ?_
      rintro e w5 ⟨rfl, hb5, S', L', g', hT5, hL5⟩
      go_wp2_with fail
      go_roundw
      case rel => exact ⟨j + 1, S', L', g', by omega, by omega, by go_num, hT5, by omega, HBL.out.trans hb5⟩
      case measure => simp [intOf]; omega
    · have hor : j = n ∨ (j < n ∧ j = 60) := by omega
      clear hT hbl
      rcases hor with e | ⟨e, e'⟩
      · have hln : ¬((j : Int) < (n : Int)) := by omega
        go_wp2_with fail
        refine (alike_yes D wr w.heap.size pd pr S L g hTT.out).mono ?_
        rintro e w5 ⟨rfl, hb5⟩
        go_wp2_with fail
        refine (lives_yes D w5).mono ?_
        rintro e w6 ⟨rfl, hb6⟩
        go_wp2_with fail
        go_ret
        exact ⟨rfl, HBL.out.trans ((two hb5 hb6).mono HBL.out.size)⟩
      · have hln : ((j : Int) < (n : Int)) := by omega
        have hl6 : ¬((j : Int) < 60) := by omega
        go_wp2_with fail
        refine (alike_yes D wr w.heap.size pd pr S L g hTT.out).mono ?_
        rintro e w5 ⟨rfl, hb5⟩
        go_wp2_with fail
        refine (lives_yes D w5).mono ?_
        rintro e w6 ⟨rfl, hb6⟩
        go_wp2_with fail
        go_ret
        exact ⟨rfl, HBL.out.trans ((two hb5 hb6).mono HBL.out.size)⟩
end Go.Proofs.Ytokdmcikoaagmaa
