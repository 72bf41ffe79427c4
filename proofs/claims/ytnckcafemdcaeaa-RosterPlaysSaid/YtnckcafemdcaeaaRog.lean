/-
  ashlarlaw10.RosterPlays walked.
-/
import Derived.Test.YtnckcafemdcaeaaRoj
import Derived.Test.YtnckcafemdcaeaaLast
import Derived.Test.YtnckcafemdcaeaaSkip
import Derived.Test.YtnckcafemdcaeaaSkq
namespace Go.Proofs.Ytnckcafemdcaeaa
open Go.RowKit
set_option linter.unusedVariables false
set_option linter.unusedSimpArgs false
set_option maxRecDepth 100000

theorem exec_len {ρ : Operand → Value} {o : Oper} {x : Operand} {w : World} {A : Option Addr} {n c : Nat} (ho : o.op = .call { callee := .builtin .len, args := #[x], argTypes := #[42] }) (hx : ρ x = .slice A n c) : (execOp ρ o).run Try.prog w = .ok (.value (.int .i64 n)) w := by
  unfold execOp
  simp [ho, hx, go_sem, run_underlying Try.underlying42]
theorem stN_is {q : Ros} {O : Nat} (hf : fineB q = true) (ho : outs q = O) : stN q = if 2 ≤ O ∨ (O = 1 ∧ q.gone = true) then 5 else if q.gone = true then 4 else if heals q = 1 then 3 else if O = 1 then 2 else 1 := by rw [stN_fine hf, ho]
set_option maxHeartbeats 8000000 in
theorem rosPlays {w : World} {A : Option Addr} {n c a b : Nat} {l : List Act10} (ha : a ≤ 255) (hb : b ≤ 255) (rd : RdE Act10E w w.heap.size A n l) (hy : n ≤ c) (hm : c ≤ maxLen) : Calls Try.prog 4 #[.int .u8 (a : Int), .int .u8 (b : Int), .slice A n c] w fun e w' => e = .returned (.bool true) ∧ Below w.heap.size w w' := by
  have HRD := Lib.hid rd
  have HMX : Hid (n ≤ maxLen) := Lib.hid (Nat.le_trans hy hm)
  have HA := Lib.hid ha
  have HB := Lib.hid hb
  clear rd hy hm ha hb
  have HT1 := Lib.hid (Blks.nil w)
  go_enter Try.func4, Try.ntmps4
  go_upto_region 1 with fail
  refine wp_region_lit ?_
  refine wpList_valn rfl (exec_mv rfl (ev rfl)) ?_
  simp only [Act.put, List.setIfInBounds_toArray, List.set_cons_succ, List.set_cons_zero]
  refine wpList_valn rfl (exec_mv rfl (ev rfl)) ?_
  simp only [Act.put, List.setIfInBounds_toArray, List.set_cons_succ, List.set_cons_zero]
  refine wpList_call rfl (exec_cl Try.call28 rfl (evc (ev rfl) (evc (ev rfl) evn))) ?_
  refine (pgeo HA.out HB.out w).mono ?_
  rintro e w2 ⟨rfl, hb⟩
  have HT2 := Lib.hid (HT1.out.call hb)
  clear hb HT1
  refine ⟨_, rfl, ?_⟩
  simp only [Act.put, List.setIfInBounds_toArray, List.set_cons_succ, List.set_cons_zero]
  refine wpList_call rfl (exec_cl Try.call7 rfl (evc (ev rfl) evn)) ?_
  refine (pnew_v (y := gX a b) (e := 0) w2 (gX_new a b) (gX_newE a b)).mono ?_
  rintro e w3 ⟨rfl, hb⟩
  have HT3 := Lib.hid (HT2.out.call hb)
  clear hb HT2
  refine ⟨_, rfl, ?_⟩
  simp only [Act.put, List.setIfInBounds_toArray, List.set_cons_succ, List.set_cons_zero]
  refine wpList_valn rfl (exec_mv rfl (ev rfl)) ?_
  simp only [Act.put, List.setIfInBounds_toArray, List.set_cons_succ, List.set_cons_zero]
  refine wpList_valn rfl (exec_ext rfl (ev rfl) rfl) ?_
  simp only [Act.put, List.setIfInBounds_toArray, List.set_cons_succ, List.set_cons_zero]
  refine wpList_valn rfl (exec_ext rfl (ev rfl) rfl) ?_
  simp only [Act.put, List.setIfInBounds_toArray, List.set_cons_succ, List.set_cons_zero]
  refine wpList_valn rfl (exec_allocR rfl) ?_
  simp only [Act.put, List.setIfInBounds_toArray, List.set_cons_succ, List.set_cons_zero]
  have HT4 : Hid (Blks w (w3.alloc (.cells (celR zeroR).toArray 26)) [rc w3.heap.size (zeroR)]) := Lib.hid (HT3.out.allocR zeroR)
  clear HT3
  generalize w3.alloc (.cells (celR zeroR).toArray 26) = w4 at *
  generalize w3.heap.size = b7 at *
  refine wpList_nuln rfl (exec_putR rfl (ev rfl) (ev rfl) (HT4.out.ros (i := 0) rfl)) ?_
  simp only [Act.put, List.setIfInBounds_toArray, List.set_cons_succ, List.set_cons_zero]
  have HT5 : Hid (Blks w (putW w4 b7 (gX a b)) [rc b7 (gX a b)]) := Lib.hid (HT4.out.putR (i := 0) rfl (gX a b))
  clear HT4
  generalize putW w4 b7 (gX a b) = w5 at *
  refine wpList_valn rfl (exec_as rfl (ev rfl)) ?_
  simp only [Act.put, List.setIfInBounds_toArray, List.set_cons_succ, List.set_cons_zero]
  refine wpList_nil ?_
  go_upto_region 2 with fail
  refine wp_region_lit ?_
  refine wpList_valn rfl (exec_mv rfl (ev rfl)) ?_
  simp only [Act.put, List.setIfInBounds_toArray, List.set_cons_succ, List.set_cons_zero]
  refine wpList_valn (v := .bool false) rfl (exec_neInt false rfl (ev rfl) evk rfl) ?_
  simp only [Act.put, List.setIfInBounds_toArray, List.set_cons_succ, List.set_cons_zero]
  refine wpList_nil ?_
  go_upto_region 4 with fail
  refine wp_region_lit ?_
  refine wpList_valn rfl (exec_as rfl evk) ?_
  simp only [Act.put, List.setIfInBounds_toArray, List.set_cons_succ, List.set_cons_zero]
  refine wpList_nil ?_
  have ht0 := HT5.out
  clear HT5 HA HB
  have hf0 := gX_fine a b
  generalize gX a b = r0 at *
  go_wp2_with fail
  go_loopw [9] (fun i wr => ∃ (j : Nat) (r : Ros), j ≤ n ∧ i = .int .i64 j ∧ fineB r = true ∧ Blks w wr [rc b7 r]) (fun i _ => n - (intOf i).toNat)
  case atStart => exact ⟨0, r0, Nat.zero_le _, rfl, hf0, ht0⟩
  case round =>
    clear ht0 hf0
    obtain ⟨j, r, hj, rfl, hfr, ht⟩ := hrel
    obtain ⟨w20, hw20⟩ : ∃ v, v = wr := ⟨_, rfl⟩
    subst hw20
    have HT20 := Lib.hid ht
    have HF := Lib.hid hfr
    clear ht hfr
    by_cases hlt : j < n
    · have HLN : Hid (decide ((j : Int) < (n : Int)) = true) := Lib.hid (decide_eq_true (by omega))
      by_cases h80 : j < 80
      · have H80 : Hid (decide ((j : Int) < 80) = true) := Lib.hid (decide_eq_true (by omega))
        have HJ : Hid (IntKind.i64.wrap ((j : Int) + 1) = ((j + 1 : Nat) : Int)) := Lib.hid (IntWalk.i64_in _ (by omega))
        obtain ⟨bb, off, hA, hbb, hrg⟩ := HRD.out.2 j hlt
        subst hA
        have HRG := Lib.hid (rng_below hrg hbb HT20.out.bel)
        have HBB : Hid (bb < w20.heap.size) := Lib.hid (Nat.lt_of_lt_of_le hbb HT20.out.bel.size)
        clear hrg hbb h80
        obtain ⟨y, hy⟩ : ∃ y, l.getD j Act10E.d = y := ⟨_, rfl⟩
        rw [hy] at HRG
        clear hy
        have HS : Hid (Below w20.heap.size w20 w20.drew) := Lib.hid (bd (Below.refl _ _))
        go_upto_region 5 with fail
        refine wp_region_lit ?_
        refine wpList_valn rfl (exec_mv rfl (ev rfl)) ?_
        simp only [Act.put, List.setIfInBounds_toArray, List.set_cons_succ, List.set_cons_zero]
        refine wpList_valn rfl (exec_mv rfl (ev rfl)) ?_
        simp only [Act.put, List.setIfInBounds_toArray, List.set_cons_succ, List.set_cons_zero]
        refine wpList_valn rfl (exec_len rfl (ev rfl)) ?_
        simp only [Act.put, List.setIfInBounds_toArray, List.set_cons_succ, List.set_cons_zero]
        refine wpList_valn (v := .bool true) rfl (exec_lss true rfl (ev rfl) (ev rfl) HLN.out) ?_
        simp only [Act.put, List.setIfInBounds_toArray, List.set_cons_succ, List.set_cons_zero]
        refine wpList_valn (v := .bool true) rfl (exec_mv rfl (ev rfl)) ?_
        simp only [Act.put, List.setIfInBounds_toArray, List.set_cons_succ, List.set_cons_zero]
        refine wpList_val (wanted_of rfl rfl rfl rfl) (exec_mv rfl (ev rfl)) ?_
        simp only [Act.put, List.setIfInBounds_toArray, List.set_cons_succ, List.set_cons_zero]
        refine wpList_val (v := .bool true) (wanted_of rfl rfl rfl rfl) (exec_lss true rfl (ev rfl) evk H80.out) ?_
        simp only [Act.put, List.setIfInBounds_toArray, List.set_cons_succ, List.set_cons_zero]
        refine wpList_valn (v := .bool true) rfl (exec_pt rfl (ev rfl) (ev rfl)) ?_
        simp only [Act.put, List.setIfInBounds_toArray, List.set_cons_succ, List.set_cons_zero]
        refine wpList_nil ?_
        go_upto_region 7 with fail
        refine wp_region_last (fun w' => Below w20.heap.size w20 w') 6 (by kernel_rfl) ?_
        change wpAnyZ _ _ _ _ _ _ 7 _ _ w20.drew
        refine last_val 0 rfl (by kernel_rfl) (by kernel_rfl) (by kernel_rfl) (by decide) (by kernel_rfl) rfl (fun w' hw => exec_ldR rfl (ev rfl) ((HT20.out.call hw).ros (i := 0) rfl)) (fun _ _ _ h => h) HS.out ?_
        simp only [Act.put, List.setIfInBounds_toArray, List.set_cons_succ, List.set_cons_zero]
        refine last_val 1 rfl (by kernel_rfl) (by kernel_rfl) (by kernel_rfl) (by decide) (by kernel_rfl) rfl (fun w' hw => exec_mv rfl (ev rfl)) (fun _ _ _ h => h) HS.out ?_
        simp only [Act.put, List.setIfInBounds_toArray, List.set_cons_succ, List.set_cons_zero]
        refine last_val 2 rfl (by kernel_rfl) (by kernel_rfl) (by kernel_rfl) (by decide) (by kernel_rfl) rfl (fun w' hw => exec_mv rfl (ev rfl)) (fun _ _ _ h => h) HS.out ?_
        simp only [Act.put, List.setIfInBounds_toArray, List.set_cons_succ, List.set_cons_zero]
        refine last_val 3 rfl (by kernel_rfl) (by kernel_rfl) (by kernel_rfl) (by decide) (by kernel_rfl) rfl (fun w' hw => exec_indexE (E := Act10E) rfl (ev rfl) (ev rfl) hlt) (fun _ _ _ h => h) HS.out ?_
        simp only [Act.put, List.setIfInBounds_toArray, List.set_cons_succ, List.set_cons_zero]
        refine last_val 4 rfl (by kernel_rfl) (by kernel_rfl) (by kernel_rfl) (by decide) (by kernel_rfl) rfl (fun w' hw => exec_loadA10 rfl (ev rfl) (rng_below HRG.out HBB.out hw)) (fun _ _ _ h => h) HS.out ?_
        simp only [Act.put, List.setIfInBounds_toArray, List.set_cons_succ, List.set_cons_zero]
        refine last_call 5 rfl (by kernel_rfl) rfl (exec_cl Try.call29 rfl (evc (ev rfl) (evc (ev rfl) evn))) ((pacts r y w20.drew).mono ?_)
        rintro e w21 ⟨rfl, hb⟩
        have HB2 := Lib.hid (HS.out.trans (hb.mono HS.out.size))
        have HT21 := Lib.hid (HT20.out.call HB2.out)
        clear hb HT20 HRG HBB
        refine ⟨_, rfl, fun _ => HB2.out, ?_⟩
        simp only [Act.put, List.setIfInBounds_toArray, List.set_cons_succ, List.set_cons_zero]
        have HF2 := Lib.hid (fine_act y HF.out)
        clear HF HS HB2
        generalize actX r y = q at *
        refine last_nul 6 rfl (by kernel_rfl) rfl (exec_putR rfl (ev rfl) (ev rfl) (HT21.out.ros (i := 0) rfl)) (fun h => absurd rfl h) ?_
        simp only [Act.put, List.setIfInBounds_toArray, List.set_cons_succ, List.set_cons_zero]
        have HT22 : Hid (Blks w (putW w21 b7 q) [rc b7 q]) := Lib.hid (HT21.out.putR (i := 0) rfl q)
        clear HT21
        generalize putW w21 b7 q = w22 at *
        refine wpAnyZ_done (by kernel_rfl) ?_ _
        go_upto_region 8 with fail
        refine wp_region_lit ?_
        refine wpList_valn rfl (exec_as rfl evk) ?_
        simp only [Act.put, List.setIfInBounds_toArray, List.set_cons_succ, List.set_cons_zero]
        refine wpList_valn rfl (exec_as rfl evk) ?_
        simp only [Act.put, List.setIfInBounds_toArray, List.set_cons_succ, List.set_cons_zero]
        refine wpList_nil ?_
        go_upto_region 9 with fail
        refine wp_region_lit ?_
        refine wpList_valn rfl (exec_as rfl evk) ?_
        simp only [Act.put, List.setIfInBounds_toArray, List.set_cons_succ, List.set_cons_zero]
        refine wpList_nil ?_
        have g := of_geoB (of_fineB HF2.out).1
        obtain ⟨M, hM⟩ := Int.eq_ofNat_of_zero_le (show 0 ≤ q.m by omega)
        have hM16 : M ≤ 16 := by omega
        have HMQ := Lib.hid hM
        have HOM : Hid (outK q.st.toList M = outs q) := Lib.hid (by have := outs_mem HF2.out; rwa [hM] at this)
        have HHM : Hid (healK q.st.toList M = heals q) := Lib.hid (by have := heals_mem HF2.out; rwa [hM] at this)
        have HSQ : Hid (∀ k, sta q k = bt q.st.toList k) := Lib.hid fun _ => rfl
        clear g hM
        go_wp2_with fail
        go_loop [10, 11, 12] (fun o h m => ∃ k : Nat, k ≤ M ∧ m = .int .i64 k ∧ o = .int .i64 (outK q.st.toList k : Nat) ∧ h = .int .i64 (healK q.st.toList k : Nat)) (fun _ _ m => M - (intOf m).toNat)
        case atStart => exact ⟨0, Nat.zero_le _, rfl, rfl, rfl⟩
        case round =>
          obtain ⟨k, hk, rfl, rfl, rfl⟩ := hrel
          by_cases hkm : k < M
          · have hj16 : k < 16 := by omega
            have H43 : Hid (decide ((k : Int) < (M : Int)) = true) := Lib.hid (decide_eq_true (by omega))
            have H46 : Hid (decide ((k : Int) < 16) = true) := Lib.hid (decide_eq_true (by omega))
            have HK : Hid (IntKind.i64.wrap ((k : Int) + 1) = ((k + 1 : Nat) : Int)) := Lib.hid (IntWalk.i64_in _ (by omega))
            have hol := outK_le q.st.toList k
            have hhl := healK_le q.st.toList k
            have HO1 : Hid (IntKind.i64.wrap ((outK q.st.toList k : Int) + 1) = ((outK q.st.toList k + 1 : Nat) : Int)) := Lib.hid (IntWalk.i64_in _ (by omega))
            have HH1 : Hid (IntKind.i64.wrap ((healK q.st.toList k : Int) + 1) = ((healK q.st.toList k + 1 : Nat) : Int)) := Lib.hid (IntWalk.i64_in _ (by omega))
            have HOS := Lib.hid (outK_succ q.st.toList k)
            have HHS := Lib.hid (healK_succ q.st.toList k)
            rw [← HSQ.out] at HOS HHS
            generalize outK q.st.toList k = O1 at *
            generalize healK q.st.toList k = H1 at *
            clear hol hhl
            by_cases h0 : sta q k = 0
            · have D0 : Hid ((sta q k != 0) = false) := Lib.hid (by rw [h0]; rfl)
              have D2 : Hid ((sta q k == 2) = false) := Lib.hid (by rw [h0]; rfl)
              rw [if_pos h0] at HOS
              rw [if_neg (by omega)] at HHS
              clear h0
              go_upto_region 10 with fail
              refine wp_region_lit ?_
              refine wpList_valn rfl (exec_mv rfl (ev rfl)) ?_
              simp only [Act.put, List.setIfInBounds_toArray, List.set_cons_succ, List.set_cons_zero]
              refine wpList_valn rfl (exec_faddr rfl (ev rfl) faR0) ?_
              simp only [Act.put, List.setIfInBounds_toArray, List.set_cons_succ, List.set_cons_zero]
              refine wpList_valn rfl (exec_faddr rfl (ev rfl) faG0) ?_
              simp only [Act.put, List.setIfInBounds_toArray, List.set_cons_succ, List.set_cons_zero]
              refine wpList_valn rfl (exec_ld rfl (ev rfl) (ldInt (HMQ.out ▸ (HT22.out.ros (i := 0) rfl).cells.1))) ?_
              simp only [Act.put, List.setIfInBounds_toArray, List.set_cons_succ, List.set_cons_zero]
              refine wpList_valn (v := .bool true) rfl (exec_lss true rfl (ev rfl) (ev rfl) H43.out) ?_
              simp only [Act.put, List.setIfInBounds_toArray, List.set_cons_succ, List.set_cons_zero]
              refine wpList_valn (v := .bool true) rfl (exec_mv rfl (ev rfl)) ?_
              simp only [Act.put, List.setIfInBounds_toArray, List.set_cons_succ, List.set_cons_zero]
              refine wpList_val (wanted_of rfl rfl rfl rfl) (exec_mv rfl (ev rfl)) ?_
              simp only [Act.put, List.setIfInBounds_toArray, List.set_cons_succ, List.set_cons_zero]
              refine wpList_val (v := .bool true) (wanted_of rfl rfl rfl rfl) (exec_lss true rfl (ev rfl) evk H46.out) ?_
              simp only [Act.put, List.setIfInBounds_toArray, List.set_cons_succ, List.set_cons_zero]
              refine wpList_valn (v := .bool true) rfl (exec_pt rfl (ev rfl) (ev rfl)) ?_
              simp only [Act.put, List.setIfInBounds_toArray, List.set_cons_succ, List.set_cons_zero]
              refine wpList_nil ?_
              go_upto_region 12 with fail
              refine wp_region_lit ?_
              refine wpList_valn rfl (exec_mv rfl (ev rfl)) ?_
              simp only [Act.put, List.setIfInBounds_toArray, List.set_cons_succ, List.set_cons_zero]
              refine wpList_valn rfl (exec_faddr rfl (ev rfl) faR1) ?_
              simp only [Act.put, List.setIfInBounds_toArray, List.set_cons_succ, List.set_cons_zero]
              refine wpList_valn rfl (exec_ix rfl (ev rfl) (ev rfl) (ix16 hj16)) ?_
              simp only [Act.put, List.setIfInBounds_toArray, List.set_cons_succ, List.set_cons_zero]
              refine wpList_valn rfl (exec_ld rfl (ev rfl) (ldU8 ((HT22.out.ros (i := 0) rfl).sta hj16))) ?_
              simp only [Act.put, List.setIfInBounds_toArray, List.set_cons_succ, List.set_cons_zero]
              refine wpList_valn (v := .bool false) rfl (exec_neInt false rfl (ev rfl) evk D0.out) ?_
              simp only [Act.put, List.setIfInBounds_toArray, List.set_cons_succ, List.set_cons_zero]
              refine wpList_nil ?_
              go_upto_region 14 with fail
              refine wp_region_lit ?_
              refine wpList_valn rfl (exec_mv rfl (ev rfl)) ?_
              simp only [Act.put, List.setIfInBounds_toArray, List.set_cons_succ, List.set_cons_zero]
              refine wpList_valn rfl (exec_faddr rfl (ev rfl) faR1) ?_
              simp only [Act.put, List.setIfInBounds_toArray, List.set_cons_succ, List.set_cons_zero]
              refine wpList_valn rfl (exec_ix rfl (ev rfl) (ev rfl) (ix16 hj16)) ?_
              simp only [Act.put, List.setIfInBounds_toArray, List.set_cons_succ, List.set_cons_zero]
              refine wpList_valn rfl (exec_ld rfl (ev rfl) (ldU8 ((HT22.out.ros (i := 0) rfl).sta hj16))) ?_
              simp only [Act.put, List.setIfInBounds_toArray, List.set_cons_succ, List.set_cons_zero]
              refine wpList_valn (v := .bool false) rfl (exec_eqInt false rfl (ev rfl) evk D2.out) ?_
              simp only [Act.put, List.setIfInBounds_toArray, List.set_cons_succ, List.set_cons_zero]
              refine wpList_nil ?_
              go_upto_region 11 with fail
              refine wp_region_lit ?_
              refine wpList_valn rfl (exec_mv rfl (ev rfl)) ?_
              simp only [Act.put, List.setIfInBounds_toArray, List.set_cons_succ, List.set_cons_zero]
              refine wpList_valn rfl (exec_add rfl (ev rfl) evk HK.out) ?_
              simp only [Act.put, List.setIfInBounds_toArray, List.set_cons_succ, List.set_cons_zero]
              refine wpList_valn rfl (exec_as rfl (ev rfl)) ?_
              simp only [Act.put, List.setIfInBounds_toArray, List.set_cons_succ, List.set_cons_zero]
              refine wpList_nil ?_
              go_wp2_with fail
              go_round
              case rel => exact ⟨k + 1, by omega, rfl, by rw [HOS.out]; rfl, by rw [HHS.out]; rfl⟩
              case measure => simp [intOf]; omega
            · have D0 : Hid ((sta q k != 0) = true) := Lib.hid (by simpa using h0)
              rw [if_neg h0] at HOS
              by_cases h2 : sta q k = 2
              · have D2 : Hid ((sta q k == 2) = true) := Lib.hid (by simpa using h2)
                rw [if_pos h2] at HHS
                clear h0 h2
                go_upto_region 10 with fail
                refine wp_region_lit ?_
                refine wpList_valn rfl (exec_mv rfl (ev rfl)) ?_
                simp only [Act.put, List.setIfInBounds_toArray, List.set_cons_succ, List.set_cons_zero]
                refine wpList_valn rfl (exec_faddr rfl (ev rfl) faR0) ?_
                simp only [Act.put, List.setIfInBounds_toArray, List.set_cons_succ, List.set_cons_zero]
                refine wpList_valn rfl (exec_faddr rfl (ev rfl) faG0) ?_
                simp only [Act.put, List.setIfInBounds_toArray, List.set_cons_succ, List.set_cons_zero]
                refine wpList_valn rfl (exec_ld rfl (ev rfl) (ldInt (HMQ.out ▸ (HT22.out.ros (i := 0) rfl).cells.1))) ?_
                simp only [Act.put, List.setIfInBounds_toArray, List.set_cons_succ, List.set_cons_zero]
                refine wpList_valn (v := .bool true) rfl (exec_lss true rfl (ev rfl) (ev rfl) H43.out) ?_
                simp only [Act.put, List.setIfInBounds_toArray, List.set_cons_succ, List.set_cons_zero]
                refine wpList_valn (v := .bool true) rfl (exec_mv rfl (ev rfl)) ?_
                simp only [Act.put, List.setIfInBounds_toArray, List.set_cons_succ, List.set_cons_zero]
                refine wpList_val (wanted_of rfl rfl rfl rfl) (exec_mv rfl (ev rfl)) ?_
                simp only [Act.put, List.setIfInBounds_toArray, List.set_cons_succ, List.set_cons_zero]
                refine wpList_val (v := .bool true) (wanted_of rfl rfl rfl rfl) (exec_lss true rfl (ev rfl) evk H46.out) ?_
                simp only [Act.put, List.setIfInBounds_toArray, List.set_cons_succ, List.set_cons_zero]
                refine wpList_valn (v := .bool true) rfl (exec_pt rfl (ev rfl) (ev rfl)) ?_
                simp only [Act.put, List.setIfInBounds_toArray, List.set_cons_succ, List.set_cons_zero]
                refine wpList_nil ?_
                go_upto_region 12 with fail
                refine wp_region_lit ?_
                refine wpList_valn rfl (exec_mv rfl (ev rfl)) ?_
                simp only [Act.put, List.setIfInBounds_toArray, List.set_cons_succ, List.set_cons_zero]
                refine wpList_valn rfl (exec_faddr rfl (ev rfl) faR1) ?_
                simp only [Act.put, List.setIfInBounds_toArray, List.set_cons_succ, List.set_cons_zero]
                refine wpList_valn rfl (exec_ix rfl (ev rfl) (ev rfl) (ix16 hj16)) ?_
                simp only [Act.put, List.setIfInBounds_toArray, List.set_cons_succ, List.set_cons_zero]
                refine wpList_valn rfl (exec_ld rfl (ev rfl) (ldU8 ((HT22.out.ros (i := 0) rfl).sta hj16))) ?_
                simp only [Act.put, List.setIfInBounds_toArray, List.set_cons_succ, List.set_cons_zero]
                refine wpList_valn (v := .bool true) rfl (exec_neInt true rfl (ev rfl) evk D0.out) ?_
                simp only [Act.put, List.setIfInBounds_toArray, List.set_cons_succ, List.set_cons_zero]
                refine wpList_nil ?_
                go_upto_region 13 with fail
                refine wp_region_lit ?_
                refine wpList_valn rfl (exec_mv rfl (ev rfl)) ?_
                simp only [Act.put, List.setIfInBounds_toArray, List.set_cons_succ, List.set_cons_zero]
                refine wpList_valn rfl (exec_add rfl (ev rfl) evk HO1.out) ?_
                simp only [Act.put, List.setIfInBounds_toArray, List.set_cons_succ, List.set_cons_zero]
                refine wpList_valn rfl (exec_as rfl (ev rfl)) ?_
                simp only [Act.put, List.setIfInBounds_toArray, List.set_cons_succ, List.set_cons_zero]
                refine wpList_nil ?_
                go_upto_region 14 with fail
                refine wp_region_lit ?_
                refine wpList_valn rfl (exec_mv rfl (ev rfl)) ?_
                simp only [Act.put, List.setIfInBounds_toArray, List.set_cons_succ, List.set_cons_zero]
                refine wpList_valn rfl (exec_faddr rfl (ev rfl) faR1) ?_
                simp only [Act.put, List.setIfInBounds_toArray, List.set_cons_succ, List.set_cons_zero]
                refine wpList_valn rfl (exec_ix rfl (ev rfl) (ev rfl) (ix16 hj16)) ?_
                simp only [Act.put, List.setIfInBounds_toArray, List.set_cons_succ, List.set_cons_zero]
                refine wpList_valn rfl (exec_ld rfl (ev rfl) (ldU8 ((HT22.out.ros (i := 0) rfl).sta hj16))) ?_
                simp only [Act.put, List.setIfInBounds_toArray, List.set_cons_succ, List.set_cons_zero]
                refine wpList_valn (v := .bool true) rfl (exec_eqInt true rfl (ev rfl) evk D2.out) ?_
                simp only [Act.put, List.setIfInBounds_toArray, List.set_cons_succ, List.set_cons_zero]
                refine wpList_nil ?_
                go_upto_region 15 with fail
                refine wp_region_lit ?_
                refine wpList_valn rfl (exec_mv rfl (ev rfl)) ?_
                simp only [Act.put, List.setIfInBounds_toArray, List.set_cons_succ, List.set_cons_zero]
                refine wpList_valn rfl (exec_add rfl (ev rfl) evk HH1.out) ?_
                simp only [Act.put, List.setIfInBounds_toArray, List.set_cons_succ, List.set_cons_zero]
                refine wpList_valn rfl (exec_as rfl (ev rfl)) ?_
                simp only [Act.put, List.setIfInBounds_toArray, List.set_cons_succ, List.set_cons_zero]
                refine wpList_nil ?_
                go_upto_region 11 with fail
                refine wp_region_lit ?_
                refine wpList_valn rfl (exec_mv rfl (ev rfl)) ?_
                simp only [Act.put, List.setIfInBounds_toArray, List.set_cons_succ, List.set_cons_zero]
                refine wpList_valn rfl (exec_add rfl (ev rfl) evk HK.out) ?_
                simp only [Act.put, List.setIfInBounds_toArray, List.set_cons_succ, List.set_cons_zero]
                refine wpList_valn rfl (exec_as rfl (ev rfl)) ?_
                simp only [Act.put, List.setIfInBounds_toArray, List.set_cons_succ, List.set_cons_zero]
                refine wpList_nil ?_
                go_wp2_with fail
                go_round
                case rel => exact ⟨k + 1, by omega, rfl, by rw [HOS.out], by rw [HHS.out]⟩
                case measure => simp [intOf]; omega
              · have D2 : Hid ((sta q k == 2) = false) := Lib.hid (by simpa using h2)
                rw [if_neg h2] at HHS
                clear h0 h2
                go_upto_region 10 with fail
                refine wp_region_lit ?_
                refine wpList_valn rfl (exec_mv rfl (ev rfl)) ?_
                simp only [Act.put, List.setIfInBounds_toArray, List.set_cons_succ, List.set_cons_zero]
                refine wpList_valn rfl (exec_faddr rfl (ev rfl) faR0) ?_
                simp only [Act.put, List.setIfInBounds_toArray, List.set_cons_succ, List.set_cons_zero]
                refine wpList_valn rfl (exec_faddr rfl (ev rfl) faG0) ?_
                simp only [Act.put, List.setIfInBounds_toArray, List.set_cons_succ, List.set_cons_zero]
                refine wpList_valn rfl (exec_ld rfl (ev rfl) (ldInt (HMQ.out ▸ (HT22.out.ros (i := 0) rfl).cells.1))) ?_
                simp only [Act.put, List.setIfInBounds_toArray, List.set_cons_succ, List.set_cons_zero]
                refine wpList_valn (v := .bool true) rfl (exec_lss true rfl (ev rfl) (ev rfl) H43.out) ?_
                simp only [Act.put, List.setIfInBounds_toArray, List.set_cons_succ, List.set_cons_zero]
                refine wpList_valn (v := .bool true) rfl (exec_mv rfl (ev rfl)) ?_
                simp only [Act.put, List.setIfInBounds_toArray, List.set_cons_succ, List.set_cons_zero]
                refine wpList_val (wanted_of rfl rfl rfl rfl) (exec_mv rfl (ev rfl)) ?_
                simp only [Act.put, List.setIfInBounds_toArray, List.set_cons_succ, List.set_cons_zero]
                refine wpList_val (v := .bool true) (wanted_of rfl rfl rfl rfl) (exec_lss true rfl (ev rfl) evk H46.out) ?_
                simp only [Act.put, List.setIfInBounds_toArray, List.set_cons_succ, List.set_cons_zero]
                refine wpList_valn (v := .bool true) rfl (exec_pt rfl (ev rfl) (ev rfl)) ?_
                simp only [Act.put, List.setIfInBounds_toArray, List.set_cons_succ, List.set_cons_zero]
                refine wpList_nil ?_
                go_upto_region 12 with fail
                refine wp_region_lit ?_
                refine wpList_valn rfl (exec_mv rfl (ev rfl)) ?_
                simp only [Act.put, List.setIfInBounds_toArray, List.set_cons_succ, List.set_cons_zero]
                refine wpList_valn rfl (exec_faddr rfl (ev rfl) faR1) ?_
                simp only [Act.put, List.setIfInBounds_toArray, List.set_cons_succ, List.set_cons_zero]
                refine wpList_valn rfl (exec_ix rfl (ev rfl) (ev rfl) (ix16 hj16)) ?_
                simp only [Act.put, List.setIfInBounds_toArray, List.set_cons_succ, List.set_cons_zero]
                refine wpList_valn rfl (exec_ld rfl (ev rfl) (ldU8 ((HT22.out.ros (i := 0) rfl).sta hj16))) ?_
                simp only [Act.put, List.setIfInBounds_toArray, List.set_cons_succ, List.set_cons_zero]
                refine wpList_valn (v := .bool true) rfl (exec_neInt true rfl (ev rfl) evk D0.out) ?_
                simp only [Act.put, List.setIfInBounds_toArray, List.set_cons_succ, List.set_cons_zero]
                refine wpList_nil ?_
                go_upto_region 13 with fail
                refine wp_region_lit ?_
                refine wpList_valn rfl (exec_mv rfl (ev rfl)) ?_
                simp only [Act.put, List.setIfInBounds_toArray, List.set_cons_succ, List.set_cons_zero]
                refine wpList_valn rfl (exec_add rfl (ev rfl) evk HO1.out) ?_
                simp only [Act.put, List.setIfInBounds_toArray, List.set_cons_succ, List.set_cons_zero]
                refine wpList_valn rfl (exec_as rfl (ev rfl)) ?_
                simp only [Act.put, List.setIfInBounds_toArray, List.set_cons_succ, List.set_cons_zero]
                refine wpList_nil ?_
                go_upto_region 14 with fail
                refine wp_region_lit ?_
                refine wpList_valn rfl (exec_mv rfl (ev rfl)) ?_
                simp only [Act.put, List.setIfInBounds_toArray, List.set_cons_succ, List.set_cons_zero]
                refine wpList_valn rfl (exec_faddr rfl (ev rfl) faR1) ?_
                simp only [Act.put, List.setIfInBounds_toArray, List.set_cons_succ, List.set_cons_zero]
                refine wpList_valn rfl (exec_ix rfl (ev rfl) (ev rfl) (ix16 hj16)) ?_
                simp only [Act.put, List.setIfInBounds_toArray, List.set_cons_succ, List.set_cons_zero]
                refine wpList_valn rfl (exec_ld rfl (ev rfl) (ldU8 ((HT22.out.ros (i := 0) rfl).sta hj16))) ?_
                simp only [Act.put, List.setIfInBounds_toArray, List.set_cons_succ, List.set_cons_zero]
                refine wpList_valn (v := .bool false) rfl (exec_eqInt false rfl (ev rfl) evk D2.out) ?_
                simp only [Act.put, List.setIfInBounds_toArray, List.set_cons_succ, List.set_cons_zero]
                refine wpList_nil ?_
                go_upto_region 11 with fail
                refine wp_region_lit ?_
                refine wpList_valn rfl (exec_mv rfl (ev rfl)) ?_
                simp only [Act.put, List.setIfInBounds_toArray, List.set_cons_succ, List.set_cons_zero]
                refine wpList_valn rfl (exec_add rfl (ev rfl) evk HK.out) ?_
                simp only [Act.put, List.setIfInBounds_toArray, List.set_cons_succ, List.set_cons_zero]
                refine wpList_valn rfl (exec_as rfl (ev rfl)) ?_
                simp only [Act.put, List.setIfInBounds_toArray, List.set_cons_succ, List.set_cons_zero]
                refine wpList_nil ?_
                go_wp2_with fail
                go_round
                case rel => exact ⟨k + 1, by omega, rfl, by rw [HOS.out], by rw [HHS.out]; rfl⟩
                case measure => simp [intOf]; omega
          · have e : k = M := by omega
            subst e
            have H43 : Hid (decide ((k : Int) < (k : Int)) = false) := Lib.hid (decide_eq_false (by omega))
            rw [HOM.out, HHM.out]
            have HHL := Lib.hid (of_fineB HF2.out).2.2.1
            have HSI := Lib.hid (stN_is HF2.out (rfl : outs q = outs q))
            have HMI : Hid (missN q = outs q) := Lib.hid (by unfold missN; rw [if_pos HF2.out])
            have HGR : Hid (decide ((1 : Int) < (heals q : Int)) = false) := Lib.hid (decide_eq_false (by have := HHL.out; omega))
            clear HOM HHM HSQ hk hkm
            obtain ⟨O, hO⟩ : ∃ O, outs q = O := ⟨_, rfl⟩
            obtain ⟨H, hH⟩ : ∃ H, heals q = H := ⟨_, rfl⟩
            obtain ⟨G, hG⟩ : ∃ G, q.gone = G := ⟨_, rfl⟩
            rw [hO, hH, hG] at HSI
            rw [hO] at HMI ⊢
            rw [hH] at HGR ⊢
            have HGO := Lib.hid hG
            clear hO hH hG HHL
            by_cases c1 : 2 ≤ O
            · have C1 : Hid (decide ((1 : Int) < (O : Int)) = true) := Lib.hid (decide_eq_true (by omega))
              have HST : Hid (stN q = 5) := Lib.hid (by rw [HSI.out]; rw [if_pos (.inl c1)])
              clear c1
              go_upto_region 10 with fail
              refine wp_region_lit ?_
              refine wpList_valn rfl (exec_mv rfl (ev rfl)) ?_
              simp only [Act.put, List.setIfInBounds_toArray, List.set_cons_succ, List.set_cons_zero]
              refine wpList_valn rfl (exec_faddr rfl (ev rfl) faR0) ?_
              simp only [Act.put, List.setIfInBounds_toArray, List.set_cons_succ, List.set_cons_zero]
              refine wpList_valn rfl (exec_faddr rfl (ev rfl) faG0) ?_
              simp only [Act.put, List.setIfInBounds_toArray, List.set_cons_succ, List.set_cons_zero]
              refine wpList_valn rfl (exec_ld rfl (ev rfl) (ldInt (HMQ.out ▸ (HT22.out.ros (i := 0) rfl).cells.1))) ?_
              simp only [Act.put, List.setIfInBounds_toArray, List.set_cons_succ, List.set_cons_zero]
              refine wpList_valn (v := .bool false) rfl (exec_lss false rfl (ev rfl) (ev rfl) H43.out) ?_
              simp only [Act.put, List.setIfInBounds_toArray, List.set_cons_succ, List.set_cons_zero]
              refine wpList_skips 2 (v := .bool false) rfl (exec_mv rfl (ev rfl)) (by kernel_rfl) ?_
              simp only [skipAct, List.take_succ_cons, List.take_zero, List.drop_succ_cons, List.drop_zero, Act.put, List.setIfInBounds_toArray, List.set_cons_succ, List.set_cons_zero]
              refine wpList_valn (v := .bool false) rfl (exec_pf rfl (ev rfl) evk) ?_
              simp only [Act.put, List.setIfInBounds_toArray, List.set_cons_succ, List.set_cons_zero]
              refine wpList_nil ?_
              go_upto_region 16 with fail
              refine wp_region_lit ?_
              refine wpList_valn rfl (exec_as rfl evk) ?_
              simp only [Act.put, List.setIfInBounds_toArray, List.set_cons_succ, List.set_cons_zero]
              refine wpList_nil ?_
              go_upto_region 17 with fail
              refine wp_region_lit ?_
              refine wpList_valn rfl (exec_mv rfl (ev rfl)) ?_
              simp only [Act.put, List.setIfInBounds_toArray, List.set_cons_succ, List.set_cons_zero]
              refine wpList_valn (v := .bool true) rfl (exec_gtr true rfl (ev rfl) evk C1.out) ?_
              simp only [Act.put, List.setIfInBounds_toArray, List.set_cons_succ, List.set_cons_zero]
              refine wpList_skips 6 (v := .bool true) rfl (exec_mv rfl (ev rfl)) (by kernel_rfl) ?_
              simp only [skipAct, List.take_succ_cons, List.take_zero, List.drop_succ_cons, List.drop_zero, Act.put, List.setIfInBounds_toArray, List.set_cons_succ, List.set_cons_zero]
              refine wpList_valn (v := .bool true) rfl (exec_pt rfl (ev rfl) evk) ?_
              simp only [Act.put, List.setIfInBounds_toArray, List.set_cons_succ, List.set_cons_zero]
              refine wpList_valn (v := .bool true) rfl (exec_as rfl (ev rfl)) ?_
              simp only [Act.put, List.setIfInBounds_toArray, List.set_cons_succ, List.set_cons_zero]
              refine wpList_nil ?_
              go_upto_region 18 with fail
              refine wp_region_lit ?_
              refine wpList_valn rfl (exec_as rfl evk) ?_
              simp only [Act.put, List.setIfInBounds_toArray, List.set_cons_succ, List.set_cons_zero]
              refine wpList_nil ?_
              go_upto_region 25 with fail
              refine wp_region_lit ?_
              refine wpList_valn rfl (exec_ldR rfl (ev rfl) (HT22.out.ros (i := 0) rfl)) ?_
              simp only [Act.put, List.setIfInBounds_toArray, List.set_cons_succ, List.set_cons_zero]
              refine wpList_call rfl (exec_cl Try.call9 rfl (evc (ev rfl) evn)) ?_
              refine (pmay_b w22 HF2.out).mono ?_
              rintro e w23 ⟨rfl, hb⟩
              have HT23 := Lib.hid (HT22.out.call hb)
              clear hb HT22
              refine ⟨_, rfl, ?_⟩
              simp only [Act.put, List.setIfInBounds_toArray, List.set_cons_succ, List.set_cons_zero]
              refine wpList_valn (v := .bool false) rfl (exec_not true rfl (ev rfl)) ?_
              simp only [Act.put, List.setIfInBounds_toArray, List.set_cons_succ, List.set_cons_zero]
              refine wpList_valn (v := .bool false) rfl (exec_mv rfl (ev rfl)) ?_
              simp only [Act.put, List.setIfInBounds_toArray, List.set_cons_succ, List.set_cons_zero]
              refine wpList_val (wanted_of rfl rfl rfl rfl) (exec_mv rfl (ev rfl)) ?_
              simp only [Act.put, List.setIfInBounds_toArray, List.set_cons_succ, List.set_cons_zero]
              refine wpList_val (v := .bool false) (wanted_of rfl rfl rfl rfl) (exec_gtr false rfl (ev rfl) evk HGR.out) ?_
              simp only [Act.put, List.setIfInBounds_toArray, List.set_cons_succ, List.set_cons_zero]
              refine wpList_valn (v := .bool false) rfl (exec_pf rfl (ev rfl) (ev rfl)) ?_
              simp only [Act.put, List.setIfInBounds_toArray, List.set_cons_succ, List.set_cons_zero]
              refine wpList_valn (v := .bool false) rfl (exec_mv rfl (ev rfl)) ?_
              simp only [Act.put, List.setIfInBounds_toArray, List.set_cons_succ, List.set_cons_zero]
              refine wpList_val (wanted_of rfl rfl rfl rfl) (exec_ldR rfl (ev rfl) (HT23.out.ros (i := 0) rfl)) ?_
              simp only [Act.put, List.setIfInBounds_toArray, List.set_cons_succ, List.set_cons_zero]
              refine wpList_call (wanted_of rfl rfl rfl rfl) (exec_cl Try.call13 rfl (evc (ev rfl) evn)) ?_
              refine (pmiss_n w23 HMI.out).mono ?_
              rintro e w24 ⟨rfl, hb⟩
              have HT24 := Lib.hid (HT23.out.call hb)
              clear hb HT23
              refine ⟨_, rfl, ?_⟩
              simp only [Act.put, List.setIfInBounds_toArray, List.set_cons_succ, List.set_cons_zero]
              refine wpList_val (wanted_of rfl rfl rfl rfl) (exec_mv rfl (ev rfl)) ?_
              simp only [Act.put, List.setIfInBounds_toArray, List.set_cons_succ, List.set_cons_zero]
              refine wpList_val (v := .bool false) (wanted_of rfl rfl rfl rfl) (exec_neInt false rfl (ev rfl) (ev rfl) (bne_self_eq_false _)) ?_
              simp only [Act.put, List.setIfInBounds_toArray, List.set_cons_succ, List.set_cons_zero]
              refine wpList_valn (v := .bool false) rfl (exec_pf rfl (ev rfl) (ev rfl)) ?_
              simp only [Act.put, List.setIfInBounds_toArray, List.set_cons_succ, List.set_cons_zero]
              refine wpList_valn (v := .bool false) rfl (exec_mv rfl (ev rfl)) ?_
              simp only [Act.put, List.setIfInBounds_toArray, List.set_cons_succ, List.set_cons_zero]
              refine wpList_val (wanted_of rfl rfl rfl rfl) (exec_ldR rfl (ev rfl) (HT24.out.ros (i := 0) rfl)) ?_
              simp only [Act.put, List.setIfInBounds_toArray, List.set_cons_succ, List.set_cons_zero]
              refine wpList_call (wanted_of rfl rfl rfl rfl) (exec_cl Try.call15 rfl (evc (ev rfl) evn)) ?_
              refine (pstate_n (n := 5) w24 HST.out).mono ?_
              rintro e w25 ⟨rfl, hb⟩
              have HT25 := Lib.hid (HT24.out.call hb)
              clear hb HT24
              refine ⟨_, rfl, ?_⟩
              simp only [Act.put, List.setIfInBounds_toArray, List.set_cons_succ, List.set_cons_zero]
              refine wpList_val (wanted_of rfl rfl rfl rfl) (exec_mv rfl (ev rfl)) ?_
              simp only [Act.put, List.setIfInBounds_toArray, List.set_cons_succ, List.set_cons_zero]
              refine wpList_val (v := .bool false) (wanted_of rfl rfl rfl rfl) (exec_neInt false rfl (ev rfl) (ev rfl) rfl) ?_
              simp only [Act.put, List.setIfInBounds_toArray, List.set_cons_succ, List.set_cons_zero]
              refine wpList_valn (v := .bool false) rfl (exec_pf rfl (ev rfl) (ev rfl)) ?_
              simp only [Act.put, List.setIfInBounds_toArray, List.set_cons_succ, List.set_cons_zero]
              refine wpList_nil ?_
              go_upto_region 6 with fail
              refine wp_region_lit ?_
              refine wpList_valn rfl (exec_mv rfl (ev rfl)) ?_
              simp only [Act.put, List.setIfInBounds_toArray, List.set_cons_succ, List.set_cons_zero]
              refine wpList_valn rfl (exec_add rfl (ev rfl) evk HJ.out) ?_
              simp only [Act.put, List.setIfInBounds_toArray, List.set_cons_succ, List.set_cons_zero]
              refine wpList_valn rfl (exec_as rfl (ev rfl)) ?_
              simp only [Act.put, List.setIfInBounds_toArray, List.set_cons_succ, List.set_cons_zero]
              refine wpList_nil ?_
              go_wp2_with fail
              go_roundw
              case rel => exact ⟨j + 1, q, by omega, rfl, HF2.out, HT25.out⟩
              case measure => simp [intOf]; omega
            · cases G
              · by_cases c3 : H = 1
                · by_cases c2 : O = 1
                  · have C1 : Hid (decide ((1 : Int) < (O : Int)) = false) := Lib.hid (decide_eq_false (by omega))
                    have C2 : Hid (((O : Int) == 1) = true) := Lib.hid (by simp; omega)
                    have C3 : Hid (((H : Int) == 1) = true) := Lib.hid (by simp; omega)
                    have HST : Hid (stN q = 3) := Lib.hid (by rw [HSI.out]; rw [if_neg (fun h => h.elim c1 (fun h => by cases h.2)), if_neg (by decide), if_pos c3])
                    clear c1 c2 c3
                    go_upto_region 10 with fail
                    refine wp_region_lit ?_
                    refine wpList_valn rfl (exec_mv rfl (ev rfl)) ?_
                    simp only [Act.put, List.setIfInBounds_toArray, List.set_cons_succ, List.set_cons_zero]
                    refine wpList_valn rfl (exec_faddr rfl (ev rfl) faR0) ?_
                    simp only [Act.put, List.setIfInBounds_toArray, List.set_cons_succ, List.set_cons_zero]
                    refine wpList_valn rfl (exec_faddr rfl (ev rfl) faG0) ?_
                    simp only [Act.put, List.setIfInBounds_toArray, List.set_cons_succ, List.set_cons_zero]
                    refine wpList_valn rfl (exec_ld rfl (ev rfl) (ldInt (HMQ.out ▸ (HT22.out.ros (i := 0) rfl).cells.1))) ?_
                    simp only [Act.put, List.setIfInBounds_toArray, List.set_cons_succ, List.set_cons_zero]
                    refine wpList_valn (v := .bool false) rfl (exec_lss false rfl (ev rfl) (ev rfl) H43.out) ?_
                    simp only [Act.put, List.setIfInBounds_toArray, List.set_cons_succ, List.set_cons_zero]
                    refine wpList_skips 2 (v := .bool false) rfl (exec_mv rfl (ev rfl)) (by kernel_rfl) ?_
                    simp only [skipAct, List.take_succ_cons, List.take_zero, List.drop_succ_cons, List.drop_zero, Act.put, List.setIfInBounds_toArray, List.set_cons_succ, List.set_cons_zero]
                    refine wpList_valn (v := .bool false) rfl (exec_pf rfl (ev rfl) evk) ?_
                    simp only [Act.put, List.setIfInBounds_toArray, List.set_cons_succ, List.set_cons_zero]
                    refine wpList_nil ?_
                    go_upto_region 16 with fail
                    refine wp_region_lit ?_
                    refine wpList_valn rfl (exec_as rfl evk) ?_
                    simp only [Act.put, List.setIfInBounds_toArray, List.set_cons_succ, List.set_cons_zero]
                    refine wpList_nil ?_
                    go_upto_region 17 with fail
                    refine wp_region_lit ?_
                    refine wpList_valn rfl (exec_mv rfl (ev rfl)) ?_
                    simp only [Act.put, List.setIfInBounds_toArray, List.set_cons_succ, List.set_cons_zero]
                    refine wpList_valn (v := .bool false) rfl (exec_gtr false rfl (ev rfl) evk C1.out) ?_
                    simp only [Act.put, List.setIfInBounds_toArray, List.set_cons_succ, List.set_cons_zero]
                    refine wpList_valn (v := .bool false) rfl (exec_mv rfl (ev rfl)) ?_
                    simp only [Act.put, List.setIfInBounds_toArray, List.set_cons_succ, List.set_cons_zero]
                    refine wpList_val (wanted_of rfl rfl rfl rfl) (exec_mv rfl (ev rfl)) ?_
                    simp only [Act.put, List.setIfInBounds_toArray, List.set_cons_succ, List.set_cons_zero]
                    refine wpList_val (v := .bool true) (wanted_of rfl rfl rfl rfl) (exec_eqInt true rfl (ev rfl) evk C2.out) ?_
                    simp only [Act.put, List.setIfInBounds_toArray, List.set_cons_succ, List.set_cons_zero]
                    refine wpList_val (v := .bool true) (wanted_of rfl rfl rfl rfl) (exec_mv rfl (ev rfl)) ?_
                    simp only [Act.put, List.setIfInBounds_toArray, List.set_cons_succ, List.set_cons_zero]
                    refine wpList_val (wanted_of rfl rfl rfl rfl) (exec_faddr rfl (ev rfl) faR3) ?_
                    simp only [Act.put, List.setIfInBounds_toArray, List.set_cons_succ, List.set_cons_zero]
                    refine wpList_val (v := .bool false) (wanted_of rfl rfl rfl rfl) (exec_ld rfl (ev rfl) (ldBo (HGO.out ▸ (HT22.out.ros (i := 0) rfl).cells.2.2.2.2))) ?_
                    simp only [Act.put, List.setIfInBounds_toArray, List.set_cons_succ, List.set_cons_zero]
                    refine wpList_val (v := .bool false) (wanted_of rfl rfl rfl rfl) (exec_pt rfl (ev rfl) (ev rfl)) ?_
                    simp only [Act.put, List.setIfInBounds_toArray, List.set_cons_succ, List.set_cons_zero]
                    refine wpList_valn (v := .bool false) rfl (exec_pf rfl (ev rfl) (ev rfl)) ?_
                    simp only [Act.put, List.setIfInBounds_toArray, List.set_cons_succ, List.set_cons_zero]
                    refine wpList_valn (v := .bool false) rfl (exec_as rfl (ev rfl)) ?_
                    simp only [Act.put, List.setIfInBounds_toArray, List.set_cons_succ, List.set_cons_zero]
                    refine wpList_nil ?_
                    go_upto_region 19 with fail
                    refine wp_region_lit ?_
                    refine wpList_valn rfl (exec_faddr rfl (ev rfl) faR3) ?_
                    simp only [Act.put, List.setIfInBounds_toArray, List.set_cons_succ, List.set_cons_zero]
                    refine wpList_valn (v := .bool false) rfl (exec_ld rfl (ev rfl) (ldBo (HGO.out ▸ (HT22.out.ros (i := 0) rfl).cells.2.2.2.2))) ?_
                    simp only [Act.put, List.setIfInBounds_toArray, List.set_cons_succ, List.set_cons_zero]
                    refine wpList_valn (v := .bool false) rfl (exec_as rfl (ev rfl)) ?_
                    simp only [Act.put, List.setIfInBounds_toArray, List.set_cons_succ, List.set_cons_zero]
                    refine wpList_nil ?_
                    go_upto_region 21 with fail
                    refine wp_region_lit ?_
                    refine wpList_valn rfl (exec_mv rfl (ev rfl)) ?_
                    simp only [Act.put, List.setIfInBounds_toArray, List.set_cons_succ, List.set_cons_zero]
                    refine wpList_valn (v := .bool true) rfl (exec_eqInt true rfl (ev rfl) evk C3.out) ?_
                    simp only [Act.put, List.setIfInBounds_toArray, List.set_cons_succ, List.set_cons_zero]
                    refine wpList_valn (v := .bool true) rfl (exec_as rfl (ev rfl)) ?_
                    simp only [Act.put, List.setIfInBounds_toArray, List.set_cons_succ, List.set_cons_zero]
                    refine wpList_nil ?_
                    go_upto_region 22 with fail
                    refine wp_region_lit ?_
                    refine wpList_valn rfl (exec_as rfl evk) ?_
                    simp only [Act.put, List.setIfInBounds_toArray, List.set_cons_succ, List.set_cons_zero]
                    refine wpList_nil ?_
                    go_upto_region 25 with fail
                    refine wp_region_lit ?_
                    refine wpList_valn rfl (exec_ldR rfl (ev rfl) (HT22.out.ros (i := 0) rfl)) ?_
                    simp only [Act.put, List.setIfInBounds_toArray, List.set_cons_succ, List.set_cons_zero]
                    refine wpList_call rfl (exec_cl Try.call9 rfl (evc (ev rfl) evn)) ?_
                    refine (pmay_b w22 HF2.out).mono ?_
                    rintro e w23 ⟨rfl, hb⟩
                    have HT23 := Lib.hid (HT22.out.call hb)
                    clear hb HT22
                    refine ⟨_, rfl, ?_⟩
                    simp only [Act.put, List.setIfInBounds_toArray, List.set_cons_succ, List.set_cons_zero]
                    refine wpList_valn (v := .bool false) rfl (exec_not true rfl (ev rfl)) ?_
                    simp only [Act.put, List.setIfInBounds_toArray, List.set_cons_succ, List.set_cons_zero]
                    refine wpList_valn (v := .bool false) rfl (exec_mv rfl (ev rfl)) ?_
                    simp only [Act.put, List.setIfInBounds_toArray, List.set_cons_succ, List.set_cons_zero]
                    refine wpList_val (wanted_of rfl rfl rfl rfl) (exec_mv rfl (ev rfl)) ?_
                    simp only [Act.put, List.setIfInBounds_toArray, List.set_cons_succ, List.set_cons_zero]
                    refine wpList_val (v := .bool false) (wanted_of rfl rfl rfl rfl) (exec_gtr false rfl (ev rfl) evk HGR.out) ?_
                    simp only [Act.put, List.setIfInBounds_toArray, List.set_cons_succ, List.set_cons_zero]
                    refine wpList_valn (v := .bool false) rfl (exec_pf rfl (ev rfl) (ev rfl)) ?_
                    simp only [Act.put, List.setIfInBounds_toArray, List.set_cons_succ, List.set_cons_zero]
                    refine wpList_valn (v := .bool false) rfl (exec_mv rfl (ev rfl)) ?_
                    simp only [Act.put, List.setIfInBounds_toArray, List.set_cons_succ, List.set_cons_zero]
                    refine wpList_val (wanted_of rfl rfl rfl rfl) (exec_ldR rfl (ev rfl) (HT23.out.ros (i := 0) rfl)) ?_
                    simp only [Act.put, List.setIfInBounds_toArray, List.set_cons_succ, List.set_cons_zero]
                    refine wpList_call (wanted_of rfl rfl rfl rfl) (exec_cl Try.call13 rfl (evc (ev rfl) evn)) ?_
                    refine (pmiss_n w23 HMI.out).mono ?_
                    rintro e w24 ⟨rfl, hb⟩
                    have HT24 := Lib.hid (HT23.out.call hb)
                    clear hb HT23
                    refine ⟨_, rfl, ?_⟩
                    simp only [Act.put, List.setIfInBounds_toArray, List.set_cons_succ, List.set_cons_zero]
                    refine wpList_val (wanted_of rfl rfl rfl rfl) (exec_mv rfl (ev rfl)) ?_
                    simp only [Act.put, List.setIfInBounds_toArray, List.set_cons_succ, List.set_cons_zero]
                    refine wpList_val (v := .bool false) (wanted_of rfl rfl rfl rfl) (exec_neInt false rfl (ev rfl) (ev rfl) (bne_self_eq_false _)) ?_
                    simp only [Act.put, List.setIfInBounds_toArray, List.set_cons_succ, List.set_cons_zero]
                    refine wpList_valn (v := .bool false) rfl (exec_pf rfl (ev rfl) (ev rfl)) ?_
                    simp only [Act.put, List.setIfInBounds_toArray, List.set_cons_succ, List.set_cons_zero]
                    refine wpList_valn (v := .bool false) rfl (exec_mv rfl (ev rfl)) ?_
                    simp only [Act.put, List.setIfInBounds_toArray, List.set_cons_succ, List.set_cons_zero]
                    refine wpList_val (wanted_of rfl rfl rfl rfl) (exec_ldR rfl (ev rfl) (HT24.out.ros (i := 0) rfl)) ?_
                    simp only [Act.put, List.setIfInBounds_toArray, List.set_cons_succ, List.set_cons_zero]
                    refine wpList_call (wanted_of rfl rfl rfl rfl) (exec_cl Try.call15 rfl (evc (ev rfl) evn)) ?_
                    refine (pstate_n (n := 3) w24 HST.out).mono ?_
                    rintro e w25 ⟨rfl, hb⟩
                    have HT25 := Lib.hid (HT24.out.call hb)
                    clear hb HT24
                    refine ⟨_, rfl, ?_⟩
                    simp only [Act.put, List.setIfInBounds_toArray, List.set_cons_succ, List.set_cons_zero]
                    refine wpList_val (wanted_of rfl rfl rfl rfl) (exec_mv rfl (ev rfl)) ?_
                    simp only [Act.put, List.setIfInBounds_toArray, List.set_cons_succ, List.set_cons_zero]
                    refine wpList_val (v := .bool false) (wanted_of rfl rfl rfl rfl) (exec_neInt false rfl (ev rfl) (ev rfl) rfl) ?_
                    simp only [Act.put, List.setIfInBounds_toArray, List.set_cons_succ, List.set_cons_zero]
                    refine wpList_valn (v := .bool false) rfl (exec_pf rfl (ev rfl) (ev rfl)) ?_
                    simp only [Act.put, List.setIfInBounds_toArray, List.set_cons_succ, List.set_cons_zero]
                    refine wpList_nil ?_
                    go_upto_region 6 with fail
                    refine wp_region_lit ?_
                    refine wpList_valn rfl (exec_mv rfl (ev rfl)) ?_
                    simp only [Act.put, List.setIfInBounds_toArray, List.set_cons_succ, List.set_cons_zero]
                    refine wpList_valn rfl (exec_add rfl (ev rfl) evk HJ.out) ?_
                    simp only [Act.put, List.setIfInBounds_toArray, List.set_cons_succ, List.set_cons_zero]
                    refine wpList_valn rfl (exec_as rfl (ev rfl)) ?_
                    simp only [Act.put, List.setIfInBounds_toArray, List.set_cons_succ, List.set_cons_zero]
                    refine wpList_nil ?_
                    go_wp2_with fail
                    go_roundw
                    case rel => exact ⟨j + 1, q, by omega, rfl, HF2.out, HT25.out⟩
                    case measure => simp [intOf]; omega
                  · have C1 : Hid (decide ((1 : Int) < (O : Int)) = false) := Lib.hid (decide_eq_false (by omega))
                    have C2 : Hid (((O : Int) == 1) = false) := Lib.hid (by simp; omega)
                    have C3 : Hid (((H : Int) == 1) = true) := Lib.hid (by simp; omega)
                    have HST : Hid (stN q = 3) := Lib.hid (by rw [HSI.out]; rw [if_neg (fun h => h.elim c1 (fun h => by cases h.2)), if_neg (by decide), if_pos c3])
                    clear c1 c2 c3
                    go_upto_region 10 with fail
                    refine wp_region_lit ?_
                    refine wpList_valn rfl (exec_mv rfl (ev rfl)) ?_
                    simp only [Act.put, List.setIfInBounds_toArray, List.set_cons_succ, List.set_cons_zero]
                    refine wpList_valn rfl (exec_faddr rfl (ev rfl) faR0) ?_
                    simp only [Act.put, List.setIfInBounds_toArray, List.set_cons_succ, List.set_cons_zero]
                    refine wpList_valn rfl (exec_faddr rfl (ev rfl) faG0) ?_
                    simp only [Act.put, List.setIfInBounds_toArray, List.set_cons_succ, List.set_cons_zero]
                    refine wpList_valn rfl (exec_ld rfl (ev rfl) (ldInt (HMQ.out ▸ (HT22.out.ros (i := 0) rfl).cells.1))) ?_
                    simp only [Act.put, List.setIfInBounds_toArray, List.set_cons_succ, List.set_cons_zero]
                    refine wpList_valn (v := .bool false) rfl (exec_lss false rfl (ev rfl) (ev rfl) H43.out) ?_
                    simp only [Act.put, List.setIfInBounds_toArray, List.set_cons_succ, List.set_cons_zero]
                    refine wpList_skips 2 (v := .bool false) rfl (exec_mv rfl (ev rfl)) (by kernel_rfl) ?_
                    simp only [skipAct, List.take_succ_cons, List.take_zero, List.drop_succ_cons, List.drop_zero, Act.put, List.setIfInBounds_toArray, List.set_cons_succ, List.set_cons_zero]
                    refine wpList_valn (v := .bool false) rfl (exec_pf rfl (ev rfl) evk) ?_
                    simp only [Act.put, List.setIfInBounds_toArray, List.set_cons_succ, List.set_cons_zero]
                    refine wpList_nil ?_
                    go_upto_region 16 with fail
                    refine wp_region_lit ?_
                    refine wpList_valn rfl (exec_as rfl evk) ?_
                    simp only [Act.put, List.setIfInBounds_toArray, List.set_cons_succ, List.set_cons_zero]
                    refine wpList_nil ?_
                    go_upto_region 17 with fail
                    refine wp_region_lit ?_
                    refine wpList_valn rfl (exec_mv rfl (ev rfl)) ?_
                    simp only [Act.put, List.setIfInBounds_toArray, List.set_cons_succ, List.set_cons_zero]
                    refine wpList_valn (v := .bool false) rfl (exec_gtr false rfl (ev rfl) evk C1.out) ?_
                    simp only [Act.put, List.setIfInBounds_toArray, List.set_cons_succ, List.set_cons_zero]
                    refine wpList_valn (v := .bool false) rfl (exec_mv rfl (ev rfl)) ?_
                    simp only [Act.put, List.setIfInBounds_toArray, List.set_cons_succ, List.set_cons_zero]
                    refine wpList_val (wanted_of rfl rfl rfl rfl) (exec_mv rfl (ev rfl)) ?_
                    simp only [Act.put, List.setIfInBounds_toArray, List.set_cons_succ, List.set_cons_zero]
                    refine wpList_val (v := .bool false) (wanted_of rfl rfl rfl rfl) (exec_eqInt false rfl (ev rfl) evk C2.out) ?_
                    simp only [Act.put, List.setIfInBounds_toArray, List.set_cons_succ, List.set_cons_zero]
                    refine wpList_skips 2 (v := .bool false) (wanted_of rfl rfl rfl rfl) (exec_mv rfl (ev rfl)) (by kernel_rfl) ?_
                    simp only [skipAct, List.take_succ_cons, List.take_zero, List.drop_succ_cons, List.drop_zero, Act.put, List.setIfInBounds_toArray, List.set_cons_succ, List.set_cons_zero]
                    refine wpList_val (v := .bool false) (wanted_of rfl rfl rfl rfl) (exec_pf rfl (ev rfl) evk) ?_
                    simp only [Act.put, List.setIfInBounds_toArray, List.set_cons_succ, List.set_cons_zero]
                    refine wpList_valn (v := .bool false) rfl (exec_pf rfl (ev rfl) (ev rfl)) ?_
                    simp only [Act.put, List.setIfInBounds_toArray, List.set_cons_succ, List.set_cons_zero]
                    refine wpList_valn (v := .bool false) rfl (exec_as rfl (ev rfl)) ?_
                    simp only [Act.put, List.setIfInBounds_toArray, List.set_cons_succ, List.set_cons_zero]
                    refine wpList_nil ?_
                    go_upto_region 19 with fail
                    refine wp_region_lit ?_
                    refine wpList_valn rfl (exec_faddr rfl (ev rfl) faR3) ?_
                    simp only [Act.put, List.setIfInBounds_toArray, List.set_cons_succ, List.set_cons_zero]
                    refine wpList_valn (v := .bool false) rfl (exec_ld rfl (ev rfl) (ldBo (HGO.out ▸ (HT22.out.ros (i := 0) rfl).cells.2.2.2.2))) ?_
                    simp only [Act.put, List.setIfInBounds_toArray, List.set_cons_succ, List.set_cons_zero]
                    refine wpList_valn (v := .bool false) rfl (exec_as rfl (ev rfl)) ?_
                    simp only [Act.put, List.setIfInBounds_toArray, List.set_cons_succ, List.set_cons_zero]
                    refine wpList_nil ?_
                    go_upto_region 21 with fail
                    refine wp_region_lit ?_
                    refine wpList_valn rfl (exec_mv rfl (ev rfl)) ?_
                    simp only [Act.put, List.setIfInBounds_toArray, List.set_cons_succ, List.set_cons_zero]
                    refine wpList_valn (v := .bool true) rfl (exec_eqInt true rfl (ev rfl) evk C3.out) ?_
                    simp only [Act.put, List.setIfInBounds_toArray, List.set_cons_succ, List.set_cons_zero]
                    refine wpList_valn (v := .bool true) rfl (exec_as rfl (ev rfl)) ?_
                    simp only [Act.put, List.setIfInBounds_toArray, List.set_cons_succ, List.set_cons_zero]
                    refine wpList_nil ?_
                    go_upto_region 22 with fail
                    refine wp_region_lit ?_
                    refine wpList_valn rfl (exec_as rfl evk) ?_
                    simp only [Act.put, List.setIfInBounds_toArray, List.set_cons_succ, List.set_cons_zero]
                    refine wpList_nil ?_
                    go_upto_region 25 with fail
                    refine wp_region_lit ?_
                    refine wpList_valn rfl (exec_ldR rfl (ev rfl) (HT22.out.ros (i := 0) rfl)) ?_
                    simp only [Act.put, List.setIfInBounds_toArray, List.set_cons_succ, List.set_cons_zero]
                    refine wpList_call rfl (exec_cl Try.call9 rfl (evc (ev rfl) evn)) ?_
                    refine (pmay_b w22 HF2.out).mono ?_
                    rintro e w23 ⟨rfl, hb⟩
                    have HT23 := Lib.hid (HT22.out.call hb)
                    clear hb HT22
                    refine ⟨_, rfl, ?_⟩
                    simp only [Act.put, List.setIfInBounds_toArray, List.set_cons_succ, List.set_cons_zero]
                    refine wpList_valn (v := .bool false) rfl (exec_not true rfl (ev rfl)) ?_
                    simp only [Act.put, List.setIfInBounds_toArray, List.set_cons_succ, List.set_cons_zero]
                    refine wpList_valn (v := .bool false) rfl (exec_mv rfl (ev rfl)) ?_
                    simp only [Act.put, List.setIfInBounds_toArray, List.set_cons_succ, List.set_cons_zero]
                    refine wpList_val (wanted_of rfl rfl rfl rfl) (exec_mv rfl (ev rfl)) ?_
                    simp only [Act.put, List.setIfInBounds_toArray, List.set_cons_succ, List.set_cons_zero]
                    refine wpList_val (v := .bool false) (wanted_of rfl rfl rfl rfl) (exec_gtr false rfl (ev rfl) evk HGR.out) ?_
                    simp only [Act.put, List.setIfInBounds_toArray, List.set_cons_succ, List.set_cons_zero]
                    refine wpList_valn (v := .bool false) rfl (exec_pf rfl (ev rfl) (ev rfl)) ?_
                    simp only [Act.put, List.setIfInBounds_toArray, List.set_cons_succ, List.set_cons_zero]
                    refine wpList_valn (v := .bool false) rfl (exec_mv rfl (ev rfl)) ?_
                    simp only [Act.put, List.setIfInBounds_toArray, List.set_cons_succ, List.set_cons_zero]
                    refine wpList_val (wanted_of rfl rfl rfl rfl) (exec_ldR rfl (ev rfl) (HT23.out.ros (i := 0) rfl)) ?_
                    simp only [Act.put, List.setIfInBounds_toArray, List.set_cons_succ, List.set_cons_zero]
                    refine wpList_call (wanted_of rfl rfl rfl rfl) (exec_cl Try.call13 rfl (evc (ev rfl) evn)) ?_
                    refine (pmiss_n w23 HMI.out).mono ?_
                    rintro e w24 ⟨rfl, hb⟩
                    have HT24 := Lib.hid (HT23.out.call hb)
                    clear hb HT23
                    refine ⟨_, rfl, ?_⟩
                    simp only [Act.put, List.setIfInBounds_toArray, List.set_cons_succ, List.set_cons_zero]
                    refine wpList_val (wanted_of rfl rfl rfl rfl) (exec_mv rfl (ev rfl)) ?_
                    simp only [Act.put, List.setIfInBounds_toArray, List.set_cons_succ, List.set_cons_zero]
                    refine wpList_val (v := .bool false) (wanted_of rfl rfl rfl rfl) (exec_neInt false rfl (ev rfl) (ev rfl) (bne_self_eq_false _)) ?_
                    simp only [Act.put, List.setIfInBounds_toArray, List.set_cons_succ, List.set_cons_zero]
                    refine wpList_valn (v := .bool false) rfl (exec_pf rfl (ev rfl) (ev rfl)) ?_
                    simp only [Act.put, List.setIfInBounds_toArray, List.set_cons_succ, List.set_cons_zero]
                    refine wpList_valn (v := .bool false) rfl (exec_mv rfl (ev rfl)) ?_
                    simp only [Act.put, List.setIfInBounds_toArray, List.set_cons_succ, List.set_cons_zero]
                    refine wpList_val (wanted_of rfl rfl rfl rfl) (exec_ldR rfl (ev rfl) (HT24.out.ros (i := 0) rfl)) ?_
                    simp only [Act.put, List.setIfInBounds_toArray, List.set_cons_succ, List.set_cons_zero]
                    refine wpList_call (wanted_of rfl rfl rfl rfl) (exec_cl Try.call15 rfl (evc (ev rfl) evn)) ?_
                    refine (pstate_n (n := 3) w24 HST.out).mono ?_
                    rintro e w25 ⟨rfl, hb⟩
                    have HT25 := Lib.hid (HT24.out.call hb)
                    clear hb HT24
                    refine ⟨_, rfl, ?_⟩
                    simp only [Act.put, List.setIfInBounds_toArray, List.set_cons_succ, List.set_cons_zero]
                    refine wpList_val (wanted_of rfl rfl rfl rfl) (exec_mv rfl (ev rfl)) ?_
                    simp only [Act.put, List.setIfInBounds_toArray, List.set_cons_succ, List.set_cons_zero]
                    refine wpList_val (v := .bool false) (wanted_of rfl rfl rfl rfl) (exec_neInt false rfl (ev rfl) (ev rfl) rfl) ?_
                    simp only [Act.put, List.setIfInBounds_toArray, List.set_cons_succ, List.set_cons_zero]
                    refine wpList_valn (v := .bool false) rfl (exec_pf rfl (ev rfl) (ev rfl)) ?_
                    simp only [Act.put, List.setIfInBounds_toArray, List.set_cons_succ, List.set_cons_zero]
                    refine wpList_nil ?_
                    go_upto_region 6 with fail
                    refine wp_region_lit ?_
                    refine wpList_valn rfl (exec_mv rfl (ev rfl)) ?_
                    simp only [Act.put, List.setIfInBounds_toArray, List.set_cons_succ, List.set_cons_zero]
                    refine wpList_valn rfl (exec_add rfl (ev rfl) evk HJ.out) ?_
                    simp only [Act.put, List.setIfInBounds_toArray, List.set_cons_succ, List.set_cons_zero]
                    refine wpList_valn rfl (exec_as rfl (ev rfl)) ?_
                    simp only [Act.put, List.setIfInBounds_toArray, List.set_cons_succ, List.set_cons_zero]
                    refine wpList_nil ?_
                    go_wp2_with fail
                    go_roundw
                    case rel => exact ⟨j + 1, q, by omega, rfl, HF2.out, HT25.out⟩
                    case measure => simp [intOf]; omega
                · by_cases c2 : O = 1
                  · have C1 : Hid (decide ((1 : Int) < (O : Int)) = false) := Lib.hid (decide_eq_false (by omega))
                    have C2 : Hid (((O : Int) == 1) = true) := Lib.hid (by simp; omega)
                    have C3 : Hid (((H : Int) == 1) = false) := Lib.hid (by simp; omega)
                    have HST : Hid (stN q = 2) := Lib.hid (by rw [HSI.out]; rw [if_neg (fun h => h.elim c1 (fun h => by cases h.2)), if_neg (by decide), if_neg c3, if_pos c2])
                    clear c1 c2 c3
                    go_upto_region 10 with fail
                    refine wp_region_lit ?_
                    refine wpList_valn rfl (exec_mv rfl (ev rfl)) ?_
                    simp only [Act.put, List.setIfInBounds_toArray, List.set_cons_succ, List.set_cons_zero]
                    refine wpList_valn rfl (exec_faddr rfl (ev rfl) faR0) ?_
                    simp only [Act.put, List.setIfInBounds_toArray, List.set_cons_succ, List.set_cons_zero]
                    refine wpList_valn rfl (exec_faddr rfl (ev rfl) faG0) ?_
                    simp only [Act.put, List.setIfInBounds_toArray, List.set_cons_succ, List.set_cons_zero]
                    refine wpList_valn rfl (exec_ld rfl (ev rfl) (ldInt (HMQ.out ▸ (HT22.out.ros (i := 0) rfl).cells.1))) ?_
                    simp only [Act.put, List.setIfInBounds_toArray, List.set_cons_succ, List.set_cons_zero]
                    refine wpList_valn (v := .bool false) rfl (exec_lss false rfl (ev rfl) (ev rfl) H43.out) ?_
                    simp only [Act.put, List.setIfInBounds_toArray, List.set_cons_succ, List.set_cons_zero]
                    refine wpList_skips 2 (v := .bool false) rfl (exec_mv rfl (ev rfl)) (by kernel_rfl) ?_
                    simp only [skipAct, List.take_succ_cons, List.take_zero, List.drop_succ_cons, List.drop_zero, Act.put, List.setIfInBounds_toArray, List.set_cons_succ, List.set_cons_zero]
                    refine wpList_valn (v := .bool false) rfl (exec_pf rfl (ev rfl) evk) ?_
                    simp only [Act.put, List.setIfInBounds_toArray, List.set_cons_succ, List.set_cons_zero]
                    refine wpList_nil ?_
                    go_upto_region 16 with fail
                    refine wp_region_lit ?_
                    refine wpList_valn rfl (exec_as rfl evk) ?_
                    simp only [Act.put, List.setIfInBounds_toArray, List.set_cons_succ, List.set_cons_zero]
                    refine wpList_nil ?_
                    go_upto_region 17 with fail
                    refine wp_region_lit ?_
                    refine wpList_valn rfl (exec_mv rfl (ev rfl)) ?_
                    simp only [Act.put, List.setIfInBounds_toArray, List.set_cons_succ, List.set_cons_zero]
                    refine wpList_valn (v := .bool false) rfl (exec_gtr false rfl (ev rfl) evk C1.out) ?_
                    simp only [Act.put, List.setIfInBounds_toArray, List.set_cons_succ, List.set_cons_zero]
                    refine wpList_valn (v := .bool false) rfl (exec_mv rfl (ev rfl)) ?_
                    simp only [Act.put, List.setIfInBounds_toArray, List.set_cons_succ, List.set_cons_zero]
                    refine wpList_val (wanted_of rfl rfl rfl rfl) (exec_mv rfl (ev rfl)) ?_
                    simp only [Act.put, List.setIfInBounds_toArray, List.set_cons_succ, List.set_cons_zero]
                    refine wpList_val (v := .bool true) (wanted_of rfl rfl rfl rfl) (exec_eqInt true rfl (ev rfl) evk C2.out) ?_
                    simp only [Act.put, List.setIfInBounds_toArray, List.set_cons_succ, List.set_cons_zero]
                    refine wpList_val (v := .bool true) (wanted_of rfl rfl rfl rfl) (exec_mv rfl (ev rfl)) ?_
                    simp only [Act.put, List.setIfInBounds_toArray, List.set_cons_succ, List.set_cons_zero]
                    refine wpList_val (wanted_of rfl rfl rfl rfl) (exec_faddr rfl (ev rfl) faR3) ?_
                    simp only [Act.put, List.setIfInBounds_toArray, List.set_cons_succ, List.set_cons_zero]
                    refine wpList_val (v := .bool false) (wanted_of rfl rfl rfl rfl) (exec_ld rfl (ev rfl) (ldBo (HGO.out ▸ (HT22.out.ros (i := 0) rfl).cells.2.2.2.2))) ?_
                    simp only [Act.put, List.setIfInBounds_toArray, List.set_cons_succ, List.set_cons_zero]
                    refine wpList_val (v := .bool false) (wanted_of rfl rfl rfl rfl) (exec_pt rfl (ev rfl) (ev rfl)) ?_
                    simp only [Act.put, List.setIfInBounds_toArray, List.set_cons_succ, List.set_cons_zero]
                    refine wpList_valn (v := .bool false) rfl (exec_pf rfl (ev rfl) (ev rfl)) ?_
                    simp only [Act.put, List.setIfInBounds_toArray, List.set_cons_succ, List.set_cons_zero]
                    refine wpList_valn (v := .bool false) rfl (exec_as rfl (ev rfl)) ?_
                    simp only [Act.put, List.setIfInBounds_toArray, List.set_cons_succ, List.set_cons_zero]
                    refine wpList_nil ?_
                    go_upto_region 19 with fail
                    refine wp_region_lit ?_
                    refine wpList_valn rfl (exec_faddr rfl (ev rfl) faR3) ?_
                    simp only [Act.put, List.setIfInBounds_toArray, List.set_cons_succ, List.set_cons_zero]
                    refine wpList_valn (v := .bool false) rfl (exec_ld rfl (ev rfl) (ldBo (HGO.out ▸ (HT22.out.ros (i := 0) rfl).cells.2.2.2.2))) ?_
                    simp only [Act.put, List.setIfInBounds_toArray, List.set_cons_succ, List.set_cons_zero]
                    refine wpList_valn (v := .bool false) rfl (exec_as rfl (ev rfl)) ?_
                    simp only [Act.put, List.setIfInBounds_toArray, List.set_cons_succ, List.set_cons_zero]
                    refine wpList_nil ?_
                    go_upto_region 21 with fail
                    refine wp_region_lit ?_
                    refine wpList_valn rfl (exec_mv rfl (ev rfl)) ?_
                    simp only [Act.put, List.setIfInBounds_toArray, List.set_cons_succ, List.set_cons_zero]
                    refine wpList_valn (v := .bool false) rfl (exec_eqInt false rfl (ev rfl) evk C3.out) ?_
                    simp only [Act.put, List.setIfInBounds_toArray, List.set_cons_succ, List.set_cons_zero]
                    refine wpList_valn (v := .bool false) rfl (exec_as rfl (ev rfl)) ?_
                    simp only [Act.put, List.setIfInBounds_toArray, List.set_cons_succ, List.set_cons_zero]
                    refine wpList_nil ?_
                    go_upto_region 23 with fail
                    refine wp_region_lit ?_
                    refine wpList_valn rfl (exec_mv rfl (ev rfl)) ?_
                    simp only [Act.put, List.setIfInBounds_toArray, List.set_cons_succ, List.set_cons_zero]
                    refine wpList_valn (v := .bool true) rfl (exec_eqInt true rfl (ev rfl) evk C2.out) ?_
                    simp only [Act.put, List.setIfInBounds_toArray, List.set_cons_succ, List.set_cons_zero]
                    refine wpList_valn (v := .bool true) rfl (exec_as rfl (ev rfl)) ?_
                    simp only [Act.put, List.setIfInBounds_toArray, List.set_cons_succ, List.set_cons_zero]
                    refine wpList_nil ?_
                    go_upto_region 24 with fail
                    refine wp_region_lit ?_
                    refine wpList_valn rfl (exec_as rfl evk) ?_
                    simp only [Act.put, List.setIfInBounds_toArray, List.set_cons_succ, List.set_cons_zero]
                    refine wpList_nil ?_
                    go_upto_region 25 with fail
                    refine wp_region_lit ?_
                    refine wpList_valn rfl (exec_ldR rfl (ev rfl) (HT22.out.ros (i := 0) rfl)) ?_
                    simp only [Act.put, List.setIfInBounds_toArray, List.set_cons_succ, List.set_cons_zero]
                    refine wpList_call rfl (exec_cl Try.call9 rfl (evc (ev rfl) evn)) ?_
                    refine (pmay_b w22 HF2.out).mono ?_
                    rintro e w23 ⟨rfl, hb⟩
                    have HT23 := Lib.hid (HT22.out.call hb)
                    clear hb HT22
                    refine ⟨_, rfl, ?_⟩
                    simp only [Act.put, List.setIfInBounds_toArray, List.set_cons_succ, List.set_cons_zero]
                    refine wpList_valn (v := .bool false) rfl (exec_not true rfl (ev rfl)) ?_
                    simp only [Act.put, List.setIfInBounds_toArray, List.set_cons_succ, List.set_cons_zero]
                    refine wpList_valn (v := .bool false) rfl (exec_mv rfl (ev rfl)) ?_
                    simp only [Act.put, List.setIfInBounds_toArray, List.set_cons_succ, List.set_cons_zero]
                    refine wpList_val (wanted_of rfl rfl rfl rfl) (exec_mv rfl (ev rfl)) ?_
                    simp only [Act.put, List.setIfInBounds_toArray, List.set_cons_succ, List.set_cons_zero]
                    refine wpList_val (v := .bool false) (wanted_of rfl rfl rfl rfl) (exec_gtr false rfl (ev rfl) evk HGR.out) ?_
                    simp only [Act.put, List.setIfInBounds_toArray, List.set_cons_succ, List.set_cons_zero]
                    refine wpList_valn (v := .bool false) rfl (exec_pf rfl (ev rfl) (ev rfl)) ?_
                    simp only [Act.put, List.setIfInBounds_toArray, List.set_cons_succ, List.set_cons_zero]
                    refine wpList_valn (v := .bool false) rfl (exec_mv rfl (ev rfl)) ?_
                    simp only [Act.put, List.setIfInBounds_toArray, List.set_cons_succ, List.set_cons_zero]
                    refine wpList_val (wanted_of rfl rfl rfl rfl) (exec_ldR rfl (ev rfl) (HT23.out.ros (i := 0) rfl)) ?_
                    simp only [Act.put, List.setIfInBounds_toArray, List.set_cons_succ, List.set_cons_zero]
                    refine wpList_call (wanted_of rfl rfl rfl rfl) (exec_cl Try.call13 rfl (evc (ev rfl) evn)) ?_
                    refine (pmiss_n w23 HMI.out).mono ?_
                    rintro e w24 ⟨rfl, hb⟩
                    have HT24 := Lib.hid (HT23.out.call hb)
                    clear hb HT23
                    refine ⟨_, rfl, ?_⟩
                    simp only [Act.put, List.setIfInBounds_toArray, List.set_cons_succ, List.set_cons_zero]
                    refine wpList_val (wanted_of rfl rfl rfl rfl) (exec_mv rfl (ev rfl)) ?_
                    simp only [Act.put, List.setIfInBounds_toArray, List.set_cons_succ, List.set_cons_zero]
                    refine wpList_val (v := .bool false) (wanted_of rfl rfl rfl rfl) (exec_neInt false rfl (ev rfl) (ev rfl) (bne_self_eq_false _)) ?_
                    simp only [Act.put, List.setIfInBounds_toArray, List.set_cons_succ, List.set_cons_zero]
                    refine wpList_valn (v := .bool false) rfl (exec_pf rfl (ev rfl) (ev rfl)) ?_
                    simp only [Act.put, List.setIfInBounds_toArray, List.set_cons_succ, List.set_cons_zero]
                    refine wpList_valn (v := .bool false) rfl (exec_mv rfl (ev rfl)) ?_
                    simp only [Act.put, List.setIfInBounds_toArray, List.set_cons_succ, List.set_cons_zero]
                    refine wpList_val (wanted_of rfl rfl rfl rfl) (exec_ldR rfl (ev rfl) (HT24.out.ros (i := 0) rfl)) ?_
                    simp only [Act.put, List.setIfInBounds_toArray, List.set_cons_succ, List.set_cons_zero]
                    refine wpList_call (wanted_of rfl rfl rfl rfl) (exec_cl Try.call15 rfl (evc (ev rfl) evn)) ?_
                    refine (pstate_n (n := 2) w24 HST.out).mono ?_
                    rintro e w25 ⟨rfl, hb⟩
                    have HT25 := Lib.hid (HT24.out.call hb)
                    clear hb HT24
                    refine ⟨_, rfl, ?_⟩
                    simp only [Act.put, List.setIfInBounds_toArray, List.set_cons_succ, List.set_cons_zero]
                    refine wpList_val (wanted_of rfl rfl rfl rfl) (exec_mv rfl (ev rfl)) ?_
                    simp only [Act.put, List.setIfInBounds_toArray, List.set_cons_succ, List.set_cons_zero]
                    refine wpList_val (v := .bool false) (wanted_of rfl rfl rfl rfl) (exec_neInt false rfl (ev rfl) (ev rfl) rfl) ?_
                    simp only [Act.put, List.setIfInBounds_toArray, List.set_cons_succ, List.set_cons_zero]
                    refine wpList_valn (v := .bool false) rfl (exec_pf rfl (ev rfl) (ev rfl)) ?_
                    simp only [Act.put, List.setIfInBounds_toArray, List.set_cons_succ, List.set_cons_zero]
                    refine wpList_nil ?_
                    go_upto_region 6 with fail
                    refine wp_region_lit ?_
                    refine wpList_valn rfl (exec_mv rfl (ev rfl)) ?_
                    simp only [Act.put, List.setIfInBounds_toArray, List.set_cons_succ, List.set_cons_zero]
                    refine wpList_valn rfl (exec_add rfl (ev rfl) evk HJ.out) ?_
                    simp only [Act.put, List.setIfInBounds_toArray, List.set_cons_succ, List.set_cons_zero]
                    refine wpList_valn rfl (exec_as rfl (ev rfl)) ?_
                    simp only [Act.put, List.setIfInBounds_toArray, List.set_cons_succ, List.set_cons_zero]
                    refine wpList_nil ?_
                    go_wp2_with fail
                    go_roundw
                    case rel => exact ⟨j + 1, q, by omega, rfl, HF2.out, HT25.out⟩
                    case measure => simp [intOf]; omega
                  · have C1 : Hid (decide ((1 : Int) < (O : Int)) = false) := Lib.hid (decide_eq_false (by omega))
                    have C2 : Hid (((O : Int) == 1) = false) := Lib.hid (by simp; omega)
                    have C3 : Hid (((H : Int) == 1) = false) := Lib.hid (by simp; omega)
                    have HST : Hid (stN q = 1) := Lib.hid (by rw [HSI.out]; rw [if_neg (fun h => h.elim c1 (fun h => by cases h.2)), if_neg (by decide), if_neg c3, if_neg c2])
                    clear c1 c2 c3
                    go_upto_region 10 with fail
                    refine wp_region_lit ?_
                    refine wpList_valn rfl (exec_mv rfl (ev rfl)) ?_
                    simp only [Act.put, List.setIfInBounds_toArray, List.set_cons_succ, List.set_cons_zero]
                    refine wpList_valn rfl (exec_faddr rfl (ev rfl) faR0) ?_
                    simp only [Act.put, List.setIfInBounds_toArray, List.set_cons_succ, List.set_cons_zero]
                    refine wpList_valn rfl (exec_faddr rfl (ev rfl) faG0) ?_
                    simp only [Act.put, List.setIfInBounds_toArray, List.set_cons_succ, List.set_cons_zero]
                    refine wpList_valn rfl (exec_ld rfl (ev rfl) (ldInt (HMQ.out ▸ (HT22.out.ros (i := 0) rfl).cells.1))) ?_
                    simp only [Act.put, List.setIfInBounds_toArray, List.set_cons_succ, List.set_cons_zero]
                    refine wpList_valn (v := .bool false) rfl (exec_lss false rfl (ev rfl) (ev rfl) H43.out) ?_
                    simp only [Act.put, List.setIfInBounds_toArray, List.set_cons_succ, List.set_cons_zero]
                    refine wpList_skips 2 (v := .bool false) rfl (exec_mv rfl (ev rfl)) (by kernel_rfl) ?_
                    simp only [skipAct, List.take_succ_cons, List.take_zero, List.drop_succ_cons, List.drop_zero, Act.put, List.setIfInBounds_toArray, List.set_cons_succ, List.set_cons_zero]
                    refine wpList_valn (v := .bool false) rfl (exec_pf rfl (ev rfl) evk) ?_
                    simp only [Act.put, List.setIfInBounds_toArray, List.set_cons_succ, List.set_cons_zero]
                    refine wpList_nil ?_
                    go_upto_region 16 with fail
                    refine wp_region_lit ?_
                    refine wpList_valn rfl (exec_as rfl evk) ?_
                    simp only [Act.put, List.setIfInBounds_toArray, List.set_cons_succ, List.set_cons_zero]
                    refine wpList_nil ?_
                    go_upto_region 17 with fail
                    refine wp_region_lit ?_
                    refine wpList_valn rfl (exec_mv rfl (ev rfl)) ?_
                    simp only [Act.put, List.setIfInBounds_toArray, List.set_cons_succ, List.set_cons_zero]
                    refine wpList_valn (v := .bool false) rfl (exec_gtr false rfl (ev rfl) evk C1.out) ?_
                    simp only [Act.put, List.setIfInBounds_toArray, List.set_cons_succ, List.set_cons_zero]
                    refine wpList_valn (v := .bool false) rfl (exec_mv rfl (ev rfl)) ?_
                    simp only [Act.put, List.setIfInBounds_toArray, List.set_cons_succ, List.set_cons_zero]
                    refine wpList_val (wanted_of rfl rfl rfl rfl) (exec_mv rfl (ev rfl)) ?_
                    simp only [Act.put, List.setIfInBounds_toArray, List.set_cons_succ, List.set_cons_zero]
                    refine wpList_val (v := .bool false) (wanted_of rfl rfl rfl rfl) (exec_eqInt false rfl (ev rfl) evk C2.out) ?_
                    simp only [Act.put, List.setIfInBounds_toArray, List.set_cons_succ, List.set_cons_zero]
                    refine wpList_skips 2 (v := .bool false) (wanted_of rfl rfl rfl rfl) (exec_mv rfl (ev rfl)) (by kernel_rfl) ?_
                    simp only [skipAct, List.take_succ_cons, List.take_zero, List.drop_succ_cons, List.drop_zero, Act.put, List.setIfInBounds_toArray, List.set_cons_succ, List.set_cons_zero]
                    refine wpList_val (v := .bool false) (wanted_of rfl rfl rfl rfl) (exec_pf rfl (ev rfl) evk) ?_
                    simp only [Act.put, List.setIfInBounds_toArray, List.set_cons_succ, List.set_cons_zero]
                    refine wpList_valn (v := .bool false) rfl (exec_pf rfl (ev rfl) (ev rfl)) ?_
                    simp only [Act.put, List.setIfInBounds_toArray, List.set_cons_succ, List.set_cons_zero]
                    refine wpList_valn (v := .bool false) rfl (exec_as rfl (ev rfl)) ?_
                    simp only [Act.put, List.setIfInBounds_toArray, List.set_cons_succ, List.set_cons_zero]
                    refine wpList_nil ?_
                    go_upto_region 19 with fail
                    refine wp_region_lit ?_
                    refine wpList_valn rfl (exec_faddr rfl (ev rfl) faR3) ?_
                    simp only [Act.put, List.setIfInBounds_toArray, List.set_cons_succ, List.set_cons_zero]
                    refine wpList_valn (v := .bool false) rfl (exec_ld rfl (ev rfl) (ldBo (HGO.out ▸ (HT22.out.ros (i := 0) rfl).cells.2.2.2.2))) ?_
                    simp only [Act.put, List.setIfInBounds_toArray, List.set_cons_succ, List.set_cons_zero]
                    refine wpList_valn (v := .bool false) rfl (exec_as rfl (ev rfl)) ?_
                    simp only [Act.put, List.setIfInBounds_toArray, List.set_cons_succ, List.set_cons_zero]
                    refine wpList_nil ?_
                    go_upto_region 21 with fail
                    refine wp_region_lit ?_
                    refine wpList_valn rfl (exec_mv rfl (ev rfl)) ?_
                    simp only [Act.put, List.setIfInBounds_toArray, List.set_cons_succ, List.set_cons_zero]
                    refine wpList_valn (v := .bool false) rfl (exec_eqInt false rfl (ev rfl) evk C3.out) ?_
                    simp only [Act.put, List.setIfInBounds_toArray, List.set_cons_succ, List.set_cons_zero]
                    refine wpList_valn (v := .bool false) rfl (exec_as rfl (ev rfl)) ?_
                    simp only [Act.put, List.setIfInBounds_toArray, List.set_cons_succ, List.set_cons_zero]
                    refine wpList_nil ?_
                    go_upto_region 23 with fail
                    refine wp_region_lit ?_
                    refine wpList_valn rfl (exec_mv rfl (ev rfl)) ?_
                    simp only [Act.put, List.setIfInBounds_toArray, List.set_cons_succ, List.set_cons_zero]
                    refine wpList_valn (v := .bool false) rfl (exec_eqInt false rfl (ev rfl) evk C2.out) ?_
                    simp only [Act.put, List.setIfInBounds_toArray, List.set_cons_succ, List.set_cons_zero]
                    refine wpList_valn (v := .bool false) rfl (exec_as rfl (ev rfl)) ?_
                    simp only [Act.put, List.setIfInBounds_toArray, List.set_cons_succ, List.set_cons_zero]
                    refine wpList_nil ?_
                    go_upto_region 25 with fail
                    refine wp_region_lit ?_
                    refine wpList_valn rfl (exec_ldR rfl (ev rfl) (HT22.out.ros (i := 0) rfl)) ?_
                    simp only [Act.put, List.setIfInBounds_toArray, List.set_cons_succ, List.set_cons_zero]
                    refine wpList_call rfl (exec_cl Try.call9 rfl (evc (ev rfl) evn)) ?_
                    refine (pmay_b w22 HF2.out).mono ?_
                    rintro e w23 ⟨rfl, hb⟩
                    have HT23 := Lib.hid (HT22.out.call hb)
                    clear hb HT22
                    refine ⟨_, rfl, ?_⟩
                    simp only [Act.put, List.setIfInBounds_toArray, List.set_cons_succ, List.set_cons_zero]
                    refine wpList_valn (v := .bool false) rfl (exec_not true rfl (ev rfl)) ?_
                    simp only [Act.put, List.setIfInBounds_toArray, List.set_cons_succ, List.set_cons_zero]
                    refine wpList_valn (v := .bool false) rfl (exec_mv rfl (ev rfl)) ?_
                    simp only [Act.put, List.setIfInBounds_toArray, List.set_cons_succ, List.set_cons_zero]
                    refine wpList_val (wanted_of rfl rfl rfl rfl) (exec_mv rfl (ev rfl)) ?_
                    simp only [Act.put, List.setIfInBounds_toArray, List.set_cons_succ, List.set_cons_zero]
                    refine wpList_val (v := .bool false) (wanted_of rfl rfl rfl rfl) (exec_gtr false rfl (ev rfl) evk HGR.out) ?_
                    simp only [Act.put, List.setIfInBounds_toArray, List.set_cons_succ, List.set_cons_zero]
                    refine wpList_valn (v := .bool false) rfl (exec_pf rfl (ev rfl) (ev rfl)) ?_
                    simp only [Act.put, List.setIfInBounds_toArray, List.set_cons_succ, List.set_cons_zero]
                    refine wpList_valn (v := .bool false) rfl (exec_mv rfl (ev rfl)) ?_
                    simp only [Act.put, List.setIfInBounds_toArray, List.set_cons_succ, List.set_cons_zero]
                    refine wpList_val (wanted_of rfl rfl rfl rfl) (exec_ldR rfl (ev rfl) (HT23.out.ros (i := 0) rfl)) ?_
                    simp only [Act.put, List.setIfInBounds_toArray, List.set_cons_succ, List.set_cons_zero]
                    refine wpList_call (wanted_of rfl rfl rfl rfl) (exec_cl Try.call13 rfl (evc (ev rfl) evn)) ?_
                    refine (pmiss_n w23 HMI.out).mono ?_
                    rintro e w24 ⟨rfl, hb⟩
                    have HT24 := Lib.hid (HT23.out.call hb)
                    clear hb HT23
                    refine ⟨_, rfl, ?_⟩
                    simp only [Act.put, List.setIfInBounds_toArray, List.set_cons_succ, List.set_cons_zero]
                    refine wpList_val (wanted_of rfl rfl rfl rfl) (exec_mv rfl (ev rfl)) ?_
                    simp only [Act.put, List.setIfInBounds_toArray, List.set_cons_succ, List.set_cons_zero]
                    refine wpList_val (v := .bool false) (wanted_of rfl rfl rfl rfl) (exec_neInt false rfl (ev rfl) (ev rfl) (bne_self_eq_false _)) ?_
                    simp only [Act.put, List.setIfInBounds_toArray, List.set_cons_succ, List.set_cons_zero]
                    refine wpList_valn (v := .bool false) rfl (exec_pf rfl (ev rfl) (ev rfl)) ?_
                    simp only [Act.put, List.setIfInBounds_toArray, List.set_cons_succ, List.set_cons_zero]
                    refine wpList_valn (v := .bool false) rfl (exec_mv rfl (ev rfl)) ?_
                    simp only [Act.put, List.setIfInBounds_toArray, List.set_cons_succ, List.set_cons_zero]
                    refine wpList_val (wanted_of rfl rfl rfl rfl) (exec_ldR rfl (ev rfl) (HT24.out.ros (i := 0) rfl)) ?_
                    simp only [Act.put, List.setIfInBounds_toArray, List.set_cons_succ, List.set_cons_zero]
                    refine wpList_call (wanted_of rfl rfl rfl rfl) (exec_cl Try.call15 rfl (evc (ev rfl) evn)) ?_
                    refine (pstate_n (n := 1) w24 HST.out).mono ?_
                    rintro e w25 ⟨rfl, hb⟩
                    have HT25 := Lib.hid (HT24.out.call hb)
                    clear hb HT24
                    refine ⟨_, rfl, ?_⟩
                    simp only [Act.put, List.setIfInBounds_toArray, List.set_cons_succ, List.set_cons_zero]
                    refine wpList_val (wanted_of rfl rfl rfl rfl) (exec_mv rfl (ev rfl)) ?_
                    simp only [Act.put, List.setIfInBounds_toArray, List.set_cons_succ, List.set_cons_zero]
                    refine wpList_val (v := .bool false) (wanted_of rfl rfl rfl rfl) (exec_neInt false rfl (ev rfl) (ev rfl) rfl) ?_
                    simp only [Act.put, List.setIfInBounds_toArray, List.set_cons_succ, List.set_cons_zero]
                    refine wpList_valn (v := .bool false) rfl (exec_pf rfl (ev rfl) (ev rfl)) ?_
                    simp only [Act.put, List.setIfInBounds_toArray, List.set_cons_succ, List.set_cons_zero]
                    refine wpList_nil ?_
                    go_upto_region 6 with fail
                    refine wp_region_lit ?_
                    refine wpList_valn rfl (exec_mv rfl (ev rfl)) ?_
                    simp only [Act.put, List.setIfInBounds_toArray, List.set_cons_succ, List.set_cons_zero]
                    refine wpList_valn rfl (exec_add rfl (ev rfl) evk HJ.out) ?_
                    simp only [Act.put, List.setIfInBounds_toArray, List.set_cons_succ, List.set_cons_zero]
                    refine wpList_valn rfl (exec_as rfl (ev rfl)) ?_
                    simp only [Act.put, List.setIfInBounds_toArray, List.set_cons_succ, List.set_cons_zero]
                    refine wpList_nil ?_
                    go_wp2_with fail
                    go_roundw
                    case rel => exact ⟨j + 1, q, by omega, rfl, HF2.out, HT25.out⟩
                    case measure => simp [intOf]; omega
              · by_cases c2 : O = 1
                · have C1 : Hid (decide ((1 : Int) < (O : Int)) = false) := Lib.hid (decide_eq_false (by omega))
                  have C2 : Hid (((O : Int) == 1) = true) := Lib.hid (by simp; omega)
                  have HST : Hid (stN q = 5) := Lib.hid (by rw [HSI.out]; rw [if_pos (.inr ⟨c2, rfl⟩)])
                  clear c1 c2
                  go_upto_region 10 with fail
                  refine wp_region_lit ?_
                  refine wpList_valn rfl (exec_mv rfl (ev rfl)) ?_
                  simp only [Act.put, List.setIfInBounds_toArray, List.set_cons_succ, List.set_cons_zero]
                  refine wpList_valn rfl (exec_faddr rfl (ev rfl) faR0) ?_
                  simp only [Act.put, List.setIfInBounds_toArray, List.set_cons_succ, List.set_cons_zero]
                  refine wpList_valn rfl (exec_faddr rfl (ev rfl) faG0) ?_
                  simp only [Act.put, List.setIfInBounds_toArray, List.set_cons_succ, List.set_cons_zero]
                  refine wpList_valn rfl (exec_ld rfl (ev rfl) (ldInt (HMQ.out ▸ (HT22.out.ros (i := 0) rfl).cells.1))) ?_
                  simp only [Act.put, List.setIfInBounds_toArray, List.set_cons_succ, List.set_cons_zero]
                  refine wpList_valn (v := .bool false) rfl (exec_lss false rfl (ev rfl) (ev rfl) H43.out) ?_
                  simp only [Act.put, List.setIfInBounds_toArray, List.set_cons_succ, List.set_cons_zero]
                  refine wpList_skips 2 (v := .bool false) rfl (exec_mv rfl (ev rfl)) (by kernel_rfl) ?_
                  simp only [skipAct, List.take_succ_cons, List.take_zero, List.drop_succ_cons, List.drop_zero, Act.put, List.setIfInBounds_toArray, List.set_cons_succ, List.set_cons_zero]
                  refine wpList_valn (v := .bool false) rfl (exec_pf rfl (ev rfl) evk) ?_
                  simp only [Act.put, List.setIfInBounds_toArray, List.set_cons_succ, List.set_cons_zero]
                  refine wpList_nil ?_
                  go_upto_region 16 with fail
                  refine wp_region_lit ?_
                  refine wpList_valn rfl (exec_as rfl evk) ?_
                  simp only [Act.put, List.setIfInBounds_toArray, List.set_cons_succ, List.set_cons_zero]
                  refine wpList_nil ?_
                  go_upto_region 17 with fail
                  refine wp_region_lit ?_
                  refine wpList_valn rfl (exec_mv rfl (ev rfl)) ?_
                  simp only [Act.put, List.setIfInBounds_toArray, List.set_cons_succ, List.set_cons_zero]
                  refine wpList_valn (v := .bool false) rfl (exec_gtr false rfl (ev rfl) evk C1.out) ?_
                  simp only [Act.put, List.setIfInBounds_toArray, List.set_cons_succ, List.set_cons_zero]
                  refine wpList_valn (v := .bool false) rfl (exec_mv rfl (ev rfl)) ?_
                  simp only [Act.put, List.setIfInBounds_toArray, List.set_cons_succ, List.set_cons_zero]
                  refine wpList_val (wanted_of rfl rfl rfl rfl) (exec_mv rfl (ev rfl)) ?_
                  simp only [Act.put, List.setIfInBounds_toArray, List.set_cons_succ, List.set_cons_zero]
                  refine wpList_val (v := .bool true) (wanted_of rfl rfl rfl rfl) (exec_eqInt true rfl (ev rfl) evk C2.out) ?_
                  simp only [Act.put, List.setIfInBounds_toArray, List.set_cons_succ, List.set_cons_zero]
                  refine wpList_val (v := .bool true) (wanted_of rfl rfl rfl rfl) (exec_mv rfl (ev rfl)) ?_
                  simp only [Act.put, List.setIfInBounds_toArray, List.set_cons_succ, List.set_cons_zero]
                  refine wpList_val (wanted_of rfl rfl rfl rfl) (exec_faddr rfl (ev rfl) faR3) ?_
                  simp only [Act.put, List.setIfInBounds_toArray, List.set_cons_succ, List.set_cons_zero]
                  refine wpList_val (v := .bool true) (wanted_of rfl rfl rfl rfl) (exec_ld rfl (ev rfl) (ldBo (HGO.out ▸ (HT22.out.ros (i := 0) rfl).cells.2.2.2.2))) ?_
                  simp only [Act.put, List.setIfInBounds_toArray, List.set_cons_succ, List.set_cons_zero]
                  refine wpList_val (v := .bool true) (wanted_of rfl rfl rfl rfl) (exec_pt rfl (ev rfl) (ev rfl)) ?_
                  simp only [Act.put, List.setIfInBounds_toArray, List.set_cons_succ, List.set_cons_zero]
                  refine wpList_valn (v := .bool true) rfl (exec_pf rfl (ev rfl) (ev rfl)) ?_
                  simp only [Act.put, List.setIfInBounds_toArray, List.set_cons_succ, List.set_cons_zero]
                  refine wpList_valn (v := .bool true) rfl (exec_as rfl (ev rfl)) ?_
                  simp only [Act.put, List.setIfInBounds_toArray, List.set_cons_succ, List.set_cons_zero]
                  refine wpList_nil ?_
                  go_upto_region 18 with fail
                  refine wp_region_lit ?_
                  refine wpList_valn rfl (exec_as rfl evk) ?_
                  simp only [Act.put, List.setIfInBounds_toArray, List.set_cons_succ, List.set_cons_zero]
                  refine wpList_nil ?_
                  go_upto_region 25 with fail
                  refine wp_region_lit ?_
                  refine wpList_valn rfl (exec_ldR rfl (ev rfl) (HT22.out.ros (i := 0) rfl)) ?_
                  simp only [Act.put, List.setIfInBounds_toArray, List.set_cons_succ, List.set_cons_zero]
                  refine wpList_call rfl (exec_cl Try.call9 rfl (evc (ev rfl) evn)) ?_
                  refine (pmay_b w22 HF2.out).mono ?_
                  rintro e w23 ⟨rfl, hb⟩
                  have HT23 := Lib.hid (HT22.out.call hb)
                  clear hb HT22
                  refine ⟨_, rfl, ?_⟩
                  simp only [Act.put, List.setIfInBounds_toArray, List.set_cons_succ, List.set_cons_zero]
                  refine wpList_valn (v := .bool false) rfl (exec_not true rfl (ev rfl)) ?_
                  simp only [Act.put, List.setIfInBounds_toArray, List.set_cons_succ, List.set_cons_zero]
                  refine wpList_valn (v := .bool false) rfl (exec_mv rfl (ev rfl)) ?_
                  simp only [Act.put, List.setIfInBounds_toArray, List.set_cons_succ, List.set_cons_zero]
                  refine wpList_val (wanted_of rfl rfl rfl rfl) (exec_mv rfl (ev rfl)) ?_
                  simp only [Act.put, List.setIfInBounds_toArray, List.set_cons_succ, List.set_cons_zero]
                  refine wpList_val (v := .bool false) (wanted_of rfl rfl rfl rfl) (exec_gtr false rfl (ev rfl) evk HGR.out) ?_
                  simp only [Act.put, List.setIfInBounds_toArray, List.set_cons_succ, List.set_cons_zero]
                  refine wpList_valn (v := .bool false) rfl (exec_pf rfl (ev rfl) (ev rfl)) ?_
                  simp only [Act.put, List.setIfInBounds_toArray, List.set_cons_succ, List.set_cons_zero]
                  refine wpList_valn (v := .bool false) rfl (exec_mv rfl (ev rfl)) ?_
                  simp only [Act.put, List.setIfInBounds_toArray, List.set_cons_succ, List.set_cons_zero]
                  refine wpList_val (wanted_of rfl rfl rfl rfl) (exec_ldR rfl (ev rfl) (HT23.out.ros (i := 0) rfl)) ?_
                  simp only [Act.put, List.setIfInBounds_toArray, List.set_cons_succ, List.set_cons_zero]
                  refine wpList_call (wanted_of rfl rfl rfl rfl) (exec_cl Try.call13 rfl (evc (ev rfl) evn)) ?_
                  refine (pmiss_n w23 HMI.out).mono ?_
                  rintro e w24 ⟨rfl, hb⟩
                  have HT24 := Lib.hid (HT23.out.call hb)
                  clear hb HT23
                  refine ⟨_, rfl, ?_⟩
                  simp only [Act.put, List.setIfInBounds_toArray, List.set_cons_succ, List.set_cons_zero]
                  refine wpList_val (wanted_of rfl rfl rfl rfl) (exec_mv rfl (ev rfl)) ?_
                  simp only [Act.put, List.setIfInBounds_toArray, List.set_cons_succ, List.set_cons_zero]
                  refine wpList_val (v := .bool false) (wanted_of rfl rfl rfl rfl) (exec_neInt false rfl (ev rfl) (ev rfl) (bne_self_eq_false _)) ?_
                  simp only [Act.put, List.setIfInBounds_toArray, List.set_cons_succ, List.set_cons_zero]
                  refine wpList_valn (v := .bool false) rfl (exec_pf rfl (ev rfl) (ev rfl)) ?_
                  simp only [Act.put, List.setIfInBounds_toArray, List.set_cons_succ, List.set_cons_zero]
                  refine wpList_valn (v := .bool false) rfl (exec_mv rfl (ev rfl)) ?_
                  simp only [Act.put, List.setIfInBounds_toArray, List.set_cons_succ, List.set_cons_zero]
                  refine wpList_val (wanted_of rfl rfl rfl rfl) (exec_ldR rfl (ev rfl) (HT24.out.ros (i := 0) rfl)) ?_
                  simp only [Act.put, List.setIfInBounds_toArray, List.set_cons_succ, List.set_cons_zero]
                  refine wpList_call (wanted_of rfl rfl rfl rfl) (exec_cl Try.call15 rfl (evc (ev rfl) evn)) ?_
                  refine (pstate_n (n := 5) w24 HST.out).mono ?_
                  rintro e w25 ⟨rfl, hb⟩
                  have HT25 := Lib.hid (HT24.out.call hb)
                  clear hb HT24
                  refine ⟨_, rfl, ?_⟩
                  simp only [Act.put, List.setIfInBounds_toArray, List.set_cons_succ, List.set_cons_zero]
                  refine wpList_val (wanted_of rfl rfl rfl rfl) (exec_mv rfl (ev rfl)) ?_
                  simp only [Act.put, List.setIfInBounds_toArray, List.set_cons_succ, List.set_cons_zero]
                  refine wpList_val (v := .bool false) (wanted_of rfl rfl rfl rfl) (exec_neInt false rfl (ev rfl) (ev rfl) rfl) ?_
                  simp only [Act.put, List.setIfInBounds_toArray, List.set_cons_succ, List.set_cons_zero]
                  refine wpList_valn (v := .bool false) rfl (exec_pf rfl (ev rfl) (ev rfl)) ?_
                  simp only [Act.put, List.setIfInBounds_toArray, List.set_cons_succ, List.set_cons_zero]
                  refine wpList_nil ?_
                  go_upto_region 6 with fail
                  refine wp_region_lit ?_
                  refine wpList_valn rfl (exec_mv rfl (ev rfl)) ?_
                  simp only [Act.put, List.setIfInBounds_toArray, List.set_cons_succ, List.set_cons_zero]
                  refine wpList_valn rfl (exec_add rfl (ev rfl) evk HJ.out) ?_
                  simp only [Act.put, List.setIfInBounds_toArray, List.set_cons_succ, List.set_cons_zero]
                  refine wpList_valn rfl (exec_as rfl (ev rfl)) ?_
                  simp only [Act.put, List.setIfInBounds_toArray, List.set_cons_succ, List.set_cons_zero]
                  refine wpList_nil ?_
                  go_wp2_with fail
                  go_roundw
                  case rel => exact ⟨j + 1, q, by omega, rfl, HF2.out, HT25.out⟩
                  case measure => simp [intOf]; omega
                · have C1 : Hid (decide ((1 : Int) < (O : Int)) = false) := Lib.hid (decide_eq_false (by omega))
                  have C2 : Hid (((O : Int) == 1) = false) := Lib.hid (by simp; omega)
                  have HST : Hid (stN q = 4) := Lib.hid (by rw [HSI.out]; rw [if_neg (fun h => h.elim c1 (fun h => c2 h.1)), if_pos rfl])
                  clear c1 c2
                  go_upto_region 10 with fail
                  refine wp_region_lit ?_
                  refine wpList_valn rfl (exec_mv rfl (ev rfl)) ?_
                  simp only [Act.put, List.setIfInBounds_toArray, List.set_cons_succ, List.set_cons_zero]
                  refine wpList_valn rfl (exec_faddr rfl (ev rfl) faR0) ?_
                  simp only [Act.put, List.setIfInBounds_toArray, List.set_cons_succ, List.set_cons_zero]
                  refine wpList_valn rfl (exec_faddr rfl (ev rfl) faG0) ?_
                  simp only [Act.put, List.setIfInBounds_toArray, List.set_cons_succ, List.set_cons_zero]
                  refine wpList_valn rfl (exec_ld rfl (ev rfl) (ldInt (HMQ.out ▸ (HT22.out.ros (i := 0) rfl).cells.1))) ?_
                  simp only [Act.put, List.setIfInBounds_toArray, List.set_cons_succ, List.set_cons_zero]
                  refine wpList_valn (v := .bool false) rfl (exec_lss false rfl (ev rfl) (ev rfl) H43.out) ?_
                  simp only [Act.put, List.setIfInBounds_toArray, List.set_cons_succ, List.set_cons_zero]
                  refine wpList_skips 2 (v := .bool false) rfl (exec_mv rfl (ev rfl)) (by kernel_rfl) ?_
                  simp only [skipAct, List.take_succ_cons, List.take_zero, List.drop_succ_cons, List.drop_zero, Act.put, List.setIfInBounds_toArray, List.set_cons_succ, List.set_cons_zero]
                  refine wpList_valn (v := .bool false) rfl (exec_pf rfl (ev rfl) evk) ?_
                  simp only [Act.put, List.setIfInBounds_toArray, List.set_cons_succ, List.set_cons_zero]
                  refine wpList_nil ?_
                  go_upto_region 16 with fail
                  refine wp_region_lit ?_
                  refine wpList_valn rfl (exec_as rfl evk) ?_
                  simp only [Act.put, List.setIfInBounds_toArray, List.set_cons_succ, List.set_cons_zero]
                  refine wpList_nil ?_
                  go_upto_region 17 with fail
                  refine wp_region_lit ?_
                  refine wpList_valn rfl (exec_mv rfl (ev rfl)) ?_
                  simp only [Act.put, List.setIfInBounds_toArray, List.set_cons_succ, List.set_cons_zero]
                  refine wpList_valn (v := .bool false) rfl (exec_gtr false rfl (ev rfl) evk C1.out) ?_
                  simp only [Act.put, List.setIfInBounds_toArray, List.set_cons_succ, List.set_cons_zero]
                  refine wpList_valn (v := .bool false) rfl (exec_mv rfl (ev rfl)) ?_
                  simp only [Act.put, List.setIfInBounds_toArray, List.set_cons_succ, List.set_cons_zero]
                  refine wpList_val (wanted_of rfl rfl rfl rfl) (exec_mv rfl (ev rfl)) ?_
                  simp only [Act.put, List.setIfInBounds_toArray, List.set_cons_succ, List.set_cons_zero]
                  refine wpList_val (v := .bool false) (wanted_of rfl rfl rfl rfl) (exec_eqInt false rfl (ev rfl) evk C2.out) ?_
                  simp only [Act.put, List.setIfInBounds_toArray, List.set_cons_succ, List.set_cons_zero]
                  refine wpList_skips 2 (v := .bool false) (wanted_of rfl rfl rfl rfl) (exec_mv rfl (ev rfl)) (by kernel_rfl) ?_
                  simp only [skipAct, List.take_succ_cons, List.take_zero, List.drop_succ_cons, List.drop_zero, Act.put, List.setIfInBounds_toArray, List.set_cons_succ, List.set_cons_zero]
                  refine wpList_val (v := .bool false) (wanted_of rfl rfl rfl rfl) (exec_pf rfl (ev rfl) evk) ?_
                  simp only [Act.put, List.setIfInBounds_toArray, List.set_cons_succ, List.set_cons_zero]
                  refine wpList_valn (v := .bool false) rfl (exec_pf rfl (ev rfl) (ev rfl)) ?_
                  simp only [Act.put, List.setIfInBounds_toArray, List.set_cons_succ, List.set_cons_zero]
                  refine wpList_valn (v := .bool false) rfl (exec_as rfl (ev rfl)) ?_
                  simp only [Act.put, List.setIfInBounds_toArray, List.set_cons_succ, List.set_cons_zero]
                  refine wpList_nil ?_
                  go_upto_region 19 with fail
                  refine wp_region_lit ?_
                  refine wpList_valn rfl (exec_faddr rfl (ev rfl) faR3) ?_
                  simp only [Act.put, List.setIfInBounds_toArray, List.set_cons_succ, List.set_cons_zero]
                  refine wpList_valn (v := .bool true) rfl (exec_ld rfl (ev rfl) (ldBo (HGO.out ▸ (HT22.out.ros (i := 0) rfl).cells.2.2.2.2))) ?_
                  simp only [Act.put, List.setIfInBounds_toArray, List.set_cons_succ, List.set_cons_zero]
                  refine wpList_valn (v := .bool true) rfl (exec_as rfl (ev rfl)) ?_
                  simp only [Act.put, List.setIfInBounds_toArray, List.set_cons_succ, List.set_cons_zero]
                  refine wpList_nil ?_
                  go_upto_region 20 with fail
                  refine wp_region_lit ?_
                  refine wpList_valn rfl (exec_as rfl evk) ?_
                  simp only [Act.put, List.setIfInBounds_toArray, List.set_cons_succ, List.set_cons_zero]
                  refine wpList_nil ?_
                  go_upto_region 25 with fail
                  refine wp_region_lit ?_
                  refine wpList_valn rfl (exec_ldR rfl (ev rfl) (HT22.out.ros (i := 0) rfl)) ?_
                  simp only [Act.put, List.setIfInBounds_toArray, List.set_cons_succ, List.set_cons_zero]
                  refine wpList_call rfl (exec_cl Try.call9 rfl (evc (ev rfl) evn)) ?_
                  refine (pmay_b w22 HF2.out).mono ?_
                  rintro e w23 ⟨rfl, hb⟩
                  have HT23 := Lib.hid (HT22.out.call hb)
                  clear hb HT22
                  refine ⟨_, rfl, ?_⟩
                  simp only [Act.put, List.setIfInBounds_toArray, List.set_cons_succ, List.set_cons_zero]
                  refine wpList_valn (v := .bool false) rfl (exec_not true rfl (ev rfl)) ?_
                  simp only [Act.put, List.setIfInBounds_toArray, List.set_cons_succ, List.set_cons_zero]
                  refine wpList_valn (v := .bool false) rfl (exec_mv rfl (ev rfl)) ?_
                  simp only [Act.put, List.setIfInBounds_toArray, List.set_cons_succ, List.set_cons_zero]
                  refine wpList_val (wanted_of rfl rfl rfl rfl) (exec_mv rfl (ev rfl)) ?_
                  simp only [Act.put, List.setIfInBounds_toArray, List.set_cons_succ, List.set_cons_zero]
                  refine wpList_val (v := .bool false) (wanted_of rfl rfl rfl rfl) (exec_gtr false rfl (ev rfl) evk HGR.out) ?_
                  simp only [Act.put, List.setIfInBounds_toArray, List.set_cons_succ, List.set_cons_zero]
                  refine wpList_valn (v := .bool false) rfl (exec_pf rfl (ev rfl) (ev rfl)) ?_
                  simp only [Act.put, List.setIfInBounds_toArray, List.set_cons_succ, List.set_cons_zero]
                  refine wpList_valn (v := .bool false) rfl (exec_mv rfl (ev rfl)) ?_
                  simp only [Act.put, List.setIfInBounds_toArray, List.set_cons_succ, List.set_cons_zero]
                  refine wpList_val (wanted_of rfl rfl rfl rfl) (exec_ldR rfl (ev rfl) (HT23.out.ros (i := 0) rfl)) ?_
                  simp only [Act.put, List.setIfInBounds_toArray, List.set_cons_succ, List.set_cons_zero]
                  refine wpList_call (wanted_of rfl rfl rfl rfl) (exec_cl Try.call13 rfl (evc (ev rfl) evn)) ?_
                  refine (pmiss_n w23 HMI.out).mono ?_
                  rintro e w24 ⟨rfl, hb⟩
                  have HT24 := Lib.hid (HT23.out.call hb)
                  clear hb HT23
                  refine ⟨_, rfl, ?_⟩
                  simp only [Act.put, List.setIfInBounds_toArray, List.set_cons_succ, List.set_cons_zero]
                  refine wpList_val (wanted_of rfl rfl rfl rfl) (exec_mv rfl (ev rfl)) ?_
                  simp only [Act.put, List.setIfInBounds_toArray, List.set_cons_succ, List.set_cons_zero]
                  refine wpList_val (v := .bool false) (wanted_of rfl rfl rfl rfl) (exec_neInt false rfl (ev rfl) (ev rfl) (bne_self_eq_false _)) ?_
                  simp only [Act.put, List.setIfInBounds_toArray, List.set_cons_succ, List.set_cons_zero]
                  refine wpList_valn (v := .bool false) rfl (exec_pf rfl (ev rfl) (ev rfl)) ?_
                  simp only [Act.put, List.setIfInBounds_toArray, List.set_cons_succ, List.set_cons_zero]
                  refine wpList_valn (v := .bool false) rfl (exec_mv rfl (ev rfl)) ?_
                  simp only [Act.put, List.setIfInBounds_toArray, List.set_cons_succ, List.set_cons_zero]
                  refine wpList_val (wanted_of rfl rfl rfl rfl) (exec_ldR rfl (ev rfl) (HT24.out.ros (i := 0) rfl)) ?_
                  simp only [Act.put, List.setIfInBounds_toArray, List.set_cons_succ, List.set_cons_zero]
                  refine wpList_call (wanted_of rfl rfl rfl rfl) (exec_cl Try.call15 rfl (evc (ev rfl) evn)) ?_
                  refine (pstate_n (n := 4) w24 HST.out).mono ?_
                  rintro e w25 ⟨rfl, hb⟩
                  have HT25 := Lib.hid (HT24.out.call hb)
                  clear hb HT24
                  refine ⟨_, rfl, ?_⟩
                  simp only [Act.put, List.setIfInBounds_toArray, List.set_cons_succ, List.set_cons_zero]
                  refine wpList_val (wanted_of rfl rfl rfl rfl) (exec_mv rfl (ev rfl)) ?_
                  simp only [Act.put, List.setIfInBounds_toArray, List.set_cons_succ, List.set_cons_zero]
                  refine wpList_val (v := .bool false) (wanted_of rfl rfl rfl rfl) (exec_neInt false rfl (ev rfl) (ev rfl) rfl) ?_
                  simp only [Act.put, List.setIfInBounds_toArray, List.set_cons_succ, List.set_cons_zero]
                  refine wpList_valn (v := .bool false) rfl (exec_pf rfl (ev rfl) (ev rfl)) ?_
                  simp only [Act.put, List.setIfInBounds_toArray, List.set_cons_succ, List.set_cons_zero]
                  refine wpList_nil ?_
                  go_upto_region 6 with fail
                  refine wp_region_lit ?_
                  refine wpList_valn rfl (exec_mv rfl (ev rfl)) ?_
                  simp only [Act.put, List.setIfInBounds_toArray, List.set_cons_succ, List.set_cons_zero]
                  refine wpList_valn rfl (exec_add rfl (ev rfl) evk HJ.out) ?_
                  simp only [Act.put, List.setIfInBounds_toArray, List.set_cons_succ, List.set_cons_zero]
                  refine wpList_valn rfl (exec_as rfl (ev rfl)) ?_
                  simp only [Act.put, List.setIfInBounds_toArray, List.set_cons_succ, List.set_cons_zero]
                  refine wpList_nil ?_
                  go_wp2_with fail
                  go_roundw
                  case rel => exact ⟨j + 1, q, by omega, rfl, HF2.out, HT25.out⟩
                  case measure => simp [intOf]; omega
      · have H80 : Hid (decide ((j : Int) < 80) = false) := Lib.hid (decide_eq_false (by omega))
        go_upto_region 5 with fail
        refine wp_region_lit ?_
        refine wpList_valn rfl (exec_mv rfl (ev rfl)) ?_
        simp only [Act.put, List.setIfInBounds_toArray, List.set_cons_succ, List.set_cons_zero]
        refine wpList_valn rfl (exec_mv rfl (ev rfl)) ?_
        simp only [Act.put, List.setIfInBounds_toArray, List.set_cons_succ, List.set_cons_zero]
        refine wpList_valn rfl (exec_len rfl (ev rfl)) ?_
        simp only [Act.put, List.setIfInBounds_toArray, List.set_cons_succ, List.set_cons_zero]
        refine wpList_valn (v := .bool true) rfl (exec_lss true rfl (ev rfl) (ev rfl) HLN.out) ?_
        simp only [Act.put, List.setIfInBounds_toArray, List.set_cons_succ, List.set_cons_zero]
        refine wpList_valn (v := .bool true) rfl (exec_mv rfl (ev rfl)) ?_
        simp only [Act.put, List.setIfInBounds_toArray, List.set_cons_succ, List.set_cons_zero]
        refine wpList_val (wanted_of rfl rfl rfl rfl) (exec_mv rfl (ev rfl)) ?_
        simp only [Act.put, List.setIfInBounds_toArray, List.set_cons_succ, List.set_cons_zero]
        refine wpList_val (v := .bool false) (wanted_of rfl rfl rfl rfl) (exec_lss false rfl (ev rfl) evk H80.out) ?_
        simp only [Act.put, List.setIfInBounds_toArray, List.set_cons_succ, List.set_cons_zero]
        refine wpList_valn (v := .bool false) rfl (exec_pt rfl (ev rfl) (ev rfl)) ?_
        simp only [Act.put, List.setIfInBounds_toArray, List.set_cons_succ, List.set_cons_zero]
        refine wpList_nil ?_
        go_upto_region 27 with fail
        refine wp_region_lit ?_
        refine wpList_call rfl (exec_cl Try.call27 rfl evn) ?_
        refine (plives w20).mono ?_
        rintro e w21 ⟨rfl, hb⟩
        have HT21 := Lib.hid (HT20.out.call hb)
        clear hb HT20
        refine ⟨_, rfl, ?_⟩
        simp only [Act.put, List.setIfInBounds_toArray, List.set_cons_succ, List.set_cons_zero]
        refine wpList_valn (v := .bool true) rfl (exec_as rfl (ev rfl)) ?_
        simp only [Act.put, List.setIfInBounds_toArray, List.set_cons_succ, List.set_cons_zero]
        refine wpList_nil ?_
        go_wp2_with fail
        go_ret
        exact ⟨rfl, HT21.out.bel⟩
    · have HLN : Hid (decide ((j : Int) < (n : Int)) = false) := Lib.hid (decide_eq_false (by omega))
      go_upto_region 5 with fail
      refine wp_region_lit ?_
      refine wpList_valn rfl (exec_mv rfl (ev rfl)) ?_
      simp only [Act.put, List.setIfInBounds_toArray, List.set_cons_succ, List.set_cons_zero]
      refine wpList_valn rfl (exec_mv rfl (ev rfl)) ?_
      simp only [Act.put, List.setIfInBounds_toArray, List.set_cons_succ, List.set_cons_zero]
      refine wpList_valn rfl (exec_len rfl (ev rfl)) ?_
      simp only [Act.put, List.setIfInBounds_toArray, List.set_cons_succ, List.set_cons_zero]
      refine wpList_valn (v := .bool false) rfl (exec_lss false rfl (ev rfl) (ev rfl) HLN.out) ?_
      simp only [Act.put, List.setIfInBounds_toArray, List.set_cons_succ, List.set_cons_zero]
      refine wpList_skips 2 (v := .bool false) rfl (exec_mv rfl (ev rfl)) (by kernel_rfl) ?_
      simp only [skipAct, List.take_succ_cons, List.take_zero, List.drop_succ_cons, List.drop_zero, Act.put, List.setIfInBounds_toArray, List.set_cons_succ, List.set_cons_zero]
      refine wpList_valn (v := .bool false) rfl (exec_pf rfl (ev rfl) evk) ?_
      simp only [Act.put, List.setIfInBounds_toArray, List.set_cons_succ, List.set_cons_zero]
      refine wpList_nil ?_
      go_upto_region 27 with fail
      refine wp_region_lit ?_
      refine wpList_call rfl (exec_cl Try.call27 rfl evn) ?_
      refine (plives w20).mono ?_
      rintro e w21 ⟨rfl, hb⟩
      have HT21 := Lib.hid (HT20.out.call hb)
      clear hb HT20
      refine ⟨_, rfl, ?_⟩
      simp only [Act.put, List.setIfInBounds_toArray, List.set_cons_succ, List.set_cons_zero]
      refine wpList_valn (v := .bool true) rfl (exec_as rfl (ev rfl)) ?_
      simp only [Act.put, List.setIfInBounds_toArray, List.set_cons_succ, List.set_cons_zero]
      refine wpList_nil ?_
      go_wp2_with fail
      go_ret
      exact ⟨rfl, HT21.out.bel⟩
end Go.Proofs.Ytnckcafemdcaeaa
