/-
  BenchArm's walk.
-/
import Derived.Test.YtpcdcnnnkblhiaaMJ
namespace Go.Proofs.Ytpcdcnnnkblhiaa
open Go.RowKit
set_option linter.unusedVariables false
set_option maxRecDepth 100000

theorem exec_ixW {ρ : Operand → Value} {o : Oper} {x y : Operand} {w : World} {b off n c j : Nat} (ho : o.op = .indexAddr 42 x y) (hx : ρ x = .slice (some ⟨b, off, none⟩) n c) (hy : ρ y = .int .i64 (j : Int)) (hj : j < n) : (execOp ρ o).run Try.prog w = .ok (.value (.pointer (some ⟨b, off + j * 65, none⟩))) w :=
  exec_indexE (E := WrE) ho hx hy hj
set_option maxHeartbeats 4000000 in
theorem arm6 (P : BenP) {a : Nat} {A : Option Addr} {n c : Nat} {l : List (Int × Blk)} {w : World} (ha : a < 256) (hl : RdE WrE w w.heap.size A n l) (hnc : n ≤ c) (hc : c ≤ maxLen) (hg : ∀ k, k < n → (Lit.int .i64 (l.getD k (0, zeroB)).1).wf = true) :
    Calls Try.prog 4 #[.int .u8 (a : Int), .slice A n c] w fun e w' => e = .returned (.bool true) ∧ Below w.heap.size w w' := by
  unfold maxLen at hc
  have HL := Lib.hid hl
  obtain ⟨m, hm⟩ : ∃ m : Nat, a % 64 = m := ⟨_, rfl⟩
  have hm64 : m < 64 := by omega
  have hme : (a : Int) % 64 = (m : Int) := by omega
  clear hl hg hm
  have he0 : arE6 sm0 (m : Int) = 0 := by unfold arE6; rw [if_neg (by decide), if_neg (by omega)]
  have HE0 := Lib.hid he0
  have HR0 := Lib.hid (show Room (arS6 sm0 (m : Int)) 100 from room_ar (room_new (by omega)) _ (by omega))
  clear he0
  go_enter Try.func4, Try.ntmps4
  go_wp2_with fail
  refine (small6 P w).mono ?_
  rintro e w1 ⟨p, rfl, h1⟩
  have H1 := Lib.hid h1
  clear h1
  go_wp2_with fail
  refine (At.arm (m : Int) H1.out).mono ?_
  rintro e w2 ⟨rfl, h2⟩
  rw [HE0.out]
  have H2 := Lib.hid h2
  clear h2 H1
  go_wp2_with fail
  go_loopw [6, 7] (fun tr i wr => ∃ (t : Nat) (M : BenS), t ≤ n ∧ t ≤ 60 ∧ tr = .int .i64 t ∧ i = .int .i64 t ∧ At P.toBen w w.heap.size wr p M ∧ Armed m t M ∧ Room M (100 - t)) (fun _ i _ => n - (intOf i).toNat)
  case atStart => exact ⟨0, _, Nat.zero_le _, by omega, rfl, rfl, H2.out, armed_zero, HR0.out⟩
  case round =>
    clear H2 HR0
    obtain ⟨j, M, hjn, hj6, rfl, rfl, hat, harm, hroom⟩ := hrel
    have HAT := Lib.hid hat
    have HARM := Lib.hid harm
    have HRO := Lib.hid hroom
    clear hat harm hroom
    by_cases hltt : j < n ∧ j < 60
    · obtain ⟨hlt, h60⟩ := hltt
      have h60' : (j : Int) < 60 := by omega
      have hln : (j : Int) < (n : Int) := by omega
      obtain ⟨bA, oA, hAe, hA, hra⟩ := (HL.out.below HAT.out.bel).2 j hlt
      have hra' : wr.rangeAt bA (oA + j * 65) (cel65 (l.getD j (0, zeroB))) := hra
      clear hra
      obtain ⟨q, hq⟩ : ∃ q, l.getD j (0, zeroB) = q := ⟨_, rfl⟩
      have HQE := Lib.hid hq
      rw [hq] at hra'
      clear hq
      subst hAe
      obtain ⟨k, hk3, hk⟩ := place_u q.1 3 (by omega)
      have HK := Lib.hid hk
      have hkw : IntKind.i64.wrap (k : Int) = (k : Int) := IntWalk.i64_in _ (by omega)
      obtain ⟨n8, hn8, hn8e⟩ := rem8 (byt q.2 1) (byt_lo _ _) 8 (by omega)
      have HN8 := Lib.hid hn8e
      have hn8w : IntKind.i64.wrap (n8 : Int) = (n8 : Int) := IntWalk.i64_in _ (by omega)
      obtain ⟨ce, cx, cb⟩ := pair_parts hra'
      have cb0 := cb 0 (by omega)
      rw [Nat.add_zero] at cb0
      have hz1 := byt_lo q.2 0
      have hz2 := byt_hi q.2 0
      obtain ⟨z0, hz0⟩ : ∃ z, byt q.2 0 = z := ⟨_, rfl⟩
      rw [hz0] at cb0 hz1 hz2
      have HRA := Lib.hid hra'
      have HR1 := Lib.hid (show Room M 1 from ⟨by have := HRO.out.1; omega, HRO.out.2.1, fun d hd => by have := HRO.out.2.2 d hd; omega⟩)
      have HK5 := Lib.hid (show Room M (99 - j + 1) from by have := HRO.out; rwa [show 100 - j = 99 - j + 1 from by omega] at this)
      have hfl := armed_flush HARM.out hm64 hk3
      have hwr := armed_write q.2 HARM.out hm64 hk3 hn8
      have HFL := Lib.hid hfl
      have HWR := Lib.hid hwr
      clear hra' hk hn8e cb hz0 hfl hwr cx
      by_cases h4 : z0 % 4 = 0
      · go_wp2_with (first | (refine wpList_val rfl (exec_ixW rfl rfl rfl hlt) ?_) | (refine wpList_val rfl (exec_cvU rfl rfl) ?_) | (refine wpList_val rfl (exec_remU rfl rfl rfl (by decide) HK.out) ?_) | (refine wpList_val rfl (exec_cvI rfl rfl hkw) ?_) | fail)
        refine (At.flush (k : Int) HR1.out HAT.out).mono ?_
        rintro e w5 ⟨rfl, h5⟩
        rw [HFL.out.1]
        have HAT5 := Lib.hid h5
        have HARM5 := Lib.hid HFL.out.2
        clear h5
        by_cases hm0 : 0 < m
        · by_cases hmc : m ≤ j + 1
          · rw [show errA m j = 8 from by unfold errA; rw [if_pos ⟨hm0, hmc⟩]]
            have e1 : (0 : Int) < (m : Int) := by omega
            have e2 : (m : Int) ≤ (j : Int) + 1 := by omega
            clear hm0 hmc
            go_wp2_with fail
            go_roundw
            case rel => exact ⟨j + 1, _, by omega, by omega, by go_num, by go_num, HAT5.out, HARM5.out, by rw [show 100 - (j + 1) = 99 - j from by omega]; exact room_fl HK5.out _⟩
            case measure => simp [intOf]; omega
          · rw [show errA m j = 0 from by unfold errA; rw [if_neg (by omega)]]
            have e1 : (0 : Int) < (m : Int) := by omega
            have e2 : ¬((m : Int) ≤ (j : Int) + 1) := by omega
            clear hm0 hmc
            go_wp2_with fail
            go_roundw
            case rel => exact ⟨j + 1, _, by omega, by omega, by go_num, by go_num, HAT5.out, HARM5.out, by rw [show 100 - (j + 1) = 99 - j from by omega]; exact room_fl HK5.out _⟩
            case measure => simp [intOf]; omega
        · rw [show errA m j = 0 from by unfold errA; rw [if_neg (by omega)]]
          have e1 : ¬((0 : Int) < (m : Int)) := by omega
          clear hm0
          go_wp2_with fail
          go_roundw
          case rel => exact ⟨j + 1, _, by omega, by omega, by go_num, by go_num, HAT5.out, HARM5.out, by rw [show 100 - (j + 1) = 99 - j from by omega]; exact room_fl HK5.out _⟩
          case measure => simp [intOf]; omega
      · go_wp2_with (first | (refine wpList_val rfl (exec_ixW rfl rfl rfl hlt) ?_) | (refine wpList_val rfl (exec_cvU rfl rfl) ?_) | (refine wpList_val rfl (exec_remU rfl rfl rfl (by decide) HK.out) ?_) | (refine wpList_val rfl (exec_cvI rfl rfl hkw) ?_) | fail)
        refine wp_region_last (fun w' => Hid (w'.rangeAt bA (oA + j * 65) (cel65 q))) 16 (by kernel_rfl) ?_
        change wpAnyZ _ _ _ _ _ _ 17 _ _ wr.drew
        have hS : Hid (wr.drew.rangeAt bA (oA + j * 65) (cel65 q)) := Lib.hid HRA.out
        refine last_val 0 rfl (by kernel_rfl) (by kernel_rfl) (by kernel_rfl) (by decide) (by kernel_rfl) rfl (fun w' hw => exec_mv rfl (ev rfl)) (fun _ _ _ h => h) hS ?_
        simp only [Act.put, List.setIfInBounds_toArray, List.set_cons_succ, List.set_cons_zero]
        refine last_val 1 rfl (by kernel_rfl) (by kernel_rfl) (by kernel_rfl) (by decide) (by kernel_rfl) rfl (fun w' hw => exec_mv rfl (ev rfl)) (fun _ _ _ h => h) hS ?_
        simp only [Act.put, List.setIfInBounds_toArray, List.set_cons_succ, List.set_cons_zero]
        refine last_val 2 rfl (by kernel_rfl) (by kernel_rfl) (by kernel_rfl) (by decide) (by kernel_rfl) rfl (fun w' hw => exec_mv rfl (ev rfl)) (fun _ _ _ h => h) hS ?_
        simp only [Act.put, List.setIfInBounds_toArray, List.set_cons_succ, List.set_cons_zero]
        refine last_val 3 rfl (by kernel_rfl) (by kernel_rfl) (by kernel_rfl) (by decide) (by kernel_rfl) rfl (fun w' hw => exec_mv rfl (ev rfl)) (fun _ _ _ h => h) hS ?_
        simp only [Act.put, List.setIfInBounds_toArray, List.set_cons_succ, List.set_cons_zero]
        refine last_val 4 rfl (by kernel_rfl) (by kernel_rfl) (by kernel_rfl) (by decide) (by kernel_rfl) rfl (fun w' hw => exec_ixW rfl (ev rfl) (ev rfl) hlt) (fun _ _ _ h => h) hS ?_
        simp only [Act.put, List.setIfInBounds_toArray, List.set_cons_succ, List.set_cons_zero]
        refine last_val 5 rfl (by kernel_rfl) (by kernel_rfl) (by kernel_rfl) (by decide) (by kernel_rfl) rfl (fun w' hw => exec_faddr rfl (ev rfl) faW1) (fun _ _ _ h => h) hS ?_
        simp only [Act.put, List.setIfInBounds_toArray, List.set_cons_succ, List.set_cons_zero]
        refine last_val 6 rfl (by kernel_rfl) (by kernel_rfl) (by kernel_rfl) (by decide) (by kernel_rfl) rfl (fun w' hw => exec_ix rfl (ev rfl) evk (run_ixB (i := 1) (by omega))) (fun _ _ _ h => h) hS ?_
        simp only [Act.put, List.setIfInBounds_toArray, List.set_cons_succ, List.set_cons_zero]
        refine last_val 7 rfl (by kernel_rfl) (by kernel_rfl) (by kernel_rfl) (by decide) (by kernel_rfl) rfl (fun w' hw => exec_ld rfl (ev rfl) (ldU ((pair_parts hw.out).2.2 1 (by omega)))) (fun _ _ _ h => h) hS ?_
        simp only [Act.put, List.setIfInBounds_toArray, List.set_cons_succ, List.set_cons_zero]
        refine last_val 8 rfl (by kernel_rfl) (by kernel_rfl) (by kernel_rfl) (by decide) (by kernel_rfl) rfl (fun w' hw => exec_rem8 rfl (ev rfl) evk (by decide) HN8.out) (fun _ _ _ h => h) hS ?_
        simp only [Act.put, List.setIfInBounds_toArray, List.set_cons_succ, List.set_cons_zero]
        refine last_val 9 rfl (by kernel_rfl) (by kernel_rfl) (by kernel_rfl) (by decide) (by kernel_rfl) rfl (fun w' hw => exec_cv8 rfl (ev rfl) hn8w) (fun _ _ _ h => h) hS ?_
        simp only [Act.put, List.setIfInBounds_toArray, List.set_cons_succ, List.set_cons_zero]
        refine last_val 10 rfl (by kernel_rfl) (by kernel_rfl) (by kernel_rfl) (by decide) (by kernel_rfl) rfl (fun w' hw => exec_mv rfl (ev rfl)) (fun _ _ _ h => h) hS ?_
        simp only [Act.put, List.setIfInBounds_toArray, List.set_cons_succ, List.set_cons_zero]
        refine last_val 11 rfl (by kernel_rfl) (by kernel_rfl) (by kernel_rfl) (by decide) (by kernel_rfl) rfl (fun w' hw => exec_mv rfl (ev rfl)) (fun _ _ _ h => h) hS ?_
        simp only [Act.put, List.setIfInBounds_toArray, List.set_cons_succ, List.set_cons_zero]
        refine last_val 12 rfl (by kernel_rfl) (by kernel_rfl) (by kernel_rfl) (by decide) (by kernel_rfl) rfl (fun w' hw => exec_ixW rfl (ev rfl) (ev rfl) hlt) (fun _ _ _ h => h) hS ?_
        simp only [Act.put, List.setIfInBounds_toArray, List.set_cons_succ, List.set_cons_zero]
        refine last_val 13 rfl (by kernel_rfl) (by kernel_rfl) (by kernel_rfl) (by decide) (by kernel_rfl) rfl (fun w' hw => exec_faddr rfl (ev rfl) faW1) (fun _ _ _ h => h) hS ?_
        simp only [Act.put, List.setIfInBounds_toArray, List.set_cons_succ, List.set_cons_zero]
        refine last_val 14 rfl (by kernel_rfl) (by kernel_rfl) (by kernel_rfl) (by decide) (by kernel_rfl) rfl (fun w' hw => exec_load rfl (ev rfl) (pair_parts hw.out).2.1) (fun _ _ _ h => h) hS ?_
        simp only [Act.put, List.setIfInBounds_toArray, List.set_cons_succ, List.set_cons_zero]
        refine last_call 15 rfl (by kernel_rfl) rfl (exec_cl Try.call19 rfl (evc (ev rfl) (evc (ev rfl) (evc (ev rfl) (evc (ev rfl) evn))))) ((At.write (k : Int) (n8 : Int) q.2 HR1.out (HAT.out.below (bd (Below.refl _ _)))).mono ?_)
        rintro e w5 ⟨rfl, h5⟩
        have hS5 : Hid (w5.rangeAt bA (oA + j * 65) (cel65 q)) := Lib.hid (by
          obtain ⟨b2, o2, e2, _, hr2⟩ := (HL.out.below h5.bel).2 j hlt
          injection e2 with e2
          injection e2 with e2 e3
          subst e2 e3
          rw [show l.getD j WrE.d = q from HQE.out] at hr2
          exact hr2)
        refine ⟨_, rfl, fun _ => hS5, ?_⟩
        simp only [Act.put, List.setIfInBounds_toArray, List.set_cons_succ, List.set_cons_zero]
        refine last_turn 16 rfl (by kernel_rfl) rfl (exec_as rfl (ev rfl)) (fun e => absurd rfl e) ?_
        simp only [Act.put, List.setIfInBounds_toArray, List.set_cons_succ, List.set_cons_zero]
        refine wpAnyZ_done (by kernel_rfl) ?_ _
        clear hS hS5
        rw [HWR.out.1]
        have HAT5 := Lib.hid h5
        have HARM5 := Lib.hid HWR.out.2
        clear h5
        by_cases hm0 : 0 < m
        · by_cases hmc : m ≤ j + 1
          · rw [show errA m j = 8 from by unfold errA; rw [if_pos ⟨hm0, hmc⟩]]
            have e1 : (0 : Int) < (m : Int) := by omega
            have e2 : (m : Int) ≤ (j : Int) + 1 := by omega
            clear hm0 hmc
            go_wp2_with fail
            go_roundw
            case rel => exact ⟨j + 1, _, by omega, by omega, by go_num, by go_num, HAT5.out, HARM5.out, by rw [show 100 - (j + 1) = 99 - j from by omega]; exact room_wr HK5.out _ _ _⟩
            case measure => simp [intOf]; omega
          · rw [show errA m j = 0 from by unfold errA; rw [if_neg (by omega)]]
            have e1 : (0 : Int) < (m : Int) := by omega
            have e2 : ¬((m : Int) ≤ (j : Int) + 1) := by omega
            clear hm0 hmc
            go_wp2_with fail
            go_roundw
            case rel => exact ⟨j + 1, _, by omega, by omega, by go_num, by go_num, HAT5.out, HARM5.out, by rw [show 100 - (j + 1) = 99 - j from by omega]; exact room_wr HK5.out _ _ _⟩
            case measure => simp [intOf]; omega
        · rw [show errA m j = 0 from by unfold errA; rw [if_neg (by omega)]]
          have e1 : ¬((0 : Int) < (m : Int)) := by omega
          clear hm0
          go_wp2_with fail
          go_roundw
          case rel => exact ⟨j + 1, _, by omega, by omega, by go_num, by go_num, HAT5.out, HARM5.out, by rw [show 100 - (j + 1) = 99 - j from by omega]; exact room_wr HK5.out _ _ _⟩
          case measure => simp [intOf]; omega
    · have hor : ¬((j : Int) < (n : Int)) ∨ ((j : Int) < (n : Int) ∧ ¬((j : Int) < 60)) := by omega
      clear hltt
      rcases hor with hln | ⟨hln, hl6⟩
      all_goals
        by_cases hlit : m = 0 ∨ j < m
        · obtain ⟨hdk, _, hst⟩ := HARM.out.lit hlit
          have HDK := Lib.hid hdk
          have HST := Lib.hid hst
          clear hdk hst
          rcases hlit with hm0 | hm0
          · have hmz : (m : Int) = 0 := by omega
            clear hm0
            go_wp2_with fail
            refine (At.dark HAT.out).mono ?_
            rintro e u1 ⟨rfl, hb⟩
            rw [HDK.out]
            have HA1 := Lib.hid (HAT.out.below hb)
            clear hb
            go_wp2_with fail
            refine (At.steps HA1.out).mono ?_
            rintro e u2 ⟨rfl, hb⟩
            rw [HST.out]
            have HB2 := Lib.hid (HA1.out.below hb).bel
            clear hb
            go_wp2_with fail
            refine (lives6 P u2).mono ?_
            rintro e u3 ⟨rfl, hb⟩
            have HB3 := Lib.hid (HB2.out.trans (hb.mono HB2.out.size))
            clear hb
            go_wp2_with fail
            go_ret
            exact ⟨rfl, HB3.out⟩
          · by_cases hmp : m = 0
            · omega
            · have h1 : (j : Int) < (m : Int) := by omega
              have h2 : ((m : Int) == 0) = false := by simpa using hmp
              have h3 : ¬((m : Int) = 0) := by omega
              clear hm0 hmp
              go_wp2_with fail
              refine (At.dark HAT.out).mono ?_
              rintro e u1 ⟨rfl, hb⟩
              rw [HDK.out]
              have HA1 := Lib.hid (HAT.out.below hb)
              clear hb
              go_wp2_with fail
              refine (At.steps HA1.out).mono ?_
              rintro e u2 ⟨rfl, hb⟩
              rw [HST.out]
              have HB2 := Lib.hid (HA1.out.below hb).bel
              clear hb
              go_wp2_with fail
              refine (lives6 P u2).mono ?_
              rintro e u3 ⟨rfl, hb⟩
              have HB3 := Lib.hid (HB2.out.trans (hb.mono HB2.out.size))
              clear hb
              go_wp2_with fail
              go_ret
              exact ⟨rfl, HB3.out⟩
        · obtain ⟨hdk, hst⟩ := HARM.out.cut hlit
          have HDK := Lib.hid hdk
          have HST := Lib.hid hst
          have hmp : 0 < m := by omega
          have hM1 : ((m - 1 : Nat) : Int) = (m : Int) - 1 := by omega
          have HM1 := Lib.hid hM1
          have hjm : ¬((j : Int) < (m : Int)) := by omega
          have h2 : ((m : Int) == 0) = false := by simpa using (by omega : ¬ m = 0)
          have h3 : ¬((m : Int) = 0) := by omega
          have HAE : Hid (arE6 M 0 = 8) := Lib.hid (by unfold arE6; rw [if_pos hdk])
          have HAS : Hid (arS6 M 0 = M) := Lib.hid (by unfold arS6; rw [if_neg (by rw [HAE.out]; decide)])
          have HIE : Hid (inE6 M 0 = 8) := Lib.hid (by unfold inE6; rw [if_neg (by rw [litE_dark hdk]; decide), litE_dark hdk])
          clear hdk hst hM1 hlit
          go_wp2_with fail
          refine (At.dark HAT.out).mono ?_
          rintro e u1 ⟨rfl, hb⟩
          rw [HDK.out]
          have HA1 := Lib.hid (HAT.out.below hb)
          clear hb
          go_wp2_with fail
          refine (At.steps HA1.out).mono ?_
          rintro e u2 ⟨rfl, hb⟩
          rw [HST.out, HM1.out]
          have HA2 := Lib.hid (HA1.out.below hb)
          clear hb
          go_wp2_with fail
          refine (At.arm 0 HA2.out).mono ?_
          rintro e u3 ⟨rfl, h3'⟩
          rw [HAE.out]
          rw [HAS.out] at h3'
          have HA3 := Lib.hid h3'
          clear h3'
          go_wp2_with fail
          refine (At.insert 0 HA3.out).mono ?_
          rintro e u4 ⟨rfl, h4'⟩
          rw [HIE.out]
          have HB4 := Lib.hid h4'.bel
          clear h4'
          go_wp2_with fail
          refine (lives6 P u4).mono ?_
          rintro e u5 ⟨rfl, hb⟩
          have HB5 := Lib.hid (HB4.out.trans (hb.mono HB4.out.size))
          clear hb
          go_wp2_with fail
          go_ret
          exact ⟨rfl, HB5.out⟩
end Go.Proofs.Ytpcdcnnnkblhiaa
