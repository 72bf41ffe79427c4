/-
  LruPinned: what is pinned does not go by itself.
-/
import Derived.Test.YtmnabdojlekjcaaLuI
import Derived.Test.YtmnabdojlekjcaaLuP
namespace Go.Proofs.Ytmnabdojlekjcaa
open Go.RowKit
set_option linter.unusedVariables false
set_option linter.unusedSimpArgs false
set_option maxRecDepth 100000

set_option maxHeartbeats 4000000 in
theorem wlruPinned (r : Nat) (hr256 : r < 256) (A : Option Addr) (n c : Nat) (l : List Int) (w : World) (hr : RdE IntE w w.heap.size A n l) (hn : n ≤ maxLen) (hwf : ∀ k, k < n → (Lit.int .i64 (l.getD k 0)).wf = true) :
    Calls Try.prog 5 #[.int .u8 (r : Int), .slice A n c] w fun e w' => e = .returned (.bool true) ∧ Below w.heap.size w w' := by
  unfold maxLen at hn
  obtain ⟨room, hroom⟩ : ∃ room, 1 + r % 64 = room := ⟨_, rfl⟩
  have HRD : Hid (∀ w', Below w.heap.size w w' → RdE IntE w' w.heap.size A n l) := Lib.hid fun w' hb => hr.below hb
  have HWF := Lib.hid hwf
  have HNM := Lib.hid hn
  have HRO : Hid (1 ≤ room ∧ room ≤ 64) := Lib.hid (by omega)
  have HCV : Hid (IntKind.i64.wrap (r : Int) = (r : Int)) := Lib.hid (IntWalk.i64_in _ ⟨by omega, by omega⟩)
  have HTM : Hid ((r : Int).tmod 64 = ((r % 64 : Nat) : Int)) := Lib.hid rfl
  have HAD : Hid (IntKind.i64.wrap (1 + ((r % 64 : Nat) : Int)) = (room : Int)) := Lib.hid (by rw [IntWalk.i64_in _ ⟨by omega, by omega⟩]; omega)
  have HSB : Hid (∀ i : Nat, i ≤ 64 → IntKind.i64.wrap (-1 - (i : Int)) = -1 - (i : Int)) := Lib.hid fun i hi => IntWalk.i64_in _ ⟨by omega, by omega⟩
  have HSW : Hid (∀ i : Nat, i ≤ 64 → (Lit.int .i64 (-1 - (i : Int))).wf = true) := Lib.hid fun i hi => wf_i (by omega)
  clear hr hn hwf hroom hr256
  go_enter Try.func5, Try.ntmps5
  go_upto_region 1 with fail
  refine wp_region_lit ?_
  refine wpList_valn rfl (exec_mv rfl (ev rfl)) ?_
  simp only [Act.put, List.setIfInBounds_toArray, List.set_cons_succ, List.set_cons_zero]
  refine wpList_valn rfl (exec_cv8 rfl (ev rfl) HCV.out) ?_
  simp only [Act.put, List.setIfInBounds_toArray, List.set_cons_succ, List.set_cons_zero]
  refine wpList_valn rfl (exec_remT rfl (ev rfl) evk (by decide) HTM.out) ?_
  simp only [Act.put, List.setIfInBounds_toArray, List.set_cons_succ, List.set_cons_zero]
  refine wpList_valn rfl (exec_add rfl evk (ev rfl) HAD.out) ?_
  simp only [Act.put, List.setIfInBounds_toArray, List.set_cons_succ, List.set_cons_zero]
  refine wpList_valn rfl (exec_as rfl (ev rfl)) ?_
  simp only [Act.put, List.setIfInBounds_toArray, List.set_cons_succ, List.set_cons_zero]
  refine wpList_nil ?_
  go_wp2_with fail
  refine (pl_new room w HRO.out.1 HRO.out.2).mono ?_
  rintro e w1 ⟨p, rfl, hp1, hb1⟩
  have HP1 := Lib.hid hp1
  have HB1 := Lib.hid hb1
  clear hp1 hb1
  go_wp2_with fail
  go_loopw [8] (fun i wr => ∃ (j : Nat) (L : List Ky), j ≤ room ∧ i = .int .i64 j ∧ PL wr w.heap.size p room L ∧ Hid (PinB j L) ∧ Below w.heap.size w wr) (fun i _ => room - (intOf i).toNat)
  case atStart => exact ⟨0, [], Nat.zero_le _, rfl, HP1.out, Lib.hid PinB.nil, HB1.out⟩
  case round =>
    obtain ⟨j, L, hj, rfl, hP, hK, hbl⟩ := hrel
    have HP := Lib.hid hP
    have HB := Lib.hid hbl
    clear hP hbl
    by_cases hlt : j < room
    · have HLS : Hid (decide ((j : Int) < (room : Int)) = true) := Lib.hid (decide_eq_true (by omega))
      have HT := Lib.hid (hK.out.tch hlt)
      have hj64 : j ≤ 64 := by have := HRO.out.2; omega
      have HJ64 := Lib.hid hj64
      have HJ := Lib.hid hlt
      clear hlt hj64
      go_upto_region 6 with fail
      refine wp_region_lit ?_
      refine wpList_valn rfl (exec_mv rfl (ev rfl)) ?_
      simp only [Act.put, List.setIfInBounds_toArray, List.set_cons_succ, List.set_cons_zero]
      refine wpList_valn rfl (exec_mv rfl (ev rfl)) ?_
      simp only [Act.put, List.setIfInBounds_toArray, List.set_cons_succ, List.set_cons_zero]
      refine wpList_valn (v := .bool true) rfl (exec_lss true rfl (ev rfl) (ev rfl) HLS.out) ?_
      simp only [Act.put, List.setIfInBounds_toArray, List.set_cons_succ, List.set_cons_zero]
      refine wpList_nil ?_
      go_upto_region 8 with fail
      refine wp_region_lit ?_
      refine wpList_valn rfl (exec_mv rfl (ev rfl)) ?_
      simp only [Act.put, List.setIfInBounds_toArray, List.set_cons_succ, List.set_cons_zero]
      refine wpList_valn rfl (exec_mv rfl (ev rfl)) ?_
      simp only [Act.put, List.setIfInBounds_toArray, List.set_cons_succ, List.set_cons_zero]
      refine wpList_valn rfl (exec_sub rfl evk (ev rfl) (HSB.out j HJ64.out)) ?_
      simp only [Act.put, List.setIfInBounds_toArray, List.set_cons_succ, List.set_cons_zero]
      refine wpList_call rfl (exec_cl Try.call16 rfl (evc (ev rfl) (evc (ev rfl) evn))) ?_
      refine (pl_touch wr HP.out (HSW.out j HJ64.out)).mono ?_
      rintro e w3 ⟨rfl, hp3, ht3⟩
      rw [HT.out.2.2] at hp3
      rw [HT.out.1, HT.out.2.1]
      have HP3 := Lib.hid hp3
      have HB3 := Lib.hid (Turn.below HB.out ht3 HB.out.size)
      clear hp3 ht3
      refine ⟨_, rfl, ?_⟩
      simp only [Act.put, List.setIfInBounds_toArray, List.set_cons_succ, List.set_cons_zero]
      refine wpList_valn rfl (exec_mv rfl (ev rfl)) ?_
      simp only [Act.put, List.setIfInBounds_toArray, List.set_cons_succ, List.set_cons_zero]
      refine wpList_valn rfl (exec_ext rfl (ev rfl) rfl) ?_
      simp only [Act.put, List.setIfInBounds_toArray, List.set_cons_succ, List.set_cons_zero]
      refine wpList_valn rfl (exec_ext rfl (ev rfl) rfl) ?_
      simp only [Act.put, List.setIfInBounds_toArray, List.set_cons_succ, List.set_cons_zero]
      refine wpList_valn rfl (exec_ext rfl (ev rfl) rfl) ?_
      simp only [Act.put, List.setIfInBounds_toArray, List.set_cons_succ, List.set_cons_zero]
      refine wpList_valn rfl (exec_as rfl (ev rfl)) ?_
      simp only [Act.put, List.setIfInBounds_toArray, List.set_cons_succ, List.set_cons_zero]
      refine wpList_valn rfl (exec_as rfl (ev rfl)) ?_
      simp only [Act.put, List.setIfInBounds_toArray, List.set_cons_succ, List.set_cons_zero]
      refine wpList_valn rfl (exec_as rfl (ev rfl)) ?_
      simp only [Act.put, List.setIfInBounds_toArray, List.set_cons_succ, List.set_cons_zero]
      refine wpList_nil ?_
      go_upto_region 9 with fail
      refine wp_region_lit ?_
      refine wpList_valn (v := .bool false) rfl (exec_mv rfl (ev rfl)) ?_
      simp only [Act.put, List.setIfInBounds_toArray, List.set_cons_succ, List.set_cons_zero]
      refine wpList_valn (v := .bool false) rfl (exec_mv rfl (ev rfl)) ?_
      simp only [Act.put, List.setIfInBounds_toArray, List.set_cons_succ, List.set_cons_zero]
      refine wpList_val (wanted_of rfl rfl rfl rfl) (exec_mv rfl (ev rfl)) ?_
      simp only [Act.put, List.setIfInBounds_toArray, List.set_cons_succ, List.set_cons_zero]
      refine wpList_val (v := .bool false) (wanted_of rfl rfl rfl rfl) (exec_neInt false rfl (ev rfl) evk rfl) ?_
      simp only [Act.put, List.setIfInBounds_toArray, List.set_cons_succ, List.set_cons_zero]
      refine wpList_valn (v := .bool false) rfl (exec_pf rfl (ev rfl) (ev rfl)) ?_
      simp only [Act.put, List.setIfInBounds_toArray, List.set_cons_succ, List.set_cons_zero]
      refine wpList_nil ?_
      by_cases h0 : 0 < j
      · have HG : Hid (decide ((0 : Int) < (j : Int)) = true) := Lib.hid (decide_eq_true (by omega))
        have HPF := Lib.hid (pin_first (k := -1 - (j : Int)) (L := L))
        have HPB := Lib.hid (hK.out.succ h0)
        clear h0
        go_upto_region 11 with fail
        refine wp_region_lit ?_
        refine wpList_valn rfl (exec_mv rfl (ev rfl)) ?_
        simp only [Act.put, List.setIfInBounds_toArray, List.set_cons_succ, List.set_cons_zero]
        refine wpList_valn (v := .bool true) rfl (exec_gtr true rfl (ev rfl) evk HG.out) ?_
        simp only [Act.put, List.setIfInBounds_toArray, List.set_cons_succ, List.set_cons_zero]
        refine wpList_valn (v := .bool true) rfl (exec_mv rfl (ev rfl)) ?_
        simp only [Act.put, List.setIfInBounds_toArray, List.set_cons_succ, List.set_cons_zero]
        refine wpList_val (wanted_of rfl rfl rfl rfl) (exec_mv rfl (ev rfl)) ?_
        simp only [Act.put, List.setIfInBounds_toArray, List.set_cons_succ, List.set_cons_zero]
        refine wpList_val (wanted_of rfl rfl rfl rfl) (exec_mv rfl (ev rfl)) ?_
        simp only [Act.put, List.setIfInBounds_toArray, List.set_cons_succ, List.set_cons_zero]
        refine wpList_val (wanted_of rfl rfl rfl rfl) (exec_sub rfl evk (ev rfl) (HSB.out j HJ64.out)) ?_
        simp only [Act.put, List.setIfInBounds_toArray, List.set_cons_succ, List.set_cons_zero]
        refine wpList_call (wanted_of rfl rfl rfl rfl) (exec_cl Try.call17 rfl (evc (ev rfl) (evc (ev rfl) (evc evk evn)))) ?_
        refine (pl_pin_v w3 HP3.out (HSW.out j HJ64.out) HPF.out.1 HPF.out.2).mono ?_
        rintro e w4 ⟨rfl, hp4, ht4⟩
        have HP4 := Lib.hid hp4
        have HB4 := Lib.hid (Turn.below HB3.out ht4 HB3.out.size)
        clear hp4 ht4
        refine ⟨_, rfl, ?_⟩
        simp only [Act.put, List.setIfInBounds_toArray, List.set_cons_succ, List.set_cons_zero]
        refine wpList_val (v := .bool false) (wanted_of rfl rfl rfl rfl) (exec_neInt false rfl (ev rfl) evk rfl) ?_
        simp only [Act.put, List.setIfInBounds_toArray, List.set_cons_succ, List.set_cons_zero]
        refine wpList_valn (v := .bool false) rfl (exec_pt rfl (ev rfl) (ev rfl)) ?_
        simp only [Act.put, List.setIfInBounds_toArray, List.set_cons_succ, List.set_cons_zero]
        refine wpList_nil ?_
        have hlt := HJ.out
        have h64 := HJ64.out
        go_wp2_with fail
        go_roundw
        case rel => exact ⟨j + 1, _, HJ.out, by go_num, HP4.out, HPB, HB4.out⟩
        case measure => have := HJ.out; simp [intOf]; omega
      · have HG : Hid (decide ((0 : Int) < (j : Int)) = false) := Lib.hid (decide_eq_false (by omega))
        have hj0 : j = 0 := by omega
        have HPB : Hid (PinB (j + 1) (⟨-1 - (j : Int), false⟩ :: L)) := Lib.hid (by subst hj0; exact hK.out.zero)
        have HP4 := HP3
        have HB4 := HB3
        clear h0 hj0
        go_upto_region 11 with fail
        refine wp_region_lit ?_
        refine wpList_valn rfl (exec_mv rfl (ev rfl)) ?_
        simp only [Act.put, List.setIfInBounds_toArray, List.set_cons_succ, List.set_cons_zero]
        refine wpList_valn (v := .bool false) rfl (exec_gtr false rfl (ev rfl) evk HG.out) ?_
        simp only [Act.put, List.setIfInBounds_toArray, List.set_cons_succ, List.set_cons_zero]
        refine wpList_skips 5 (v := .bool false) rfl (exec_mv rfl (ev rfl)) (by kernel_rfl) ?_
        simp only [skipAct, List.take_succ_cons, List.take_zero, List.drop_succ_cons, List.drop_zero, Act.put, List.setIfInBounds_toArray, List.set_cons_succ, List.set_cons_zero]
        refine wpList_valn (v := .bool false) rfl (exec_pf rfl (ev rfl) evk) ?_
        simp only [Act.put, List.setIfInBounds_toArray, List.set_cons_succ, List.set_cons_zero]
        refine wpList_nil ?_
        have hlt := HJ.out
        have h64 := HJ64.out
        go_wp2_with fail
        go_roundw
        case rel => exact ⟨j + 1, _, HJ.out, by go_num, HP4.out, HPB, HB4.out⟩
        case measure => have := HJ.out; simp [intOf]; omega
    · have HLS : Hid (decide ((j : Int) < (room : Int)) = false) := Lib.hid (decide_eq_false (by omega))
      have hjr : j = room := by omega
      have HPI : Hid (PinI room L) := Lib.hid (by have := hK.out; rw [hjr] at this; exact this.pinI HRO.out.1)
      clear hlt hjr hK
      obtain ⟨wA, rfl⟩ : ∃ x, x = wr := ⟨_, rfl⟩
      go_upto_region 6 with fail
      refine wp_region_lit ?_
      refine wpList_valn rfl (exec_mv rfl (ev rfl)) ?_
      simp only [Act.put, List.setIfInBounds_toArray, List.set_cons_succ, List.set_cons_zero]
      refine wpList_valn rfl (exec_mv rfl (ev rfl)) ?_
      simp only [Act.put, List.setIfInBounds_toArray, List.set_cons_succ, List.set_cons_zero]
      refine wpList_valn (v := .bool false) rfl (exec_lss false rfl (ev rfl) (ev rfl) HLS.out) ?_
      simp only [Act.put, List.setIfInBounds_toArray, List.set_cons_succ, List.set_cons_zero]
      refine wpList_nil ?_
      go_wp2_with fail
      go_loopw [12] (fun i wr => ∃ (j : Nat) (L : List Ky), j ≤ n ∧ i = .int .i64 j ∧ PL wr w.heap.size p room L ∧ Hid (PinI room L) ∧ Below w.heap.size w wr) (fun i _ => n - (intOf i).toNat)
      case atStart => exact ⟨0, L, Nat.zero_le _, rfl, HP.out, HPI, HB.out⟩
      case round =>
        clear HPI HP HB HP1 HB1
        obtain ⟨j, L, hj, rfl, hP, hK, hbl⟩ := hrel
        have HP := Lib.hid hP
        have HB := Lib.hid hbl
        clear hP hbl
        by_cases hlt : j < n ∧ j < 100
        · obtain ⟨hlt, h100⟩ := hlt
          have HL1 : Hid (decide ((j : Int) < (n : Int)) = true) := Lib.hid (decide_eq_true (by omega))
          have HL2 : Hid (decide ((j : Int) < (100 : Int)) = true) := Lib.hid (decide_eq_true (by omega))
          obtain ⟨b, off, hA, _, hc⟩ := (HRD.out wr HB.out).int1' hlt
          have HE := Lib.hid (hK.out.tch (k := l.getD j 0))
          have HA := Lib.hid hA
          have HC := Lib.hid hc
          have HJ := Lib.hid hlt
          clear hA hc hlt h100
          go_upto_region 14 with fail
          refine wp_region_lit ?_
          refine wpList_valn rfl (exec_mv rfl (ev rfl)) ?_
          simp only [Act.put, List.setIfInBounds_toArray, List.set_cons_succ, List.set_cons_zero]
          refine wpList_valn rfl (exec_mv rfl (ev rfl)) ?_
          simp only [Act.put, List.setIfInBounds_toArray, List.set_cons_succ, List.set_cons_zero]
          refine wpList_valn rfl (exec_lenE IntE rfl (ev rfl)) ?_
          simp only [Act.put, List.setIfInBounds_toArray, List.set_cons_succ, List.set_cons_zero]
          refine wpList_valn (v := .bool true) rfl (exec_lss true rfl (ev rfl) (ev rfl) HL1.out) ?_
          simp only [Act.put, List.setIfInBounds_toArray, List.set_cons_succ, List.set_cons_zero]
          refine wpList_valn (v := .bool true) rfl (exec_mv rfl (ev rfl)) ?_
          simp only [Act.put, List.setIfInBounds_toArray, List.set_cons_succ, List.set_cons_zero]
          refine wpList_val (wanted_of rfl rfl rfl rfl) (exec_mv rfl (ev rfl)) ?_
          simp only [Act.put, List.setIfInBounds_toArray, List.set_cons_succ, List.set_cons_zero]
          refine wpList_val (v := .bool true) (wanted_of rfl rfl rfl rfl) (exec_lss true rfl (ev rfl) evk HL2.out) ?_
          simp only [Act.put, List.setIfInBounds_toArray, List.set_cons_succ, List.set_cons_zero]
          refine wpList_valn (v := .bool true) rfl (exec_pt rfl (ev rfl) (ev rfl)) ?_
          simp only [Act.put, List.setIfInBounds_toArray, List.set_cons_succ, List.set_cons_zero]
          refine wpList_nil ?_
          go_upto_region 16 with fail
          refine wp_region_lit ?_
          refine wpList_valn rfl (exec_mv rfl (ev rfl)) ?_
          simp only [Act.put, List.setIfInBounds_toArray, List.set_cons_succ, List.set_cons_zero]
          refine wpList_valn rfl (exec_mv rfl (ev rfl)) ?_
          simp only [Act.put, List.setIfInBounds_toArray, List.set_cons_succ, List.set_cons_zero]
          refine wpList_valn rfl (exec_mv rfl (ev rfl)) ?_
          simp only [Act.put, List.setIfInBounds_toArray, List.set_cons_succ, List.set_cons_zero]
          refine wpList_valn rfl (exec_indexE (E := IntE) (b := b) (off := off) (j := j) rfl ((ev rfl).trans (by rw [HA.out])) (ev rfl) HJ.out) ?_
          simp only [Act.put, List.setIfInBounds_toArray, List.set_cons_succ, List.set_cons_zero]
          refine wpList_valn rfl (exec_ld rfl (ev rfl) (ldInt HC.out)) ?_
          simp only [Act.put, List.setIfInBounds_toArray, List.set_cons_succ, List.set_cons_zero]
          refine wpList_call rfl (exec_cl Try.call16 rfl (evc (ev rfl) (evc (ev rfl) evn))) ?_
          refine (pl_touch_u wr HP.out (HWF.out j HJ.out) HE.out.2).mono ?_
          rintro e w3 ⟨g3, t3, rfl, hp3, ht3⟩
          have HP3 := Lib.hid hp3
          have HB3 := Lib.hid (Turn.below HB.out ht3 HB.out.size)
          have HK3 := Lib.hid HE.out.1
          clear hp3 ht3
          refine ⟨_, rfl, ?_⟩
          simp only [Act.put, List.setIfInBounds_toArray, List.set_cons_succ, List.set_cons_zero]
          refine wpList_valn rfl (exec_mv rfl (ev rfl)) ?_
          simp only [Act.put, List.setIfInBounds_toArray, List.set_cons_succ, List.set_cons_zero]
          refine wpList_valn rfl (exec_ext rfl (ev rfl) rfl) ?_
          simp only [Act.put, List.setIfInBounds_toArray, List.set_cons_succ, List.set_cons_zero]
          refine wpList_valn rfl (exec_ext rfl (ev rfl) rfl) ?_
          simp only [Act.put, List.setIfInBounds_toArray, List.set_cons_succ, List.set_cons_zero]
          refine wpList_valn rfl (exec_ext rfl (ev rfl) rfl) ?_
          simp only [Act.put, List.setIfInBounds_toArray, List.set_cons_succ, List.set_cons_zero]
          refine wpList_valn rfl (exec_as rfl (ev rfl)) ?_
          simp only [Act.put, List.setIfInBounds_toArray, List.set_cons_succ, List.set_cons_zero]
          refine wpList_valn rfl (exec_as rfl (ev rfl)) ?_
          simp only [Act.put, List.setIfInBounds_toArray, List.set_cons_succ, List.set_cons_zero]
          refine wpList_valn rfl (exec_as rfl (ev rfl)) ?_
          simp only [Act.put, List.setIfInBounds_toArray, List.set_cons_succ, List.set_cons_zero]
          refine wpList_nil ?_
          obtain ⟨L3, hL3⟩ : ∃ L3, tchS room (l.getD j 0) L = L3 := ⟨_, rfl⟩
          rw [hL3] at HP3 HK3
          clear hL3 HE HA HC HP HB hK
          go_wp2_with fail
          go_loopw [16] (fun i wr => ∃ k : Nat, 1 ≤ k ∧ k ≤ room ∧ i = .int .i64 k ∧ wr = w3) (fun i _ => room - (intOf i).toNat)
          case atStart => exact ⟨1, Nat.le_refl _, HRO.out.1, rfl, rfl⟩
          case round =>
            obtain ⟨k, hk1, hk2, rfl, rfl⟩ := hrel
            by_cases hlt : k < room
            · have HLS : Hid (decide ((k : Int) < (room : Int)) = true) := Lib.hid (decide_eq_true (by omega))
              have HH := Lib.hid (HK3.out.has HP3.out.ok.one hk1 hlt)
              have HK64 : Hid (k ≤ 64) := Lib.hid (by have := HRO.out.2; omega)
              have HKR := Lib.hid hlt
              clear hlt hk1
              go_upto_region 20 with fail
              refine wp_region_lit ?_
              refine wpList_valn rfl (exec_mv rfl (ev rfl)) ?_
              simp only [Act.put, List.setIfInBounds_toArray, List.set_cons_succ, List.set_cons_zero]
              refine wpList_valn rfl (exec_mv rfl (ev rfl)) ?_
              simp only [Act.put, List.setIfInBounds_toArray, List.set_cons_succ, List.set_cons_zero]
              refine wpList_valn (v := .bool true) rfl (exec_lss true rfl (ev rfl) (ev rfl) HLS.out) ?_
              simp only [Act.put, List.setIfInBounds_toArray, List.set_cons_succ, List.set_cons_zero]
              refine wpList_nil ?_
              go_upto_region 22 with fail
              refine wp_region_lit ?_
              refine wpList_valn rfl (exec_mv rfl (ev rfl)) ?_
              simp only [Act.put, List.setIfInBounds_toArray, List.set_cons_succ, List.set_cons_zero]
              refine wpList_valn rfl (exec_mv rfl (ev rfl)) ?_
              simp only [Act.put, List.setIfInBounds_toArray, List.set_cons_succ, List.set_cons_zero]
              refine wpList_valn rfl (exec_sub rfl evk (ev rfl) (HSB.out k HK64.out)) ?_
              simp only [Act.put, List.setIfInBounds_toArray, List.set_cons_succ, List.set_cons_zero]
              refine wpList_call rfl (exec_cl Try.call18 rfl (evc (ev rfl) (evc (ev rfl) evn))) ?_
              refine (pl_has_v wr HP3.out (HSW.out k HK64.out) HH.out.1).mono ?_
              rintro e w4 ⟨rfl, rfl⟩
              refine ⟨_, rfl, ?_⟩
              simp only [Act.put, List.setIfInBounds_toArray, List.set_cons_succ, List.set_cons_zero]
              refine wpList_valn (v := .bool false) rfl (exec_not true rfl (ev rfl)) ?_
              simp only [Act.put, List.setIfInBounds_toArray, List.set_cons_succ, List.set_cons_zero]
              refine wpList_valn (v := .bool false) rfl (exec_mv rfl (ev rfl)) ?_
              simp only [Act.put, List.setIfInBounds_toArray, List.set_cons_succ, List.set_cons_zero]
              refine wpList_val (wanted_of rfl rfl rfl rfl) (exec_mv rfl (ev rfl)) ?_
              simp only [Act.put, List.setIfInBounds_toArray, List.set_cons_succ, List.set_cons_zero]
              refine wpList_val (wanted_of rfl rfl rfl rfl) (exec_mv rfl (ev rfl)) ?_
              simp only [Act.put, List.setIfInBounds_toArray, List.set_cons_succ, List.set_cons_zero]
              refine wpList_val (wanted_of rfl rfl rfl rfl) (exec_sub rfl evk (ev rfl) (HSB.out k HK64.out)) ?_
              simp only [Act.put, List.setIfInBounds_toArray, List.set_cons_succ, List.set_cons_zero]
              refine wpList_call (wanted_of rfl rfl rfl rfl) (exec_cl Try.call19 rfl (evc (ev rfl) (evc (ev rfl) evn))) ?_
              refine (pl_pinned_v wr HP3.out (HSW.out k HK64.out) HH.out.2).mono ?_
              rintro e w4 ⟨rfl, rfl⟩
              refine ⟨_, rfl, ?_⟩
              simp only [Act.put, List.setIfInBounds_toArray, List.set_cons_succ, List.set_cons_zero]
              refine wpList_val (v := .bool false) (wanted_of rfl rfl rfl rfl) (exec_not true rfl (ev rfl)) ?_
              simp only [Act.put, List.setIfInBounds_toArray, List.set_cons_succ, List.set_cons_zero]
              refine wpList_valn (v := .bool false) rfl (exec_pf rfl (ev rfl) (ev rfl)) ?_
              simp only [Act.put, List.setIfInBounds_toArray, List.set_cons_succ, List.set_cons_zero]
              refine wpList_nil ?_
              have hlt := HKR.out
              have h64 := HK64.out
              go_wp2_with fail
              go_roundw
              case rel => exact ⟨k + 1, by omega, HKR.out, by go_num, by first | trivial | rfl⟩
              case measure => have := HKR.out; simp [intOf]; omega
            · have HLS : Hid (decide ((k : Int) < (room : Int)) = false) := Lib.hid (decide_eq_false (by omega))
              clear hlt
              go_upto_region 20 with fail
              refine wp_region_lit ?_
              refine wpList_valn rfl (exec_mv rfl (ev rfl)) ?_
              simp only [Act.put, List.setIfInBounds_toArray, List.set_cons_succ, List.set_cons_zero]
              refine wpList_valn rfl (exec_mv rfl (ev rfl)) ?_
              simp only [Act.put, List.setIfInBounds_toArray, List.set_cons_succ, List.set_cons_zero]
              refine wpList_valn (v := .bool false) rfl (exec_lss false rfl (ev rfl) (ev rfl) HLS.out) ?_
              simp only [Act.put, List.setIfInBounds_toArray, List.set_cons_succ, List.set_cons_zero]
              refine wpList_nil ?_
              have hlt := HJ.out
              have hn := HNM.out
              go_wp2_with fail
              go_roundw
              case rel => exact ⟨j + 1, L3, HJ.out, by go_num, HP3.out, HK3, HB3.out⟩
              case measure => have := HJ.out; simp [intOf]; omega
        · have HEX : Hid (¬ (j < n ∧ j < 100)) := Lib.hid hlt
          have HOK := Lib.hid HP.out.ok
          have HKL : Hid ((keyL L).length = room) := Lib.hid (by unfold keyL; rw [List.length_map]; exact hK.out.len)
          clear hlt hj hK
          by_cases hjn : j < n
          · have HL1 : Hid (decide ((j : Int) < (n : Int)) = true) := Lib.hid (decide_eq_true (by omega))
            have HL2 : Hid (decide ((j : Int) < (100 : Int)) = false) := Lib.hid (decide_eq_false (by have := HEX.out; omega))
            clear hjn
            go_upto_region 14 with fail
            refine wp_region_lit ?_
            refine wpList_valn rfl (exec_mv rfl (ev rfl)) ?_
            simp only [Act.put, List.setIfInBounds_toArray, List.set_cons_succ, List.set_cons_zero]
            refine wpList_valn rfl (exec_mv rfl (ev rfl)) ?_
            simp only [Act.put, List.setIfInBounds_toArray, List.set_cons_succ, List.set_cons_zero]
            refine wpList_valn rfl (exec_lenE IntE rfl (ev rfl)) ?_
            simp only [Act.put, List.setIfInBounds_toArray, List.set_cons_succ, List.set_cons_zero]
            refine wpList_valn (v := .bool true) rfl (exec_lss true rfl (ev rfl) (ev rfl) HL1.out) ?_
            simp only [Act.put, List.setIfInBounds_toArray, List.set_cons_succ, List.set_cons_zero]
            refine wpList_valn (v := .bool true) rfl (exec_mv rfl (ev rfl)) ?_
            simp only [Act.put, List.setIfInBounds_toArray, List.set_cons_succ, List.set_cons_zero]
            refine wpList_val (wanted_of rfl rfl rfl rfl) (exec_mv rfl (ev rfl)) ?_
            simp only [Act.put, List.setIfInBounds_toArray, List.set_cons_succ, List.set_cons_zero]
            refine wpList_val (v := .bool false) (wanted_of rfl rfl rfl rfl) (exec_lss false rfl (ev rfl) evk HL2.out) ?_
            simp only [Act.put, List.setIfInBounds_toArray, List.set_cons_succ, List.set_cons_zero]
            refine wpList_valn (v := .bool false) rfl (exec_pt rfl (ev rfl) (ev rfl)) ?_
            simp only [Act.put, List.setIfInBounds_toArray, List.set_cons_succ, List.set_cons_zero]
            refine wpList_nil ?_
            go_wp2_with fail
            refine (pl_keys wr HP.out).mono ?_
            rintro e w5 ⟨v5, rfl, hm5, hb5⟩
            have HM5 := Lib.hid (hm5.base HB.out.size)
            obtain ⟨A5, c5, hv5, hc51, hc52⟩ := hm5.form
            rw [HKL.out] at hv5
            subst hv5
            have HP5 := Lib.hid (HP.out.below hb5)
            have HB5 := Lib.hid (HB.out.trans (hb5.mono HB.out.size))
            obtain ⟨K5, hK5⟩ : ∃ K5, keyL L = K5 := ⟨_, rfl⟩
            have HKK := Lib.hid hK5
            rw [hK5] at HM5
            have HKR : Hid (K5.length = room) := Lib.hid (by rw [← hK5]; exact HKL.out)
            have HKW : Hid (∀ i, i < room → (Lit.int .i64 (K5.getD i 0)).wf = true) := Lib.hid fun i hi => by
              have hm : K5.getD i 0 ∈ keyL L := by rw [hK5]; exact getD_mem (by have := HKR.out; omega)
              unfold keyL at hm
              obtain ⟨x, hx, e⟩ := List.mem_map.1 hm
              rw [← e]; exact HOK.out.wf x hx
            clear hm5 hb5 hc51 hc52 hK5
            go_wp2_with fail
            go_loopw [18] (fun i wz => ∃ (j : Nat) (Lz : List Ky), j ≤ room ∧ i = .int .i64 j ∧ PL wz w.heap.size p room Lz ∧ Hid (PinA j K5 Lz) ∧ MadeE IntE wz w.heap.size (.slice A5 room c5) K5 ∧ Below w.heap.size w wz) (fun i _ => room - (intOf i).toNat)
            case atStart => exact ⟨0, L, Nat.zero_le _, rfl, HP5.out, Lib.hid ⟨HKK.out, fun j hj => by omega⟩, HM5.out, HB5.out⟩
            case round =>
              obtain ⟨i, Lz, hi, rfl, hPz, hKz, hMz, hbz⟩ := hrel
              have HPZ := Lib.hid hPz
              have HMZ := Lib.hid hMz
              have HBZ := Lib.hid hbz
              clear hPz hMz hbz HP5 HM5 HB5
              have hrd : RdE IntE wr wr.heap.size A5 room K5 := by have := HMZ.out.rd; exact this
              have HRZ := Lib.hid hrd
              clear hrd
              by_cases hlt : i < room
              · have HLS : Hid (decide ((i : Int) < (room : Int)) = true) := Lib.hid (decide_eq_true (by omega))
                obtain ⟨b, off, hA, _, hc⟩ := HRZ.out.int1' hlt
                have HST := Lib.hid (hKz.out.step HPZ.out.ok.one (by have := HKR.out; omega))
                have HA := Lib.hid hA
                have HC := Lib.hid hc
                have HJ := Lib.hid hlt
                clear hA hc hlt
                go_upto_region 26 with fail
                refine wp_region_lit ?_
                refine wpList_valn rfl (exec_mv rfl (ev rfl)) ?_
                simp only [Act.put, List.setIfInBounds_toArray, List.set_cons_succ, List.set_cons_zero]
                refine wpList_valn rfl (exec_mv rfl (ev rfl)) ?_
                simp only [Act.put, List.setIfInBounds_toArray, List.set_cons_succ, List.set_cons_zero]
                refine wpList_valn rfl (exec_lenE IntE rfl (ev rfl)) ?_
                simp only [Act.put, List.setIfInBounds_toArray, List.set_cons_succ, List.set_cons_zero]
                refine wpList_valn (v := .bool true) rfl (exec_lss true rfl (ev rfl) (ev rfl) HLS.out) ?_
                simp only [Act.put, List.setIfInBounds_toArray, List.set_cons_succ, List.set_cons_zero]
                refine wpList_nil ?_
                go_upto_region 28 with fail
                refine wp_region_lit ?_
                refine wpList_valn rfl (exec_mv rfl (ev rfl)) ?_
                simp only [Act.put, List.setIfInBounds_toArray, List.set_cons_succ, List.set_cons_zero]
                refine wpList_valn rfl (exec_mv rfl (ev rfl)) ?_
                simp only [Act.put, List.setIfInBounds_toArray, List.set_cons_succ, List.set_cons_zero]
                refine wpList_valn rfl (exec_mv rfl (ev rfl)) ?_
                simp only [Act.put, List.setIfInBounds_toArray, List.set_cons_succ, List.set_cons_zero]
                refine wpList_valn rfl (exec_indexE (E := IntE) (b := b) (off := off) (j := i) rfl ((ev rfl).trans (by rw [HA.out])) (ev rfl) HJ.out) ?_
                simp only [Act.put, List.setIfInBounds_toArray, List.set_cons_succ, List.set_cons_zero]
                refine wpList_valn rfl (exec_ld rfl (ev rfl) (ldInt HC.out)) ?_
                simp only [Act.put, List.setIfInBounds_toArray, List.set_cons_succ, List.set_cons_zero]
                refine wpList_call rfl (exec_cl Try.call17 rfl (evc (ev rfl) (evc (ev rfl) (evc evk evn)))) ?_
                refine (pl_pin_v wr HPZ.out (HKW.out i HJ.out) HST.out.1 rfl).mono ?_
                rintro e w6 ⟨rfl, hp6, ht6⟩
                have HP6 := Lib.hid hp6
                have HM6 := Lib.hid (made_turnP HMZ.out ht6)
                have HB6 := Lib.hid (Turn.below HBZ.out ht6 HBZ.out.size)
                clear hp6 ht6
                refine ⟨_, rfl, ?_⟩
                simp only [Act.put, List.setIfInBounds_toArray, List.set_cons_succ, List.set_cons_zero]
                refine wpList_valn (v := .bool false) rfl (exec_neInt false rfl (ev rfl) evk rfl) ?_
                simp only [Act.put, List.setIfInBounds_toArray, List.set_cons_succ, List.set_cons_zero]
                refine wpList_nil ?_
                have hlt := HJ.out
                have h64 := HRO.out.2
                go_wp2_with fail
                go_roundw
                case rel => exact ⟨i + 1, _, HJ.out, by go_num, HP6.out, Lib.hid HST.out.2, HM6.out, HB6.out⟩
                case measure => have := HJ.out; simp [intOf]; omega
              · have HLS : Hid (decide ((i : Int) < (room : Int)) = false) := Lib.hid (decide_eq_false (by omega))
                have hie : i = K5.length := by have := HKR.out; omega
                have HLU : Hid (lu Lz = 0) := Lib.hid (by have := hKz.out; rw [hie] at this; exact this.full)
                have HKZ : Hid (keyL Lz = K5) := Lib.hid hKz.out.key
                have HLZ : Hid (Lz.length = room) := Lib.hid (by have := HKR.out; rw [← HKZ.out] at this; unfold keyL at this; rwa [List.length_map] at this)
                have HEQ : Hid (((room : Int) == (room : Int)) = true) := Lib.hid (by simp)
                have hwt : (Lit.int .i64 1099511627776).wf = true := wf_i (by omega)
                have HWT := Lib.hid hwt
                clear hlt hie hKz hwt
                go_upto_region 26 with fail
                refine wp_region_lit ?_
                refine wpList_valn rfl (exec_mv rfl (ev rfl)) ?_
                simp only [Act.put, List.setIfInBounds_toArray, List.set_cons_succ, List.set_cons_zero]
                refine wpList_valn rfl (exec_mv rfl (ev rfl)) ?_
                simp only [Act.put, List.setIfInBounds_toArray, List.set_cons_succ, List.set_cons_zero]
                refine wpList_valn rfl (exec_lenE IntE rfl (ev rfl)) ?_
                simp only [Act.put, List.setIfInBounds_toArray, List.set_cons_succ, List.set_cons_zero]
                refine wpList_valn (v := .bool false) rfl (exec_lss false rfl (ev rfl) (ev rfl) HLS.out) ?_
                simp only [Act.put, List.setIfInBounds_toArray, List.set_cons_succ, List.set_cons_zero]
                refine wpList_nil ?_
                by_cases hp : plc 1099511627776 Lz < Lz.length
                · have HV : Hid (tchG room 1099511627776 Lz = 0 ∧ tchW room 1099511627776 Lz = false ∧ tchE room 1099511627776 Lz = 0 ∧ tchS room 1099511627776 Lz = Lz.getD (plc 1099511627776 Lz) ky0 :: wo Lz (plc 1099511627776 Lz)) := Lib.hid (by
                    unfold tchG tchW tchE tchS
                    rw [if_pos hp, if_pos hp, if_pos hp, if_pos hp]
                    exact ⟨rfl, rfl, rfl, rfl⟩)
                  have HHT : Hid (hasK 1099511627776 (Lz.getD (plc 1099511627776 Lz) ky0 :: wo Lz (plc 1099511627776 Lz)) = true) := Lib.hid (by
                    unfold hasK
                    have e : (Lz.getD (plc 1099511627776 Lz) ky0).n = 1099511627776 := plc_at hp
                    rw [show plc 1099511627776 (Lz.getD (plc 1099511627776 Lz) ky0 :: wo Lz (plc 1099511627776 Lz)) = 0 from if_pos e]
                    exact decide_eq_true (by simp))
                  clear hp
                  go_upto_region 30 with fail
                  refine wp_region_lit ?_
                  refine wpList_valn rfl (exec_mv rfl (ev rfl)) ?_
                  simp only [Act.put, List.setIfInBounds_toArray, List.set_cons_succ, List.set_cons_zero]
                  refine wpList_call rfl (exec_cl Try.call16 rfl (evc (ev rfl) (evc evk evn))) ?_
                  refine (pl_touch_v wr HPZ.out HWT.out (g := 0) (t := false) (e0 := 0) (L' := Lz.getD (plc 1099511627776 Lz) ky0 :: wo Lz (plc 1099511627776 Lz)) HV.out.1 HV.out.2.1 HV.out.2.2.1 HV.out.2.2.2).mono ?_
                  rintro e w6 ⟨rfl, hp6, ht6⟩
                  have HP6 := Lib.hid hp6
                  have HM6 := Lib.hid (made_turnP HMZ.out ht6)
                  have HB6 := Lib.hid (Turn.below HBZ.out ht6 HBZ.out.size)
                  clear hp6 ht6
                  refine ⟨_, rfl, ?_⟩
                  simp only [Act.put, List.setIfInBounds_toArray, List.set_cons_succ, List.set_cons_zero]
                  refine wpList_valn rfl (exec_mv rfl (ev rfl)) ?_
                  simp only [Act.put, List.setIfInBounds_toArray, List.set_cons_succ, List.set_cons_zero]
                  refine wpList_valn rfl (exec_ext rfl (ev rfl) rfl) ?_
                  simp only [Act.put, List.setIfInBounds_toArray, List.set_cons_succ, List.set_cons_zero]
                  refine wpList_valn rfl (exec_ext rfl (ev rfl) rfl) ?_
                  simp only [Act.put, List.setIfInBounds_toArray, List.set_cons_succ, List.set_cons_zero]
                  refine wpList_valn rfl (exec_ext rfl (ev rfl) rfl) ?_
                  simp only [Act.put, List.setIfInBounds_toArray, List.set_cons_succ, List.set_cons_zero]
                  refine wpList_valn rfl (exec_as rfl (ev rfl)) ?_
                  simp only [Act.put, List.setIfInBounds_toArray, List.set_cons_succ, List.set_cons_zero]
                  refine wpList_valn rfl (exec_as rfl (ev rfl)) ?_
                  simp only [Act.put, List.setIfInBounds_toArray, List.set_cons_succ, List.set_cons_zero]
                  refine wpList_valn rfl (exec_as rfl (ev rfl)) ?_
                  simp only [Act.put, List.setIfInBounds_toArray, List.set_cons_succ, List.set_cons_zero]
                  refine wpList_nil ?_
                  go_upto_region 31 with fail
                  refine wp_region_lit ?_
                  refine wpList_valn rfl (exec_mv rfl (ev rfl)) ?_
                  simp only [Act.put, List.setIfInBounds_toArray, List.set_cons_succ, List.set_cons_zero]
                  refine wpList_valn rfl (exec_lenE IntE rfl (ev rfl)) ?_
                  simp only [Act.put, List.setIfInBounds_toArray, List.set_cons_succ, List.set_cons_zero]
                  refine wpList_valn rfl (exec_mv rfl (ev rfl)) ?_
                  simp only [Act.put, List.setIfInBounds_toArray, List.set_cons_succ, List.set_cons_zero]
                  refine wpList_valn (v := .bool true) rfl (exec_eqInt true rfl (ev rfl) (ev rfl) HEQ.out) ?_
                  simp only [Act.put, List.setIfInBounds_toArray, List.set_cons_succ, List.set_cons_zero]
                  refine wpList_valn (v := .bool true) rfl (exec_mv rfl (ev rfl)) ?_
                  simp only [Act.put, List.setIfInBounds_toArray, List.set_cons_succ, List.set_cons_zero]
                  refine wpList_val (v := .bool false) (wanted_of rfl rfl rfl rfl) (exec_mv rfl (ev rfl)) ?_
                  simp only [Act.put, List.setIfInBounds_toArray, List.set_cons_succ, List.set_cons_zero]
                  refine wpList_val (v := .bool true) (wanted_of rfl rfl rfl rfl) (exec_not false rfl (ev rfl)) ?_
                  simp only [Act.put, List.setIfInBounds_toArray, List.set_cons_succ, List.set_cons_zero]
                  refine wpList_val (v := .bool true) (wanted_of rfl rfl rfl rfl) (exec_mv rfl (ev rfl)) ?_
                  simp only [Act.put, List.setIfInBounds_toArray, List.set_cons_succ, List.set_cons_zero]
                  refine wpList_val (wanted_of rfl rfl rfl rfl) (exec_mv rfl (ev rfl)) ?_
                  simp only [Act.put, List.setIfInBounds_toArray, List.set_cons_succ, List.set_cons_zero]
                  refine wpList_val (v := .bool false) (wanted_of rfl rfl rfl rfl) (exec_eqInt false rfl (ev rfl) evk rfl) ?_
                  simp only [Act.put, List.setIfInBounds_toArray, List.set_cons_succ, List.set_cons_zero]
                  refine wpList_val (v := .bool false) (wanted_of rfl rfl rfl rfl) (exec_pt rfl (ev rfl) (ev rfl)) ?_
                  simp only [Act.put, List.setIfInBounds_toArray, List.set_cons_succ, List.set_cons_zero]
                  refine wpList_skips 4 (v := .bool false) (wanted_of rfl rfl rfl rfl) (exec_mv rfl (ev rfl)) (by kernel_rfl) ?_
                  simp only [skipAct, List.take_succ_cons, List.take_zero, List.drop_succ_cons, List.drop_zero, Act.put, List.setIfInBounds_toArray, List.set_cons_succ, List.set_cons_zero]
                  refine wpList_val (v := .bool false) (wanted_of rfl rfl rfl rfl) (exec_pf rfl (ev rfl) evk) ?_
                  simp only [Act.put, List.setIfInBounds_toArray, List.set_cons_succ, List.set_cons_zero]
                  refine wpList_val (v := .bool false) (wanted_of rfl rfl rfl rfl) (exec_mv rfl (ev rfl)) ?_
                  simp only [Act.put, List.setIfInBounds_toArray, List.set_cons_succ, List.set_cons_zero]
                  refine wpList_val (wanted_of rfl rfl rfl rfl) (exec_mv rfl (ev rfl)) ?_
                  simp only [Act.put, List.setIfInBounds_toArray, List.set_cons_succ, List.set_cons_zero]
                  refine wpList_call (wanted_of rfl rfl rfl rfl) (exec_cl Try.call18 rfl (evc (ev rfl) (evc evk evn))) ?_
                  refine (pl_has_v w6 HP6.out HWT.out (t := true) HHT.out).mono ?_
                  rintro e w7 ⟨rfl, rfl⟩
                  refine ⟨_, rfl, ?_⟩
                  simp only [Act.put, List.setIfInBounds_toArray, List.set_cons_succ, List.set_cons_zero]
                  refine wpList_val (v := .bool true) (wanted_of rfl rfl rfl rfl) (exec_pf rfl (ev rfl) (ev rfl)) ?_
                  simp only [Act.put, List.setIfInBounds_toArray, List.set_cons_succ, List.set_cons_zero]
                  refine wpList_valn (v := .bool true) rfl (exec_pt rfl (ev rfl) (ev rfl)) ?_
                  simp only [Act.put, List.setIfInBounds_toArray, List.set_cons_succ, List.set_cons_zero]
                  refine wpList_valn (v := .bool true) rfl (exec_mv rfl (ev rfl)) ?_
                  simp only [Act.put, List.setIfInBounds_toArray, List.set_cons_succ, List.set_cons_zero]
                  refine wpList_call (wanted_of rfl rfl rfl rfl) (exec_cl Try.call10 rfl evn) ?_
                  refine (l_lives w6).mono ?_
                  rintro e w9 ⟨rfl, hb9⟩
                  have HB9 := Lib.hid (HB6.out.trans (hb9.mono HB6.out.size))
                  clear hb9
                  refine ⟨_, rfl, ?_⟩
                  simp only [Act.put, List.setIfInBounds_toArray, List.set_cons_succ, List.set_cons_zero]
                  refine wpList_valn (v := .bool true) rfl (exec_pt rfl (ev rfl) (ev rfl)) ?_
                  simp only [Act.put, List.setIfInBounds_toArray, List.set_cons_succ, List.set_cons_zero]
                  refine wpList_valn (v := .bool true) rfl (exec_as rfl (ev rfl)) ?_
                  simp only [Act.put, List.setIfInBounds_toArray, List.set_cons_succ, List.set_cons_zero]
                  refine wpList_nil ?_
                  go_wp2_with fail
                  go_ret
                  exact ⟨rfl, HB9.out⟩
                · have HV : Hid (tchG room 1099511627776 Lz = 0 ∧ tchW room 1099511627776 Lz = false ∧ tchE room 1099511627776 Lz = 10 ∧ tchS room 1099511627776 Lz = Lz) := Lib.hid (by
                    have hl := HLZ.out
                    have hln : ¬ Lz.length < room := by omega
                    have hu := HLU.out
                    unfold tchG tchW tchE tchS
                    rw [if_neg hp, if_neg hp, if_neg hp, if_neg hp, if_neg hln, if_neg hln, if_neg hln, if_neg hln, if_pos hu, if_pos hu, if_pos hu, if_pos hu]
                    exact ⟨rfl, rfl, rfl, rfl⟩)
                  clear hp
                  go_upto_region 30 with fail
                  refine wp_region_lit ?_
                  refine wpList_valn rfl (exec_mv rfl (ev rfl)) ?_
                  simp only [Act.put, List.setIfInBounds_toArray, List.set_cons_succ, List.set_cons_zero]
                  refine wpList_call rfl (exec_cl Try.call16 rfl (evc (ev rfl) (evc evk evn))) ?_
                  refine (pl_touch_v wr HPZ.out HWT.out (g := 0) (t := false) (e0 := 10) (L' := Lz) HV.out.1 HV.out.2.1 HV.out.2.2.1 HV.out.2.2.2).mono ?_
                  rintro e w6 ⟨rfl, hp6, ht6⟩
                  have HP6 := Lib.hid hp6
                  have HM6 := Lib.hid (made_turnP HMZ.out ht6)
                  have HB6 := Lib.hid (Turn.below HBZ.out ht6 HBZ.out.size)
                  clear hp6 ht6
                  refine ⟨_, rfl, ?_⟩
                  simp only [Act.put, List.setIfInBounds_toArray, List.set_cons_succ, List.set_cons_zero]
                  refine wpList_valn rfl (exec_mv rfl (ev rfl)) ?_
                  simp only [Act.put, List.setIfInBounds_toArray, List.set_cons_succ, List.set_cons_zero]
                  refine wpList_valn rfl (exec_ext rfl (ev rfl) rfl) ?_
                  simp only [Act.put, List.setIfInBounds_toArray, List.set_cons_succ, List.set_cons_zero]
                  refine wpList_valn rfl (exec_ext rfl (ev rfl) rfl) ?_
                  simp only [Act.put, List.setIfInBounds_toArray, List.set_cons_succ, List.set_cons_zero]
                  refine wpList_valn rfl (exec_ext rfl (ev rfl) rfl) ?_
                  simp only [Act.put, List.setIfInBounds_toArray, List.set_cons_succ, List.set_cons_zero]
                  refine wpList_valn rfl (exec_as rfl (ev rfl)) ?_
                  simp only [Act.put, List.setIfInBounds_toArray, List.set_cons_succ, List.set_cons_zero]
                  refine wpList_valn rfl (exec_as rfl (ev rfl)) ?_
                  simp only [Act.put, List.setIfInBounds_toArray, List.set_cons_succ, List.set_cons_zero]
                  refine wpList_valn rfl (exec_as rfl (ev rfl)) ?_
                  simp only [Act.put, List.setIfInBounds_toArray, List.set_cons_succ, List.set_cons_zero]
                  refine wpList_nil ?_
                  go_upto_region 31 with fail
                  refine wp_region_lit ?_
                  refine wpList_valn rfl (exec_mv rfl (ev rfl)) ?_
                  simp only [Act.put, List.setIfInBounds_toArray, List.set_cons_succ, List.set_cons_zero]
                  refine wpList_valn rfl (exec_lenE IntE rfl (ev rfl)) ?_
                  simp only [Act.put, List.setIfInBounds_toArray, List.set_cons_succ, List.set_cons_zero]
                  refine wpList_valn rfl (exec_mv rfl (ev rfl)) ?_
                  simp only [Act.put, List.setIfInBounds_toArray, List.set_cons_succ, List.set_cons_zero]
                  refine wpList_valn (v := .bool true) rfl (exec_eqInt true rfl (ev rfl) (ev rfl) HEQ.out) ?_
                  simp only [Act.put, List.setIfInBounds_toArray, List.set_cons_succ, List.set_cons_zero]
                  refine wpList_valn (v := .bool true) rfl (exec_mv rfl (ev rfl)) ?_
                  simp only [Act.put, List.setIfInBounds_toArray, List.set_cons_succ, List.set_cons_zero]
                  refine wpList_val (v := .bool false) (wanted_of rfl rfl rfl rfl) (exec_mv rfl (ev rfl)) ?_
                  simp only [Act.put, List.setIfInBounds_toArray, List.set_cons_succ, List.set_cons_zero]
                  refine wpList_val (v := .bool true) (wanted_of rfl rfl rfl rfl) (exec_not false rfl (ev rfl)) ?_
                  simp only [Act.put, List.setIfInBounds_toArray, List.set_cons_succ, List.set_cons_zero]
                  refine wpList_val (v := .bool true) (wanted_of rfl rfl rfl rfl) (exec_mv rfl (ev rfl)) ?_
                  simp only [Act.put, List.setIfInBounds_toArray, List.set_cons_succ, List.set_cons_zero]
                  refine wpList_val (wanted_of rfl rfl rfl rfl) (exec_mv rfl (ev rfl)) ?_
                  simp only [Act.put, List.setIfInBounds_toArray, List.set_cons_succ, List.set_cons_zero]
                  refine wpList_val (v := .bool true) (wanted_of rfl rfl rfl rfl) (exec_eqInt true rfl (ev rfl) evk rfl) ?_
                  simp only [Act.put, List.setIfInBounds_toArray, List.set_cons_succ, List.set_cons_zero]
                  refine wpList_val (v := .bool true) (wanted_of rfl rfl rfl rfl) (exec_pt rfl (ev rfl) (ev rfl)) ?_
                  simp only [Act.put, List.setIfInBounds_toArray, List.set_cons_succ, List.set_cons_zero]
                  refine wpList_val (v := .bool true) (wanted_of rfl rfl rfl rfl) (exec_mv rfl (ev rfl)) ?_
                  simp only [Act.put, List.setIfInBounds_toArray, List.set_cons_succ, List.set_cons_zero]
                  refine wpList_val (wanted_of rfl rfl rfl rfl) (exec_mv rfl (ev rfl)) ?_
                  simp only [Act.put, List.setIfInBounds_toArray, List.set_cons_succ, List.set_cons_zero]
                  refine wpList_call (wanted_of rfl rfl rfl rfl) (exec_cl Try.call13 rfl (evc (ev rfl) evn)) ?_
                  refine (pl_keys w6 HP6.out).mono ?_
                  rintro e w7 ⟨v7, rfl, hm7, hb7⟩
                  obtain ⟨A7, c7, hv7, hc71, hc72⟩ := hm7.form
                  subst hv7
                  have HR7 := Lib.hid hm7.rd
                  have HQ7 := Lib.hid ((show RdE IntE w6 w6.heap.size A5 room K5 from HM6.out.rd).step hb7)
                  have HB7 := Lib.hid (HB6.out.trans (hb7.mono HB6.out.size))
                  have HN7 : Hid ((keyL Lz).length ≤ maxLen) := Lib.hid (by rw [HKZ.out, HKR.out]; have := HRO.out.2; unfold maxLen; omega)
                  clear hm7 hb7 hc71 hc72
                  refine ⟨_, rfl, ?_⟩
                  simp only [Act.put, List.setIfInBounds_toArray, List.set_cons_succ, List.set_cons_zero]
                  refine wpList_val (wanted_of rfl rfl rfl rfl) (exec_mv rfl (ev rfl)) ?_
                  simp only [Act.put, List.setIfInBounds_toArray, List.set_cons_succ, List.set_cons_zero]
                  refine wpList_call (wanted_of rfl rfl rfl rfl) (exec_cl Try.call12 rfl (evc (ev rfl) (evc (ev rfl) evn))) ?_
                  refine (ints_any _ _ _ _ _ _ w7.heap.size _ _ w7 HR7.out HQ7.out (Nat.le_refl _) HN7.out).mono ?_
                  rintro e w8 ⟨rfl, hb8⟩
                  have HB8 := Lib.hid (HB7.out.trans (hb8.mono HB7.out.size))
                  clear hb8
                  rw [HKZ.out, show sameI K5 K5 = true from by unfold sameI; simp]
                  refine ⟨_, rfl, ?_⟩
                  simp only [Act.put, List.setIfInBounds_toArray, List.set_cons_succ, List.set_cons_zero]
                  refine wpList_val (v := .bool true) (wanted_of rfl rfl rfl rfl) (exec_pt rfl (ev rfl) (ev rfl)) ?_
                  simp only [Act.put, List.setIfInBounds_toArray, List.set_cons_succ, List.set_cons_zero]
                  refine wpList_skips 2 (v := .bool true) (wanted_of rfl rfl rfl rfl) (exec_mv rfl (ev rfl)) (by kernel_rfl) ?_
                  simp only [skipAct, List.take_succ_cons, List.take_zero, List.drop_succ_cons, List.drop_zero, Act.put, List.setIfInBounds_toArray, List.set_cons_succ, List.set_cons_zero]
                  refine wpList_val (v := .bool true) (wanted_of rfl rfl rfl rfl) (exec_pt rfl (ev rfl) evk) ?_
                  simp only [Act.put, List.setIfInBounds_toArray, List.set_cons_succ, List.set_cons_zero]
                  refine wpList_valn (v := .bool true) rfl (exec_pt rfl (ev rfl) (ev rfl)) ?_
                  simp only [Act.put, List.setIfInBounds_toArray, List.set_cons_succ, List.set_cons_zero]
                  refine wpList_valn (v := .bool true) rfl (exec_mv rfl (ev rfl)) ?_
                  simp only [Act.put, List.setIfInBounds_toArray, List.set_cons_succ, List.set_cons_zero]
                  refine wpList_call (wanted_of rfl rfl rfl rfl) (exec_cl Try.call10 rfl evn) ?_
                  refine (l_lives w8).mono ?_
                  rintro e w9 ⟨rfl, hb9⟩
                  have HB9 := Lib.hid (HB8.out.trans (hb9.mono HB8.out.size))
                  clear hb9
                  refine ⟨_, rfl, ?_⟩
                  simp only [Act.put, List.setIfInBounds_toArray, List.set_cons_succ, List.set_cons_zero]
                  refine wpList_valn (v := .bool true) rfl (exec_pt rfl (ev rfl) (ev rfl)) ?_
                  simp only [Act.put, List.setIfInBounds_toArray, List.set_cons_succ, List.set_cons_zero]
                  refine wpList_valn (v := .bool true) rfl (exec_as rfl (ev rfl)) ?_
                  simp only [Act.put, List.setIfInBounds_toArray, List.set_cons_succ, List.set_cons_zero]
                  refine wpList_nil ?_
                  go_wp2_with fail
                  go_ret
                  exact ⟨rfl, HB9.out⟩
          · have HL1 : Hid (decide ((j : Int) < (n : Int)) = false) := Lib.hid (decide_eq_false (by omega))
            clear hjn
            go_upto_region 14 with fail
            refine wp_region_lit ?_
            refine wpList_valn rfl (exec_mv rfl (ev rfl)) ?_
            simp only [Act.put, List.setIfInBounds_toArray, List.set_cons_succ, List.set_cons_zero]
            refine wpList_valn rfl (exec_mv rfl (ev rfl)) ?_
            simp only [Act.put, List.setIfInBounds_toArray, List.set_cons_succ, List.set_cons_zero]
            refine wpList_valn rfl (exec_lenE IntE rfl (ev rfl)) ?_
            simp only [Act.put, List.setIfInBounds_toArray, List.set_cons_succ, List.set_cons_zero]
            refine wpList_valn (v := .bool false) rfl (exec_lss false rfl (ev rfl) (ev rfl) HL1.out) ?_
            simp only [Act.put, List.setIfInBounds_toArray, List.set_cons_succ, List.set_cons_zero]
            refine wpList_skips 2 (v := .bool false) rfl (exec_mv rfl (ev rfl)) (by kernel_rfl) ?_
            simp only [skipAct, List.take_succ_cons, List.take_zero, List.drop_succ_cons, List.drop_zero, Act.put, List.setIfInBounds_toArray, List.set_cons_succ, List.set_cons_zero]
            refine wpList_valn (v := .bool false) rfl (exec_pf rfl (ev rfl) evk) ?_
            simp only [Act.put, List.setIfInBounds_toArray, List.set_cons_succ, List.set_cons_zero]
            refine wpList_nil ?_
            go_wp2_with fail
            refine (pl_keys wr HP.out).mono ?_
            rintro e w5 ⟨v5, rfl, hm5, hb5⟩
            have HM5 := Lib.hid (hm5.base HB.out.size)
            obtain ⟨A5, c5, hv5, hc51, hc52⟩ := hm5.form
            rw [HKL.out] at hv5
            subst hv5
            have HP5 := Lib.hid (HP.out.below hb5)
            have HB5 := Lib.hid (HB.out.trans (hb5.mono HB.out.size))
            obtain ⟨K5, hK5⟩ : ∃ K5, keyL L = K5 := ⟨_, rfl⟩
            have HKK := Lib.hid hK5
            rw [hK5] at HM5
            have HKR : Hid (K5.length = room) := Lib.hid (by rw [← hK5]; exact HKL.out)
            have HKW : Hid (∀ i, i < room → (Lit.int .i64 (K5.getD i 0)).wf = true) := Lib.hid fun i hi => by
              have hm : K5.getD i 0 ∈ keyL L := by rw [hK5]; exact getD_mem (by have := HKR.out; omega)
              unfold keyL at hm
              obtain ⟨x, hx, e⟩ := List.mem_map.1 hm
              rw [← e]; exact HOK.out.wf x hx
            clear hm5 hb5 hc51 hc52 hK5
            go_wp2_with fail
            go_loopw [18] (fun i wz => ∃ (j : Nat) (Lz : List Ky), j ≤ room ∧ i = .int .i64 j ∧ PL wz w.heap.size p room Lz ∧ Hid (PinA j K5 Lz) ∧ MadeE IntE wz w.heap.size (.slice A5 room c5) K5 ∧ Below w.heap.size w wz) (fun i _ => room - (intOf i).toNat)
            case atStart => exact ⟨0, L, Nat.zero_le _, rfl, HP5.out, Lib.hid ⟨HKK.out, fun j hj => by omega⟩, HM5.out, HB5.out⟩
            case round =>
              obtain ⟨i, Lz, hi, rfl, hPz, hKz, hMz, hbz⟩ := hrel
              have HPZ := Lib.hid hPz
              have HMZ := Lib.hid hMz
              have HBZ := Lib.hid hbz
              clear hPz hMz hbz HP5 HM5 HB5
              have hrd : RdE IntE wr wr.heap.size A5 room K5 := by have := HMZ.out.rd; exact this
              have HRZ := Lib.hid hrd
              clear hrd
              by_cases hlt : i < room
              · have HLS : Hid (decide ((i : Int) < (room : Int)) = true) := Lib.hid (decide_eq_true (by omega))
                obtain ⟨b, off, hA, _, hc⟩ := HRZ.out.int1' hlt
                have HST := Lib.hid (hKz.out.step HPZ.out.ok.one (by have := HKR.out; omega))
                have HA := Lib.hid hA
                have HC := Lib.hid hc
                have HJ := Lib.hid hlt
                clear hA hc hlt
                go_upto_region 26 with fail
                refine wp_region_lit ?_
                refine wpList_valn rfl (exec_mv rfl (ev rfl)) ?_
                simp only [Act.put, List.setIfInBounds_toArray, List.set_cons_succ, List.set_cons_zero]
                refine wpList_valn rfl (exec_mv rfl (ev rfl)) ?_
                simp only [Act.put, List.setIfInBounds_toArray, List.set_cons_succ, List.set_cons_zero]
                refine wpList_valn rfl (exec_lenE IntE rfl (ev rfl)) ?_
                simp only [Act.put, List.setIfInBounds_toArray, List.set_cons_succ, List.set_cons_zero]
                refine wpList_valn (v := .bool true) rfl (exec_lss true rfl (ev rfl) (ev rfl) HLS.out) ?_
                simp only [Act.put, List.setIfInBounds_toArray, List.set_cons_succ, List.set_cons_zero]
                refine wpList_nil ?_
                go_upto_region 28 with fail
                refine wp_region_lit ?_
                refine wpList_valn rfl (exec_mv rfl (ev rfl)) ?_
                simp only [Act.put, List.setIfInBounds_toArray, List.set_cons_succ, List.set_cons_zero]
                refine wpList_valn rfl (exec_mv rfl (ev rfl)) ?_
                simp only [Act.put, List.setIfInBounds_toArray, List.set_cons_succ, List.set_cons_zero]
                refine wpList_valn rfl (exec_mv rfl (ev rfl)) ?_
                simp only [Act.put, List.setIfInBounds_toArray, List.set_cons_succ, List.set_cons_zero]
                refine wpList_valn rfl (exec_indexE (E := IntE) (b := b) (off := off) (j := i) rfl ((ev rfl).trans (by rw [HA.out])) (ev rfl) HJ.out) ?_
                simp only [Act.put, List.setIfInBounds_toArray, List.set_cons_succ, List.set_cons_zero]
                refine wpList_valn rfl (exec_ld rfl (ev rfl) (ldInt HC.out)) ?_
                simp only [Act.put, List.setIfInBounds_toArray, List.set_cons_succ, List.set_cons_zero]
                refine wpList_call rfl (exec_cl Try.call17 rfl (evc (ev rfl) (evc (ev rfl) (evc evk evn)))) ?_
                refine (pl_pin_v wr HPZ.out (HKW.out i HJ.out) HST.out.1 rfl).mono ?_
                rintro e w6 ⟨rfl, hp6, ht6⟩
                have HP6 := Lib.hid hp6
                have HM6 := Lib.hid (made_turnP HMZ.out ht6)
                have HB6 := Lib.hid (Turn.below HBZ.out ht6 HBZ.out.size)
                clear hp6 ht6
                refine ⟨_, rfl, ?_⟩
                simp only [Act.put, List.setIfInBounds_toArray, List.set_cons_succ, List.set_cons_zero]
                refine wpList_valn (v := .bool false) rfl (exec_neInt false rfl (ev rfl) evk rfl) ?_
                simp only [Act.put, List.setIfInBounds_toArray, List.set_cons_succ, List.set_cons_zero]
                refine wpList_nil ?_
                have hlt := HJ.out
                have h64 := HRO.out.2
                go_wp2_with fail
                go_roundw
                case rel => exact ⟨i + 1, _, HJ.out, by go_num, HP6.out, Lib.hid HST.out.2, HM6.out, HB6.out⟩
                case measure => have := HJ.out; simp [intOf]; omega
              · have HLS : Hid (decide ((i : Int) < (room : Int)) = false) := Lib.hid (decide_eq_false (by omega))
                have hie : i = K5.length := by have := HKR.out; omega
                have HLU : Hid (lu Lz = 0) := Lib.hid (by have := hKz.out; rw [hie] at this; exact this.full)
                have HKZ : Hid (keyL Lz = K5) := Lib.hid hKz.out.key
                have HLZ : Hid (Lz.length = room) := Lib.hid (by have := HKR.out; rw [← HKZ.out] at this; unfold keyL at this; rwa [List.length_map] at this)
                have HEQ : Hid (((room : Int) == (room : Int)) = true) := Lib.hid (by simp)
                have hwt : (Lit.int .i64 1099511627776).wf = true := wf_i (by omega)
                have HWT := Lib.hid hwt
                clear hlt hie hKz hwt
                go_upto_region 26 with fail
                refine wp_region_lit ?_
                refine wpList_valn rfl (exec_mv rfl (ev rfl)) ?_
                simp only [Act.put, List.setIfInBounds_toArray, List.set_cons_succ, List.set_cons_zero]
                refine wpList_valn rfl (exec_mv rfl (ev rfl)) ?_
                simp only [Act.put, List.setIfInBounds_toArray, List.set_cons_succ, List.set_cons_zero]
                refine wpList_valn rfl (exec_lenE IntE rfl (ev rfl)) ?_
                simp only [Act.put, List.setIfInBounds_toArray, List.set_cons_succ, List.set_cons_zero]
                refine wpList_valn (v := .bool false) rfl (exec_lss false rfl (ev rfl) (ev rfl) HLS.out) ?_
                simp only [Act.put, List.setIfInBounds_toArray, List.set_cons_succ, List.set_cons_zero]
                refine wpList_nil ?_
                by_cases hp : plc 1099511627776 Lz < Lz.length
                · have HV : Hid (tchG room 1099511627776 Lz = 0 ∧ tchW room 1099511627776 Lz = false ∧ tchE room 1099511627776 Lz = 0 ∧ tchS room 1099511627776 Lz = Lz.getD (plc 1099511627776 Lz) ky0 :: wo Lz (plc 1099511627776 Lz)) := Lib.hid (by
                    unfold tchG tchW tchE tchS
                    rw [if_pos hp, if_pos hp, if_pos hp, if_pos hp]
                    exact ⟨rfl, rfl, rfl, rfl⟩)
                  have HHT : Hid (hasK 1099511627776 (Lz.getD (plc 1099511627776 Lz) ky0 :: wo Lz (plc 1099511627776 Lz)) = true) := Lib.hid (by
                    unfold hasK
                    have e : (Lz.getD (plc 1099511627776 Lz) ky0).n = 1099511627776 := plc_at hp
                    rw [show plc 1099511627776 (Lz.getD (plc 1099511627776 Lz) ky0 :: wo Lz (plc 1099511627776 Lz)) = 0 from if_pos e]
                    exact decide_eq_true (by simp))
                  clear hp
                  go_upto_region 30 with fail
                  refine wp_region_lit ?_
                  refine wpList_valn rfl (exec_mv rfl (ev rfl)) ?_
                  simp only [Act.put, List.setIfInBounds_toArray, List.set_cons_succ, List.set_cons_zero]
                  refine wpList_call rfl (exec_cl Try.call16 rfl (evc (ev rfl) (evc evk evn))) ?_
                  refine (pl_touch_v wr HPZ.out HWT.out (g := 0) (t := false) (e0 := 0) (L' := Lz.getD (plc 1099511627776 Lz) ky0 :: wo Lz (plc 1099511627776 Lz)) HV.out.1 HV.out.2.1 HV.out.2.2.1 HV.out.2.2.2).mono ?_
                  rintro e w6 ⟨rfl, hp6, ht6⟩
                  have HP6 := Lib.hid hp6
                  have HM6 := Lib.hid (made_turnP HMZ.out ht6)
                  have HB6 := Lib.hid (Turn.below HBZ.out ht6 HBZ.out.size)
                  clear hp6 ht6
                  refine ⟨_, rfl, ?_⟩
                  simp only [Act.put, List.setIfInBounds_toArray, List.set_cons_succ, List.set_cons_zero]
                  refine wpList_valn rfl (exec_mv rfl (ev rfl)) ?_
                  simp only [Act.put, List.setIfInBounds_toArray, List.set_cons_succ, List.set_cons_zero]
                  refine wpList_valn rfl (exec_ext rfl (ev rfl) rfl) ?_
                  simp only [Act.put, List.setIfInBounds_toArray, List.set_cons_succ, List.set_cons_zero]
                  refine wpList_valn rfl (exec_ext rfl (ev rfl) rfl) ?_
                  simp only [Act.put, List.setIfInBounds_toArray, List.set_cons_succ, List.set_cons_zero]
                  refine wpList_valn rfl (exec_ext rfl (ev rfl) rfl) ?_
                  simp only [Act.put, List.setIfInBounds_toArray, List.set_cons_succ, List.set_cons_zero]
                  refine wpList_valn rfl (exec_as rfl (ev rfl)) ?_
                  simp only [Act.put, List.setIfInBounds_toArray, List.set_cons_succ, List.set_cons_zero]
                  refine wpList_valn rfl (exec_as rfl (ev rfl)) ?_
                  simp only [Act.put, List.setIfInBounds_toArray, List.set_cons_succ, List.set_cons_zero]
                  refine wpList_valn rfl (exec_as rfl (ev rfl)) ?_
                  simp only [Act.put, List.setIfInBounds_toArray, List.set_cons_succ, List.set_cons_zero]
                  refine wpList_nil ?_
                  go_upto_region 31 with fail
                  refine wp_region_lit ?_
                  refine wpList_valn rfl (exec_mv rfl (ev rfl)) ?_
                  simp only [Act.put, List.setIfInBounds_toArray, List.set_cons_succ, List.set_cons_zero]
                  refine wpList_valn rfl (exec_lenE IntE rfl (ev rfl)) ?_
                  simp only [Act.put, List.setIfInBounds_toArray, List.set_cons_succ, List.set_cons_zero]
                  refine wpList_valn rfl (exec_mv rfl (ev rfl)) ?_
                  simp only [Act.put, List.setIfInBounds_toArray, List.set_cons_succ, List.set_cons_zero]
                  refine wpList_valn (v := .bool true) rfl (exec_eqInt true rfl (ev rfl) (ev rfl) HEQ.out) ?_
                  simp only [Act.put, List.setIfInBounds_toArray, List.set_cons_succ, List.set_cons_zero]
                  refine wpList_valn (v := .bool true) rfl (exec_mv rfl (ev rfl)) ?_
                  simp only [Act.put, List.setIfInBounds_toArray, List.set_cons_succ, List.set_cons_zero]
                  refine wpList_val (v := .bool false) (wanted_of rfl rfl rfl rfl) (exec_mv rfl (ev rfl)) ?_
                  simp only [Act.put, List.setIfInBounds_toArray, List.set_cons_succ, List.set_cons_zero]
                  refine wpList_val (v := .bool true) (wanted_of rfl rfl rfl rfl) (exec_not false rfl (ev rfl)) ?_
                  simp only [Act.put, List.setIfInBounds_toArray, List.set_cons_succ, List.set_cons_zero]
                  refine wpList_val (v := .bool true) (wanted_of rfl rfl rfl rfl) (exec_mv rfl (ev rfl)) ?_
                  simp only [Act.put, List.setIfInBounds_toArray, List.set_cons_succ, List.set_cons_zero]
                  refine wpList_val (wanted_of rfl rfl rfl rfl) (exec_mv rfl (ev rfl)) ?_
                  simp only [Act.put, List.setIfInBounds_toArray, List.set_cons_succ, List.set_cons_zero]
                  refine wpList_val (v := .bool false) (wanted_of rfl rfl rfl rfl) (exec_eqInt false rfl (ev rfl) evk rfl) ?_
                  simp only [Act.put, List.setIfInBounds_toArray, List.set_cons_succ, List.set_cons_zero]
                  refine wpList_val (v := .bool false) (wanted_of rfl rfl rfl rfl) (exec_pt rfl (ev rfl) (ev rfl)) ?_
                  simp only [Act.put, List.setIfInBounds_toArray, List.set_cons_succ, List.set_cons_zero]
                  refine wpList_skips 4 (v := .bool false) (wanted_of rfl rfl rfl rfl) (exec_mv rfl (ev rfl)) (by kernel_rfl) ?_
                  simp only [skipAct, List.take_succ_cons, List.take_zero, List.drop_succ_cons, List.drop_zero, Act.put, List.setIfInBounds_toArray, List.set_cons_succ, List.set_cons_zero]
                  refine wpList_val (v := .bool false) (wanted_of rfl rfl rfl rfl) (exec_pf rfl (ev rfl) evk) ?_
                  simp only [Act.put, List.setIfInBounds_toArray, List.set_cons_succ, List.set_cons_zero]
                  refine wpList_val (v := .bool false) (wanted_of rfl rfl rfl rfl) (exec_mv rfl (ev rfl)) ?_
                  simp only [Act.put, List.setIfInBounds_toArray, List.set_cons_succ, List.set_cons_zero]
                  refine wpList_val (wanted_of rfl rfl rfl rfl) (exec_mv rfl (ev rfl)) ?_
                  simp only [Act.put, List.setIfInBounds_toArray, List.set_cons_succ, List.set_cons_zero]
                  refine wpList_call (wanted_of rfl rfl rfl rfl) (exec_cl Try.call18 rfl (evc (ev rfl) (evc evk evn))) ?_
                  refine (pl_has_v w6 HP6.out HWT.out (t := true) HHT.out).mono ?_
                  rintro e w7 ⟨rfl, rfl⟩
                  refine ⟨_, rfl, ?_⟩
                  simp only [Act.put, List.setIfInBounds_toArray, List.set_cons_succ, List.set_cons_zero]
                  refine wpList_val (v := .bool true) (wanted_of rfl rfl rfl rfl) (exec_pf rfl (ev rfl) (ev rfl)) ?_
                  simp only [Act.put, List.setIfInBounds_toArray, List.set_cons_succ, List.set_cons_zero]
                  refine wpList_valn (v := .bool true) rfl (exec_pt rfl (ev rfl) (ev rfl)) ?_
                  simp only [Act.put, List.setIfInBounds_toArray, List.set_cons_succ, List.set_cons_zero]
                  refine wpList_valn (v := .bool true) rfl (exec_mv rfl (ev rfl)) ?_
                  simp only [Act.put, List.setIfInBounds_toArray, List.set_cons_succ, List.set_cons_zero]
                  refine wpList_call (wanted_of rfl rfl rfl rfl) (exec_cl Try.call10 rfl evn) ?_
                  refine (l_lives w6).mono ?_
                  rintro e w9 ⟨rfl, hb9⟩
                  have HB9 := Lib.hid (HB6.out.trans (hb9.mono HB6.out.size))
                  clear hb9
                  refine ⟨_, rfl, ?_⟩
                  simp only [Act.put, List.setIfInBounds_toArray, List.set_cons_succ, List.set_cons_zero]
                  refine wpList_valn (v := .bool true) rfl (exec_pt rfl (ev rfl) (ev rfl)) ?_
                  simp only [Act.put, List.setIfInBounds_toArray, List.set_cons_succ, List.set_cons_zero]
                  refine wpList_valn (v := .bool true) rfl (exec_as rfl (ev rfl)) ?_
                  simp only [Act.put, List.setIfInBounds_toArray, List.set_cons_succ, List.set_cons_zero]
                  refine wpList_nil ?_
                  go_wp2_with fail
                  go_ret
                  exact ⟨rfl, HB9.out⟩
                · have HV : Hid (tchG room 1099511627776 Lz = 0 ∧ tchW room 1099511627776 Lz = false ∧ tchE room 1099511627776 Lz = 10 ∧ tchS room 1099511627776 Lz = Lz) := Lib.hid (by
                    have hl := HLZ.out
                    have hln : ¬ Lz.length < room := by omega
                    have hu := HLU.out
                    unfold tchG tchW tchE tchS
                    rw [if_neg hp, if_neg hp, if_neg hp, if_neg hp, if_neg hln, if_neg hln, if_neg hln, if_neg hln, if_pos hu, if_pos hu, if_pos hu, if_pos hu]
                    exact ⟨rfl, rfl, rfl, rfl⟩)
                  clear hp
                  go_upto_region 30 with fail
                  refine wp_region_lit ?_
                  refine wpList_valn rfl (exec_mv rfl (ev rfl)) ?_
                  simp only [Act.put, List.setIfInBounds_toArray, List.set_cons_succ, List.set_cons_zero]
                  refine wpList_call rfl (exec_cl Try.call16 rfl (evc (ev rfl) (evc evk evn))) ?_
                  refine (pl_touch_v wr HPZ.out HWT.out (g := 0) (t := false) (e0 := 10) (L' := Lz) HV.out.1 HV.out.2.1 HV.out.2.2.1 HV.out.2.2.2).mono ?_
                  rintro e w6 ⟨rfl, hp6, ht6⟩
                  have HP6 := Lib.hid hp6
                  have HM6 := Lib.hid (made_turnP HMZ.out ht6)
                  have HB6 := Lib.hid (Turn.below HBZ.out ht6 HBZ.out.size)
                  clear hp6 ht6
                  refine ⟨_, rfl, ?_⟩
                  simp only [Act.put, List.setIfInBounds_toArray, List.set_cons_succ, List.set_cons_zero]
                  refine wpList_valn rfl (exec_mv rfl (ev rfl)) ?_
                  simp only [Act.put, List.setIfInBounds_toArray, List.set_cons_succ, List.set_cons_zero]
                  refine wpList_valn rfl (exec_ext rfl (ev rfl) rfl) ?_
                  simp only [Act.put, List.setIfInBounds_toArray, List.set_cons_succ, List.set_cons_zero]
                  refine wpList_valn rfl (exec_ext rfl (ev rfl) rfl) ?_
                  simp only [Act.put, List.setIfInBounds_toArray, List.set_cons_succ, List.set_cons_zero]
                  refine wpList_valn rfl (exec_ext rfl (ev rfl) rfl) ?_
                  simp only [Act.put, List.setIfInBounds_toArray, List.set_cons_succ, List.set_cons_zero]
                  refine wpList_valn rfl (exec_as rfl (ev rfl)) ?_
                  simp only [Act.put, List.setIfInBounds_toArray, List.set_cons_succ, List.set_cons_zero]
                  refine wpList_valn rfl (exec_as rfl (ev rfl)) ?_
                  simp only [Act.put, List.setIfInBounds_toArray, List.set_cons_succ, List.set_cons_zero]
                  refine wpList_valn rfl (exec_as rfl (ev rfl)) ?_
                  simp only [Act.put, List.setIfInBounds_toArray, List.set_cons_succ, List.set_cons_zero]
                  refine wpList_nil ?_
                  go_upto_region 31 with fail
                  refine wp_region_lit ?_
                  refine wpList_valn rfl (exec_mv rfl (ev rfl)) ?_
                  simp only [Act.put, List.setIfInBounds_toArray, List.set_cons_succ, List.set_cons_zero]
                  refine wpList_valn rfl (exec_lenE IntE rfl (ev rfl)) ?_
                  simp only [Act.put, List.setIfInBounds_toArray, List.set_cons_succ, List.set_cons_zero]
                  refine wpList_valn rfl (exec_mv rfl (ev rfl)) ?_
                  simp only [Act.put, List.setIfInBounds_toArray, List.set_cons_succ, List.set_cons_zero]
                  refine wpList_valn (v := .bool true) rfl (exec_eqInt true rfl (ev rfl) (ev rfl) HEQ.out) ?_
                  simp only [Act.put, List.setIfInBounds_toArray, List.set_cons_succ, List.set_cons_zero]
                  refine wpList_valn (v := .bool true) rfl (exec_mv rfl (ev rfl)) ?_
                  simp only [Act.put, List.setIfInBounds_toArray, List.set_cons_succ, List.set_cons_zero]
                  refine wpList_val (v := .bool false) (wanted_of rfl rfl rfl rfl) (exec_mv rfl (ev rfl)) ?_
                  simp only [Act.put, List.setIfInBounds_toArray, List.set_cons_succ, List.set_cons_zero]
                  refine wpList_val (v := .bool true) (wanted_of rfl rfl rfl rfl) (exec_not false rfl (ev rfl)) ?_
                  simp only [Act.put, List.setIfInBounds_toArray, List.set_cons_succ, List.set_cons_zero]
                  refine wpList_val (v := .bool true) (wanted_of rfl rfl rfl rfl) (exec_mv rfl (ev rfl)) ?_
                  simp only [Act.put, List.setIfInBounds_toArray, List.set_cons_succ, List.set_cons_zero]
                  refine wpList_val (wanted_of rfl rfl rfl rfl) (exec_mv rfl (ev rfl)) ?_
                  simp only [Act.put, List.setIfInBounds_toArray, List.set_cons_succ, List.set_cons_zero]
                  refine wpList_val (v := .bool true) (wanted_of rfl rfl rfl rfl) (exec_eqInt true rfl (ev rfl) evk rfl) ?_
                  simp only [Act.put, List.setIfInBounds_toArray, List.set_cons_succ, List.set_cons_zero]
                  refine wpList_val (v := .bool true) (wanted_of rfl rfl rfl rfl) (exec_pt rfl (ev rfl) (ev rfl)) ?_
                  simp only [Act.put, List.setIfInBounds_toArray, List.set_cons_succ, List.set_cons_zero]
                  refine wpList_val (v := .bool true) (wanted_of rfl rfl rfl rfl) (exec_mv rfl (ev rfl)) ?_
                  simp only [Act.put, List.setIfInBounds_toArray, List.set_cons_succ, List.set_cons_zero]
                  refine wpList_val (wanted_of rfl rfl rfl rfl) (exec_mv rfl (ev rfl)) ?_
                  simp only [Act.put, List.setIfInBounds_toArray, List.set_cons_succ, List.set_cons_zero]
                  refine wpList_call (wanted_of rfl rfl rfl rfl) (exec_cl Try.call13 rfl (evc (ev rfl) evn)) ?_
                  refine (pl_keys w6 HP6.out).mono ?_
                  rintro e w7 ⟨v7, rfl, hm7, hb7⟩
                  obtain ⟨A7, c7, hv7, hc71, hc72⟩ := hm7.form
                  subst hv7
                  have HR7 := Lib.hid hm7.rd
                  have HQ7 := Lib.hid ((show RdE IntE w6 w6.heap.size A5 room K5 from HM6.out.rd).step hb7)
                  have HB7 := Lib.hid (HB6.out.trans (hb7.mono HB6.out.size))
                  have HN7 : Hid ((keyL Lz).length ≤ maxLen) := Lib.hid (by rw [HKZ.out, HKR.out]; have := HRO.out.2; unfold maxLen; omega)
                  clear hm7 hb7 hc71 hc72
                  refine ⟨_, rfl, ?_⟩
                  simp only [Act.put, List.setIfInBounds_toArray, List.set_cons_succ, List.set_cons_zero]
                  refine wpList_val (wanted_of rfl rfl rfl rfl) (exec_mv rfl (ev rfl)) ?_
                  simp only [Act.put, List.setIfInBounds_toArray, List.set_cons_succ, List.set_cons_zero]
                  refine wpList_call (wanted_of rfl rfl rfl rfl) (exec_cl Try.call12 rfl (evc (ev rfl) (evc (ev rfl) evn))) ?_
                  refine (ints_any _ _ _ _ _ _ w7.heap.size _ _ w7 HR7.out HQ7.out (Nat.le_refl _) HN7.out).mono ?_
                  rintro e w8 ⟨rfl, hb8⟩
                  have HB8 := Lib.hid (HB7.out.trans (hb8.mono HB7.out.size))
                  clear hb8
                  rw [HKZ.out, show sameI K5 K5 = true from by unfold sameI; simp]
                  refine ⟨_, rfl, ?_⟩
                  simp only [Act.put, List.setIfInBounds_toArray, List.set_cons_succ, List.set_cons_zero]
                  refine wpList_val (v := .bool true) (wanted_of rfl rfl rfl rfl) (exec_pt rfl (ev rfl) (ev rfl)) ?_
                  simp only [Act.put, List.setIfInBounds_toArray, List.set_cons_succ, List.set_cons_zero]
                  refine wpList_skips 2 (v := .bool true) (wanted_of rfl rfl rfl rfl) (exec_mv rfl (ev rfl)) (by kernel_rfl) ?_
                  simp only [skipAct, List.take_succ_cons, List.take_zero, List.drop_succ_cons, List.drop_zero, Act.put, List.setIfInBounds_toArray, List.set_cons_succ, List.set_cons_zero]
                  refine wpList_val (v := .bool true) (wanted_of rfl rfl rfl rfl) (exec_pt rfl (ev rfl) evk) ?_
                  simp only [Act.put, List.setIfInBounds_toArray, List.set_cons_succ, List.set_cons_zero]
                  refine wpList_valn (v := .bool true) rfl (exec_pt rfl (ev rfl) (ev rfl)) ?_
                  simp only [Act.put, List.setIfInBounds_toArray, List.set_cons_succ, List.set_cons_zero]
                  refine wpList_valn (v := .bool true) rfl (exec_mv rfl (ev rfl)) ?_
                  simp only [Act.put, List.setIfInBounds_toArray, List.set_cons_succ, List.set_cons_zero]
                  refine wpList_call (wanted_of rfl rfl rfl rfl) (exec_cl Try.call10 rfl evn) ?_
                  refine (l_lives w8).mono ?_
                  rintro e w9 ⟨rfl, hb9⟩
                  have HB9 := Lib.hid (HB8.out.trans (hb9.mono HB8.out.size))
                  clear hb9
                  refine ⟨_, rfl, ?_⟩
                  simp only [Act.put, List.setIfInBounds_toArray, List.set_cons_succ, List.set_cons_zero]
                  refine wpList_valn (v := .bool true) rfl (exec_pt rfl (ev rfl) (ev rfl)) ?_
                  simp only [Act.put, List.setIfInBounds_toArray, List.set_cons_succ, List.set_cons_zero]
                  refine wpList_valn (v := .bool true) rfl (exec_as rfl (ev rfl)) ?_
                  simp only [Act.put, List.setIfInBounds_toArray, List.set_cons_succ, List.set_cons_zero]
                  refine wpList_nil ?_
                  go_wp2_with fail
                  go_ret
                  exact ⟨rfl, HB9.out⟩
end Go.Proofs.Ytmnabdojlekjcaa
