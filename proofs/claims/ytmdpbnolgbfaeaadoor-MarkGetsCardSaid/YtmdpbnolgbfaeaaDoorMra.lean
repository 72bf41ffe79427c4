/-
  The document's mark: a body; Put.
-/
import Derived.Test.YtmdpbnolgbfaeaaDoorMka
import Derived.Test.YtmdpbnolgbfaeaaDoorSrp
import Derived.Test.YtmdpbnolgbfaeaaDoorAppB
namespace Go.Proofs.YtmdpbnolgbfaeaaDoor
open Go.RowKit
set_option linter.unusedVariables false
set_option linter.unusedSimpArgs false
set_option maxRecDepth 100000

theorem bodyM_eq (x : Mrk) {R : Nat} (h : x.ring.toNat = R) : digL 8 8 x.id ++ (digL 8 2 R ++ (digL 8 8 x.first ++ digL 8 8 x.pos)) = bodyM x := by
  unfold bodyM
  rw [h]
set_option maxHeartbeats 4000000 in
theorem rmbody (x : Mrk) (w : World) (hf : x.fit) (hx : mrkB x = true) : Calls Tryd.prog 22 #[mrk x] w fun e w' => ∃ v, e = .returned v ∧ Made w' w.heap.size v (bodyM x) ∧ Below w.heap.size w w' := by
  obtain ⟨h1, h2, h3⟩ := boxM_new w x
  have HS0 := Lib.hid h1
  have HB0 := Lib.hid h2
  have HZ0 := Lib.hid h3
  obtain ⟨-, q1, q2, -, -, -⟩ := of_mrkB hx
  obtain ⟨f1, f2, f3⟩ := hf
  obtain ⟨R, hR⟩ : ∃ R : Nat, x.ring.toNat = R := ⟨_, rfl⟩
  have HBD := Lib.hid (bodyM_eq x hR)
  have hR256 : R ≤ 256 := by omega
  have HC : Hid (∀ w' s, MrkAt w' s x → w'.cell? ⟨s, 0, none⟩ = some (.int .u64 x.id) ∧ w'.cell? ⟨s, 1, none⟩ = some (.int .i64 (R : Nat)) ∧ w'.cell? ⟨s, 2, none⟩ = some (.int .u64 x.first) ∧ w'.cell? ⟨s, 3, none⟩ = some (.int .u64 x.pos)) := Lib.hid fun w' s h => by
    have := h.cells
    rw [show x.ring = (R : Int) from by omega] at this
    exact this
  have HF1 := Lib.hid f1
  have HF2 := Lib.hid f2
  have HF3 := Lib.hid f3
  clear h1 h2 h3 q1 q2 f1 f2 f3 hR hx
  go_enter Tryd.func22, Tryd.ntmps22
  go_upto_region 1 with (first | (refine wpList_valn rfl (exec_boxM rfl rfl) ?_) | fail)
  generalize w.alloc (.cells (celM x).toArray 24) = w0 at *
  obtain ⟨s, hs⟩ : ∃ s, w.heap.size = s := ⟨_, rfl⟩
  have HSD := Lib.hid hs
  rw [hs] at HS0 HB0 HZ0 ⊢
  clear hs
  obtain ⟨c0, c1, c2, c3⟩ := HC.out _ _ HS0.out
  go_wp2_with fail
  clear c0 c1 c2 c3
  refine (rput_ok x.id 8 _ w0 (Lib.hid rfl) HF1.out (by omega) (by omega) (by have := HF1.out; simpa using this)).mono ?_
  rintro e w1 ⟨v1, rfl, hm, hb⟩
  have HM1 := Lib.hid hm
  have HU1 : Hid (∀ k, v1.ownBlock = some k → k < w1.heap.size) := Lib.hid fun k hk => (hm.lt k hk).2
  have HS1 := Lib.hid (HS0.out.below HZ0.out hb)
  have HB1 := Lib.hid (HB0.out.trans (hb.mono (Nat.le_of_lt HZ0.out)))
  have HZ1 : Hid (s < w1.heap.size) := Lib.hid (Nat.lt_of_lt_of_le HZ0.out hb.size)
  have HL1 := Lib.hid hb.size
  clear hm hb HS0 HB0
  obtain ⟨c0, c1, c2, c3⟩ := HC.out _ _ HS1.out
  go_wp2_with fail
  clear c0 c1 c2 c3
  refine (rput_ok R 2 _ w1 (Lib.hid rfl) (by omega) (by omega) (by omega) (by omega)).mono ?_
  rintro e w2 ⟨v2, rfl, hm, hb⟩
  have HM2 := Lib.hid hm
  have HM1 := Lib.hid (HM1.out.below hb)
  have HS2 := Lib.hid (HS1.out.below HZ1.out hb)
  have HB2 := Lib.hid (HB1.out.trans (hb.mono (Nat.le_of_lt HZ1.out)))
  have HZ2 : Hid (s < w2.heap.size) := Lib.hid (Nat.lt_of_lt_of_le HZ1.out hb.size)
  have HL2 := Lib.hid hb.size
  clear hm hb HS1 HB1
  obtain ⟨c0, c1, c2, c3⟩ := HC.out _ _ HS2.out
  go_wp2_with fail
  clear c0 c1 c2 c3
  refine (rput_ok x.first 8 _ w2 (Lib.hid rfl) HF2.out (by omega) (by omega) (by have := HF2.out; simpa using this)).mono ?_
  rintro e w3 ⟨v3, rfl, hm, hb⟩
  have HM3 := Lib.hid hm
  have HU3 : Hid (∀ k, v3.ownBlock = some k → w2.heap.size ≤ k) := Lib.hid fun k hk => (hm.lt k hk).1
  have HM1 := Lib.hid (HM1.out.below hb)
  have HM2 := Lib.hid (HM2.out.below hb)
  have HS3 := Lib.hid (HS2.out.below HZ2.out hb)
  have HB3 := Lib.hid (HB2.out.trans (hb.mono (Nat.le_of_lt HZ2.out)))
  have HZ3 : Hid (s < w3.heap.size) := Lib.hid (Nat.lt_of_lt_of_le HZ2.out hb.size)
  have HL3 := Lib.hid hb.size
  clear hm hb HS2 HB2
  obtain ⟨c0, c1, c2, c3⟩ := HC.out _ _ HS3.out
  go_wp2_with fail
  clear c0 c1 c2 c3
  refine (rput_ok x.pos 8 _ w3 (Lib.hid rfl) HF3.out (by omega) (by omega) (by have := HF3.out; simpa using this)).mono ?_
  rintro e w4 ⟨v4, rfl, hm, hb⟩
  have HM4 := Lib.hid hm
  have HU4 : Hid (∀ k, v4.ownBlock = some k → w3.heap.size ≤ k ∧ k < w4.heap.size) := Lib.hid fun k hk => hm.lt k hk
  have HM1 := Lib.hid (HM1.out.below hb)
  have HM2 := Lib.hid (HM2.out.below hb)
  have HM3 := Lib.hid (HM3.out.below hb)
  have HS4 := Lib.hid (HS3.out.below HZ3.out hb)
  have HB4 := Lib.hid (HB3.out.trans (hb.mono (Nat.le_of_lt HZ3.out)))
  have HZ4 : Hid (s < w4.heap.size) := Lib.hid (Nat.lt_of_lt_of_le HZ3.out hb.size)
  have HL4 := Lib.hid hb.size
  clear hm hb HS3 HB3
  have HG1 : Hid (Made w4 s v1 (digL 8 8 x.id)) := Lib.hid (HM1.out.base (Nat.le_of_lt HZ0.out))
  have HE2 := Lib.hid (length_digL 8 2 R)
  have HE3 := Lib.hid (length_digL 8 8 x.first)
  have HE4 := Lib.hid (length_digL 8 8 x.pos)
  have HE1 := Lib.hid (length_digL 8 8 x.id)
  obtain ⟨A2, c2, rfl, hr2, _, _⟩ := HM2.out.open_ HE2.out
  have HR2 := Lib.hid hr2
  clear hr2
  have HW4 : Hid (s ≤ w4.heap.size) := Lib.hid (Nat.le_of_lt HZ4.out)
  go_wp2_with (first | (refine wpList_appB rfl _ _ rfl s _ 2 c2 v1 (digL 8 8 x.id) (digL 8 2 R) A2 rfl rfl HG1.out HR2.out (by omega) HW4.out (by rw [HE1.out]; omega) ?_) | fail)
  intro u1 w5 hm hg hw
  have HG2 := Lib.hid hm
  have HM3' := Lib.hid (HM3.out.apart hg (fun k hk e => by have := HU1.out k e; have := HU3.out k hk; have := HL2.out; omega))
  have HM4' := Lib.hid (HM4.out.apart hg (fun k hk e => by have := HU1.out k e; have := HU4.out k hk; have := HL2.out; have := HL3.out; omega))
  have HB5 : Hid (Below s w w5) := Lib.hid (HB4.out.grown hg HW4.out (fun k hk => (HG1.out.lt k hk).1))
  have HV : Hid (∀ k, u1.ownBlock = some k → k < w1.heap.size ∨ k = w4.heap.size) := Lib.hid fun k hk => by
    rcases hw with h | h
    · rw [h] at hk; exact .inl (HU1.out k hk)
    · rw [h] at hk; injection hk with e; exact .inr e.symm
  have HW5 : Hid (s ≤ w5.heap.size) := Lib.hid (Nat.le_trans HW4.out hg.size)
  clear hm hg hw HG1 HR2 HB4 HM1 HM2 HM3 HM4
  obtain ⟨A3, c3, rfl, hr3, _, _⟩ := HM3'.out.open_ HE3.out
  have HR3 := Lib.hid hr3
  clear hr3
  go_wp2_with (first | (refine wpList_appB rfl _ _ rfl s _ 8 c3 u1 (digL 8 8 x.id ++ digL 8 2 R) (digL 8 8 x.first) A3 rfl rfl HG2.out HR3.out (by omega) HW5.out (by rw [List.length_append, HE1.out, HE2.out]; omega) ?_) | fail)
  intro u2 w6 hm hg hw
  have HG3 := Lib.hid hm
  have HM4 := Lib.hid (HM4'.out.apart hg (fun k hk e => by have := HV.out k e; have := HU4.out k hk; have := HL2.out; have := HL3.out; omega))
  have HB6 : Hid (Below s w w6) := Lib.hid (HB5.out.grown hg HW5.out (fun k hk => (HG2.out.lt k hk).1))
  have HW6 : Hid (s ≤ w6.heap.size) := Lib.hid (Nat.le_trans HW5.out hg.size)
  clear hm hg hw HG2 HR3 HB5 HM3' HM4' HV
  obtain ⟨A4, c4, rfl, hr4, _, _⟩ := HM4.out.open_ HE4.out
  have HR4 := Lib.hid hr4
  clear hr4
  go_wp2_with (first | (refine wpList_appB rfl _ _ rfl s _ 8 c4 u2 (digL 8 8 x.id ++ digL 8 2 R ++ digL 8 8 x.first) (digL 8 8 x.pos) A4 rfl rfl HG3.out HR4.out (by omega) HW6.out (by rw [List.length_append, List.length_append, HE1.out, HE2.out, HE3.out]; omega) ?_) | fail)
  intro u3 w7 hm hg hw
  rw [HBD.out] at hm
  have HG4 := Lib.hid hm
  have HB7 : Hid (Below s w w7) := Lib.hid (HB6.out.grown hg HW6.out (fun k hk => (HG3.out.lt k hk).1))
  clear hm hg hw HG3 HB6 HR4 HM4
  go_wp2_with fail
  go_ret
  exact ⟨_, rfl, by rw [HSD.out]; exact HG4.out, by rw [HSD.out]; exact HB7.out⟩
set_option maxHeartbeats 2000000 in
theorem rmput (n : Nat) (x : Mrk) (w : World) (hn : n < 18446744073709551616) (hf : x.fit) :
    Calls Tryd.prog 8 #[.int .u64 n, mrk x] w fun e w' => e = .returned (.tuple #[blk (codM.pB ⟨n, x⟩), .int .i64 (codM.pE ⟨n, x⟩ : Nat)]) ∧ Below w.heap.size w w' := by
  obtain ⟨h1, h2, h3⟩ := boxM_new w x
  have HS := Lib.hid (h1.past (.cells (cel zeroB).toArray 26))
  have HB := Lib.hid (h2.alloc h2.size (.cells (cel zeroB).toArray 26))
  have HN := Lib.hid hn
  have HI := Lib.hid hf
  have HR : Hid (((w.alloc (.cells (celM x).toArray 24)).alloc (.cells (cel zeroB).toArray 26)).there (w.heap.size + 1) 0 64) := Lib.hid (by
    have := there_new (w.alloc (.cells (celM x).toArray 24)) zeroB 26
    rwa [World.size_alloc] at this)
  have HZ : Hid (w.heap.size + 1 < ((w.alloc (.cells (celM x).toArray 24)).alloc (.cells (cel zeroB).toArray 26)).heap.size) := Lib.hid (by simp only [World.size_alloc]; omega)
  clear h1 h2 h3 hn hf
  go_enter Tryd.func8, Tryd.ntmps8
  go_upto_region 1 with (first | (refine wpList_valn rfl (exec_boxM rfl rfl) ?_) | (refine wpList_valn rfl (exec_alloc rfl) ?_) | fail)
  try simp only [World.size_alloc]
  generalize (w.alloc (.cells (celM x).toArray 24)).alloc (.cells (cel zeroB).toArray 26) = w1 at *
  by_cases k0 : n < 1
  · have H0 : Hid (decide ((n : Int) < 1) = true) := Lib.hid (decide_eq_true (by omega))
    have hmay : ¬ codM.may ⟨n, x⟩ = true := by rw [codM_may, show evB n = false from decide_eq_false (by omega), Bool.false_and]; decide
    have HPB := Lib.hid (codM.pB_no hmay)
    have HPE := Lib.hid (codM.pE_no hmay)
    clear k0 hmay
    refine wp_region_lit ?_
    refine wpList_valn rfl (exec_mv rfl (ev rfl)) ?_
    simp only [Act.put, List.setIfInBounds_toArray, List.set_cons_succ, List.set_cons_zero]
    refine wpList_valn (v := .bool true) rfl (exec_lss true rfl (ev rfl) evk H0.out) ?_
    simp only [Act.put, List.setIfInBounds_toArray, List.set_cons_succ, List.set_cons_zero]
    refine wpList_skips 2 (v := .bool true) rfl (exec_mv rfl (ev rfl)) (by kernel_rfl) ?_
    simp only [skipAct, List.take_succ_cons, List.take_zero, List.drop_succ_cons, List.drop_zero, Act.put, List.setIfInBounds_toArray, List.set_cons_succ, List.set_cons_zero]
    refine wpList_valn (v := .bool true) rfl (exec_pt rfl (ev rfl) evk) ?_
    simp only [Act.put, List.setIfInBounds_toArray, List.set_cons_succ, List.set_cons_zero]
    refine wpList_skips 3 (v := .bool true) rfl (exec_mv rfl (ev rfl)) (by kernel_rfl) ?_
    simp only [skipAct, List.take_succ_cons, List.take_zero, List.drop_succ_cons, List.drop_zero, Act.put, List.setIfInBounds_toArray, List.set_cons_succ, List.set_cons_zero]
    refine wpList_valn (v := .bool true) rfl (exec_pt rfl (ev rfl) evk) ?_
    simp only [Act.put, List.setIfInBounds_toArray, List.set_cons_succ, List.set_cons_zero]
    refine wpList_nil ?_
    go_wp2_with (first | (refine wpList_valn rfl (exec_build (c := zeroB) (parts := []) rfl rfl) ?_) | (refine wpList_nuln rfl (exec_store (c := zeroB) rfl rfl rfl ?_) ?_; (with_reducible exact HR.out)) | fail)
    refine bodyPost_ret (res_blk2 rfl _ _ _ rfl (World.rangeAt_setCells_same _ _ _ _ (by rw [cel_length]; exact HR.out))) rfl ⟨by rw [HPB.out, HPE.out]; rfl, below_setCells HB.out (Nat.le_succ _) _⟩
  · have H0 : Hid (decide ((n : Int) < 1) = false) := Lib.hid (decide_eq_false (by omega))
    by_cases k1 : 4611686018427387904 < n
    · have H1 : Hid (decide ((4611686018427387904 : Int) < (n : Int)) = true) := Lib.hid (decide_eq_true (by omega))
      have hmay : ¬ codM.may ⟨n, x⟩ = true := by rw [codM_may, show evB n = false from decide_eq_false (by omega), Bool.false_and]; decide
      have HPB := Lib.hid (codM.pB_no hmay)
      have HPE := Lib.hid (codM.pE_no hmay)
      clear k0 k1 hmay
      refine wp_region_lit ?_
      refine wpList_valn rfl (exec_mv rfl (ev rfl)) ?_
      simp only [Act.put, List.setIfInBounds_toArray, List.set_cons_succ, List.set_cons_zero]
      refine wpList_valn (v := .bool false) rfl (exec_lss false rfl (ev rfl) evk H0.out) ?_
      simp only [Act.put, List.setIfInBounds_toArray, List.set_cons_succ, List.set_cons_zero]
      refine wpList_valn (v := .bool false) rfl (exec_mv rfl (ev rfl)) ?_
      simp only [Act.put, List.setIfInBounds_toArray, List.set_cons_succ, List.set_cons_zero]
      refine wpList_val (wanted_of rfl rfl rfl rfl) (exec_mv rfl (ev rfl)) ?_
      simp only [Act.put, List.setIfInBounds_toArray, List.set_cons_succ, List.set_cons_zero]
      refine wpList_val (v := .bool true) (wanted_of rfl rfl rfl rfl) (exec_gtr true rfl (ev rfl) evk H1.out) ?_
      simp only [Act.put, List.setIfInBounds_toArray, List.set_cons_succ, List.set_cons_zero]
      refine wpList_valn (v := .bool true) rfl (exec_pf rfl (ev rfl) (ev rfl)) ?_
      simp only [Act.put, List.setIfInBounds_toArray, List.set_cons_succ, List.set_cons_zero]
      refine wpList_skips 3 (v := .bool true) rfl (exec_mv rfl (ev rfl)) (by kernel_rfl) ?_
      simp only [skipAct, List.take_succ_cons, List.take_zero, List.drop_succ_cons, List.drop_zero, Act.put, List.setIfInBounds_toArray, List.set_cons_succ, List.set_cons_zero]
      refine wpList_valn (v := .bool true) rfl (exec_pt rfl (ev rfl) evk) ?_
      simp only [Act.put, List.setIfInBounds_toArray, List.set_cons_succ, List.set_cons_zero]
      refine wpList_nil ?_
      go_wp2_with (first | (refine wpList_valn rfl (exec_build (c := zeroB) (parts := []) rfl rfl) ?_) | (refine wpList_nuln rfl (exec_store (c := zeroB) rfl rfl rfl ?_) ?_; (with_reducible exact HR.out)) | fail)
      refine bodyPost_ret (res_blk2 rfl _ _ _ rfl (World.rangeAt_setCells_same _ _ _ _ (by rw [cel_length]; exact HR.out))) rfl ⟨by rw [HPB.out, HPE.out]; rfl, below_setCells HB.out (Nat.le_succ _) _⟩
    · have H1 : Hid (decide ((4611686018427387904 : Int) < (n : Int)) = false) := Lib.hid (decide_eq_false (by omega))
      have HEV : Hid (evB n = true) := Lib.hid (decide_eq_true (by omega))
      have HN0 : Hid (n ≠ 0) := Lib.hid (by omega)
      clear k0 k1
      by_cases hm : mrkB x = true
      · have HM := Lib.hid hm
        have hmay : codM.may ⟨n, x⟩ = true := by rw [codM_may, HEV.out, hm]; rfl
        have HPB : Hid (codM.pB ⟨n, x⟩ = putB n (bodyM x)) := Lib.hid (codM.pB_ok hmay)
        have HPE := Lib.hid (codM.pE_ok hmay)
        clear hm hmay
        refine wp_region_lit ?_
        refine wpList_valn rfl (exec_mv rfl (ev rfl)) ?_
        simp only [Act.put, List.setIfInBounds_toArray, List.set_cons_succ, List.set_cons_zero]
        refine wpList_valn (v := .bool false) rfl (exec_lss false rfl (ev rfl) evk H0.out) ?_
        simp only [Act.put, List.setIfInBounds_toArray, List.set_cons_succ, List.set_cons_zero]
        refine wpList_valn (v := .bool false) rfl (exec_mv rfl (ev rfl)) ?_
        simp only [Act.put, List.setIfInBounds_toArray, List.set_cons_succ, List.set_cons_zero]
        refine wpList_val (wanted_of rfl rfl rfl rfl) (exec_mv rfl (ev rfl)) ?_
        simp only [Act.put, List.setIfInBounds_toArray, List.set_cons_succ, List.set_cons_zero]
        refine wpList_val (v := .bool false) (wanted_of rfl rfl rfl rfl) (exec_gtr false rfl (ev rfl) evk H1.out) ?_
        simp only [Act.put, List.setIfInBounds_toArray, List.set_cons_succ, List.set_cons_zero]
        refine wpList_valn (v := .bool false) rfl (exec_pf rfl (ev rfl) (ev rfl)) ?_
        simp only [Act.put, List.setIfInBounds_toArray, List.set_cons_succ, List.set_cons_zero]
        refine wpList_valn (v := .bool false) rfl (exec_mv rfl (ev rfl)) ?_
        simp only [Act.put, List.setIfInBounds_toArray, List.set_cons_succ, List.set_cons_zero]
        refine wpList_val (wanted_of rfl rfl rfl rfl) (exec_loadM (c := x) rfl (ev rfl) HS.out.range) ?_
        simp only [Act.put, List.setIfInBounds_toArray, List.set_cons_succ, List.set_cons_zero]
        refine wpList_call (wanted_of rfl rfl rfl rfl) (exec_cl Tryd.call10 rfl (evc (ev rfl) evn)) ?_
        refine (rmmay_b x _ HM.out).mono ?_
        rintro e w2 ⟨rfl, hb⟩
        refine ⟨_, rfl, ?_⟩
        simp only [Act.put, List.setIfInBounds_toArray, List.set_cons_succ, List.set_cons_zero]
        refine wpList_val (v := .bool false) (wanted_of rfl rfl rfl rfl) (exec_not true rfl (ev rfl)) ?_
        simp only [Act.put, List.setIfInBounds_toArray, List.set_cons_succ, List.set_cons_zero]
        refine wpList_valn (v := .bool false) rfl (exec_pf rfl (ev rfl) (ev rfl)) ?_
        simp only [Act.put, List.setIfInBounds_toArray, List.set_cons_succ, List.set_cons_zero]
        refine wpList_nil ?_
        have HS2 := Lib.hid (HS.out.below (blk_lt HS.out) hb)
        have HB2 := Lib.hid (HB.out.trans (hb.mono HB.out.size))
        have HR2 := Lib.hid (there_below HR.out HZ.out hb)
        have HZ2 : Hid (w.heap.size + 1 < w2.heap.size) := Lib.hid (by have := hb.size; have := HZ.out; omega)
        clear hb HS HB HR HZ
        go_wp2_with (first | (refine wpList_valn rfl (exec_loadM (c := x) rfl rfl ?_) ?_; (with_reducible exact HS2.out.range)) | fail)
        refine (rmbody x w2 HI.out HM.out).mono ?_
        rintro e w3 ⟨v, rfl, hv, hb⟩
        obtain ⟨A, c, rfl, hrd, _, _⟩ := hv.open_ (bodyM_length x)
        have HRD := Lib.hid hrd
        have HB3 := Lib.hid (HB2.out.trans (hb.mono HB2.out.size))
        have HR3 := Lib.hid (there_below HR2.out HZ2.out hb)
        have HZ3 : Hid (w.heap.size + 1 < w3.heap.size) := Lib.hid (by have := hb.size; have := HZ2.out; omega)
        clear hb hv hrd HS2 HB2 HR2 HZ2
        go_wp2_with fail
        refine (rsput_all n 26 c _ A (bodyM x) w3 HN.out HRD.out (Nat.le_refl _) (by unfold maxLen; omega)).mono ?_
        rintro e w5 ⟨rfl, hb⟩
        rw [show putE n (bodyM x) = 0 from codM.body_putE ⟨n, x⟩ HN0.out]
        have HR5 := Lib.hid (there_below HR3.out HZ3.out hb)
        have HB5 := Lib.hid (HB3.out.trans (hb.mono HB3.out.size))
        clear hb HRD HR3 HZ3 HB3
        generalize putB n (bodyM x) = pb at *
        go_wp2_with (first | (refine wpList_nuln rfl (exec_store (c := pb) rfl rfl rfl ?_) ?_; (with_reducible exact HR5.out)) | fail)
        refine bodyPost_ret (res_blk2 rfl _ _ _ rfl (World.rangeAt_setCells_same _ _ _ _ (by rw [cel_length]; exact HR5.out))) rfl ⟨by rw [HPB.out, HPE.out]; rfl, below_setCells HB5.out (Nat.le_succ _) _⟩
      · have hm' : mrkB x = false := by simpa using hm
        have HM := Lib.hid hm'
        have hmay : ¬ codM.may ⟨n, x⟩ = true := by rw [codM_may, hm', Bool.and_false]; decide
        have HPB := Lib.hid (codM.pB_no hmay)
        have HPE := Lib.hid (codM.pE_no hmay)
        clear hm hm' hmay
        refine wp_region_lit ?_
        refine wpList_valn rfl (exec_mv rfl (ev rfl)) ?_
        simp only [Act.put, List.setIfInBounds_toArray, List.set_cons_succ, List.set_cons_zero]
        refine wpList_valn (v := .bool false) rfl (exec_lss false rfl (ev rfl) evk H0.out) ?_
        simp only [Act.put, List.setIfInBounds_toArray, List.set_cons_succ, List.set_cons_zero]
        refine wpList_valn (v := .bool false) rfl (exec_mv rfl (ev rfl)) ?_
        simp only [Act.put, List.setIfInBounds_toArray, List.set_cons_succ, List.set_cons_zero]
        refine wpList_val (wanted_of rfl rfl rfl rfl) (exec_mv rfl (ev rfl)) ?_
        simp only [Act.put, List.setIfInBounds_toArray, List.set_cons_succ, List.set_cons_zero]
        refine wpList_val (v := .bool false) (wanted_of rfl rfl rfl rfl) (exec_gtr false rfl (ev rfl) evk H1.out) ?_
        simp only [Act.put, List.setIfInBounds_toArray, List.set_cons_succ, List.set_cons_zero]
        refine wpList_valn (v := .bool false) rfl (exec_pf rfl (ev rfl) (ev rfl)) ?_
        simp only [Act.put, List.setIfInBounds_toArray, List.set_cons_succ, List.set_cons_zero]
        refine wpList_valn (v := .bool false) rfl (exec_mv rfl (ev rfl)) ?_
        simp only [Act.put, List.setIfInBounds_toArray, List.set_cons_succ, List.set_cons_zero]
        refine wpList_val (wanted_of rfl rfl rfl rfl) (exec_loadM (c := x) rfl (ev rfl) HS.out.range) ?_
        simp only [Act.put, List.setIfInBounds_toArray, List.set_cons_succ, List.set_cons_zero]
        refine wpList_call (wanted_of rfl rfl rfl rfl) (exec_cl Tryd.call10 rfl (evc (ev rfl) evn)) ?_
        refine (rmmay_b x _ HM.out).mono ?_
        rintro e w2 ⟨rfl, hb⟩
        refine ⟨_, rfl, ?_⟩
        simp only [Act.put, List.setIfInBounds_toArray, List.set_cons_succ, List.set_cons_zero]
        refine wpList_val (v := .bool true) (wanted_of rfl rfl rfl rfl) (exec_not false rfl (ev rfl)) ?_
        simp only [Act.put, List.setIfInBounds_toArray, List.set_cons_succ, List.set_cons_zero]
        refine wpList_valn (v := .bool true) rfl (exec_pf rfl (ev rfl) (ev rfl)) ?_
        simp only [Act.put, List.setIfInBounds_toArray, List.set_cons_succ, List.set_cons_zero]
        refine wpList_nil ?_
        have HB2 := Lib.hid (HB.out.trans (hb.mono HB.out.size))
        have HR2 := Lib.hid (there_below HR.out HZ.out hb)
        clear hb HS HB HR HZ
        go_wp2_with (first | (refine wpList_valn rfl (exec_build (c := zeroB) (parts := []) rfl rfl) ?_) | (refine wpList_nuln rfl (exec_store (c := zeroB) rfl rfl rfl ?_) ?_; (with_reducible exact HR2.out)) | fail)
        refine bodyPost_ret (res_blk2 rfl _ _ _ rfl (World.rangeAt_setCells_same _ _ _ _ (by rw [cel_length]; exact HR2.out))) rfl ⟨by rw [HPB.out, HPE.out]; rfl, below_setCells HB2.out (Nat.le_succ _) _⟩
end Go.Proofs.YtmdpbnolgbfaeaaDoor
