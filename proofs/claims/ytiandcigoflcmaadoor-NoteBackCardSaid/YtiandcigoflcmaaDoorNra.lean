/-
  The document's note: Put.
-/
import Derived.Test.YtiandcigoflcmaaDoorNta
import Derived.Test.YtiandcigoflcmaaDoorSrp
import Derived.Test.YtiandcigoflcmaaDoorAppB
namespace Go.Proofs.YtiandcigoflcmaaDoor
open Go.RowKit
set_option linter.unusedVariables false
set_option linter.unusedSimpArgs false
set_option maxRecDepth 100000

theorem bodyNt_eq (x : Nte) {R : Nat} (h : x.cells.toNat = R) : digL 8 8 x.pos ++ (digL 8 2 R ++ digL 8 4 x.sum) = bodyNt x := by
  unfold bodyNt
  rw [h]
set_option maxHeartbeats 4000000 in
theorem rntput (x : Nte) (w : World) (hf : x.fit) :
    Calls Tryd.prog 8 #[nte x] w fun e w' => e = .returned (.tuple #[blk (codNt.pB x), .int .i64 (codNt.pE x : Nat)]) ∧ Below w.heap.size w w' := by
  obtain ⟨h1, h2, h3⟩ := boxNt_new w x
  have HS := Lib.hid (h1.past (.cells (cel zeroB).toArray 27))
  have HB := Lib.hid (h2.alloc h2.size (.cells (cel zeroB).toArray 27))
  have HI := Lib.hid hf
  have HR : Hid (((w.alloc (.cells (celNt x).toArray 25)).alloc (.cells (cel zeroB).toArray 27)).there (w.heap.size + 1) 0 64) := Lib.hid (by
    have := there_new (w.alloc (.cells (celNt x).toArray 25)) zeroB 27
    rwa [World.size_alloc] at this)
  have HZ : Hid (w.heap.size + 1 < ((w.alloc (.cells (celNt x).toArray 25)).alloc (.cells (cel zeroB).toArray 27)).heap.size) := Lib.hid (by simp only [World.size_alloc]; omega)
  clear h1 h2 h3 hf
  go_enter Tryd.func8, Tryd.ntmps8
  go_wp2_with (first | (refine wpList_valn rfl (exec_boxNt rfl rfl) ?_) | (refine wpList_valn rfl (exec_alloc rfl) ?_) | (refine wpList_valn rfl (exec_loadNt (c := x) rfl rfl ?_) ?_; (with_reducible exact HS.out.range)) | fail)
  try simp only [World.size_alloc]
  generalize (w.alloc (.cells (celNt x).toArray 25)).alloc (.cells (cel zeroB).toArray 27) = w1 at *
  refine (rntmay x w1).mono ?_
  rintro e a0 ⟨rfl, hb⟩
  have HS0 := Lib.hid (HS.out.below (blk_lt HS.out) hb)
  have HB2 := Lib.hid (HB.out.trans (hb.mono HB.out.size))
  have HR2 := Lib.hid (there_below HR.out HZ.out hb)
  have HZ2 : Hid (w.heap.size + 1 < a0.heap.size) := Lib.hid (by have := hb.size; have := HZ.out; omega)
  clear hb HS HB HR HZ
  by_cases hm : nteB x = true
  · rw [hm]
    have HM := Lib.hid hm
    obtain ⟨-, -, -, q1, q2⟩ := of_nteB hm
    obtain ⟨f1, f2, f3⟩ := HI.out
    obtain ⟨R, hR⟩ : ∃ R : Nat, x.cells.toNat = R := ⟨_, rfl⟩
    have HBD := Lib.hid (bodyNt_eq x hR)
    have hR32 : R ≤ 32 := by omega
    have HPB : Hid (codNt.pB x = putB x.seq (bodyNt x)) := Lib.hid (codNt.pB_ok hm)
    have HPE := Lib.hid (codNt.pE_ok hm)
    have HN0 : Hid (x.seq ≠ 0) := Lib.hid (by have := (of_nteB hm).1; omega)
    have HC : Hid (∀ w' s, NteAt w' s x → w'.cell? ⟨s, 0, none⟩ = some (.int .u64 x.seq) ∧ w'.cell? ⟨s, 1, none⟩ = some (.int .u64 x.pos) ∧ w'.cell? ⟨s, 2, none⟩ = some (.int .i64 (R : Nat)) ∧ w'.cell? ⟨s, 3, none⟩ = some (.int .u32 x.sum)) := Lib.hid fun w' s h => by
      have := h.cells
      rw [show x.cells = (R : Int) from by omega] at this
      exact this
    have HF1 := Lib.hid f1
    have HF2 := Lib.hid f2
    have HF3 := Lib.hid f3
    have HB0 := Lib.hid (Below.refl a0.heap.size a0)
    have HSB := HS0
    have HT0 := Lib.hid (Nat.le_refl a0.heap.size)
    clear q1 q2 f1 f2 f3 hR hm
    obtain ⟨c0, c1, c2, c3⟩ := HC.out _ _ HS0.out
    go_wp2_with (first | (refine wpList_valn rfl (exec_cv32 rfl rfl HF3.out) ?_) | fail)
    clear c0 c1 c2 c3
    refine (rput_ok x.pos 8 _ a0 (Lib.hid rfl) HF2.out (by omega) (by omega) (by have := HF2.out; simpa using this)).mono ?_
    rintro e a1 ⟨v1, rfl, hm, hb⟩
    have HM1 := Lib.hid hm
    have HU1 : Hid (∀ k, v1.ownBlock = some k → k < a1.heap.size) := Lib.hid fun k hk => (hm.lt k hk).2
    have HS1 := Lib.hid (HS0.out.below (blk_lt HS0.out) hb)
    have HBq1 := Lib.hid (HB0.out.trans (hb.mono HT0.out))
    have HT1 : Hid (a0.heap.size ≤ a1.heap.size) := Lib.hid (Nat.le_trans HT0.out hb.size)
    have HL1 := Lib.hid hb.size
    clear hm hb HS0 HB0
    obtain ⟨c0, c1, c2, c3⟩ := HC.out _ _ HS1.out
    go_wp2_with (first | (refine wpList_valn rfl (exec_cv32 rfl rfl HF3.out) ?_) | fail)
    clear c0 c1 c2 c3
    refine (rput_ok R 2 _ a1 (Lib.hid rfl) (by omega) (by omega) (by omega) (by omega)).mono ?_
    rintro e a2 ⟨v2, rfl, hm, hb⟩
    have HM2 := Lib.hid hm
    have HM1 := Lib.hid (HM1.out.below hb)
    have HS2 := Lib.hid (HS1.out.below (blk_lt HS1.out) hb)
    have HBq2 := Lib.hid (HBq1.out.trans (hb.mono HT1.out))
    have HT2 : Hid (a0.heap.size ≤ a2.heap.size) := Lib.hid (Nat.le_trans HT1.out hb.size)
    have HL2 := Lib.hid hb.size
    clear hm hb HS1 HBq1
    obtain ⟨c0, c1, c2, c3⟩ := HC.out _ _ HS2.out
    go_wp2_with (first | (refine wpList_valn rfl (exec_cv32 rfl rfl HF3.out) ?_) | fail)
    clear c0 c1 c2 c3
    refine (rput_ok x.sum 4 _ a2 (Lib.hid rfl) (by have := HF3.out; omega) (by omega) (by omega) (by have := HF3.out; simpa using this)).mono ?_
    rintro e a3 ⟨v3, rfl, hm, hb⟩
    have HM3 := Lib.hid hm
    have HU3 : Hid (∀ k, v3.ownBlock = some k → a2.heap.size ≤ k) := Lib.hid fun k hk => (hm.lt k hk).1
    have HM1 := Lib.hid (HM1.out.below hb)
    have HM2 := Lib.hid (HM2.out.below hb)
    have HS3 := Lib.hid (HS2.out.below (blk_lt HS2.out) hb)
    have HBq3 := Lib.hid (HBq2.out.trans (hb.mono HT2.out))
    have HT3 : Hid (a0.heap.size ≤ a3.heap.size) := Lib.hid (Nat.le_trans HT2.out hb.size)
    have HL3 := Lib.hid hb.size
    clear hm hb HS2 HBq2
    have HG1 : Hid (Made a3 a0.heap.size v1 (digL 8 8 x.pos)) := HM1
    have HE1 := Lib.hid (length_digL 8 8 x.pos)
    have HE2 := Lib.hid (length_digL 8 2 R)
    have HE3 := Lib.hid (length_digL 8 4 x.sum)
    obtain ⟨A2, c2, rfl, hr2, _, _⟩ := HM2.out.open_ HE2.out
    have HRD2 := Lib.hid hr2
    clear hr2
    go_wp2_with (first | (refine wpList_appB rfl _ _ rfl a0.heap.size _ 2 c2 v1 (digL 8 8 x.pos) (digL 8 2 R) A2 rfl rfl HG1.out HRD2.out (by omega) HT3.out (by rw [HE1.out]; omega) ?_) | fail)
    intro u1 a4 hm hg hw
    have HG2 := Lib.hid hm
    have HM3' := Lib.hid (HM3.out.apart hg (fun k hk e => by have := HU1.out k e; have := HU3.out k hk; have := HL2.out; omega))
    have HBq4 : Hid (Below a0.heap.size a0 a4) := Lib.hid (HBq3.out.grown hg HT3.out (fun k hk => (HG1.out.lt k hk).1))
    have HT4 : Hid (a0.heap.size ≤ a4.heap.size) := Lib.hid (Nat.le_trans HT3.out hg.size)
    clear hm hg hw HG1 HRD2 HBq3 HM1 HM2 HM3
    obtain ⟨A3, c3, rfl, hr3, _, _⟩ := HM3'.out.open_ HE3.out
    have HRD3 := Lib.hid hr3
    clear hr3
    go_wp2_with (first | (refine wpList_appB rfl _ _ rfl a0.heap.size _ 4 c3 u1 (digL 8 8 x.pos ++ digL 8 2 R) (digL 8 4 x.sum) A3 rfl rfl HG2.out HRD3.out (by omega) HT4.out (by rw [List.length_append, HE1.out, HE2.out]; omega) ?_) | fail)
    intro u2 a5 hm hg hw
    rw [HBD.out] at hm
    have HBq5 : Hid (Below a0.heap.size a0 a5) := Lib.hid (HBq4.out.grown hg HT4.out (fun k hk => (HG2.out.lt k hk).1))
    obtain ⟨A4, c4, rfl, hr4, _, _⟩ := hm.open_ (bodyNt_length x)
    have HRD4 := Lib.hid hr4
    have HS5 := Lib.hid (HSB.out.below (blk_lt HSB.out) HBq5.out)
    have HB5 := Lib.hid (HB2.out.trans (HBq5.out.mono HB2.out.size))
    have HR5 := Lib.hid (there_below HR2.out HZ2.out HBq5.out)
    have HZ5 : Hid (w.heap.size + 1 < a5.heap.size) := Lib.hid (Nat.lt_of_lt_of_le HZ2.out HBq5.out.size)
    obtain ⟨c0, -, -, -⟩ := HC.out _ _ HS5.out
    clear hm hg hw hr4 HG2 HRD3 HM3' HBq4
    go_wp2_with fail
    clear c0
    refine (rsput_all x.seq 14 c4 _ A4 (bodyNt x) a5 HF1.out HRD4.out (Nat.le_refl _) (by unfold maxLen; omega)).mono ?_
    rintro e a6 ⟨rfl, hb⟩
    rw [show putE x.seq (bodyNt x) = 0 from codNt.body_putE x HN0.out]
    have HR6 := Lib.hid (there_below HR5.out HZ5.out hb)
    have HB6 := Lib.hid (HB5.out.trans (hb.mono HB5.out.size))
    clear hb HRD4 HR5 HZ5 HB5
    generalize putB x.seq (bodyNt x) = pb at *
    go_wp2_with (first | (refine wpList_nuln rfl (exec_store (c := pb) rfl rfl rfl ?_) ?_; (with_reducible exact HR6.out)) | fail)
    refine bodyPost_ret (res_blk2 rfl _ _ _ rfl (World.rangeAt_setCells_same _ _ _ _ (by rw [cel_length]; exact HR6.out))) rfl ⟨by rw [HPB.out, HPE.out]; rfl, below_setCells HB6.out (Nat.le_succ _) _⟩
  · have hm' : nteB x = false := by simpa using hm
    have hmay : ¬ codNt.may x = true := hm
    have HPB := Lib.hid (codNt.pB_no hmay)
    have HPE := Lib.hid (codNt.pE_no hmay)
    rw [hm']
    clear hm hm' hmay
    go_wp2_with (first | (refine wpList_valn rfl (exec_build (c := zeroB) (parts := []) rfl rfl) ?_) | (refine wpList_nuln rfl (exec_store (c := zeroB) rfl rfl rfl ?_) ?_; (with_reducible exact HR2.out)) | fail)
    refine bodyPost_ret (res_blk2 rfl _ _ _ rfl (World.rangeAt_setCells_same _ _ _ _ (by rw [cel_length]; exact HR2.out))) rfl ⟨by rw [HPB.out, HPE.out]; rfl, below_setCells HB2.out (Nat.le_succ _) _⟩
end Go.Proofs.YtiandcigoflcmaaDoor
