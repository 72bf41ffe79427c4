/-
  both: Read, Sure, Flush, Fail, Crash.
-/
import Derived.Test.YtokdmcikoaagmaaDboth
namespace Go.Proofs.Ytokdmcikoaagmaa
open Go.RowKit
set_option linter.unusedVariables false

set_option maxRecDepth 100000 in
set_option maxHeartbeats 2000000 in
theorem both_read (D : Dev) (w : World) (B pd pr : Nat) (S : List Blk) (L : List (Int × Blk)) (g : Bool) (a : ActT) (h : Twin D w B pd pr S L g) (hB : B ≤ w.heap.size) (hdo : a.Do = 1) :
    Calls Try.prog 11 #[.pointer (some ⟨pd, 0, none⟩), .pointer (some ⟨pr, 0, none⟩), actV a] w (Owes D w B pd pr L) := by
  have hA := (Below.refl w.heap.size w).alloc (Nat.le_refl _) (.cells (actC a).toArray 36)
  obtain ⟨c0, hbox⟩ := act_box (new1 w (actC a).toArray 36)
  rw [hdo] at c0
  have HT := Lib.hid (h.below hA)
  have HB1 := Lib.hid (hA.mono hB)
  have HSZ := Lib.hid (World.size_alloc w (.cells (actC a).toArray 36))
  clear hA h
  unfold Owes
  go_enter Try.func11, Try.ntmps11
  have c1 := hbox.1
  have c68 := hbox.2.2.2.2
  have HBX := Lib.hid hbox
  clear hbox
  go_wp2_with (first | (refine wpList_val rfl (exec_boxA rfl rfl) ?_) | fail)
  generalize hx : w.heap.size = x at *
  generalize w.alloc (.cells (actC a).toArray 36) = w1 at *
  have hT1 := HT.out
  obtain ⟨Fd, Fr, hd, hr, hdis, hfd, hfr⟩ := hT1
  refine (D.read a.N hd).mono ?_
  rintro e w2 ⟨rfl, hb2⟩
  have hbx2 := (HBX.out.below (by rw [HSZ.out]; omega) hb2).below (B := w2.heap.size) (by have := hb2.size; rw [HSZ.out] at this; omega) ((Below.refl _ _).alloc (Nat.le_refl _) (.cells (cel (readB S L g a.N)).toArray 33))
  have HT3 := Lib.hid ((HT.out.below hb2).below ((Below.refl _ _).alloc (Nat.le_refl _) (.cells (cel (readB S L g a.N)).toArray 33)))
  have hs2 := hb2.size
  rw [HSZ.out] at hs2
  have HB3 := Lib.hid ((HB1.out.trans (hb2.mono (by rw [HSZ.out]; omega))).alloc (by omega) (.cells (cel (readB S L g a.N)).toArray 33))
  have K3 := Lib.hid (new1 w2 (cel (readB S L g a.N)).toArray 33)
  have hs3 := World.size_alloc w2 (.cells (cel (readB S L g a.N)).toArray 33)
  have d1 := hbx2.1
  clear hb2 hd hr hdis hfd hfr HT HBX
  generalize hee : askE S g a.N = ee at *
  generalize hbb : readB S L g a.N = bb at *
  have HEE := Lib.hid hee
  have HBB := Lib.hid hbb
  clear hee hbb
  go_wp2_with (first | (refine wpList_val rfl (exec_alloc rfl) ?_) | (refine wpList_nul rfl (exec_fill rfl rfl rfl) ?_) | fail)
  generalize hy : w2.heap.size = y at *
  generalize w2.alloc (.cells (cel bb).toArray 33) = w3 at *
  have hT3 := HT3.out
  obtain ⟨Fd, Fr, hd, hr, hdis, hfd, hfr⟩ := hT3
  refine (rv_read a.N hr).mono ?_
  rintro e w4 ⟨rfl, hb4⟩
  rw [HEE.out, HBB.out]
  have HT5 := Lib.hid ((HT3.out.below hb4).below ((Below.refl _ _).alloc (Nat.le_refl _) (.cells (cel bb).toArray 33)))
  have hs4 := hb4.size
  have HB5 := Lib.hid ((HB3.out.trans (hb4.mono (by omega))).alloc (by omega) (.cells (cel bb).toArray 33))
  have HL1 := Lib.hid (blk_range (blk_past (blk_keep K3.out hb4) (.cells (cel bb).toArray 33)))
  have HL2 := Lib.hid (blk_range (new1 w4 (cel bb).toArray 33))
  clear hb4 hd hr hdis hfd hfr HT3 K3 d1 hbx2 c0 c1 c68
  go_wp2_with (first | (refine wpList_val rfl (exec_alloc rfl) ?_) | (refine wpList_nul rfl (exec_fill rfl rfl rfl) ?_) | (refine wpList_val rfl (exec_load rfl rfl HL1.out) ?_) | (refine wpList_val rfl (exec_load rfl rfl HL2.out) ?_) | (refine wpList_val rfl (exec_eql rfl rfl rfl) ?_))
  all_goals
    go_ret
    exact ⟨by simp, HB5.out, _, _, _, HT5.out, by omega⟩
set_option maxRecDepth 100000 in
set_option maxHeartbeats 2000000 in
theorem both_sure (D : Dev) (w : World) (B pd pr : Nat) (S : List Blk) (L : List (Int × Blk)) (g : Bool) (a : ActT) (h : Twin D w B pd pr S L g) (hB : B ≤ w.heap.size) (hdo : a.Do = 3) :
    Calls Try.prog 11 #[.pointer (some ⟨pd, 0, none⟩), .pointer (some ⟨pr, 0, none⟩), actV a] w (Owes D w B pd pr L) := by
  have hA := (Below.refl w.heap.size w).alloc (Nat.le_refl _) (.cells (actC a).toArray 36)
  obtain ⟨c0, hbox⟩ := act_box (new1 w (actC a).toArray 36)
  rw [hdo] at c0
  have HT := Lib.hid (h.below hA)
  have HB1 := Lib.hid (hA.mono hB)
  have HSZ := Lib.hid (World.size_alloc w (.cells (actC a).toArray 36))
  clear hA h
  unfold Owes
  go_enter Try.func11, Try.ntmps11
  have c1 := hbox.1
  have c68 := hbox.2.2.2.2
  have HBX := Lib.hid hbox
  clear hbox
  go_wp2_with (first | (refine wpList_val rfl (exec_boxA rfl rfl) ?_) | fail)
  generalize hx : w.heap.size = x at *
  generalize w.alloc (.cells (actC a).toArray 36) = w1 at *
  have hT1 := HT.out
  obtain ⟨Fd, Fr, hd, hr, hdis, hfd, hfr⟩ := hT1
  refine (D.sure a.N hd).mono ?_
  rintro e w2 ⟨rfl, hb2⟩
  have hbx2 := (HBX.out.below (by rw [HSZ.out]; omega) hb2).below (B := w2.heap.size) (by have := hb2.size; rw [HSZ.out] at this; omega) ((Below.refl _ _).alloc (Nat.le_refl _) (.cells (cel (sureB S g a.N)).toArray 33))
  have HT3 := Lib.hid ((HT.out.below hb2).below ((Below.refl _ _).alloc (Nat.le_refl _) (.cells (cel (sureB S g a.N)).toArray 33)))
  have hs2 := hb2.size
  rw [HSZ.out] at hs2
  have HB3 := Lib.hid ((HB1.out.trans (hb2.mono (by rw [HSZ.out]; omega))).alloc (by omega) (.cells (cel (sureB S g a.N)).toArray 33))
  have K3 := Lib.hid (new1 w2 (cel (sureB S g a.N)).toArray 33)
  have hs3 := World.size_alloc w2 (.cells (cel (sureB S g a.N)).toArray 33)
  have d1 := hbx2.1
  clear hb2 hd hr hdis hfd hfr HT HBX
  generalize hee : askE S g a.N = ee at *
  generalize hbb : sureB S g a.N = bb at *
  have HEE := Lib.hid hee
  have HBB := Lib.hid hbb
  clear hee hbb
  go_wp2_with (first | (refine wpList_val rfl (exec_alloc rfl) ?_) | (refine wpList_nul rfl (exec_fill rfl rfl rfl) ?_) | fail)
  generalize hy : w2.heap.size = y at *
  generalize w2.alloc (.cells (cel bb).toArray 33) = w3 at *
  have hT3 := HT3.out
  obtain ⟨Fd, Fr, hd, hr, hdis, hfd, hfr⟩ := hT3
  refine (rv_sure a.N hr).mono ?_
  rintro e w4 ⟨rfl, hb4⟩
  rw [HEE.out, HBB.out]
  have HT5 := Lib.hid ((HT3.out.below hb4).below ((Below.refl _ _).alloc (Nat.le_refl _) (.cells (cel bb).toArray 33)))
  have hs4 := hb4.size
  have HB5 := Lib.hid ((HB3.out.trans (hb4.mono (by omega))).alloc (by omega) (.cells (cel bb).toArray 33))
  have HL1 := Lib.hid (blk_range (blk_past (blk_keep K3.out hb4) (.cells (cel bb).toArray 33)))
  have HL2 := Lib.hid (blk_range (new1 w4 (cel bb).toArray 33))
  clear hb4 hd hr hdis hfd hfr HT3 K3 d1 hbx2 c0 c1 c68
  go_wp2_with (first | (refine wpList_val rfl (exec_alloc rfl) ?_) | (refine wpList_nul rfl (exec_fill rfl rfl rfl) ?_) | (refine wpList_val rfl (exec_load rfl rfl HL1.out) ?_) | (refine wpList_val rfl (exec_load rfl rfl HL2.out) ?_) | (refine wpList_val rfl (exec_eql rfl rfl rfl) ?_))
  all_goals
    go_ret
    exact ⟨by simp, HB5.out, _, _, _, HT5.out, by omega⟩
set_option maxRecDepth 100000 in
set_option maxHeartbeats 2000000 in
theorem both_flush (D : Dev) (w : World) (B pd pr : Nat) (S : List Blk) (L : List (Int × Blk)) (g : Bool) (a : ActT) (h : Twin D w B pd pr S L g) (hB : B ≤ w.heap.size) (hdo : a.Do = 2) :
    Calls Try.prog 11 #[.pointer (some ⟨pd, 0, none⟩), .pointer (some ⟨pr, 0, none⟩), actV a] w (Owes D w B pd pr L) := by
  have hA := (Below.refl w.heap.size w).alloc (Nat.le_refl _) (.cells (actC a).toArray 36)
  obtain ⟨c0, hbox⟩ := act_box (new1 w (actC a).toArray 36)
  rw [hdo] at c0
  have HT := Lib.hid (h.below hA)
  have HB1 := Lib.hid (hA.mono hB)
  have HSZ := Lib.hid (World.size_alloc w (.cells (actC a).toArray 36))
  clear hA h
  unfold Owes
  go_enter Try.func11, Try.ntmps11
  have c1 := hbox.1
  have c68 := hbox.2.2.2.2
  have HBX := Lib.hid hbox
  clear hbox
  go_wp2_with (first | (refine wpList_val rfl (exec_boxA rfl rfl) ?_) | fail)
  generalize hx : w.heap.size = x at *
  generalize w.alloc (.cells (actC a).toArray 36) = w1 at *
  have hT1 := HT.out
  obtain ⟨Fd, Fr, hd, hr, hdis, hfd, hfr⟩ := hT1
  have hsz1 : w1.heap.size = x + 1 := HSZ.out
  refine (D.flush hd).mono ?_
  rintro e w2 ⟨rfl, F2, hd2, ho2, hg2⟩
  obtain ⟨hr2, hdis2⟩ := Twin.first hr hdis ho2 hg2
  have hbw2 := HB1.out.trans (ho2.below hfd (by omega))
  have hfd2 := hg2.above hfd (by omega)
  have hs2 := ho2.size
  clear c0 c1 c68
  generalize hgg : (if g = true then (9 : Int) else 0) = gg at *
  have HGG := Lib.hid hgg
  clear hgg
  go_wp2_with fail
  refine (rv_flush hr2).mono ?_
  rintro e w3 ⟨rfl, F3, hr3, ho3, hg3⟩
  rw [HGG.out]
  obtain ⟨hd3, hdis3⟩ := Twin.second hd2 hdis2 ho3 hg3
  have hbw3 := hbw2.trans (ho3.below hfr (by omega))
  have hfr3 := hg3.above hfr (by omega)
  go_wp2_with fail
  go_ret
  exact ⟨by simp, hbw3, _, _, _, ⟨_, _, hd3, hr3, hdis3, hfd2, hfr3⟩, by (split <;> simp; try omega)⟩
set_option maxRecDepth 100000 in
set_option maxHeartbeats 2000000 in
theorem both_fail (D : Dev) (w : World) (B pd pr : Nat) (S : List Blk) (L : List (Int × Blk)) (g : Bool) (a : ActT) (h : Twin D w B pd pr S L g) (hB : B ≤ w.heap.size) (hdo : a.Do ≠ 0 ∧ a.Do ≠ 1 ∧ a.Do ≠ 2 ∧ a.Do ≠ 3 ∧ a.Do ≠ 4 ∧ a.Do ≠ 5) :
    Calls Try.prog 11 #[.pointer (some ⟨pd, 0, none⟩), .pointer (some ⟨pr, 0, none⟩), actV a] w (Owes D w B pd pr L) := by
  have hA := (Below.refl w.heap.size w).alloc (Nat.le_refl _) (.cells (actC a).toArray 36)
  obtain ⟨c0, hbox⟩ := act_box (new1 w (actC a).toArray 36)
  have HT := Lib.hid (h.below hA)
  have HB1 := Lib.hid (hA.mono hB)
  have HSZ := Lib.hid (World.size_alloc w (.cells (actC a).toArray 36))
  clear hA h
  unfold Owes
  go_enter Try.func11, Try.ntmps11
  have c1 := hbox.1
  have c68 := hbox.2.2.2.2
  have HBX := Lib.hid hbox
  clear hbox
  go_wp2_with (first | (refine wpList_val rfl (exec_boxA rfl rfl) ?_) | fail)
  generalize hx : w.heap.size = x at *
  generalize w.alloc (.cells (actC a).toArray 36) = w1 at *
  obtain ⟨n0, n1, n2, n3, n4, n5⟩ := hdo
  have hT1 := HT.out
  obtain ⟨Fd, Fr, hd, hr, hdis, hfd, hfr⟩ := hT1
  have hsz1 : w1.heap.size = x + 1 := HSZ.out
  refine (rv_fail hr).mono ?_
  rintro e w2 ⟨⟨v, rfl⟩, F3, hr3, ho3, hg3⟩
  obtain ⟨hd2, hdis2⟩ := Twin.second hd hdis ho3 hg3
  have hbw2 := HB1.out.trans (ho3.below hfr (by omega))
  have hfr3 := hg3.above hfr (by omega)
  have hs2 := ho3.size
  clear c0 c1 c68
  go_wp2_with fail
  refine (D.fail hd2).mono ?_
  rintro e w3 ⟨rfl, F2, hd3, ho2, hg2⟩
  obtain ⟨hr4, hdis3⟩ := Twin.first hr3 hdis2 ho2 hg2
  have hbw3 := hbw2.trans (ho2.below hfd (by omega))
  have hfd2 := hg2.above hfd (by omega)
  go_wp2_with fail
  go_ret
  exact ⟨rfl, hbw3, _, _, _, ⟨_, _, hd3, hr4, hdis3, hfd2, hfr3⟩, by simp⟩
set_option maxRecDepth 100000 in
set_option maxHeartbeats 2000000 in
theorem both_crash (D : Dev) (w : World) (B pd pr : Nat) (S : List Blk) (L : List (Int × Blk)) (g : Bool) (a : ActT) (h : Twin D w B pd pr S L g) (hB : B ≤ w.heap.size) (hP : ∃ P, RdE IntE w B a.A a.n P ∧ a.n ≤ a.c ∧ a.c ≤ maxLen) (hdo : a.Do = 5) :
    Calls Try.prog 11 #[.pointer (some ⟨pd, 0, none⟩), .pointer (some ⟨pr, 0, none⟩), actV a] w (Owes D w B pd pr L) := by
  have hA := (Below.refl w.heap.size w).alloc (Nat.le_refl _) (.cells (actC a).toArray 36)
  obtain ⟨c0, hbox⟩ := act_box (new1 w (actC a).toArray 36)
  obtain ⟨Fd, Fr, hd0, hr0, hdis, hfd, hfr⟩ := h
  have hxd : ¬ Fd w.heap.size := fun e => absurd (D.lt hd0 _ e) (Nat.lt_irrefl _)
  have HDD := Lib.hid (D.below hd0 hA)
  have HRR := Lib.hid (hr0.below hA)
  have h : Twin D w B pd pr S L g := ⟨Fd, Fr, hd0, hr0, hdis, hfd, hfr⟩
  clear hd0 hr0
  rw [hdo] at c0
  have HT := Lib.hid (h.below hA)
  have HB1 := Lib.hid (hA.mono hB)
  have HSZ := Lib.hid (World.size_alloc w (.cells (actC a).toArray 36))
  clear hA h
  unfold Owes
  go_enter Try.func11, Try.ntmps11
  have c1 := hbox.1
  have c68 := hbox.2.2.2.2
  have HBX := Lib.hid hbox
  clear hbox
  go_wp2_with (first | (refine wpList_val rfl (exec_boxA rfl rfl) ?_) | fail)
  generalize hx : w.heap.size = x at *
  generalize w.alloc (.cells (actC a).toArray 36) = w1 at *
  obtain ⟨P, hP, hPn, hPc⟩ := hP
  have hd := HDD.out
  have hr := HRR.out
  have hsz1 : w1.heap.size = x + 1 := HSZ.out
  have hnd : ∀ F : Nat → Prop, (∀ b, F b → B ≤ b) → ∀ y, a.A = some y → 0 < a.n → ¬ F y.block := fun F hF y hy hn hf => by
    obtain ⟨b, off, e, hb, _⟩ := hP.2 0 hn
    rw [hy] at e; injection e with e; subst e
    have := hF b hf
    omega
  have hP1 := (hP.below HB1.out).more (B' := w1.heap.size) (by omega)
  refine (D.crash hP1 hPn hPc (hnd Fd hfd) hd).mono ?_
  rintro e w2 ⟨rfl, F2, hd2, ho2, hg2⟩
  obtain ⟨hr2, hdis2⟩ := Twin.first hr hdis ho2 hg2
  have hbw2 := HB1.out.trans (ho2.below hfd (by omega))
  have hfd2 := hg2.above hfd (by omega)
  have hs2 := ho2.size
  have hP2 := (hP.below hbw2).more (B' := w2.heap.size) (by omega)
  have hb2x := HBX.out.only (by omega) ho2 hxd
  have e68 := hb2x.2.2.2.2
  clear c0 c1 c68
  generalize hmm : ((min L.length a.n : Nat) : Int) = mm at *
  have HMM := Lib.hid hmm
  clear hmm
  go_wp2_with fail
  refine (rv_crash hP2 (hnd Fr hfr) hr2).mono ?_
  rintro e w3 ⟨rfl, F3, hr3, ho3, hg3⟩
  rw [HMM.out]
  obtain ⟨hd3, hdis3⟩ := Twin.second hd2 hdis2 ho3 hg3
  have hbw3 := hbw2.trans (ho3.below hfr (by omega))
  have hfr3 := hg3.above hfr (by omega)
  go_wp2_with fail
  go_ret
  exact ⟨by simp, hbw3, _, _, _, ⟨_, _, hd3, hr3, hdis3, hfd2, hfr3⟩, by simp⟩
end Go.Proofs.Ytokdmcikoaagmaa
