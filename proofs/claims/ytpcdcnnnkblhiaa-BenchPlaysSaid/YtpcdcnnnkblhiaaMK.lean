/-
  both: an act, done to a bench of the program and to the document's one: the answers are the same, and both have the same afterwards.
  both: an act that reads; any act.
  alike: a bench has what the document's one has.
  BenchPlays' walk.
-/
import Derived.Test.YtpcdcnnnkblhiaaMJ
import Derived.Test.YtpcdcnnnkblhiaaMI
namespace Go.Proofs.Ytpcdcnnnkblhiaa
open Go.RowKit
set_option linter.unusedVariables false
set_option maxRecDepth 100000

/-- A bench of the program and the document's one have the same; they share no block, and lie from block B on. -/
def Twin6 (P : BenP) (R : BenR) (w : World) (B pd pr : Nat) (M : BenS) : Prop :=
  ∃ Fd Fr, P.Bn w Fd pd M ∧ R.Bn w Fr pr M ∧ (∀ b, Fd b → ¬ Fr b) ∧ (∀ b, Fd b → B ≤ b) ∧ (∀ b, Fr b → B ≤ b)
theorem Twin6.below {P : BenP} {R : BenR} {w w' : World} {B pd pr : Nat} {M : BenS} (h : Twin6 P R w B pd pr M) (k : Below w.heap.size w w') : Twin6 P R w' B pd pr M := by
  obtain ⟨Fd, Fr, h1, h2, h3, h4, h5⟩ := h
  exact ⟨Fd, Fr, P.toBen.below h1 k, R.toBen.below h2 k, h3, h4, h5⟩
/-- What 'both' owes. -/
def Owes6 (P : BenP) (R : BenR) (w : World) (B pd pr : Nat) (M : BenS) (e : Ending) (w' : World) : Prop := e = .returned (.bool true) ∧ Below B w w' ∧ ∃ M', Twin6 P R w' B pd pr M' ∧ ∀ k, Room M (k + 1) → Room M' k
set_option maxHeartbeats 2000000 in
theorem both6_write (P : BenP) (R : BenR) {w : World} {B pd pr : Nat} {M : BenS} {a : Act6} (h : Twin6 P R w B pd pr M) (hB : B ≤ w.heap.size) (hR : Room M 1) (hdo : a.Do = 0) :
    Calls Try.prog 11 #[.pointer (some ⟨pd, 0, none⟩), .pointer (some ⟨pr, 0, none⟩), act6V a] w (Owes6 P R w B pd pr M) := by
  have hA := (Below.refl w.heap.size w).alloc (Nat.le_refl _) (.cells (act6C a).toArray 36)
  obtain ⟨c0, hbox⟩ := act6_box (new1 w (act6C a).toArray 36)
  rw [hdo] at c0
  have HBX := Lib.hid hbox
  obtain ⟨Fd, Fr, hd, hr, hdis, hfd, hfr⟩ := h
  have hxd : ¬ Fd w.heap.size := fun e => absurd (P.lt hd _ e) (Nat.lt_irrefl _)
  have hxr : ¬ Fr w.heap.size := fun e => absurd (R.lt hr _ e) (Nat.lt_irrefl _)
  have HD := Lib.hid (P.toBen.below hd hA)
  have HR := Lib.hid (R.toBen.below hr hA)
  have HB1 := Lib.hid (hA.mono hB)
  have HSZ := Lib.hid (World.size_alloc w (.cells (act6C a).toArray 36))
  clear hA hbox hd hr
  unfold Owes6
  go_enter Try.func11, Try.ntmps11
  go_wp2_with (first | (refine wpList_val rfl (exec_boxA6 rfl rfl) ?_) | fail)
  generalize hx : w.heap.size = x at *
  generalize w.alloc (.cells (act6C a).toArray 36) = w1 at *
  refine wp_region_last (fun w' => Hid (Act6At w' x a)) 17 (by kernel_rfl) ?_
  change wpAnyZ _ _ _ _ _ _ 18 _ _ w1.drew
  have hS : Hid (Act6At w1.drew x a) := Lib.hid HBX.out
  refine last_val 0 rfl (by kernel_rfl) (by kernel_rfl) (by kernel_rfl) (by decide) (by kernel_rfl) rfl (fun w' hw => exec_mv rfl (ev rfl)) (fun _ _ _ h => h) hS ?_
  simp only [Act.put, List.setIfInBounds_toArray, List.set_cons_succ, List.set_cons_zero]
  refine last_val 1 rfl (by kernel_rfl) (by kernel_rfl) (by kernel_rfl) (by decide) (by kernel_rfl) rfl (fun w' hw => exec_faddr rfl (ev rfl) faT1) (fun _ _ _ h => h) hS ?_
  simp only [Act.put, List.setIfInBounds_toArray, List.set_cons_succ, List.set_cons_zero]
  refine last_val 2 rfl (by kernel_rfl) (by kernel_rfl) (by kernel_rfl) (by decide) (by kernel_rfl) rfl (fun w' hw => exec_ld rfl (ev rfl) (ldI hw.out.1)) (fun _ _ _ h => h) hS ?_
  simp only [Act.put, List.setIfInBounds_toArray, List.set_cons_succ, List.set_cons_zero]
  refine last_val 3 rfl (by kernel_rfl) (by kernel_rfl) (by kernel_rfl) (by decide) (by kernel_rfl) rfl (fun w' hw => exec_faddr rfl (ev rfl) faT2) (fun _ _ _ h => h) hS ?_
  simp only [Act.put, List.setIfInBounds_toArray, List.set_cons_succ, List.set_cons_zero]
  refine last_val 4 rfl (by kernel_rfl) (by kernel_rfl) (by kernel_rfl) (by decide) (by kernel_rfl) rfl (fun w' hw => exec_ld rfl (ev rfl) (ldI hw.out.2.1)) (fun _ _ _ h => h) hS ?_
  simp only [Act.put, List.setIfInBounds_toArray, List.set_cons_succ, List.set_cons_zero]
  refine last_val 5 rfl (by kernel_rfl) (by kernel_rfl) (by kernel_rfl) (by decide) (by kernel_rfl) rfl (fun w' hw => exec_faddr rfl (ev rfl) faT5) (fun _ _ _ h => h) hS ?_
  simp only [Act.put, List.setIfInBounds_toArray, List.set_cons_succ, List.set_cons_zero]
  refine last_val 6 rfl (by kernel_rfl) (by kernel_rfl) (by kernel_rfl) (by decide) (by kernel_rfl) rfl (fun w' hw => exec_load rfl (ev rfl) hw.out.2.2.2.2.1) (fun _ _ _ h => h) hS ?_
  simp only [Act.put, List.setIfInBounds_toArray, List.set_cons_succ, List.set_cons_zero]
  refine last_val 8 rfl (by kernel_rfl) (by kernel_rfl) (by kernel_rfl) (by decide) (by kernel_rfl) rfl (fun w' hw => exec_mv rfl (ev rfl)) (fun _ _ _ h => h) hS ?_
  simp only [Act.put, List.setIfInBounds_toArray, List.set_cons_succ, List.set_cons_zero]
  refine last_val 9 rfl (by kernel_rfl) (by kernel_rfl) (by kernel_rfl) (by decide) (by kernel_rfl) rfl (fun w' hw => exec_faddr rfl (ev rfl) faT1) (fun _ _ _ h => h) hS ?_
  simp only [Act.put, List.setIfInBounds_toArray, List.set_cons_succ, List.set_cons_zero]
  refine last_val 10 rfl (by kernel_rfl) (by kernel_rfl) (by kernel_rfl) (by decide) (by kernel_rfl) rfl (fun w' hw => exec_ld rfl (ev rfl) (ldI hw.out.1)) (fun _ _ _ h => h) hS ?_
  simp only [Act.put, List.setIfInBounds_toArray, List.set_cons_succ, List.set_cons_zero]
  refine last_val 11 rfl (by kernel_rfl) (by kernel_rfl) (by kernel_rfl) (by decide) (by kernel_rfl) rfl (fun w' hw => exec_faddr rfl (ev rfl) faT2) (fun _ _ _ h => h) hS ?_
  simp only [Act.put, List.setIfInBounds_toArray, List.set_cons_succ, List.set_cons_zero]
  refine last_val 12 rfl (by kernel_rfl) (by kernel_rfl) (by kernel_rfl) (by decide) (by kernel_rfl) rfl (fun w' hw => exec_ld rfl (ev rfl) (ldI hw.out.2.1)) (fun _ _ _ h => h) hS ?_
  simp only [Act.put, List.setIfInBounds_toArray, List.set_cons_succ, List.set_cons_zero]
  refine last_val 13 rfl (by kernel_rfl) (by kernel_rfl) (by kernel_rfl) (by decide) (by kernel_rfl) rfl (fun w' hw => exec_faddr rfl (ev rfl) faT5) (fun _ _ _ h => h) hS ?_
  simp only [Act.put, List.setIfInBounds_toArray, List.set_cons_succ, List.set_cons_zero]
  refine last_val 14 rfl (by kernel_rfl) (by kernel_rfl) (by kernel_rfl) (by decide) (by kernel_rfl) rfl (fun w' hw => exec_load rfl (ev rfl) hw.out.2.2.2.2.1) (fun _ _ _ h => h) hS ?_
  simp only [Act.put, List.setIfInBounds_toArray, List.set_cons_succ, List.set_cons_zero]
  have hd1 := P.toBen.below HD.out (bd (Below.refl _ _))
  have hr1 := R.toBen.below HR.out (bd (Below.refl _ _))
  have hbw : Below B w w1.drew := bd HB1.out
  have hsz1 : w1.drew.heap.size = x + 1 := HSZ.out
  refine last_call 7 rfl (by kernel_rfl) rfl (exec_cl Try.call19 rfl (evc (ev rfl) (evc (ev rfl) (evc (ev rfl) (evc (ev rfl) evn))))) ((P.write a.D a.N a.B hR hd1).mono ?_)
  rintro e w2 ⟨rfl, F2, hd2, ho2, hg2⟩
  have hr2 := R.only hr1 ho2 fun b hb hf => hdis b hf hb
  have hdis2 : ∀ b, F2 b → ¬ Fr b := fun b hb hf => by
    rcases hg2 b hb with e | e
    · exact hdis b e hf
    · have := R.lt hr1 b hf; omega
  have hS2 : Hid (Act6At w2 x a) := Lib.hid (hS.out.only (by omega) ho2 hxd)
  have hbw2 := hbw.trans (ho2.below hfd (by omega))
  have hfd2 := hg2.above hfd (by omega)
  have hs2 := ho2.size
  refine ⟨_, rfl, fun _ => hS2, ?_⟩
  simp only [Act.put, List.setIfInBounds_toArray, List.set_cons_succ, List.set_cons_zero]
  refine last_call 15 rfl (by kernel_rfl) rfl (exec_cl Try.call37 rfl (evc (ev rfl) (evc (ev rfl) (evc (ev rfl) (evc (ev rfl) evn))))) ((R.write a.D a.N a.B hR hr2).mono ?_)
  rintro e w3 ⟨rfl, F3, hr3, ho3, hg3⟩
  have hd3 := P.only hd2 ho3 fun b hb hf => hdis2 b hb hf
  have hdis3 : ∀ b, F2 b → ¬ F3 b := fun b hb hf => by
    rcases hg3 b hf with e | e
    · exact hdis2 b hb e
    · have := P.lt hd2 b hb; omega
  have hS3 : Hid (Act6At w3 x a) := Lib.hid (hS2.out.only (by omega) ho3 hxr)
  have hbw3 := hbw2.trans (ho3.below hfr (by omega))
  have hfr3 := hg3.above hfr (by omega)
  refine ⟨_, rfl, fun _ => hS3, ?_⟩
  simp only [Act.put, List.setIfInBounds_toArray, List.set_cons_succ, List.set_cons_zero]
  refine last_turn 16 rfl (by kernel_rfl) rfl (exec_eqInt true rfl (ev rfl) (ev rfl) (beq_self_eq_true _)) (fun _ => hS3) ?_
  simp only [Act.put, List.setIfInBounds_toArray, List.set_cons_succ, List.set_cons_zero]
  refine last_turn 17 rfl (by kernel_rfl) rfl (exec_as rfl (ev rfl)) (fun e => absurd rfl e) ?_
  simp only [Act.put, List.setIfInBounds_toArray, List.set_cons_succ, List.set_cons_zero]
  refine wpAnyZ_done (by kernel_rfl) ?_ _
  have HEND : Hid (∃ M', Twin6 P R w3 B pd pr M' ∧ ∀ k, Room M (k + 1) → Room M' k) := Lib.hid ⟨_, ⟨F2, F3, hd3, hr3, hdis3, hfd2, hfr3⟩, fun k hk => room_wr hk _ _ _⟩
  have HBW := Lib.hid hbw3
  clear hd3 hr3 hdis3 hfd2 hfr3 hbw3
  go_wp2_with fail
  go_ret
  exact ⟨rfl, HBW.out, HEND.out⟩
set_option maxHeartbeats 2000000 in
theorem both6_flush (P : BenP) (R : BenR) {w : World} {B pd pr : Nat} {M : BenS} {a : Act6} (h : Twin6 P R w B pd pr M) (hB : B ≤ w.heap.size) (hR : Room M 1) (hdo : a.Do = 2) :
    Calls Try.prog 11 #[.pointer (some ⟨pd, 0, none⟩), .pointer (some ⟨pr, 0, none⟩), act6V a] w (Owes6 P R w B pd pr M) := by
  have hA := (Below.refl w.heap.size w).alloc (Nat.le_refl _) (.cells (act6C a).toArray 36)
  obtain ⟨c0, hbox⟩ := act6_box (new1 w (act6C a).toArray 36)
  rw [hdo] at c0
  have HBX := Lib.hid hbox
  obtain ⟨Fd, Fr, hd, hr, hdis, hfd, hfr⟩ := h
  have hxd : ¬ Fd w.heap.size := fun e => absurd (P.lt hd _ e) (Nat.lt_irrefl _)
  have hxr : ¬ Fr w.heap.size := fun e => absurd (R.lt hr _ e) (Nat.lt_irrefl _)
  have HD := Lib.hid (P.toBen.below hd hA)
  have HR := Lib.hid (R.toBen.below hr hA)
  have HB1 := Lib.hid (hA.mono hB)
  have HSZ := Lib.hid (World.size_alloc w (.cells (act6C a).toArray 36))
  clear hA hbox hd hr
  unfold Owes6
  go_enter Try.func11, Try.ntmps11
  go_wp2_with (first | (refine wpList_val rfl (exec_boxA6 rfl rfl) ?_) | fail)
  generalize hx : w.heap.size = x at *
  generalize w.alloc (.cells (act6C a).toArray 36) = w1 at *
  refine wp_region_last (fun w' => Hid (Act6At w' x a)) 9 (by kernel_rfl) ?_
  change wpAnyZ _ _ _ _ _ _ 10 _ _ w1.drew
  have hS : Hid (Act6At w1.drew x a) := Lib.hid HBX.out
  refine last_val 0 rfl (by kernel_rfl) (by kernel_rfl) (by kernel_rfl) (by decide) (by kernel_rfl) rfl (fun w' hw => exec_mv rfl (ev rfl)) (fun _ _ _ h => h) hS ?_
  simp only [Act.put, List.setIfInBounds_toArray, List.set_cons_succ, List.set_cons_zero]
  refine last_val 1 rfl (by kernel_rfl) (by kernel_rfl) (by kernel_rfl) (by decide) (by kernel_rfl) rfl (fun w' hw => exec_faddr rfl (ev rfl) faT1) (fun _ _ _ h => h) hS ?_
  simp only [Act.put, List.setIfInBounds_toArray, List.set_cons_succ, List.set_cons_zero]
  refine last_val 2 rfl (by kernel_rfl) (by kernel_rfl) (by kernel_rfl) (by decide) (by kernel_rfl) rfl (fun w' hw => exec_ld rfl (ev rfl) (ldI hw.out.1)) (fun _ _ _ h => h) hS ?_
  simp only [Act.put, List.setIfInBounds_toArray, List.set_cons_succ, List.set_cons_zero]
  refine last_val 4 rfl (by kernel_rfl) (by kernel_rfl) (by kernel_rfl) (by decide) (by kernel_rfl) rfl (fun w' hw => exec_mv rfl (ev rfl)) (fun _ _ _ h => h) hS ?_
  simp only [Act.put, List.setIfInBounds_toArray, List.set_cons_succ, List.set_cons_zero]
  refine last_val 5 rfl (by kernel_rfl) (by kernel_rfl) (by kernel_rfl) (by decide) (by kernel_rfl) rfl (fun w' hw => exec_faddr rfl (ev rfl) faT1) (fun _ _ _ h => h) hS ?_
  simp only [Act.put, List.setIfInBounds_toArray, List.set_cons_succ, List.set_cons_zero]
  refine last_val 6 rfl (by kernel_rfl) (by kernel_rfl) (by kernel_rfl) (by decide) (by kernel_rfl) rfl (fun w' hw => exec_ld rfl (ev rfl) (ldI hw.out.1)) (fun _ _ _ h => h) hS ?_
  simp only [Act.put, List.setIfInBounds_toArray, List.set_cons_succ, List.set_cons_zero]
  have hd1 := P.toBen.below HD.out (bd (Below.refl _ _))
  have hr1 := R.toBen.below HR.out (bd (Below.refl _ _))
  have hbw : Below B w w1.drew := bd HB1.out
  have hsz1 : w1.drew.heap.size = x + 1 := HSZ.out
  refine last_call 3 rfl (by kernel_rfl) rfl (exec_cl Try.call18 rfl (evc (ev rfl) (evc (ev rfl) evn))) ((P.flush a.D hR hd1).mono ?_)
  rintro e w2 ⟨rfl, F2, hd2, ho2, hg2⟩
  have hr2 := R.only hr1 ho2 fun b hb hf => hdis b hf hb
  have hdis2 : ∀ b, F2 b → ¬ Fr b := fun b hb hf => by
    rcases hg2 b hb with e | e
    · exact hdis b e hf
    · have := R.lt hr1 b hf; omega
  have hS2 : Hid (Act6At w2 x a) := Lib.hid (hS.out.only (by omega) ho2 hxd)
  have hbw2 := hbw.trans (ho2.below hfd (by omega))
  have hfd2 := hg2.above hfd (by omega)
  have hs2 := ho2.size
  refine ⟨_, rfl, fun _ => hS2, ?_⟩
  simp only [Act.put, List.setIfInBounds_toArray, List.set_cons_succ, List.set_cons_zero]
  refine last_call 7 rfl (by kernel_rfl) rfl (exec_cl Try.call39 rfl (evc (ev rfl) (evc (ev rfl) evn))) ((R.flush a.D hR hr2).mono ?_)
  rintro e w3 ⟨rfl, F3, hr3, ho3, hg3⟩
  have hd3 := P.only hd2 ho3 fun b hb hf => hdis2 b hb hf
  have hdis3 : ∀ b, F2 b → ¬ F3 b := fun b hb hf => by
    rcases hg3 b hf with e | e
    · exact hdis2 b hb e
    · have := P.lt hd2 b hb; omega
  have hS3 : Hid (Act6At w3 x a) := Lib.hid (hS2.out.only (by omega) ho3 hxr)
  have hbw3 := hbw2.trans (ho3.below hfr (by omega))
  have hfr3 := hg3.above hfr (by omega)
  refine ⟨_, rfl, fun _ => hS3, ?_⟩
  simp only [Act.put, List.setIfInBounds_toArray, List.set_cons_succ, List.set_cons_zero]
  refine last_turn 8 rfl (by kernel_rfl) rfl (exec_eqInt true rfl (ev rfl) (ev rfl) (beq_self_eq_true _)) (fun _ => hS3) ?_
  simp only [Act.put, List.setIfInBounds_toArray, List.set_cons_succ, List.set_cons_zero]
  refine last_turn 9 rfl (by kernel_rfl) rfl (exec_as rfl (ev rfl)) (fun e => absurd rfl e) ?_
  simp only [Act.put, List.setIfInBounds_toArray, List.set_cons_succ, List.set_cons_zero]
  refine wpAnyZ_done (by kernel_rfl) ?_ _
  have HEND : Hid (∃ M', Twin6 P R w3 B pd pr M' ∧ ∀ k, Room M (k + 1) → Room M' k) := Lib.hid ⟨_, ⟨F2, F3, hd3, hr3, hdis3, hfd2, hfr3⟩, fun k hk => room_fl hk _⟩
  have HBW := Lib.hid hbw3
  clear hd3 hr3 hdis3 hfd2 hfr3 hbw3
  go_wp2_with fail
  go_ret
  exact ⟨rfl, HBW.out, HEND.out⟩
set_option maxHeartbeats 2000000 in
theorem both6_fail (P : BenP) (R : BenR) {w : World} {B pd pr : Nat} {M : BenS} {a : Act6} (h : Twin6 P R w B pd pr M) (hB : B ≤ w.heap.size) (hdo : a.Do = 3) :
    Calls Try.prog 11 #[.pointer (some ⟨pd, 0, none⟩), .pointer (some ⟨pr, 0, none⟩), act6V a] w (Owes6 P R w B pd pr M) := by
  have hA := (Below.refl w.heap.size w).alloc (Nat.le_refl _) (.cells (act6C a).toArray 36)
  obtain ⟨c0, hbox⟩ := act6_box (new1 w (act6C a).toArray 36)
  rw [hdo] at c0
  have HBX := Lib.hid hbox
  obtain ⟨Fd, Fr, hd, hr, hdis, hfd, hfr⟩ := h
  have hxd : ¬ Fd w.heap.size := fun e => absurd (P.lt hd _ e) (Nat.lt_irrefl _)
  have hxr : ¬ Fr w.heap.size := fun e => absurd (R.lt hr _ e) (Nat.lt_irrefl _)
  have HD := Lib.hid (P.toBen.below hd hA)
  have HR := Lib.hid (R.toBen.below hr hA)
  have HB1 := Lib.hid (hA.mono hB)
  have HSZ := Lib.hid (World.size_alloc w (.cells (act6C a).toArray 36))
  clear hA hbox hd hr
  unfold Owes6
  go_enter Try.func11, Try.ntmps11
  go_wp2_with (first | (refine wpList_val rfl (exec_boxA6 rfl rfl) ?_) | fail)
  generalize hx : w.heap.size = x at *
  generalize w.alloc (.cells (act6C a).toArray 36) = w1 at *
  refine wp_region_last (fun w' => Hid (Act6At w' x a)) 9 (by kernel_rfl) ?_
  change wpAnyZ _ _ _ _ _ _ 10 _ _ w1.drew
  have hS : Hid (Act6At w1.drew x a) := Lib.hid HBX.out
  refine last_val 0 rfl (by kernel_rfl) (by kernel_rfl) (by kernel_rfl) (by decide) (by kernel_rfl) rfl (fun w' hw => exec_mv rfl (ev rfl)) (fun _ _ _ h => h) hS ?_
  simp only [Act.put, List.setIfInBounds_toArray, List.set_cons_succ, List.set_cons_zero]
  refine last_val 1 rfl (by kernel_rfl) (by kernel_rfl) (by kernel_rfl) (by decide) (by kernel_rfl) rfl (fun w' hw => exec_faddr rfl (ev rfl) faT1) (fun _ _ _ h => h) hS ?_
  simp only [Act.put, List.setIfInBounds_toArray, List.set_cons_succ, List.set_cons_zero]
  refine last_val 2 rfl (by kernel_rfl) (by kernel_rfl) (by kernel_rfl) (by decide) (by kernel_rfl) rfl (fun w' hw => exec_ld rfl (ev rfl) (ldI hw.out.1)) (fun _ _ _ h => h) hS ?_
  simp only [Act.put, List.setIfInBounds_toArray, List.set_cons_succ, List.set_cons_zero]
  refine last_val 4 rfl (by kernel_rfl) (by kernel_rfl) (by kernel_rfl) (by decide) (by kernel_rfl) rfl (fun w' hw => exec_mv rfl (ev rfl)) (fun _ _ _ h => h) hS ?_
  simp only [Act.put, List.setIfInBounds_toArray, List.set_cons_succ, List.set_cons_zero]
  refine last_val 5 rfl (by kernel_rfl) (by kernel_rfl) (by kernel_rfl) (by decide) (by kernel_rfl) rfl (fun w' hw => exec_faddr rfl (ev rfl) faT1) (fun _ _ _ h => h) hS ?_
  simp only [Act.put, List.setIfInBounds_toArray, List.set_cons_succ, List.set_cons_zero]
  refine last_val 6 rfl (by kernel_rfl) (by kernel_rfl) (by kernel_rfl) (by decide) (by kernel_rfl) rfl (fun w' hw => exec_ld rfl (ev rfl) (ldI hw.out.1)) (fun _ _ _ h => h) hS ?_
  simp only [Act.put, List.setIfInBounds_toArray, List.set_cons_succ, List.set_cons_zero]
  have hd1 := P.toBen.below HD.out (bd (Below.refl _ _))
  have hr1 := R.toBen.below HR.out (bd (Below.refl _ _))
  have hbw : Below B w w1.drew := bd HB1.out
  have hsz1 : w1.drew.heap.size = x + 1 := HSZ.out
  refine last_call 3 rfl (by kernel_rfl) rfl (exec_cl Try.call15 rfl (evc (ev rfl) (evc (ev rfl) evn))) ((P.fail a.D hd1).mono ?_)
  rintro e w2 ⟨rfl, F2, hd2, ho2, hg2⟩
  have hr2 := R.only hr1 ho2 fun b hb hf => hdis b hf hb
  have hdis2 : ∀ b, F2 b → ¬ Fr b := fun b hb hf => by
    rcases hg2 b hb with e | e
    · exact hdis b e hf
    · have := R.lt hr1 b hf; omega
  have hS2 : Hid (Act6At w2 x a) := Lib.hid (hS.out.only (by omega) ho2 hxd)
  have hbw2 := hbw.trans (ho2.below hfd (by omega))
  have hfd2 := hg2.above hfd (by omega)
  have hs2 := ho2.size
  refine ⟨_, rfl, fun _ => hS2, ?_⟩
  simp only [Act.put, List.setIfInBounds_toArray, List.set_cons_succ, List.set_cons_zero]
  refine last_call 7 rfl (by kernel_rfl) rfl (exec_cl Try.call40 rfl (evc (ev rfl) (evc (ev rfl) evn))) ((R.fail a.D hr2).mono ?_)
  rintro e w3 ⟨rfl, F3, hr3, ho3, hg3⟩
  have hd3 := P.only hd2 ho3 fun b hb hf => hdis2 b hb hf
  have hdis3 : ∀ b, F2 b → ¬ F3 b := fun b hb hf => by
    rcases hg3 b hf with e | e
    · exact hdis2 b hb e
    · have := P.lt hd2 b hb; omega
  have hS3 : Hid (Act6At w3 x a) := Lib.hid (hS2.out.only (by omega) ho3 hxr)
  have hbw3 := hbw2.trans (ho3.below hfr (by omega))
  have hfr3 := hg3.above hfr (by omega)
  refine ⟨_, rfl, fun _ => hS3, ?_⟩
  simp only [Act.put, List.setIfInBounds_toArray, List.set_cons_succ, List.set_cons_zero]
  refine last_turn 8 rfl (by kernel_rfl) rfl (exec_eqInt true rfl (ev rfl) (ev rfl) (beq_self_eq_true _)) (fun _ => hS3) ?_
  simp only [Act.put, List.setIfInBounds_toArray, List.set_cons_succ, List.set_cons_zero]
  refine last_turn 9 rfl (by kernel_rfl) rfl (exec_as rfl (ev rfl)) (fun e => absurd rfl e) ?_
  simp only [Act.put, List.setIfInBounds_toArray, List.set_cons_succ, List.set_cons_zero]
  refine wpAnyZ_done (by kernel_rfl) ?_ _
  have HEND : Hid (∃ M', Twin6 P R w3 B pd pr M' ∧ ∀ k, Room M (k + 1) → Room M' k) := Lib.hid ⟨_, ⟨F2, F3, hd3, hr3, hdis3, hfd2, hfr3⟩, fun k hk => room_fa hk.less _⟩
  have HBW := Lib.hid hbw3
  clear hd3 hr3 hdis3 hfd2 hfr3 hbw3
  go_wp2_with fail
  go_ret
  exact ⟨rfl, HBW.out, HEND.out⟩
set_option maxHeartbeats 2000000 in
theorem both6_insert (P : BenP) (R : BenR) {w : World} {B pd pr : Nat} {M : BenS} {a : Act6} (h : Twin6 P R w B pd pr M) (hB : B ≤ w.heap.size) (hdo : a.Do = 4) :
    Calls Try.prog 11 #[.pointer (some ⟨pd, 0, none⟩), .pointer (some ⟨pr, 0, none⟩), act6V a] w (Owes6 P R w B pd pr M) := by
  have hA := (Below.refl w.heap.size w).alloc (Nat.le_refl _) (.cells (act6C a).toArray 36)
  obtain ⟨c0, hbox⟩ := act6_box (new1 w (act6C a).toArray 36)
  rw [hdo] at c0
  have HBX := Lib.hid hbox
  obtain ⟨Fd, Fr, hd, hr, hdis, hfd, hfr⟩ := h
  have hxd : ¬ Fd w.heap.size := fun e => absurd (P.lt hd _ e) (Nat.lt_irrefl _)
  have hxr : ¬ Fr w.heap.size := fun e => absurd (R.lt hr _ e) (Nat.lt_irrefl _)
  have HD := Lib.hid (P.toBen.below hd hA)
  have HR := Lib.hid (R.toBen.below hr hA)
  have HB1 := Lib.hid (hA.mono hB)
  have HSZ := Lib.hid (World.size_alloc w (.cells (act6C a).toArray 36))
  clear hA hbox hd hr
  unfold Owes6
  go_enter Try.func11, Try.ntmps11
  go_wp2_with (first | (refine wpList_val rfl (exec_boxA6 rfl rfl) ?_) | fail)
  generalize hx : w.heap.size = x at *
  generalize w.alloc (.cells (act6C a).toArray 36) = w1 at *
  refine wp_region_last (fun w' => Hid (Act6At w' x a)) 9 (by kernel_rfl) ?_
  change wpAnyZ _ _ _ _ _ _ 10 _ _ w1.drew
  have hS : Hid (Act6At w1.drew x a) := Lib.hid HBX.out
  refine last_val 0 rfl (by kernel_rfl) (by kernel_rfl) (by kernel_rfl) (by decide) (by kernel_rfl) rfl (fun w' hw => exec_mv rfl (ev rfl)) (fun _ _ _ h => h) hS ?_
  simp only [Act.put, List.setIfInBounds_toArray, List.set_cons_succ, List.set_cons_zero]
  refine last_val 1 rfl (by kernel_rfl) (by kernel_rfl) (by kernel_rfl) (by decide) (by kernel_rfl) rfl (fun w' hw => exec_faddr rfl (ev rfl) faT1) (fun _ _ _ h => h) hS ?_
  simp only [Act.put, List.setIfInBounds_toArray, List.set_cons_succ, List.set_cons_zero]
  refine last_val 2 rfl (by kernel_rfl) (by kernel_rfl) (by kernel_rfl) (by decide) (by kernel_rfl) rfl (fun w' hw => exec_ld rfl (ev rfl) (ldI hw.out.1)) (fun _ _ _ h => h) hS ?_
  simp only [Act.put, List.setIfInBounds_toArray, List.set_cons_succ, List.set_cons_zero]
  refine last_val 4 rfl (by kernel_rfl) (by kernel_rfl) (by kernel_rfl) (by decide) (by kernel_rfl) rfl (fun w' hw => exec_mv rfl (ev rfl)) (fun _ _ _ h => h) hS ?_
  simp only [Act.put, List.setIfInBounds_toArray, List.set_cons_succ, List.set_cons_zero]
  refine last_val 5 rfl (by kernel_rfl) (by kernel_rfl) (by kernel_rfl) (by decide) (by kernel_rfl) rfl (fun w' hw => exec_faddr rfl (ev rfl) faT1) (fun _ _ _ h => h) hS ?_
  simp only [Act.put, List.setIfInBounds_toArray, List.set_cons_succ, List.set_cons_zero]
  refine last_val 6 rfl (by kernel_rfl) (by kernel_rfl) (by kernel_rfl) (by decide) (by kernel_rfl) rfl (fun w' hw => exec_ld rfl (ev rfl) (ldI hw.out.1)) (fun _ _ _ h => h) hS ?_
  simp only [Act.put, List.setIfInBounds_toArray, List.set_cons_succ, List.set_cons_zero]
  have hd1 := P.toBen.below HD.out (bd (Below.refl _ _))
  have hr1 := R.toBen.below HR.out (bd (Below.refl _ _))
  have hbw : Below B w w1.drew := bd HB1.out
  have hsz1 : w1.drew.heap.size = x + 1 := HSZ.out
  refine last_call 3 rfl (by kernel_rfl) rfl (exec_cl Try.call22 rfl (evc (ev rfl) (evc (ev rfl) evn))) ((P.insert a.D hd1).mono ?_)
  rintro e w2 ⟨rfl, F2, hd2, ho2, hg2⟩
  have hr2 := R.only hr1 ho2 fun b hb hf => hdis b hf hb
  have hdis2 : ∀ b, F2 b → ¬ Fr b := fun b hb hf => by
    rcases hg2 b hb with e | e
    · exact hdis b e hf
    · have := R.lt hr1 b hf; omega
  have hS2 : Hid (Act6At w2 x a) := Lib.hid (hS.out.only (by omega) ho2 hxd)
  have hbw2 := hbw.trans (ho2.below hfd (by omega))
  have hfd2 := hg2.above hfd (by omega)
  have hs2 := ho2.size
  refine ⟨_, rfl, fun _ => hS2, ?_⟩
  simp only [Act.put, List.setIfInBounds_toArray, List.set_cons_succ, List.set_cons_zero]
  refine last_call 7 rfl (by kernel_rfl) rfl (exec_cl Try.call41 rfl (evc (ev rfl) (evc (ev rfl) evn))) ((R.insert a.D hr2).mono ?_)
  rintro e w3 ⟨rfl, F3, hr3, ho3, hg3⟩
  have hd3 := P.only hd2 ho3 fun b hb hf => hdis2 b hb hf
  have hdis3 : ∀ b, F2 b → ¬ F3 b := fun b hb hf => by
    rcases hg3 b hf with e | e
    · exact hdis2 b hb e
    · have := P.lt hd2 b hb; omega
  have hS3 : Hid (Act6At w3 x a) := Lib.hid (hS2.out.only (by omega) ho3 hxr)
  have hbw3 := hbw2.trans (ho3.below hfr (by omega))
  have hfr3 := hg3.above hfr (by omega)
  refine ⟨_, rfl, fun _ => hS3, ?_⟩
  simp only [Act.put, List.setIfInBounds_toArray, List.set_cons_succ, List.set_cons_zero]
  refine last_turn 8 rfl (by kernel_rfl) rfl (exec_eqInt true rfl (ev rfl) (ev rfl) (beq_self_eq_true _)) (fun _ => hS3) ?_
  simp only [Act.put, List.setIfInBounds_toArray, List.set_cons_succ, List.set_cons_zero]
  refine last_turn 9 rfl (by kernel_rfl) rfl (exec_as rfl (ev rfl)) (fun e => absurd rfl e) ?_
  simp only [Act.put, List.setIfInBounds_toArray, List.set_cons_succ, List.set_cons_zero]
  refine wpAnyZ_done (by kernel_rfl) ?_ _
  have HEND : Hid (∃ M', Twin6 P R w3 B pd pr M' ∧ ∀ k, Room M (k + 1) → Room M' k) := Lib.hid ⟨_, ⟨F2, F3, hd3, hr3, hdis3, hfd2, hfr3⟩, fun k hk => room_in hk.less _⟩
  have HBW := Lib.hid hbw3
  clear hd3 hr3 hdis3 hfd2 hfr3 hbw3
  go_wp2_with fail
  go_ret
  exact ⟨rfl, HBW.out, HEND.out⟩
set_option maxHeartbeats 2000000 in
theorem both6_arm (P : BenP) (R : BenR) {w : World} {B pd pr : Nat} {M : BenS} {a : Act6} (h : Twin6 P R w B pd pr M) (hB : B ≤ w.heap.size) (hN : a.N < 9223372036854775808) (hdo : a.Do = 5) :
    Calls Try.prog 11 #[.pointer (some ⟨pd, 0, none⟩), .pointer (some ⟨pr, 0, none⟩), act6V a] w (Owes6 P R w B pd pr M) := by
  have hA := (Below.refl w.heap.size w).alloc (Nat.le_refl _) (.cells (act6C a).toArray 36)
  obtain ⟨c0, hbox⟩ := act6_box (new1 w (act6C a).toArray 36)
  rw [hdo] at c0
  have HBX := Lib.hid hbox
  obtain ⟨Fd, Fr, hd, hr, hdis, hfd, hfr⟩ := h
  have hxd : ¬ Fd w.heap.size := fun e => absurd (P.lt hd _ e) (Nat.lt_irrefl _)
  have hxr : ¬ Fr w.heap.size := fun e => absurd (R.lt hr _ e) (Nat.lt_irrefl _)
  have HD := Lib.hid (P.toBen.below hd hA)
  have HR := Lib.hid (R.toBen.below hr hA)
  have HB1 := Lib.hid (hA.mono hB)
  have HSZ := Lib.hid (World.size_alloc w (.cells (act6C a).toArray 36))
  clear hA hbox hd hr
  unfold Owes6
  go_enter Try.func11, Try.ntmps11
  go_wp2_with (first | (refine wpList_val rfl (exec_boxA6 rfl rfl) ?_) | fail)
  generalize hx : w.heap.size = x at *
  generalize w.alloc (.cells (act6C a).toArray 36) = w1 at *
  refine wp_region_last (fun w' => Hid (Act6At w' x a)) 9 (by kernel_rfl) ?_
  change wpAnyZ _ _ _ _ _ _ 10 _ _ w1.drew
  have hS : Hid (Act6At w1.drew x a) := Lib.hid HBX.out
  refine last_val 0 rfl (by kernel_rfl) (by kernel_rfl) (by kernel_rfl) (by decide) (by kernel_rfl) rfl (fun w' hw => exec_mv rfl (ev rfl)) (fun _ _ _ h => h) hS ?_
  simp only [Act.put, List.setIfInBounds_toArray, List.set_cons_succ, List.set_cons_zero]
  refine last_val 1 rfl (by kernel_rfl) (by kernel_rfl) (by kernel_rfl) (by decide) (by kernel_rfl) rfl (fun w' hw => exec_faddr rfl (ev rfl) faT2) (fun _ _ _ h => h) hS ?_
  simp only [Act.put, List.setIfInBounds_toArray, List.set_cons_succ, List.set_cons_zero]
  refine last_val 2 rfl (by kernel_rfl) (by kernel_rfl) (by kernel_rfl) (by decide) (by kernel_rfl) rfl (fun w' hw => exec_ld rfl (ev rfl) (ldI hw.out.2.1)) (fun _ _ _ h => h) hS ?_
  simp only [Act.put, List.setIfInBounds_toArray, List.set_cons_succ, List.set_cons_zero]
  refine last_val 4 rfl (by kernel_rfl) (by kernel_rfl) (by kernel_rfl) (by decide) (by kernel_rfl) rfl (fun w' hw => exec_mv rfl (ev rfl)) (fun _ _ _ h => h) hS ?_
  simp only [Act.put, List.setIfInBounds_toArray, List.set_cons_succ, List.set_cons_zero]
  refine last_val 5 rfl (by kernel_rfl) (by kernel_rfl) (by kernel_rfl) (by decide) (by kernel_rfl) rfl (fun w' hw => exec_faddr rfl (ev rfl) faT2) (fun _ _ _ h => h) hS ?_
  simp only [Act.put, List.setIfInBounds_toArray, List.set_cons_succ, List.set_cons_zero]
  refine last_val 6 rfl (by kernel_rfl) (by kernel_rfl) (by kernel_rfl) (by decide) (by kernel_rfl) rfl (fun w' hw => exec_ld rfl (ev rfl) (ldI hw.out.2.1)) (fun _ _ _ h => h) hS ?_
  simp only [Act.put, List.setIfInBounds_toArray, List.set_cons_succ, List.set_cons_zero]
  have hd1 := P.toBen.below HD.out (bd (Below.refl _ _))
  have hr1 := R.toBen.below HR.out (bd (Below.refl _ _))
  have hbw : Below B w w1.drew := bd HB1.out
  have hsz1 : w1.drew.heap.size = x + 1 := HSZ.out
  refine last_call 3 rfl (by kernel_rfl) rfl (exec_cl Try.call17 rfl (evc (ev rfl) (evc (ev rfl) evn))) ((P.arm a.N hd1).mono ?_)
  rintro e w2 ⟨rfl, F2, hd2, ho2, hg2⟩
  have hr2 := R.only hr1 ho2 fun b hb hf => hdis b hf hb
  have hdis2 : ∀ b, F2 b → ¬ Fr b := fun b hb hf => by
    rcases hg2 b hb with e | e
    · exact hdis b e hf
    · have := R.lt hr1 b hf; omega
  have hS2 : Hid (Act6At w2 x a) := Lib.hid (hS.out.only (by omega) ho2 hxd)
  have hbw2 := hbw.trans (ho2.below hfd (by omega))
  have hfd2 := hg2.above hfd (by omega)
  have hs2 := ho2.size
  refine ⟨_, rfl, fun _ => hS2, ?_⟩
  simp only [Act.put, List.setIfInBounds_toArray, List.set_cons_succ, List.set_cons_zero]
  refine last_call 7 rfl (by kernel_rfl) rfl (exec_cl Try.call42 rfl (evc (ev rfl) (evc (ev rfl) evn))) ((R.arm a.N hr2).mono ?_)
  rintro e w3 ⟨rfl, F3, hr3, ho3, hg3⟩
  have hd3 := P.only hd2 ho3 fun b hb hf => hdis2 b hb hf
  have hdis3 : ∀ b, F2 b → ¬ F3 b := fun b hb hf => by
    rcases hg3 b hf with e | e
    · exact hdis2 b hb e
    · have := P.lt hd2 b hb; omega
  have hS3 : Hid (Act6At w3 x a) := Lib.hid (hS2.out.only (by omega) ho3 hxr)
  have hbw3 := hbw2.trans (ho3.below hfr (by omega))
  have hfr3 := hg3.above hfr (by omega)
  refine ⟨_, rfl, fun _ => hS3, ?_⟩
  simp only [Act.put, List.setIfInBounds_toArray, List.set_cons_succ, List.set_cons_zero]
  refine last_turn 8 rfl (by kernel_rfl) rfl (exec_eqInt true rfl (ev rfl) (ev rfl) (beq_self_eq_true _)) (fun _ => hS3) ?_
  simp only [Act.put, List.setIfInBounds_toArray, List.set_cons_succ, List.set_cons_zero]
  refine last_turn 9 rfl (by kernel_rfl) rfl (exec_as rfl (ev rfl)) (fun e => absurd rfl e) ?_
  simp only [Act.put, List.setIfInBounds_toArray, List.set_cons_succ, List.set_cons_zero]
  refine wpAnyZ_done (by kernel_rfl) ?_ _
  have HEND : Hid (∃ M', Twin6 P R w3 B pd pr M' ∧ ∀ k, Room M (k + 1) → Room M' k) := Lib.hid ⟨_, ⟨F2, F3, hd3, hr3, hdis3, hfd2, hfr3⟩, fun k hk => room_ar hk.less _ hN⟩
  have HBW := Lib.hid hbw3
  clear hd3 hr3 hdis3 hfd2 hfr3 hbw3
  go_wp2_with fail
  go_ret
  exact ⟨rfl, HBW.out, HEND.out⟩
set_option maxHeartbeats 2000000 in
theorem both6_crash (P : BenP) (R : BenR) {w : World} {B pd pr : Nat} {M : BenS} {a : Act6} (h : Twin6 P R w B pd pr M) (hB : B ≤ w.heap.size) (hP : ∃ l, RdE IntE w B a.A a.n l ∧ a.n ≤ a.c ∧ a.c ≤ maxLen) (hdo : a.Do = 6) :
    Calls Try.prog 11 #[.pointer (some ⟨pd, 0, none⟩), .pointer (some ⟨pr, 0, none⟩), act6V a] w (Owes6 P R w B pd pr M) := by
  have hA := (Below.refl w.heap.size w).alloc (Nat.le_refl _) (.cells (act6C a).toArray 36)
  obtain ⟨c0, hbox⟩ := act6_box (new1 w (act6C a).toArray 36)
  rw [hdo] at c0
  have HBX := Lib.hid hbox
  obtain ⟨Fd, Fr, hd, hr, hdis, hfd, hfr⟩ := h
  have hxd : ¬ Fd w.heap.size := fun e => absurd (P.lt hd _ e) (Nat.lt_irrefl _)
  have hxr : ¬ Fr w.heap.size := fun e => absurd (R.lt hr _ e) (Nat.lt_irrefl _)
  have HD := Lib.hid (P.toBen.below hd hA)
  have HR := Lib.hid (R.toBen.below hr hA)
  have HB1 := Lib.hid (hA.mono hB)
  have HSZ := Lib.hid (World.size_alloc w (.cells (act6C a).toArray 36))
  clear hA hbox hd hr
  unfold Owes6
  go_enter Try.func11, Try.ntmps11
  go_wp2_with (first | (refine wpList_val rfl (exec_boxA6 rfl rfl) ?_) | fail)
  generalize hx : w.heap.size = x at *
  generalize w.alloc (.cells (act6C a).toArray 36) = w1 at *
  refine wp_region_last (fun w' => Hid (Act6At w' x a)) 9 (by kernel_rfl) ?_
  change wpAnyZ _ _ _ _ _ _ 10 _ _ w1.drew
  have hS : Hid (Act6At w1.drew x a) := Lib.hid HBX.out
  refine last_val 0 rfl (by kernel_rfl) (by kernel_rfl) (by kernel_rfl) (by decide) (by kernel_rfl) rfl (fun w' hw => exec_mv rfl (ev rfl)) (fun _ _ _ h => h) hS ?_
  simp only [Act.put, List.setIfInBounds_toArray, List.set_cons_succ, List.set_cons_zero]
  refine last_val 1 rfl (by kernel_rfl) (by kernel_rfl) (by kernel_rfl) (by decide) (by kernel_rfl) rfl (fun w' hw => exec_faddr rfl (ev rfl) faT6) (fun _ _ _ h => h) hS ?_
  simp only [Act.put, List.setIfInBounds_toArray, List.set_cons_succ, List.set_cons_zero]
  refine last_val 2 rfl (by kernel_rfl) (by kernel_rfl) (by kernel_rfl) (by decide) (by kernel_rfl) rfl (fun w' hw => exec_ld rfl (ev rfl) (ldNs hw.out.2.2.2.2.2)) (fun _ _ _ h => h) hS ?_
  simp only [Act.put, List.setIfInBounds_toArray, List.set_cons_succ, List.set_cons_zero]
  refine last_val 4 rfl (by kernel_rfl) (by kernel_rfl) (by kernel_rfl) (by decide) (by kernel_rfl) rfl (fun w' hw => exec_mv rfl (ev rfl)) (fun _ _ _ h => h) hS ?_
  simp only [Act.put, List.setIfInBounds_toArray, List.set_cons_succ, List.set_cons_zero]
  refine last_val 5 rfl (by kernel_rfl) (by kernel_rfl) (by kernel_rfl) (by decide) (by kernel_rfl) rfl (fun w' hw => exec_faddr rfl (ev rfl) faT6) (fun _ _ _ h => h) hS ?_
  simp only [Act.put, List.setIfInBounds_toArray, List.set_cons_succ, List.set_cons_zero]
  refine last_val 6 rfl (by kernel_rfl) (by kernel_rfl) (by kernel_rfl) (by decide) (by kernel_rfl) rfl (fun w' hw => exec_ld rfl (ev rfl) (ldNs hw.out.2.2.2.2.2)) (fun _ _ _ h => h) hS ?_
  simp only [Act.put, List.setIfInBounds_toArray, List.set_cons_succ, List.set_cons_zero]
  have hd1 := P.toBen.below HD.out (bd (Below.refl _ _))
  have hr1 := R.toBen.below HR.out (bd (Below.refl _ _))
  have hbw : Below B w w1.drew := bd HB1.out
  have hsz1 : w1.drew.heap.size = x + 1 := HSZ.out
  obtain ⟨l, hp1, hp2, hp3⟩ := hP
  refine last_call 3 rfl (by kernel_rfl) rfl (exec_cl Try.call14 rfl (evc (ev rfl) (evc (ev rfl) evn))) ((P.crash (pk_of (hp1.below hbw) (by omega) hfd hp2 hp3) hd1).mono ?_)
  rintro e w2 ⟨rfl, F2, hd2, ho2, hg2⟩
  have hr2 := R.only hr1 ho2 fun b hb hf => hdis b hf hb
  have hdis2 : ∀ b, F2 b → ¬ Fr b := fun b hb hf => by
    rcases hg2 b hb with e | e
    · exact hdis b e hf
    · have := R.lt hr1 b hf; omega
  have hS2 : Hid (Act6At w2 x a) := Lib.hid (hS.out.only (by omega) ho2 hxd)
  have hbw2 := hbw.trans (ho2.below hfd (by omega))
  have hfd2 := hg2.above hfd (by omega)
  have hs2 := ho2.size
  refine ⟨_, rfl, fun _ => hS2, ?_⟩
  simp only [Act.put, List.setIfInBounds_toArray, List.set_cons_succ, List.set_cons_zero]
  refine last_call 7 rfl (by kernel_rfl) rfl (exec_cl Try.call43 rfl (evc (ev rfl) (evc (ev rfl) evn))) ((R.crash (pk_of (hp1.below hbw2) (by omega) hfr hp2 hp3) hr2).mono ?_)
  rintro e w3 ⟨rfl, F3, hr3, ho3, hg3⟩
  have hd3 := P.only hd2 ho3 fun b hb hf => hdis2 b hb hf
  have hdis3 : ∀ b, F2 b → ¬ F3 b := fun b hb hf => by
    rcases hg3 b hf with e | e
    · exact hdis2 b hb e
    · have := P.lt hd2 b hb; omega
  have hS3 : Hid (Act6At w3 x a) := Lib.hid (hS2.out.only (by omega) ho3 hxr)
  have hbw3 := hbw2.trans (ho3.below hfr (by omega))
  have hfr3 := hg3.above hfr (by omega)
  refine ⟨_, rfl, fun _ => hS3, ?_⟩
  simp only [Act.put, List.setIfInBounds_toArray, List.set_cons_succ, List.set_cons_zero]
  refine last_turn 8 rfl (by kernel_rfl) rfl (exec_eqInt true rfl (ev rfl) (ev rfl) (beq_self_eq_true _)) (fun _ => hS3) ?_
  simp only [Act.put, List.setIfInBounds_toArray, List.set_cons_succ, List.set_cons_zero]
  refine last_turn 9 rfl (by kernel_rfl) rfl (exec_as rfl (ev rfl)) (fun e => absurd rfl e) ?_
  simp only [Act.put, List.setIfInBounds_toArray, List.set_cons_succ, List.set_cons_zero]
  refine wpAnyZ_done (by kernel_rfl) ?_ _
  have HEND : Hid (∃ M', Twin6 P R w3 B pd pr M' ∧ ∀ k, Room M (k + 1) → Room M' k) := Lib.hid ⟨_, ⟨F2, F3, hd3, hr3, hdis3, hfd2, hfr3⟩, fun k hk => room_cr hk.less _⟩
  have HBW := Lib.hid hbw3
  clear hd3 hr3 hdis3 hfd2 hfr3 hbw3
  go_wp2_with fail
  go_ret
  exact ⟨rfl, HBW.out, HEND.out⟩
set_option maxHeartbeats 2000000 in
theorem both6_rot (P : BenP) (R : BenR) {w : World} {B pd pr : Nat} {M : BenS} {a : Act6} (h : Twin6 P R w B pd pr M) (hB : B ≤ w.heap.size) (hdo : a.Do ≠ 0 ∧ a.Do ≠ 1 ∧ a.Do ≠ 2 ∧ a.Do ≠ 3 ∧ a.Do ≠ 4 ∧ a.Do ≠ 5 ∧ a.Do ≠ 6 ∧ a.Do ≠ 7) :
    Calls Try.prog 11 #[.pointer (some ⟨pd, 0, none⟩), .pointer (some ⟨pr, 0, none⟩), act6V a] w (Owes6 P R w B pd pr M) := by
  have hA := (Below.refl w.heap.size w).alloc (Nat.le_refl _) (.cells (act6C a).toArray 36)
  obtain ⟨c0, hbox⟩ := act6_box (new1 w (act6C a).toArray 36)
  obtain ⟨g0, g1, g2, g3, g4, g5, g6, g7⟩ := hdo
  have HBX := Lib.hid hbox
  obtain ⟨Fd, Fr, hd, hr, hdis, hfd, hfr⟩ := h
  have hxd : ¬ Fd w.heap.size := fun e => absurd (P.lt hd _ e) (Nat.lt_irrefl _)
  have hxr : ¬ Fr w.heap.size := fun e => absurd (R.lt hr _ e) (Nat.lt_irrefl _)
  have HD := Lib.hid (P.toBen.below hd hA)
  have HR := Lib.hid (R.toBen.below hr hA)
  have HB1 := Lib.hid (hA.mono hB)
  have HSZ := Lib.hid (World.size_alloc w (.cells (act6C a).toArray 36))
  clear hA hbox hd hr
  unfold Owes6
  go_enter Try.func11, Try.ntmps11
  go_wp2_with (first | (refine wpList_val rfl (exec_boxA6 rfl rfl) ?_) | fail)
  generalize hx : w.heap.size = x at *
  generalize w.alloc (.cells (act6C a).toArray 36) = w1 at *
  refine wp_region_last (fun w' => Hid (Act6At w' x a)) 21 (by kernel_rfl) ?_
  change wpAnyZ _ _ _ _ _ _ 22 _ _ w1.drew
  have hS : Hid (Act6At w1.drew x a) := Lib.hid HBX.out
  refine last_val 0 rfl (by kernel_rfl) (by kernel_rfl) (by kernel_rfl) (by decide) (by kernel_rfl) rfl (fun w' hw => exec_mv rfl (ev rfl)) (fun _ _ _ h => h) hS ?_
  simp only [Act.put, List.setIfInBounds_toArray, List.set_cons_succ, List.set_cons_zero]
  refine last_val 1 rfl (by kernel_rfl) (by kernel_rfl) (by kernel_rfl) (by decide) (by kernel_rfl) rfl (fun w' hw => exec_faddr rfl (ev rfl) faT1) (fun _ _ _ h => h) hS ?_
  simp only [Act.put, List.setIfInBounds_toArray, List.set_cons_succ, List.set_cons_zero]
  refine last_val 2 rfl (by kernel_rfl) (by kernel_rfl) (by kernel_rfl) (by decide) (by kernel_rfl) rfl (fun w' hw => exec_ld rfl (ev rfl) (ldI hw.out.1)) (fun _ _ _ h => h) hS ?_
  simp only [Act.put, List.setIfInBounds_toArray, List.set_cons_succ, List.set_cons_zero]
  refine last_val 3 rfl (by kernel_rfl) (by kernel_rfl) (by kernel_rfl) (by decide) (by kernel_rfl) rfl (fun w' hw => exec_faddr rfl (ev rfl) faT2) (fun _ _ _ h => h) hS ?_
  simp only [Act.put, List.setIfInBounds_toArray, List.set_cons_succ, List.set_cons_zero]
  refine last_val 4 rfl (by kernel_rfl) (by kernel_rfl) (by kernel_rfl) (by decide) (by kernel_rfl) rfl (fun w' hw => exec_ld rfl (ev rfl) (ldI hw.out.2.1)) (fun _ _ _ h => h) hS ?_
  simp only [Act.put, List.setIfInBounds_toArray, List.set_cons_succ, List.set_cons_zero]
  refine last_val 5 rfl (by kernel_rfl) (by kernel_rfl) (by kernel_rfl) (by decide) (by kernel_rfl) rfl (fun w' hw => exec_faddr rfl (ev rfl) faT3) (fun _ _ _ h => h) hS ?_
  simp only [Act.put, List.setIfInBounds_toArray, List.set_cons_succ, List.set_cons_zero]
  refine last_val 6 rfl (by kernel_rfl) (by kernel_rfl) (by kernel_rfl) (by decide) (by kernel_rfl) rfl (fun w' hw => exec_ld rfl (ev rfl) (ldI hw.out.2.2.1)) (fun _ _ _ h => h) hS ?_
  simp only [Act.put, List.setIfInBounds_toArray, List.set_cons_succ, List.set_cons_zero]
  refine last_val 7 rfl (by kernel_rfl) (by kernel_rfl) (by kernel_rfl) (by decide) (by kernel_rfl) rfl (fun w' hw => exec_faddr rfl (ev rfl) faT4) (fun _ _ _ h => h) hS ?_
  simp only [Act.put, List.setIfInBounds_toArray, List.set_cons_succ, List.set_cons_zero]
  refine last_val 8 rfl (by kernel_rfl) (by kernel_rfl) (by kernel_rfl) (by decide) (by kernel_rfl) rfl (fun w' hw => exec_ld rfl (ev rfl) (ldU hw.out.2.2.2.1)) (fun _ _ _ h => h) hS ?_
  simp only [Act.put, List.setIfInBounds_toArray, List.set_cons_succ, List.set_cons_zero]
  refine last_val 10 rfl (by kernel_rfl) (by kernel_rfl) (by kernel_rfl) (by decide) (by kernel_rfl) rfl (fun w' hw => exec_mv rfl (ev rfl)) (fun _ _ _ h => h) hS ?_
  simp only [Act.put, List.setIfInBounds_toArray, List.set_cons_succ, List.set_cons_zero]
  refine last_val 11 rfl (by kernel_rfl) (by kernel_rfl) (by kernel_rfl) (by decide) (by kernel_rfl) rfl (fun w' hw => exec_faddr rfl (ev rfl) faT1) (fun _ _ _ h => h) hS ?_
  simp only [Act.put, List.setIfInBounds_toArray, List.set_cons_succ, List.set_cons_zero]
  refine last_val 12 rfl (by kernel_rfl) (by kernel_rfl) (by kernel_rfl) (by decide) (by kernel_rfl) rfl (fun w' hw => exec_ld rfl (ev rfl) (ldI hw.out.1)) (fun _ _ _ h => h) hS ?_
  simp only [Act.put, List.setIfInBounds_toArray, List.set_cons_succ, List.set_cons_zero]
  refine last_val 13 rfl (by kernel_rfl) (by kernel_rfl) (by kernel_rfl) (by decide) (by kernel_rfl) rfl (fun w' hw => exec_faddr rfl (ev rfl) faT2) (fun _ _ _ h => h) hS ?_
  simp only [Act.put, List.setIfInBounds_toArray, List.set_cons_succ, List.set_cons_zero]
  refine last_val 14 rfl (by kernel_rfl) (by kernel_rfl) (by kernel_rfl) (by decide) (by kernel_rfl) rfl (fun w' hw => exec_ld rfl (ev rfl) (ldI hw.out.2.1)) (fun _ _ _ h => h) hS ?_
  simp only [Act.put, List.setIfInBounds_toArray, List.set_cons_succ, List.set_cons_zero]
  refine last_val 15 rfl (by kernel_rfl) (by kernel_rfl) (by kernel_rfl) (by decide) (by kernel_rfl) rfl (fun w' hw => exec_faddr rfl (ev rfl) faT3) (fun _ _ _ h => h) hS ?_
  simp only [Act.put, List.setIfInBounds_toArray, List.set_cons_succ, List.set_cons_zero]
  refine last_val 16 rfl (by kernel_rfl) (by kernel_rfl) (by kernel_rfl) (by decide) (by kernel_rfl) rfl (fun w' hw => exec_ld rfl (ev rfl) (ldI hw.out.2.2.1)) (fun _ _ _ h => h) hS ?_
  simp only [Act.put, List.setIfInBounds_toArray, List.set_cons_succ, List.set_cons_zero]
  refine last_val 17 rfl (by kernel_rfl) (by kernel_rfl) (by kernel_rfl) (by decide) (by kernel_rfl) rfl (fun w' hw => exec_faddr rfl (ev rfl) faT4) (fun _ _ _ h => h) hS ?_
  simp only [Act.put, List.setIfInBounds_toArray, List.set_cons_succ, List.set_cons_zero]
  refine last_val 18 rfl (by kernel_rfl) (by kernel_rfl) (by kernel_rfl) (by decide) (by kernel_rfl) rfl (fun w' hw => exec_ld rfl (ev rfl) (ldU hw.out.2.2.2.1)) (fun _ _ _ h => h) hS ?_
  simp only [Act.put, List.setIfInBounds_toArray, List.set_cons_succ, List.set_cons_zero]
  have hd1 := P.toBen.below HD.out (bd (Below.refl _ _))
  have hr1 := R.toBen.below HR.out (bd (Below.refl _ _))
  have hbw : Below B w w1.drew := bd HB1.out
  have hsz1 : w1.drew.heap.size = x + 1 := HSZ.out
  refine last_call 9 rfl (by kernel_rfl) rfl (exec_cl Try.call27 rfl (evc (ev rfl) (evc (ev rfl) (evc (ev rfl) (evc (ev rfl) (evc (ev rfl) evn)))))) ((P.rot a.D a.N a.At a.By hd1).mono ?_)
  rintro e w2 ⟨rfl, F2, hd2, ho2, hg2⟩
  have hr2 := R.only hr1 ho2 fun b hb hf => hdis b hf hb
  have hdis2 : ∀ b, F2 b → ¬ Fr b := fun b hb hf => by
    rcases hg2 b hb with e | e
    · exact hdis b e hf
    · have := R.lt hr1 b hf; omega
  have hS2 : Hid (Act6At w2 x a) := Lib.hid (hS.out.only (by omega) ho2 hxd)
  have hbw2 := hbw.trans (ho2.below hfd (by omega))
  have hfd2 := hg2.above hfd (by omega)
  have hs2 := ho2.size
  refine ⟨_, rfl, fun _ => hS2, ?_⟩
  simp only [Act.put, List.setIfInBounds_toArray, List.set_cons_succ, List.set_cons_zero]
  refine last_call 19 rfl (by kernel_rfl) rfl (exec_cl Try.call45 rfl (evc (ev rfl) (evc (ev rfl) (evc (ev rfl) (evc (ev rfl) (evc (ev rfl) evn)))))) ((R.rot a.D a.N a.At a.By hr2).mono ?_)
  rintro e w3 ⟨rfl, F3, hr3, ho3, hg3⟩
  have hd3 := P.only hd2 ho3 fun b hb hf => hdis2 b hb hf
  have hdis3 : ∀ b, F2 b → ¬ F3 b := fun b hb hf => by
    rcases hg3 b hf with e | e
    · exact hdis2 b hb e
    · have := P.lt hd2 b hb; omega
  have hS3 : Hid (Act6At w3 x a) := Lib.hid (hS2.out.only (by omega) ho3 hxr)
  have hbw3 := hbw2.trans (ho3.below hfr (by omega))
  have hfr3 := hg3.above hfr (by omega)
  refine ⟨_, rfl, fun _ => hS3, ?_⟩
  simp only [Act.put, List.setIfInBounds_toArray, List.set_cons_succ, List.set_cons_zero]
  refine last_turn 20 rfl (by kernel_rfl) rfl (exec_eqInt true rfl (ev rfl) (ev rfl) (beq_self_eq_true _)) (fun _ => hS3) ?_
  simp only [Act.put, List.setIfInBounds_toArray, List.set_cons_succ, List.set_cons_zero]
  refine last_turn 21 rfl (by kernel_rfl) rfl (exec_as rfl (ev rfl)) (fun e => absurd rfl e) ?_
  simp only [Act.put, List.setIfInBounds_toArray, List.set_cons_succ, List.set_cons_zero]
  refine wpAnyZ_done (by kernel_rfl) ?_ _
  have HEND : Hid (∃ M', Twin6 P R w3 B pd pr M' ∧ ∀ k, Room M (k + 1) → Room M' k) := Lib.hid ⟨_, ⟨F2, F3, hd3, hr3, hdis3, hfd2, hfr3⟩, fun k hk => room_ro hk.less _ _ _ _⟩
  have HBW := Lib.hid hbw3
  clear hd3 hr3 hdis3 hfd2 hfr3 hbw3
  go_wp2_with fail
  go_ret
  exact ⟨rfl, HBW.out, HEND.out⟩
end Go.Proofs.Ytpcdcnnnkblhiaa
namespace Go.Proofs.Ytpcdcnnnkblhiaa
open Go.RowKit
set_option linter.unusedVariables false
set_option maxRecDepth 100000

set_option maxHeartbeats 2000000 in
theorem both6_read (P : BenP) (R : BenR) {w : World} {B pd pr : Nat} {M : BenS} {a : Act6} (h : Twin6 P R w B pd pr M) (hB : B ≤ w.heap.size) (hdo : a.Do = 1) :
    Calls Try.prog 11 #[.pointer (some ⟨pd, 0, none⟩), .pointer (some ⟨pr, 0, none⟩), act6V a] w (Owes6 P R w B pd pr M) := by
  have hA := (Below.refl w.heap.size w).alloc (Nat.le_refl _) (.cells (act6C a).toArray 36)
  obtain ⟨c0, hbox⟩ := act6_box (new1 w (act6C a).toArray 36)
  rw [hdo] at c0
  have HT := Lib.hid (h.below hA)
  have HB1 := Lib.hid (hA.mono hB)
  have HSZ := Lib.hid (World.size_alloc w (.cells (act6C a).toArray 36))
  clear hA h
  unfold Owes6
  go_enter Try.func11, Try.ntmps11
  have c1 := hbox.1
  have c2 := hbox.2.1
  have HBX := Lib.hid hbox
  clear hbox
  go_wp2_with (first | (refine wpList_val rfl (exec_boxA6 rfl rfl) ?_) | fail)
  generalize hx : w.heap.size = x at *
  generalize w.alloc (.cells (act6C a).toArray 36) = w1 at *
  have hT1 := HT.out
  obtain ⟨Fd, Fr, hd, hr, hdis, hfd, hfr⟩ := hT1
  obtain ⟨bb, hbb⟩ : ∃ z, rdB6 M a.D a.N = z := ⟨_, rfl⟩
  obtain ⟨ee, hee⟩ : ∃ z, rdE6 M a.D a.N = z := ⟨_, rfl⟩
  have HC := Lib.hid (P.read a.D a.N hd)
  rw [hbb, hee] at HC
  have HBB := Lib.hid hbb
  have HEE := Lib.hid hee
  clear hbb hee hd hr hdis hfd hfr
  refine HC.out.mono ?_
  rintro e w2 ⟨rfl, hb2⟩
  have hbx2 := (HBX.out.below (by rw [HSZ.out]; omega) hb2).below (B := w2.heap.size) (by have := hb2.size; rw [HSZ.out] at this; omega) ((Below.refl _ _).alloc (Nat.le_refl _) (.cells (cel bb).toArray 34))
  have HT3 := Lib.hid ((HT.out.below hb2).below ((Below.refl _ _).alloc (Nat.le_refl _) (.cells (cel bb).toArray 34)))
  have hs2 := hb2.size
  rw [HSZ.out] at hs2
  have HB3 := Lib.hid ((HB1.out.trans (hb2.mono (by rw [HSZ.out]; omega))).alloc (by omega) (.cells (cel bb).toArray 34))
  have K3 := Lib.hid (new1 w2 (cel bb).toArray 34)
  have hs3 := World.size_alloc w2 (.cells (cel bb).toArray 34)
  have d1 := hbx2.1
  have d2 := hbx2.2.1
  clear hb2 HT HBX HC hbx2
  go_wp2_with (first | (refine wpList_val rfl (exec_alloc rfl) ?_) | (refine wpList_nul rfl (exec_fill rfl rfl rfl) ?_) | fail)
  generalize hy : w2.heap.size = y at *
  generalize w2.alloc (.cells (cel bb).toArray 34) = w3 at *
  have hT3 := HT3.out
  obtain ⟨Fd, Fr, hd, hr, hdis, hfd, hfr⟩ := hT3
  have HC := Lib.hid (R.read a.D a.N hr)
  rw [HBB.out, HEE.out] at HC
  clear hd hr hdis hfd hfr
  refine HC.out.mono ?_
  rintro e w4 ⟨rfl, hb4⟩
  have HT5 := Lib.hid ((HT3.out.below hb4).below ((Below.refl _ _).alloc (Nat.le_refl _) (.cells (cel bb).toArray 34)))
  have hs4 := hb4.size
  have HB5 := Lib.hid ((HB3.out.trans (hb4.mono (by omega))).alloc (by omega) (.cells (cel bb).toArray 34))
  have HL1 := Lib.hid (blk_range (blk_past (blk_keep K3.out hb4) (.cells (cel bb).toArray 34)))
  have HL2 := Lib.hid (blk_range (new1 w4 (cel bb).toArray 34))
  clear hb4 HT3 K3 d1 d2 c0 c1 c2 HC
  go_wp2_with (first | (refine wpList_val rfl (exec_alloc rfl) ?_) | (refine wpList_nul rfl (exec_fill rfl rfl rfl) ?_) | (refine wpList_val rfl (exec_load rfl rfl HL1.out) ?_) | (refine wpList_val rfl (exec_load rfl rfl HL2.out) ?_) | (refine wpList_val rfl (exec_eql rfl rfl rfl) ?_))
  all_goals
    go_ret
    exact ⟨by simp, HB5.out, _, HT5.out, fun k hk => hk.less⟩
set_option maxHeartbeats 2000000 in
theorem both6_sure (P : BenP) (R : BenR) {w : World} {B pd pr : Nat} {M : BenS} {a : Act6} (h : Twin6 P R w B pd pr M) (hB : B ≤ w.heap.size) (hdo : a.Do = 7) :
    Calls Try.prog 11 #[.pointer (some ⟨pd, 0, none⟩), .pointer (some ⟨pr, 0, none⟩), act6V a] w (Owes6 P R w B pd pr M) := by
  have hA := (Below.refl w.heap.size w).alloc (Nat.le_refl _) (.cells (act6C a).toArray 36)
  obtain ⟨c0, hbox⟩ := act6_box (new1 w (act6C a).toArray 36)
  rw [hdo] at c0
  have HT := Lib.hid (h.below hA)
  have HB1 := Lib.hid (hA.mono hB)
  have HSZ := Lib.hid (World.size_alloc w (.cells (act6C a).toArray 36))
  clear hA h
  unfold Owes6
  go_enter Try.func11, Try.ntmps11
  have c1 := hbox.1
  have c2 := hbox.2.1
  have HBX := Lib.hid hbox
  clear hbox
  go_wp2_with (first | (refine wpList_val rfl (exec_boxA6 rfl rfl) ?_) | fail)
  generalize hx : w.heap.size = x at *
  generalize w.alloc (.cells (act6C a).toArray 36) = w1 at *
  have hT1 := HT.out
  obtain ⟨Fd, Fr, hd, hr, hdis, hfd, hfr⟩ := hT1
  obtain ⟨bb, hbb⟩ : ∃ z, suB6 M a.D a.N = z := ⟨_, rfl⟩
  obtain ⟨ee, hee⟩ : ∃ z, suE6 M a.D a.N = z := ⟨_, rfl⟩
  have HC := Lib.hid (P.sure a.D a.N hd)
  rw [hbb, hee] at HC
  have HBB := Lib.hid hbb
  have HEE := Lib.hid hee
  clear hbb hee hd hr hdis hfd hfr
  refine HC.out.mono ?_
  rintro e w2 ⟨rfl, hb2⟩
  have hbx2 := (HBX.out.below (by rw [HSZ.out]; omega) hb2).below (B := w2.heap.size) (by have := hb2.size; rw [HSZ.out] at this; omega) ((Below.refl _ _).alloc (Nat.le_refl _) (.cells (cel bb).toArray 34))
  have HT3 := Lib.hid ((HT.out.below hb2).below ((Below.refl _ _).alloc (Nat.le_refl _) (.cells (cel bb).toArray 34)))
  have hs2 := hb2.size
  rw [HSZ.out] at hs2
  have HB3 := Lib.hid ((HB1.out.trans (hb2.mono (by rw [HSZ.out]; omega))).alloc (by omega) (.cells (cel bb).toArray 34))
  have K3 := Lib.hid (new1 w2 (cel bb).toArray 34)
  have hs3 := World.size_alloc w2 (.cells (cel bb).toArray 34)
  have d1 := hbx2.1
  have d2 := hbx2.2.1
  clear hb2 HT HBX HC hbx2
  go_wp2_with (first | (refine wpList_val rfl (exec_alloc rfl) ?_) | (refine wpList_nul rfl (exec_fill rfl rfl rfl) ?_) | fail)
  generalize hy : w2.heap.size = y at *
  generalize w2.alloc (.cells (cel bb).toArray 34) = w3 at *
  have hT3 := HT3.out
  obtain ⟨Fd, Fr, hd, hr, hdis, hfd, hfr⟩ := hT3
  have HC := Lib.hid (R.sure a.D a.N hr)
  rw [HBB.out, HEE.out] at HC
  clear hd hr hdis hfd hfr
  refine HC.out.mono ?_
  rintro e w4 ⟨rfl, hb4⟩
  have HT5 := Lib.hid ((HT3.out.below hb4).below ((Below.refl _ _).alloc (Nat.le_refl _) (.cells (cel bb).toArray 34)))
  have hs4 := hb4.size
  have HB5 := Lib.hid ((HB3.out.trans (hb4.mono (by omega))).alloc (by omega) (.cells (cel bb).toArray 34))
  have HL1 := Lib.hid (blk_range (blk_past (blk_keep K3.out hb4) (.cells (cel bb).toArray 34)))
  have HL2 := Lib.hid (blk_range (new1 w4 (cel bb).toArray 34))
  clear hb4 HT3 K3 d1 d2 c0 c1 c2 HC
  go_wp2_with (first | (refine wpList_val rfl (exec_alloc rfl) ?_) | (refine wpList_nul rfl (exec_fill rfl rfl rfl) ?_) | (refine wpList_val rfl (exec_load rfl rfl HL1.out) ?_) | (refine wpList_val rfl (exec_load rfl rfl HL2.out) ?_) | (refine wpList_val rfl (exec_eql rfl rfl rfl) ?_))
  all_goals
    go_ret
    exact ⟨by simp, HB5.out, _, HT5.out, fun k hk => hk.less⟩
theorem both6_any (P : BenP) (R : BenR) {w : World} {B pd pr : Nat} {M : BenS} {a : Act6} (h : Twin6 P R w B pd pr M) (hB : B ≤ w.heap.size) (hR : Room M 1) (hN : a.N < 9223372036854775808) (hP : ∃ l, RdE IntE w B a.A a.n l ∧ a.n ≤ a.c ∧ a.c ≤ maxLen) :
    Calls Try.prog 11 #[.pointer (some ⟨pd, 0, none⟩), .pointer (some ⟨pr, 0, none⟩), act6V a] w (Owes6 P R w B pd pr M) := by
  by_cases h0 : a.Do = 0
  · exact both6_write P R h hB hR h0
  by_cases h1 : a.Do = 1
  · exact both6_read P R h hB h1
  by_cases h2 : a.Do = 2
  · exact both6_flush P R h hB hR h2
  by_cases h3 : a.Do = 3
  · exact both6_fail P R h hB h3
  by_cases h4 : a.Do = 4
  · exact both6_insert P R h hB h4
  by_cases h5 : a.Do = 5
  · exact both6_arm P R h hB hN h5
  by_cases h6 : a.Do = 6
  · exact both6_crash P R h hB hP h6
  by_cases h7 : a.Do = 7
  · exact both6_sure P R h hB h7
  exact both6_rot P R h hB ⟨h0, h1, h2, h3, h4, h5, h6, h7⟩
end Go.Proofs.Ytpcdcnnnkblhiaa
namespace Go.Proofs.Ytpcdcnnnkblhiaa
open Go.RowKit
set_option linter.unusedVariables false
set_option maxRecDepth 100000

/-- Two benches that are there, and have the same: to be read alone. -/
def Both6 (P : BenP) (R : BenR) (w : World) (pd pr : Nat) (M : BenS) : Prop := ∃ Fd Fr, P.Bn w Fd pd M ∧ R.Bn w Fr pr M
section
variable {P : BenP} {R : BenR} {w w' : World} {pd pr : Nat} {M : BenS}
theorem Both6.below (h : Both6 P R w pd pr M) (k : Below w.heap.size w w') : Both6 P R w' pd pr M := by
  obtain ⟨Fd, Fr, h1, h2⟩ := h
  exact ⟨Fd, Fr, P.toBen.below h1 k, R.toBen.below h2 k⟩
theorem Both6.alloc (h : Both6 P R w pd pr M) (o : Obj) : Both6 P R (w.alloc o) pd pr M := h.below ((Below.refl _ _).alloc (Nat.le_refl _) o)
end
theorem seN6_le {M : BenS} (h : M.Wf) (d : Int) : 0 ≤ seN6 M d ∧ seN6 M d ≤ 512 := by
  rcases hasE_is M d with ⟨e, _⟩ | ⟨e, k, rfl, hk⟩
  · unfold seN6; rw [if_neg (by omega)]; omega
  · unfold seN6; rw [if_pos e, M.dev_nat]; have := (h.len k hk).2; omega
set_option maxHeartbeats 4000000 in
theorem alike6 (P : BenP) (R : BenR) {w : World} {pd pr : Nat} {M : BenS} (h : Both6 P R w pd pr M) :
    Calls Try.prog 13 #[.pointer (some ⟨pd, 0, none⟩), .pointer (some ⟨pr, 0, none⟩)] w fun e w' => e = .returned (.bool true) ∧ Below w.heap.size w w' := by
  have hM : M.Wf := by obtain ⟨Fd, Fr, h1, h2⟩ := h; exact P.wf h1
  have h17 := hM.cap
  have HM := Lib.hid hM
  have HT0 := Lib.hid h
  have HB0 := Lib.hid (Below.refl w.heap.size w)
  clear h hM
  go_enter Try.func13, Try.ntmps13
  go_wp2_with fail
  obtain ⟨Fd, Fr, hd, hr⟩ := HT0.out
  refine (P.devices hd).mono ?_
  rintro e w1 ⟨rfl, hb⟩
  have HT1 := Lib.hid (HT0.out.below hb)
  have HB1 := Lib.hid (HB0.out.trans (hb.mono HB0.out.size))
  clear hb hd hr HT0 HB0
  go_wp2_with fail
  obtain ⟨Fd, Fr, hd, hr⟩ := HT1.out
  refine (R.devices hr).mono ?_
  rintro e w2 ⟨rfl, hb⟩
  have HT2 := Lib.hid (HT1.out.below hb)
  have HB2 := Lib.hid (HB1.out.trans (hb.mono HB1.out.size))
  clear hb hd hr HT1 HB1
  go_wp2_with fail
  obtain ⟨Fd, Fr, hd, hr⟩ := HT2.out
  refine (P.dark hd).mono ?_
  rintro e w3 ⟨rfl, hb⟩
  have HT3 := Lib.hid (HT2.out.below hb)
  have HB3 := Lib.hid (HB2.out.trans (hb.mono HB2.out.size))
  clear hb hd hr HT2 HB2
  go_wp2_with fail
  obtain ⟨Fd, Fr, hd, hr⟩ := HT3.out
  refine (R.dark hr).mono ?_
  rintro e w4 ⟨rfl, hb⟩
  have HT4 := Lib.hid (HT3.out.below hb)
  have HB4 := Lib.hid (HB3.out.trans (hb.mono HB3.out.size))
  clear hb hd hr HT3 HB3
  go_wp2_with fail
  obtain ⟨Fd, Fr, hd, hr⟩ := HT4.out
  refine (P.steps hd).mono ?_
  rintro e w5 ⟨rfl, hb⟩
  have HT5 := Lib.hid (HT4.out.below hb)
  have HB5 := Lib.hid (HB4.out.trans (hb.mono HB4.out.size))
  clear hb hd hr HT4 HB4
  go_wp2_with fail
  obtain ⟨Fd, Fr, hd, hr⟩ := HT5.out
  refine (R.steps hr).mono ?_
  rintro e w6 ⟨rfl, hb⟩
  have HT6 := Lib.hid (HT5.out.below hb)
  have HB6 := Lib.hid (HB5.out.trans (hb.mono HB5.out.size))
  clear hb hd hr HT5 HB5
  go_wp2_with fail
  go_loopw [5, 6, 7, 8, 9, 10, 11, 12, 13, 14] (fun i p6 p7 p8 p9 p10 p11 p12 p13 p14 wr => ∃ j : Int, -1 ≤ j ∧ j ≤ M.ds.length + 1 ∧ i = .int .i64 j ∧ Below w6.heap.size w6 wr) (fun i _ _ _ _ _ _ _ _ _ _ => (M.ds.length + 1 - intOf i).toNat)
  case atStart => exact ⟨-1, by omega, by omega, rfl, Below.refl _ _⟩
  case round =>
    obtain ⟨j, hj1, hj2, rfl, hbl⟩ := hrel
    obtain ⟨wA, rfl⟩ : ∃ x, x = wr := ⟨_, rfl⟩
    have HT := Lib.hid (HT6.out.below hbl)
    have HBL := Lib.hid hbl
    clear hbl
    go_wp2_with fail
    obtain ⟨Fd, Fr, hd, hr⟩ := HT.out
    refine (R.devices hr).mono ?_
    rintro e w7 ⟨rfl, hb⟩
    have HT7 := Lib.hid (HT.out.below hb)
    have HB7 := Lib.hid (HBL.out.trans (hb.mono HBL.out.size))
    clear hb hd hr HT HBL
    by_cases hlt : j ≤ M.ds.length
    · go_wp2_with fail
      obtain ⟨Fd, Fr, hd, hr⟩ := HT7.out
      refine (P.sectors j hd).mono ?_
      rintro e w8 ⟨rfl, hb⟩
      have HT8 := Lib.hid (HT7.out.below hb)
      have HB8 := Lib.hid (HB7.out.trans (hb.mono HB7.out.size))
      clear hb hd hr HT7 HB7
      go_wp2_with fail
      obtain ⟨Fd, Fr, hd, hr⟩ := HT8.out
      refine (R.sectors j hr).mono ?_
      rintro e w9 ⟨rfl, hb⟩
      have HT9 := Lib.hid (HT8.out.below hb)
      have HB9 := Lib.hid (HB8.out.trans (hb.mono HB8.out.size))
      clear hb hd hr HT8 HB8
      go_wp2_with fail
      obtain ⟨Fd, Fr, hd, hr⟩ := HT9.out
      refine (P.dead j hd).mono ?_
      rintro e w10 ⟨rfl, hb⟩
      have HT10 := Lib.hid (HT9.out.below hb)
      have HB10 := Lib.hid (HB9.out.trans (hb.mono HB9.out.size))
      clear hb hd hr HT9 HB9
      go_wp2_with fail
      obtain ⟨Fd, Fr, hd, hr⟩ := HT10.out
      refine (R.dead j hr).mono ?_
      rintro e w11 ⟨rfl, hb⟩
      have HT11 := Lib.hid (HT10.out.below hb)
      have HB11 := Lib.hid (HB10.out.trans (hb.mono HB10.out.size))
      clear hb hd hr HT10 HB10
      go_wp2_with fail
      obtain ⟨N, hN⟩ : ∃ N, seN6 M j = N := ⟨_, rfl⟩
      have hN2 : 0 ≤ N ∧ N ≤ 512 := by rw [← hN]; exact seN6_le HM.out j
      have HN := Lib.hid hN
      clear hN
      go_loopw [6, 7, 8, 9, 10, 11, 12, 13, 14] (fun i p7 p8 p9 p10 p11 p12 p13 p14 wr => ∃ k : Nat, (k : Int) ≤ N ∧ i = .int .i64 k ∧ Below w11.heap.size w11 wr) (fun i _ _ _ _ _ _ _ _ _ => (N - intOf i).toNat)
      case atStart => exact ⟨0, by omega, rfl, Below.refl _ _⟩
      case round =>
        obtain ⟨k, hk, rfl, hbl⟩ := hrel
        have HT := Lib.hid (HT11.out.below hbl)
        have HBL := Lib.hid hbl
        clear hbl
        go_wp2_with fail
        obtain ⟨Fd, Fr, hd, hr⟩ := HT.out
        have HC := Lib.hid (R.sectors j hr)
        rw [HN.out] at HC
        clear hd hr
        refine HC.out.mono ?_
        rintro e v0 ⟨rfl, hb⟩
        have HT0 := Lib.hid (HT.out.below hb)
        have HB0 := Lib.hid (HBL.out.trans (hb.mono HBL.out.size))
        clear hb HT HBL HC
        by_cases hkl : (k : Int) < N
        · obtain ⟨zz, hzz⟩ : ∃ z, suB6 M j k = z := ⟨_, rfl⟩
          obtain ⟨ze, hze⟩ : ∃ z, suE6 M j k = z := ⟨_, rfl⟩
          obtain ⟨xx, hxx⟩ : ∃ z, rdB6 M j k = z := ⟨_, rfl⟩
          obtain ⟨xe, hxe⟩ : ∃ z, rdE6 M j k = z := ⟨_, rfl⟩
          have HZZ := Lib.hid hzz
          have HZE := Lib.hid hze
          have HXX := Lib.hid hxx
          have HXE := Lib.hid hxe
          clear hzz hze hxx hxe
          go_wp2_with fail
          obtain ⟨Fd, Fr, hd, hr⟩ := HT0.out
          have HC := Lib.hid (P.sure j k hd)
          rw [HZZ.out, HZE.out] at HC
          clear hd hr
          refine HC.out.mono ?_
          rintro e u0 ⟨rfl, hb⟩
          have HT1 := Lib.hid ((HT0.out.below hb).alloc (.cells (cel zz).toArray 34))
          have HB1 := Lib.hid ((HB0.out.trans (hb.mono HB0.out.size)).alloc (Nat.le_trans HB0.out.size hb.size) (.cells (cel zz).toArray 34))
          have K01 := Lib.hid (new1 u0 (cel zz).toArray 34)
          clear hb HC HT0 HB0 
          go_wp2_with (first | (refine wpList_val rfl (exec_alloc rfl) ?_) | (refine wpList_nul rfl (exec_fill rfl rfl rfl) ?_) | fail)
          generalize hy0 : u0.heap.size = y0 at *
          generalize u0.alloc (.cells (cel zz).toArray 34) = v1 at *
          clear hy0
          obtain ⟨Fd, Fr, hd, hr⟩ := HT1.out
          have HC := Lib.hid (R.sure j k hr)
          rw [HZZ.out, HZE.out] at HC
          clear hd hr
          refine HC.out.mono ?_
          rintro e u1 ⟨rfl, hb⟩
          have HT2 := Lib.hid ((HT1.out.below hb).alloc (.cells (cel zz).toArray 34))
          have HB2 := Lib.hid ((HB1.out.trans (hb.mono HB1.out.size)).alloc (Nat.le_trans HB1.out.size hb.size) (.cells (cel zz).toArray 34))
          have K02 := Lib.hid (blk_past (blk_keep K01.out hb) (.cells (cel zz).toArray 34))
          have K12 := Lib.hid (new1 u1 (cel zz).toArray 34)
          clear hb HC HT1 HB1 K01
          go_wp2_with (first | (refine wpList_val rfl (exec_alloc rfl) ?_) | (refine wpList_nul rfl (exec_fill rfl rfl rfl) ?_) | fail)
          generalize hy1 : u1.heap.size = y1 at *
          generalize u1.alloc (.cells (cel zz).toArray 34) = v2 at *
          clear hy1
          obtain ⟨Fd, Fr, hd, hr⟩ := HT2.out
          have HC := Lib.hid (P.read j k hd)
          rw [HXX.out, HXE.out] at HC
          clear hd hr
          refine HC.out.mono ?_
          rintro e u2 ⟨rfl, hb⟩
          have HT3 := Lib.hid ((HT2.out.below hb).alloc (.cells (cel xx).toArray 34))
          have HB3 := Lib.hid ((HB2.out.trans (hb.mono HB2.out.size)).alloc (Nat.le_trans HB2.out.size hb.size) (.cells (cel xx).toArray 34))
          have K03 := Lib.hid (blk_past (blk_keep K02.out hb) (.cells (cel xx).toArray 34))
          have K13 := Lib.hid (blk_past (blk_keep K12.out hb) (.cells (cel xx).toArray 34))
          have K23 := Lib.hid (new1 u2 (cel xx).toArray 34)
          clear hb HC HT2 HB2 K02 K12
          go_wp2_with (first | (refine wpList_val rfl (exec_alloc rfl) ?_) | (refine wpList_nul rfl (exec_fill rfl rfl rfl) ?_) | fail)
          generalize hy2 : u2.heap.size = y2 at *
          generalize u2.alloc (.cells (cel xx).toArray 34) = v3 at *
          clear hy2
          obtain ⟨Fd, Fr, hd, hr⟩ := HT3.out
          have HC := Lib.hid (R.read j k hr)
          rw [HXX.out, HXE.out] at HC
          clear hd hr
          refine HC.out.mono ?_
          rintro e u3 ⟨rfl, hb⟩
          have HT4 := Lib.hid ((HT3.out.below hb).alloc (.cells (cel xx).toArray 34))
          have HB4 := Lib.hid ((HB3.out.trans (hb.mono HB3.out.size)).alloc (Nat.le_trans HB3.out.size hb.size) (.cells (cel xx).toArray 34))
          have K04 := Lib.hid (blk_past (blk_keep K03.out hb) (.cells (cel xx).toArray 34))
          have K14 := Lib.hid (blk_past (blk_keep K13.out hb) (.cells (cel xx).toArray 34))
          have K24 := Lib.hid (blk_past (blk_keep K23.out hb) (.cells (cel xx).toArray 34))
          have K34 := Lib.hid (new1 u3 (cel xx).toArray 34)
          clear hb HC HT3 HB3 K03 K13 K23
          have R0 := Lib.hid (blk_range K04.out)
          have R1 := Lib.hid (blk_range K14.out)
          have R2 := Lib.hid (blk_range K24.out)
          have R3 := Lib.hid (blk_range K34.out)
          clear K04 K14 K24 K34
          go_wp2_with (first | (refine wpList_val rfl (exec_alloc rfl) ?_) | (refine wpList_nul rfl (exec_fill rfl rfl rfl) ?_) | (refine wpList_val rfl (exec_load rfl rfl R0.out) ?_) | (refine wpList_val rfl (exec_load rfl rfl R1.out) ?_) | (refine wpList_val rfl (exec_load rfl rfl R2.out) ?_) | (refine wpList_val rfl (exec_load rfl rfl R3.out) ?_) | (refine wpList_val rfl (exec_neq rfl rfl rfl) ?_))
          go_roundw
          case rel => exact ⟨k + 1, by omega, by go_num, HB4.out⟩
          case measure => simp [intOf]; omega
        · have HBE := Lib.hid (HB11.out.trans (HB0.out.mono HB11.out.size))
          clear HB0
          go_wp2_with fail
          go_roundw
          case rel => exact ⟨j + 1, by omega, by omega, rfl, HBE.out⟩
          case measure => simp [intOf]; omega
    · have HBE := Lib.hid (HB6.out.trans (HB7.out.mono HB6.out.size))
      clear HB7
      go_wp2_with fail
      go_ret
      exact ⟨rfl, HBE.out⟩
end Go.Proofs.Ytpcdcnnnkblhiaa
namespace Go.Proofs.Ytpcdcnnnkblhiaa
open Go.RowKit
set_option linter.unusedVariables false
set_option maxRecDepth 100000

set_option maxHeartbeats 4000000 in
theorem plays6_no (P : BenP) (R : BenR) {A A1 : Option Addr} {n c n1 c1 : Nat} {ks : List Int} {w : World} (hl : RdE IntE w w.heap.size A n ks) (hnc : n ≤ c) (hc : c ≤ maxLen) (hno : ¬ newOk ks) :
    Calls Try.prog 3 #[.slice A n c, .slice A1 n1 c1] w fun e w' => e = .returned (.bool true) ∧ Below w.heap.size w w' := by
  have HL := Lib.hid hl
  have HC := Lib.hid hc
  clear hl hc
  go_enter Try.func3, Try.ntmps3
  go_wp2_with fail
  refine (P.new HL.out hnc HC.out).mono ?_
  rintro e w1 ⟨hb1, ⟨hok, _⟩ | ⟨_, rfl⟩⟩
  · exact absurd hok hno
  have HL1 := Lib.hid (HL.out.step hb1)
  have HB1 := Lib.hid hb1
  clear hb1
  go_wp2_with fail
  refine (R.new HL1.out hnc HC.out).mono ?_
  rintro e w2 ⟨hb2, ⟨hok, _⟩ | ⟨_, rfl⟩⟩
  · exact absurd hok hno
  have HB2 := Lib.hid (two HB1.out hb2)
  clear hb2
  go_wp2_with fail
  refine (lives6 P w2).mono ?_
  rintro e w3 ⟨rfl, hb3⟩
  have HB3 := Lib.hid (two HB2.out hb3)
  clear hb3
  go_wp2_with fail
  go_ret
  exact ⟨rfl, HB3.out⟩
theorem hasE_cr {M : BenS} (h : 1 ≤ M.ds.length) (P : List Int) : hasE (crS6 M P) 0 = 0 := by
  unfold hasE
  rw [if_pos]
  show (0 : Int) ≤ 0 ∧ (0 : Int) < ((crAll M.ds P).length : Int)
  rw [crAll_len]
  omega
set_option maxHeartbeats 4000000 in
theorem plays6_ok (P : BenP) (R : BenR) {A A1 : Option Addr} {n c n1 c1 : Nat} {ks : List Int} {l : List Act6} {w : World} (hl : RdE IntE w w.heap.size A n ks) (hnc : n ≤ c) (hc : c ≤ maxLen) (hok : newOk ks)
    (hl1 : RdE Act6E w w.heap.size A1 n1 l) (hnc1 : n1 ≤ c1) (hc1 : c1 ≤ maxLen) (hp : ∀ k, k < n1 → Act6In w (l.getD k zeroAct6)) :
    Calls Try.prog 3 #[.slice A n c, .slice A1 n1 c1] w fun e w' => e = .returned (.bool true) ∧ Below w.heap.size w w' := by
  have HL := Lib.hid hl
  have HC := Lib.hid hc
  have HL1 := Lib.hid hl1
  have HP := Lib.hid hp
  unfold maxLen at hc1
  clear hl hc hl1 hp
  go_enter Try.func3, Try.ntmps3
  go_wp2_with fail
  refine (P.new HL.out hnc HC.out).mono ?_
  rintro e w1 ⟨hb1, ⟨_, pd, Fd, rfl, hd, hfd⟩ | ⟨hno, _⟩⟩
  rotate_left 1
  · exact absurd hok hno
  have HLS := Lib.hid (HL.out.step hb1)
  have HB1 := Lib.hid hb1
  have HD := Lib.hid hd
  have HFD := Lib.hid hfd
  clear hb1 hd hfd
  go_wp2_with fail
  refine (R.new HLS.out hnc HC.out).mono ?_
  rintro e w2 ⟨hb2, ⟨_, pr, Fr, rfl, hr, hfr⟩ | ⟨hno, _⟩⟩
  rotate_left 1
  · exact absurd hok hno
  have HT := Lib.hid (show Twin6 P R w2 w.heap.size pd pr (newS6 ks) from ⟨Fd, Fr, P.toBen.below HD.out hb2, hr, fun b hb hf => by have := P.lt HD.out b hb; have := hfr b hf; omega, HFD.out, fun b hb => Nat.le_trans HB1.out.size (hfr b hb)⟩)
  have HB := Lib.hid (two HB1.out hb2)
  clear hb2 hr hfr HD HFD HB1 HLS
  go_wp2_with fail
  go_loopw [9] (fun i wr => ∃ (j : Nat) (M : BenS), j ≤ n1 ∧ j ≤ 60 ∧ i = .int .i64 j ∧ Twin6 P R wr w.heap.size pd pr M ∧ Room M (100 - j) ∧ Below w.heap.size w wr) (fun i _ => n1 - (intOf i).toNat)
  case atStart => exact ⟨0, _, Nat.zero_le _, by omega, rfl, HT.out, room_new (by omega), HB.out⟩
  case round =>
    clear HT HB
    obtain ⟨j, M, hjn, hj6, rfl, hT, hroom, hbl⟩ := hrel
    have HTT := Lib.hid hT
    have HBL := Lib.hid hbl
    have HRO := Lib.hid hroom
    by_cases hlt : j < n1 ∧ j < 60
    · obtain ⟨hlt, h60⟩ := hlt
      have h60' : (j : Int) < 60 := by omega
      have hln : (j : Int) < (n1 : Int) := by omega
      obtain ⟨bA, oA, hAe, hA, hra⟩ := (HL1.out.below hbl).2 j hlt
      obtain ⟨⟨Q, hPr, hPn, hPc⟩, hN⟩ := HP.out j hlt
      have hra' : wr.rangeAt bA (oA + j * 70) (act6C (l.getD j zeroAct6)) := hra
      clear hra
      generalize l.getD j zeroAct6 = a at *
      have HRA := Lib.hid hra'
      have HPP := Lib.hid (show ∃ Q, RdE IntE wr w.heap.size a.A a.n Q ∧ a.n ≤ a.c ∧ a.c ≤ maxLen from ⟨Q, hPr.below hbl, hPn, hPc⟩)
      have HR1 := Lib.hid (show Room M 1 from ⟨by have := hroom.1; omega, hroom.2.1, fun d hd => by have := hroom.2.2 d hd; omega⟩)
      have HN := Lib.hid hN
      subst hAe
      clear hT hbl hra' hPr hPn hPc hroom hN
      go_wp2_with (first | (refine wpList_val rfl (exec_loadAct6 rfl rfl HRA.out) ?_) | fail)
      refine (both6_any P R HTT.out HBL.out.size HR1.out HN.out HPP.out).mono ?_
      rintro e w5 ⟨rfl, hb5, M', hT5, hk5⟩
      have HT5 := Lib.hid hT5
      have HB5 := Lib.hid (HBL.out.trans hb5)
      have HK5 := Lib.hid (hk5 (99 - j) (by have := HRO.out; rwa [show 100 - j = 99 - j + 1 from by omega] at this))
      clear hT5 hb5 hk5
      go_wp2_with fail
      go_roundw
      case rel => exact ⟨j + 1, M', by omega, by omega, by go_num, HT5.out, by rw [show 100 - (j + 1) = 99 - j from by omega]; exact HK5.out, HB5.out⟩
      case measure => simp [intOf]; omega
    · have hor : ¬((j : Int) < (n1 : Int)) ∨ ((j : Int) < (n1 : Int) ∧ ¬((j : Int) < 60)) := by omega
      clear hT hbl hroom hlt
      rcases hor with hln | ⟨hln, hl6⟩
      all_goals
        go_wp2_with fail
        obtain ⟨Fd, Fr, hd, hr, _⟩ := HTT.out
        have HW := Lib.hid (P.wf hd)
        refine (P.copy hd).mono ?_
        rintro e u1 ⟨pc, Fc, rfl, hc, hfc, hb⟩
        have HC1 := Lib.hid (show At P.toBen wr wr.heap.size u1 pc M from ⟨Fc, hc, hfc, hb, Nat.le_refl _⟩)
        have HX1 := Lib.hid (show Both6 P R u1 pc pr M from ⟨Fc, Fr, hc, R.toBen.below hr hb⟩)
        have HY := Lib.hid (show Both6 P R wr pd pr M from ⟨Fd, Fr, hd, hr⟩)
        clear hd hr hc hfc hb
        go_wp2_with fail
        refine (alike6 P R HX1.out).mono ?_
        rintro e u2 ⟨rfl, hb⟩
        have HC2 := Lib.hid (HC1.out.below hb)
        clear hb
        go_wp2_with fail
        refine (At.crash (P := []) (RdE.nil _ _ _) (Nat.le_refl _) (Nat.zero_le _) HC2.out).mono ?_
        rintro e u3 ⟨rfl, h3⟩
        have HC3 := Lib.hid h3
        clear h3
        go_wp2_with fail
        refine (At.fail 0 HC3.out).mono ?_
        rintro e u4 ⟨rfl, h4⟩
        rw [hasE_cr HW.out.one]
        have HB4 := Lib.hid h4.bel
        clear h4
        go_wp2_with fail
        refine (alike6 P R (HY.out.below HB4.out)).mono ?_
        rintro e u5 ⟨rfl, hb⟩
        have HB5 := Lib.hid (two HB4.out hb)
        clear hb
        go_wp2_with fail
        refine (lives6 P u5).mono ?_
        rintro e u6 ⟨rfl, hb⟩
        have HB6 := Lib.hid (HBL.out.trans ((two HB5.out hb).mono HBL.out.size))
        clear hb
        go_wp2_with fail
        go_ret
        exact ⟨rfl, HB6.out⟩
end Go.Proofs.Ytpcdcnnnkblhiaa
