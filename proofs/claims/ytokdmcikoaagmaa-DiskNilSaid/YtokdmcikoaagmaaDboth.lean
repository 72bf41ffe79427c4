/-
  both: an act, done to a device of the program and to the document's one: the answers are the same, and both have the same afterwards.
-/
import Derived.Test.YtokdmcikoaagmaaDlives
import Derived.Test.YtokdmcikoaagmaaActO
namespace Go.Proofs.Ytokdmcikoaagmaa
open Go.RowKit
set_option linter.unusedVariables false

/-- A device of the program and the document's one have the same; they share no block, and lie from block B on. -/
def Twin (D : Dev) (w : World) (B pd pr : Nat) (S : List Blk) (L : List (Int × Blk)) (g : Bool) : Prop :=
  ∃ Fd Fr, D.Dv w Fd pd S L g ∧ Rv w Fr pr S L g ∧ (∀ b, Fd b → ¬ Fr b) ∧ (∀ b, Fd b → B ≤ b) ∧ (∀ b, Fr b → B ≤ b)
section
variable {D : Dev} {w w' : World} {B pd pr : Nat} {S : List Blk} {L : List (Int × Blk)} {g : Bool}
theorem Twin.below (h : Twin D w B pd pr S L g) (k : Below w.heap.size w w') : Twin D w' B pd pr S L g := by
  obtain ⟨Fd, Fr, h1, h2, h3, h4, h5⟩ := h
  exact ⟨Fd, Fr, D.below h1 k, h2.below k, h3, h4, h5⟩
/-- The program's device was turned; then the document's. -/
theorem Twin.first {Fd Fr F' : Nat → Prop} (h2 : Rv w Fr pr S L g) (hd : ∀ b, Fd b → ¬ Fr b) (ho : Only Fd w w') (hg : Grow w Fd F') : Rv w' Fr pr S L g ∧ ∀ b, F' b → ¬ Fr b :=
  ⟨h2.only ho fun b hb hf => hd b hf hb, fun b hb hf => by
    rcases hg b hb with e | e
    · exact hd b e hf
    · have := h2.lt b hf; omega⟩
theorem Twin.second {S' : List Blk} {L' : List (Int × Blk)} {g' : Bool} {Fd Fr F' : Nat → Prop} (h1 : D.Dv w Fd pd S' L' g') (hd : ∀ b, Fd b → ¬ Fr b) (ho : Only Fr w w') (hg : Grow w Fr F') : D.Dv w' Fd pd S' L' g' ∧ ∀ b, Fd b → ¬ F' b :=
  ⟨D.only h1 ho fun b hb hf => hd b hb hf, fun b hb hf => by
    rcases hg b hf with e | e
    · exact hd b hb e
    · have := D.lt h1 b hb; omega⟩
end
/-! ### An act in a box -/
theorem exec_boxA {ρ : Operand → Value} {o : Oper} {x : Operand} {w : World} {a : ActT} (ho : o.op = .box 36 x) (hx : ρ x = actV a) : (execOp ρ o).run Try.prog w = .ok (.value (.pointer (some ⟨w.heap.size, 0, none⟩))) (w.alloc (.cells (actC a).toArray 36)) := by
  unfold execOp
  simp only [ho, hx, Sem.run_bind, Instr.box, Sem.run_pure]
  simp [newVar, newRow, actV, Value.cells]
section
variable {w : World} {b off : Nat} {a : ActT}
theorem faA0 : (Instr.fieldAt 36 (.pointer (some ⟨b, 0, none⟩)) 0).run Try.prog w = .ok (.pointer (some ⟨b, 0, none⟩)) w := by kernel_rfl
theorem faA1 : (Instr.fieldAt 36 (.pointer (some ⟨b, 0, none⟩)) 1).run Try.prog w = .ok (.pointer (some ⟨b, 1, none⟩)) w := by kernel_rfl
theorem faA2 : (Instr.fieldAt 36 (.pointer (some ⟨b, 0, none⟩)) 2).run Try.prog w = .ok (.pointer (some ⟨b, 2, none⟩)) w := by kernel_rfl
theorem faA3 : (Instr.fieldAt 36 (.pointer (some ⟨b, 0, none⟩)) 3).run Try.prog w = .ok (.pointer (some ⟨b, 3, none⟩)) w := by kernel_rfl
theorem faA4 : (Instr.fieldAt 36 (.pointer (some ⟨b, 0, none⟩)) 4).run Try.prog w = .ok (.pointer (some ⟨b, 4, none⟩)) w := by kernel_rfl
theorem faA5 : (Instr.fieldAt 36 (.pointer (some ⟨b, 0, none⟩)) 5).run Try.prog w = .ok (.pointer (some ⟨b, 68, none⟩)) w := by kernel_rfl
/-- What an act's box holds, but its first number. -/
def ActIn (w : World) (b : Nat) (a : ActT) : Prop := w.cell? ⟨b, 1, none⟩ = some (.int .i64 a.N) ∧ w.cell? ⟨b, 2, none⟩ = some (.int .i64 a.At) ∧ w.cell? ⟨b, 3, none⟩ = some (.int .u8 (a.By.toNat : Int)) ∧ w.rangeAt b 4 (cel a.B) ∧ w.cell? ⟨b, 68, none⟩ = some (.slice a.A a.n a.c)
theorem act_box (h : w.heap[b]? = some (.cells (actC a).toArray 36)) : w.cell? ⟨b, 0, none⟩ = some (.int .i64 a.Do) ∧ ActIn w b a := by
  have hc : ∀ i, w.cell? ⟨b, i, none⟩ = (actC a)[i]? := fun i => by
    rw [cell_of_row w b i _ _ (0, 0) h]; simp
  refine ⟨(hc 0).trans rfl, (hc 1).trans rfl, (hc 2).trans rfl, (hc 3).trans rfl, fun j v hj => ?_, ?_⟩
  · rw [hc, show 4 + j = j + 4 from by omega]
    have hlt := (List.getElem?_eq_some_iff.1 hj).1
    show (cel a.B ++ [_])[j]? = some v
    rw [List.getElem?_append_left hlt]
    exact hj
  · rw [hc]
    show (cel a.B ++ [_])[64]? = _
    rw [List.getElem?_append_right (by rw [cel_length]; omega), cel_length]
    rfl
theorem ActIn.below {w' : World} {B : Nat} (h : ActIn w b a) (hb : b < B) (k : Below B w w') : ActIn w' b a :=
  ⟨(k.cell (p := ⟨b, 1, none⟩) hb).trans h.1, (k.cell (p := ⟨b, 2, none⟩) hb).trans h.2.1, (k.cell (p := ⟨b, 3, none⟩) hb).trans h.2.2.1, range_below h.2.2.2.1 hb k, (k.cell (p := ⟨b, 68, none⟩) hb).trans h.2.2.2.2⟩
theorem ActIn.only {w' : World} {F : Nat → Prop} (h : ActIn w b a) (hb : b < w.heap.size) (k : Only F w w') (hn : ¬ F b) : ActIn w' b a :=
  ⟨(k.cell (p := ⟨b, 1, none⟩) hb hn).trans h.1, (k.cell (p := ⟨b, 2, none⟩) hb hn).trans h.2.1, (k.cell (p := ⟨b, 3, none⟩) hb hn).trans h.2.2.1, (fun j v hj => (k.cell (p := ⟨b, 4 + j, none⟩) hb hn).trans (h.2.2.2.1 j v hj)), (k.cell (p := ⟨b, 68, none⟩) hb hn).trans h.2.2.2.2⟩
end
/-- What 'both' owes. -/
def Owes (D : Dev) (w : World) (B pd pr : Nat) (L : List (Int × Blk)) (e : Ending) (w' : World) : Prop := e = .returned (.bool true) ∧ Below B w w' ∧ ∃ S' L' g', Twin D w' B pd pr S' L' g' ∧ L'.length ≤ L.length + 1
theorem wrL_len (S : List Blk) (L : List (Int × Blk)) (g : Bool) (n : Int) (b : Blk) : (wrL S L g n b).length ≤ L.length + 1 := by
  unfold wrL; split
  · simp
  · omega
set_option maxRecDepth 100000 in
set_option maxHeartbeats 2000000 in
theorem both_write (D : Dev) (w : World) (B pd pr : Nat) (S : List Blk) (L : List (Int × Blk)) (g : Bool) (a : ActT) (h : Twin D w B pd pr S L g) (hB : B ≤ w.heap.size) (hL : L.length < 1000000) (hdo : a.Do = 0) :
    Calls Try.prog 11 #[.pointer (some ⟨pd, 0, none⟩), .pointer (some ⟨pr, 0, none⟩), actV a] w (Owes D w B pd pr L) := by
  have hA := (Below.refl w.heap.size w).alloc (Nat.le_refl _) (.cells (actC a).toArray 36)
  obtain ⟨c0, hbox⟩ := act_box (new1 w (actC a).toArray 36)
  rw [hdo] at c0
  have HBX := Lib.hid hbox
  obtain ⟨Fd, Fr, hd, hr, hdis, hfd, hfr⟩ := h
  have hxd : ¬ Fd w.heap.size := fun e => absurd (D.lt hd _ e) (Nat.lt_irrefl _)
  have hxr : ¬ Fr w.heap.size := fun e => absurd (hr.lt _ e) (Nat.lt_irrefl _)
  have HD := Lib.hid (D.below hd hA)
  have HR := Lib.hid (hr.below hA)
  have HB1 := Lib.hid (hA.mono hB)
  have HSZ := Lib.hid (World.size_alloc w (.cells (actC a).toArray 36))
  clear hA hbox hd hr
  unfold Owes
  go_enter Try.func11, Try.ntmps11
  go_wp2_with (first | (refine wpList_val rfl (exec_boxA rfl rfl) ?_) | fail)
  generalize hx : w.heap.size = x at *
  generalize w.alloc (.cells (actC a).toArray 36) = w1 at *
  refine wp_region_last (fun w' => Hid (ActIn w' x a)) 13 (by kernel_rfl) ?_
  change wpAnyZ _ _ _ _ _ _ 14 _ _ w1.drew
  have hS : Hid (ActIn w1.drew x a) := Lib.hid HBX.out
  refine last_val 0 rfl (by kernel_rfl) (by kernel_rfl) (by kernel_rfl) (by decide) (by kernel_rfl) rfl (fun w' hw => exec_mv rfl (ev rfl)) (fun _ _ _ h => h) hS ?_
  simp only [Act.put, List.setIfInBounds_toArray, List.set_cons_succ, List.set_cons_zero]
  refine last_val 1 rfl (by kernel_rfl) (by kernel_rfl) (by kernel_rfl) (by decide) (by kernel_rfl) rfl (fun w' hw => exec_faddr rfl (ev rfl) faA1) (fun _ _ _ h => h) hS ?_
  simp only [Act.put, List.setIfInBounds_toArray, List.set_cons_succ, List.set_cons_zero]
  refine last_val 2 rfl (by kernel_rfl) (by kernel_rfl) (by kernel_rfl) (by decide) (by kernel_rfl) rfl (fun w' hw => exec_ld rfl (ev rfl) (ldI hw.out.1)) (fun _ _ _ h => h) hS ?_
  simp only [Act.put, List.setIfInBounds_toArray, List.set_cons_succ, List.set_cons_zero]
  refine last_val 3 rfl (by kernel_rfl) (by kernel_rfl) (by kernel_rfl) (by decide) (by kernel_rfl) rfl (fun w' hw => exec_faddr rfl (ev rfl) faA4) (fun _ _ _ h => h) hS ?_
  simp only [Act.put, List.setIfInBounds_toArray, List.set_cons_succ, List.set_cons_zero]
  refine last_val 4 rfl (by kernel_rfl) (by kernel_rfl) (by kernel_rfl) (by decide) (by kernel_rfl) rfl (fun w' hw => exec_load rfl (ev rfl) hw.out.2.2.2.1) (fun _ _ _ h => h) hS ?_
  simp only [Act.put, List.setIfInBounds_toArray, List.set_cons_succ, List.set_cons_zero]
  refine last_val 6 rfl (by kernel_rfl) (by kernel_rfl) (by kernel_rfl) (by decide) (by kernel_rfl) rfl (fun w' hw => exec_mv rfl (ev rfl)) (fun _ _ _ h => h) hS ?_
  simp only [Act.put, List.setIfInBounds_toArray, List.set_cons_succ, List.set_cons_zero]
  refine last_val 7 rfl (by kernel_rfl) (by kernel_rfl) (by kernel_rfl) (by decide) (by kernel_rfl) rfl (fun w' hw => exec_faddr rfl (ev rfl) faA1) (fun _ _ _ h => h) hS ?_
  simp only [Act.put, List.setIfInBounds_toArray, List.set_cons_succ, List.set_cons_zero]
  refine last_val 8 rfl (by kernel_rfl) (by kernel_rfl) (by kernel_rfl) (by decide) (by kernel_rfl) rfl (fun w' hw => exec_ld rfl (ev rfl) (ldI hw.out.1)) (fun _ _ _ h => h) hS ?_
  simp only [Act.put, List.setIfInBounds_toArray, List.set_cons_succ, List.set_cons_zero]
  refine last_val 9 rfl (by kernel_rfl) (by kernel_rfl) (by kernel_rfl) (by decide) (by kernel_rfl) rfl (fun w' hw => exec_faddr rfl (ev rfl) faA4) (fun _ _ _ h => h) hS ?_
  simp only [Act.put, List.setIfInBounds_toArray, List.set_cons_succ, List.set_cons_zero]
  refine last_val 10 rfl (by kernel_rfl) (by kernel_rfl) (by kernel_rfl) (by decide) (by kernel_rfl) rfl (fun w' hw => exec_load rfl (ev rfl) hw.out.2.2.2.1) (fun _ _ _ h => h) hS ?_
  simp only [Act.put, List.setIfInBounds_toArray, List.set_cons_succ, List.set_cons_zero]
  have hd1 := D.below HD.out (bd (Below.refl _ _))
  have hr1 := HR.out.below (bd (Below.refl _ _))
  have hbw : Below B w w1.drew := bd HB1.out
  have hsz1 : w1.drew.heap.size = x + 1 := HSZ.out
  refine last_call 5 rfl (by kernel_rfl) rfl (exec_cl Try.call16 rfl (evc (ev rfl) (evc (ev rfl) (evc (ev rfl) evn)))) ((D.write a.N a.B hL hd1).mono ?_)
  rintro e w2 ⟨rfl, F2, hd2, ho2, hg2⟩
  obtain ⟨hr2, hdis2⟩ := Twin.first hr1 hdis ho2 hg2
  have hS2 : Hid (ActIn w2 x a) := Lib.hid (hS.out.only (by omega) ho2 hxd)
  have hbw2 := hbw.trans (ho2.below hfd (by omega))
  have hfd2 := hg2.above hfd (by omega)
  have hs2 := ho2.size
  refine ⟨_, rfl, fun _ => hS2, ?_⟩
  simp only [Act.put, List.setIfInBounds_toArray, List.set_cons_succ, List.set_cons_zero]
  refine last_call 11 rfl (by kernel_rfl) rfl (exec_cl Try.call26 rfl (evc (ev rfl) (evc (ev rfl) (evc (ev rfl) evn)))) ((rv_write a.N a.B hL hr2).mono ?_)
  rintro e w3 ⟨rfl, F3, hr3, ho3, hg3⟩
  obtain ⟨hd3, hdis3⟩ := Twin.second hd2 hdis2 ho3 hg3
  have hS3 : Hid (ActIn w3 x a) := Lib.hid (hS2.out.only (by omega) ho3 hxr)
  have hbw3 := hbw2.trans (ho3.below hfr (by omega))
  have hfr3 := hg3.above hfr (by omega)
  refine ⟨_, rfl, fun _ => hS3, ?_⟩
  simp only [Act.put, List.setIfInBounds_toArray, List.set_cons_succ, List.set_cons_zero]
  refine last_turn 12 rfl (by kernel_rfl) rfl (exec_eqInt true rfl (ev rfl) (ev rfl) (beq_self_eq_true _)) (fun _ => hS3) ?_
  simp only [Act.put, List.setIfInBounds_toArray, List.set_cons_succ, List.set_cons_zero]
  refine last_turn 13 rfl (by kernel_rfl) rfl (exec_as rfl (ev rfl)) (fun e => absurd rfl e) ?_
  simp only [Act.put, List.setIfInBounds_toArray, List.set_cons_succ, List.set_cons_zero]
  refine wpAnyZ_done (by kernel_rfl) ?_ _
  go_wp2_with fail
  go_ret
  exact ⟨rfl, hbw3, _, _, _, ⟨F2, F3, hd3, hr3, hdis3, hfd2, hfr3⟩, wrL_len _ _ _ _ _⟩

set_option maxRecDepth 100000 in
set_option maxHeartbeats 2000000 in
theorem both_rot (D : Dev) (w : World) (B pd pr : Nat) (S : List Blk) (L : List (Int × Blk)) (g : Bool) (a : ActT) (h : Twin D w B pd pr S L g) (hB : B ≤ w.heap.size) (hdo : a.Do = 4) :
    Calls Try.prog 11 #[.pointer (some ⟨pd, 0, none⟩), .pointer (some ⟨pr, 0, none⟩), actV a] w (Owes D w B pd pr L) := by
  have hA := (Below.refl w.heap.size w).alloc (Nat.le_refl _) (.cells (actC a).toArray 36)
  obtain ⟨c0, hbox⟩ := act_box (new1 w (actC a).toArray 36)
  rw [hdo] at c0
  have HBX := Lib.hid hbox
  obtain ⟨Fd, Fr, hd, hr, hdis, hfd, hfr⟩ := h
  have hxd : ¬ Fd w.heap.size := fun e => absurd (D.lt hd _ e) (Nat.lt_irrefl _)
  have hxr : ¬ Fr w.heap.size := fun e => absurd (hr.lt _ e) (Nat.lt_irrefl _)
  have HD := Lib.hid (D.below hd hA)
  have HR := Lib.hid (hr.below hA)
  have HB1 := Lib.hid (hA.mono hB)
  have HSZ := Lib.hid (World.size_alloc w (.cells (actC a).toArray 36))
  clear hA hbox hd hr
  unfold Owes
  go_enter Try.func11, Try.ntmps11
  go_wp2_with (first | (refine wpList_val rfl (exec_boxA rfl rfl) ?_) | fail)
  generalize hx : w.heap.size = x at *
  generalize w.alloc (.cells (actC a).toArray 36) = w1 at *
  refine wp_region_last (fun w' => Hid (ActIn w' x a)) 17 (by kernel_rfl) ?_
  change wpAnyZ _ _ _ _ _ _ 18 _ _ w1.drew
  have hS : Hid (ActIn w1.drew x a) := Lib.hid HBX.out
  refine last_val 0 rfl (by kernel_rfl) (by kernel_rfl) (by kernel_rfl) (by decide) (by kernel_rfl) rfl (fun w' hw => exec_mv rfl (ev rfl)) (fun _ _ _ h => h) hS ?_
  simp only [Act.put, List.setIfInBounds_toArray, List.set_cons_succ, List.set_cons_zero]
  refine last_val 1 rfl (by kernel_rfl) (by kernel_rfl) (by kernel_rfl) (by decide) (by kernel_rfl) rfl (fun w' hw => exec_faddr rfl (ev rfl) faA1) (fun _ _ _ h => h) hS ?_
  simp only [Act.put, List.setIfInBounds_toArray, List.set_cons_succ, List.set_cons_zero]
  refine last_val 2 rfl (by kernel_rfl) (by kernel_rfl) (by kernel_rfl) (by decide) (by kernel_rfl) rfl (fun w' hw => exec_ld rfl (ev rfl) (ldI hw.out.1)) (fun _ _ _ h => h) hS ?_
  simp only [Act.put, List.setIfInBounds_toArray, List.set_cons_succ, List.set_cons_zero]
  refine last_val 3 rfl (by kernel_rfl) (by kernel_rfl) (by kernel_rfl) (by decide) (by kernel_rfl) rfl (fun w' hw => exec_faddr rfl (ev rfl) faA2) (fun _ _ _ h => h) hS ?_
  simp only [Act.put, List.setIfInBounds_toArray, List.set_cons_succ, List.set_cons_zero]
  refine last_val 4 rfl (by kernel_rfl) (by kernel_rfl) (by kernel_rfl) (by decide) (by kernel_rfl) rfl (fun w' hw => exec_ld rfl (ev rfl) (ldI hw.out.2.1)) (fun _ _ _ h => h) hS ?_
  simp only [Act.put, List.setIfInBounds_toArray, List.set_cons_succ, List.set_cons_zero]
  refine last_val 5 rfl (by kernel_rfl) (by kernel_rfl) (by kernel_rfl) (by decide) (by kernel_rfl) rfl (fun w' hw => exec_faddr rfl (ev rfl) faA3) (fun _ _ _ h => h) hS ?_
  simp only [Act.put, List.setIfInBounds_toArray, List.set_cons_succ, List.set_cons_zero]
  refine last_val 6 rfl (by kernel_rfl) (by kernel_rfl) (by kernel_rfl) (by decide) (by kernel_rfl) rfl (fun w' hw => exec_ld rfl (ev rfl) (ldU hw.out.2.2.1)) (fun _ _ _ h => h) hS ?_
  simp only [Act.put, List.setIfInBounds_toArray, List.set_cons_succ, List.set_cons_zero]
  refine last_val 8 rfl (by kernel_rfl) (by kernel_rfl) (by kernel_rfl) (by decide) (by kernel_rfl) rfl (fun w' hw => exec_mv rfl (ev rfl)) (fun _ _ _ h => h) hS ?_
  simp only [Act.put, List.setIfInBounds_toArray, List.set_cons_succ, List.set_cons_zero]
  refine last_val 9 rfl (by kernel_rfl) (by kernel_rfl) (by kernel_rfl) (by decide) (by kernel_rfl) rfl (fun w' hw => exec_faddr rfl (ev rfl) faA1) (fun _ _ _ h => h) hS ?_
  simp only [Act.put, List.setIfInBounds_toArray, List.set_cons_succ, List.set_cons_zero]
  refine last_val 10 rfl (by kernel_rfl) (by kernel_rfl) (by kernel_rfl) (by decide) (by kernel_rfl) rfl (fun w' hw => exec_ld rfl (ev rfl) (ldI hw.out.1)) (fun _ _ _ h => h) hS ?_
  simp only [Act.put, List.setIfInBounds_toArray, List.set_cons_succ, List.set_cons_zero]
  refine last_val 11 rfl (by kernel_rfl) (by kernel_rfl) (by kernel_rfl) (by decide) (by kernel_rfl) rfl (fun w' hw => exec_faddr rfl (ev rfl) faA2) (fun _ _ _ h => h) hS ?_
  simp only [Act.put, List.setIfInBounds_toArray, List.set_cons_succ, List.set_cons_zero]
  refine last_val 12 rfl (by kernel_rfl) (by kernel_rfl) (by kernel_rfl) (by decide) (by kernel_rfl) rfl (fun w' hw => exec_ld rfl (ev rfl) (ldI hw.out.2.1)) (fun _ _ _ h => h) hS ?_
  simp only [Act.put, List.setIfInBounds_toArray, List.set_cons_succ, List.set_cons_zero]
  refine last_val 13 rfl (by kernel_rfl) (by kernel_rfl) (by kernel_rfl) (by decide) (by kernel_rfl) rfl (fun w' hw => exec_faddr rfl (ev rfl) faA3) (fun _ _ _ h => h) hS ?_
  simp only [Act.put, List.setIfInBounds_toArray, List.set_cons_succ, List.set_cons_zero]
  refine last_val 14 rfl (by kernel_rfl) (by kernel_rfl) (by kernel_rfl) (by decide) (by kernel_rfl) rfl (fun w' hw => exec_ld rfl (ev rfl) (ldU hw.out.2.2.1)) (fun _ _ _ h => h) hS ?_
  simp only [Act.put, List.setIfInBounds_toArray, List.set_cons_succ, List.set_cons_zero]
  have hd1 := D.below HD.out (bd (Below.refl _ _))
  have hr1 := HR.out.below (bd (Below.refl _ _))
  have hbw : Below B w w1.drew := bd HB1.out
  have hsz1 : w1.drew.heap.size = x + 1 := HSZ.out
  refine last_call 7 rfl (by kernel_rfl) rfl (exec_cl Try.call21 rfl (evc (ev rfl) (evc (ev rfl) (evc (ev rfl) (evc (ev rfl) evn))))) ((D.rot a.N a.At a.By hd1).mono ?_)
  rintro e w2 ⟨rfl, F2, hd2, ho2, hg2⟩
  obtain ⟨hr2, hdis2⟩ := Twin.first hr1 hdis ho2 hg2
  have hS2 : Hid (ActIn w2 x a) := Lib.hid (hS.out.only (by omega) ho2 hxd)
  have hbw2 := hbw.trans (ho2.below hfd (by omega))
  have hfd2 := hg2.above hfd (by omega)
  have hs2 := ho2.size
  refine ⟨_, rfl, fun _ => hS2, ?_⟩
  simp only [Act.put, List.setIfInBounds_toArray, List.set_cons_succ, List.set_cons_zero]
  refine last_call 15 rfl (by kernel_rfl) rfl (exec_cl Try.call30 rfl (evc (ev rfl) (evc (ev rfl) (evc (ev rfl) (evc (ev rfl) evn))))) ((rv_rot a.N a.At a.By hr2).mono ?_)
  rintro e w3 ⟨rfl, F3, hr3, ho3, hg3⟩
  obtain ⟨hd3, hdis3⟩ := Twin.second hd2 hdis2 ho3 hg3
  have hS3 : Hid (ActIn w3 x a) := Lib.hid (hS2.out.only (by omega) ho3 hxr)
  have hbw3 := hbw2.trans (ho3.below hfr (by omega))
  have hfr3 := hg3.above hfr (by omega)
  refine ⟨_, rfl, fun _ => hS3, ?_⟩
  simp only [Act.put, List.setIfInBounds_toArray, List.set_cons_succ, List.set_cons_zero]
  refine last_turn 16 rfl (by kernel_rfl) rfl (exec_eqInt true rfl (ev rfl) (ev rfl) (beq_self_eq_true _)) (fun _ => hS3) ?_
  simp only [Act.put, List.setIfInBounds_toArray, List.set_cons_succ, List.set_cons_zero]
  refine last_turn 17 rfl (by kernel_rfl) rfl (exec_as rfl (ev rfl)) (fun e => absurd rfl e) ?_
  simp only [Act.put, List.setIfInBounds_toArray, List.set_cons_succ, List.set_cons_zero]
  refine wpAnyZ_done (by kernel_rfl) ?_ _
  go_wp2_with fail
  go_ret
  exact ⟨rfl, hbw3, _, _, _, ⟨F2, F3, hd3, hr3, hdis3, hfd2, hfr3⟩, by omega⟩

end Go.Proofs.Ytokdmcikoaagmaa
