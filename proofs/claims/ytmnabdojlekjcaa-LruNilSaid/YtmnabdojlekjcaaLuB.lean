/-
  The program's list of what was asked for last: its nodes leave and follow, what finds, what takes away, what adds.
-/
import Derived.Test.YtmnabdojlekjcaaLuA
import Derived.Test.YtmnabdojlekjcaaTwo
namespace Go.Proofs.Ytmnabdojlekjcaa
open Go.RowKit
set_option linter.unusedVariables false
set_option linter.unusedSimpArgs false
set_option maxRecDepth 100000

def isNd : Obj → Prop
  | .cells _ t _ => t = 52
  | _ => False
theorem Turn.widen {I J : Obj → Prop} {B : Nat} {w w1 : World} (h : Turn I B w w1) (hI : ∀ o, I o → J o) : Turn J B w w1 := Only.widen h fun b hb => ⟨hb.1, fun o ho => hI o (hb.2 o ho)⟩
theorem nd_pl (o : Obj) (h : isNd o) : isPl o := by
  cases o <;> first | exact h.elim | exact .inl h
theorem Turn.node {B b : Nat} {w w1 : World} {x : Ky} {u v : Value} (h : Turn isNd B w w1) (hB : B ≤ b) (hb : NodAt w1 b x u v) (j : Nat) (s : Value) : Turn isNd B w (w1.setCell ⟨b, j, none⟩ s) := h.setCell (p := ⟨b, j, none⟩) hB hb rfl s
section
variable {w : World} {B n E : Nat} {ky : Nat → Ky} {pv nx : Nat → Nat} {S : List Nat}
theorem p_leave (w : World) (h : Lnk w ky pv nx S) (hn : n ∈ S) (hp : pv n ∈ S) (hx : nx n ∈ S) (hB : ∀ b ∈ S, B ≤ b) :
    Calls Try.prog 28 #[.pointer (some ⟨n, 0, none⟩)] w fun e w' => e = .returned (.tuple #[]) ∧ Lnk w' ky (put1 pv (nx n) (pv n)) (put1 nx (pv n) (nx n)) S ∧ Turn isNd B w w' := by
  have HN := Lib.hid (h n hn)
  have HP := Lib.hid (h (pv n) hp)
  have h1 : Lnk (w.drew.setCell ⟨pv n, 3, none⟩ (ptB (nx n))) ky pv (put1 nx (pv n) (nx n)) S := Lnk.s3 (w := w.drew) h (nx n) hp
  have HX1 := Lib.hid (h1 (nx n) hx)
  have H2 := Lib.hid (Lnk.s2 h1 (pv n) hx)
  have HT := Lib.hid (((Turn.refl isNd B w).drew.node (hB _ hp) (h (pv n) hp) 3 (ptB (nx n))).node (hB _ hx) (h1 (nx n) hx) 2 (ptB (pv n)))
  clear h h1 hn hp hx hB
  go_enter Try.func28, Try.ntmps28
  go_upto_region 0 with fail
  refine wp_region_still_tail 16 (by kernel_rfl) (by kernel_rfl) ?_
  simp only [List.take_succ_cons, List.take_zero, List.drop_succ_cons, List.drop_zero]
  refine st_val rfl (exec_mv rfl (ev rfl)) ?_
  simp only [Act.put, List.setIfInBounds_toArray, List.set_cons_succ, List.set_cons_zero]
  refine st_val rfl (exec_nil rfl (ev rfl)) ?_
  simp only [Act.put, List.setIfInBounds_toArray, List.set_cons_succ, List.set_cons_zero]
  refine st_val rfl (exec_faddr rfl (ev rfl) faNd2) ?_
  simp only [Act.put, List.setIfInBounds_toArray, List.set_cons_succ, List.set_cons_zero]
  refine st_val rfl (exec_ld rfl (ev rfl) (ldNd (HN.out).c2)) ?_
  simp only [Act.put, List.setIfInBounds_toArray, List.set_cons_succ, List.set_cons_zero]
  refine st_val rfl (exec_mv rfl (ev rfl)) ?_
  simp only [Act.put, List.setIfInBounds_toArray, List.set_cons_succ, List.set_cons_zero]
  refine st_val rfl (exec_nil rfl (ev rfl)) ?_
  simp only [Act.put, List.setIfInBounds_toArray, List.set_cons_succ, List.set_cons_zero]
  refine st_val rfl (exec_faddr rfl (ev rfl) faNd3) ?_
  simp only [Act.put, List.setIfInBounds_toArray, List.set_cons_succ, List.set_cons_zero]
  refine st_val rfl (exec_ld rfl (ev rfl) (ldNd (HN.out).c3)) ?_
  simp only [Act.put, List.setIfInBounds_toArray, List.set_cons_succ, List.set_cons_zero]
  refine st_val rfl (exec_mv rfl (ev rfl)) ?_
  simp only [Act.put, List.setIfInBounds_toArray, List.set_cons_succ, List.set_cons_zero]
  refine st_val rfl (exec_nil rfl (ev rfl)) ?_
  simp only [Act.put, List.setIfInBounds_toArray, List.set_cons_succ, List.set_cons_zero]
  refine st_val rfl (exec_faddr rfl (ev rfl) faNd3) ?_
  simp only [Act.put, List.setIfInBounds_toArray, List.set_cons_succ, List.set_cons_zero]
  refine st_val rfl (exec_ld rfl (ev rfl) (ldNd (HN.out).c3)) ?_
  simp only [Act.put, List.setIfInBounds_toArray, List.set_cons_succ, List.set_cons_zero]
  refine st_val rfl (exec_mv rfl (ev rfl)) ?_
  simp only [Act.put, List.setIfInBounds_toArray, List.set_cons_succ, List.set_cons_zero]
  refine st_val rfl (exec_nil rfl (ev rfl)) ?_
  simp only [Act.put, List.setIfInBounds_toArray, List.set_cons_succ, List.set_cons_zero]
  refine st_val rfl (exec_faddr rfl (ev rfl) faNd2) ?_
  simp only [Act.put, List.setIfInBounds_toArray, List.set_cons_succ, List.set_cons_zero]
  refine st_val rfl (exec_ld rfl (ev rfl) (ldNd (HN.out).c2)) ?_
  simp only [Act.put, List.setIfInBounds_toArray, List.set_cons_succ, List.set_cons_zero]
  refine wpStill_nil ?_
  change wpList _ _ _ _ _ (World.drew _)
  refine wpList_valn rfl (exec_nil rfl (ev rfl)) ?_
  simp only [Act.put, List.setIfInBounds_toArray, List.set_cons_succ, List.set_cons_zero]
  refine wpList_valn rfl (exec_faddr rfl (ev rfl) faNd3) ?_
  simp only [Act.put, List.setIfInBounds_toArray, List.set_cons_succ, List.set_cons_zero]
  refine wpList_nuln rfl (exec_st rfl (ev rfl) (ev rfl) (stNd HP.out.c3 (HP.out.fz 3))) ?_
  simp only [Act.put, List.setIfInBounds_toArray, List.set_cons_succ, List.set_cons_zero]
  refine wpList_valn rfl (exec_nil rfl (ev rfl)) ?_
  simp only [Act.put, List.setIfInBounds_toArray, List.set_cons_succ, List.set_cons_zero]
  refine wpList_valn rfl (exec_faddr rfl (ev rfl) faNd2) ?_
  simp only [Act.put, List.setIfInBounds_toArray, List.set_cons_succ, List.set_cons_zero]
  refine wpList_nuln rfl (exec_st rfl (ev rfl) (ev rfl) (stNd HX1.out.c2 (HX1.out.fz 2))) ?_
  simp only [Act.put, List.setIfInBounds_toArray, List.set_cons_succ, List.set_cons_zero]
  refine wpList_nil ?_
  go_end0
  exact ⟨rfl, H2.out, HT.out⟩
/-- n, that stands nowhere, comes behind E. -/
theorem p_follow (w : World) (x : Ky) (u v : Value) (h : Lnk w ky pv nx S) (hn : NodAt w n x u v) (hnS : n ∉ S) (hE : E ∈ S) (hx : nx E ∈ S) (hB : ∀ b ∈ S, B ≤ b) (hBn : B ≤ n) :
    Calls Try.prog 29 #[.pointer (some ⟨n, 0, none⟩), .pointer (some ⟨E, 0, none⟩)] w fun e w' => e = .returned (.tuple #[]) ∧ Lnk w' (put1 ky n x) (put1 (put1 pv n E) (nx E) n) (put1 (put1 nx n (nx E)) E n) (n :: S) ∧ Turn isNd B w w' := by
  have HN := Lib.hid hn
  have HE := Lib.hid (h E hE)
  have n1 := hn.s2 (ptB E)
  have n2 := n1.s3 (ptB (nx E))
  have HN1 := Lib.hid n1
  have HN2 := Lib.hid n2
  have hne : ∀ b ∈ S, b ≠ n := fun b hb e => hnS (by rw [← e]; exact hb)
  have l2 : Lnk ((w.setCell ⟨n, 2, none⟩ (ptB E)).setCell ⟨n, 3, none⟩ (ptB (nx E))) (put1 ky n x) (put1 pv n E) (put1 nx n (nx E)) S := fun b hb => by
    rw [put1_off _ _ (hne b hb), put1_off _ _ (hne b hb), put1_off _ _ (hne b hb)]
    exact ((h b hb).other (p := ⟨n, 2, none⟩) (hne b hb) _).other (p := ⟨n, 3, none⟩) (hne b hb) _
  have m2 : Lnk ((w.setCell ⟨n, 2, none⟩ (ptB E)).setCell ⟨n, 3, none⟩ (ptB (nx E))) (put1 ky n x) (put1 pv n E) (put1 nx n (nx E)) (n :: S) := l2.add (by rw [put1_at, put1_at, put1_at]; exact n2)
  have T2 : Turn isNd B w ((w.setCell ⟨n, 2, none⟩ (ptB E)).setCell ⟨n, 3, none⟩ (ptB (nx E))) := ((Turn.refl isNd B w).node hBn hn 2 (ptB E)).node hBn n1 3 (ptB (nx E))
  have HM2 := Lib.hid m2
  have HT2 := Lib.hid T2
  have HI := Lib.hid (And.intro hE (And.intro hx (And.intro hB hBn)))
  clear h hn hnS hE hx hB hBn n1 n2 hne l2 m2 T2
  go_enter Try.func29, Try.ntmps29
  go_upto_region 0 with fail
  refine wp_region_lit ?_
  refine wpList_valn rfl (exec_mv rfl (ev rfl)) ?_
  simp only [Act.put, List.setIfInBounds_toArray, List.set_cons_succ, List.set_cons_zero]
  refine wpList_valn rfl (exec_mv rfl (ev rfl)) ?_
  simp only [Act.put, List.setIfInBounds_toArray, List.set_cons_succ, List.set_cons_zero]
  refine wpList_valn rfl (exec_mv rfl (ev rfl)) ?_
  simp only [Act.put, List.setIfInBounds_toArray, List.set_cons_succ, List.set_cons_zero]
  refine wpList_valn rfl (exec_mv rfl (ev rfl)) ?_
  simp only [Act.put, List.setIfInBounds_toArray, List.set_cons_succ, List.set_cons_zero]
  refine wpList_valn rfl (exec_nil rfl (ev rfl)) ?_
  simp only [Act.put, List.setIfInBounds_toArray, List.set_cons_succ, List.set_cons_zero]
  refine wpList_valn rfl (exec_faddr rfl (ev rfl) faNd3) ?_
  simp only [Act.put, List.setIfInBounds_toArray, List.set_cons_succ, List.set_cons_zero]
  refine wpList_valn rfl (exec_ld rfl (ev rfl) (ldNd (HE.out).c3)) ?_
  simp only [Act.put, List.setIfInBounds_toArray, List.set_cons_succ, List.set_cons_zero]
  refine wpList_valn rfl (exec_nil rfl (ev rfl)) ?_
  simp only [Act.put, List.setIfInBounds_toArray, List.set_cons_succ, List.set_cons_zero]
  refine wpList_valn rfl (exec_faddr rfl (ev rfl) faNd2) ?_
  simp only [Act.put, List.setIfInBounds_toArray, List.set_cons_succ, List.set_cons_zero]
  refine wpList_nuln rfl (exec_st rfl (ev rfl) (ev rfl) (stNd HN.out.c2 (HN.out.fz 2))) ?_
  simp only [Act.put, List.setIfInBounds_toArray, List.set_cons_succ, List.set_cons_zero]
  refine wpList_valn rfl (exec_nil rfl (ev rfl)) ?_
  simp only [Act.put, List.setIfInBounds_toArray, List.set_cons_succ, List.set_cons_zero]
  refine wpList_valn rfl (exec_faddr rfl (ev rfl) faNd3) ?_
  simp only [Act.put, List.setIfInBounds_toArray, List.set_cons_succ, List.set_cons_zero]
  refine wpList_nuln rfl (exec_st rfl (ev rfl) (ev rfl) (stNd HN1.out.c3 (HN1.out.fz 3))) ?_
  simp only [Act.put, List.setIfInBounds_toArray, List.set_cons_succ, List.set_cons_zero]
  refine wpList_nil ?_
  go_upto_region 1 with fail
  obtain ⟨w2, hw2⟩ : ∃ w2, (w.setCell ⟨n, 2, none⟩ (ptB E)).setCell ⟨n, 3, none⟩ (ptB (nx E)) = w2 := ⟨_, rfl⟩
  unfold ptB at hw2
  rw [hw2]
  unfold ptB at HM2 HT2 HN2
  rw [hw2] at HM2 HT2 HN2
  clear HN HN1 HE hw2
  have HE2 := Lib.hid (HM2.out E (List.mem_cons_of_mem _ HI.out.1))
  have m3 : Lnk (w2.drew.setCell ⟨E, 3, none⟩ (ptB n)) (put1 ky n x) (put1 pv n E) (put1 (put1 nx n (nx E)) E n) (n :: S) := Lnk.s3 (w := w2.drew) HM2.out n (List.mem_cons_of_mem _ HI.out.1)
  have HX3 := Lib.hid (m3 (nx E) (List.mem_cons_of_mem _ HI.out.2.1))
  have HM4 := Lib.hid (Lnk.s2 m3 n (List.mem_cons_of_mem _ HI.out.2.1))
  have HT4 := Lib.hid ((HT2.out.drew.node (HI.out.2.2.1 _ HI.out.1) HE2.out 3 (ptB n)).node (HI.out.2.2.1 _ HI.out.2.1) HX3.out 2 (ptB n))
  clear m3
  refine wp_region_two (fun w' => NodAt w' n x (ptB E) (ptB (nx E))) (fun _ => True) 12 (by kernel_rfl) ?_
  change wpAnyW _ _ _ _ _ _ _ 16 _ _ w2.drew
  refine two_val 0 rfl (by kernel_rfl) (by kernel_rfl) (by kernel_rfl) (by decide) (by kernel_rfl) (by kernel_rfl) rfl (fun w' hw => exec_mv rfl (ev rfl)) (fun _ _ _ h => h) HN2.out ?_
  simp only [Act.put, List.setIfInBounds_toArray, List.set_cons_succ, List.set_cons_zero]
  refine two_val 1 rfl (by kernel_rfl) (by kernel_rfl) (by kernel_rfl) (by decide) (by kernel_rfl) (by kernel_rfl) rfl (fun w' hw => exec_nil rfl (ev rfl)) (fun _ _ _ h => h) HN2.out ?_
  simp only [Act.put, List.setIfInBounds_toArray, List.set_cons_succ, List.set_cons_zero]
  refine two_val 2 rfl (by kernel_rfl) (by kernel_rfl) (by kernel_rfl) (by decide) (by kernel_rfl) (by kernel_rfl) rfl (fun w' hw => exec_faddr rfl (ev rfl) faNd2) (fun _ _ _ h => h) HN2.out ?_
  simp only [Act.put, List.setIfInBounds_toArray, List.set_cons_succ, List.set_cons_zero]
  refine two_val 3 rfl (by kernel_rfl) (by kernel_rfl) (by kernel_rfl) (by decide) (by kernel_rfl) (by kernel_rfl) rfl (fun w' hw => exec_ld rfl (ev rfl) (ldNd (hw).c2)) (fun _ _ _ h => h) HN2.out ?_
  simp only [Act.put, List.setIfInBounds_toArray, List.set_cons_succ, List.set_cons_zero]
  refine two_any 4 rfl (by kernel_rfl) (by kernel_rfl) (by kernel_rfl) (by decide) (by kernel_rfl) rfl (fun w' hw => exec_mv rfl (ev rfl)) (fun _ _ _ h => h) (condW_pre (by kernel_rfl) HN2.out) ?_
  simp only [Act.put, List.setIfInBounds_toArray, List.set_cons_succ, List.set_cons_zero]
  refine two_any 5 rfl (by kernel_rfl) (by kernel_rfl) (by kernel_rfl) (by decide) (by kernel_rfl) rfl (fun w' hw => exec_nil rfl (ev rfl)) (fun _ _ _ h => h) (condW_pre (by kernel_rfl) HN2.out) ?_
  simp only [Act.put, List.setIfInBounds_toArray, List.set_cons_succ, List.set_cons_zero]
  refine two_any 6 rfl (by kernel_rfl) (by kernel_rfl) (by kernel_rfl) (by decide) (by kernel_rfl) rfl (fun w' hw => exec_faddr rfl (ev rfl) faNd3) (fun _ _ _ h => h) (condW_pre (by kernel_rfl) HN2.out) ?_
  simp only [Act.put, List.setIfInBounds_toArray, List.set_cons_succ, List.set_cons_zero]
  refine two_val 7 rfl (by kernel_rfl) (by kernel_rfl) (by kernel_rfl) (by decide) (by kernel_rfl) (by kernel_rfl) rfl (fun w' hw => exec_ld rfl (ev rfl) (ldNd (hw).c3)) (fun _ _ _ h => h) HN2.out ?_
  simp only [Act.put, List.setIfInBounds_toArray, List.set_cons_succ, List.set_cons_zero]
  refine two_val 8 rfl (by kernel_rfl) (by kernel_rfl) (by kernel_rfl) (by decide) (by kernel_rfl) (by kernel_rfl) rfl (fun w' hw => exec_mv rfl (ev rfl)) (fun _ _ _ h => h) HN2.out ?_
  simp only [Act.put, List.setIfInBounds_toArray, List.set_cons_succ, List.set_cons_zero]
  refine two_any 9 rfl (by kernel_rfl) (by kernel_rfl) (by kernel_rfl) (by decide) (by kernel_rfl) rfl (fun w' hw => exec_mv rfl (ev rfl)) (fun _ _ _ h => h) (condW_pre (by kernel_rfl) HN2.out) ?_
  simp only [Act.put, List.setIfInBounds_toArray, List.set_cons_succ, List.set_cons_zero]
  refine two_any 10 rfl (by kernel_rfl) (by kernel_rfl) (by kernel_rfl) (by decide) (by kernel_rfl) rfl (fun w' hw => exec_nil rfl (ev rfl)) (fun _ _ _ h => h) (condW_pre (by kernel_rfl) HN2.out) ?_
  simp only [Act.put, List.setIfInBounds_toArray, List.set_cons_succ, List.set_cons_zero]
  refine two_val 11 rfl (by kernel_rfl) (by kernel_rfl) (by kernel_rfl) (by decide) (by kernel_rfl) (by kernel_rfl) rfl (fun w' hw => exec_faddr rfl (ev rfl) faNd3) (fun _ _ _ h => h) HN2.out ?_
  simp only [Act.put, List.setIfInBounds_toArray, List.set_cons_succ, List.set_cons_zero]
  refine two_nul 12 rfl (by kernel_rfl) rfl (exec_st rfl (ev rfl) (ev rfl) (stNd HE2.out.c3 (HE2.out.fz 3))) (condW_post (by kernel_rfl) trivial) ?_
  simp only [Act.put]
  refine two_turn 13 rfl (by kernel_rfl) rfl (exec_nil rfl (ev rfl)) (condW_post (by kernel_rfl) trivial) ?_
  simp only [Act.put, List.setIfInBounds_toArray, List.set_cons_succ, List.set_cons_zero]
  refine two_turn 14 rfl (by kernel_rfl) rfl (exec_faddr rfl (ev rfl) faNd2) (condW_post (by kernel_rfl) trivial) ?_
  simp only [Act.put, List.setIfInBounds_toArray, List.set_cons_succ, List.set_cons_zero]
  refine two_nul 15 rfl (by kernel_rfl) rfl (exec_st rfl (ev rfl) (ev rfl) (stNd HX3.out.c2 (HX3.out.fz 2))) (condW_post (by kernel_rfl) trivial) ?_
  simp only [Act.put]
  refine wpAnyW_done (by kernel_rfl) ?_ _
  go_end0
  exact ⟨rfl, HM4.out, HT4.out⟩
end
end Go.Proofs.Ytmnabdojlekjcaa
