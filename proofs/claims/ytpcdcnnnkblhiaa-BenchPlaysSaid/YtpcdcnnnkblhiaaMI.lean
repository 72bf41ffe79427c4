/-
  The document's bench: its kind; Has, asks, Devices, Dark, Steps, Sectors, Dead, Read, Sure, Arm, Fail, Rot, step.
  The document's bench: Flush, Write, Insert.
  The document's bench: Write, Crash, New.
  The document's bench: New; and the whole as what the laws lean on.
-/
import Derived.Test.YtpcdcnnnkblhiaaME
namespace Go.Proofs.Ytpcdcnnnkblhiaa
open Go.RowKit
set_option linter.unusedVariables false
set_option maxRecDepth 100000

def rKind : BKind where
  K := ⟨Rv, Rv.lt, Rv.only⟩
  s := 69
  t := 72
  und := Try.underlying69
  info := by kernel_rfl
  o := 71
  cs := fun v left dark steps => #[v, .int .i64 left, .bool dark, .int .i64 steps]
  ne := by decide
theorem r4cells {w : World} {b : Nat} {t : TypeId} {x y z u : Value} (h : w.heap[b]? = some (.cells #[x, y, z, u] t (0, 0))) : w.cell? ⟨b, 0, none⟩ = some x ∧ w.cell? ⟨b, 1, none⟩ = some y ∧ w.cell? ⟨b, 2, none⟩ = some z ∧ w.cell? ⟨b, 3, none⟩ = some u := by
  refine ⟨?_, ?_, ?_, ?_⟩
  · rw [cell_of_row w b 0 _ t (0, 0) h]; rfl
  · rw [cell_of_row w b 1 _ t (0, 0) h]; rfl
  · rw [cell_of_row w b 2 _ t (0, 0) h]; rfl
  · rw [cell_of_row w b 3 _ t (0, 0) h]; rfl
theorem rv_asks {w : World} {F : Nat → Prop} {p : Nat} {S : List Blk} {L : List (Int × Blk)} {g : Bool} (n : Int) (h : Rv w F p S L g) : Calls Try.prog 66 #[.pointer (some ⟨p, 0, none⟩), .int .i64 n] w fun e w' => e = .returned (.int .i64 (askE S g n)) ∧ w = w' := by
  obtain ⟨vS, vL, rfl, h, _⟩ := h
  exact r_asks p vS vL S L g n w h
theorem rv_cells {w : World} {F : Nat → Prop} {p : Nat} {S : List Blk} {L : List (Int × Blk)} {g : Bool} (h : Rv w F p S L g) : ∃ A c, w.cell? ⟨p, 0, none⟩ = some (.slice A S.length c) ∧ w.cell? ⟨p, 2, none⟩ = some (.bool g) := by
  obtain ⟨vS, vL, rfl, h, _⟩ := h
  obtain ⟨c0, c1, c2⟩ := cells3 h.at_
  obtain ⟨A, c, rfl, _, _⟩ := h.S_.form
  exact ⟨A, c, c0, c2⟩
section
variable {w w' : World} {p : Nat} {v : Value} {Fs : Nat → Nat → Prop} {ps : List Nat} {M : BenS}
theorem BenAt.rcells (h : BenAt rKind w p v Fs ps M) : w.cell? ⟨p, 0, none⟩ = some v ∧ w.cell? ⟨p, 1, none⟩ = some (.int .i64 M.left) ∧ w.cell? ⟨p, 2, none⟩ = some (.bool M.dark) ∧ w.cell? ⟨p, 3, none⟩ = some (.int .i64 M.steps) := r4cells h.at_
theorem c_devices (h : BenAt rKind w p v Fs ps M) :
    Calls Try.prog 49 #[.pointer (some ⟨p, 0, none⟩)] w fun e w' => e = .returned (.int .i64 (M.ds.length : Int)) ∧ w = w' := by
  obtain ⟨g, c, rfl, _, _⟩ := h.slice
  obtain ⟨c0, c1, c2, c3⟩ := h.rcells
  go_enter Try.func49, Try.ntmps49
  go_wp2
  go_ret
  exact ⟨rfl, rfl⟩
theorem c_dark (h : BenAt rKind w p v Fs ps M) :
    Calls Try.prog 50 #[.pointer (some ⟨p, 0, none⟩)] w fun e w' => e = .returned (.bool M.dark) ∧ w = w' := by
  obtain ⟨c0, c1, c2, c3⟩ := h.rcells
  go_enter Try.func50, Try.ntmps50
  go_wp2
  go_ret
  exact ⟨rfl, rfl⟩
theorem c_steps (h : BenAt rKind w p v Fs ps M) :
    Calls Try.prog 51 #[.pointer (some ⟨p, 0, none⟩)] w fun e w' => e = .returned (.int .i64 (M.steps : Int)) ∧ w = w' := by
  obtain ⟨c0, c1, c2, c3⟩ := h.rcells
  go_enter Try.func51, Try.ntmps51
  go_wp2
  go_ret
  exact ⟨rfl, rfl⟩
theorem c_has_no (h : BenAt rKind w p v Fs ps M) {d : Int} (hd : ¬(0 ≤ d ∧ d < M.ds.length)) :
    Calls Try.prog 71 #[.pointer (some ⟨p, 0, none⟩), .int .i64 d] w fun e w' => e = .returned (.bool false) ∧ w = w' := by
  obtain ⟨g, c, rfl, _, _⟩ := h.slice
  obtain ⟨c0, c1, c2, c3⟩ := h.rcells
  clear h
  by_cases h0 : 0 ≤ d
  · have h1 : ¬(d < (M.ds.length : Int)) := by omega
    clear hd
    go_enter Try.func71, Try.ntmps71
    go_wp2
    go_ret
    exact ⟨rfl, rfl⟩
  · clear hd
    go_enter Try.func71, Try.ntmps71
    go_wp2
    go_ret
    exact ⟨rfl, rfl⟩
theorem c_has_ok (h : BenAt rKind w p v Fs ps M) {k : Nat} (hk : k < M.ds.length) :
    Calls Try.prog 71 #[.pointer (some ⟨p, 0, none⟩), .int .i64 k] w fun e w' => e = .returned (.bool true) ∧ w = w' := by
  obtain ⟨g, c, rfl, _, _⟩ := h.slice
  obtain ⟨c0, c1, c2, c3⟩ := h.rcells
  clear h
  go_enter Try.func71, Try.ntmps71
  go_wp2
  go_ret
  exact ⟨rfl, rfl⟩
theorem c_asks (d : Int) (h : BenAt rKind w p v Fs ps M) :
    Calls Try.prog 65 #[.pointer (some ⟨p, 0, none⟩), .int .i64 d] w fun e w' => e = .returned (.int .i64 (litE M d)) ∧ w = w' := by
  obtain ⟨c0, c1, c2, c3⟩ := h.rcells
  rcases litE_is M d with ⟨e, hdk⟩ | ⟨e, hdk, ho⟩ | ⟨e, hdk, k, rfl, hk⟩
  · rw [e]
    rw [hdk] at c2
    clear e hdk h
    go_enter Try.func65, Try.ntmps65
    go_wp2
    go_ret
    exact ⟨rfl, rfl⟩
  · rw [e]
    rw [hdk] at c2
    have HO := Lib.hid (c_has_no h ho)
    clear e hdk h ho
    go_enter Try.func65, Try.ntmps65
    go_wp2_with fail
    refine HO.out.mono ?_
    rintro e w1 ⟨rfl, rfl⟩
    go_wp2_with fail
    go_ret
    exact ⟨rfl, rfl⟩
  · rw [e]
    rw [hdk] at c2
    have HO := Lib.hid (c_has_ok h hk)
    clear e hdk h hk
    go_enter Try.func65, Try.ntmps65
    go_wp2_with fail
    refine HO.out.mono ?_
    rintro e w1 ⟨rfl, rfl⟩
    go_wp2_with fail
    go_ret
    exact ⟨rfl, rfl⟩
theorem c_sectors (d : Int) (h : BenAt rKind w p v Fs ps M) :
    Calls Try.prog 52 #[.pointer (some ⟨p, 0, none⟩), .int .i64 d] w fun e w' => e = .returned (.int .i64 (seN6 M d)) ∧ w = w' := by
  rcases hasE_is M d with ⟨e, ho⟩ | ⟨e, k, rfl, hk⟩
  · have HS : Hid (seN6 M d = 0) := Lib.hid (by unfold seN6; rw [if_neg (by omega)])
    have HO := Lib.hid (c_has_no h ho)
    clear e h ho
    go_enter Try.func52, Try.ntmps52
    go_wp2_with fail
    refine HO.out.mono ?_
    rintro e w1 ⟨rfl, rfl⟩
    go_wp2_with fail
    go_ret
    exact ⟨ret_int HS.out.symm, rfl⟩
  · obtain ⟨x, hx⟩ : ∃ x, M.ds.getD k dev0 = x := ⟨_, rfl⟩
    have hat := h.devs.at_ k hk
    rw [hx] at hat
    have HS : Hid (seN6 M (k : Int) = (x.S.length : Int)) := Lib.hid (by unfold seN6; rw [if_pos e, M.dev_nat, hx])
    have HO := Lib.hid (c_has_ok h hk)
    obtain ⟨g, c, rfl, _, _⟩ := h.slice
    obtain ⟨c0, c1, c2, c3⟩ := h.rcells
    have ck := h.cell hk
    obtain ⟨AS, cS, d0, d2⟩ := rv_cells hat
    clear e h hat hx
    generalize ps.getD k 0 = q at *
    go_enter Try.func52, Try.ntmps52
    go_wp2_with fail
    refine HO.out.mono ?_
    rintro e w1 ⟨rfl, rfl⟩
    go_wp2_with fail
    go_ret
    exact ⟨ret_int HS.out.symm, rfl⟩
theorem c_dead (d : Int) (h : BenAt rKind w p v Fs ps M) :
    Calls Try.prog 53 #[.pointer (some ⟨p, 0, none⟩), .int .i64 d] w fun e w' => e = .returned (.bool (deG6 M d)) ∧ w = w' := by
  rcases hasE_is M d with ⟨e, ho⟩ | ⟨e, k, rfl, hk⟩
  · have HS : Hid (deG6 M d = false) := Lib.hid (by unfold deG6; rw [if_neg (by omega)])
    have HO := Lib.hid (c_has_no h ho)
    clear e h ho
    go_enter Try.func53, Try.ntmps53
    go_wp2_with fail
    refine HO.out.mono ?_
    rintro e w1 ⟨rfl, rfl⟩
    go_wp2_with fail
    go_ret
    exact ⟨ret_bool HS.out.symm, rfl⟩
  · obtain ⟨x, hx⟩ : ∃ x, M.ds.getD k dev0 = x := ⟨_, rfl⟩
    have hat := h.devs.at_ k hk
    rw [hx] at hat
    have HS : Hid (deG6 M (k : Int) = x.g) := Lib.hid (by unfold deG6; rw [if_pos e, M.dev_nat, hx])
    have HO := Lib.hid (c_has_ok h hk)
    obtain ⟨g, c, rfl, _, _⟩ := h.slice
    obtain ⟨c0, c1, c2, c3⟩ := h.rcells
    have ck := h.cell hk
    obtain ⟨AS, cS, d0, d2⟩ := rv_cells hat
    clear e h hat hx
    generalize ps.getD k 0 = q at *
    go_enter Try.func53, Try.ntmps53
    go_wp2_with fail
    refine HO.out.mono ?_
    rintro e w1 ⟨rfl, rfl⟩
    go_wp2_with fail
    go_ret
    exact ⟨ret_bool HS.out.symm, rfl⟩
set_option maxHeartbeats 1000000 in
theorem c_read (d n : Int) (h : BenAt rKind w p v Fs ps M) :
    Calls Try.prog 38 #[.pointer (some ⟨p, 0, none⟩), .int .i64 d, .int .i64 n] w fun e w' => e = .returned (.tuple #[blk (rdB6 M d n), .int .i64 (rdE6 M d n)]) ∧ Below w.heap.size w w' := by
  have hA := (Below.refl w.heap.size w).alloc (Nat.le_refl _) (.cells (cel zeroB).toArray 34)
  have h1 := h.below hA
  have HT := Lib.hid (there_new w zeroB 34)
  have HA := Lib.hid hA
  have HO := Lib.hid (c_asks d h1)
  by_cases hl : litE M d = 0
  · rcases litE_is M d with ⟨e, _⟩ | ⟨e, _⟩ | ⟨e, hdk, k, rfl, hk⟩
    · omega
    · omega
    obtain ⟨x, hx⟩ : ∃ x, M.ds.getD k dev0 = x := ⟨_, rfl⟩
    have hat := h1.devs.at_ k hk
    rw [hx] at hat
    have HB : Hid (rdB6 M (k : Int) n = readB x.S x.L x.g n) := Lib.hid (by unfold rdB6; rw [if_pos e, ← hx]; rfl)
    have HE : Hid (rdE6 M (k : Int) n = askE x.S x.g n) := Lib.hid (by unfold rdE6; rw [if_pos e, ← hx]; rfl)
    rw [e] at HO
    have HD := Lib.hid (rv_read n hat)
    have HSZ := Lib.hid (World.size_alloc w (.cells (cel zeroB).toArray 34))
    obtain ⟨g, c, rfl, _, _⟩ := h1.slice
    obtain ⟨c0, c1, c2, c3⟩ := h1.rcells
    have ck := h1.cell hk
    clear e h h1 hat hx hdk hA hl
    rw [HB.out, HE.out]
    clear HB HE
    generalize readB x.S x.L x.g n = y at *
    generalize askE x.S x.g n = z at *
    generalize ps.getD k 0 = q at *
    go_enter Try.func38, Try.ntmps38
    go_wp2_with (first | (refine wpList_val rfl (exec_alloc rfl) ?_) | fail)
    refine HO.out.mono ?_
    rintro e w1 ⟨rfl, rfl⟩
    go_wp2_with fail
    refine HD.out.mono ?_
    rintro e w2 ⟨rfl, hb⟩
    have HT2 := Lib.hid (there_below HT.out (by rw [HSZ.out]; omega) hb)
    have HB2 := Lib.hid (HA.out.trans (hb.mono (by rw [HSZ.out]; omega)))
    clear hb
    go_wp2_with (first | (refine wpList_nul rfl (exec_store rfl rfl rfl HT2.out) ?_) | fail)
    exact bodyPost_ret (res_blk2 rfl _ _ _ rfl (World.rangeAt_setCells_same _ _ _ _ (by rw [cel_length]; exact HT2.out))) rfl ⟨rfl, below_setCells HB2.out (Nat.le_refl _) _⟩
  · have HB : Hid (rdB6 M d n = zeroB) := Lib.hid (by unfold rdB6; rw [if_neg hl])
    have HE : Hid (rdE6 M d n = litE M d) := Lib.hid (by unfold rdE6; rw [if_neg hl])
    clear h h1 hA
    rw [HB.out, HE.out]
    rcases litE_is M d with ⟨e, _⟩ | ⟨e, _⟩ | ⟨e, _⟩
    rotate_right 1
    · exact absurd e hl
    all_goals
      rw [e] at HO ⊢
      clear e hl
      go_enter Try.func38, Try.ntmps38
      go_wp2_with (first | (refine wpList_val rfl (exec_alloc rfl) ?_) | fail)
      refine HO.out.mono ?_
      rintro e w1 ⟨rfl, rfl⟩
      go_wp2_with (first | (refine wpList_val rfl (exec_build (c := zeroB) (parts := []) rfl rfl) ?_) | (refine wpList_nul rfl (exec_store rfl rfl rfl HT.out) ?_))
      exact bodyPost_ret (res_blk2 rfl _ _ _ rfl (World.rangeAt_setCells_same _ _ _ _ (by rw [cel_length]; exact HT.out))) rfl ⟨rfl, below_setCells HA.out (Nat.le_refl _) _⟩
set_option maxHeartbeats 1000000 in
theorem c_sure (d n : Int) (h : BenAt rKind w p v Fs ps M) :
    Calls Try.prog 44 #[.pointer (some ⟨p, 0, none⟩), .int .i64 d, .int .i64 n] w fun e w' => e = .returned (.tuple #[blk (suB6 M d n), .int .i64 (suE6 M d n)]) ∧ Below w.heap.size w w' := by
  have hA := (Below.refl w.heap.size w).alloc (Nat.le_refl _) (.cells (cel zeroB).toArray 34)
  have h1 := h.below hA
  have HT := Lib.hid (there_new w zeroB 34)
  have HA := Lib.hid hA
  rcases hasE_is M d with ⟨e, ho⟩ | ⟨e, k, rfl, hk⟩
  · have HB : Hid (suB6 M d n = zeroB) := Lib.hid (by unfold suB6; rw [if_neg (by omega)])
    have HE : Hid (suE6 M d n = 2) := Lib.hid (by unfold suE6; rw [if_neg (by omega), e])
    have HO := Lib.hid (c_has_no h1 ho)
    clear e h h1 ho hA
    rw [HB.out, HE.out]
    go_enter Try.func44, Try.ntmps44
    go_wp2_with (first | (refine wpList_val rfl (exec_alloc rfl) ?_) | fail)
    refine HO.out.mono ?_
    rintro e w1 ⟨rfl, rfl⟩
    go_wp2_with (first | (refine wpList_val rfl (exec_build (c := zeroB) (parts := []) rfl rfl) ?_) | (refine wpList_nul rfl (exec_store rfl rfl rfl HT.out) ?_))
    exact bodyPost_ret (res_blk2 rfl _ _ _ rfl (World.rangeAt_setCells_same _ _ _ _ (by rw [cel_length]; exact HT.out))) rfl ⟨rfl, below_setCells HA.out (Nat.le_refl _) _⟩
  · obtain ⟨x, hx⟩ : ∃ x, M.ds.getD k dev0 = x := ⟨_, rfl⟩
    have hat := h1.devs.at_ k hk
    rw [hx] at hat
    have HB : Hid (suB6 M (k : Int) n = sureB x.S x.g n) := Lib.hid (by unfold suB6; rw [if_pos e, ← hx]; rfl)
    have HE : Hid (suE6 M (k : Int) n = askE x.S x.g n) := Lib.hid (by unfold suE6; rw [if_pos e, ← hx]; rfl)
    have HO := Lib.hid (c_has_ok h1 hk)
    have HD := Lib.hid (rv_sure n hat)
    have HSZ := Lib.hid (World.size_alloc w (.cells (cel zeroB).toArray 34))
    obtain ⟨g, c, rfl, _, _⟩ := h1.slice
    obtain ⟨c0, c1, c2, c3⟩ := h1.rcells
    have ck := h1.cell hk
    clear e h h1 hat hx hA
    rw [HB.out, HE.out]
    clear HB HE
    generalize sureB x.S x.g n = y at *
    generalize askE x.S x.g n = z at *
    generalize ps.getD k 0 = q at *
    go_enter Try.func44, Try.ntmps44
    go_wp2_with (first | (refine wpList_val rfl (exec_alloc rfl) ?_) | fail)
    refine HO.out.mono ?_
    rintro e w1 ⟨rfl, rfl⟩
    go_wp2_with fail
    refine HD.out.mono ?_
    rintro e w2 ⟨rfl, hb⟩
    have HT2 := Lib.hid (there_below HT.out (by rw [HSZ.out]; omega) hb)
    have HB2 := Lib.hid (HA.out.trans (hb.mono (by rw [HSZ.out]; omega)))
    clear hb
    go_wp2_with (first | (refine wpList_nul rfl (exec_store rfl rfl rfl HT2.out) ?_) | fail)
    exact bodyPost_ret (res_blk2 rfl _ _ _ rfl (World.rangeAt_setCells_same _ _ _ _ (by rw [cel_length]; exact HT2.out))) rfl ⟨rfl, below_setCells HB2.out (Nat.le_refl _) _⟩
theorem c_arm (n : Int) (h : BenAt rKind w p v Fs ps M) :
    Calls Try.prog 42 #[.pointer (some ⟨p, 0, none⟩), .int .i64 n] w fun e w' => e = .returned (.int .i64 (arE6 M n)) ∧ BenAt rKind w' p v Fs ps (arS6 M n) ∧ Only (fun b => b = p) w w' := by
  obtain ⟨c0, c1, c2, c3⟩ := h.rcells
  have f1 := frozen_of_row w p 1 _ _ h.at_
  have HH := Lib.hid h
  cases hdk : M.dark
  · rw [hdk] at c2
    by_cases hn : n < 0
    · have HE : Hid (arE6 M n = 2) := Lib.hid (by unfold arE6; rw [if_neg (by rw [hdk]; decide), if_pos hn])
      have HS : Hid (arS6 M n = M) := Lib.hid (by unfold arS6; rw [HE.out, if_neg (by decide)])
      clear h hdk
      go_enter Try.func42, Try.ntmps42
      go_wp2_with fail
      go_ret
      exact ⟨ret_int HE.out.symm, by rw [HS.out]; exact HH.out, Only.refl _ _⟩
    · have HE : Hid (arE6 M n = 0) := Lib.hid (by unfold arE6; rw [if_neg (by rw [hdk]; decide), if_neg hn])
      have HS : Hid (arS6 M n = ⟨M.ds, n.toNat, M.dark, M.steps⟩) := Lib.hid (by unfold arS6; rw [HE.out, if_pos rfl])
      have HN : Hid (((n.toNat : Nat) : Int) = n) := Lib.hid (by omega)
      clear h hdk
      go_enter Try.func42, Try.ntmps42
      go_wp2_with fail
      go_ret
      have ho := only_set w p 1 (.int .i64 n)
      refine ⟨ret_int HE.out.symm, ?_, ho⟩
      rw [HS.out]
      refine HH.out.obj _ _ _ ho ?_
      have := heap_setCell_same w p 1 _ _ (.int .i64 n) HH.out.at_
      simpa [rKind, HN.out] using this
  · have HE : Hid (arE6 M n = 8) := Lib.hid (by unfold arE6; rw [if_pos hdk])
    have HS : Hid (arS6 M n = M) := Lib.hid (by unfold arS6; rw [HE.out, if_neg (by decide)])
    rw [hdk] at c2
    clear h hdk
    go_enter Try.func42, Try.ntmps42
    go_wp2_with fail
    go_ret
    exact ⟨ret_int HE.out.symm, by rw [HS.out]; exact HH.out, Only.refl _ _⟩
theorem c_fail (d : Int) (h : BenAt rKind w p v Fs ps M) :
    Calls Try.prog 40 #[.pointer (some ⟨p, 0, none⟩), .int .i64 d] w fun e w' => e = .returned (.int .i64 (hasE M d)) ∧ Left rKind w p v Fs ps M.ds.length (faS6 M d) w' := by
  rcases hasE_is M d with ⟨e, ho⟩ | ⟨e, k, rfl, hk⟩
  · have HL := Lib.hid (Left.same h (M' := faS6 M d) (by unfold faS6; rw [if_neg (by omega)]))
    have HO := Lib.hid (c_has_no h ho)
    have HE := Lib.hid e
    clear e h ho
    go_enter Try.func40, Try.ntmps40
    go_wp2_with fail
    refine HO.out.mono ?_
    rintro e w1 ⟨rfl, rfl⟩
    go_wp2_with fail
    go_ret
    exact ⟨ret_int HE.out.symm, HL.out⟩
  · obtain ⟨x, hx⟩ : ∃ x, M.ds.getD k dev0 = x := ⟨_, rfl⟩
    have hat := h.devs.at_ k hk
    rw [hx] at hat
    have HS : Hid (faS6 M (k : Int) = M.put k ⟨x.S, [], true⟩) := Lib.hid (by unfold faS6; rw [if_pos e, ← hx]; rfl)
    have HO := Lib.hid (c_has_ok h hk)
    have HD := Lib.hid (rv_fail hat)
    have HE := Lib.hid e
    have HH := Lib.hid h
    obtain ⟨g, c, rfl, _, _⟩ := h.slice
    obtain ⟨c0, c1, c2, c3⟩ := h.rcells
    have ck := h.cell hk
    obtain ⟨q, hq⟩ : ∃ q, ps.getD k 0 = q := ⟨_, rfl⟩
    rw [hq] at ck HD
    have HQ := Lib.hid hq
    clear e h hat hx hq
    go_enter Try.func40, Try.ntmps40
    go_wp2_with fail
    refine HO.out.mono ?_
    rintro e w1 ⟨rfl, rfl⟩
    go_wp2_with fail
    refine HD.out.mono ?_
    rintro e w2 ⟨⟨z, rfl⟩, F', h1, h2, h3⟩
    go_wp2_with fail
    go_ret
    exact ⟨ret_int HE.out.symm, Left.turn HH.out hk h2 h3 (d := ⟨x.S, [], true⟩) (by rw [HQ.out]; exact h1) HS.out⟩
theorem c_rot (d n i : Int) (u : UInt8) (h : BenAt rKind w p v Fs ps M) :
    Calls Try.prog 45 #[.pointer (some ⟨p, 0, none⟩), .int .i64 d, .int .i64 n, .int .i64 i, .int .u8 (u.toNat : Int)] w fun e w' => e = .returned (.int .i64 (roE6 M d n i)) ∧ Left rKind w p v Fs ps M.ds.length (roS6 M d n i u) w' := by
  rcases hasE_is M d with ⟨e, ho⟩ | ⟨e, k, rfl, hk⟩
  · have HL := Lib.hid (Left.same h (M' := roS6 M d n i u) (by unfold roS6; rw [if_neg (by omega)]))
    have HO := Lib.hid (c_has_no h ho)
    have HE : Hid (roE6 M d n i = 2) := Lib.hid (by unfold roE6; rw [if_neg (by omega), e])
    clear e h ho
    go_enter Try.func45, Try.ntmps45
    go_wp2_with fail
    refine HO.out.mono ?_
    rintro e w1 ⟨rfl, rfl⟩
    go_wp2_with fail
    go_ret
    exact ⟨ret_int HE.out.symm, HL.out⟩
  · obtain ⟨x, hx⟩ : ∃ x, M.ds.getD k dev0 = x := ⟨_, rfl⟩
    have hat := h.devs.at_ k hk
    rw [hx] at hat
    have HS : Hid (roS6 M (k : Int) n i u = M.put k ⟨rotS x.S x.g n i u, x.L, x.g⟩) := Lib.hid (by unfold roS6; rw [if_pos e, ← hx]; rfl)
    have HO := Lib.hid (c_has_ok h hk)
    have HD := Lib.hid (rv_rot n i u hat)
    have HE : Hid (roE6 M (k : Int) n i = rotE x.S x.g n i) := Lib.hid (by unfold roE6; rw [if_pos e, ← hx]; rfl)
    have HH := Lib.hid h
    obtain ⟨g, c, rfl, _, _⟩ := h.slice
    obtain ⟨c0, c1, c2, c3⟩ := h.rcells
    have ck := h.cell hk
    obtain ⟨q, hq⟩ : ∃ q, ps.getD k 0 = q := ⟨_, rfl⟩
    rw [hq] at ck HD
    have HQ := Lib.hid hq
    clear e h hat hx hq
    go_enter Try.func45, Try.ntmps45
    go_wp2_with fail
    refine HO.out.mono ?_
    rintro e w1 ⟨rfl, rfl⟩
    go_wp2_with fail
    refine HD.out.mono ?_
    rintro e w2 ⟨rfl, F', h1, h2, h3⟩
    go_wp2_with fail
    go_ret
    exact ⟨ret_int HE.out.symm, Left.turn HH.out hk h2 h3 (d := ⟨rotS x.S x.g n i u, x.L, x.g⟩) (by rw [HQ.out]; exact h1) HS.out⟩
/-- A step's mark. -/
def BenS.step (M : BenS) : BenS := if M.left = 1 then M.night else M.done
theorem c_step (h : BenAt rKind w p v Fs ps M) (hs : M.steps < 1000000) (hll : M.left < 9223372036854775808) :
    Calls Try.prog 67 #[.pointer (some ⟨p, 0, none⟩)] w fun e w' => e = .returned (.int .i64 M.stepE) ∧ BenAt rKind w' p v Fs ps M.step ∧ Only (fun b => b = p) w w' := by
  obtain ⟨c0, c1, c2, c3⟩ := h.rcells
  have f1 := frozen_of_row w p 1 _ _ h.at_
  have f2 := frozen_of_row w p 2 _ _ h.at_
  have f3 := frozen_of_row w p 3 _ _ h.at_
  have HH := Lib.hid h
  clear h
  by_cases h1 : M.left = 1
  · have HE : Hid (M.stepE = 8) := Lib.hid (by unfold BenS.stepE; rw [if_pos h1])
    have HS : Hid (M.step = M.night) := Lib.hid (by unfold BenS.step; rw [if_pos h1])
    rw [h1] at c1
    clear h1 hs hll
    go_enter Try.func67, Try.ntmps67
    go_wp2_with fail
    go_ret
    have ho := only_set w p 2 (.bool true)
    refine ⟨ret_int HE.out.symm, ?_, ho⟩
    rw [HS.out]
    refine HH.out.obj _ _ _ ho ?_
    have := heap_setCell_same w p 2 _ _ (.bool true) HH.out.at_
    simpa [rKind] using this
  · have HE : Hid (M.stepE = 0) := Lib.hid (by unfold BenS.stepE; rw [if_neg h1])
    have HS : Hid (M.step = M.done) := Lib.hid (by unfold BenS.step; rw [if_neg h1])
    by_cases h2 : 1 < M.left
    · have hl1 : ((M.left : Int) == 1) = false := by simpa using (by omega : ¬ (M.left : Int) = 1)
      go_enter Try.func67, Try.ntmps67
      go_wp2_with fail
      go_ret
      have ho := (only_set w p 1 (.int .i64 ((M.left : Int) - 1))).setCell (p := ⟨p, 3, none⟩) (.inl rfl) (.int .i64 ((M.steps : Int) + 1))
      refine ⟨ret_int HE.out.symm, ?_, ho⟩
      rw [HS.out]
      refine HH.out.obj _ _ _ ho ?_
      have h3 := heap_setCell_same _ p 3 _ _ (.int .i64 ((M.steps : Int) + 1)) (heap_setCell_same w p 1 _ _ (.int .i64 ((M.left : Int) - 1)) HH.out.at_)
      have e : ((M.left - 1 : Nat) : Int) = (M.left : Int) - 1 := by omega
      simpa [rKind, e] using h3
    · have hl0 : M.left = 0 := by omega
      have HL0 := Lib.hid hl0
      rw [hl0] at c1
      clear h1 hll h2 hl0
      go_enter Try.func67, Try.ntmps67
      go_wp2_with fail
      go_ret
      have ho := only_set w p 3 (.int .i64 ((M.steps : Int) + 1))
      refine ⟨ret_int HE.out.symm, ?_, ho⟩
      rw [HS.out]
      refine HH.out.obj _ _ _ ho ?_
      have h3 := heap_setCell_same w p 3 _ _ (.int .i64 ((M.steps : Int) + 1)) HH.out.at_
      simpa [rKind, HL0.out] using h3
end
end Go.Proofs.Ytpcdcnnnkblhiaa
namespace Go.Proofs.Ytpcdcnnnkblhiaa
open Go.RowKit
set_option linter.unusedVariables false
set_option maxRecDepth 100000

section
variable {w w' : World} {p : Nat} {v : Value} {Fs : Nat → Nat → Prop} {ps : List Nat} {M : BenS}
theorem c_lit_no {d : Int} (h0 : litE M d ≠ 0) : litE M d = 8 ∨ litE M d = 2 := by
  rcases litE_is M d with ⟨e, _⟩ | ⟨e, _⟩ | ⟨e, _⟩
  · exact .inl e
  · exact .inr e
  · exact absurd e h0
theorem c_flush_no (d : Int) (h : BenAt rKind w p v Fs ps M) (hl : flA6 M d ≠ 0) :
    Calls Try.prog 39 #[.pointer (some ⟨p, 0, none⟩), .int .i64 d] w fun e w' => e = .returned (.int .i64 (flE6 M d)) ∧ Left rKind w p v Fs ps M.ds.length (flS6 M d) w' := by
  have HE : Hid (flE6 M d = flA6 M d) := Lib.hid (by unfold flE6; rw [if_neg hl])
  have HL := Lib.hid (Left.same h (M' := flS6 M d) (by unfold flS6; rw [if_neg hl]))
  have HO := Lib.hid (c_asks d h)
  by_cases h0 : litE M d = 0
  · rcases litE_is M d with ⟨e, _⟩ | ⟨e, _⟩ | ⟨e, hdk, k, rfl, hk⟩
    · omega
    · omega
    obtain ⟨x, hx⟩ : ∃ x, M.ds.getD k dev0 = x := ⟨_, rfl⟩
    have hat := h.devs.at_ k hk
    rw [hx] at hat
    have hg : x.g = true := by
      cases hg : x.g
      · exfalso; apply hl; unfold flA6; rw [if_pos e, show M.dev (k : Int) = x from hx, hg, if_neg (by decide)]
      · rfl
    have H9 : Hid (flA6 M (k : Int) = 9) := Lib.hid (by unfold flA6; rw [if_pos e, show M.dev (k : Int) = x from hx, hg, if_pos rfl])
    obtain ⟨g, c, rfl, _, _⟩ := h.slice
    obtain ⟨c0, c1, c2, c3⟩ := h.rcells
    have ck := h.cell hk
    obtain ⟨AS, cS, d0, d2⟩ := rv_cells hat
    rw [hg] at d2
    rw [e] at HO
    clear e h hat hx hdk hl h0 hg
    generalize ps.getD k 0 = q at *
    go_enter Try.func39, Try.ntmps39
    go_wp2_with fail
    refine HO.out.mono ?_
    rintro e w1 ⟨rfl, rfl⟩
    go_wp2_with fail
    go_ret
    exact ⟨ret_int (by rw [HE.out, H9.out]), HL.out⟩
  · have HA : Hid (flA6 M d = litE M d) := Lib.hid (by unfold flA6; rw [if_neg h0])
    clear h hl
    rw [HE.out, HA.out]
    rcases c_lit_no h0 with e | e
    all_goals
      rw [e] at HO ⊢
      clear e h0
      go_enter Try.func39, Try.ntmps39
      go_wp2_with fail
      refine HO.out.mono ?_
      rintro e w1 ⟨rfl, rfl⟩
      go_wp2_with fail
      go_ret
      exact ⟨rfl, HL.out⟩
theorem c_flush (d : Int) (h : BenAt rKind w p v Fs ps M) (hs : M.steps < 1000000) (hll : M.left < 9223372036854775808) :
    Calls Try.prog 39 #[.pointer (some ⟨p, 0, none⟩), .int .i64 d] w fun e w' => e = .returned (.int .i64 (flE6 M d)) ∧ Left rKind w p v Fs ps M.ds.length (flS6 M d) w' := by
  by_cases hl : flA6 M d = 0
  rotate_left 1
  · exact c_flush_no d h hl
  have hlit : litE M d = 0 := by
    unfold flA6 at hl
    by_cases h0 : litE M d = 0
    · exact h0
    · rw [if_neg h0] at hl; exact hl
  rcases litE_is M d with ⟨e, _⟩ | ⟨e, _⟩ | ⟨e, hdk, k, rfl, hk⟩
  · omega
  · omega
  obtain ⟨x, hx⟩ : ∃ x, M.ds.getD k dev0 = x := ⟨_, rfl⟩
  have hat := h.devs.at_ k hk
  rw [hx] at hat
  have hg : x.g = false := by
    cases hg : x.g
    · rfl
    · exfalso; unfold flA6 at hl; rw [if_pos e, show M.dev (k : Int) = x from hx, hg, if_pos rfl] at hl; omega
  have HEE : Hid (flE6 M (k : Int) = M.stepE) := Lib.hid (by unfold flE6; rw [if_pos hl])
  have HO := Lib.hid (c_asks (k : Int) h)
  rw [e] at HO
  have HST := Lib.hid (c_step h hs hll)
  obtain ⟨q, hq⟩ : ∃ q, ps.getD k 0 = q := ⟨_, rfl⟩
  obtain ⟨g, c, rfl, _, _⟩ := h.slice
  obtain ⟨c0, c1, c2, c3⟩ := h.rcells
  have ck := h.cell hk
  obtain ⟨AS, cS, d0, d2⟩ := rv_cells hat
  rw [hg] at d2
  rw [hq] at ck d2 d0
  by_cases h1 : M.left = 1
  · have HE : Hid (M.stepE = 8) := Lib.hid (by unfold BenS.stepE; rw [if_pos h1])
    have HN : Hid (M.step = M.night) := Lib.hid (by unfold BenS.step; rw [if_pos h1])
    have HS : Hid (flS6 M (k : Int) = M.night) := Lib.hid (by unfold flS6; rw [if_pos hl, if_pos h1])
    clear e h hat hx hdk hl hg h1 hlit hs hll hq
    go_enter Try.func39, Try.ntmps39
    go_wp2_with fail
    refine HO.out.mono ?_
    rintro e w1 ⟨rfl, rfl⟩
    go_wp2_with fail
    refine HST.out.mono ?_
    rintro e w2 ⟨rfl, h2, ho2⟩
    rw [HE.out]
    have H2 := Lib.hid h2
    have HO2 := Lib.hid ho2
    clear h2 ho2
    go_wp2_with fail
    go_ret
    refine ⟨ret_int (by rw [HEE.out, HE.out]), ?_⟩
    rw [HS.out, ← HN.out]
    exact Left.obj H2.out HO2.out (by rw [HN.out]; rfl)
  · have HE : Hid (M.stepE = 0) := Lib.hid (by unfold BenS.stepE; rw [if_neg h1])
    have HN : Hid (M.step = M.done) := Lib.hid (by unfold BenS.step; rw [if_neg h1])
    have HS : Hid (flS6 M (k : Int) = M.done.put k ⟨flS x.S x.L, [], x.g⟩) := Lib.hid (by unfold flS6; rw [if_pos hl, if_neg h1, show M.dev (k : Int) = x from hx]; rfl)
    have HX := Lib.hid hx
    have HG := Lib.hid hg
    have HQ := Lib.hid hq
    clear e h hat hx hdk hl hg h1 hlit hs hll hq
    go_enter Try.func39, Try.ntmps39
    go_wp2_with fail
    refine HO.out.mono ?_
    rintro e w1 ⟨rfl, rfl⟩
    go_wp2_with fail
    refine HST.out.mono ?_
    rintro e w2 ⟨rfl, h2, ho2⟩
    rw [HE.out]
    rw [HN.out] at h2
    obtain ⟨e0, e1, e2, e3⟩ := h2.rcells
    have ek := BenAt.cell (M := M.done) h2 (i := k) hk
    rw [HQ.out] at ek
    have hat2 := h2.devs.at_ k hk
    rw [show M.done.ds.getD k dev0 = x from HX.out, HQ.out] at hat2
    have HD := Lib.hid (rv_flush hat2)
    have H2 := Lib.hid h2
    have HO2 := Lib.hid ho2
    clear h2 ho2 hat2 c0 c1 c2 c3 ck d0 d2
    go_wp2_with fail
    refine HD.out.mono ?_
    rintro e w3 ⟨rfl, F', g1, g2, g3⟩
    rw [HG.out]
    have HL := Lib.hid (Left.behind HO2.out (Left.turn H2.out (i := k) hk g2 g3 (d := ⟨flS x.S x.L, [], x.g⟩) (show Rv _ _ _ _ _ _ by rw [HQ.out]; simpa [HG.out] using g1) HS.out))
    clear g1 g2 g3
    go_wp2_with fail
    go_ret
    exact ⟨ret_int (by rw [HEE.out, HE.out]), HL.out⟩
set_option maxHeartbeats 1000000 in
theorem c_insert (d : Int) (h : BenAt rKind w p v Fs ps M) (hcap : ∀ i, i < M.ds.length → 1 ≤ (M.ds.getD i dev0).S.length ∧ (M.ds.getD i dev0).S.length ≤ 512) :
    Calls Try.prog 41 #[.pointer (some ⟨p, 0, none⟩), .int .i64 d] w fun e w' => e = .returned (.int .i64 (inE6 M d)) ∧ Left rKind w p v Fs ps M.ds.length (inS6 M d) w' := by
  have HO := Lib.hid (c_asks d h)
  by_cases h0 : litE M d = 0
  · rcases litE_is M d with ⟨e, _⟩ | ⟨e, _⟩ | ⟨e, hdk, k, rfl, hk⟩
    · omega
    · omega
    obtain ⟨x, hx⟩ : ∃ x, M.ds.getD k dev0 = x := ⟨_, rfl⟩
    have hat := h.devs.at_ k hk
    have hS := hcap k hk
    rw [hx] at hat hS
    obtain ⟨g, c, rfl, _, _⟩ := h.slice
    obtain ⟨c0, c1, c2, c3⟩ := h.rcells
    have ck := h.cell hk
    have fk := h.frozen k
    obtain ⟨AS, cS, d0, d2⟩ := rv_cells hat
    obtain ⟨q, hq⟩ : ∃ q, ps.getD k 0 = q := ⟨_, rfl⟩
    rw [hq] at ck d2 d0
    rw [e] at HO
    cases hg : x.g
    · have HE : Hid (inE6 M (k : Int) = 17) := Lib.hid (by unfold inE6; rw [if_pos e, show M.dev (k : Int) = x from hx, hg, if_neg (by decide)])
      have HL := Lib.hid (Left.same h (M' := inS6 M (k : Int)) (by unfold inS6; rw [HE.out, if_neg (by decide)]))
      rw [hg] at d2
      clear e h hat hx hdk h0 hg hq hS hcap
      go_enter Try.func41, Try.ntmps41
      go_wp2_with fail
      refine HO.out.mono ?_
      rintro e w1 ⟨rfl, rfl⟩
      go_wp2_with fail
      go_ret
      exact ⟨ret_int HE.out.symm, HL.out⟩
    · have HE : Hid (inE6 M (k : Int) = 0) := Lib.hid (by unfold inE6; rw [if_pos e, show M.dev (k : Int) = x from hx, hg, if_pos rfl])
      have HS : Hid (inS6 M (k : Int) = M.put k ⟨List.replicate x.S.length zeroB, [], false⟩) := Lib.hid (by unfold inS6; rw [HE.out, if_pos rfl, show M.dev (k : Int) = x from hx]; rfl)
      obtain ⟨hS1, hS2⟩ := hS
      have HH := Lib.hid h
      rw [hg] at d2
      clear e h hat hx hdk h0 hg hq hcap
      go_enter Try.func41, Try.ntmps41
      go_wp2_with fail
      refine HO.out.mono ?_
      rintro e w1 ⟨rfl, rfl⟩
      go_wp2_with fail
      refine (rv_new x.S.length w hS1 hS2).mono ?_
      rintro e w4 ⟨p', F', rfl, hd4, hb4, hF4⟩
      have h4 := HH.out.below hb4
      have HSW := Lib.hid (HH.out.swap hk hb4 hF4 (d := ⟨List.replicate x.S.length zeroB, [], false⟩) hd4)
      have HB4 := Lib.hid hb4
      have HF4 := Lib.hid hF4
      obtain ⟨e0, e1, e2, e3⟩ := h4.rcells
      have ek := h4.cell hk
      have efk := h4.frozen k
      clear hd4 hb4 hF4 h4 c0 c1 c2 c3 ck fk d0 d2
      go_wp2_with fail
      go_ret
      refine ⟨ret_int HE.out.symm, ?_⟩
      rw [HS.out]
      refine ⟨_, _, HSW.out, ((Only.of_below _ HB4.out).setCell (p := ⟨g, k, none⟩) (.inl (.inr (.inl rfl))) _), fun b hb => ?_⟩
      rcases hb with e | e | ⟨j, hj, e | e⟩
      · exact .inl (.inl e)
      · exact .inl (.inr (.inl e))
      · exact .inr (HF4.out b e.2)
      · exact .inl (.inr (.inr ⟨j, by rwa [M.put_len] at hj, e.2⟩))
  · have HA : Hid (inE6 M d = litE M d) := Lib.hid (by unfold inE6; rw [if_neg h0])
    have HL := Lib.hid (Left.same h (M' := inS6 M d) (by unfold inS6; rw [HA.out, if_neg h0]))
    clear h hcap
    rw [HA.out]
    rcases c_lit_no h0 with e | e
    all_goals
      rw [e] at HO ⊢
      clear e h0
      go_enter Try.func41, Try.ntmps41
      go_wp2_with fail
      refine HO.out.mono ?_
      rintro e w1 ⟨rfl, rfl⟩
      go_wp2_with fail
      go_ret
      exact ⟨rfl, HL.out⟩
end
end Go.Proofs.Ytpcdcnnnkblhiaa
namespace Go.Proofs.Ytpcdcnnnkblhiaa
open Go.RowKit
set_option linter.unusedVariables false
set_option maxRecDepth 100000

section
variable {w w' : World} {p : Nat} {v : Value} {Fs : Nat → Nat → Prop} {ps : List Nat} {M : BenS}
theorem faR0 {b : Nat} : (Instr.fieldAt 71 (.pointer (some ⟨b, 0, none⟩)) 0).run Try.prog w = .ok (.pointer (some ⟨b, 0, none⟩)) w := by kernel_rfl
theorem ldRs {a : Addr} {A : Option Addr} {n c : Nat} (h : w.cell? a = some (.slice A n c)) : (Instr.loadAt 69 (.pointer (some a))).run Try.prog w = .ok (.slice A n c) w := by simp [go_sem, h]
theorem ldRp {a : Addr} {A : Option Addr} (h : w.cell? a = some (.pointer A)) : (Instr.loadAt 72 (.pointer (some a))).run Try.prog w = .ok (.pointer A) w := by simp [go_sem, h]
theorem exec_ixR {k : BKind} {ρ : Operand → Value} {o : Oper} {x y : Operand} {w : World} {b n c j : Nat} (ho : o.op = .indexAddr k.E.s x y) (hx : ρ x = .slice (some ⟨b, 0, none⟩) n c) (hy : ρ y = .int .i64 (j : Int)) (hj : j < n) : (execOp ρ o).run Try.prog w = .ok (.value (.pointer (some ⟨b, j, none⟩))) w := by
  have h := exec_indexE (E := k.E) (w := w) ho hx hy hj
  rwa [show 0 + j * k.E.n = j from by show 0 + j * 1 = j; omega] at h
set_option maxHeartbeats 1000000 in
theorem c_write_no (d n : Int) (x : Blk) (h : BenAt rKind w p v Fs ps M) (hr : rdE6 M d n ≠ 0) :
    Calls Try.prog 37 #[.pointer (some ⟨p, 0, none⟩), .int .i64 d, .int .i64 n, blk x] w fun e w' => e = .returned (.int .i64 (rdE6 M d n)) ∧ Below w.heap.size w w' := by
  have hA := (Below.refl w.heap.size w).alloc (Nat.le_refl _) (.cells (cel x).toArray 34)
  have h1 := h.below hA
  have HO := Lib.hid (c_asks d h1)
  have HA := Lib.hid hA
  by_cases h0 : litE M d = 0
  · rcases litE_is M d with ⟨e, _⟩ | ⟨e, _⟩ | ⟨e, hdk, k, rfl, hk⟩
    · omega
    · omega
    obtain ⟨y, hy⟩ : ∃ y, M.ds.getD k dev0 = y := ⟨_, rfl⟩
    have hat := h1.devs.at_ k hk
    rw [hy] at hat
    have hr0 : rdE6 M (k : Int) n = askE y.S y.g n := by unfold rdE6; rw [if_pos e, M.dev_nat, hy]
    rw [hr0] at hr ⊢
    have HD := Lib.hid (rv_asks n hat)
    obtain ⟨g, c, rfl, _, _⟩ := h1.slice
    obtain ⟨c0, c1, c2, c3⟩ := h1.rcells
    have ck := h1.cell hk
    rw [e] at HO
    clear e h h1 hA hat hy hdk h0 hr0
    generalize ps.getD k 0 = q at *
    rcases askE_is (S := y.S) (g := y.g) (n := n) with e | e | ⟨e, _⟩
    rotate_right 1
    · exact absurd e hr
    all_goals
      rw [e] at HD ⊢
      clear e hr
      go_enter Try.func37, Try.ntmps37
      go_wp2_with (first | (refine wpList_val rfl (exec_box rfl rfl) ?_) | fail)
      refine HO.out.mono ?_
      rintro e w1 ⟨rfl, rfl⟩
      go_wp2_with fail
      refine HD.out.mono ?_
      rintro e w2 ⟨rfl, rfl⟩
      go_wp2_with fail
      go_ret
      exact ⟨rfl, HA.out⟩
  · have hr0 : rdE6 M d n = litE M d := by unfold rdE6; rw [if_neg h0]
    rw [hr0]
    clear h h1 hA hr hr0
    rcases c_lit_no h0 with e | e
    all_goals
      rw [e] at HO ⊢
      clear e h0
      go_enter Try.func37, Try.ntmps37
      go_wp2_with (first | (refine wpList_val rfl (exec_box rfl rfl) ?_) | fail)
      refine HO.out.mono ?_
      rintro e w1 ⟨rfl, rfl⟩
      go_wp2_with fail
      go_ret
      exact ⟨rfl, HA.out⟩
set_option maxHeartbeats 2000000 in
theorem c_write_do (n : Int) (x : Blk) (h : BenAt rKind w p v Fs ps M) {k : Nat} (hdk : M.dark = false) (hk : k < M.ds.length) (he : askE (M.ds.getD k dev0).S (M.ds.getD k dev0).g n = 0) (hs : M.steps < 1000000) (hll : M.left < 9223372036854775808) (hL : (M.ds.getD k dev0).L.length < 1000000) :
    Calls Try.prog 37 #[.pointer (some ⟨p, 0, none⟩), .int .i64 k, .int .i64 n, blk x] w fun e w' => e = .returned (.int .i64 M.stepE) ∧ Left rKind w p v Fs ps M.ds.length (wrS6 M (k : Int) n x) w' := by
  obtain ⟨y, hy⟩ : ∃ y, M.ds.getD k dev0 = y := ⟨_, rfl⟩
  obtain ⟨q, hq⟩ : ∃ q, ps.getD k 0 = q := ⟨_, rfl⟩
  have hA := (Below.refl w.heap.size w).alloc (Nat.le_refl _) (.cells (cel x).toArray 34)
  have h1 := h.below hA
  have HO := Lib.hid (c_asks (k : Int) h1)
  rw [litE_ok hdk hk] at HO
  have hat := h1.devs.at_ k hk
  have hr0 : rdE6 M (k : Int) n = 0 := by unfold rdE6; rw [if_pos (litE_ok hdk hk), M.dev_nat]; exact he
  rw [hy, hq] at hat
  rw [hy] at he hL
  have HD := Lib.hid (rv_asks n hat)
  rw [he] at HD
  have HST := Lib.hid (c_step h1 hs hll)
  obtain ⟨g, c, rfl, _, _⟩ := h1.slice
  obtain ⟨c0, c1, c2, c3⟩ := h1.rcells
  have ck := h1.cell hk
  rw [hq] at ck
  have HA := Lib.hid hA
  have HE := Lib.hid he
  have HL := Lib.hid hL
  have HY := Lib.hid hy
  have HQ := Lib.hid hq
  have HR := Lib.hid hr0
  have HB := Lib.hid (new1 w (cel x).toArray 34)
  have HPW := Lib.hid (blk_lt h.at_)
  by_cases h2 : M.left = 1
  · have HE1 : Hid (M.stepE = 8) := Lib.hid (by unfold BenS.stepE; rw [if_pos h2])
    have HN : Hid (M.step = M.night) := Lib.hid (by unfold BenS.step; rw [if_pos h2])
    have HW : Hid (wrS6 M (k : Int) n x = M.night) := Lib.hid (by unfold wrS6; rw [if_pos hr0, if_pos h2])
    clear h h1 h2 hA hat hr0 hy hq hdk he hs hll hL
    go_enter Try.func37, Try.ntmps37
    go_wp2_with (first | (refine wpList_val rfl (exec_box rfl rfl) ?_) | fail)
    refine HO.out.mono ?_
    rintro e w1 ⟨rfl, rfl⟩
    go_wp2_with fail
    refine HD.out.mono ?_
    rintro e w2 ⟨rfl, rfl⟩
    go_wp2_with fail
    refine HST.out.mono ?_
    rintro e w3 ⟨rfl, h3, ho3⟩
    rw [HE1.out]
    have HLL := Lib.hid (Left.above HA.out (Left.obj h3 ho3 (n := M.ds.length) (by rw [HN.out]; rfl)))
    clear h3 ho3
    go_wp2_with fail
    go_ret
    exact ⟨ret_int HE1.out.symm, by rw [HW.out, ← HN.out]; exact HLL.out⟩
  · have HE1 : Hid (M.stepE = 0) := Lib.hid (by unfold BenS.stepE; rw [if_neg h2])
    have HN : Hid (M.step = M.done) := Lib.hid (by unfold BenS.step; rw [if_neg h2])
    have HW : Hid (wrS6 M (k : Int) n x = M.done.put k ⟨y.S, wrL y.S y.L y.g n x, y.g⟩) := Lib.hid (by unfold wrS6; rw [if_pos hr0, if_neg h2, show M.dev (k : Int) = y from hy]; rfl)
    clear h h1 h2 hA hat hr0 hy hq hdk he hs hll hL
    go_enter Try.func37, Try.ntmps37
    go_wp2_with (first | (refine wpList_val rfl (exec_box rfl rfl) ?_) | fail)
    refine HO.out.mono ?_
    rintro e w1 ⟨rfl, rfl⟩
    go_wp2_with fail
    refine HD.out.mono ?_
    rintro e w2 ⟨rfl, rfl⟩
    go_wp2_with fail
    refine HST.out.mono ?_
    rintro e w3 ⟨rfl, h3, ho3⟩
    rw [HE1.out]
    rw [HN.out] at h3
    have hb3 := ho3.keep HB.out (fun e => by have := HPW.out; omega)
    have H3 := Lib.hid h3
    have HB3 := Lib.hid hb3
    have HO3 := Lib.hid (Only.trans (Only.of_below (fun b => b = p) HA.out) ho3 fun b hb => .inl hb)
    clear h3 ho3 hb3 c0 c1 c2 c3 ck
    go_wp2_with fail
    have hdr : BenAt rKind w3.drew p (.slice (some ⟨g, 0, none⟩) M.ds.length c) Fs ps M.done := H3.out.below (bd (Below.refl _ _))
    refine wp_region_still_tail 9 (by kernel_rfl) (by kernel_rfl) ?_
    simp only [List.take_succ_cons, List.take_zero, List.drop_succ_cons, List.drop_zero]
    refine st_val rfl (exec_mv rfl (ev rfl)) ?_
    simp only [Act.put, List.setIfInBounds_toArray, List.set_cons_succ, List.set_cons_zero]
    refine st_val rfl (exec_nil rfl (ev rfl)) ?_
    simp only [Act.put, List.setIfInBounds_toArray, List.set_cons_succ, List.set_cons_zero]
    refine st_val rfl (exec_faddr rfl (ev rfl) faR0) ?_
    simp only [Act.put, List.setIfInBounds_toArray, List.set_cons_succ, List.set_cons_zero]
    refine st_val rfl (exec_ld rfl (ev rfl) (ldRs hdr.rcells.1)) ?_
    simp only [Act.put, List.setIfInBounds_toArray, List.set_cons_succ, List.set_cons_zero]
    refine st_val rfl (exec_mv rfl (ev rfl)) ?_
    simp only [Act.put, List.setIfInBounds_toArray, List.set_cons_succ, List.set_cons_zero]
    refine st_val rfl (exec_ixR (k := rKind) rfl (ev rfl) (ev rfl) hk) ?_
    simp only [Act.put, List.setIfInBounds_toArray, List.set_cons_succ, List.set_cons_zero]
    refine st_val rfl (exec_ld rfl (ev rfl) (ldRp (BenAt.cell (M := M.done) hdr (i := k) hk))) ?_
    simp only [Act.put, List.setIfInBounds_toArray, List.set_cons_succ, List.set_cons_zero]
    refine st_val rfl (exec_mv rfl (ev rfl)) ?_
    simp only [Act.put, List.setIfInBounds_toArray, List.set_cons_succ, List.set_cons_zero]
    refine st_val rfl (exec_load rfl (ev rfl) (blk_range HB3.out)) ?_
    simp only [Act.put, List.setIfInBounds_toArray, List.set_cons_succ, List.set_cons_zero]
    refine wpStill_nil ?_
    change wpList _ _ _ _ _ w3.drew
    rw [HQ.out]
    have hat3 := hdr.devs.at_ k hk
    rw [show M.done.ds.getD k dev0 = y from HY.out, HQ.out] at hat3
    have HDR := Lib.hid hdr
    have HD3 := Lib.hid (rv_write n x HL.out hat3)
    clear hdr hat3
    go_wp2_with fail
    refine HD3.out.mono ?_
    rintro e w4 ⟨rfl, F', g1, g2, g3⟩
    rw [HE.out]
    have HLT := Lib.hid (Left.behind (HO3.out.drew) (Left.turn HDR.out (i := k) hk g2 g3 (d := ⟨y.S, wrL y.S y.L y.g n x, y.g⟩) (show Rv _ _ _ _ _ _ by rw [HQ.out]; exact g1) HW.out))
    clear g1 g2 g3
    go_wp2_with fail
    go_ret
    exact ⟨ret_int HE1.out.symm, HLT.out⟩
theorem c_write (d n : Int) (x : Blk) (h : BenAt rKind w p v Fs ps M) (hr : ∀ i, i < M.ds.length → (M.ds.getD i dev0).L.length < 1000000) (hs : M.steps < 1000000) (hll : M.left < 9223372036854775808) :
    Calls Try.prog 37 #[.pointer (some ⟨p, 0, none⟩), .int .i64 d, .int .i64 n, blk x] w fun e w' => e = .returned (.int .i64 (wrE6 M d n)) ∧ Left rKind w p v Fs ps M.ds.length (wrS6 M d n x) w' := by
  by_cases hr0 : rdE6 M d n = 0
  · have hlit : litE M d = 0 := by
      by_cases h0 : litE M d = 0
      · exact h0
      · unfold rdE6 at hr0; rw [if_neg h0] at hr0; exact hr0
    rcases litE_is M d with ⟨e, _⟩ | ⟨e, _⟩ | ⟨e, hdk, k, rfl, hk⟩
    · omega
    · omega
    have he : askE (M.ds.getD k dev0).S (M.ds.getD k dev0).g n = 0 := by unfold rdE6 at hr0; rwa [if_pos e, M.dev_nat] at hr0
    refine (c_write_do n x h hdk hk he hs hll (hr k hk)).mono ?_
    rintro e w' ⟨rfl, hl⟩
    exact ⟨by unfold wrE6; rw [if_pos hr0], hl⟩
  · refine (c_write_no d n x h hr0).mono ?_
    rintro e w' ⟨rfl, hb⟩
    exact ⟨by unfold wrE6; rw [if_neg hr0], Left.below_ h hb (by unfold wrS6; rw [if_neg hr0])⟩
set_option maxHeartbeats 2000000 in
theorem c_crash {A : Option Addr} {n c : Nat} {P : List Int} (h : BenAt rKind w p v Fs ps M) (hP : Pk w (footB p v Fs M.ds.length) A n c P) :
    Calls Try.prog 43 #[.pointer (some ⟨p, 0, none⟩), .slice A n c] w fun e w' => e = .returned (.int .i64 0) ∧ Left rKind w p v Fs ps M.ds.length (crS6 M P) w' := by
  obtain ⟨g, cc, rfl, _, hcm⟩ := h.slice
  unfold maxLen at hcm
  have HH := Lib.hid h
  have HP := Lib.hid hP
  have hlen : M.ds.length ≤ 17 := h.cap
  clear h hP
  go_enter Try.func43, Try.ntmps43
  go_wp2_with fail
  go_loopw [1, 5] (fun pk i wr => ∃ (j : Nat) (A' : Option Addr) (n' c' : Nat) (Fs' : Nat → Nat → Prop), j ≤ M.ds.length ∧ i = .int .i64 j ∧ pk = .slice A' n' c' ∧ Pk w (footB p (.slice (some ⟨g, 0, none⟩) M.ds.length cc) Fs M.ds.length) A' n' c' (crIn M.ds P j).2 ∧ Cutting rKind w wr p (.slice (some ⟨g, 0, none⟩) M.ds.length cc) Fs ps M P j Fs') (fun _ i _ => M.ds.length - (intOf i).toNat)
  case atStart => exact ⟨0, A, n, c, Fs, Nat.zero_le _, rfl, rfl, by rw [show (crIn M.ds P 0).2 = P from by rw [crIn]]; exact HP.out, Cutting.zero HH.out P⟩
  case round =>
    obtain ⟨j, A', n', c', Fs', hj, rfl, rfl, hpk, hct⟩ := hrel
    obtain ⟨c0, c1, c2, c3⟩ := hct.1.rcells
    by_cases hlt : j < M.ds.length
    · have hlj : (j : Int) < (M.ds.length : Int) := by omega
      have hcell : wr.cell? ⟨g, j, none⟩ = some (.pointer (some ⟨ps.getD j 0, 0, none⟩)) := by
        have h1 := hct.1
        have hl : (crIn M.ds P j).1.length = M.ds.length := crIn_len j M.ds P
        have h2 : BenAt rKind wr p (.slice (some ⟨g, 0, none⟩) (⟨(crIn M.ds P j).1, M.left, M.dark, M.steps⟩ : BenS).ds.length cc) Fs' ps ⟨(crIn M.ds P j).1, M.left, M.dark, M.steps⟩ := by
          rw [show (⟨(crIn M.ds P j).1, M.left, M.dark, M.steps⟩ : BenS).ds.length = M.ds.length from hl]; exact h1
        exact h2.cell (by show j < (crIn M.ds P j).1.length; rw [hl]; exact hlt)
      obtain ⟨x, hx⟩ : ∃ x, M.ds.getD j dev0 = x := ⟨_, rfl⟩
      obtain ⟨Q, hQ⟩ : ∃ Q, (crIn M.ds P j).2 = Q := ⟨_, rfl⟩
      have hdv := hct.dev hlt
      rw [hx] at hdv
      rw [hQ] at hpk
      have hnx := (crIn_succ j M.ds P hlt).2
      rw [hx, hQ] at hnx
      have hrd := hpk.only hct.2.1
      have HC := Lib.hid (rv_crash (c := c') hrd (hpk.grown (w' := w) fun b hb => hct.2.2 b (.inr (.inr ⟨j, hlt, hb⟩))) hdv)
      have HCT := Lib.hid hct
      have HPK := Lib.hid hpk
      have HX := Lib.hid hx
      have HQ := Lib.hid hQ
      have HNX := Lib.hid hnx
      have hql : (min x.L.length n' : Nat) ≤ n' := Nat.min_le_right _ _
      have hpl := hpk.len
      have HPL := Lib.hid hpl
      clear hx hQ hdv hrd hct hpk hnx hpl
      generalize hqq : ps.getD j 0 = q at *
      have HQQ := Lib.hid hqq
      clear hqq
      generalize hmm : min x.L.length n' = m at *
      have HMM := Lib.hid hmm
      clear hmm
      go_wp2_with fail
      refine HC.out.mono ?_
      rintro e w2 ⟨rfl, F'', g1, g2, g3⟩
      go_wp2_with (first | (refine wpList_val rfl (exec_tailI rfl rfl rfl hql) ?_) | fail)
      go_roundw
      case rel => exact ⟨j + 1, _, _, _, _, by omega, by go_num, rfl, by rw [HNX.out, HPL.out, HMM.out]; exact HPK.out.tail hql, HCT.out.next hlt g2 g3 (by rw [HQQ.out, HX.out, HQ.out]; exact g1)⟩
      case measure => simp [intOf]; omega
    · have hjn : j = M.ds.length := by omega
      subst hjn
      have hlj : ¬((M.ds.length : Int) < (M.ds.length : Int)) := by omega
      have h1 := hct.1
      rw [crIn_all] at h1
      have f1 := frozen_of_row wr p 1 _ _ h1.at_
      have f2 := frozen_of_row wr p 2 _ _ h1.at_
      have HH1 := Lib.hid h1
      have HCT := Lib.hid hct
      clear h1 hct hpk
      go_wp2_with fail
      go_ret
      have ho : Only (fun b => b = p) wr ((wr.setCell ⟨p, 1, none⟩ (.int .i64 0)).setCell ⟨p, 2, none⟩ (.bool false)) := (only_set wr p 1 (.int .i64 0)).setCell (p := ⟨p, 2, none⟩) (.inl rfl) (.bool false)
      have h3 := heap_setCell_same _ p 2 _ _ (.bool false) (heap_setCell_same wr p 1 _ _ (.int .i64 0) HH1.out.at_)
      refine ⟨rfl, Fs', ps, HH1.out.obj 0 false M.steps ho (by simpa [rKind] using h3), HCT.out.2.1.trans ho fun b hb => .inl (.inl hb), ?_⟩
      have hl : (crAll M.ds P).length = M.ds.length := by rw [← crIn_all, crIn_len]
      show Grow w _ (footB p _ Fs' (crAll M.ds P).length)
      rw [hl]
      exact HCT.out.2.2
end
end Go.Proofs.Ytpcdcnnnkblhiaa
namespace Go.Proofs.Ytpcdcnnnkblhiaa
open Go.RowKit
set_option linter.unusedVariables false
set_option maxRecDepth 100000

section
variable {w w' : World}
set_option maxHeartbeats 2000000 in
theorem c_new {A : Option Addr} {n c : Nat} {ks : List Int} (hl : RdE IntE w w.heap.size A n ks) (hnc : n ≤ c) (hc : c ≤ maxLen) :
    Calls Try.prog 9 #[.slice A n c] w (NewPost rKind w ks) := by
  have hlen : ks.length = n := hl.1
  unfold maxLen at hc
  by_cases h1 : n < 1
  · have HN := Lib.hid (show ¬ newOk ks from fun h => by have := h.1; omega)
    have h0 : n = 0 := by omega
    subst h0
    clear hl hlen h1
    go_enter Try.func9, Try.ntmps9
    go_wp2
    go_ret2
    exact NewPost.no (Below.refl _ _) HN.out rfl
  by_cases h2 : 17 < n
  · have HN := Lib.hid (show ¬ newOk ks from fun h => by have := h.2.1; omega)
    have h1' : ¬((n : Int) < 1) := by omega
    have h2' : ((n : Int) > 17) := by omega
    clear hl hlen h1 h2
    go_enter Try.func9, Try.ntmps9
    go_wp2
    go_ret2
    exact NewPost.no (Below.refl _ _) HN.out rfl
  have h1' : ¬((n : Int) < 1) := by omega
  have h2' : ¬((n : Int) > 17) := by omega
  have h3' : ¬(17 < (n : Int)) := by omega
  have HL := Lib.hid hl
  have HLEN := Lib.hid hlen
  have HMK := Lib.hid (show Making rKind w (w.alloc (.cells #[.slice none 0 0, .int .i64 0, .bool false, .int .i64 0] 71)) (.slice none 0 0) (fun _ _ => False) [] [] 0 false 0 from
    ⟨heap_alloc_new w _, MadeE.nil _ _, ⟨rfl, fun i hi => absurd hi (Nat.not_lt_zero i), fun i j hi => absurd hi (Nat.not_lt_zero i)⟩, fun i hi => absurd hi (Nat.not_lt_zero i), (Below.refl _ w).alloc (Nat.le_refl _) _⟩)
  clear hl hlen
  go_enter Try.func9, Try.ntmps9
  go_wp2_with fail
  generalize w.alloc (.cells #[.slice none 0 0, .int .i64 0, .bool false, .int .i64 0] 71) = w0 at *
  clear h1' h2' h3'
  go_loopw [5] (fun i wr => ∃ (j : Nat) (v : Value) (Fs : Nat → Nat → Prop) (ps : List Nat), j ≤ n ∧ i = .int .i64 j ∧ Making rKind w wr v Fs ps ((ks.take j).map newD) 0 false 0 ∧ ∀ q, q < j → 1 ≤ ks.getD q 0 ∧ ks.getD q 0 ≤ 512) (fun i _ => n - (intOf i).toNat)
  case atStart => exact ⟨0, _, _, _, Nat.zero_le _, rfl, HMK.out, fun q hq => absurd hq (Nat.not_lt_zero q)⟩
  case round =>
    obtain ⟨j, v, Fs, ps, hj, rfl, hmk, hall⟩ := hrel
    have HALL := Lib.hid hall
    clear hall HMK
    by_cases hlt : j < n
    · have hlj : (j : Int) < (n : Int) := by omega
      obtain ⟨bA, oA, rfl, hbA, hcA⟩ := (HL.out.below hmk.below).int hlt
      have HM := Lib.hid hmk
      obtain ⟨AS, cS, rfl, hs1, hs2⟩ := hmk.row.form
      unfold maxLen at hs2
      have hpl : ps.length = j := by have := hmk.devs.len; rw [List.length_map, List.length_take] at this; have := HLEN.out; omega
      have HPL := Lib.hid hpl
      obtain ⟨z, hz⟩ : ∃ z, ks.getD j 0 = z := ⟨_, rfl⟩
      rw [hz] at hcA
      have HZ := Lib.hid hz
      clear hmk hz hpl
      by_cases hok : 1 ≤ z ∧ z ≤ 512
      · obtain ⟨k, rfl⟩ : ∃ k : Nat, z = k := ⟨z.toNat, by omega⟩
        have hk1 : 1 ≤ k := by omega
        have hk2 : k ≤ 512 := by omega
        clear hok
        go_wp2_with fail
        refine (rv_new k wr hk1 hk2).mono ?_
        rintro e w1 ⟨p', F', rfl, hd1, hb1, hF1⟩
        have hat1 := blk_keep HM.out.at_ hb1
        obtain ⟨c0, c1, c2, c3⟩ := r4cells hat1
        have hrow1 := HM.out.row.below hb1
        have hrow2 := hrow1.below ((Below.refl _ w1).alloc (Nat.le_refl _) (.cells (rKind.E.cel p').toArray rKind.E.t))
        have HR := Lib.hid hrow2
        have HNEW := Lib.hid (rdE_new (E := rKind.E) (l := [p']) w1 (rKind.E.cel p').toArray rKind.E.t (by rw [flatE_cons]; simp [flatE]))
        have HSZ := Lib.hid (show w.heap.size ≤ (w1.alloc (.cells (rKind.E.cel p').toArray rKind.E.t)).heap.size by rw [World.size_alloc]; have := HM.out.below.size; have := hb1.size; omega)
        have HD1 := Lib.hid hd1
        have HB1 := Lib.hid hb1
        have HF1 := Lib.hid hF1
        have HAT := Lib.hid hat1
        have HPS := Lib.hid (show ps.length + 1 ≤ 34359738368 by have := HPL.out; omega)
        clear hd1 hb1 hF1 hat1 hrow1 hrow2
        have hal : w.heap.size < w1.heap.size := blk_lt HAT.out
        go_wp2_with (first | (refine wpList_val rfl (exec_mk1E (E := rKind.E) (a := p') rfl rfl rfl (by decide)) ?_) | (at_builtin; refine wpList_appE_own rKind.E rfl _ _ rfl w.heap.size _ _ _ _ ps [p'] _ rfl rfl HR.out HNEW.out HSZ.out HPS.out ?_) | fail)
        intro v' w3 hm3 hg3 ho3
        have hxv : v'.ownBlock ≠ some w.heap.size := fun e => by
          rcases ho3 _ e with e' | e'
          · exact HM.out.row.not_at HM.out.at_ rKind.ne e'
          · omega
        have HNX := Lib.hid (HM.out.next (fun _ _ => rfl) HB1.out HF1.out (d := newD k) HD1.out hm3 hg3 ho3)
        have hvx : (Value.slice AS ps.length cS).ownBlock ≠ some w.heap.size := HM.out.row.not_at HM.out.at_ rKind.ne
        have hat3 : w3.heap[w.heap.size]? = some _ := (hg3.block w.heap.size (by rw [World.size_alloc]; omega) (fun e => hvx e.symm)).trans (blk_past HAT.out _)
        obtain ⟨AV, cV, rfl, _, _⟩ := hm3.form
        obtain ⟨d0, d1, d2, d3⟩ := r4cells hat3
        have f0 := frozen_of_row w3 w.heap.size 0 _ _ hat3
        clear hm3 hg3 ho3 hat3 c0 c1 c2 c3
        go_wp2_with fail
        go_roundw
        case rel =>
          refine ⟨j + 1, .slice AV (ps.length + 1) cV, upF Fs (List.map newD (List.take j ks)).length F', ps ++ [p'], by omega, by go_num, ?_, fun q hq => ?_⟩
          · rw [take_map_succ (by have := HLEN.out; omega), HZ.out]
            have h6 := HNX.out
            rw [show (ps ++ [p']).length = ps.length + 1 from by simp] at h6
            exact h6
          · by_cases e : q = j
            · subst e; rw [HZ.out]; omega
            · exact HALL.out q (by omega)
        case measure => simp [intOf]; omega
      · have HB := Lib.hid HM.out.below
        have HN := Lib.hid (show ¬ newOk ks from fun h => hok (by have := h.2.2 z (by rw [← HZ.out]; exact getD_mem (by have := HLEN.out; omega)); exact this))
        go_wp2_with fail
        refine (r_new_no z wr hok).mono ?_
        rintro e w1 ⟨rfl, rfl⟩
        have HB1 := Lib.hid HB.out
        clear hok
        go_wp2_with fail
        go_ret2
        exact NewPost.no HB1.out HN.out rfl
    · have hjn : j = n := by omega
      subst hjn
      have hlj : ¬((j : Int) < (j : Int)) := by omega
      have HM := Lib.hid hmk
      clear hmk
      go_wp2_with fail
      go_ret2
      have h5 := HM.out
      have hLL := HLEN.out
      rw [← hLL, List.take_length] at h5
      obtain ⟨g1, g2, g3⟩ := h5.done (by rw [List.length_map]; omega) (by rw [List.length_map]; omega)
      refine ⟨g3, .inl ⟨⟨by omega, by omega, fun k hk => ?_⟩, _, _, _, _, rfl, g1, g2⟩⟩
      obtain ⟨i, hi, rfl⟩ := List.getElem_of_mem hk
      have := HALL.out i (by omega)
      rwa [List.getD_eq_getElem?_getD, List.getElem?_eq_getElem hi] at this
end

def rIds : BIds where
  read := 38
  write := 37
  flush := 39
  fail := 40
  insert := 41
  arm := 42
  crash := 43
  sure := 44
  rot := 45
  devices := 49
  sectors := 52
  dead := 53
  dark := 50
  steps := 51
/-- The document's bench, with its devices' lengths as a bench's may be. -/
def RB (w : World) (F : Nat → Prop) (p : Nat) (M : BenS) : Prop := InB rKind w F p M ∧ M.Wf
theorem lens_put {M : BenS} {k : Nat} {d : DevS} (h : M.Wf) (hd : d.S.length = (M.ds.getD k dev0).S.length) : (M.put k d).Wf := by
  refine ⟨by rw [M.put_len]; exact h.one, by rw [M.put_len]; exact h.cap, fun i hi => ?_⟩
  rw [M.put_len] at hi
  show 1 ≤ ((M.ds.set k d).getD i dev0).S.length ∧ ((M.ds.set k d).getD i dev0).S.length ≤ 512
  by_cases e : i = k
  · subst e; rw [getD_set_at hi, hd]; exact h.len i hi
  · rw [getD_set_off e]; exact h.len i hi
theorem wf_done {M : BenS} (h : M.Wf) : M.done.Wf := ⟨h.one, h.cap, h.len⟩
theorem wf_night {M : BenS} (h : M.Wf) : M.night.Wf := ⟨h.one, h.cap, h.len⟩
theorem wf_wr {M : BenS} (h : M.Wf) (d n : Int) (b : Blk) : (wrS6 M d n b).Wf := by
  unfold wrS6
  split
  · split
    · exact wf_night h
    · exact lens_put (wf_done h) rfl
  · exact h
theorem wf_fl {M : BenS} (h : M.Wf) (d : Int) : (flS6 M d).Wf := by
  unfold flS6
  split
  · split
    · exact wf_night h
    · exact lens_put (wf_done h) (by rw [flS_len]; rfl)
  · exact h
theorem wf_fa {M : BenS} (h : M.Wf) (d : Int) : (faS6 M d).Wf := by
  unfold faS6
  split
  · exact lens_put h rfl
  · exact h
theorem wf_in {M : BenS} (h : M.Wf) (d : Int) : (inS6 M d).Wf := by
  unfold inS6
  split
  · exact lens_put h (by rw [List.length_replicate]; rfl)
  · exact h
theorem wf_ar {M : BenS} (h : M.Wf) (n : Int) : (arS6 M n).Wf := by
  unfold arS6
  split
  · exact ⟨h.one, h.cap, h.len⟩
  · exact h
theorem wf_ro {M : BenS} (h : M.Wf) (d n i : Int) (u : UInt8) : (roS6 M d n i u).Wf := by
  unfold roS6
  split
  · exact lens_put h (by rw [rotS_len]; rfl)
  · exact h
theorem crAll_at : ∀ (ds : List DevS) (P : List Int) (i : Nat), ((crAll ds P).getD i dev0).S.length = (ds.getD i dev0).S.length
  | [], P, i => rfl
  | d :: ds, P, 0 => crI_len _ _ _ _
  | d :: ds, P, i + 1 => crAll_at ds _ i
theorem crAll_len (ds : List DevS) (P : List Int) : (crAll ds P).length = ds.length := by rw [← crIn_all, crIn_len]
theorem wf_cr {M : BenS} (h : M.Wf) (P : List Int) : (crS6 M P).Wf := by
  refine ⟨by show 1 ≤ (crAll M.ds P).length; rw [crAll_len]; exact h.one, by show (crAll M.ds P).length ≤ 17; rw [crAll_len]; exact h.cap, fun i hi => ?_⟩
  have hi' : i < M.ds.length := by have : i < (crAll M.ds P).length := hi; rwa [crAll_len] at this
  show 1 ≤ ((crAll M.ds P).getD i dev0).S.length ∧ ((crAll M.ds P).getD i dev0).S.length ≤ 512
  rw [crAll_at]
  exact h.len i hi'
theorem wf_new {ks : List Int} (h : newOk ks) : (newS6 ks).Wf := by
  refine ⟨by rw [newS6_ds, List.length_map]; exact h.1, by rw [newS6_ds, List.length_map]; exact h.2.1, fun i hi => ?_⟩
  rw [newS6_ds, List.length_map] at hi
  have : ((newS6 ks).ds.getD i dev0) = newD (ks.getD i 0) := by
    rw [newS6_ds, List.getD, List.getD, List.getElem?_map, List.getElem?_eq_getElem hi]; rfl
  rw [this]
  have h2 := h.2.2 _ (getD_mem (x := 0) hi)
  show 1 ≤ (List.replicate _ _).length ∧ (List.replicate _ _).length ≤ 512
  rw [List.length_replicate]
  omega
def rBen : Ben rIds where
  Bn := RB
  lt := fun h => h.1.lt
  only := fun h ho hn => ⟨h.1.only ho hn, h.2⟩
  wf := fun h => h.2
  read := fun d n ⟨⟨_, _, _, _, h⟩, _⟩ => c_read d n h
  sure := fun d n ⟨⟨_, _, _, _, h⟩, _⟩ => c_sure d n h
  write := fun d n b hr ⟨⟨_, _, _, e, h⟩, hw⟩ => by
    subst e
    exact (c_write d n b h (fun i hi => hr.at_ hi) (by have := hr.1; omega) hr.2.1).mono fun e w' ⟨h1, h2⟩ => ⟨h1, by obtain ⟨F', g1, g2⟩ := h2.out; exact ⟨F', ⟨g1, wf_wr hw _ _ _⟩, g2⟩⟩
  flush := fun d hr ⟨⟨_, _, _, e, h⟩, hw⟩ => by
    subst e
    exact (c_flush d h (by have := hr.1; omega) hr.2.1).mono fun e w' ⟨h1, h2⟩ => ⟨h1, by obtain ⟨F', g1, g2⟩ := h2.out; exact ⟨F', ⟨g1, wf_fl hw _⟩, g2⟩⟩
  fail := fun d ⟨⟨_, _, _, e, h⟩, hw⟩ => by
    subst e
    exact (c_fail d h).mono fun e w' ⟨h1, h2⟩ => ⟨h1, by obtain ⟨F', g1, g2⟩ := h2.out; exact ⟨F', ⟨g1, wf_fa hw _⟩, g2⟩⟩
  insert := fun d ⟨⟨_, _, _, e, h⟩, hw⟩ => by
    subst e
    exact (c_insert d h hw.len).mono fun e w' ⟨h1, h2⟩ => ⟨h1, by obtain ⟨F', g1, g2⟩ := h2.out; exact ⟨F', ⟨g1, wf_in hw _⟩, g2⟩⟩
  arm := fun {w F p M} n ⟨⟨_, _, _, e, h⟩, hw⟩ => by
    subst e
    exact (c_arm n h).mono fun e w' ⟨h1, h2, h3⟩ => ⟨h1, by obtain ⟨F', g1, g2⟩ := (Left.obj h2 h3 (n := M.ds.length) (by unfold arS6; split <;> rfl)).out; exact ⟨F', ⟨g1, wf_ar hw _⟩, g2⟩⟩
  crash := fun hP ⟨⟨_, _, _, e, h⟩, hw⟩ => by
    subst e
    exact (c_crash h hP).mono fun e w' ⟨h1, h2⟩ => ⟨h1, by obtain ⟨F', g1, g2⟩ := h2.out; exact ⟨F', ⟨g1, wf_cr hw _⟩, g2⟩⟩
  rot := fun d n i u ⟨⟨_, _, _, e, h⟩, hw⟩ => by
    subst e
    exact (c_rot d n i u h).mono fun e w' ⟨h1, h2⟩ => ⟨h1, by obtain ⟨F', g1, g2⟩ := h2.out; exact ⟨F', ⟨g1, wf_ro hw _ _ _ _⟩, g2⟩⟩
  devices := fun ⟨⟨_, _, _, _, h⟩, _⟩ => (c_devices h).mono fun e w' ⟨h1, h2⟩ => ⟨h1, by subst h2; exact Below.refl _ _⟩
  sectors := fun d ⟨⟨_, _, _, _, h⟩, _⟩ => (c_sectors d h).mono fun e w' ⟨h1, h2⟩ => ⟨h1, by subst h2; exact Below.refl _ _⟩
  dead := fun d ⟨⟨_, _, _, _, h⟩, _⟩ => (c_dead d h).mono fun e w' ⟨h1, h2⟩ => ⟨h1, by subst h2; exact Below.refl _ _⟩
  dark := fun ⟨⟨_, _, _, _, h⟩, _⟩ => (c_dark h).mono fun e w' ⟨h1, h2⟩ => ⟨h1, by subst h2; exact Below.refl _ _⟩
  steps := fun ⟨⟨_, _, _, _, h⟩, _⟩ => (c_steps h).mono fun e w' ⟨h1, h2⟩ => ⟨h1, by subst h2; exact Below.refl _ _⟩
/-- The document's bench, with New. -/
structure BenR extends Ben rIds where
  new : ∀ {w A n c ks}, RdE IntE w w.heap.size A n ks → n ≤ c → c ≤ maxLen → Calls Try.prog 9 #[.slice A n c] w (NewB Bn w ks)
def refBen : BenR where
  toBen := rBen
  new := fun h1 h2 h3 => (c_new h1 h2 h3).mono fun e w' h => by
    obtain ⟨g1, g | g⟩ := h
    · obtain ⟨g0, p, v, Fs, ps, g2, g3, g4⟩ := g
      exact ⟨g1, .inl ⟨g0, p, _, g2, ⟨⟨v, Fs, ps, rfl, g3⟩, wf_new g0⟩, g4⟩⟩
    · exact ⟨g1, .inr g⟩
end Go.Proofs.Ytpcdcnnnkblhiaa
