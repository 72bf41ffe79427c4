/-
  The program's bench: its kind; Devices, made, device, Dark, lit, Steps.
  The program's bench: Sectors, Dead, Read, Sure, Rot, Fail, Arm, step.
  The program's bench: Read, Sure, Flush, Insert.
  The program's bench: Insert, Write.
  The program's bench: Write, where there is a device and power; slices.Clone of devices.
  The program's bench: Crash.
  The program's bench: New, Copy.
  The program's bench: Copy.
  The program's bench as what the laws lean on.
-/
import Derived.Test.YtpcdcnnnkblhiaaME
import Derived.Test.YtpcdcnnnkblhiaaMG
namespace Go.Proofs.Ytpcdcnnnkblhiaa
open Go.RowKit
set_option linter.unusedVariables false
set_option maxRecDepth 100000

def Dev.K (D : Dev) : DvK := ⟨D.Dv, D.lt, D.only⟩
def pKind (D : Dev) : BKind where
  K := D.K
  s := 49
  t := 50
  und := Try.underlying49
  info := by kernel_rfl
  o := 67
  cs := fun v left dark steps => #[v, .int .i64 steps, .int .i64 left, .bool dark]
  ne := by decide
section
variable {D : Dev} {w w' : World} {p : Nat} {v : Value} {Fs : Nat → Nat → Prop} {ps : List Nat} {M : BenS}
theorem BenAt.pcells (h : BenAt (pKind D) w p v Fs ps M) : w.cell? ⟨p, 0, none⟩ = some v ∧ w.cell? ⟨p, 1, none⟩ = some (.int .i64 M.steps) ∧ w.cell? ⟨p, 2, none⟩ = some (.int .i64 M.left) ∧ w.cell? ⟨p, 3, none⟩ = some (.bool M.dark) := cells4 h.at_
theorem b_devices (h : BenAt (pKind D) w p v Fs ps M) :
    Calls Try.prog 35 #[.pointer (some ⟨p, 0, none⟩)] w fun e w' => e = .returned (.int .i64 (M.ds.length : Int)) ∧ w = w' := by
  obtain ⟨g, c, rfl, _, _⟩ := h.slice
  obtain ⟨c0, c1, c2, c3⟩ := h.pcells
  go_enter Try.func35, Try.ntmps35
  go_wp2
  go_ret
  exact ⟨rfl, rfl⟩
theorem b_made (h : BenAt (pKind D) w p v Fs ps M) :
    Calls Try.prog 46 #[.pointer (some ⟨p, 0, none⟩)] w fun e w' => e = .returned (.bool true) ∧ w = w' := by
  have h1 : 0 < M.ds.length := h.one
  go_enter Try.func46, Try.ntmps46
  go_wp2_with fail
  refine (b_devices h).mono ?_
  rintro e w1 ⟨rfl, rfl⟩
  go_wp2_with fail
  go_ret
  exact ⟨rfl, rfl⟩
theorem b_dark (h : BenAt (pKind D) w p v Fs ps M) :
    Calls Try.prog 20 #[.pointer (some ⟨p, 0, none⟩)] w fun e w' => e = .returned (.bool M.dark) ∧ w = w' := by
  obtain ⟨c0, c1, c2, c3⟩ := h.pcells
  go_enter Try.func20, Try.ntmps20
  go_wp2
  go_ret
  exact ⟨rfl, rfl⟩
theorem b_steps (h : BenAt (pKind D) w p v Fs ps M) :
    Calls Try.prog 21 #[.pointer (some ⟨p, 0, none⟩)] w fun e w' => e = .returned (.int .i64 (M.steps : Int)) ∧ w = w' := by
  obtain ⟨c0, c1, c2, c3⟩ := h.pcells
  go_enter Try.func21, Try.ntmps21
  go_wp2
  go_ret
  exact ⟨rfl, rfl⟩
theorem b_device_no (h : BenAt (pKind D) w p v Fs ps M) {d : Int} (hd : ¬(0 ≤ d ∧ d < M.ds.length)) :
    Calls Try.prog 54 #[.pointer (some ⟨p, 0, none⟩), .int .i64 d] w fun e w' => e = .returned (.tuple #[.pointer none, .int .i64 2]) ∧ w = w' := by
  have hm := Lib.hid (b_made h)
  obtain ⟨g, c, rfl, _, _⟩ := h.slice
  obtain ⟨c0, c1, c2, c3⟩ := h.pcells
  clear h
  by_cases h0 : d < 0
  · clear hd
    go_enter Try.func54, Try.ntmps54
    go_wp2_with fail
    refine hm.out.mono ?_
    rintro e w1 ⟨rfl, rfl⟩
    go_wp2_with fail
    go_ret2
    exact ⟨rfl, rfl⟩
  · have h1 : ¬(d < (M.ds.length : Int)) := by omega
    clear hd
    go_enter Try.func54, Try.ntmps54
    go_wp2_with fail
    refine hm.out.mono ?_
    rintro e w1 ⟨rfl, rfl⟩
    go_wp2_with fail
    go_ret2
    exact ⟨rfl, rfl⟩
theorem b_device_ok (h : BenAt (pKind D) w p v Fs ps M) {k : Nat} (hk : k < M.ds.length) :
    Calls Try.prog 54 #[.pointer (some ⟨p, 0, none⟩), .int .i64 k] w fun e w' => e = .returned (.tuple #[.pointer (some ⟨ps.getD k 0, 0, none⟩), .int .i64 0]) ∧ w = w' := by
  have hm := Lib.hid (b_made h)
  obtain ⟨g, c, rfl, _, _⟩ := h.slice
  obtain ⟨c0, c1, c2, c3⟩ := h.pcells
  have hc := h.cell hk
  generalize ps.getD k 0 = q at *
  clear h
  go_enter Try.func54, Try.ntmps54
  go_wp2_with fail
  refine hm.out.mono ?_
  rintro e w1 ⟨rfl, rfl⟩
  go_wp2_with fail
  go_ret2
  exact ⟨rfl, rfl⟩
theorem b_lit_no (h : BenAt (pKind D) w p v Fs ps M) {d : Int} (hd : litE M d ≠ 0) :
    Calls Try.prog 55 #[.pointer (some ⟨p, 0, none⟩), .int .i64 d] w fun e w' => e = .returned (.tuple #[.pointer none, .int .i64 (litE M d)]) ∧ w = w' := by
  have hm := Lib.hid (b_dark h)
  rcases litE_is M d with ⟨e, hdk⟩ | ⟨e, hdk, ho⟩ | ⟨e, _⟩
  · rw [e]
    have HD := Lib.hid hdk
    clear e hdk hd h
    go_enter Try.func55, Try.ntmps55
    go_wp2_with fail
    refine hm.out.mono ?_
    rintro e w1 ⟨rfl, rfl⟩
    rw [HD.out]
    go_wp2_with fail
    go_ret2
    exact ⟨rfl, rfl⟩
  · rw [e]
    have HD := Lib.hid hdk
    have HO := Lib.hid (b_device_no h ho)
    clear e hdk hd h ho
    go_enter Try.func55, Try.ntmps55
    go_wp2_with fail
    refine hm.out.mono ?_
    rintro e w1 ⟨rfl, rfl⟩
    rw [HD.out]
    go_wp2_with fail
    refine HO.out.mono ?_
    rintro e w1 ⟨rfl, rfl⟩
    go_wp2_with fail
    go_ret2
    exact ⟨rfl, rfl⟩
  · exact absurd e hd
theorem b_lit_ok (h : BenAt (pKind D) w p v Fs ps M) {k : Nat} (hdk : M.dark = false) (hk : k < M.ds.length) :
    Calls Try.prog 55 #[.pointer (some ⟨p, 0, none⟩), .int .i64 k] w fun e w' => e = .returned (.tuple #[.pointer (some ⟨ps.getD k 0, 0, none⟩), .int .i64 0]) ∧ w = w' := by
  have hm := Lib.hid (b_dark h)
  have HD := Lib.hid hdk
  have HO := Lib.hid (b_device_ok h hk)
  clear hdk h
  generalize ps.getD k 0 = q at *
  go_enter Try.func55, Try.ntmps55
  go_wp2_with fail
  refine hm.out.mono ?_
  rintro e w1 ⟨rfl, rfl⟩
  rw [HD.out]
  go_wp2_with fail
  refine HO.out.mono ?_
  rintro e w1 ⟨rfl, rfl⟩
  go_wp2_with fail
  go_ret2
  exact ⟨rfl, rfl⟩
end
end Go.Proofs.Ytpcdcnnnkblhiaa
namespace Go.Proofs.Ytpcdcnnnkblhiaa
open Go.RowKit
set_option linter.unusedVariables false
set_option maxRecDepth 100000

section
variable {D : Dev} {w w' : World} {p : Nat} {v : Value} {Fs : Nat → Nat → Prop} {ps : List Nat} {M : BenS}
theorem b_sectors (d : Int) (h : BenAt (pKind D) w p v Fs ps M) :
    Calls Try.prog 33 #[.pointer (some ⟨p, 0, none⟩), .int .i64 d] w fun e w' => e = .returned (.int .i64 (seN6 M d)) ∧ Below w.heap.size w w' := by
  rcases hasE_is M d with ⟨e, ho⟩ | ⟨e, k, rfl, hk⟩
  · have HS : Hid (seN6 M d = 0) := Lib.hid (by unfold seN6; rw [if_neg (by omega)])
    have HO := Lib.hid (b_device_no h ho)
    clear e h ho
    go_enter Try.func33, Try.ntmps33
    go_wp2_with fail
    refine HO.out.mono ?_
    rintro e w1 ⟨rfl, rfl⟩
    go_wp2_with fail
    refine (n_sectors (.inl rfl)).mono ?_
    rintro e w2 ⟨rfl, hb⟩
    go_wp2_with fail
    go_ret
    exact ⟨ret_int HS.out.symm, hb⟩
  · obtain ⟨x, hx⟩ : ∃ x, M.ds.getD k dev0 = x := ⟨_, rfl⟩
    have hat := h.devs.at_ k hk
    rw [hx] at hat
    have HS : Hid (seN6 M (k : Int) = (x.S.length : Int)) := Lib.hid (by unfold seN6; rw [if_pos e, M.dev_nat, hx])
    have HO := Lib.hid (b_device_ok h hk)
    have HD := Lib.hid (D.sectors hat)
    clear e h hat hx
    generalize ps.getD k 0 = q at *
    go_enter Try.func33, Try.ntmps33
    go_wp2_with fail
    refine HO.out.mono ?_
    rintro e w1 ⟨rfl, rfl⟩
    go_wp2_with fail
    refine HD.out.mono ?_
    rintro e w2 ⟨rfl, hb⟩
    go_wp2_with fail
    go_ret
    exact ⟨ret_int HS.out.symm, hb⟩
theorem b_dead (d : Int) (h : BenAt (pKind D) w p v Fs ps M) :
    Calls Try.prog 32 #[.pointer (some ⟨p, 0, none⟩), .int .i64 d] w fun e w' => e = .returned (.bool (deG6 M d)) ∧ Below w.heap.size w w' := by
  rcases hasE_is M d with ⟨e, ho⟩ | ⟨e, k, rfl, hk⟩
  · have HS : Hid (deG6 M d = false) := Lib.hid (by unfold deG6; rw [if_neg (by omega)])
    have HO := Lib.hid (b_device_no h ho)
    clear e h ho
    go_enter Try.func32, Try.ntmps32
    go_wp2_with fail
    refine HO.out.mono ?_
    rintro e w1 ⟨rfl, rfl⟩
    go_wp2_with fail
    refine (n_dead (.inl rfl)).mono ?_
    rintro e w2 ⟨rfl, hb⟩
    go_wp2_with fail
    go_ret
    exact ⟨ret_bool HS.out.symm, hb⟩
  · obtain ⟨x, hx⟩ : ∃ x, M.ds.getD k dev0 = x := ⟨_, rfl⟩
    have hat := h.devs.at_ k hk
    rw [hx] at hat
    have HS : Hid (deG6 M (k : Int) = x.g) := Lib.hid (by unfold deG6; rw [if_pos e, M.dev_nat, hx])
    have HO := Lib.hid (b_device_ok h hk)
    have HD := Lib.hid (D.dead hat)
    clear e h hat hx
    generalize ps.getD k 0 = q at *
    go_enter Try.func32, Try.ntmps32
    go_wp2_with fail
    refine HO.out.mono ?_
    rintro e w1 ⟨rfl, rfl⟩
    go_wp2_with fail
    refine HD.out.mono ?_
    rintro e w2 ⟨rfl, hb⟩
    go_wp2_with fail
    go_ret
    exact ⟨ret_bool HS.out.symm, hb⟩
theorem b_arm (n : Int) (h : BenAt (pKind D) w p v Fs ps M) :
    Calls Try.prog 17 #[.pointer (some ⟨p, 0, none⟩), .int .i64 n] w fun e w' => e = .returned (.int .i64 (arE6 M n)) ∧ BenAt (pKind D) w' p v Fs ps (arS6 M n) ∧ Only (fun b => b = p) w w' := by
  have hm := Lib.hid (b_made h)
  obtain ⟨c0, c1, c2, c3⟩ := h.pcells
  have f2 := frozen_of_row w p 2 _ _ h.at_
  have HH := Lib.hid h
  cases hdk : M.dark
  · by_cases hn : n < 0
    · have HE : Hid (arE6 M n = 2) := Lib.hid (by unfold arE6; rw [if_neg (by rw [hdk]; decide), if_pos hn])
      have HS : Hid (arS6 M n = M) := Lib.hid (by unfold arS6; rw [HE.out, if_neg (by decide)])
      rw [hdk] at c3
      clear h hdk
      go_enter Try.func17, Try.ntmps17
      go_wp2_with fail
      refine hm.out.mono ?_
      rintro e w1 ⟨rfl, rfl⟩
      go_wp2_with fail
      go_ret
      exact ⟨ret_int HE.out.symm, by rw [HS.out]; exact HH.out, Only.refl _ _⟩
    · have HE : Hid (arE6 M n = 0) := Lib.hid (by unfold arE6; rw [if_neg (by rw [hdk]; decide), if_neg hn])
      have HS : Hid (arS6 M n = ⟨M.ds, n.toNat, M.dark, M.steps⟩) := Lib.hid (by unfold arS6; rw [HE.out, if_pos rfl])
      have HN : Hid (((n.toNat : Nat) : Int) = n) := Lib.hid (by omega)
      have HC : Hid (M.dark = false) := Lib.hid hdk
      rw [hdk] at c3
      clear h hdk
      go_enter Try.func17, Try.ntmps17
      go_wp2_with fail
      refine hm.out.mono ?_
      rintro e w1 ⟨rfl, rfl⟩
      go_wp2_with fail
      go_ret
      have ho := only_set w p 2 (.int .i64 n)
      refine ⟨ret_int HE.out.symm, ?_, ho⟩
      rw [HS.out]
      refine HH.out.obj _ _ _ ho ?_
      have := heap_setCell_same w p 2 _ _ (.int .i64 n) HH.out.at_
      simpa [pKind, HN.out] using this
  · have HE : Hid (arE6 M n = 8) := Lib.hid (by unfold arE6; rw [if_pos hdk])
    have HS : Hid (arS6 M n = M) := Lib.hid (by unfold arS6; rw [HE.out, if_neg (by decide)])
    rw [hdk] at c3
    clear h hdk
    go_enter Try.func17, Try.ntmps17
    go_wp2_with fail
    refine hm.out.mono ?_
    rintro e w1 ⟨rfl, rfl⟩
    go_wp2_with fail
    go_ret
    exact ⟨ret_int HE.out.symm, by rw [HS.out]; exact HH.out, Only.refl _ _⟩
theorem b_fail (d : Int) (h : BenAt (pKind D) w p v Fs ps M) :
    Calls Try.prog 15 #[.pointer (some ⟨p, 0, none⟩), .int .i64 d] w fun e w' => e = .returned (.int .i64 (hasE M d)) ∧ Left (pKind D) w p v Fs ps M.ds.length (faS6 M d) w' := by
  rcases hasE_is M d with ⟨e, ho⟩ | ⟨e, k, rfl, hk⟩
  · have HL := Lib.hid (Left.same h (M' := faS6 M d) (by unfold faS6; rw [if_neg (by omega)]))
    have HO := Lib.hid (b_device_no h ho)
    have HE := Lib.hid e
    clear e h ho
    go_enter Try.func15, Try.ntmps15
    go_wp2_with fail
    refine HO.out.mono ?_
    rintro e w1 ⟨rfl, rfl⟩
    go_wp2_with fail
    go_ret
    exact ⟨ret_int HE.out.symm, HL.out⟩
  · obtain ⟨x, hx⟩ : ∃ x, M.ds.getD k dev0 = x := ⟨_, rfl⟩
    have hat := h.devs.at_ k hk
    rw [hx] at hat
    have HS : Hid (faS6 M (k : Int) = M.put k ⟨x.S, [], true⟩) := Lib.hid (by unfold faS6; rw [if_pos e, ← hx]; rfl)
    have HO := Lib.hid (b_device_ok h hk)
    have HD := Lib.hid (D.fail hat)
    have HE := Lib.hid e
    have HH := Lib.hid h
    clear e h hat hx
    go_enter Try.func15, Try.ntmps15
    go_wp2_with fail
    refine HO.out.mono ?_
    rintro e w1 ⟨rfl, rfl⟩
    go_wp2_with fail
    refine HD.out.mono ?_
    rintro e w2 ⟨rfl, F', h1, h2, h3⟩
    go_wp2_with fail
    go_ret
    exact ⟨ret_int HE.out.symm, Left.turn HH.out hk h2 h3 (d := ⟨x.S, [], true⟩) h1 HS.out⟩
theorem b_rot (d n i : Int) (u : UInt8) (h : BenAt (pKind D) w p v Fs ps M) :
    Calls Try.prog 27 #[.pointer (some ⟨p, 0, none⟩), .int .i64 d, .int .i64 n, .int .i64 i, .int .u8 (u.toNat : Int)] w fun e w' => e = .returned (.int .i64 (roE6 M d n i)) ∧ Left (pKind D) w p v Fs ps M.ds.length (roS6 M d n i u) w' := by
  rcases hasE_is M d with ⟨e, ho⟩ | ⟨e, k, rfl, hk⟩
  · have HL := Lib.hid (Left.same h (M' := roS6 M d n i u) (by unfold roS6; rw [if_neg (by omega)]))
    have HO := Lib.hid (b_device_no h ho)
    have HE : Hid (roE6 M d n i = 2) := Lib.hid (by unfold roE6; rw [if_neg (by omega), e])
    clear e h ho
    go_enter Try.func27, Try.ntmps27
    go_wp2_with fail
    refine HO.out.mono ?_
    rintro e w1 ⟨rfl, rfl⟩
    go_wp2_with fail
    go_ret
    exact ⟨ret_int HE.out.symm, HL.out⟩
  · obtain ⟨x, hx⟩ : ∃ x, M.ds.getD k dev0 = x := ⟨_, rfl⟩
    have hat := h.devs.at_ k hk
    rw [hx] at hat
    have HS : Hid (roS6 M (k : Int) n i u = M.put k ⟨rotS x.S x.g n i u, x.L, x.g⟩) := Lib.hid (by unfold roS6; rw [if_pos e, ← hx]; rfl)
    have HO := Lib.hid (b_device_ok h hk)
    have HD := Lib.hid (D.rot n i u hat)
    have HE : Hid (roE6 M (k : Int) n i = rotE x.S x.g n i) := Lib.hid (by unfold roE6; rw [if_pos e, ← hx]; rfl)
    have HH := Lib.hid h
    clear e h hat hx
    go_enter Try.func27, Try.ntmps27
    go_wp2_with fail
    refine HO.out.mono ?_
    rintro e w1 ⟨rfl, rfl⟩
    go_wp2_with fail
    refine HD.out.mono ?_
    rintro e w2 ⟨rfl, F', h1, h2, h3⟩
    go_wp2_with fail
    go_ret
    exact ⟨ret_int HE.out.symm, Left.turn HH.out hk h2 h3 (d := ⟨rotS x.S x.g n i u, x.L, x.g⟩) h1 HS.out⟩
theorem b_step_cut (f : Value) (h : BenAt (pKind D) w p v Fs ps M) (hl : M.left = 1) :
    Calls Try.prog 57 #[.pointer (some ⟨p, 0, none⟩), f] w fun e w' => e = .returned (.int .i64 8) ∧ BenAt (pKind D) w' p v Fs ps M.night ∧ Only (fun b => b = p) w w' := by
  obtain ⟨c0, c1, c2, c3⟩ := h.pcells
  have f3 := frozen_of_row w p 3 _ _ h.at_
  rw [hl] at c2
  have HH := Lib.hid h
  have HL := Lib.hid hl
  clear h hl
  go_enter Try.func57, Try.ntmps57
  go_wp2_with fail
  go_ret
  have ho := only_set w p 3 (.bool true)
  refine ⟨rfl, HH.out.obj _ _ _ ho ?_, ho⟩
  have := heap_setCell_same w p 3 _ _ (.bool true) HH.out.at_
  simpa [pKind] using this
theorem step_obj (h : BenAt (pKind D) w p v Fs ps M) (h2 : 1 < M.left) : BenAt (pKind D) ((w.setCell ⟨p, 2, none⟩ (.int .i64 ((M.left : Int) - 1))).setCell ⟨p, 1, none⟩ (.int .i64 ((M.steps : Int) + 1))) p v Fs ps M.done ∧ Only (fun b => b = p) w ((w.setCell ⟨p, 2, none⟩ (.int .i64 ((M.left : Int) - 1))).setCell ⟨p, 1, none⟩ (.int .i64 ((M.steps : Int) + 1))) := by
  have ho := (only_set w p 2 (.int .i64 ((M.left : Int) - 1))).setCell (p := ⟨p, 1, none⟩) (.inl rfl) (.int .i64 ((M.steps : Int) + 1))
  refine ⟨h.obj _ _ _ ho ?_, ho⟩
  have h3 := heap_setCell_same _ p 1 _ _ (.int .i64 ((M.steps : Int) + 1)) (heap_setCell_same w p 2 _ _ (.int .i64 ((M.left : Int) - 1)) h.at_)
  have e : ((M.left - 1 : Nat) : Int) = (M.left : Int) - 1 := by omega
  simpa [pKind, e] using h3
theorem step_obj0 (h : BenAt (pKind D) w p v Fs ps M) (h2 : M.left = 0) : BenAt (pKind D) (w.setCell ⟨p, 1, none⟩ (.int .i64 ((M.steps : Int) + 1))) p v Fs ps M.done ∧ Only (fun b => b = p) w (w.setCell ⟨p, 1, none⟩ (.int .i64 ((M.steps : Int) + 1))) := by
  have ho := only_set w p 1 (.int .i64 ((M.steps : Int) + 1))
  refine ⟨h.obj _ _ _ ho ?_, ho⟩
  have h3 := heap_setCell_same w p 1 _ _ (.int .i64 ((M.steps : Int) + 1)) h.at_
  simpa [pKind, h2] using h3
/-- A step that is done: what is handed in is called, with the step counted. -/
theorem b_step_do (fid : FuncId) (bs cs : Array Value) (h : BenAt (pKind D) w p v Fs ps M) (hl : M.left ≠ 1) (hs : M.steps < 1000000) (hll : M.left < 9223372036854775808) (hf : ∀ (args : Array Value) (w : World), (callFunc fid args).run Try.prog w = .ok (.enter fid args) w) (Q : Int → World → Prop)
    (hdo : ∀ w1, BenAt (pKind D) w1 p v Fs ps M.done → Only (fun b => b = p) w w1 → Calls Try.prog fid (bs ++ cs) w1 fun e w2 => ∃ x, e = .returned (.int .i64 x) ∧ Q x w2) :
    Calls Try.prog 57 #[.pointer (some ⟨p, 0, none⟩), .func (.func fid) bs cs] w fun e w2 => ∃ x, e = .returned (.int .i64 x) ∧ Q x w2 := by
  obtain ⟨c0, c1, c2, c3⟩ := h.pcells
  have f2 := frozen_of_row w p 2 _ _ h.at_
  have f1 := frozen_of_row w p 1 _ _ h.at_
  have HH := Lib.hid h
  clear h
  have hl1 : ((M.left : Int) == 1) = false := by simpa using (by omega : ¬ (M.left : Int) = 1)
  by_cases h2 : 1 < M.left
  · have HT := Lib.hid (step_obj HH.out h2)
    go_enter Try.func57, Try.ntmps57
    go_wp2_with fail
    refine (hdo _ HT.out.1 HT.out.2).mono ?_
    rintro e w3 ⟨x, rfl, hq⟩
    go_wp2_with fail
    go_ret
    exact ⟨x, rfl, hq⟩
  · have hl0 : M.left = 0 := by omega
    have HT := Lib.hid (step_obj0 HH.out hl0)
    rw [hl0] at c2
    clear hl1 hl hll h2 hl0
    go_enter Try.func57, Try.ntmps57
    go_wp2_with fail
    refine (hdo _ HT.out.1 HT.out.2).mono ?_
    rintro e w3 ⟨x, rfl, hq⟩
    go_wp2_with fail
    go_ret
    exact ⟨x, rfl, hq⟩
end
end Go.Proofs.Ytpcdcnnnkblhiaa
namespace Go.Proofs.Ytpcdcnnnkblhiaa
open Go.RowKit
set_option linter.unusedVariables false
set_option maxRecDepth 100000

section
variable {D : Dev} {w w' : World} {p : Nat} {v : Value} {Fs : Nat → Nat → Prop} {ps : List Nat} {M : BenS}
set_option maxHeartbeats 1000000 in
theorem b_read (d n : Int) (h : BenAt (pKind D) w p v Fs ps M) :
    Calls Try.prog 30 #[.pointer (some ⟨p, 0, none⟩), .int .i64 d, .int .i64 n] w fun e w' => e = .returned (.tuple #[blk (rdB6 M d n), .int .i64 (rdE6 M d n)]) ∧ Below w.heap.size w w' := by
  have hA := (Below.refl w.heap.size w).alloc (Nat.le_refl _) (.cells (cel zeroB).toArray 34)
  have h1 := h.below hA
  have HT := Lib.hid (there_new w zeroB 34)
  have HA := Lib.hid hA
  by_cases hl : litE M d = 0
  · rcases litE_is M d with ⟨e, _⟩ | ⟨e, _⟩ | ⟨e, hdk, k, rfl, hk⟩
    · omega
    · omega
    obtain ⟨x, hx⟩ : ∃ x, M.ds.getD k dev0 = x := ⟨_, rfl⟩
    have hat := h1.devs.at_ k hk
    rw [hx] at hat
    have HB : Hid (rdB6 M (k : Int) n = readB x.S x.L x.g n) := Lib.hid (by unfold rdB6; rw [if_pos e, ← hx]; rfl)
    have HE : Hid (rdE6 M (k : Int) n = askE x.S x.g n) := Lib.hid (by unfold rdE6; rw [if_pos e, ← hx]; rfl)
    have HO := Lib.hid (b_lit_ok h1 hdk hk)
    have HD := Lib.hid (D.read n hat)
    have HSZ := Lib.hid (World.size_alloc w (.cells (cel zeroB).toArray 34))
    clear e h h1 hat hx hdk hA hl
    rw [HB.out, HE.out]
    clear HB HE
    generalize readB x.S x.L x.g n = y at *
    generalize askE x.S x.g n = z at *
    generalize ps.getD k 0 = q at *
    go_enter Try.func30, Try.ntmps30
    go_wp2_with (first | (refine wpList_val rfl (exec_alloc rfl) ?_) | fail)
    refine HO.out.mono ?_
    rintro e w1 ⟨rfl, rfl⟩
    go_wp2_with fail
    refine HD.out.mono ?_
    rintro e w2 ⟨rfl, hb⟩
    have HT2 := Lib.hid (there_below HT.out (by rw [HSZ.out]; omega) hb)
    have HB2 := Lib.hid (HA.out.trans (hb.mono (by rw [HSZ.out]; omega)))
    clear hb
    go_wp2_with (first | (refine wpList_nul rfl (exec_store rfl rfl rfl HT2.out) ?_) | fail)
    exact bodyPost_ret (res_blk2 rfl _ _ _ rfl (World.rangeAt_setCells_same _ _ _ _ (by rw [cel_length]; exact HT2.out))) rfl ⟨rfl, below_setCells HB2.out (Nat.le_refl _) _⟩
  · have HB : Hid (rdB6 M d n = zeroB) := Lib.hid (by unfold rdB6; rw [if_neg hl])
    have HE : Hid (rdE6 M d n = litE M d) := Lib.hid (by unfold rdE6; rw [if_neg hl])
    have HO := Lib.hid (b_lit_no h1 hl)
    clear h h1 hA
    rw [HB.out, HE.out]
    rcases litE_is M d with ⟨e, _⟩ | ⟨e, _⟩ | ⟨e, _⟩
    rotate_right 1
    · exact absurd e hl
    all_goals
      rw [e] at HO ⊢
      clear e hl
      go_enter Try.func30, Try.ntmps30
      go_wp2_with (first | (refine wpList_val rfl (exec_alloc rfl) ?_) | fail)
      refine HO.out.mono ?_
      rintro e w1 ⟨rfl, rfl⟩
      go_wp2_with (first | (refine wpList_val rfl (exec_build (c := zeroB) (parts := []) rfl rfl) ?_) | (refine wpList_nul rfl (exec_store rfl rfl rfl HT.out) ?_))
      exact bodyPost_ret (res_blk2 rfl _ _ _ rfl (World.rangeAt_setCells_same _ _ _ _ (by rw [cel_length]; exact HT.out))) rfl ⟨rfl, below_setCells HA.out (Nat.le_refl _) _⟩
set_option maxHeartbeats 1000000 in
theorem b_sure (d n : Int) (h : BenAt (pKind D) w p v Fs ps M) :
    Calls Try.prog 34 #[.pointer (some ⟨p, 0, none⟩), .int .i64 d, .int .i64 n] w fun e w' => e = .returned (.tuple #[blk (suB6 M d n), .int .i64 (suE6 M d n)]) ∧ Below w.heap.size w w' := by
  have hA := (Below.refl w.heap.size w).alloc (Nat.le_refl _) (.cells (cel zeroB).toArray 34)
  have h1 := h.below hA
  have HT := Lib.hid (there_new w zeroB 34)
  have HA := Lib.hid hA
  rcases hasE_is M d with ⟨e, ho⟩ | ⟨e, k, rfl, hk⟩
  · have HB : Hid (suB6 M d n = zeroB) := Lib.hid (by unfold suB6; rw [if_neg (by omega)])
    have HE : Hid (suE6 M d n = 2) := Lib.hid (by unfold suE6; rw [if_neg (by omega), e])
    have HO := Lib.hid (b_device_no h1 ho)
    clear e h h1 ho hA
    rw [HB.out, HE.out]
    go_enter Try.func34, Try.ntmps34
    go_wp2_with (first | (refine wpList_val rfl (exec_alloc rfl) ?_) | fail)
    refine HO.out.mono ?_
    rintro e w1 ⟨rfl, rfl⟩
    go_wp2_with (first | (refine wpList_val rfl (exec_build (c := zeroB) (parts := []) rfl rfl) ?_) | (refine wpList_nul rfl (exec_store rfl rfl rfl HT.out) ?_))
    exact bodyPost_ret (res_blk2 rfl _ _ _ rfl (World.rangeAt_setCells_same _ _ _ _ (by rw [cel_length]; exact HT.out))) rfl ⟨rfl, below_setCells HA.out (Nat.le_refl _) _⟩
  · obtain ⟨x, hx⟩ : ∃ x, M.ds.getD k dev0 = x := ⟨_, rfl⟩
    have hat := h1.devs.at_ k hk
    rw [hx] at hat
    have HB : Hid (suB6 M (k : Int) n = sureB x.S x.g n) := Lib.hid (by unfold suB6; rw [if_pos e, ← hx]; rfl)
    have HE : Hid (suE6 M (k : Int) n = askE x.S x.g n) := Lib.hid (by unfold suE6; rw [if_pos e, ← hx]; rfl)
    have HO := Lib.hid (b_device_ok h1 hk)
    have HD := Lib.hid (D.sure n hat)
    have HSZ := Lib.hid (World.size_alloc w (.cells (cel zeroB).toArray 34))
    clear e h h1 hat hx hA
    rw [HB.out, HE.out]
    clear HB HE
    generalize sureB x.S x.g n = y at *
    generalize askE x.S x.g n = z at *
    generalize ps.getD k 0 = q at *
    go_enter Try.func34, Try.ntmps34
    go_wp2_with (first | (refine wpList_val rfl (exec_alloc rfl) ?_) | fail)
    refine HO.out.mono ?_
    rintro e w1 ⟨rfl, rfl⟩
    go_wp2_with fail
    refine HD.out.mono ?_
    rintro e w2 ⟨rfl, hb⟩
    have HT2 := Lib.hid (there_below HT.out (by rw [HSZ.out]; omega) hb)
    have HB2 := Lib.hid (HA.out.trans (hb.mono (by rw [HSZ.out]; omega)))
    clear hb
    go_wp2_with (first | (refine wpList_nul rfl (exec_store rfl rfl rfl HT2.out) ?_) | fail)
    exact bodyPost_ret (res_blk2 rfl _ _ _ rfl (World.rangeAt_setCells_same _ _ _ _ (by rw [cel_length]; exact HT2.out))) rfl ⟨rfl, below_setCells HB2.out (Nat.le_refl _) _⟩
theorem b_flush_no (d : Int) (h : BenAt (pKind D) w p v Fs ps M) (hl : flA6 M d ≠ 0) :
    Calls Try.prog 18 #[.pointer (some ⟨p, 0, none⟩), .int .i64 d] w fun e w' => e = .returned (.int .i64 (flE6 M d)) ∧ Left (pKind D) w p v Fs ps M.ds.length (flS6 M d) w' := by
  have HE : Hid (flE6 M d = flA6 M d) := Lib.hid (by unfold flE6; rw [if_neg hl])
  have HL : Hid (∀ w', Below w.heap.size w w' → Left (pKind D) w p v Fs ps M.ds.length (flS6 M d) w') := Lib.hid (fun w' hb => by
    have e : flS6 M d = M := by unfold flS6; rw [if_neg hl]
    rw [e]
    exact ⟨Fs, ps, h.below hb, Only.of_below _ hb, Grow.same _ _⟩)
  by_cases h0 : litE M d = 0
  · rcases litE_is M d with ⟨e, _⟩ | ⟨e, _⟩ | ⟨e, hdk, k, rfl, hk⟩
    · omega
    · omega
    obtain ⟨x, hx⟩ : ∃ x, M.ds.getD k dev0 = x := ⟨_, rfl⟩
    have hat := h.devs.at_ k hk
    rw [hx] at hat
    have hg : x.g = true := by
      cases hg : x.g
      · exfalso; apply hl; unfold flA6; rw [if_pos e, show M.dev (k : Int) = x from hx, hg, if_neg (by decide)]
      · rfl
    have H9 : Hid (flA6 M (k : Int) = 9) := Lib.hid (by unfold flA6; rw [if_pos e, show M.dev (k : Int) = x from hx, hg, if_pos rfl])
    have HO := Lib.hid (b_lit_ok h hdk hk)
    have HD := Lib.hid (D.dead hat)
    have HG := Lib.hid hg
    clear e h hat hx hdk hl h0 hg
    generalize ps.getD k 0 = q at *
    go_enter Try.func18, Try.ntmps18
    go_wp2_with fail
    refine HO.out.mono ?_
    rintro e w1 ⟨rfl, rfl⟩
    go_wp2_with fail
    refine HD.out.mono ?_
    rintro e w2 ⟨rfl, hb⟩
    rw [HG.out]
    have HBB := Lib.hid hb
    clear hb
    go_wp2_with fail
    go_ret
    exact ⟨ret_int (by rw [HE.out, H9.out]), HL.out _ HBB.out⟩
  · have HA : Hid (flA6 M d = litE M d) := Lib.hid (by unfold flA6; rw [if_neg h0])
    have HO := Lib.hid (b_lit_no h h0)
    clear h hl
    rw [HE.out, HA.out]
    rcases litE_is M d with ⟨e, _⟩ | ⟨e, _⟩ | ⟨e, _⟩
    rotate_right 1
    · exact absurd e h0
    all_goals
      rw [e] at HO ⊢
      clear e h0
      go_enter Try.func18, Try.ntmps18
      go_wp2_with fail
      refine HO.out.mono ?_
      rintro e w1 ⟨rfl, rfl⟩
      go_wp2_with fail
      go_ret
      exact ⟨rfl, HL.out _ (Below.refl _ _)⟩
theorem b_flush (d : Int) (h : BenAt (pKind D) w p v Fs ps M) (hs : M.steps < 1000000) (hll : M.left < 9223372036854775808) :
    Calls Try.prog 18 #[.pointer (some ⟨p, 0, none⟩), .int .i64 d] w fun e w' => e = .returned (.int .i64 (flE6 M d)) ∧ Left (pKind D) w p v Fs ps M.ds.length (flS6 M d) w' := by
  by_cases hl : flA6 M d = 0
  rotate_left 1
  · exact b_flush_no d h hl
  have hlit : litE M d = 0 := by
    unfold flA6 at hl
    by_cases h0 : litE M d = 0
    · exact h0
    · rw [if_neg h0] at hl; exact hl
  rcases litE_is M d with ⟨e, _⟩ | ⟨e, _⟩ | ⟨e, hdk, k, rfl, hk⟩
  · omega
  · omega
  obtain ⟨x, hx⟩ : ∃ x, M.ds.getD k dev0 = x := ⟨_, rfl⟩
  have hat := h.devs.at_ k hk
  rw [hx] at hat
  have hg : x.g = false := by
    cases hg : x.g
    · rfl
    · exfalso; unfold flA6 at hl; rw [if_pos e, show M.dev (k : Int) = x from hx, hg, if_pos rfl] at hl; omega
  have HEE : Hid (flE6 M (k : Int) = M.stepE) := Lib.hid (by unfold flE6; rw [if_pos hl])
  have HO := Lib.hid (b_lit_ok h hdk hk)
  have HD := Lib.hid (D.dead hat)
  have HG := Lib.hid hg
  obtain ⟨q, hq⟩ : ∃ q, ps.getD k 0 = q := ⟨_, rfl⟩
  rw [hq] at HO HD
  by_cases h1 : M.left = 1
  · have HE : Hid (M.stepE = 8) := Lib.hid (by unfold BenS.stepE; rw [if_pos h1])
    have HS : Hid (flS6 M (k : Int) = M.night) := Lib.hid (by unfold flS6; rw [if_pos hl, if_pos h1])
    have HH := Lib.hid h
    have H1 := Lib.hid h1
    clear e h hat hx hdk hl hg h1 hlit hs hll hq
    go_enter Try.func18, Try.ntmps18
    go_wp2_with fail
    refine HO.out.mono ?_
    rintro e w1 ⟨rfl, rfl⟩
    go_wp2_with fail
    refine HD.out.mono ?_
    rintro e w2 ⟨rfl, hb⟩
    rw [HG.out]
    have HBB := Lib.hid hb
    clear hb
    go_wp2_with fail
    refine (b_step_cut _ (HH.out.below HBB.out) H1.out).mono ?_
    rintro e w3 ⟨rfl, h3, ho3⟩
    go_wp2_with fail
    go_ret
    refine ⟨ret_int (by rw [HEE.out, HE.out]), ?_⟩
    rw [HS.out]
    exact ⟨Fs, ps, h3, (Only.of_below _ HBB.out).trans (footB_obj _ ho3) fun b hb => .inl hb, Grow.same _ _⟩
  · have HE : Hid (M.stepE = 0) := Lib.hid (by unfold BenS.stepE; rw [if_neg h1])
    have HS : Hid (flS6 M (k : Int) = M.done.put k ⟨flS x.S x.L, [], x.g⟩) := Lib.hid (by unfold flS6; rw [if_pos hl, if_neg h1, show M.dev (k : Int) = x from hx]; rfl)
    have HH := Lib.hid h
    have H1 := Lib.hid h1
    have HX := Lib.hid hx
    have HSS := Lib.hid hs
    have HLL := Lib.hid hll
    have HQ := Lib.hid hq
    clear e h hat hx hdk hl hg h1 hlit hs hll hq
    go_enter Try.func18, Try.ntmps18
    go_wp2_with fail
    refine HO.out.mono ?_
    rintro e w1 ⟨rfl, rfl⟩
    go_wp2_with fail
    refine HD.out.mono ?_
    rintro e w2 ⟨rfl, hb⟩
    rw [HG.out]
    have HBB := Lib.hid hb
    clear hb
    go_wp2_with fail
    refine (b_step_do 25 #[.pointer (some ⟨q, 0, none⟩)] #[] (HH.out.below HBB.out) H1.out HSS.out HLL.out Try.call25 (fun z w3 => z = 0 ∧ Left (pKind D) w2 p v Fs ps M.ds.length (flS6 M (k : Int)) w3) ?_).mono ?_
    · intro w3 h3 ho3
      have hat3 := h3.devs.at_ k hk
      rw [show M.done.ds.getD k dev0 = x from HX.out, HG.out, HQ.out] at hat3
      refine (D.flush hat3).mono ?_
      rintro e w4 ⟨he, F', g1, g2, g3⟩
      refine ⟨0, by simpa using he, rfl, Left.behind ho3 (Left.turn h3 hk g2 g3 (d := ⟨flS x.S x.L, [], x.g⟩) (show D.Dv _ _ _ _ _ _ by rw [HG.out, HQ.out]; simpa using g1) HS.out)⟩
    · rintro e w4 ⟨z, rfl, rfl, Fs', ps', h4, ho4, hg4⟩
      go_wp2_with fail
      go_ret
      refine ⟨ret_int (by rw [HEE.out, HE.out]), Fs', ps', h4, (Only.of_below _ HBB.out).trans ho4 fun b hb => .inl hb, fun b hb => ?_⟩
      rcases hg4 b hb with e | e
      · exact .inl e
      · exact .inr (Nat.le_trans HBB.out.size e)
end
end Go.Proofs.Ytpcdcnnnkblhiaa
namespace Go.Proofs.Ytpcdcnnnkblhiaa
open Go.RowKit
set_option linter.unusedVariables false
set_option maxRecDepth 100000

section
variable {D : Dev} {w w' : World} {p : Nat} {v : Value} {Fs : Nat → Nat → Prop} {ps : List Nat} {M : BenS}
set_option maxHeartbeats 1000000 in
theorem b_insert (d : Int) (h : BenAt (pKind D) w p v Fs ps M) :
    Calls Try.prog 22 #[.pointer (some ⟨p, 0, none⟩), .int .i64 d] w fun e w' => e = .returned (.int .i64 (inE6 M d)) ∧ Left (pKind D) w p v Fs ps M.ds.length (inS6 M d) w' := by
  by_cases h0 : litE M d = 0
  · rcases litE_is M d with ⟨e, _⟩ | ⟨e, _⟩ | ⟨e, hdk, k, rfl, hk⟩
    · omega
    · omega
    obtain ⟨x, hx⟩ : ∃ x, M.ds.getD k dev0 = x := ⟨_, rfl⟩
    have hat := h.devs.at_ k hk
    rw [hx] at hat
    have HO := Lib.hid (b_lit_ok h hdk hk)
    have HD := Lib.hid (D.dead hat)
    obtain ⟨q, hq⟩ : ∃ q, ps.getD k 0 = q := ⟨_, rfl⟩
    rw [hq] at HO HD hat
    cases hg : x.g
    · have HE : Hid (inE6 M (k : Int) = 17) := Lib.hid (by unfold inE6; rw [if_pos e, show M.dev (k : Int) = x from hx, hg, if_neg (by decide)])
      have HL : Hid (∀ w', Below w.heap.size w w' → Left (pKind D) w p v Fs ps M.ds.length (inS6 M (k : Int)) w') := Lib.hid (fun w' hb => Left.below_ h hb (by unfold inS6; rw [HE.out, if_neg (by decide)]))
      have HG := Lib.hid hg
      clear e h hat hx hdk h0 hg hq
      go_enter Try.func22, Try.ntmps22
      go_wp2_with fail
      refine HO.out.mono ?_
      rintro e w1 ⟨rfl, rfl⟩
      go_wp2_with fail
      refine HD.out.mono ?_
      rintro e w2 ⟨rfl, hb⟩
      rw [HG.out]
      have HBB := Lib.hid hb
      clear hb
      go_wp2_with fail
      go_ret
      exact ⟨ret_int HE.out.symm, HL.out _ HBB.out⟩
    · have HE : Hid (inE6 M (k : Int) = 0) := Lib.hid (by unfold inE6; rw [if_pos e, show M.dev (k : Int) = x from hx, hg, if_pos rfl])
      have HS : Hid (inS6 M (k : Int) = M.put k ⟨List.replicate x.S.length zeroB, [], false⟩) := Lib.hid (by unfold inS6; rw [HE.out, if_pos rfl, show M.dev (k : Int) = x from hx]; rfl)
      have HG := Lib.hid hg
      have hS1 := (D.fit hat).2
      have hS2 := D.cap hat
      obtain ⟨g, c, rfl, hc1, hc2⟩ := h.slice
      have HH := Lib.hid h
      have HAT := Lib.hid hat
      clear e h hat hx hdk h0 hg hq hc1 hc2
      go_enter Try.func22, Try.ntmps22
      go_wp2_with fail
      refine HO.out.mono ?_
      rintro e w1 ⟨rfl, rfl⟩
      go_wp2_with fail
      refine HD.out.mono ?_
      rintro e w2 ⟨rfl, hb⟩
      rw [HG.out]
      have HBB := Lib.hid hb
      clear hb
      go_wp2_with fail
      refine (D.sectors (D.below HAT.out HBB.out)).mono ?_
      rintro e w3 ⟨rfl, hb⟩
      have HB3 := Lib.hid (HBB.out.trans (hb.mono HBB.out.size))
      clear hb
      go_wp2_with fail
      refine (D.new_ok x.S.length w3 hS1 hS2).mono ?_
      rintro e w4 ⟨p', F', rfl, hd4, hb4, hF4⟩
      have hb4' := HB3.out.trans (hb4.mono HB3.out.size)
      have h4 := HH.out.below hb4'
      have hF4' : ∀ b, F' b → w.heap.size ≤ b := fun b hb => Nat.le_trans HB3.out.size (hF4 b hb)
      have HSW := Lib.hid (HH.out.swap hk hb4' hF4' (d := ⟨List.replicate x.S.length zeroB, [], false⟩) hd4)
      have HB4 := Lib.hid hb4'
      have HF4 := Lib.hid hF4'
      obtain ⟨c0, c1, c2, c3⟩ := h4.pcells
      have ck := h4.cell hk
      have fk := h4.frozen k
      have HGL := Lib.hid (HH.out.row.own_lt g rfl)
      clear hd4 hb4 hF4 hb4' h4 hF4'
      go_wp2_with fail
      go_ret
      refine ⟨ret_int HE.out.symm, ?_⟩
      rw [HS.out]
      refine ⟨_, _, HSW.out, ((Only.of_below _ HB4.out).setCell (p := ⟨g, k, none⟩) (.inl (.inr (.inl rfl))) _), fun b hb => ?_⟩
      rcases hb with e | e | ⟨j, hj, e | e⟩
      · exact .inl (.inl e)
      · exact .inl (.inr (.inl e))
      · exact .inr (HF4.out b e.2)
      · exact .inl (.inr (.inr ⟨j, by rwa [M.put_len] at hj, e.2⟩))
  · have HA : Hid (inE6 M d = litE M d) := Lib.hid (by unfold inE6; rw [if_neg h0])
    have HL : Hid (∀ w', Below w.heap.size w w' → Left (pKind D) w p v Fs ps M.ds.length (inS6 M d) w') := Lib.hid (fun w' hb => Left.below_ h hb (by unfold inS6; rw [HA.out, if_neg h0]))
    have HO := Lib.hid (b_lit_no h h0)
    clear h
    rw [HA.out]
    rcases litE_is M d with ⟨e, _⟩ | ⟨e, _⟩ | ⟨e, _⟩
    rotate_right 1
    · exact absurd e h0
    all_goals
      rw [e] at HO ⊢
      clear e h0
      go_enter Try.func22, Try.ntmps22
      go_wp2_with fail
      refine HO.out.mono ?_
      rintro e w1 ⟨rfl, rfl⟩
      go_wp2_with fail
      go_ret
      exact ⟨rfl, HL.out _ (Below.refl _ _)⟩

/-! ### Write -/
def wr3 (w : World) (n : Int) (b : Blk) (q : Option Addr) : World := ((w.alloc (.cells #[.int .i64 n] 3)).alloc (.cells (cel b).toArray 34)).alloc (.cells #[.pointer q] 50)
theorem wr3_facts (w : World) (n : Int) (b : Blk) (q : Option Addr) : Below w.heap.size w (wr3 w n b q) ∧ (wr3 w n b q).heap[w.heap.size]? = some (.cells #[.int .i64 n] 3) ∧ (wr3 w n b q).heap[w.heap.size + 1]? = some (.cells (cel b).toArray 34) ∧ (wr3 w n b q).heap[w.heap.size + 1 + 1]? = some (.cells #[.pointer q] 50) ∧ (wr3 w n b q).heap.size = w.heap.size + 1 + 1 + 1 := by
  unfold wr3
  have e1 := World.size_alloc (w := w) (o := .cells #[.int .i64 n] 3)
  have e2 := World.size_alloc (w := w.alloc (.cells #[.int .i64 n] 3)) (o := .cells (cel b).toArray 34)
  have e3 := World.size_alloc (w := (w.alloc (.cells #[.int .i64 n] 3)).alloc (.cells (cel b).toArray 34)) (o := .cells #[.pointer q] 50)
  have n1 := new1 w #[.int .i64 n] 3
  have n2 := new1 (w.alloc (.cells #[.int .i64 n] 3)) (cel b).toArray 34
  have n3 := new1 ((w.alloc (.cells #[.int .i64 n] 3)).alloc (.cells (cel b).toArray 34)) #[.pointer q] 50
  rw [e2, e1] at n3
  rw [e1] at n2
  refine ⟨(((Below.refl _ w).alloc (Nat.le_refl _) _).alloc (by omega) _).alloc (by omega) _, blk_past (blk_past n1 _) _, blk_past n2 _, n3, by omega⟩
/-- What Write hands to the step. -/
theorem b_clo {q a b c : Nat} {n : Int} {x : Blk} {F : Nat → Prop} {S : List Blk} {L : List (Int × Blk)} {g : Bool} (h : D.Dv w F q S L g) (hL : L.length < 1000000) (hq : w.heap[a]? = some (.cells #[.pointer (some ⟨q, 0, none⟩)] 50)) (hn : w.heap[b]? = some (.cells #[.int .i64 n] 3)) (hx : w.heap[c]? = some (.cells (cel x).toArray 34)) :
    Calls Try.prog 59 #[.pointer (some ⟨a, 0, none⟩), .pointer (some ⟨b, 0, none⟩), .pointer (some ⟨c, 0, none⟩)] w fun e w' => e = .returned (.int .i64 (askE S g n)) ∧ ∃ F', D.Dv w' F' q S (wrL S L g n x) g ∧ Only F w w' ∧ Grow w F F' := by
  obtain ⟨c1, f1⟩ := one_cell hq
  obtain ⟨c2, f2⟩ := one_cell hn
  have HR := Lib.hid (blk_range hx)
  have HD := Lib.hid (D.write n x hL h)
  clear h hq hn hx
  go_enter Try.func59, Try.ntmps59
  go_wp2_with (first | (refine wpList_val rfl (exec_load rfl rfl HR.out) ?_) | fail)
  refine HD.out.mono ?_
  rintro e w4 ⟨rfl, F', g1, g2, g3⟩
  go_wp2_with fail
  go_ret
  exact ⟨rfl, F', g1, g2, g3⟩
set_option maxHeartbeats 1000000 in
theorem b_write_lit (d n : Int) (x : Blk) (h : BenAt (pKind D) w p v Fs ps M) (h0 : litE M d ≠ 0) :
    Calls Try.prog 19 #[.pointer (some ⟨p, 0, none⟩), .int .i64 d, .int .i64 n, blk x] w fun e w' => e = .returned (.int .i64 (litE M d)) ∧ Below w.heap.size w w' := by
  have hA : Below w.heap.size w ((w.alloc (.cells #[.int .i64 n] 3)).alloc (.cells (cel x).toArray 34)) := ((Below.refl _ w).alloc (Nat.le_refl _) _).alloc (by rw [World.size_alloc]; omega) _
  have HO := Lib.hid (b_lit_no (h.below hA) h0)
  have HF := Lib.hid (wr3_facts w n x none).1
  clear h hA
  rcases litE_is M d with ⟨e, _⟩ | ⟨e, _⟩ | ⟨e, _⟩
  rotate_right 1
  · exact absurd e h0
  all_goals
    rw [e] at HO ⊢
    clear e h0
    go_enter Try.func19, Try.ntmps19
    go_wp2_with (first | (refine wpList_val rfl (exec_box rfl rfl) ?_) | fail)
    refine HO.out.mono ?_
    rintro e w1 ⟨rfl, rfl⟩
    go_wp2_with fail
    go_ret
    exact ⟨rfl, HF.out⟩
end
end Go.Proofs.Ytpcdcnnnkblhiaa
namespace Go.Proofs.Ytpcdcnnnkblhiaa
open Go.RowKit
set_option linter.unusedVariables false
set_option maxRecDepth 100000

section
variable {D : Dev} {w w' : World} {p : Nat} {v : Value} {Fs : Nat → Nat → Prop} {ps : List Nat} {M : BenS}
set_option maxHeartbeats 2000000 in
theorem b_write_ask (n : Int) (x : Blk) (h : BenAt (pKind D) w p v Fs ps M) {k : Nat} (hdk : M.dark = false) (hk : k < M.ds.length) (he : askE (M.ds.getD k dev0).S (M.ds.getD k dev0).g n ≠ 0) :
    Calls Try.prog 19 #[.pointer (some ⟨p, 0, none⟩), .int .i64 k, .int .i64 n, blk x] w fun e w' => e = .returned (.int .i64 (askE (M.ds.getD k dev0).S (M.ds.getD k dev0).g n)) ∧ Below w.heap.size w w' := by
  obtain ⟨y, hy⟩ : ∃ y, M.ds.getD k dev0 = y := ⟨_, rfl⟩
  obtain ⟨q, hq⟩ : ∃ q, ps.getD k 0 = q := ⟨_, rfl⟩
  have hA : Below w.heap.size w ((w.alloc (.cells #[.int .i64 n] 3)).alloc (.cells (cel x).toArray 34)) := ((Below.refl _ w).alloc (Nat.le_refl _) _).alloc (by rw [World.size_alloc]; omega) _
  have HO := Lib.hid (b_lit_ok (h.below hA) hdk hk)
  obtain ⟨hB, k0, k1, k2, hsz⟩ := wr3_facts w n x (some ⟨q, 0, none⟩)
  have hat := (h.below hB).devs.at_ k hk
  rw [hy, hq] at hat
  rw [hy] at he ⊢
  rw [hq] at HO
  have HD := Lib.hid (D.sure n hat)
  have HB := Lib.hid hB
  obtain ⟨c0, f0⟩ := one_cell k0
  obtain ⟨c2, f2⟩ := one_cell k2
  rcases askE_is (S := y.S) (g := y.g) (n := n) with e | e | ⟨e, _⟩
  rotate_right 1
  · exact absurd e he
  all_goals
    rw [e] at HD ⊢
    clear e he h hA hB k0 k1 k2 hat hy hq hdk
    go_enter Try.func19, Try.ntmps19
    unfold wr3 at *
    go_wp2_with (first | (refine wpList_val rfl (exec_box rfl rfl) ?_) | fail)
    refine HO.out.mono ?_
    rintro e w1 ⟨rfl, rfl⟩
    go_wp2_with fail
    refine HD.out.mono ?_
    rintro e w2 ⟨rfl, hb⟩
    have HBB := Lib.hid (HB.out.trans (hb.mono (by rw [hsz]; omega)))
    clear hb
    go_wp2_with (first | (refine wpList_val rfl (exec_alloc rfl) ?_) | (refine wpList_nul rfl (exec_fill rfl rfl rfl) ?_) | fail)
    go_ret
    exact ⟨rfl, HBB.out.alloc HBB.out.size _⟩
set_option maxHeartbeats 2000000 in
theorem b_write_do (n : Int) (x : Blk) (h : BenAt (pKind D) w p v Fs ps M) {k : Nat} (hdk : M.dark = false) (hk : k < M.ds.length) (he : askE (M.ds.getD k dev0).S (M.ds.getD k dev0).g n = 0) (hs : M.steps < 1000000) (hll : M.left < 9223372036854775808) (hL : (M.ds.getD k dev0).L.length < 1000000) :
    Calls Try.prog 19 #[.pointer (some ⟨p, 0, none⟩), .int .i64 k, .int .i64 n, blk x] w fun e w' => e = .returned (.int .i64 M.stepE) ∧ Left (pKind D) w p v Fs ps M.ds.length (wrS6 M (k : Int) n x) w' := by
  obtain ⟨y, hy⟩ : ∃ y, M.ds.getD k dev0 = y := ⟨_, rfl⟩
  obtain ⟨q, hq⟩ : ∃ q, ps.getD k 0 = q := ⟨_, rfl⟩
  have hA : Below w.heap.size w ((w.alloc (.cells #[.int .i64 n] 3)).alloc (.cells (cel x).toArray 34)) := ((Below.refl _ w).alloc (Nat.le_refl _) _).alloc (by rw [World.size_alloc]; omega) _
  have HO := Lib.hid (b_lit_ok (h.below hA) hdk hk)
  obtain ⟨hB, k0, k1, k2, hsz⟩ := wr3_facts w n x (some ⟨q, 0, none⟩)
  have hat := (h.below hB).devs.at_ k hk
  have hr0 : rdE6 M (k : Int) n = 0 := by unfold rdE6; rw [if_pos (litE_ok hdk hk), M.dev_nat]; exact he
  rw [hy, hq] at hat
  rw [hy] at he hL
  rw [hq] at HO
  have HD := Lib.hid (D.sure n hat)
  have HB := Lib.hid hB
  have HH := Lib.hid h
  have HK0 := Lib.hid k0
  have HK1 := Lib.hid k1
  have HK2 := Lib.hid k2
  have HE := Lib.hid he
  have HSS := Lib.hid hs
  have HLL := Lib.hid hll
  have HL := Lib.hid hL
  have HY := Lib.hid hy
  have HQ := Lib.hid hq
  have HR := Lib.hid hr0
  obtain ⟨c0, f0⟩ := one_cell k0
  obtain ⟨c2, f2⟩ := one_cell k2
  rw [he] at HD
  by_cases h1 : M.left = 1
  all_goals
    have H1 := Lib.hid h1
    clear h1 he h hA hB k0 k1 k2 hat hy hq hdk hs hll hL hr0
    go_enter Try.func19, Try.ntmps19
    unfold wr3 at *
    go_wp2_with (first | (refine wpList_val rfl (exec_box rfl rfl) ?_) | fail)
    refine HO.out.mono ?_
    rintro e w1 ⟨rfl, rfl⟩
    go_wp2_with fail
    refine HD.out.mono ?_
    rintro e w2 ⟨rfl, hb⟩
    have hb2 := HB.out.trans (hb.mono (by rw [hsz]; omega))
    have HBB := Lib.hid (hb2.alloc hb2.size (.cells (cel (sureB y.S y.g n)).toArray 34))
    have HA0 := Lib.hid (blk_past (blk_keep HK0.out hb) (.cells (cel (sureB y.S y.g n)).toArray 34))
    have HA1 := Lib.hid (blk_past (blk_keep HK1.out hb) (.cells (cel (sureB y.S y.g n)).toArray 34))
    have HA2 := Lib.hid (blk_past (blk_keep HK2.out hb) (.cells (cel (sureB y.S y.g n)).toArray 34))
    clear hb hb2 c0 c2 f0 f2 hsz
    generalize sureB y.S y.g n = z at *
    go_wp2_with (first | (refine wpList_val rfl (exec_alloc rfl) ?_) | (refine wpList_nul rfl (exec_fill rfl rfl rfl) ?_) | fail)
    generalize w2.alloc (.cells (cel z).toArray 34) = w3 at *
  · refine (b_step_cut _ (HH.out.below HBB.out) H1.out).mono ?_
    rintro e w4 ⟨rfl, h4, ho4⟩
    go_wp2_with fail
    go_ret
    refine ⟨ret_int (by unfold BenS.stepE; rw [if_pos H1.out]), ?_⟩
    rw [show wrS6 M (k : Int) n x = M.night from by unfold wrS6; rw [if_pos HR.out, if_pos H1.out]]
    exact Left.above HBB.out (Left.obj h4 ho4 rfl)
  · refine (b_step_do 59 #[] _ (HH.out.below HBB.out) H1.out HSS.out HLL.out Try.call59 (fun z w4 => z = 0 ∧ Left (pKind D) w3 p v Fs ps M.ds.length (wrS6 M (k : Int) n x) w4) ?_).mono ?_
    · intro w4 h4 ho4
      have hat4 := h4.devs.at_ k hk
      rw [show M.done.ds.getD k dev0 = y from HY.out, HQ.out] at hat4
      have hne : ∀ j, j < 3 → w.heap.size + j ≠ p := fun j _ e => by have := blk_lt HH.out.at_; omega
      refine (b_clo hat4 HL.out (ho4.keep HA2.out (hne 2 (by omega))) (ho4.keep HA0.out (hne 0 (by omega))) (ho4.keep HA1.out (hne 1 (by omega)))).mono ?_
      rintro e w5 ⟨he5, F', g1, g2, g3⟩
      refine ⟨_, he5, HE.out, Left.behind ho4 (Left.turn h4 hk g2 g3 (d := ⟨y.S, wrL y.S y.L y.g n x, y.g⟩) (show D.Dv _ _ _ _ _ _ by rw [HQ.out]; exact g1) ?_)⟩
      unfold wrS6
      rw [if_pos HR.out, if_neg H1.out, show M.dev (k : Int) = y from HY.out]
      rfl
    · rintro e w5 ⟨z, rfl, rfl, hl5⟩
      have HL5 := Lib.hid (Left.above HBB.out hl5)
      clear hl5
      go_wp2_with fail
      go_ret
      exact ⟨ret_int (by unfold BenS.stepE; rw [if_neg H1.out]), HL5.out⟩
theorem b_write (d n : Int) (x : Blk) (h : BenAt (pKind D) w p v Fs ps M) (hr : ∀ i, i < M.ds.length → (M.ds.getD i dev0).L.length < 1000000) (hs : M.steps < 1000000) (hll : M.left < 9223372036854775808) :
    Calls Try.prog 19 #[.pointer (some ⟨p, 0, none⟩), .int .i64 d, .int .i64 n, blk x] w fun e w' => e = .returned (.int .i64 (wrE6 M d n)) ∧ Left (pKind D) w p v Fs ps M.ds.length (wrS6 M d n x) w' := by
  by_cases h0 : litE M d = 0
  · rcases litE_is M d with ⟨e, _⟩ | ⟨e, _⟩ | ⟨e, hdk, k, rfl, hk⟩
    · omega
    · omega
    have hr0 : rdE6 M (k : Int) n = askE (M.ds.getD k dev0).S (M.ds.getD k dev0).g n := by unfold rdE6; rw [if_pos e, M.dev_nat]
    by_cases he : askE (M.ds.getD k dev0).S (M.ds.getD k dev0).g n = 0
    · refine (b_write_do n x h hdk hk he hs hll (hr k hk)).mono ?_
      rintro e w' ⟨rfl, hl⟩
      exact ⟨by unfold wrE6; rw [hr0, if_pos he], hl⟩
    · refine (b_write_ask n x h hdk hk he).mono ?_
      rintro e w' ⟨rfl, hb⟩
      exact ⟨by unfold wrE6; rw [hr0, if_neg he], Left.below_ h hb (by unfold wrS6; rw [hr0, if_neg he])⟩
  · refine (b_write_lit d n x h h0).mono ?_
    rintro e w' ⟨rfl, hb⟩
    have hr0 : rdE6 M d n = litE M d := by unfold rdE6; rw [if_neg h0]
    exact ⟨by unfold wrE6; rw [hr0, if_neg h0], Left.below_ h hb (by unfold wrS6; rw [hr0, if_neg h0])⟩
set_option maxHeartbeats 1000000 in
theorem clone_P {l : List Nat} (h : MadeE (pKind D).E w 0 v l) (hl : l.length ≤ 34359738368) :
    Calls Try.prog 47 #[v] w fun e w' => ∃ v', e = .returned v' ∧ MadeE (pKind D).E w' w.heap.size v' l ∧ Below w.heap.size w w' := by
  have hq : ∀ (w : World) (a : Option Addr) (n c n' c' : Nat), (binOp .eql (pKind D).E.s (.slice a n c) (.slice none n' c')).run Try.prog w = .ok (.bool a.isNone) w := fun w a n c n' c' => Lib.run_eql_slice_nil w _ _ a n c n' c' (pKind D).E.und
  simp only [show (pKind D).E.s = 49 from rfl] at hq
  obtain ⟨A, c, rfl, hc1, hc2⟩ := h.form
  have hrd := h.rd
  rcases h.2 with ⟨hv, h0⟩ | ⟨g, cap, cur, hv, _⟩
  · injection hv with e1 e2 e3
    subst e1 e3
    obtain rfl : l = [] := List.eq_nil_of_length_eq_zero e2
    go_enter Try.func47, Try.ntmps47
    go_wp2
    go_ret
    exact ⟨_, rfl, MadeE.nil _ _, Below.refl _ _⟩
  · injection hv with e1 e2 e3
    subst e1 e3
    have hA := (Below.refl w.heap.size w).alloc (Nat.le_refl _) (.cells #[] (pKind D).E.t)
    have hm : MadeE (pKind D).E (w.alloc (.cells #[] (pKind D).E.t)) w.heap.size (.slice (some ⟨w.heap.size, 0, none⟩) 0 0) [] := MadeE.of_block (E := (pKind D).E) (cs := #[]) (heap_alloc_new w _) rfl (Nat.le_refl _) rfl (Nat.zero_le _)
    have hr1 := hrd.step hA
    have HA := Lib.hid hA
    have HM := Lib.hid hm
    have HR := Lib.hid hr1
    have HLE := Lib.hid hA.size
    clear hA hm hr1 hrd h
    go_enter Try.func47, Try.ntmps47
    go_wp2_with (first | (refine wpList_val rfl (exec_mk0E (E := (pKind D).E) rfl) ?_) | (at_builtin; refine wpList_appE (pKind D).E rfl _ _ rfl w.heap.size _ _ _ _ [] l _ rfl rfl HM.out HR.out HLE.out ?c1 ?_) | fail)
    intro v' w' hm' hg
    go_wp2_with fail
    go_ret
    refine ⟨_, rfl, ?_, HA.out.grown hg HLE.out fun k e => ?_⟩
    · simpa using hm'
    · simp [Value.ownBlock] at e; omega
end
end Go.Proofs.Ytpcdcnnnkblhiaa
namespace Go.Proofs.Ytpcdcnnnkblhiaa
open Go.RowKit
set_option linter.unusedVariables false
set_option maxRecDepth 100000

section
variable {D : Dev} {w w' : World} {p : Nat} {v : Value} {Fs : Nat → Nat → Prop} {ps : List Nat} {M : BenS}
set_option maxHeartbeats 2000000 in
theorem b_crash {A : Option Addr} {n c : Nat} {P : List Int} (h : BenAt (pKind D) w p v Fs ps M) (hP : Pk w (footB p v Fs M.ds.length) A n c P) :
    Calls Try.prog 14 #[.pointer (some ⟨p, 0, none⟩), .slice A n c] w fun e w' => e = .returned (.int .i64 0) ∧ Left (pKind D) w p v Fs ps M.ds.length (crS6 M P) w' := by
  have hm := Lib.hid (b_made h)
  obtain ⟨g, cc, rfl, _, hcm⟩ := h.slice
  obtain ⟨c0, c1, c2, c3⟩ := h.pcells
  unfold maxLen at hcm
  have HH := Lib.hid h
  have HP := Lib.hid hP
  have hlen : M.ds.length ≤ 17 := h.cap
  clear h hP
  go_enter Try.func14, Try.ntmps14
  go_wp2_with fail
  refine hm.out.mono ?_
  rintro e w1 ⟨rfl, rfl⟩
  go_wp2_with fail
  clear c0 c1 c2 c3
  go_loopw [1, 17] (fun pk i wr => ∃ (j : Nat) (A' : Option Addr) (n' c' : Nat) (Fs' : Nat → Nat → Prop), j ≤ M.ds.length ∧ i = .int .i64 j ∧ pk = .slice A' n' c' ∧ Pk w (footB p (.slice (some ⟨g, 0, none⟩) M.ds.length cc) Fs M.ds.length) A' n' c' (crIn M.ds P j).2 ∧ Cutting (pKind D) w wr p (.slice (some ⟨g, 0, none⟩) M.ds.length cc) Fs ps M P j Fs') (fun _ i _ => M.ds.length - (intOf i).toNat)
  case atStart => exact ⟨0, A, n, c, Fs, Nat.zero_le _, rfl, rfl, by rw [show (crIn M.ds P 0).2 = P from by rw [crIn]]; exact HP.out, Cutting.zero HH.out P⟩
  case round =>
    obtain ⟨j, A', n', c', Fs', hj, rfl, rfl, hpk, hct⟩ := hrel
    by_cases hlt : j < M.ds.length
    · have hlj : (j : Int) < (M.ds.length : Int) := by omega
      have hcell : wr.cell? ⟨g, j, none⟩ = some (.pointer (some ⟨ps.getD j 0, 0, none⟩)) := by
        have h1 := hct.1
        have hl : (crIn M.ds P j).1.length = M.ds.length := crIn_len j M.ds P
        have h2 : BenAt (pKind D) wr p (.slice (some ⟨g, 0, none⟩) (⟨(crIn M.ds P j).1, M.left, M.dark, M.steps⟩ : BenS).ds.length cc) Fs' ps ⟨(crIn M.ds P j).1, M.left, M.dark, M.steps⟩ := by
          rw [show (⟨(crIn M.ds P j).1, M.left, M.dark, M.steps⟩ : BenS).ds.length = M.ds.length from hl]; exact h1
        exact h2.cell (by show j < (crIn M.ds P j).1.length; rw [hl]; exact hlt)
      obtain ⟨x, hx⟩ : ∃ x, M.ds.getD j dev0 = x := ⟨_, rfl⟩
      obtain ⟨Q, hQ⟩ : ∃ Q, (crIn M.ds P j).2 = Q := ⟨_, rfl⟩
      have hdv := hct.dev hlt
      rw [hx] at hdv
      rw [hQ] at hpk
      have hnx := (crIn_succ j M.ds P hlt).2
      rw [hx, hQ] at hnx
      have hrd := hpk.only hct.2.1
      have HC := Lib.hid (D.crash hrd hpk.le hpk.cap (hpk.grown (w' := w) fun b hb => hct.2.2 b (.inr (.inr ⟨j, hlt, hb⟩))) hdv)
      have HCT := Lib.hid hct
      have HPK := Lib.hid hpk
      have HX := Lib.hid hx
      have HQ := Lib.hid hQ
      have HNX := Lib.hid hnx
      have hql : (min x.L.length n' : Nat) ≤ n' := Nat.min_le_right _ _
      have hpl := hpk.len
      have HPL := Lib.hid hpl
      clear hx hQ hdv hrd hct hpk hnx hpl
      generalize hqq : ps.getD j 0 = q at *
      have HQQ := Lib.hid hqq
      clear hqq
      generalize hmm : min x.L.length n' = m at *
      have HMM := Lib.hid hmm
      clear hmm
      go_wp2_with fail
      refine HC.out.mono ?_
      rintro e w2 ⟨rfl, F'', g1, g2, g3⟩
      go_wp2_with (first | (refine wpList_val rfl (exec_tailI rfl rfl rfl hql) ?_) | fail)
      go_roundw
      case rel => exact ⟨j + 1, _, _, _, _, by omega, by go_num, rfl, by rw [HNX.out, HPL.out, HMM.out]; exact HPK.out.tail hql, HCT.out.next hlt g2 g3 (by rw [HQQ.out, HX.out, HQ.out]; exact g1)⟩
      case measure => simp [intOf]; omega
    · have hjn : j = M.ds.length := by omega
      subst hjn
      have hlj : ¬((M.ds.length : Int) < (M.ds.length : Int)) := by omega
      have h1 := hct.1
      rw [crIn_all] at h1
      obtain ⟨c0, c1, c2, c3⟩ := h1.pcells
      have f3 := frozen_of_row wr p 3 _ _ h1.at_
      have f2 := frozen_of_row wr p 2 _ _ h1.at_
      have HH1 := Lib.hid h1
      have HCT := Lib.hid hct
      clear h1 hct hpk
      go_wp2_with fail
      go_ret
      have ho : Only (fun b => b = p) wr ((wr.setCell ⟨p, 3, none⟩ (.bool false)).setCell ⟨p, 2, none⟩ (.int .i64 0)) := (only_set wr p 3 (.bool false)).setCell (p := ⟨p, 2, none⟩) (.inl rfl) (.int .i64 0)
      have h3 := heap_setCell_same _ p 2 _ _ (.int .i64 0) (heap_setCell_same wr p 3 _ _ (.bool false) HH1.out.at_)
      refine ⟨rfl, Fs', ps, HH1.out.obj 0 false M.steps ho (by simpa [pKind] using h3), HCT.out.2.1.trans ho fun b hb => .inl (.inl hb), ?_⟩
      have hl : (crAll M.ds P).length = M.ds.length := by rw [← crIn_all, crIn_len]
      show Grow w _ (footB p _ Fs' (crAll M.ds P).length)
      rw [hl]
      exact HCT.out.2.2
end
end Go.Proofs.Ytpcdcnnnkblhiaa
namespace Go.Proofs.Ytpcdcnnnkblhiaa
open Go.RowKit
set_option linter.unusedVariables false
set_option maxRecDepth 100000

section
variable {D : Dev} {w w' : World}
set_option maxHeartbeats 2000000 in
theorem b_new {A : Option Addr} {n c : Nat} {ks : List Int} (hl : RdE IntE w w.heap.size A n ks) (hnc : n ≤ c) (hc : c ≤ maxLen) :
    Calls Try.prog 8 #[.slice A n c] w (NewPost (pKind D) w ks) := by
  have hlen : ks.length = n := hl.1
  unfold maxLen at hc
  by_cases h1 : n < 1
  · have HN := Lib.hid (show ¬ newOk ks from fun h => by have := h.1; omega)
    have h0 : n = 0 := by omega
    subst h0
    clear hl hlen h1
    go_enter Try.func8, Try.ntmps8
    go_wp2
    go_ret2
    exact NewPost.no (Below.refl _ _) HN.out rfl
  by_cases h2 : 17 < n
  · have HN := Lib.hid (show ¬ newOk ks from fun h => by have := h.2.1; omega)
    have h1' : ¬((n : Int) < 1) := by omega
    have h2' : ((n : Int) > 17) := by omega
    clear hl hlen h1 h2
    go_enter Try.func8, Try.ntmps8
    go_wp2
    go_ret2
    exact NewPost.no (Below.refl _ _) HN.out rfl
  have h1' : ¬((n : Int) < 1) := by omega
  have h2' : ¬((n : Int) > 17) := by omega
  have h3' : ¬(17 < (n : Int)) := by omega
  have HL := Lib.hid hl
  have HLEN := Lib.hid hlen
  have HMK := Lib.hid (show Making (pKind D) w (w.alloc (.cells #[.slice none 0 0, .int .i64 0, .int .i64 0, .bool false] 67)) (.slice none 0 0) (fun _ _ => False) [] [] 0 false 0 from
    ⟨heap_alloc_new w _, MadeE.nil _ _, ⟨rfl, fun i hi => absurd hi (Nat.not_lt_zero i), fun i j hi => absurd hi (Nat.not_lt_zero i)⟩, fun i hi => absurd hi (Nat.not_lt_zero i), (Below.refl _ w).alloc (Nat.le_refl _) _⟩)
  clear hl hlen
  go_enter Try.func8, Try.ntmps8
  go_wp2_with fail
  generalize w.alloc (.cells #[.slice none 0 0, .int .i64 0, .int .i64 0, .bool false] 67) = w0 at *
  clear h1' h2' h3'
  go_loopw [21] (fun i wr => ∃ (j : Nat) (v : Value) (Fs : Nat → Nat → Prop) (ps : List Nat), j ≤ n ∧ i = .int .i64 j ∧ Making (pKind D) w wr v Fs ps ((ks.take j).map newD) 0 false 0 ∧ ∀ q, q < j → 1 ≤ ks.getD q 0 ∧ ks.getD q 0 ≤ 512) (fun i _ => n - (intOf i).toNat)
  case atStart => exact ⟨0, _, _, _, Nat.zero_le _, rfl, HMK.out, fun q hq => absurd hq (Nat.not_lt_zero q)⟩
  case round =>
    obtain ⟨j, v, Fs, ps, hj, rfl, hmk, hall⟩ := hrel
    have HALL := Lib.hid hall
    clear hall HMK
    by_cases hlt : j < n
    · have hlj : (j : Int) < (n : Int) := by omega
      obtain ⟨bA, oA, rfl, hbA, hcA⟩ := (HL.out.below hmk.below).int hlt
      have HM := Lib.hid hmk
      obtain ⟨AS, cS, rfl, hs1, hs2⟩ := hmk.row.form
      unfold maxLen at hs2
      have hpl : ps.length = j := by have := hmk.devs.len; rw [List.length_map, List.length_take] at this; have := HLEN.out; omega
      have HPL := Lib.hid hpl
      obtain ⟨z, hz⟩ : ∃ z, ks.getD j 0 = z := ⟨_, rfl⟩
      rw [hz] at hcA
      have HZ := Lib.hid hz
      clear hmk hz hpl
      by_cases hok : 1 ≤ z ∧ z ≤ 512
      · obtain ⟨k, rfl⟩ : ∃ k : Nat, z = k := ⟨z.toNat, by omega⟩
        have hk1 : 1 ≤ k := by omega
        have hk2 : k ≤ 512 := by omega
        clear hok
        go_wp2_with fail
        refine (D.new_ok k wr hk1 hk2).mono ?_
        rintro e w1 ⟨p', F', rfl, hd1, hb1, hF1⟩
        have hat1 := blk_keep HM.out.at_ hb1
        obtain ⟨c0, c1, c2, c3⟩ := cells4 hat1
        have hrow1 := HM.out.row.below hb1
        have hrow2 := hrow1.below ((Below.refl _ w1).alloc (Nat.le_refl _) (.cells ((pKind D).E.cel p').toArray (pKind D).E.t))
        have HR := Lib.hid hrow2
        have HNEW := Lib.hid (rdE_new (E := (pKind D).E) (l := [p']) w1 ((pKind D).E.cel p').toArray (pKind D).E.t (by rw [flatE_cons]; simp [flatE]))
        have HSZ := Lib.hid (show w.heap.size ≤ (w1.alloc (.cells ((pKind D).E.cel p').toArray (pKind D).E.t)).heap.size by rw [World.size_alloc]; have := HM.out.below.size; have := hb1.size; omega)
        have HD1 := Lib.hid hd1
        have HB1 := Lib.hid hb1
        have HF1 := Lib.hid hF1
        have HAT := Lib.hid hat1
        have HPS := Lib.hid (show ps.length + 1 ≤ 34359738368 by have := HPL.out; omega)
        clear hd1 hb1 hF1 hat1 hrow1 hrow2
        have hal : w.heap.size < w1.heap.size := blk_lt HAT.out
        go_wp2_with (first | (refine wpList_val rfl (exec_mk1E (E := (pKind D).E) (a := p') rfl rfl rfl (by decide)) ?_) | (at_builtin; refine wpList_appE_own (pKind D).E rfl _ _ rfl w.heap.size _ _ _ _ ps [p'] _ rfl rfl HR.out HNEW.out HSZ.out HPS.out ?_) | fail)
        intro v' w3 hm3 hg3 ho3
        have hxv : v'.ownBlock ≠ some w.heap.size := fun e => by
          rcases ho3 _ e with e' | e'
          · exact HM.out.row.not_at HM.out.at_ (pKind D).ne e'
          · omega
        have HNX := Lib.hid (HM.out.next (fun _ _ => rfl) HB1.out HF1.out (d := newD k) HD1.out hm3 hg3 ho3)
        have hvx : (Value.slice AS ps.length cS).ownBlock ≠ some w.heap.size := HM.out.row.not_at HM.out.at_ (pKind D).ne
        have hat3 : w3.heap[w.heap.size]? = some _ := (hg3.block w.heap.size (by rw [World.size_alloc]; omega) (fun e => hvx e.symm)).trans (blk_past HAT.out _)
        obtain ⟨AV, cV, rfl, _, _⟩ := hm3.form
        obtain ⟨d0, d1, d2, d3⟩ := cells4 hat3
        have f0 := frozen_of_row w3 w.heap.size 0 _ _ hat3
        clear hm3 hg3 ho3 hat3 c0 c1 c2 c3
        go_wp2_with fail
        go_roundw
        case rel =>
          refine ⟨j + 1, .slice AV (ps.length + 1) cV, upF Fs (List.map newD (List.take j ks)).length F', ps ++ [p'], by omega, by go_num, ?_, fun q hq => ?_⟩
          · rw [take_map_succ (by have := HLEN.out; omega), HZ.out]
            have h6 := HNX.out
            rw [show (ps ++ [p']).length = ps.length + 1 from by simp] at h6
            exact h6
          · by_cases e : q = j
            · subst e; rw [HZ.out]; omega
            · exact HALL.out q (by omega)
        case measure => simp [intOf]; omega
      · have HB := Lib.hid HM.out.below
        have HN := Lib.hid (show ¬ newOk ks from fun h => hok (by have := h.2.2 z (by rw [← HZ.out]; exact getD_mem (by have := HLEN.out; omega)); exact this))
        go_wp2_with fail
        refine (D.new_no z wr hok).mono ?_
        rintro e w1 ⟨rfl, hb1⟩
        have HB1 := Lib.hid (HB.out.trans (hb1.mono HB.out.size))
        clear hb1 hok
        go_wp2_with fail
        go_ret2
        exact NewPost.no HB1.out HN.out rfl
    · have hjn : j = n := by omega
      subst hjn
      have hlj : ¬((j : Int) < (j : Int)) := by omega
      have HM := Lib.hid hmk
      clear hmk
      go_wp2_with fail
      go_ret2
      have h5 := HM.out
      have hLL := HLEN.out
      rw [← hLL, List.take_length] at h5
      obtain ⟨g1, g2, g3⟩ := h5.done (by rw [List.length_map]; omega) (by rw [List.length_map]; omega)
      refine ⟨g3, .inl ⟨⟨by omega, by omega, fun k hk => ?_⟩, _, _, _, _, rfl, g1, g2⟩⟩
      obtain ⟨i, hi, rfl⟩ := List.getElem_of_mem hk
      have := HALL.out i (by omega)
      rwa [List.getD_eq_getElem?_getD, List.getElem?_eq_getElem hi] at this
end
end Go.Proofs.Ytpcdcnnnkblhiaa
namespace Go.Proofs.Ytpcdcnnnkblhiaa
open Go.RowKit
set_option linter.unusedVariables false
set_option maxRecDepth 100000

section
variable {D : Dev} {w w' : World} {p : Nat} {v : Value} {Fs : Nat → Nat → Prop} {ps : List Nat} {M : BenS}
theorem faB0 {b : Nat} : (Instr.fieldAt 67 (.pointer (some ⟨b, 0, none⟩)) 0).run Try.prog w = .ok (.pointer (some ⟨b, 0, none⟩)) w := by kernel_rfl
theorem ldPs {a : Addr} {A : Option Addr} {n c : Nat} (h : w.cell? a = some (.slice A n c)) : (Instr.loadAt 49 (.pointer (some a))).run Try.prog w = .ok (.slice A n c) w := by simp [go_sem, h]
theorem stPt {a : Addr} {u : Value} {q : Option Addr} (h : w.cell? a = some u) (hf : w.frozen? a = false) : (Instr.storeAt 50 (.pointer (some a)) (.pointer q)).run Try.prog w = .ok () (w.setCell a (.pointer q)) := by simp [go_sem, h, hf]
theorem exec_ixP {k : BKind} {ρ : Operand → Value} {o : Oper} {x y : Operand} {w : World} {b n c j : Nat} (ho : o.op = .indexAddr k.E.s x y) (hx : ρ x = .slice (some ⟨b, 0, none⟩) n c) (hy : ρ y = .int .i64 (j : Int)) (hj : j < n) : (execOp ρ o).run Try.prog w = .ok (.value (.pointer (some ⟨b, j, none⟩))) w := by
  have h := exec_indexE (E := k.E) (w := w) ho hx hy hj
  rwa [show 0 + j * k.E.n = j from by show 0 + j * 1 = j; omega] at h
set_option maxHeartbeats 4000000 in
theorem b_copy (h : BenAt (pKind D) w p v Fs ps M) :
    Calls Try.prog 12 #[.pointer (some ⟨p, 0, none⟩)] w (CopyPost (pKind D) w M) := by
  have hm := Lib.hid (b_made h)
  obtain ⟨g, cc, rfl, _, hcm⟩ := h.slice
  obtain ⟨c0, c1, c2, c3⟩ := h.pcells
  unfold maxLen at hcm
  have hlen : M.ds.length ≤ 17 := h.cap
  have hone : 1 ≤ M.ds.length := h.one
  have HPL := Lib.hid h.len
  have hA := (Below.refl w.heap.size w).alloc (Nat.le_refl _) (.cells #[.slice (some ⟨g, 0, none⟩) M.ds.length cc, .int .i64 M.steps, .int .i64 M.left, .bool M.dark] 67)
  obtain ⟨a0, a1, a2, a3⟩ := (h.below hA).pcells
  have HN := Lib.hid (new1 w #[.slice (some ⟨g, 0, none⟩) M.ds.length cc, .int .i64 M.steps, .int .i64 M.left, .bool M.dark] 67)
  have HSZ := Lib.hid (World.size_alloc w (.cells #[.slice (some ⟨g, 0, none⟩) M.ds.length cc, .int .i64 M.steps, .int .i64 M.left, .bool M.dark] 67))
  have HA := Lib.hid hA
  have HH := Lib.hid h
  clear h hA
  go_enter Try.func12, Try.ntmps12
  go_wp2_with fail
  refine hm.out.mono ?_
  rintro e w1 ⟨rfl, rfl⟩
  go_wp2_with fail
  refine (clone_P ((HH.out.below HA.out).row) (by have := HPL.out; omega)).mono ?_
  rintro e w2 ⟨v', rfl, hm2, hb2⟩
  obtain ⟨g', c', rfl⟩ := hm2.slice HPL.out (by omega)
  have hB2 := HA.out.trans (hb2.mono (by rw [HSZ.out]; omega))
  have hat2 := blk_keep HN.out hb2
  obtain ⟨d0, d1, d2, d3⟩ := cells4 hat2
  have f0 := frozen_of_row w2 w.heap.size 0 _ _ hat2
  have hat3 := heap_setCell_same w2 w.heap.size 0 _ _ (.slice (some ⟨g', 0, none⟩) M.ds.length c') hat2
  have ho3 := only_set w2 w.heap.size 0 (.slice (some ⟨g', 0, none⟩) M.ds.length c')
  have hB3 := hB2.trans (ho3.below (B := w.heap.size) (fun b hb => by omega) hB2.size)
  have hg' : w.heap.size < g' := by have := hm2.lt_own g' rfl; rw [HSZ.out] at this; omega
  have hrow3 : MadeE (pKind D).E (w2.setCell ⟨w.heap.size, 0, none⟩ (.slice (some ⟨g', 0, none⟩) M.ds.length c')) w.heap.size (.slice (some ⟨g', 0, none⟩) M.ds.length c') ([] ++ ps.drop 0) := by
    rw [List.drop_zero, List.nil_append]
    exact (hm2.base (by rw [HSZ.out]; omega)).only ho3 fun b hb e => by
      have hb' : g' = b := by injection hb
      omega
  have HCP := Lib.hid (show Copying (pKind D) w (w2.setCell ⟨w.heap.size, 0, none⟩ (.slice (some ⟨g', 0, none⟩) M.ds.length c')) g' c' (fun _ _ => False) [] ps M from
    ⟨by simpa [pKind] using hat3, HPL.out, Nat.zero_le _, hrow3, ⟨rfl, fun i hi => absurd hi (by simp), fun i j hi => absurd hi (by simp)⟩, fun i hi => absurd hi (Nat.not_lt_zero i), hB3⟩)
  clear hm2 hb2 hB2 hat2 hat3 ho3 hB3 hrow3 a0 a1 a2 a3 c0 c1 c2 c3
  go_wp2_with fail
  generalize w2.setCell ⟨w.heap.size, 0, none⟩ (.slice (some ⟨g', 0, none⟩) M.ds.length c') = w3 at *
  clear d0 d1 d2 d3 f0
  go_loopw [21] (fun i wr => ∃ (Fs' : Nat → Nat → Prop) (qs : List Nat), i = .int .i64 qs.length ∧ Copying (pKind D) w wr g' c' Fs' qs ps M) (fun i _ => M.ds.length - (intOf i).toNat)
  case atStart => exact ⟨_, [], rfl, HCP.out⟩
  case round =>
    clear HCP
    obtain ⟨Fs', qs, rfl, hcp⟩ := hrel
    have hle := hcp.le
    have HC := Lib.hid hcp
    by_cases hlt : qs.length < M.ds.length
    · have hlj : (qs.length : Int) < (M.ds.length : Int) := by omega
      have hbw := HH.out.below hcp.below
      have hcell : wr.cell? ⟨g', qs.length, none⟩ = some (.pointer (some ⟨ps.getD qs.length 0, 0, none⟩)) := by
        have hr : RdE (pKind D).E wr wr.heap.size (some ⟨g', 0, none⟩) M.ds.length (qs ++ ps.drop qs.length) := hcp.row.rd
        obtain ⟨b, off, e, _, hc⟩ := RdE.ptr (und := (pKind D).und) (info := (pKind D).info) hr hlt
        injection e with e
        injection e with e1 e2
        subst e1 e2
        rw [Nat.zero_add] at hc
        rw [hc, List.getD, List.getD, List.getElem?_append_right (Nat.le_refl _), Nat.sub_self, List.getElem?_drop, Nat.add_zero]
      have hfz : wr.frozen? ⟨g', qs.length, none⟩ = false := by
        obtain ⟨_, _, post, hg, _⟩ := hcp.row.parts
        exact frozen_of_row wr g' _ _ _ hg
      obtain ⟨e0, e1, e2, e3⟩ := cells4 hcp.at_
      have HE0 := Lib.hid e0
      have HF := Lib.hid hfz
      have HCELL := Lib.hid hcell
      have HD := Lib.hid (fun w' (hb : Below wr.heap.size wr w') => D.copy (D.below (hbw.devs.at_ qs.length hlt) hb))
      generalize hq : ps.getD qs.length 0 = q at *
      clear hq hbw hcp hfz e0 e1 e2 e3
      go_wp2_with fail
      clear hcell
      refine wp_region_last (fun w' => w'.cell? ⟨w.heap.size, 0, none⟩ = some (.slice (some ⟨g', 0, none⟩) M.ds.length c')) 6 (by kernel_rfl) ?_
      change wpAnyZ _ _ _ _ _ _ 7 _ _ wr.drew
      have hS : wr.drew.cell? ⟨w.heap.size, 0, none⟩ = some (.slice (some ⟨g', 0, none⟩) M.ds.length c') := HE0.out
      refine last_val 0 rfl (by kernel_rfl) (by kernel_rfl) (by kernel_rfl) (by decide) (by kernel_rfl) rfl (fun w' hw => exec_faddr rfl (ev rfl) faB0) (fun _ _ _ h => h) hS ?_
      simp only [Act.put, List.setIfInBounds_toArray, List.set_cons_succ, List.set_cons_zero]
      refine last_val 1 rfl (by kernel_rfl) (by kernel_rfl) (by kernel_rfl) (by decide) (by kernel_rfl) rfl (fun w' hw => exec_ld rfl (ev rfl) (ldPs hw)) (fun _ _ _ h => h) hS ?_
      simp only [Act.put, List.setIfInBounds_toArray, List.set_cons_succ, List.set_cons_zero]
      refine last_val 2 rfl (by kernel_rfl) (by kernel_rfl) (by kernel_rfl) (by decide) (by kernel_rfl) rfl (fun w' hw => exec_mv rfl (ev rfl)) (fun _ _ _ h => h) hS ?_
      simp only [Act.put, List.setIfInBounds_toArray, List.set_cons_succ, List.set_cons_zero]
      refine last_val 3 rfl (by kernel_rfl) (by kernel_rfl) (by kernel_rfl) (by decide) (by kernel_rfl) rfl (fun w' hw => exec_mv rfl (ev rfl)) (fun _ _ _ h => h) hS ?_
      simp only [Act.put, List.setIfInBounds_toArray, List.set_cons_succ, List.set_cons_zero]
      refine last_call 4 rfl (by kernel_rfl) rfl (exec_cl Try.call48 rfl (evc (ev rfl) evn)) ((HD.out wr.drew (bd (Below.refl _ _))).mono ?_)
      rintro e w4 ⟨p', F', rfl, hd4, hb4, hF4⟩
      have hb4' : Below wr.heap.size wr w4 := (bd (Below.refl _ wr)).trans hb4
      have hcl : w4.cell? ⟨g', qs.length, none⟩ = some (.pointer (some ⟨q, 0, none⟩)) := (hb4'.cell (p := ⟨g', qs.length, none⟩) (HC.out.row.own_lt g' rfl)).trans HCELL.out
      have hfl : w4.frozen? ⟨g', qs.length, none⟩ = false := (hb4'.frozen (p := ⟨g', qs.length, none⟩) (HC.out.row.own_lt g' rfl)).trans HF.out
      have hS4 : w4.cell? ⟨w.heap.size, 0, none⟩ = some (.slice (some ⟨g', 0, none⟩) M.ds.length c') := (hb4'.cell (p := ⟨w.heap.size, 0, none⟩) (blk_lt HC.out.at_)).trans HE0.out
      refine ⟨_, rfl, fun _ => hS4, ?_⟩
      simp only [Act.put, List.setIfInBounds_toArray, List.set_cons_succ, List.set_cons_zero]
      refine last_turn 5 rfl (by kernel_rfl) rfl (exec_ixP (k := pKind D) rfl (ev rfl) (ev rfl) hlt) (fun _ => hS4) ?_
      simp only [Act.put, List.setIfInBounds_toArray, List.set_cons_succ, List.set_cons_zero]
      refine last_nul 6 rfl (by kernel_rfl) rfl (exec_st rfl (ev rfl) (ev rfl) (stPt hcl hfl)) (fun e => absurd rfl e) ?_
      simp only [Act.put]
      refine wpAnyZ_done (by kernel_rfl) ?_ _
      have HNX := Lib.hid (HC.out.next hlt hb4' hF4 hd4)
      clear hS4 hfl hcl hb4 hb4' hd4 hF4 hS
      go_wp2_with fail
      go_roundw
      case rel => exact ⟨_, qs ++ [p'], by rw [List.length_append, List.length_singleton]; go_num, HNX.out⟩
      case measure => simp [intOf]; omega
    · have hjn : qs.length = M.ds.length := by omega
      have hlj : ¬((qs.length : Int) < (M.ds.length : Int)) := by omega
      have HJ := Lib.hid hjn
      clear hcp hjn
      go_wp2_with fail
      go_ret
      obtain ⟨g1, g2, g3⟩ := HC.out.done HJ.out hone hlen
      exact ⟨_, _, _, _, rfl, g1, g2, g3⟩
end
end Go.Proofs.Ytpcdcnnnkblhiaa
namespace Go.Proofs.Ytpcdcnnnkblhiaa
open Go.RowKit
set_option linter.unusedVariables false
set_option maxRecDepth 100000

def pIds : BIds where
  read := 30
  write := 19
  flush := 18
  fail := 15
  insert := 22
  arm := 17
  crash := 14
  sure := 34
  rot := 27
  devices := 35
  sectors := 33
  dead := 32
  dark := 20
  steps := 21
theorem Dev.wf_of {D : Dev} {w : World} {p : Nat} {v : Value} {Fs : Nat → Nat → Prop} {ps : List Nat} {M : BenS} (h : BenAt (pKind D) w p v Fs ps M) : M.Wf :=
  ⟨h.one, h.cap, fun i hi => ⟨(D.fit (h.devs.at_ i hi)).2, D.cap (h.devs.at_ i hi)⟩⟩
def pBen (D : Dev) : Ben pIds where
  Bn := InB (pKind D)
  lt := InB.lt
  only := InB.only
  wf := fun ⟨_, _, _, _, h⟩ => D.wf_of h
  read := fun d n ⟨_, _, _, _, h⟩ => b_read d n h
  sure := fun d n ⟨_, _, _, _, h⟩ => b_sure d n h
  write := fun d n b hr ⟨_, _, _, e, h⟩ => by
    subst e
    exact (b_write d n b h (fun i hi => hr.at_ hi) (by have := hr.1; omega) hr.2.1).mono fun e w' ⟨h1, h2⟩ => ⟨h1, h2.out⟩
  flush := fun d hr ⟨_, _, _, e, h⟩ => by
    subst e
    exact (b_flush d h (by have := hr.1; omega) hr.2.1).mono fun e w' ⟨h1, h2⟩ => ⟨h1, h2.out⟩
  fail := fun d ⟨_, _, _, e, h⟩ => by
    subst e
    exact (b_fail d h).mono fun e w' ⟨h1, h2⟩ => ⟨h1, h2.out⟩
  insert := fun d ⟨_, _, _, e, h⟩ => by
    subst e
    exact (b_insert d h).mono fun e w' ⟨h1, h2⟩ => ⟨h1, h2.out⟩
  arm := fun {w F p M} n ⟨_, _, _, e, h⟩ => by
    subst e
    exact (b_arm n h).mono fun e w' ⟨h1, h2, h3⟩ => ⟨h1, (Left.obj h2 h3 (by unfold arS6; split <;> rfl)).out⟩
  crash := fun hP ⟨_, _, _, e, h⟩ => by
    subst e
    exact (b_crash h hP).mono fun e w' ⟨h1, h2⟩ => ⟨h1, h2.out⟩
  rot := fun d n i u ⟨_, _, _, e, h⟩ => by
    subst e
    exact (b_rot d n i u h).mono fun e w' ⟨h1, h2⟩ => ⟨h1, h2.out⟩
  devices := fun ⟨_, _, _, _, h⟩ => (b_devices h).mono fun e w' ⟨h1, h2⟩ => ⟨h1, still_below h2⟩
  sectors := fun d ⟨_, _, _, _, h⟩ => b_sectors d h
  dead := fun d ⟨_, _, _, _, h⟩ => b_dead d h
  dark := fun ⟨_, _, _, _, h⟩ => (b_dark h).mono fun e w' ⟨h1, h2⟩ => ⟨h1, still_below h2⟩
  steps := fun ⟨_, _, _, _, h⟩ => (b_steps h).mono fun e w' ⟨h1, h2⟩ => ⟨h1, still_below h2⟩
theorem NewPost.hid {k : BKind} {w w' : World} {ks : List Int} {e : Ending} (h : NewPost k w ks e w') : NewB (InB k) w ks e w' := by
  obtain ⟨h1, h | h⟩ := h
  · obtain ⟨h0, p, v, Fs, ps, h2, h3, h4⟩ := h
    exact ⟨h1, .inl ⟨h0, p, _, h2, ⟨v, Fs, ps, rfl, h3⟩, h4⟩⟩
  · exact ⟨h1, .inr h⟩
/-- The program's bench, with New and Copy. -/
structure BenP extends Ben pIds where
  new : ∀ {w A n c ks}, RdE IntE w w.heap.size A n ks → n ≤ c → c ≤ maxLen → Calls Try.prog 8 #[.slice A n c] w (NewB Bn w ks)
  copy : ∀ {w F p M}, Bn w F p M → Calls Try.prog 12 #[.pointer (some ⟨p, 0, none⟩)] w (CopyB Bn w M)
def theBen : BenP where
  toBen := pBen theDev
  new := fun h1 h2 h3 => (b_new h1 h2 h3).mono fun _ _ h => h.hid
  copy := fun ⟨_, _, _, _, h⟩ => (b_copy h).mono fun e w' ⟨p', v', Fs', ps', h1, h2, h3, h4⟩ => ⟨p', _, h1, ⟨v', Fs', ps', rfl, h2⟩, h3, h4⟩
end Go.Proofs.Ytpcdcnnnkblhiaa
