/-
  The reference's device: Rot, New.
-/
import Derived.Test.YtokdmcikoaagmaaDskC
import Derived.Test.YtokdmcikoaagmaaBlkH
namespace Go.Proofs.Ytokdmcikoaagmaa
open Go.RowKit
set_option linter.unusedVariables false

theorem exec_xor8 {ρ : Operand → Value} {o : Oper} {x y : Operand} {w : World} {t r : TypeId} {a b : UInt8} (ho : o.op = .binOp .xor t x y r) (hx : ρ x = .int .u8 (a.toNat : Int)) (hy : ρ y = .int .u8 (b.toNat : Int)) : (execOp ρ o).run Try.prog w = .ok (.value (.int .u8 ((a ^^^ b).toNat : Int))) w := by
  have h : bits .xor .u8 (a.toNat : Int) (b.toNat : Int) = ((a ^^^ b).toNat : Int) := by
    rw [u8_xor_nat _ _ (UInt8.toNat_lt _) (UInt8.toNat_lt _)]
    simp
  unfold execOp
  simp [ho, hx, hy, eqGuard, binOp, Op.intBits]
  simpa [bits] using h
theorem exec_ix0B {ρ : Operand → Value} {o : Oper} {x y : Operand} {w : World} {b n c j : Nat} (ho : o.op = .indexAddr 58 x y) (hx : ρ x = .slice (some ⟨b, 0, none⟩) n c) (hy : ρ y = .int .i64 (j : Int)) (hj : j < n) : (execOp ρ o).run Try.prog w = .ok (.value (.pointer (some ⟨b, j * 64, none⟩))) w := exec_index0 (E := BlkE) ho hx hy hj
section
variable {w : World} {p b off gg n c k i : Nat} {vL : Value} {S : List Blk} {L : List (Int × Blk)} {g : Bool}
theorem run_ixB (hi : i < 64) : (Instr.indexAt 33 (.pointer (some ⟨b, off, none⟩)) (.int .i64 (i : Int))).run Try.prog w = .ok (.pointer (some ⟨b, off + i, none⟩)) w := by
  simp [Instr.indexAt, asIntOf, run_underlying undB, Instr.sureAddr, add_mid, Try.sizeOf5, hi]
theorem ldU {a : Addr} {x : Int} (h : w.cell? a = some (.int .u8 x)) : (Instr.loadAt 5 (.pointer (some a))).run Try.prog w = .ok (.int .u8 x) w := by simp [go_sem, h]
/-- A block with one byte turned. -/
def rotB (y : Blk) (i : Nat) (u : UInt8) : Blk := if h : i < 64 then y.set i (y[i] ^^^ u) else y
theorem RefD.setByte (h : RefD w p (.slice (some ⟨gg, 0, none⟩) n c) vL S L g) (hk : k < n) (hi : i < 64) (v : UInt8) : RefD (w.setCell ⟨gg, k * 64 + i, none⟩ (.int .u8 (v.toNat : Int))) p (.slice (some ⟨gg, 0, none⟩) n c) vL (S.set k ((S.getD k zeroB).set i v)) L g := by
  have hO : Only (fun b => b = gg) w (w.setCell ⟨gg, k * 64 + i, none⟩ (.int .u8 (v.toNat : Int))) := only_set w gg _ _
  refine ⟨hO.keep h.at_ (fun e => h.S_.not_at h.at_ (by decide) (by rw [e]; rfl)), ?_, h.L_.only hO fun b hb e => ?_⟩
  · refine h.S_.put hk (j := i) (vs := [.int .u8 (v.toNat : Int)]) ((S.getD k zeroB).set i v) ?_ (by show i + 1 ≤ 64; omega)
    show cel ((S.getD k zeroB).set i v) = (cel (S.getD k zeroB)).take i ++ [_] ++ (cel (S.getD k zeroB)).drop (i + 1)
    rw [← cel_set _ hi, List.set_eq_take_append_cons_drop, if_pos (by rw [cel_length]; exact hi)]
    simp
  · rcases h.L_.other h.S_ (by decide) with e' | e'
    · rw [e'] at hb; cases hb
    · exact e' (by rw [hb, e]; rfl)
end
/-- What Rot answers; what is sure then. -/
def rotE (S : List Blk) (g : Bool) (n i : Int) : Int := if 0 ≤ n ∧ n < S.length ∧ 0 ≤ i ∧ i < 64 then (if g = true then 9 else 0) else 2
def rotS (S : List Blk) (g : Bool) (n i : Int) (u : UInt8) : List Blk := if rotE S g n i = 0 then S.set n.toNat (rotB (S.getD n.toNat zeroB) i.toNat u) else S
set_option maxHeartbeats 2000000 in
theorem r_rot_ok (p k i : Nat) (u : UInt8) (vS vL : Value) (S : List Blk) (L : List (Int × Blk)) (w : World) (h : RefD w p vS vL S L false) (hk : k < S.length) (hi : i < 64) :
    Calls Try.prog 30 #[.pointer (some ⟨p, 0, none⟩), .int .i64 k, .int .i64 i, .int .u8 (u.toNat : Int)] w fun e w' => e = .returned (.int .i64 0) ∧ RefD w' p vS vL (S.set k (rotB (S.getD k zeroB) i u)) L false ∧ Only (foot p vS vL) w w' := by
  obtain ⟨c0, c1, c2⟩ := cells3 h.at_
  obtain ⟨gS, cS, rfl⟩ := h.S_.slice rfl (by omega)
  obtain ⟨bS, oS, hSe, hSl, rS⟩ := h.S_.rd.blk hk
  injection hSe with hSe
  injection hSe with e1 e2
  subst e1 e2
  obtain ⟨y, hy⟩ : ∃ y, S.getD k zeroB = y := ⟨_, rfl⟩
  have HY := Lib.hid hy
  rw [hy] at rS
  have hc := rS i _ (cel_at _ hi)
  rw [Nat.zero_add, byt_get _ hi] at hc
  have hkl : (k : Int) < (S.length : Int) := by omega
  have hil : (i : Int) < 64 := by omega
  have HT := Lib.hid (show w.there gS (k * 64 + i) 1 from h.S_.there hk (j := i) (m := 1) (by show i + 1 ≤ 64; omega))
  have hf : w.frozen? ⟨gS, k * 64 + i, none⟩ = false := by have := (HT.out 0 (by omega)).2; simpa using this
  have HH := Lib.hid h
  have HA := Lib.hid c0
  have HR : rotB (S.getD k zeroB) i u = y.set i (y[i] ^^^ u) := by rw [hy]; unfold rotB; rw [dif_pos hi]
  have HRR := Lib.hid HR
  have HC := Lib.hid hc
  clear h rS HR hy
  go_enter Try.func30, Try.ntmps30
  go_wp2_with fail
  refine wp_region_still_tail 19 (by kernel_rfl) (by kernel_rfl) ?_
  simp only [List.take_succ_cons, List.take_zero, List.drop_succ_cons, List.drop_zero]
  refine st_val rfl (exec_mv rfl (ev rfl)) ?_
  simp only [Act.put, List.setIfInBounds_toArray, List.set_cons_succ, List.set_cons_zero]
  refine st_val rfl (exec_nil rfl (ev rfl)) ?_
  simp only [Act.put, List.setIfInBounds_toArray, List.set_cons_succ, List.set_cons_zero]
  refine st_val rfl (exec_faddr rfl (ev rfl) faD0) ?_
  simp only [Act.put, List.setIfInBounds_toArray, List.set_cons_succ, List.set_cons_zero]
  refine st_val rfl (exec_ld rfl (ev rfl) (ldB HA.out)) ?_
  simp only [Act.put, List.setIfInBounds_toArray, List.set_cons_succ, List.set_cons_zero]
  refine st_val rfl (exec_mv rfl (ev rfl)) ?_
  simp only [Act.put, List.setIfInBounds_toArray, List.set_cons_succ, List.set_cons_zero]
  refine st_val rfl (exec_mv rfl (ev rfl)) ?_
  simp only [Act.put, List.setIfInBounds_toArray, List.set_cons_succ, List.set_cons_zero]
  refine st_val rfl (exec_mv rfl (ev rfl)) ?_
  simp only [Act.put, List.setIfInBounds_toArray, List.set_cons_succ, List.set_cons_zero]
  refine st_val rfl (exec_nil rfl (ev rfl)) ?_
  simp only [Act.put, List.setIfInBounds_toArray, List.set_cons_succ, List.set_cons_zero]
  refine st_val rfl (exec_faddr rfl (ev rfl) faD0) ?_
  simp only [Act.put, List.setIfInBounds_toArray, List.set_cons_succ, List.set_cons_zero]
  refine st_val rfl (exec_ld rfl (ev rfl) (ldB HA.out)) ?_
  simp only [Act.put, List.setIfInBounds_toArray, List.set_cons_succ, List.set_cons_zero]
  refine st_val rfl (exec_mv rfl (ev rfl)) ?_
  simp only [Act.put, List.setIfInBounds_toArray, List.set_cons_succ, List.set_cons_zero]
  refine st_val rfl (exec_mv rfl (ev rfl)) ?_
  simp only [Act.put, List.setIfInBounds_toArray, List.set_cons_succ, List.set_cons_zero]
  refine st_val rfl (exec_ix0B rfl (ev rfl) (ev rfl) hk) ?_
  simp only [Act.put, List.setIfInBounds_toArray, List.set_cons_succ, List.set_cons_zero]
  refine st_val rfl (exec_ix rfl (ev rfl) (ev rfl) (run_ixB hi)) ?_
  simp only [Act.put, List.setIfInBounds_toArray, List.set_cons_succ, List.set_cons_zero]
  refine st_val rfl (exec_ld rfl (ev rfl) (ldU HC.out)) ?_
  simp only [Act.put, List.setIfInBounds_toArray, List.set_cons_succ, List.set_cons_zero]
  refine st_val rfl (exec_mv rfl (ev rfl)) ?_
  simp only [Act.put, List.setIfInBounds_toArray, List.set_cons_succ, List.set_cons_zero]
  refine st_val rfl (exec_xor8 rfl (ev rfl) (ev rfl)) ?_
  simp only [Act.put, List.setIfInBounds_toArray, List.set_cons_succ, List.set_cons_zero]
  refine st_val rfl (exec_ix0B rfl (ev rfl) (ev rfl) hk) ?_
  simp only [Act.put, List.setIfInBounds_toArray, List.set_cons_succ, List.set_cons_zero]
  refine st_val rfl (exec_ix rfl (ev rfl) (ev rfl) (run_ixB hi)) ?_
  simp only [Act.put, List.setIfInBounds_toArray, List.set_cons_succ, List.set_cons_zero]
  refine wpStill_nil ?_
  change wpList _ _ _ _ _ w.drew
  have hcd : w.drew.cell? ⟨gS, k * 64 + i, none⟩ = some (.int .u8 (y[i].toNat : Int)) := HC.out
  have hfd : w.drew.frozen? ⟨gS, k * 64 + i, none⟩ = false := hf
  go_wp2_with fail
  go_ret
  refine ⟨rfl, ?_, (Only.refl _ w).drew.setCell (.inl (.inr (.inl rfl))) _⟩
  rw [HRR.out]
  have hset := HH.out.setByte hk hi (y[i] ^^^ u)
  rw [HY.out] at hset
  simp only [UInt8.toNat_xor] at hset
  exact ⟨hset.at_, hset.S_, hset.L_⟩
theorem r_rot_no (p : Nat) (n i : Int) (u : UInt8) (vS vL : Value) (S : List Blk) (L : List (Int × Blk)) (g : Bool) (w : World) (h : RefD w p vS vL S L g) (he : rotE S g n i ≠ 0) :
    Calls Try.prog 30 #[.pointer (some ⟨p, 0, none⟩), .int .i64 n, .int .i64 i, .int .u8 (u.toNat : Int)] w fun e w' => e = .returned (.int .i64 (rotE S g n i)) ∧ w = w' := by
  obtain ⟨c0, c1, c2⟩ := cells3 h.at_
  obtain ⟨A, c, rfl, hc1, hc2⟩ := h.S_.form
  have hor : n < 0 ∨ (0 ≤ n ∧ (S.length : Int) ≤ n) ∨ (0 ≤ n ∧ n < S.length ∧ i < 0) ∨ (0 ≤ n ∧ n < S.length ∧ 0 ≤ i ∧ 64 ≤ i) ∨ (0 ≤ n ∧ n < S.length ∧ 0 ≤ i ∧ i < 64) := by omega
  rcases hor with h1 | ⟨h1, h2⟩ | ⟨h1, h2, h3⟩ | ⟨h1, h2, h3, h4⟩ | ⟨h1, h2, h3, h4⟩
  rotate_right 1
  · cases g
    · exact absurd (show rotE S false n i = 0 by unfold rotE; rw [if_pos ⟨h1, h2, h3, h4⟩]; rfl) he
    · have HE := Lib.hid (show rotE S true n i = 9 by unfold rotE; rw [if_pos ⟨h1, h2, h3, h4⟩]; rfl)
      clear he
      go_enter Try.func30, Try.ntmps30
      go_wp2
      go_ret
      exact ⟨ret_int HE.out.symm, rfl⟩
  all_goals
    have HE := Lib.hid (show rotE S g n i = 2 by unfold rotE; rw [if_neg (by omega)])
    clear he
    go_enter Try.func30, Try.ntmps30
    go_wp2
    go_ret
    exact ⟨ret_int HE.out.symm, rfl⟩
theorem r_rot (p : Nat) (n i : Int) (u : UInt8) (vS vL : Value) (S : List Blk) (L : List (Int × Blk)) (g : Bool) (w : World) (h : RefD w p vS vL S L g) :
    Calls Try.prog 30 #[.pointer (some ⟨p, 0, none⟩), .int .i64 n, .int .i64 i, .int .u8 (u.toNat : Int)] w fun e w' => e = .returned (.int .i64 (rotE S g n i)) ∧ RefD w' p vS vL (rotS S g n i u) L g ∧ Only (foot p vS vL) w w' := by
  by_cases he : rotE S g n i = 0
  · have hin : 0 ≤ n ∧ n < S.length ∧ 0 ≤ i ∧ i < 64 := by
      by_cases h0 : 0 ≤ n ∧ n < S.length ∧ 0 ≤ i ∧ i < 64
      · exact h0
      · unfold rotE at he; rw [if_neg h0] at he; omega
    have hg : g = false := by
      cases g
      · rfl
      · unfold rotE at he; rw [if_pos hin] at he; simp at he
    subst hg
    obtain ⟨k, rfl⟩ := Int.eq_ofNat_of_zero_le hin.1
    obtain ⟨j, rfl⟩ := Int.eq_ofNat_of_zero_le hin.2.2.1
    have e : rotS S false k j u = S.set k (rotB (S.getD k zeroB) j u) := by unfold rotS; rw [if_pos he]; rfl
    rw [e, he]
    exact r_rot_ok p k j u vS vL S L w h (by omega) (by omega)
  · have e : rotS S g n i u = S := by unfold rotS; rw [if_neg he]
    rw [e]
    exact (r_rot_no p n i u vS vL S L g w h he).mono fun e w' ⟨h1, h2⟩ => by subst h2; exact ⟨h1, h, Only.refl _ _⟩
set_option maxHeartbeats 1000000 in
theorem r_new_ok (k : Nat) (w : World) (h1 : 1 ≤ k) (h2 : k ≤ 512) :
    Calls Try.prog 9 #[.int .i64 k] w fun e w' => ∃ p vS, e = .returned (.tuple #[.pointer (some ⟨p, 0, none⟩), .int .i64 0]) ∧ RefD w' p vS (.slice none 0 0) (List.replicate k zeroB) [] false ∧ Below w.heap.size w w' ∧ ∀ b, foot p vS (.slice none 0 0) b → w.heap.size ≤ b := by
  go_enter Try.func9, Try.ntmps9
  have HM := Lib.hid (heap_alloc_new w (.cells (madeCells (cel zeroB).toArray (k * 64)) 33))
  have HB := Lib.hid ((Below.refl w.heap.size w).alloc (Nat.le_refl _) (.cells (madeCells (cel zeroB).toArray (k * 64)) 33))
  have HSZ := Lib.hid (World.size_alloc w (.cells (madeCells (cel zeroB).toArray (k * 64)) 33))
  go_wp2_with (first | (refine wpList_val rfl (exec_make (n := k) rfl rfl rfl (by omega)) ?_))
  generalize w.alloc (.cells (madeCells (cel zeroB).toArray (k * 64)) 33) = w1 at *
  go_ret2
  have hS : MadeE BlkE w1 0 (.slice (some ⟨w.heap.size, 0, none⟩) k k) (List.replicate k zeroB) := MadeE.of_block (E := BlkE) HM.out (by rw [← flat_zeros]; rfl) (Nat.zero_le _) (by simp) (by unfold maxLen; omega)
  have hnw := heap_alloc_new w1 (.cells #[.slice (some ⟨w.heap.size, 0, none⟩) k k, .slice none 0 0, .bool false] 65)
  rw [HSZ.out] at hnw
  refine ⟨w.heap.size + 1, _, rfl, ⟨hnw, hS.below ((Below.refl _ _).alloc (Nat.le_refl _) _), MadeE.nil _ _⟩, HB.out.alloc HB.out.size _, fun b hb => ?_⟩
  rcases hb with rfl | hb | hb
  · omega
  · simp [Value.ownBlock] at hb; omega
  · simp [Value.ownBlock] at hb
theorem r_new_no (n : Int) (w : World) (h : ¬(1 ≤ n ∧ n ≤ 512)) :
    Calls Try.prog 9 #[.int .i64 n] w fun e w' => e = .returned (.tuple #[.pointer none, .int .i64 2]) ∧ w = w' := by
  have hor : n < 1 ∨ (1 ≤ n ∧ 512 < n) := by omega
  clear h
  rcases hor with h | ⟨h, h'⟩
  all_goals
    go_enter Try.func9, Try.ntmps9
    go_wp2
    go_ret2
    exact ⟨rfl, rfl⟩
end Go.Proofs.Ytokdmcikoaagmaa
