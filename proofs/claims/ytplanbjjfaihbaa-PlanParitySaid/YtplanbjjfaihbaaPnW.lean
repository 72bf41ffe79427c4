/-
  The program's parity of a write: after, moved, Parity.
-/
import Derived.Test.YtplanbjjfaihbaaPnQ
import Derived.Test.YtplanbjjfaihbaaPnU
import Derived.Test.YtplanbjjfaihbaaWallDelta
namespace Go.Proofs.Ytplanbjjfaihbaa
open Go.RowKit
set_option linter.unusedVariables false
set_option linter.unusedSimpArgs false
set_option maxRecDepth 100000


theorem exec_mk0Y {α : Type} {E : Elt α} {ρ : Operand → Value} {o : Oper} {w : World} (ho : o.op = .buildSlice E.s 0 #[]) :
    (execOp ρ o).run Try.prog w = .ok (.value (.slice (some ⟨w.heap.size, 0, none⟩) 0 0)) (w.alloc (.cells #[] E.t)) := by
  have hz := run_zeroE E w
  have hs := run_sizeE E w
  unfold execOp
  simp [ho, Instr.buildSlice, run_underlying E.und, hs, Instr.fill, newRow]
  congr 2
  exact Array.eq_empty_of_size_eq_zero (by simp)
set_option maxHeartbeats 1000000 in
theorem pcloneB (A : Option Addr) (n c N : Nat) (l : List Blk) (w : World) (hl : RdB w N A n l) (hN : N ≤ w.heap.size) (h0 : 0 < n) (hn : n ≤ 1000) :
    Calls Try.prog 31 #[.slice A n c] w fun e w' => ∃ g cc, e = .returned (.slice (some ⟨g, 0, none⟩) n cc) ∧ MadeE BlkE w' w.heap.size (.slice (some ⟨g, 0, none⟩) n cc) l ∧ Below w.heap.size w w' := by
  have hq : ∀ (w : World) (a : Option Addr) (n c n' c' : Nat), (binOp .eql BlkE.s (.slice a n c) (.slice none n' c')).run Try.prog w = .ok (.bool a.isNone) w := fun w a n c n' c' => Lib.run_eql_slice_nil w _ _ a n c n' c' BlkE.und
  simp only [show BlkE.s = 32 from rfl] at hq
  obtain ⟨b, off, rfl, _, _⟩ := hl.2 0 h0
  have hA := (Below.refl w.heap.size w).alloc (Nat.le_refl _) (.cells #[] BlkE.t)
  have hm : MadeE BlkE (w.alloc (.cells #[] BlkE.t)) w.heap.size (.slice (some ⟨w.heap.size, 0, none⟩) 0 0) [] := MadeE.of_block (E := BlkE) (cs := #[]) (heap_alloc_new w _) rfl (Nat.le_refl _) rfl (Nat.zero_le _)
  have hr1 : RdE BlkE (w.alloc (.cells #[] BlkE.t)) N (some ⟨b, off, none⟩) n l := RdE.below (E := BlkE) hl (hA.mono hN)
  have HL : Hid (l.length = n) := Lib.hid hl.1
  have HA := Lib.hid hA
  have HM := Lib.hid hm
  have HR := Lib.hid hr1
  have HLE := Lib.hid hA.size
  have HNN : Hid (([] : List Blk).length + n ≤ 34359738368) := Lib.hid (by simp; omega)
  clear hA hm hr1 hl
  go_enter Try.func31, Try.ntmps31
  go_wp2_with (first | (refine wpList_val rfl (exec_mk0Y (E := BlkE) rfl) ?_) | (at_builtin; refine wpList_appE BlkE rfl _ _ rfl w.heap.size _ _ _ _ [] l _ rfl rfl HM.out HR.out HLE.out HNN.out ?_) | fail)
  intro v' w' hm' hg
  have hm2 : MadeE BlkE w' w.heap.size v' l := by simpa using hm'
  obtain ⟨A', cc, rfl, hrd, _, _⟩ := hm2.open_ HL.out
  obtain ⟨g, off', rfl, _, _⟩ := hrd.2 0 h0
  have hoff : off' = 0 := by
    rcases hm2.2 with ⟨hv, _⟩ | ⟨g', cap, cur, hv, _⟩
    · cases hv
    · injection hv with e1 e2 e3
      injection e1 with e1
      injection e1
  subst hoff
  have HM2 := Lib.hid hm2
  have HB2 : Hid (Below w.heap.size w w') := Lib.hid (HA.out.grown hg HLE.out fun k e => by simp [Value.ownBlock] at e; omega)
  clear hm' hm2 hrd hg
  go_wp2_with fail
  go_ret
  exact ⟨_, _, rfl, HM2.out, HB2.out⟩
theorem exec_indexB0 {ρ : Operand → Value} {o : Oper} {x y : Operand} {w : World} {b n c j : Nat} (ho : o.op = .indexAddr 32 x y) (hx : ρ x = .slice (some ⟨b, 0, none⟩) n c) (hy : ρ y = .int .i64 (j : Int)) (hj : j < n) : (execOp ρ o).run Try.prog w = .ok (.value (.pointer (some ⟨b, j * 64, none⟩))) w := by
  have h := exec_index (w := w) ho hx hy hj
  rwa [Nat.zero_add] at h
set_option maxHeartbeats 2000000 in
theorem pafter (A A1 A2 : Option Addr) (n c c1 c2 N : Nat) (l : List Bool) (a b : List Blk) (w : World) (hl : RdE BoE w N A n l) (ha : RdB w N A1 n a) (hb : RdB w N A2 n b) (hN : N ≤ w.heap.size) (h0 : 0 < n) (hn : n ≤ 15) :
    Calls Try.prog 24 #[.slice A n c, .slice A1 n c1, .slice A2 n c2] w fun e w' => ∃ g cc, e = .returned (.slice (some ⟨g, 0, none⟩) n cc) ∧ MadeE BlkE w' w.heap.size (.slice (some ⟨g, 0, none⟩) n cc) (mixN l a b n) ∧ Below w.heap.size w w' := by
  obtain ⟨B, hB⟩ : ∃ B, w.heap.size = B := ⟨_, rfl⟩
  have HBE := Lib.hid hB
  have HL0 := Lib.hid hl
  have HA0 := Lib.hid ha
  have HB0 := Lib.hid hb
  have HNB : Hid (N ≤ B) := Lib.hid (by omega)
  have HAL : Hid (a.length = n) := Lib.hid ha.1
  have HN15 := Lib.hid hn
  have HN0 := Lib.hid h0
  clear hl ha hb hN hn h0 hB
  go_enter Try.func24, Try.ntmps24
  go_upto_region 1 with fail
  refine wp_region_lit ?_
  refine wpList_valn rfl (exec_mv rfl (ev rfl)) ?_
  simp only [Act.put, List.setIfInBounds_toArray, List.set_cons_succ, List.set_cons_zero]
  refine wpList_call rfl (exec_cl Try.call31 rfl (evc (ev rfl) evn)) ?_
  refine (pcloneB A1 n c1 N a w HA0.out (by rw [HBE.out]; exact HNB.out) HN0.out (by have := HN15.out; omega)).mono ?_
  rintro e w1 ⟨g, cc, rfl, hm, hb⟩
  have HM := Lib.hid hm
  have HW := Lib.hid hb
  clear hm hb
  rw [HBE.out] at HM HW
  refine ⟨_, rfl, ?_⟩
  simp only [Act.put, List.setIfInBounds_toArray, List.set_cons_succ, List.set_cons_zero]
  refine wpList_valn rfl (exec_as rfl (ev rfl)) ?_
  simp only [Act.put, List.setIfInBounds_toArray, List.set_cons_succ, List.set_cons_zero]
  refine wpList_nil ?_
  go_upto_region 2 with fail
  refine wp_region_lit ?_
  refine wpList_valn rfl (exec_mv rfl (ev rfl)) ?_
  simp only [Act.put, List.setIfInBounds_toArray, List.set_cons_succ, List.set_cons_zero]
  refine wpList_valn rfl (exec_lenQ Try.underlying22 rfl (ev rfl)) ?_
  simp only [Act.put, List.setIfInBounds_toArray, List.set_cons_succ, List.set_cons_zero]
  refine wpList_valn rfl (exec_mv rfl evk) ?_
  simp only [Act.put, List.setIfInBounds_toArray, List.set_cons_succ, List.set_cons_zero]
  refine wpList_nil ?_
  go_wp2_with fail
  go_loopw [14] (fun v wr => ∃ i : Nat, v = .int .i64 i ∧ i ≤ n ∧ MadeE BlkE wr B (.slice (some ⟨g, 0, none⟩) n cc) (mixN l a b i ++ a.drop i) ∧ Below B w wr) (fun v _ => n - (intOf v).toNat)
  case atStart => exact ⟨0, by go_num, by omega, HM.out, HW.out⟩
  case round =>
    obtain ⟨i, rfl, hi, hc, hb⟩ := hrel
    have HC := Lib.hid hc
    have HWR := Lib.hid hb
    have HSZ : Hid (B ≤ wr.heap.size) := Lib.hid (by have := hb.size; rw [HBE.out] at this; exact this)
    have HL' := Lib.hid (HL0.out.below (hb.mono HNB.out))
    have HA' := Lib.hid (HA0.out.below (hb.mono HNB.out))
    have HB' := Lib.hid (HB0.out.below (hb.mono HNB.out))
    clear hc hb
    by_cases hlt : i < n
    · have HI := Lib.hid hlt
      have HT : Hid (decide ((i : Int) < (n : Int)) = true) := Lib.hid (decide_eq_true (by omega))
      obtain ⟨bq, oq, rfl, _, hq⟩ := HL'.out.bo hlt
      obtain ⟨ba, oa, rfl, hba, hca⟩ := HA'.out.2 i hlt
      obtain ⟨bb, ob, rfl, hbb, hcb⟩ := HB'.out.2 i hlt
      obtain ⟨x, hx⟩ : ∃ x, l.getD i false = x := ⟨_, rfl⟩
      rw [hx] at hq
      have HX := Lib.hid hx
      have HQC : Hid (wr.cell? ⟨bq, oq + i * BoE.n, none⟩ = some (.bool x)) := Lib.hid (by show wr.cell? ⟨bq, oq + i * 1, none⟩ = _; rw [Nat.mul_one]; exact hq)
      obtain ⟨ya, hya⟩ : ∃ y, a.getD i zeroB = y := ⟨_, rfl⟩
      obtain ⟨yb, hyb⟩ : ∃ y, b.getD i zeroB = y := ⟨_, rfl⟩
      rw [hya] at hca
      rw [hyb] at hcb
      have HYA := Lib.hid hya
      have HYB := Lib.hid hyb
      have HCA := Lib.hid hca
      have HCB := Lib.hid hcb
      have HAJ : Hid (IntKind.i64.wrap ((i : Int) + 1) = ((i + 1 : Nat) : Int)) := Lib.hid (by have := HN15.out; rw [i64k ⟨by omega, by omega⟩]; omega)
      clear hq hca hcb hx hya hyb hba hbb hlt hi
      go_upto_region 3 with fail
      refine wp_region_lit ?_
      refine wpList_valn (v := .bool true) rfl (exec_lss true rfl (ev rfl) (ev rfl) HT.out) ?_
      simp only [Act.put, List.setIfInBounds_toArray, List.set_cons_succ, List.set_cons_zero]
      refine wpList_nil ?_
      go_upto_region 4 with fail
      refine wp_region_lit ?_
      refine wpList_valn rfl (exec_mv rfl (ev rfl)) ?_
      simp only [Act.put, List.setIfInBounds_toArray, List.set_cons_succ, List.set_cons_zero]
      refine wpList_valn rfl (exec_indexE (E := BoE) rfl (ev rfl) (ev rfl) HI.out) ?_
      simp only [Act.put, List.setIfInBounds_toArray, List.set_cons_succ, List.set_cons_zero]
      refine wpList_valn rfl (exec_ld rfl (ev rfl) (ldBoE HQC.out)) ?_
      simp only [Act.put, List.setIfInBounds_toArray, List.set_cons_succ, List.set_cons_zero]
      refine wpList_valn rfl (exec_as rfl (ev rfl)) ?_
      simp only [Act.put, List.setIfInBounds_toArray, List.set_cons_succ, List.set_cons_zero]
      refine wpList_valn rfl (exec_as rfl (ev rfl)) ?_
      simp only [Act.put, List.setIfInBounds_toArray, List.set_cons_succ, List.set_cons_zero]
      refine wpList_nil ?_
      cases x
      · go_upto_region 5 with fail
        refine wp_region_lit ?_
        refine wpList_valn rfl (exec_mv rfl (ev rfl)) ?_
        simp only [Act.put, List.setIfInBounds_toArray, List.set_cons_succ, List.set_cons_zero]
        refine wpList_nil ?_
        go_upto_region 7 with fail
        refine wp_region_lit ?_
        refine wpList_valn rfl (exec_add rfl (ev rfl) evk HAJ.out) ?_
        simp only [Act.put, List.setIfInBounds_toArray, List.set_cons_succ, List.set_cons_zero]
        refine wpList_valn rfl (exec_mv rfl (ev rfl)) ?_
        simp only [Act.put, List.setIfInBounds_toArray, List.set_cons_succ, List.set_cons_zero]
        refine wpList_nil ?_
        go_wp2_with fail
        go_roundw
        case rel => exact ⟨i + 1, by go_num, HI.out, by rw [← mix_next_f (by rw [HAL.out]; exact HI.out) HX.out]; exact HC.out, HWR.out⟩
        case measure => have := HI.out; simp [intOf]; omega
      · go_upto_region 5 with fail
        refine wp_region_lit ?_
        refine wpList_valn rfl (exec_mv rfl (ev rfl)) ?_
        simp only [Act.put, List.setIfInBounds_toArray, List.set_cons_succ, List.set_cons_zero]
        refine wpList_nil ?_
        go_upto_region 6 with fail
        refine wp_region_lit ?_
        refine wpList_valn rfl (exec_mv rfl (ev rfl)) ?_
        simp only [Act.put, List.setIfInBounds_toArray, List.set_cons_succ, List.set_cons_zero]
        refine wpList_valn rfl (exec_mv rfl (ev rfl)) ?_
        simp only [Act.put, List.setIfInBounds_toArray, List.set_cons_succ, List.set_cons_zero]
        refine wpList_valn rfl (exec_mv rfl (ev rfl)) ?_
        simp only [Act.put, List.setIfInBounds_toArray, List.set_cons_succ, List.set_cons_zero]
        refine wpList_valn rfl (exec_mv rfl (ev rfl)) ?_
        simp only [Act.put, List.setIfInBounds_toArray, List.set_cons_succ, List.set_cons_zero]
        refine wpList_valn rfl (exec_index rfl (ev rfl) (ev rfl) HI.out) ?_
        simp only [Act.put, List.setIfInBounds_toArray, List.set_cons_succ, List.set_cons_zero]
        refine wpList_valn rfl (exec_load rfl (ev rfl) HCB.out) ?_
        simp only [Act.put, List.setIfInBounds_toArray, List.set_cons_succ, List.set_cons_zero]
        refine wpList_valn rfl (exec_indexB0 rfl (ev rfl) (ev rfl) HI.out) ?_
        simp only [Act.put, List.setIfInBounds_toArray, List.set_cons_succ, List.set_cons_zero]
        refine wpList_nuln rfl (exec_store rfl (ev rfl) (ev rfl) (HC.out.there (E := BlkE) (j := 0) (m := 64) HI.out (Nat.le_refl _))) ?_
        simp only [Act.put, List.setIfInBounds_toArray, List.set_cons_succ, List.set_cons_zero]
        refine wpList_nil ?_
        go_upto_region 7 with fail
        refine wp_region_lit ?_
        refine wpList_valn rfl (exec_add rfl (ev rfl) evk HAJ.out) ?_
        simp only [Act.put, List.setIfInBounds_toArray, List.set_cons_succ, List.set_cons_zero]
        refine wpList_valn rfl (exec_mv rfl (ev rfl)) ?_
        simp only [Act.put, List.setIfInBounds_toArray, List.set_cons_succ, List.set_cons_zero]
        refine wpList_nil ?_
        go_wp2_with fail
        go_roundw
        case rel => exact ⟨i + 1, by go_num, HI.out, by rw [← mix_next_t HX.out, ← mix_set (by rw [HAL.out]; exact HI.out), HYB.out]; exact HC.out.store (E := BlkE) HI.out yb, below_setCells HWR.out (HC.out.parts).2.1 _⟩
        case measure => have := HI.out; simp [intOf]; omega
    have hin : i = n := by omega
    subst hin
    have HT : Hid (decide ((i : Int) < (i : Int)) = false) := Lib.hid (decide_eq_false (by omega))
    clear hlt hi
    go_upto_region 3 with fail
    refine wp_region_lit ?_
    refine wpList_valn (v := .bool false) rfl (exec_lss false rfl (ev rfl) (ev rfl) HT.out) ?_
    simp only [Act.put, List.setIfInBounds_toArray, List.set_cons_succ, List.set_cons_zero]
    refine wpList_nil ?_
    go_upto_region 8 with fail
    refine wp_region_lit ?_
    refine wpList_valn rfl (exec_mv rfl (ev rfl)) ?_
    simp only [Act.put, List.setIfInBounds_toArray, List.set_cons_succ, List.set_cons_zero]
    refine wpList_valn rfl (exec_as rfl (ev rfl)) ?_
    simp only [Act.put, List.setIfInBounds_toArray, List.set_cons_succ, List.set_cons_zero]
    refine wpList_nil ?_
    go_wp2_with fail
    go_ret
    rw [HBE.out]
    refine ⟨g, cc, rfl, ?_, HWR.out⟩
    have h := HC.out
    rwa [List.drop_of_length_le (by rw [HAL.out]; exact Nat.le_refl _), List.append_nil] at h
set_option maxHeartbeats 2000000 in
theorem pmoved (A A1 A2 : Option Addr) (n c c1 c2 N : Nat) (l : List Bool) (a b : List Blk) (p : Blk) (w : World) (hl : RdE BoE w N A n l) (ha : RdB w N A1 n a) (hb : RdB w N A2 n b) (hN : N ≤ w.heap.size) (hn : n ≤ 15) :
    Calls Try.prog 25 #[blk p, .slice A n c, .slice A1 n c1, .slice A2 n c2] w fun e w' => e = .returned (blk (parN l a b p n)) ∧ Below w.heap.size w w' := by
  obtain ⟨hc0, hc1, hbw⟩ := laidP w p
  obtain ⟨w2, hw2⟩ : ∃ w2, two_ w p zeroB = w2 := ⟨_, rfl⟩
  rw [hw2] at hc0 hc1 hbw
  have HW2 := Lib.hid hw2
  obtain ⟨B, hB⟩ : ∃ B, w.heap.size = B := ⟨_, rfl⟩
  rw [hB] at hc0 hc1 hbw
  have HBE := Lib.hid hB
  have HC0 := Lib.hid hc0
  have HC1 := Lib.hid hc1
  have HW := Lib.hid hbw
  have HL0 := Lib.hid hl
  have HA0 := Lib.hid ha
  have HB0 := Lib.hid hb
  have HNB : Hid (N ≤ B) := Lib.hid (by omega)
  have HN15 := Lib.hid hn
  clear hl ha hb hN hn hc0 hc1 hbw hw2 hB
  go_enter Try.func25, Try.ntmps25
  go_upto_region 1 with (first | (refine wpList_val rfl (exec_box rfl rfl) ?_) | (refine wpList_val rfl (exec_alloc rfl) ?_) | fail)
  have hs := HW2.out
  unfold two_ at hs
  try simp only [World.size_alloc]
  rw [hs]
  clear hs HW2
  rw [HBE.out]
  refine wp_region_lit ?_
  refine wpList_valn rfl (exec_mv rfl (ev rfl)) ?_
  simp only [Act.put, List.setIfInBounds_toArray, List.set_cons_succ, List.set_cons_zero]
  refine wpList_valn rfl (exec_lenQ Try.underlying22 rfl (ev rfl)) ?_
  simp only [Act.put, List.setIfInBounds_toArray, List.set_cons_succ, List.set_cons_zero]
  refine wpList_valn rfl (exec_mv rfl evk) ?_
  simp only [Act.put, List.setIfInBounds_toArray, List.set_cons_succ, List.set_cons_zero]
  refine wpList_nil ?_
  go_wp2_with fail
  go_loopw [13] (fun v wr => ∃ i : Nat, v = .int .i64 i ∧ i ≤ n ∧ CelB wr B (parN l a b p i) ∧ CelB wr (B + 1) zeroB ∧ Below B w wr) (fun v _ => n - (intOf v).toNat)
  case atStart => exact ⟨0, by go_num, by omega, HC0.out, HC1.out, HW.out⟩
  case round =>
    obtain ⟨i, rfl, hi, hc, hz, hb⟩ := hrel
    have HC := Lib.hid hc
    have HZ := Lib.hid hz
    clear hz
    have HWR := Lib.hid hb
    have HSZ : Hid (B ≤ wr.heap.size) := Lib.hid (by have := hb.size; rw [HBE.out] at this; exact this)
    have HL' := Lib.hid (HL0.out.below (hb.mono HNB.out))
    have HA' := Lib.hid (HA0.out.below (hb.mono HNB.out))
    have HB' := Lib.hid (HB0.out.below (hb.mono HNB.out))
    clear hc hb
    by_cases hlt : i < n
    · have HI := Lib.hid hlt
      have HT : Hid (decide ((i : Int) < (n : Int)) = true) := Lib.hid (decide_eq_true (by omega))
      obtain ⟨bq, oq, rfl, _, hq⟩ := HL'.out.bo hlt
      obtain ⟨ba, oa, rfl, hba, hca⟩ := HA'.out.2 i hlt
      obtain ⟨bb, ob, rfl, hbb, hcb⟩ := HB'.out.2 i hlt
      obtain ⟨x, hx⟩ : ∃ x, l.getD i false = x := ⟨_, rfl⟩
      rw [hx] at hq
      have HX := Lib.hid hx
      have HQC : Hid (wr.cell? ⟨bq, oq + i * BoE.n, none⟩ = some (.bool x)) := Lib.hid (by show wr.cell? ⟨bq, oq + i * 1, none⟩ = _; rw [Nat.mul_one]; exact hq)
      obtain ⟨ya, hya⟩ : ∃ y, a.getD i zeroB = y := ⟨_, rfl⟩
      obtain ⟨yb, hyb⟩ : ∃ y, b.getD i zeroB = y := ⟨_, rfl⟩
      rw [hya] at hca
      rw [hyb] at hcb
      have HYA := Lib.hid hya
      have HYB := Lib.hid hyb
      have HCA := Lib.hid hca
      have HCB := Lib.hid hcb
      have HAJ : Hid (IntKind.i64.wrap ((i : Int) + 1) = ((i + 1 : Nat) : Int)) := Lib.hid (by have := HN15.out; rw [i64k ⟨by omega, by omega⟩]; omega)
      clear hq hca hcb hx hya hyb hba hbb hlt hi
      go_upto_region 2 with fail
      refine wp_region_lit ?_
      refine wpList_valn (v := .bool true) rfl (exec_lss true rfl (ev rfl) (ev rfl) HT.out) ?_
      simp only [Act.put, List.setIfInBounds_toArray, List.set_cons_succ, List.set_cons_zero]
      refine wpList_nil ?_
      go_upto_region 3 with fail
      refine wp_region_lit ?_
      refine wpList_valn rfl (exec_mv rfl (ev rfl)) ?_
      simp only [Act.put, List.setIfInBounds_toArray, List.set_cons_succ, List.set_cons_zero]
      refine wpList_valn rfl (exec_indexE (E := BoE) rfl (ev rfl) (ev rfl) HI.out) ?_
      simp only [Act.put, List.setIfInBounds_toArray, List.set_cons_succ, List.set_cons_zero]
      refine wpList_valn rfl (exec_ld rfl (ev rfl) (ldBoE HQC.out)) ?_
      simp only [Act.put, List.setIfInBounds_toArray, List.set_cons_succ, List.set_cons_zero]
      refine wpList_valn rfl (exec_as rfl (ev rfl)) ?_
      simp only [Act.put, List.setIfInBounds_toArray, List.set_cons_succ, List.set_cons_zero]
      refine wpList_valn rfl (exec_as rfl (ev rfl)) ?_
      simp only [Act.put, List.setIfInBounds_toArray, List.set_cons_succ, List.set_cons_zero]
      refine wpList_nil ?_
      cases x
      · go_upto_region 4 with fail
        refine wp_region_lit ?_
        refine wpList_valn rfl (exec_mv rfl (ev rfl)) ?_
        simp only [Act.put, List.setIfInBounds_toArray, List.set_cons_succ, List.set_cons_zero]
        refine wpList_nil ?_
        go_upto_region 6 with fail
        refine wp_region_lit ?_
        refine wpList_valn rfl (exec_add rfl (ev rfl) evk HAJ.out) ?_
        simp only [Act.put, List.setIfInBounds_toArray, List.set_cons_succ, List.set_cons_zero]
        refine wpList_valn rfl (exec_mv rfl (ev rfl)) ?_
        simp only [Act.put, List.setIfInBounds_toArray, List.set_cons_succ, List.set_cons_zero]
        refine wpList_nil ?_
        go_wp2_with fail
        go_roundw
        case rel => exact ⟨i + 1, by go_num, HI.out, by rw [parN_f HX.out]; exact HC.out, HZ.out, HWR.out⟩
        case measure => have := HI.out; simp [intOf]; omega
      · go_upto_region 4 with fail
        refine wp_region_lit ?_
        refine wpList_valn rfl (exec_mv rfl (ev rfl)) ?_
        simp only [Act.put, List.setIfInBounds_toArray, List.set_cons_succ, List.set_cons_zero]
        refine wpList_nil ?_
        go_upto_region 5 with fail
        refine wp_region_still_tail 9 (by kernel_rfl) (by kernel_rfl) ?_
        simp only [List.take_succ_cons, List.take_zero, List.drop_succ_cons, List.drop_zero]
        refine st_val rfl (exec_load rfl (ev rfl) HC.out.rng) ?_
        simp only [Act.put, List.setIfInBounds_toArray, List.set_cons_succ, List.set_cons_zero]
        refine st_val rfl (exec_mv rfl (ev rfl)) ?_
        simp only [Act.put, List.setIfInBounds_toArray, List.set_cons_succ, List.set_cons_zero]
        refine st_val rfl (exec_mv rfl (ev rfl)) ?_
        simp only [Act.put, List.setIfInBounds_toArray, List.set_cons_succ, List.set_cons_zero]
        refine st_val rfl (exec_index rfl (ev rfl) (ev rfl) HI.out) ?_
        simp only [Act.put, List.setIfInBounds_toArray, List.set_cons_succ, List.set_cons_zero]
        refine st_val rfl (exec_load rfl (ev rfl) HCA.out) ?_
        simp only [Act.put, List.setIfInBounds_toArray, List.set_cons_succ, List.set_cons_zero]
        refine st_val rfl (exec_mv rfl (ev rfl)) ?_
        simp only [Act.put, List.setIfInBounds_toArray, List.set_cons_succ, List.set_cons_zero]
        refine st_val rfl (exec_mv rfl (ev rfl)) ?_
        simp only [Act.put, List.setIfInBounds_toArray, List.set_cons_succ, List.set_cons_zero]
        refine st_val rfl (exec_index rfl (ev rfl) (ev rfl) HI.out) ?_
        simp only [Act.put, List.setIfInBounds_toArray, List.set_cons_succ, List.set_cons_zero]
        refine st_val rfl (exec_load rfl (ev rfl) HCB.out) ?_
        simp only [Act.put, List.setIfInBounds_toArray, List.set_cons_succ, List.set_cons_zero]
        refine wpStill_nil ?_
        change wpList _ _ _ _ _ (World.drew _)
        refine wpList_call rfl (exec_cl Try.call32 rfl (evc (ev rfl) (evc (ev rfl) (evc (ev rfl) evn)))) ?_
        refine (delta_any _ _ _ _).mono ?_
        rintro e w5 ⟨rfl, hb5⟩
        have hS5 : Below wr.heap.size wr w5 := (bd (Below.refl _ _)).trans hb5
        have HC5 := Lib.hid (HC.out.below hS5)
        have HZ5 := Lib.hid (HZ.out.below hS5)
        have HW5 := Lib.hid (HWR.out.trans (hS5.mono HSZ.out))
        clear hb5 hS5
        refine ⟨_, rfl, ?_⟩
        simp only [Act.put, List.setIfInBounds_toArray, List.set_cons_succ, List.set_cons_zero]
        refine wpList_nuln rfl (exec_store rfl (ev rfl) (ev rfl) HC5.out.there) ?_
        simp only [Act.put, List.setIfInBounds_toArray, List.set_cons_succ, List.set_cons_zero]
        refine wpList_nil ?_
        go_upto_region 6 with fail
        refine wp_region_lit ?_
        refine wpList_valn rfl (exec_add rfl (ev rfl) evk HAJ.out) ?_
        simp only [Act.put, List.setIfInBounds_toArray, List.set_cons_succ, List.set_cons_zero]
        refine wpList_valn rfl (exec_mv rfl (ev rfl)) ?_
        simp only [Act.put, List.setIfInBounds_toArray, List.set_cons_succ, List.set_cons_zero]
        refine wpList_nil ?_
        go_wp2_with fail
        go_roundw
        case rel => exact ⟨i + 1, by go_num, HI.out, by rw [parN_t HX.out, HYA.out, HYB.out]; exact HC5.out.put _, HZ5.out.off (Nat.succ_ne_self B), below_put HW5.out (Nat.le_refl B) _⟩
        case measure => have := HI.out; simp [intOf]; omega
    have hin : i = n := by omega
    subst hin
    have HT : Hid (decide ((i : Int) < (i : Int)) = false) := Lib.hid (decide_eq_false (by omega))
    clear hlt hi
    go_upto_region 2 with fail
    refine wp_region_lit ?_
    refine wpList_valn (v := .bool false) rfl (exec_lss false rfl (ev rfl) (ev rfl) HT.out) ?_
    simp only [Act.put, List.setIfInBounds_toArray, List.set_cons_succ, List.set_cons_zero]
    refine wpList_nil ?_
    go_upto_region 7 with fail
    refine wp_region_lit ?_
    refine wpList_valn rfl (exec_load rfl (ev rfl) HC.out.rng) ?_
    simp only [Act.put, List.setIfInBounds_toArray, List.set_cons_succ, List.set_cons_zero]
    refine wpList_nuln rfl (exec_store rfl (ev rfl) (ev rfl) HZ.out.there) ?_
    simp only [Act.put, List.setIfInBounds_toArray, List.set_cons_succ, List.set_cons_zero]
    refine wpList_nil ?_
    go_wp2_with fail
    refine bodyPost_ret (res_blk (c := parN l a b p i) rfl _ _ (B + 1) rfl (World.rangeAt_setCells_same _ _ _ _ (by rw [cel_length]; exact HZ.out.there))) rfl ⟨rfl, ?_⟩
    rw [HBE.out]
    exact below_put HWR.out (Nat.le_succ B) _
set_option maxHeartbeats 4000000 in
theorem pparity (z : Int) (A A1 A2 : Option Addr) (n c n1 c1 n2 c2 N : Nat) (l : List Bool) (a b : List Blk) (p : Blk) (w : World) (hl : RdE BoE w N A n l) (ha : RdB w N A1 n1 a) (hb : RdB w N A2 n2 b) (hN : N ≤ w.heap.size) (hn : n ≤ maxLen) :
    Calls Try.prog 12 #[.int .u8 z, .slice A n c, .slice A1 n1 c1, .slice A2 n2 c2, blk p] w fun e w' => e = .returned (.tuple #[blk (parB z l a b p), .int .i64 (parE z l a b)]) ∧ Below w.heap.size w w' := by
  obtain ⟨hc0, hc1, hbw⟩ := laidP w p
  obtain ⟨w2, hw2⟩ : ∃ w2, two_ w p zeroB = w2 := ⟨_, rfl⟩
  rw [hw2] at hc0 hc1 hbw
  have HW2 := Lib.hid hw2
  obtain ⟨B, hB⟩ : ∃ B, w.heap.size = B := ⟨_, rfl⟩
  rw [hB] at hc0 hc1 hbw
  have HBE := Lib.hid hB
  have HC0 := Lib.hid hc0
  have HC1 := Lib.hid hc1
  have HW := Lib.hid hbw
  have HLL := Lib.hid hl.1
  have HAL := Lib.hid ha.1
  have HBL := Lib.hid hb.1
  have HNB : Hid (N ≤ B) := Lib.hid (by omega)
  have HSZ : Hid (N ≤ w2.heap.size) := Lib.hid (by have := hbw.size; omega)
  have HL := Lib.hid (hl.below (hbw.mono HNB.out))
  have HA := Lib.hid (ha.below (hbw.mono HNB.out))
  have HB := Lib.hid (hb.below (hbw.mono HNB.out))
  clear hl ha hb hN hn hc0 hc1 hbw hw2 hB
  go_enter Try.func12, Try.ntmps12
  go_upto_region 1 with (first | (refine wpList_val rfl (exec_box rfl rfl) ?_) | (refine wpList_val rfl (exec_alloc rfl) ?_) | fail)
  have hs := HW2.out
  unfold two_ at hs
  try simp only [World.size_alloc]
  rw [hs]
  clear hs HW2
  rw [HBE.out]
  refine wp_region_lit ?_
  refine wpList_valn rfl (exec_mv rfl (ev rfl)) ?_
  simp only [Act.put, List.setIfInBounds_toArray, List.set_cons_succ, List.set_cons_zero]
  refine wpList_valn rfl (exec_lenQ Try.underlying22 rfl (ev rfl)) ?_
  simp only [Act.put, List.setIfInBounds_toArray, List.set_cons_succ, List.set_cons_zero]
  refine wpList_valn rfl (exec_as rfl (ev rfl)) ?_
  simp only [Act.put, List.setIfInBounds_toArray, List.set_cons_succ, List.set_cons_zero]
  refine wpList_nil ?_
  go_upto_region 2 with fail
  by_cases k0 : ¬ (2 ≤ n ∧ n ≤ 15)
  · have T0 : Hid (mayN (n : Int) = false) := Lib.hid (decide_eq_false (by omega))
    have HQ : Hid (parQ l a b = false) := Lib.hid (decide_eq_false fun e => by obtain ⟨e1, e2, e3, e4⟩ := e; rw [HLL.out] at e1 e2 e3 e4; rw [HAL.out] at e3; rw [HBL.out] at e4; omega)
    have HV : Hid (parB z l a b p = zeroB) := Lib.hid (if_neg (by rw [HQ.out]; decide))
    have HE : Hid (parE z l a b = 2) := Lib.hid (if_neg (by rw [HQ.out]; decide))
    clear k0
    refine wp_region_lit ?_
    refine wpList_valn rfl (exec_mv rfl (ev rfl)) ?_
    simp only [Act.put, List.setIfInBounds_toArray, List.set_cons_succ, List.set_cons_zero]
    refine wpList_call rfl (exec_cl Try.call16 rfl (evc (ev rfl) evn)) ?_
    refine (pmayd (n : Int) w2).mono ?_
    rintro e w' ⟨rfl, rfl⟩
    rw [T0.out]
    refine ⟨_, rfl, ?_⟩
    simp only [Act.put, List.setIfInBounds_toArray, List.set_cons_succ, List.set_cons_zero]
    refine wpList_valn (v := .bool true) rfl (exec_not false rfl (ev rfl)) ?_
    simp only [Act.put, List.setIfInBounds_toArray, List.set_cons_succ, List.set_cons_zero]
    refine wpList_skips 4 (v := .bool true) rfl (exec_mv rfl (ev rfl)) (by kernel_rfl) ?_
    simp only [skipAct, List.take_succ_cons, List.take_zero, List.drop_succ_cons, List.drop_zero, Act.put, List.setIfInBounds_toArray, List.set_cons_succ, List.set_cons_zero]
    refine wpList_valn (v := .bool true) rfl (exec_pt rfl (ev rfl) evk) ?_
    simp only [Act.put, List.setIfInBounds_toArray, List.set_cons_succ, List.set_cons_zero]
    refine wpList_skips 4 (v := .bool true) rfl (exec_mv rfl (ev rfl)) (by kernel_rfl) ?_
    simp only [skipAct, List.take_succ_cons, List.take_zero, List.drop_succ_cons, List.drop_zero, Act.put, List.setIfInBounds_toArray, List.set_cons_succ, List.set_cons_zero]
    refine wpList_valn (v := .bool true) rfl (exec_pt rfl (ev rfl) evk) ?_
    simp only [Act.put, List.setIfInBounds_toArray, List.set_cons_succ, List.set_cons_zero]
    refine wpList_nil ?_
    go_upto_region 3 with fail
    refine wp_region_lit ?_
    refine wpList_valn rfl (exec_build (c := zeroB) (parts := []) rfl rfl) ?_
    simp only [Act.put, List.setIfInBounds_toArray, List.set_cons_succ, List.set_cons_zero]
    refine wpList_nuln rfl (exec_store rfl (ev rfl) (ev rfl) HC1.out.there) ?_
    simp only [Act.put, List.setIfInBounds_toArray, List.set_cons_succ, List.set_cons_zero]
    refine wpList_valn rfl (exec_as rfl evk) ?_
    simp only [Act.put, List.setIfInBounds_toArray, List.set_cons_succ, List.set_cons_zero]
    refine wpList_nil ?_
    go_wp2_with fail
    (try simp only [Exit.inBlock, Exit.then])
    exact bodyPost_ret (res_blk2 (c := zeroB) rfl _ _ (B + 1) rfl (World.rangeAt_setCells_same _ _ _ _ (by rw [cel_length]; exact HC1.out.there))) rfl ⟨by rw [HV.out, HE.out]; rfl, by rw [HBE.out]; exact below_put HW.out (Nat.le_succ B) _⟩
  have T0 : Hid (mayN (n : Int) = true) := Lib.hid (decide_eq_true (by omega))
  by_cases k1 : ¬ n1 = n
  · have T1 : Hid (((n1 : Int) != (n : Int)) = true) := Lib.hid (by simp only [bne_iff_ne, ne_eq]; omega)
    have HQ : Hid (parQ l a b = false) := Lib.hid (decide_eq_false fun e => by obtain ⟨e1, e2, e3, e4⟩ := e; rw [HLL.out] at e1 e2 e3 e4; rw [HAL.out] at e3; rw [HBL.out] at e4; omega)
    have HV : Hid (parB z l a b p = zeroB) := Lib.hid (if_neg (by rw [HQ.out]; decide))
    have HE : Hid (parE z l a b = 2) := Lib.hid (if_neg (by rw [HQ.out]; decide))
    clear k0 k1
    refine wp_region_lit ?_
    refine wpList_valn rfl (exec_mv rfl (ev rfl)) ?_
    simp only [Act.put, List.setIfInBounds_toArray, List.set_cons_succ, List.set_cons_zero]
    refine wpList_call rfl (exec_cl Try.call16 rfl (evc (ev rfl) evn)) ?_
    refine (pmayd (n : Int) w2).mono ?_
    rintro e w' ⟨rfl, rfl⟩
    rw [T0.out]
    refine ⟨_, rfl, ?_⟩
    simp only [Act.put, List.setIfInBounds_toArray, List.set_cons_succ, List.set_cons_zero]
    refine wpList_valn (v := .bool false) rfl (exec_not true rfl (ev rfl)) ?_
    simp only [Act.put, List.setIfInBounds_toArray, List.set_cons_succ, List.set_cons_zero]
    refine wpList_valn (v := .bool false) rfl (exec_mv rfl (ev rfl)) ?_
    simp only [Act.put, List.setIfInBounds_toArray, List.set_cons_succ, List.set_cons_zero]
    refine wpList_val (wanted_of rfl rfl rfl rfl) (exec_mv rfl (ev rfl)) ?_
    simp only [Act.put, List.setIfInBounds_toArray, List.set_cons_succ, List.set_cons_zero]
    refine wpList_val (wanted_of rfl rfl rfl rfl) (exec_lenQ Try.underlying32 rfl (ev rfl)) ?_
    simp only [Act.put, List.setIfInBounds_toArray, List.set_cons_succ, List.set_cons_zero]
    refine wpList_val (wanted_of rfl rfl rfl rfl) (exec_mv rfl (ev rfl)) ?_
    simp only [Act.put, List.setIfInBounds_toArray, List.set_cons_succ, List.set_cons_zero]
    refine wpList_val (v := .bool true) (wanted_of rfl rfl rfl rfl) (exec_neInt true rfl (ev rfl) (ev rfl) T1.out) ?_
    simp only [Act.put, List.setIfInBounds_toArray, List.set_cons_succ, List.set_cons_zero]
    refine wpList_valn (v := .bool true) rfl (exec_pf rfl (ev rfl) (ev rfl)) ?_
    simp only [Act.put, List.setIfInBounds_toArray, List.set_cons_succ, List.set_cons_zero]
    refine wpList_skips 4 (v := .bool true) rfl (exec_mv rfl (ev rfl)) (by kernel_rfl) ?_
    simp only [skipAct, List.take_succ_cons, List.take_zero, List.drop_succ_cons, List.drop_zero, Act.put, List.setIfInBounds_toArray, List.set_cons_succ, List.set_cons_zero]
    refine wpList_valn (v := .bool true) rfl (exec_pt rfl (ev rfl) evk) ?_
    simp only [Act.put, List.setIfInBounds_toArray, List.set_cons_succ, List.set_cons_zero]
    refine wpList_nil ?_
    go_upto_region 3 with fail
    refine wp_region_lit ?_
    refine wpList_valn rfl (exec_build (c := zeroB) (parts := []) rfl rfl) ?_
    simp only [Act.put, List.setIfInBounds_toArray, List.set_cons_succ, List.set_cons_zero]
    refine wpList_nuln rfl (exec_store rfl (ev rfl) (ev rfl) HC1.out.there) ?_
    simp only [Act.put, List.setIfInBounds_toArray, List.set_cons_succ, List.set_cons_zero]
    refine wpList_valn rfl (exec_as rfl evk) ?_
    simp only [Act.put, List.setIfInBounds_toArray, List.set_cons_succ, List.set_cons_zero]
    refine wpList_nil ?_
    go_wp2_with fail
    (try simp only [Exit.inBlock, Exit.then])
    exact bodyPost_ret (res_blk2 (c := zeroB) rfl _ _ (B + 1) rfl (World.rangeAt_setCells_same _ _ _ _ (by rw [cel_length]; exact HC1.out.there))) rfl ⟨by rw [HV.out, HE.out]; rfl, by rw [HBE.out]; exact below_put HW.out (Nat.le_succ B) _⟩
  have T1 : Hid (((n1 : Int) != (n : Int)) = false) := Lib.hid (by simp only [bne_eq_false_iff_eq]; omega)
  by_cases k2 : ¬ n2 = n
  · have T2 : Hid (((n2 : Int) != (n : Int)) = true) := Lib.hid (by simp only [bne_iff_ne, ne_eq]; omega)
    have HQ : Hid (parQ l a b = false) := Lib.hid (decide_eq_false fun e => by obtain ⟨e1, e2, e3, e4⟩ := e; rw [HLL.out] at e1 e2 e3 e4; rw [HAL.out] at e3; rw [HBL.out] at e4; omega)
    have HV : Hid (parB z l a b p = zeroB) := Lib.hid (if_neg (by rw [HQ.out]; decide))
    have HE : Hid (parE z l a b = 2) := Lib.hid (if_neg (by rw [HQ.out]; decide))
    clear k0 k1 k2
    refine wp_region_lit ?_
    refine wpList_valn rfl (exec_mv rfl (ev rfl)) ?_
    simp only [Act.put, List.setIfInBounds_toArray, List.set_cons_succ, List.set_cons_zero]
    refine wpList_call rfl (exec_cl Try.call16 rfl (evc (ev rfl) evn)) ?_
    refine (pmayd (n : Int) w2).mono ?_
    rintro e w' ⟨rfl, rfl⟩
    rw [T0.out]
    refine ⟨_, rfl, ?_⟩
    simp only [Act.put, List.setIfInBounds_toArray, List.set_cons_succ, List.set_cons_zero]
    refine wpList_valn (v := .bool false) rfl (exec_not true rfl (ev rfl)) ?_
    simp only [Act.put, List.setIfInBounds_toArray, List.set_cons_succ, List.set_cons_zero]
    refine wpList_valn (v := .bool false) rfl (exec_mv rfl (ev rfl)) ?_
    simp only [Act.put, List.setIfInBounds_toArray, List.set_cons_succ, List.set_cons_zero]
    refine wpList_val (wanted_of rfl rfl rfl rfl) (exec_mv rfl (ev rfl)) ?_
    simp only [Act.put, List.setIfInBounds_toArray, List.set_cons_succ, List.set_cons_zero]
    refine wpList_val (wanted_of rfl rfl rfl rfl) (exec_lenQ Try.underlying32 rfl (ev rfl)) ?_
    simp only [Act.put, List.setIfInBounds_toArray, List.set_cons_succ, List.set_cons_zero]
    refine wpList_val (wanted_of rfl rfl rfl rfl) (exec_mv rfl (ev rfl)) ?_
    simp only [Act.put, List.setIfInBounds_toArray, List.set_cons_succ, List.set_cons_zero]
    refine wpList_val (v := .bool false) (wanted_of rfl rfl rfl rfl) (exec_neInt false rfl (ev rfl) (ev rfl) T1.out) ?_
    simp only [Act.put, List.setIfInBounds_toArray, List.set_cons_succ, List.set_cons_zero]
    refine wpList_valn (v := .bool false) rfl (exec_pf rfl (ev rfl) (ev rfl)) ?_
    simp only [Act.put, List.setIfInBounds_toArray, List.set_cons_succ, List.set_cons_zero]
    refine wpList_valn (v := .bool false) rfl (exec_mv rfl (ev rfl)) ?_
    simp only [Act.put, List.setIfInBounds_toArray, List.set_cons_succ, List.set_cons_zero]
    refine wpList_val (wanted_of rfl rfl rfl rfl) (exec_mv rfl (ev rfl)) ?_
    simp only [Act.put, List.setIfInBounds_toArray, List.set_cons_succ, List.set_cons_zero]
    refine wpList_val (wanted_of rfl rfl rfl rfl) (exec_lenQ Try.underlying32 rfl (ev rfl)) ?_
    simp only [Act.put, List.setIfInBounds_toArray, List.set_cons_succ, List.set_cons_zero]
    refine wpList_val (wanted_of rfl rfl rfl rfl) (exec_mv rfl (ev rfl)) ?_
    simp only [Act.put, List.setIfInBounds_toArray, List.set_cons_succ, List.set_cons_zero]
    refine wpList_val (v := .bool true) (wanted_of rfl rfl rfl rfl) (exec_neInt true rfl (ev rfl) (ev rfl) T2.out) ?_
    simp only [Act.put, List.setIfInBounds_toArray, List.set_cons_succ, List.set_cons_zero]
    refine wpList_valn (v := .bool true) rfl (exec_pf rfl (ev rfl) (ev rfl)) ?_
    simp only [Act.put, List.setIfInBounds_toArray, List.set_cons_succ, List.set_cons_zero]
    refine wpList_nil ?_
    go_upto_region 3 with fail
    refine wp_region_lit ?_
    refine wpList_valn rfl (exec_build (c := zeroB) (parts := []) rfl rfl) ?_
    simp only [Act.put, List.setIfInBounds_toArray, List.set_cons_succ, List.set_cons_zero]
    refine wpList_nuln rfl (exec_store rfl (ev rfl) (ev rfl) HC1.out.there) ?_
    simp only [Act.put, List.setIfInBounds_toArray, List.set_cons_succ, List.set_cons_zero]
    refine wpList_valn rfl (exec_as rfl evk) ?_
    simp only [Act.put, List.setIfInBounds_toArray, List.set_cons_succ, List.set_cons_zero]
    refine wpList_nil ?_
    go_wp2_with fail
    (try simp only [Exit.inBlock, Exit.then])
    exact bodyPost_ret (res_blk2 (c := zeroB) rfl _ _ (B + 1) rfl (World.rangeAt_setCells_same _ _ _ _ (by rw [cel_length]; exact HC1.out.there))) rfl ⟨by rw [HV.out, HE.out]; rfl, by rw [HBE.out]; exact below_put HW.out (Nat.le_succ B) _⟩
  have T2 : Hid (((n2 : Int) != (n : Int)) = false) := Lib.hid (by simp only [bne_eq_false_iff_eq]; omega)
  have HQ : Hid (parQ l a b = true) := Lib.hid (decide_eq_true (by rw [HLL.out, HAL.out, HBL.out]; omega))
  have HN15 : Hid (n ≤ 15) := Lib.hid (by omega)
  have HN0 : Hid (0 < n) := Lib.hid (by omega)
  have HN1 : Hid (n1 = n) := Lib.hid (by omega)
  have HN2 : Hid (n2 = n) := Lib.hid (by omega)
  clear k0 k1 k2
  refine wp_region_lit ?_
  refine wpList_valn rfl (exec_mv rfl (ev rfl)) ?_
  simp only [Act.put, List.setIfInBounds_toArray, List.set_cons_succ, List.set_cons_zero]
  refine wpList_call rfl (exec_cl Try.call16 rfl (evc (ev rfl) evn)) ?_
  refine (pmayd (n : Int) w2).mono ?_
  rintro e w' ⟨rfl, rfl⟩
  rw [T0.out]
  refine ⟨_, rfl, ?_⟩
  simp only [Act.put, List.setIfInBounds_toArray, List.set_cons_succ, List.set_cons_zero]
  refine wpList_valn (v := .bool false) rfl (exec_not true rfl (ev rfl)) ?_
  simp only [Act.put, List.setIfInBounds_toArray, List.set_cons_succ, List.set_cons_zero]
  refine wpList_valn (v := .bool false) rfl (exec_mv rfl (ev rfl)) ?_
  simp only [Act.put, List.setIfInBounds_toArray, List.set_cons_succ, List.set_cons_zero]
  refine wpList_val (wanted_of rfl rfl rfl rfl) (exec_mv rfl (ev rfl)) ?_
  simp only [Act.put, List.setIfInBounds_toArray, List.set_cons_succ, List.set_cons_zero]
  refine wpList_val (wanted_of rfl rfl rfl rfl) (exec_lenQ Try.underlying32 rfl (ev rfl)) ?_
  simp only [Act.put, List.setIfInBounds_toArray, List.set_cons_succ, List.set_cons_zero]
  refine wpList_val (wanted_of rfl rfl rfl rfl) (exec_mv rfl (ev rfl)) ?_
  simp only [Act.put, List.setIfInBounds_toArray, List.set_cons_succ, List.set_cons_zero]
  refine wpList_val (v := .bool false) (wanted_of rfl rfl rfl rfl) (exec_neInt false rfl (ev rfl) (ev rfl) T1.out) ?_
  simp only [Act.put, List.setIfInBounds_toArray, List.set_cons_succ, List.set_cons_zero]
  refine wpList_valn (v := .bool false) rfl (exec_pf rfl (ev rfl) (ev rfl)) ?_
  simp only [Act.put, List.setIfInBounds_toArray, List.set_cons_succ, List.set_cons_zero]
  refine wpList_valn (v := .bool false) rfl (exec_mv rfl (ev rfl)) ?_
  simp only [Act.put, List.setIfInBounds_toArray, List.set_cons_succ, List.set_cons_zero]
  refine wpList_val (wanted_of rfl rfl rfl rfl) (exec_mv rfl (ev rfl)) ?_
  simp only [Act.put, List.setIfInBounds_toArray, List.set_cons_succ, List.set_cons_zero]
  refine wpList_val (wanted_of rfl rfl rfl rfl) (exec_lenQ Try.underlying32 rfl (ev rfl)) ?_
  simp only [Act.put, List.setIfInBounds_toArray, List.set_cons_succ, List.set_cons_zero]
  refine wpList_val (wanted_of rfl rfl rfl rfl) (exec_mv rfl (ev rfl)) ?_
  simp only [Act.put, List.setIfInBounds_toArray, List.set_cons_succ, List.set_cons_zero]
  refine wpList_val (v := .bool false) (wanted_of rfl rfl rfl rfl) (exec_neInt false rfl (ev rfl) (ev rfl) T2.out) ?_
  simp only [Act.put, List.setIfInBounds_toArray, List.set_cons_succ, List.set_cons_zero]
  refine wpList_valn (v := .bool false) rfl (exec_pf rfl (ev rfl) (ev rfl)) ?_
  simp only [Act.put, List.setIfInBounds_toArray, List.set_cons_succ, List.set_cons_zero]
  refine wpList_nil ?_
  rw [HN1.out] at HA
  rw [HN2.out] at HB
  rw [HN1.out, HN2.out]
  go_upto_region 4 with fail
  refine wp_region_lit ?_
  refine wpList_valn rfl (exec_mv rfl (ev rfl)) ?_
  simp only [Act.put, List.setIfInBounds_toArray, List.set_cons_succ, List.set_cons_zero]
  refine wpList_nil ?_
  by_cases z2 : z = 2
  · have T4 : Hid ((z == 2) = true) := Lib.hid (by rw [beq_iff_eq]; exact z2)
    have HBN : Hid (b.length = n) := Lib.hid (by rw [HBL.out, HN2.out])
    have HV : Hid (parB z l a b p = fold (mixN l b b n)) := Lib.hid ((if_pos HQ.out).trans ((if_pos z2).trans (by rw [mixN_same n (by rw [HBN.out]; exact Nat.le_refl _), List.take_of_length_le (by rw [HBN.out]; exact Nat.le_refl _)])))
    have HE : Hid (parE z l a b = 0) := Lib.hid ((if_pos HQ.out).trans (if_pos (by omega)))
    clear z2
    go_upto_region 5 with fail
    refine wp_region_lit ?_
    refine wpList_valn (v := .bool true) rfl (exec_eqU8 true rfl (ev rfl) evk T4.out) ?_
    simp only [Act.put, List.setIfInBounds_toArray, List.set_cons_succ, List.set_cons_zero]
    refine wpList_valn (v := .bool true) rfl (exec_as rfl (ev rfl)) ?_
    simp only [Act.put, List.setIfInBounds_toArray, List.set_cons_succ, List.set_cons_zero]
    refine wpList_nil ?_
    go_upto_region 8 with fail
    refine wp_region_lit ?_
    refine wpList_valn rfl (exec_mv rfl (ev rfl)) ?_
    simp only [Act.put, List.setIfInBounds_toArray, List.set_cons_succ, List.set_cons_zero]
    refine wpList_valn rfl (exec_as rfl (ev rfl)) ?_
    simp only [Act.put, List.setIfInBounds_toArray, List.set_cons_succ, List.set_cons_zero]
    refine wpList_nil ?_
    go_upto_region 9 with fail
    refine wp_region_lit ?_
    refine wpList_valn rfl (exec_mv rfl (ev rfl)) ?_
    simp only [Act.put, List.setIfInBounds_toArray, List.set_cons_succ, List.set_cons_zero]
    refine wpList_valn rfl (exec_mv rfl (ev rfl)) ?_
    simp only [Act.put, List.setIfInBounds_toArray, List.set_cons_succ, List.set_cons_zero]
    refine wpList_valn rfl (exec_mv rfl (ev rfl)) ?_
    simp only [Act.put, List.setIfInBounds_toArray, List.set_cons_succ, List.set_cons_zero]
    refine wpList_call rfl (exec_cl Try.call24 rfl (evc (ev rfl) (evc (ev rfl) (evc (ev rfl) evn)))) ?_
    refine (pafter A A2 A2 n c c2 c2 N l b b w2 HL.out HB.out HB.out HSZ.out HN0.out HN15.out).mono ?_
    rintro e w3 ⟨g, cc, rfl, hm, hb⟩
    have HM := Lib.hid hm
    have HW3 := Lib.hid (HW.out.trans (hb.mono (by have := HC0.out.lt; omega)))
    have HC3 := Lib.hid (HC1.out.below hb)
    clear hm hb
    refine ⟨_, rfl, ?_⟩
    simp only [Act.put, List.setIfInBounds_toArray, List.set_cons_succ, List.set_cons_zero]
    refine wpList_call rfl (exec_cl Try.call23 rfl (evc (ev rfl) evn)) ?_
    refine (fold_any (some ⟨g, 0, none⟩) n cc w3.heap.size (mixN l b b n) w3 HM.out.rd (Nat.le_refl _) (by have := HN15.out; unfold maxLen; omega)).mono ?_
    rintro e w4 ⟨rfl, hb⟩
    have HW4 := Lib.hid (HW3.out.trans (hb.mono (by have := HC3.out.lt; omega)))
    have HC4 := Lib.hid (HC3.out.below hb)
    clear hb
    refine ⟨_, rfl, ?_⟩
    simp only [Act.put, List.setIfInBounds_toArray, List.set_cons_succ, List.set_cons_zero]
    refine wpList_nuln rfl (exec_store rfl (ev rfl) (ev rfl) HC4.out.there) ?_
    simp only [Act.put, List.setIfInBounds_toArray, List.set_cons_succ, List.set_cons_zero]
    refine wpList_valn rfl (exec_as rfl evk) ?_
    simp only [Act.put, List.setIfInBounds_toArray, List.set_cons_succ, List.set_cons_zero]
    refine wpList_nil ?_
    go_wp2_with fail
    (try simp only [Exit.inBlock, Exit.then])
    exact bodyPost_ret (res_blk2 (c := fold ((mixN l b b n))) rfl _ _ (B + 1) rfl (World.rangeAt_setCells_same _ _ _ _ (by rw [cel_length]; exact HC4.out.there))) rfl ⟨by rw [HV.out, HE.out]; rfl, by rw [HBE.out]; exact below_put HW4.out (Nat.le_succ B) _⟩
  have T4 : Hid ((z == 2) = false) := Lib.hid (beq_eq_false_iff_ne.2 z2)
  go_upto_region 5 with fail
  refine wp_region_lit ?_
  refine wpList_valn (v := .bool false) rfl (exec_eqU8 false rfl (ev rfl) evk T4.out) ?_
  simp only [Act.put, List.setIfInBounds_toArray, List.set_cons_succ, List.set_cons_zero]
  refine wpList_valn (v := .bool false) rfl (exec_as rfl (ev rfl)) ?_
  simp only [Act.put, List.setIfInBounds_toArray, List.set_cons_succ, List.set_cons_zero]
  refine wpList_nil ?_
  by_cases z3 : z = 3
  · have T5 : Hid ((z == 3) = true) := Lib.hid (by rw [beq_iff_eq]; exact z3)
    have HV : Hid (parB z l a b p = fold (mixN l a b n)) := Lib.hid ((if_pos HQ.out).trans ((if_neg z2).trans ((if_pos z3).trans (by rw [HLL.out]))))
    have HE : Hid (parE z l a b = 0) := Lib.hid ((if_pos HQ.out).trans (if_pos (by omega)))
    clear z2 z3
    go_upto_region 6 with fail
    refine wp_region_lit ?_
    refine wpList_valn (v := .bool true) rfl (exec_eqU8 true rfl (ev rfl) evk T5.out) ?_
    simp only [Act.put, List.setIfInBounds_toArray, List.set_cons_succ, List.set_cons_zero]
    refine wpList_valn (v := .bool true) rfl (exec_as rfl (ev rfl)) ?_
    simp only [Act.put, List.setIfInBounds_toArray, List.set_cons_succ, List.set_cons_zero]
    refine wpList_nil ?_
    go_upto_region 9 with fail
    refine wp_region_lit ?_
    refine wpList_valn rfl (exec_mv rfl (ev rfl)) ?_
    simp only [Act.put, List.setIfInBounds_toArray, List.set_cons_succ, List.set_cons_zero]
    refine wpList_valn rfl (exec_mv rfl (ev rfl)) ?_
    simp only [Act.put, List.setIfInBounds_toArray, List.set_cons_succ, List.set_cons_zero]
    refine wpList_valn rfl (exec_mv rfl (ev rfl)) ?_
    simp only [Act.put, List.setIfInBounds_toArray, List.set_cons_succ, List.set_cons_zero]
    refine wpList_call rfl (exec_cl Try.call24 rfl (evc (ev rfl) (evc (ev rfl) (evc (ev rfl) evn)))) ?_
    refine (pafter A A1 A2 n c c1 c2 N l a b w2 HL.out HA.out HB.out HSZ.out HN0.out HN15.out).mono ?_
    rintro e w3 ⟨g, cc, rfl, hm, hb⟩
    have HM := Lib.hid hm
    have HW3 := Lib.hid (HW.out.trans (hb.mono (by have := HC0.out.lt; omega)))
    have HC3 := Lib.hid (HC1.out.below hb)
    clear hm hb
    refine ⟨_, rfl, ?_⟩
    simp only [Act.put, List.setIfInBounds_toArray, List.set_cons_succ, List.set_cons_zero]
    refine wpList_call rfl (exec_cl Try.call23 rfl (evc (ev rfl) evn)) ?_
    refine (fold_any (some ⟨g, 0, none⟩) n cc w3.heap.size (mixN l a b n) w3 HM.out.rd (Nat.le_refl _) (by have := HN15.out; unfold maxLen; omega)).mono ?_
    rintro e w4 ⟨rfl, hb⟩
    have HW4 := Lib.hid (HW3.out.trans (hb.mono (by have := HC3.out.lt; omega)))
    have HC4 := Lib.hid (HC3.out.below hb)
    clear hb
    refine ⟨_, rfl, ?_⟩
    simp only [Act.put, List.setIfInBounds_toArray, List.set_cons_succ, List.set_cons_zero]
    refine wpList_nuln rfl (exec_store rfl (ev rfl) (ev rfl) HC4.out.there) ?_
    simp only [Act.put, List.setIfInBounds_toArray, List.set_cons_succ, List.set_cons_zero]
    refine wpList_valn rfl (exec_as rfl evk) ?_
    simp only [Act.put, List.setIfInBounds_toArray, List.set_cons_succ, List.set_cons_zero]
    refine wpList_nil ?_
    go_wp2_with fail
    (try simp only [Exit.inBlock, Exit.then])
    exact bodyPost_ret (res_blk2 (c := fold ((mixN l a b n))) rfl _ _ (B + 1) rfl (World.rangeAt_setCells_same _ _ _ _ (by rw [cel_length]; exact HC4.out.there))) rfl ⟨by rw [HV.out, HE.out]; rfl, by rw [HBE.out]; exact below_put HW4.out (Nat.le_succ B) _⟩
  have T5 : Hid ((z == 3) = false) := Lib.hid (beq_eq_false_iff_ne.2 z3)
  go_upto_region 6 with fail
  refine wp_region_lit ?_
  refine wpList_valn (v := .bool false) rfl (exec_eqU8 false rfl (ev rfl) evk T5.out) ?_
  simp only [Act.put, List.setIfInBounds_toArray, List.set_cons_succ, List.set_cons_zero]
  refine wpList_valn (v := .bool false) rfl (exec_as rfl (ev rfl)) ?_
  simp only [Act.put, List.setIfInBounds_toArray, List.set_cons_succ, List.set_cons_zero]
  refine wpList_nil ?_
  by_cases z4 : z = 4
  · have T6 : Hid ((z == 4) = true) := Lib.hid (by rw [beq_iff_eq]; exact z4)
    have HV : Hid (parB z l a b p = parN l a b p n) := Lib.hid ((if_pos HQ.out).trans ((if_neg z2).trans ((if_neg z3).trans ((if_pos z4).trans (by rw [HLL.out])))))
    have HE : Hid (parE z l a b = 0) := Lib.hid ((if_pos HQ.out).trans (if_pos (by omega)))
    clear z2 z3 z4
    go_upto_region 7 with fail
    refine wp_region_lit ?_
    refine wpList_valn (v := .bool true) rfl (exec_eqU8 true rfl (ev rfl) evk T6.out) ?_
    simp only [Act.put, List.setIfInBounds_toArray, List.set_cons_succ, List.set_cons_zero]
    refine wpList_valn (v := .bool true) rfl (exec_as rfl (ev rfl)) ?_
    simp only [Act.put, List.setIfInBounds_toArray, List.set_cons_succ, List.set_cons_zero]
    refine wpList_nil ?_
    go_upto_region 10 with fail
    refine wp_region_lit ?_
    refine wpList_valn rfl (exec_load rfl (ev rfl) HC0.out.rng) ?_
    simp only [Act.put, List.setIfInBounds_toArray, List.set_cons_succ, List.set_cons_zero]
    refine wpList_valn rfl (exec_mv rfl (ev rfl)) ?_
    simp only [Act.put, List.setIfInBounds_toArray, List.set_cons_succ, List.set_cons_zero]
    refine wpList_valn rfl (exec_mv rfl (ev rfl)) ?_
    simp only [Act.put, List.setIfInBounds_toArray, List.set_cons_succ, List.set_cons_zero]
    refine wpList_valn rfl (exec_mv rfl (ev rfl)) ?_
    simp only [Act.put, List.setIfInBounds_toArray, List.set_cons_succ, List.set_cons_zero]
    refine wpList_call rfl (exec_cl Try.call25 rfl (evc (ev rfl) (evc (ev rfl) (evc (ev rfl) (evc (ev rfl) evn))))) ?_
    refine (pmoved A A1 A2 n c c1 c2 N l a b p w2 HL.out HA.out HB.out HSZ.out HN15.out).mono ?_
    rintro e w3 ⟨rfl, hb⟩
    have HW3 := Lib.hid (HW.out.trans (hb.mono (by have := HC0.out.lt; omega)))
    have HC3 := Lib.hid (HC1.out.below hb)
    clear hb
    refine ⟨_, rfl, ?_⟩
    simp only [Act.put, List.setIfInBounds_toArray, List.set_cons_succ, List.set_cons_zero]
    refine wpList_nuln rfl (exec_store rfl (ev rfl) (ev rfl) HC3.out.there) ?_
    simp only [Act.put, List.setIfInBounds_toArray, List.set_cons_succ, List.set_cons_zero]
    refine wpList_valn rfl (exec_as rfl evk) ?_
    simp only [Act.put, List.setIfInBounds_toArray, List.set_cons_succ, List.set_cons_zero]
    refine wpList_nil ?_
    go_wp2_with fail
    (try simp only [Exit.inBlock, Exit.then])
    exact bodyPost_ret (res_blk2 (c := parN l a b p n) rfl _ _ (B + 1) rfl (World.rangeAt_setCells_same _ _ _ _ (by rw [cel_length]; exact HC3.out.there))) rfl ⟨by rw [HV.out, HE.out]; rfl, by rw [HBE.out]; exact below_put HW3.out (Nat.le_succ B) _⟩
  have T6 : Hid ((z == 4) = false) := Lib.hid (beq_eq_false_iff_ne.2 z4)
  have HV : Hid (parB z l a b p = zeroB) := Lib.hid ((if_pos HQ.out).trans ((if_neg z2).trans ((if_neg z3).trans (if_neg z4))))
  have HE : Hid (parE z l a b = 2) := Lib.hid ((if_pos HQ.out).trans (if_neg (by omega)))
  clear z2 z3 z4
  go_upto_region 7 with fail
  refine wp_region_lit ?_
  refine wpList_valn (v := .bool false) rfl (exec_eqU8 false rfl (ev rfl) evk T6.out) ?_
  simp only [Act.put, List.setIfInBounds_toArray, List.set_cons_succ, List.set_cons_zero]
  refine wpList_valn (v := .bool false) rfl (exec_as rfl (ev rfl)) ?_
  simp only [Act.put, List.setIfInBounds_toArray, List.set_cons_succ, List.set_cons_zero]
  refine wpList_nil ?_
  go_upto_region 11 with fail
  refine wp_region_lit ?_
  refine wpList_valn rfl (exec_build (c := zeroB) (parts := []) rfl rfl) ?_
  simp only [Act.put, List.setIfInBounds_toArray, List.set_cons_succ, List.set_cons_zero]
  refine wpList_nuln rfl (exec_store rfl (ev rfl) (ev rfl) HC1.out.there) ?_
  simp only [Act.put, List.setIfInBounds_toArray, List.set_cons_succ, List.set_cons_zero]
  refine wpList_valn rfl (exec_as rfl evk) ?_
  simp only [Act.put, List.setIfInBounds_toArray, List.set_cons_succ, List.set_cons_zero]
  refine wpList_nil ?_
  go_wp2_with fail
  (try simp only [Exit.inBlock, Exit.then])
  exact bodyPost_ret (res_blk2 (c := zeroB) rfl _ _ (B + 1) rfl (World.rangeAt_setCells_same _ _ _ _ (by rw [cel_length]; exact HC1.out.there))) rfl ⟨by rw [HV.out, HE.out]; rfl, by rw [HBE.out]; exact below_put HW.out (Nat.le_succ B) _⟩
end Go.Proofs.Ytplanbjjfaihbaa
