/-
  ashlarlaw11.CellsSum walked.
-/
import Derived.Test.YtfemlaombdeebaaDoorCsu
import Derived.Test.YtfemlaombdeebaaDoorCrv
import Derived.Test.YtfemlaombdeebaaDoorCrcRowM
import Derived.Laws.BitsAllLaws
namespace Go.Proofs.YtfemlaombdeebaaDoor
open Go.RowKit
set_option linter.unusedVariables false
set_option linter.unusedSimpArgs false
set_option maxRecDepth 100000

/-! ### One byte of one sector changed -/
theorem xor_two (a b : UInt8) : bits .xor .u8 (a.toNat : Int) (b.toNat : Int) = (((a ^^^ b).toNat : Nat) : Int) := by
  rw [u8_xor_nat _ _ (UInt8.toNat_lt a) (UInt8.toNat_lt b), UInt8.toNat_xor]
theorem byts_set {l : List Blk} {i r : Nat} (hi : i < l.length) (hr : r < 64) (u : UInt8) : byts (l.set i ((l.getD i zeroB).set r u)) = (byts l).set (64 * i + r) u := by
  have hlen : 64 * i + r < (byts l).length := by rw [byts_length]; omega
  refine eq_of_bt (by rw [List.length_set, byts_length, byts_length, List.length_set]) fun j hj => ?_
  rw [byts_length, List.length_set] at hj
  have hk : j / 64 < (l.set i ((l.getD i zeroB).set r u)).length := by rw [List.length_set]; omega
  have e : j = 64 * (j / 64) + j % 64 := by omega
  have hs : bt ((byts l).set (64 * i + r) u) j = if j = 64 * i + r then (u.toNat : Int) else bt (byts l) j := by
    unfold bt
    by_cases h : j = 64 * i + r
    · rw [if_pos h, h, List.getD, List.getElem?_set_self hlen]
      rfl
    · rw [if_neg h, List.getD, List.getElem?_set_ne (fun e => h e.symm), List.getD]
  rw [hs]
  conv => lhs; rw [e]
  rw [bt_byts hk (by omega)]
  by_cases hji : j / 64 = i
  · have eg : (l.set i ((l.getD i zeroB).set r u)).getD (j / 64) zeroB = (l.getD i zeroB).set r u := by
      rw [hji, List.getD, List.getElem?_set_self hi]
      rfl
    rw [eg, byt_get _ (by omega)]
    by_cases hjr : j % 64 = r
    · rw [if_pos (by omega)]
      simp [hjr]
    · rw [if_neg (by omega)]
      conv => rhs; rw [e]
      rw [bt_byts (by omega) (by omega), hji, byt_get _ (by omega), Vector.getElem_set_ne (by omega) (by omega) (fun e => hjr e.symm)]
  · rw [if_neg (by omega)]
    conv => rhs; rw [e]
    rw [bt_byts (by omega) (by omega), List.getD, List.getElem?_set_ne (fun e => hji e.symm), List.getD]
/-- With a byte changed the sum is the same one just if it was changed by 0. -/
theorem sumB_set {l : List Blk} {i r : Nat} (hi : i < l.length) (hr : r < 64) (y : UInt8) : (sumB (l.set i ((l.getD i zeroB).set r ((l.getD i zeroB)[r] ^^^ y))) = sumB l) ↔ y.toNat = 0 := by
  have hlen : 64 * i + r < (byts l).length := by rw [byts_length]; omega
  have hx : (byts l)[64 * i + r] = (l.getD i zeroB)[r] := by
    have h := bt_byts hi hr
    rw [bt_get hlen, byt_get _ hr] at h
    exact UInt8.toNat_inj.1 (by omega)
  have hm := mix_set (l := byts l) (y := [y]) (k := 64 * i + r) (j := 0) hlen (by simp)
  rw [mix_zero] at hm
  simp only [Nat.add_zero, List.getElem_cons_zero] at hm
  unfold sumB
  rw [byts_set hi hr, ← hx, hm, more_mix (by omega) (by simp) (by omega)]
  unfold chg
  simp
theorem MadeB.setb {w : World} {B g n cc k r : Nat} {l : List Blk} (h : MadeB w B (.slice (some ⟨g, 0, none⟩) n cc) l) (hk : k < n) (hr : r < 64) (u : UInt8) : MadeB (w.setCell ⟨g, k * 64 + r, none⟩ (.int .u8 (u.toNat : Int))) B (.slice (some ⟨g, 0, none⟩) n cc) (l.set k ((l.getD k zeroB).set r u)) := by
  rcases h.2 with ⟨hv, _⟩ | ⟨g', cap, cur, hv, hbg, hg, h1, h2, h3, ht⟩
  · cases hv
  · injection hv with e1 e2 e3
    injection e1 with e1
    injection e1 with e1
    subst e1 e2 e3
    have hs := heap_setCell_same w g (k * 64 + r) _ _ (.int .u8 (u.toNat : Int)) hg
    have hkn : k * 64 + r < l.length * 64 := by omega
    refine ⟨by rw [List.length_set]; rw [flat_length, List.length_set], ?_⟩
    rw [List.length_set]
    refine .inr ⟨g, cc, _, rfl, hbg, hs, h1, h2, by simpa using h3, ?_⟩
    have e : ((cur.setIfInBounds (k * 64 + r) (.int .u8 (u.toNat : Int))).toList.take (l.length * 64)) = (cur.toList.take (l.length * 64)).set (k * 64 + r) (.int .u8 (u.toNat : Int)) := by
      rw [Array.toList_setIfInBounds, List.take_set]
    rw [e, ht, flat_set hk, ← cel_set _ hr, flat_split hk]
    have hl : (flat (l.take k)).length = k * 64 := by rw [flat_length, List.length_take, Nat.min_eq_left (by omega)]
    rw [List.set_append_right _ _ (by omega), hl, Nat.add_sub_cancel_left, List.set_append_left _ _ (by rw [cel_length]; exact hr)]
section
variable {ρ : Operand → Value} {o : Oper} {x y : Operand} {w : World} {t r : TypeId} {a b c : Int} {g off j n cc : Nat}
theorem exec_remU8 (ho : o.op = .binOp .rem t x y r) (hx : ρ x = .int .u8 a) (hy : ρ y = .int .u8 b) (h0 : b ≠ 0) (h : a.tmod b = c) : (execOp ρ o).run Tryd.prog w = .ok (.value (.int .u8 c)) w := by
  unfold execOp
  simp [ho, hx, hy, eqGuard, binOp, Op.intDiv, h, h0]
theorem exec_xorU8 (ho : o.op = .binOp .xor t x y r) (hx : ρ x = .int .u8 a) (hy : ρ y = .int .u8 b) (h : bits .xor .u8 a b = c) : (execOp ρ o).run Tryd.prog w = .ok (.value (.int .u8 c)) w := by
  unfold execOp
  simp [ho, hx, hy, eqGuard, binOp, Op.intBits]
  simpa [bits] using h
theorem ixB8 (hj : j < 64) : (Instr.indexAt 38 (.pointer (some ⟨g, off, none⟩)) (.int .u8 (j : Int))).run Tryd.prog w = .ok (.pointer (some ⟨g, off + j, none⟩)) w := by
  have e : (0 ≤ (j : Int) ∧ (j : Int) < 64) := by omega
  simp [Instr.indexAt, Instr.sureAddr, asIntOf, run_underlying undB, Tryd.sizeOf5, Addr.add_mid, e, hj]
theorem exec_indexZ (ho : o.op = .indexAddr 22 x y) (hx : ρ x = .slice (some ⟨g, 0, none⟩) n cc) (hy : ρ y = .int .i64 (j : Int)) (hj : j < n) : (execOp ρ o).run Tryd.prog w = .ok (.value (.pointer (some ⟨g, j * 64, none⟩))) w := by
  have h := exec_index (ρ := ρ) (o := o) (w := w) ho hx hy hj
  rwa [Nat.zero_add] at h
theorem exec_cv16 {k : Nat} (ho : o.op = .convert 36 3 x) (hx : ρ x = .int .u16 (k : Int)) (hn : k < 65536) : (execOp ρ o).run Tryd.prog w = .ok (.value (.int .i64 (k : Int))) w := by
  have h : IntKind.i64.wrap (k : Int) = (k : Int) := by rw [IntKind.wrap_i64]; omega
  have hc : (convert 36 3 (.int .u16 (k : Int))).run Tryd.prog w = .ok (.int .i64 (k : Int)) w := by simp [convert, go_sem, h]
  unfold execOp
  simp only [ho, hx, Sem.run_bind, hc, Result.andThen_ok, Sem.run_pure]
end
theorem MadeB.has {w : World} {B n : Nat} {v : Value} {l : List Blk} (h : MadeB w B v l) (hn : l.length = n) (h0 : 0 < n) : ∃ g c, v = .slice (some ⟨g, 0, none⟩) n c ∧ B ≤ g := by
  rcases h.2 with ⟨_, h1⟩ | ⟨g, cap, cur, rfl, hB, _⟩
  · omega
  · exact ⟨g, cap, by rw [hn], hB⟩
theorem MadeB.byte_at {w : World} {B g n c k r : Nat} {l : List Blk} (h : MadeB w B (.slice (some ⟨g, 0, none⟩) n c) l) (hk : k < n) (hr : r < 64) : w.cell? ⟨g, k * 64 + r, none⟩ = some (.int .u8 ((l.getD k zeroB)[r].toNat : Int)) ∧ w.frozen? ⟨g, k * 64 + r, none⟩ = false := by
  obtain ⟨b, off, e, _, hc⟩ := h.rd.2 k hk
  injection e with e
  injection e with e1 e2
  subst e1 e2
  have h1 := hc r _ (cel_at _ hr)
  rw [Nat.zero_add] at h1
  refine ⟨by rw [h1, byt_get _ hr], ?_⟩
  rcases h.2 with ⟨hv, _⟩ | ⟨g', cap, cur, hv, _, hg, _⟩
  · cases hv
  · injection hv with e1 e2 e3
    injection e1 with e1
    injection e1 with e1
    subst e1
    exact frozen_of_row w g _ _ _ hg
set_option maxHeartbeats 4000000 in
theorem cellsSum_none (A : Option Addr) (m c p q : Nat) (l : List Blk) (y : UInt8) (w : World) (hm : m = 0) :
    Calls Tryd.prog 5 #[.slice A m c, .int .u16 (p : Int), .int .u8 (q : Int), .int .u8 (y.toNat : Int)] w fun e w' => e = .returned (.bool true) ∧ Below w.heap.size w w' := by
  subst hm
  go_enter Tryd.func5, Tryd.ntmps5
  go_upto_region 1 with fail
  refine wp_region_lit ?_
  refine wpList_valn rfl (exec_mv rfl (ev rfl)) ?_
  simp only [Act.put, List.setIfInBounds_toArray, List.set_cons_succ, List.set_cons_zero]
  refine wpList_valn rfl (exec_lenB rfl (ev rfl)) ?_
  simp only [Act.put, List.setIfInBounds_toArray, List.set_cons_succ, List.set_cons_zero]
  refine wpList_valn (v := .bool true) rfl (exec_eqInt true rfl (ev rfl) evk rfl) ?_
  simp only [Act.put, List.setIfInBounds_toArray, List.set_cons_succ, List.set_cons_zero]
  refine wpList_nil ?_
  go_upto_region 2 with fail
  refine wp_region_lit ?_
  refine wpList_call rfl (exec_cl Tryd.call13 rfl evn) ?_
  refine (clives w).mono ?_
  rintro e w1 ⟨rfl, hb⟩
  have HB1 := Lib.hid hb
  clear hb
  refine ⟨_, rfl, ?_⟩
  simp only [Act.put, List.setIfInBounds_toArray, List.set_cons_succ, List.set_cons_zero]
  refine wpList_valn (v := .bool true) rfl (exec_as rfl (ev rfl)) ?_
  simp only [Act.put, List.setIfInBounds_toArray, List.set_cons_succ, List.set_cons_zero]
  refine wpList_nil ?_
  go_wp2_with fail
  go_ret
  exact ⟨rfl, HB1.out⟩
set_option maxHeartbeats 8000000 in
theorem cellsSum_some (A : Option Addr) (m c p q : Nat) (l : List Blk) (y : UInt8) (w : World) (T : Tab w) (hl : RdB w w.heap.size A m l) (hm : m ≤ 2199023255488) (h0 : 0 < m) (hp : p < 65536) (hq : q < 256) :
    Calls Tryd.prog 5 #[.slice A m c, .int .u16 (p : Int), .int .u8 (q : Int), .int .u8 (y.toNat : Int)] w fun e w' => e = .returned (.bool true) ∧ Below w.heap.size w w' := by
  have HL := Lib.hid hl
  have HLN := Lib.hid hl.1
  have HTB := Lib.hid T
  have HM0 : Hid (((m : Int) == 0) = false) := Lib.hid (by simp; omega)
  obtain ⟨i, hi⟩ : ∃ i, p % m = i := ⟨_, rfl⟩
  have him : i < m := by rw [← hi]; exact Nat.mod_lt _ h0
  obtain ⟨r, hr⟩ : ∃ r, q % 64 = r := ⟨_, rfl⟩
  have hr64 : r < 64 := by omega
  have HTI : Hid ((p : Int).tmod (m : Int) = (i : Int)) := Lib.hid (by rw [Int.tmod_eq_emod_of_nonneg (by omega), ← hi]; rfl)
  have HTR : Hid ((q : Int).tmod 64 = (r : Int)) := Lib.hid (by rw [Int.tmod_eq_emod_of_nonneg (by omega), ← hr]; rfl)
  have HMN : Hid ((m : Int) ≠ 0) := Lib.hid (by omega)
  have hil : i < l.length := by rw [hl.1]; exact him
  have HSET := Lib.hid (sumB_set hil hr64 y)
  obtain ⟨u0, hu0⟩ : ∃ u, (l.getD i zeroB)[r] = u := ⟨_, rfl⟩
  rw [hu0] at HSET
  have HXOR := Lib.hid (xor_two u0 y)
  have HU0 : Hid (∀ h : r < 64, (l.getD i zeroB)[r] = u0) := Lib.hid fun _ => hu0
  obtain ⟨l2, hl2⟩ : ∃ l2, l.set i ((l.getD i zeroB).set r (u0 ^^^ y)) = l2 := ⟨_, rfl⟩
  rw [hl2] at HSET
  have HL2 : Hid (∀ h : r < 64, l.set i ((l.getD i zeroB).set r (u0 ^^^ y)) = l2) := Lib.hid fun _ => hl2
  have HIM := Lib.hid him
  have HR64 := Lib.hid hr64
  have HL2N : Hid (l2.length = m) := Lib.hid (by rw [← hl2, List.length_set, hl.1])
  have HEQ1 : Hid (((sumB l2 : Int) == (sumB l : Int)) = decide (y.toNat = 0)) := Lib.hid (by
    rw [Bool.eq_iff_iff, decide_eq_true_iff, ← HSET.out]
    simp only [beq_iff_eq]
    exact Int.ofNat_inj)
  have HEQ2 : Hid (((y.toNat : Int) == 0) = decide (y.toNat = 0)) := Lib.hid (by
    rw [Bool.eq_iff_iff, decide_eq_true_iff]
    simp)
  generalize decide (y.toNat = 0) = t at *
  clear hl T hi hr hu0 hl2 hil HSET
  go_enter Tryd.func5, Tryd.ntmps5
  go_upto_region 1 with fail
  refine wp_region_lit ?_
  refine wpList_valn rfl (exec_mv rfl (ev rfl)) ?_
  simp only [Act.put, List.setIfInBounds_toArray, List.set_cons_succ, List.set_cons_zero]
  refine wpList_valn rfl (exec_lenB rfl (ev rfl)) ?_
  simp only [Act.put, List.setIfInBounds_toArray, List.set_cons_succ, List.set_cons_zero]
  refine wpList_valn (v := .bool false) rfl (exec_eqInt false rfl (ev rfl) evk HM0.out) ?_
  simp only [Act.put, List.setIfInBounds_toArray, List.set_cons_succ, List.set_cons_zero]
  refine wpList_nil ?_
  go_upto_region 3 with fail
  refine wp_region_lit ?_
  refine wpList_valn rfl (exec_mv rfl (ev rfl)) ?_
  simp only [Act.put, List.setIfInBounds_toArray, List.set_cons_succ, List.set_cons_zero]
  refine wpList_call rfl (exec_cl Tryd.call16 rfl (evc (ev rfl) evn)) ?_
  refine (copyB_any A m c w.heap.size w.heap.size l w (Lib.hid rfl) HL.out (Nat.le_refl _) (by omega)).mono ?_
  rintro e w1 ⟨v, rfl, hmd, hb⟩
  obtain ⟨g, cc, rfl, hg⟩ := hmd.has HLN.out h0
  have HM1 := Lib.hid hmd
  have HB1 := Lib.hid hb
  have HG := Lib.hid hg
  clear hb hmd hg
  refine ⟨_, rfl, ?_⟩
  simp only [Act.put, List.setIfInBounds_toArray, List.set_cons_succ, List.set_cons_zero]
  refine wpList_valn rfl (exec_as rfl (ev rfl)) ?_
  simp only [Act.put, List.setIfInBounds_toArray, List.set_cons_succ, List.set_cons_zero]
  refine wpList_nil ?_
  go_upto_region 4 with fail
  refine wp_region_lit ?_
  refine wpList_valn rfl (exec_mv rfl (ev rfl)) ?_
  simp only [Act.put, List.setIfInBounds_toArray, List.set_cons_succ, List.set_cons_zero]
  refine wpList_valn rfl (exec_cv16 rfl (ev rfl) hp) ?_
  simp only [Act.put, List.setIfInBounds_toArray, List.set_cons_succ, List.set_cons_zero]
  refine wpList_valn rfl (exec_mv rfl (ev rfl)) ?_
  simp only [Act.put, List.setIfInBounds_toArray, List.set_cons_succ, List.set_cons_zero]
  refine wpList_valn rfl (exec_lenB rfl (ev rfl)) ?_
  simp only [Act.put, List.setIfInBounds_toArray, List.set_cons_succ, List.set_cons_zero]
  refine wpList_valn rfl (exec_rem rfl (ev rfl) (ev rfl) HMN.out HTI.out) ?_
  simp only [Act.put, List.setIfInBounds_toArray, List.set_cons_succ, List.set_cons_zero]
  refine wpList_valn rfl (exec_as rfl (ev rfl)) ?_
  simp only [Act.put, List.setIfInBounds_toArray, List.set_cons_succ, List.set_cons_zero]
  refine wpList_nil ?_
  have HBY : Hid (w1.drew.cell? ⟨g, i * 64 + r, none⟩ = some (.int .u8 (u0.toNat : Int)) ∧ w1.drew.frozen? ⟨g, i * 64 + r, none⟩ = false) := Lib.hid (by
    have h := HM1.out.byte_at HIM.out HR64.out
    rw [HU0.out HR64.out] at h
    exact h)
  have HM2 : Hid (MadeB (w1.drew.setCell ⟨g, i * 64 + r, none⟩ (.int .u8 ((u0 ^^^ y).toNat : Int))) w.heap.size (.slice (some ⟨g, 0, none⟩) m cc) l2) := Lib.hid (by
    rw [← HL2.out HR64.out]
    exact MadeB.setb (w := w1.drew) (show MadeB w1.drew w.heap.size (.slice (some ⟨g, 0, none⟩) m cc) l from HM1.out) HIM.out HR64.out (u0 ^^^ y))
  have HB2 := Lib.hid ((bd HB1.out).setCell (p := ⟨g, i * 64 + r, none⟩) HG.out (.int .u8 ((u0 ^^^ y).toNat : Int)))
  go_upto_region 5 with fail
  refine wp_region_still_tail 15 (by kernel_rfl) (by kernel_rfl) ?_
  simp only [List.take_succ_cons, List.take_zero, List.drop_succ_cons, List.drop_zero]
  refine st_val rfl (exec_mv rfl (ev rfl)) ?_
  simp only [Act.put, List.setIfInBounds_toArray, List.set_cons_succ, List.set_cons_zero]
  refine st_val rfl (exec_mv rfl (ev rfl)) ?_
  simp only [Act.put, List.setIfInBounds_toArray, List.set_cons_succ, List.set_cons_zero]
  refine st_val rfl (exec_mv rfl (ev rfl)) ?_
  simp only [Act.put, List.setIfInBounds_toArray, List.set_cons_succ, List.set_cons_zero]
  refine st_val rfl (exec_remU8 rfl (ev rfl) evk (by decide) HTR.out) ?_
  simp only [Act.put, List.setIfInBounds_toArray, List.set_cons_succ, List.set_cons_zero]
  refine st_val rfl (exec_mv rfl (ev rfl)) ?_
  simp only [Act.put, List.setIfInBounds_toArray, List.set_cons_succ, List.set_cons_zero]
  refine st_val rfl (exec_mv rfl (ev rfl)) ?_
  simp only [Act.put, List.setIfInBounds_toArray, List.set_cons_succ, List.set_cons_zero]
  refine st_val rfl (exec_mv rfl (ev rfl)) ?_
  simp only [Act.put, List.setIfInBounds_toArray, List.set_cons_succ, List.set_cons_zero]
  refine st_val rfl (exec_remU8 rfl (ev rfl) evk (by decide) HTR.out) ?_
  simp only [Act.put, List.setIfInBounds_toArray, List.set_cons_succ, List.set_cons_zero]
  refine st_val rfl (exec_indexZ rfl (ev rfl) (ev rfl) HIM.out) ?_
  simp only [Act.put, List.setIfInBounds_toArray, List.set_cons_succ, List.set_cons_zero]
  refine st_val rfl (exec_ix rfl (ev rfl) (ev rfl) (ixB8 HR64.out)) ?_
  simp only [Act.put, List.setIfInBounds_toArray, List.set_cons_succ, List.set_cons_zero]
  refine st_val rfl (exec_ld rfl (ev rfl) (ldU8 HBY.out.1)) ?_
  simp only [Act.put, List.setIfInBounds_toArray, List.set_cons_succ, List.set_cons_zero]
  refine st_val rfl (exec_mv rfl (ev rfl)) ?_
  simp only [Act.put, List.setIfInBounds_toArray, List.set_cons_succ, List.set_cons_zero]
  refine st_val rfl (exec_xorU8 rfl (ev rfl) (ev rfl) HXOR.out) ?_
  simp only [Act.put, List.setIfInBounds_toArray, List.set_cons_succ, List.set_cons_zero]
  refine st_val rfl (exec_indexZ rfl (ev rfl) (ev rfl) HIM.out) ?_
  simp only [Act.put, List.setIfInBounds_toArray, List.set_cons_succ, List.set_cons_zero]
  refine st_val rfl (exec_ix rfl (ev rfl) (ev rfl) (ixB8 HR64.out)) ?_
  simp only [Act.put, List.setIfInBounds_toArray, List.set_cons_succ, List.set_cons_zero]
  refine wpStill_nil ?_
  change wpList _ _ _ _ _ (World.drew _)
  refine wpList_nuln rfl (exec_st rfl (ev rfl) (ev rfl) (stU8 HBY.out.1 HBY.out.2)) ?_
  simp only [Act.put, List.setIfInBounds_toArray, List.set_cons_succ, List.set_cons_zero]
  generalize w1.drew.setCell ⟨g, i * 64 + r, none⟩ (.int .u8 ((u0 ^^^ y).toNat : Int)) = w2 at *
  refine wpList_nil ?_
  have HT2 := Lib.hid (HTB.out.below HB2.out)
  obtain ⟨A2, c2, hv, hr2, _, _⟩ := HM2.out.open_ HL2N.out
  injection hv with e1 e2 e3
  subst e1 e3
  have HR2 := Lib.hid hr2
  clear hr2 HBY HM1 HB1 HM2 HTB
  cases t
  · go_upto_region 6 with fail
    refine wp_region_lit ?_
    refine wpList_valn rfl (exec_mv rfl (ev rfl)) ?_
    simp only [Act.put, List.setIfInBounds_toArray, List.set_cons_succ, List.set_cons_zero]
    refine wpList_call rfl (exec_cl Tryd.call10 rfl (evc (ev rfl) evn)) ?_
    refine (psum _ m _ w2.heap.size l2 w2 HT2.out HR2.out (by omega)).mono ?_
    rintro e w' ⟨rfl, rfl⟩
    refine ⟨_, rfl, ?_⟩
    simp only [Act.put, List.setIfInBounds_toArray, List.set_cons_succ, List.set_cons_zero]
    refine wpList_valn rfl (exec_mv rfl (ev rfl)) ?_
    simp only [Act.put, List.setIfInBounds_toArray, List.set_cons_succ, List.set_cons_zero]
    refine wpList_call rfl (exec_cl Tryd.call10 rfl (evc (ev rfl) evn)) ?_
    refine (psum A m c w2.heap.size l w2 HT2.out ((HL.out.below HB2.out).more HB2.out.size) (by omega)).mono ?_
    rintro e w' ⟨rfl, rfl⟩
    refine ⟨_, rfl, ?_⟩
    simp only [Act.put, List.setIfInBounds_toArray, List.set_cons_succ, List.set_cons_zero]
    refine wpList_valn (v := .bool false) rfl (exec_eqInt false rfl (ev rfl) (ev rfl) HEQ1.out) ?_
    simp only [Act.put, List.setIfInBounds_toArray, List.set_cons_succ, List.set_cons_zero]
    refine wpList_valn rfl (exec_mv rfl (ev rfl)) ?_
    simp only [Act.put, List.setIfInBounds_toArray, List.set_cons_succ, List.set_cons_zero]
    refine wpList_valn (v := .bool false) rfl (exec_eqInt false rfl (ev rfl) evk HEQ2.out) ?_
    simp only [Act.put, List.setIfInBounds_toArray, List.set_cons_succ, List.set_cons_zero]
    refine wpList_valn (v := .bool true) rfl (exec_eqBool true rfl (ev rfl) (ev rfl) rfl) ?_
    simp only [Act.put, List.setIfInBounds_toArray, List.set_cons_succ, List.set_cons_zero]
    refine wpList_valn (v := .bool true) rfl (exec_mv rfl (ev rfl)) ?_
    simp only [Act.put, List.setIfInBounds_toArray, List.set_cons_succ, List.set_cons_zero]
    refine wpList_call (wanted_of rfl rfl rfl rfl) (exec_cl Tryd.call13 rfl evn) ?_
    refine (clives w2).mono ?_
    rintro e w3 ⟨rfl, hb⟩
    have HB3 := Lib.hid (HB2.out.trans (hb.mono HB2.out.size))
    clear hb
    refine ⟨_, rfl, ?_⟩
    simp only [Act.put, List.setIfInBounds_toArray, List.set_cons_succ, List.set_cons_zero]
    refine wpList_valn (v := .bool true) rfl (exec_pt rfl (ev rfl) (ev rfl)) ?_
    simp only [Act.put, List.setIfInBounds_toArray, List.set_cons_succ, List.set_cons_zero]
    refine wpList_valn (v := .bool true) rfl (exec_as rfl (ev rfl)) ?_
    simp only [Act.put, List.setIfInBounds_toArray, List.set_cons_succ, List.set_cons_zero]
    refine wpList_nil ?_
    go_wp2_with fail
    go_ret
    exact ⟨rfl, HB3.out⟩
  · go_upto_region 6 with fail
    refine wp_region_lit ?_
    refine wpList_valn rfl (exec_mv rfl (ev rfl)) ?_
    simp only [Act.put, List.setIfInBounds_toArray, List.set_cons_succ, List.set_cons_zero]
    refine wpList_call rfl (exec_cl Tryd.call10 rfl (evc (ev rfl) evn)) ?_
    refine (psum _ m _ w2.heap.size l2 w2 HT2.out HR2.out (by omega)).mono ?_
    rintro e w' ⟨rfl, rfl⟩
    refine ⟨_, rfl, ?_⟩
    simp only [Act.put, List.setIfInBounds_toArray, List.set_cons_succ, List.set_cons_zero]
    refine wpList_valn rfl (exec_mv rfl (ev rfl)) ?_
    simp only [Act.put, List.setIfInBounds_toArray, List.set_cons_succ, List.set_cons_zero]
    refine wpList_call rfl (exec_cl Tryd.call10 rfl (evc (ev rfl) evn)) ?_
    refine (psum A m c w2.heap.size l w2 HT2.out ((HL.out.below HB2.out).more HB2.out.size) (by omega)).mono ?_
    rintro e w' ⟨rfl, rfl⟩
    refine ⟨_, rfl, ?_⟩
    simp only [Act.put, List.setIfInBounds_toArray, List.set_cons_succ, List.set_cons_zero]
    refine wpList_valn (v := .bool true) rfl (exec_eqInt true rfl (ev rfl) (ev rfl) HEQ1.out) ?_
    simp only [Act.put, List.setIfInBounds_toArray, List.set_cons_succ, List.set_cons_zero]
    refine wpList_valn rfl (exec_mv rfl (ev rfl)) ?_
    simp only [Act.put, List.setIfInBounds_toArray, List.set_cons_succ, List.set_cons_zero]
    refine wpList_valn (v := .bool true) rfl (exec_eqInt true rfl (ev rfl) evk HEQ2.out) ?_
    simp only [Act.put, List.setIfInBounds_toArray, List.set_cons_succ, List.set_cons_zero]
    refine wpList_valn (v := .bool true) rfl (exec_eqBool true rfl (ev rfl) (ev rfl) rfl) ?_
    simp only [Act.put, List.setIfInBounds_toArray, List.set_cons_succ, List.set_cons_zero]
    refine wpList_valn (v := .bool true) rfl (exec_mv rfl (ev rfl)) ?_
    simp only [Act.put, List.setIfInBounds_toArray, List.set_cons_succ, List.set_cons_zero]
    refine wpList_call (wanted_of rfl rfl rfl rfl) (exec_cl Tryd.call13 rfl evn) ?_
    refine (clives w2).mono ?_
    rintro e w3 ⟨rfl, hb⟩
    have HB3 := Lib.hid (HB2.out.trans (hb.mono HB2.out.size))
    clear hb
    refine ⟨_, rfl, ?_⟩
    simp only [Act.put, List.setIfInBounds_toArray, List.set_cons_succ, List.set_cons_zero]
    refine wpList_valn (v := .bool true) rfl (exec_pt rfl (ev rfl) (ev rfl)) ?_
    simp only [Act.put, List.setIfInBounds_toArray, List.set_cons_succ, List.set_cons_zero]
    refine wpList_valn (v := .bool true) rfl (exec_as rfl (ev rfl)) ?_
    simp only [Act.put, List.setIfInBounds_toArray, List.set_cons_succ, List.set_cons_zero]
    refine wpList_nil ?_
    go_wp2_with fail
    go_ret
    exact ⟨rfl, HB3.out⟩
theorem cellsSum_walk (A : Option Addr) (m c p q : Nat) (l : List Blk) (y : UInt8) (w : World) (T : Tab w) (hl : RdB w w.heap.size A m l) (hm : m ≤ 2199023255488) (hp : p < 65536) (hq : q < 256) :
    Calls Tryd.prog 5 #[.slice A m c, .int .u16 (p : Int), .int .u8 (q : Int), .int .u8 (y.toNat : Int)] w fun e w' => e = .returned (.bool true) ∧ Below w.heap.size w w' := by
  by_cases h0 : m = 0
  · exact cellsSum_none A m c p q l y w h0
  · exact cellsSum_some A m c p q l y w T hl hm (by omega) hp hq
end Go.Proofs.YtfemlaombdeebaaDoor
