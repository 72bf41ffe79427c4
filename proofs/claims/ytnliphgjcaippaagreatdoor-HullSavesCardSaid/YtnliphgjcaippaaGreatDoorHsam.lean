import Derived.Test.YtnliphgjcaippaaGreatDoorHsal
import Derived.Test.YtnliphgjcaippaaGreatDoorHsaa
import Derived.Test.YtnliphgjcaippaaGreatDoorProg
import Derived.WalkKit
import Derived.RegionTactic
import Derived.ChangeAlike
import Derived.Deep.QuietTactic
import Derived.BigQuiet
import Derived.Lib.Hide
import Derived.Test.YtnliphgjcaippaaGreatDoorHsZ
namespace Go.Proofs.YtnliphgjcaippaaGreatDoor
open Go.RowKit
set_option linter.unusedVariables false
set_option linter.unusedSimpArgs false
set_option maxRecDepth 100000
theorem exec_s2a {ρ : Operand → Value} {o : Oper} {x : Operand} {w : World} {g c : Nat} (ho : o.op = .sliceToArrayPointer 161 x) (hx : ρ x = .slice (some ⟨g, 0, none⟩) 44 c) : (execOp ρ o).run Tryz.prog w = .ok (.value (.pointer (some ⟨g, 0, none⟩))) w := by
  unfold execOp
  simp [ho, hx, Instr.arrayAt, run_underlying Tryz.underlying161]
section
variable (b : Blk) (w : World)
structure SgW (w w3 : World) (b : Blk) (g s : Nat) (l : List UInt8) (y : Sup) : Prop where
  row : bK w3 g 5 l
  sup : bx w3 s y
  res : w3.there (w.heap.size + 1) 0 23
  bel : Below w.heap.size w w3
  lt : w.heap.size + 1 < w3.heap.size
theorem SgW.keep {w w3 w4 : World} {b : Blk} {g s : Nat} {l : List UInt8} {y : Sup} (h : SgW w w3 b g s l y) (hb : Below w3.heap.size w3 w4) : SgW w w4 b g s l y :=
  ⟨h.row.below h.row.lt hb, h.sup.below (aD h.sup) hb, aI h.res h.lt hb, h.bel.trans (hb.mono h.bel.size), Nat.lt_of_lt_of_le h.lt hb.size⟩
end
set_option maxHeartbeats 1000000 in
theorem psget_seal (b : Blk) (w : World) (T : Tab w) (h : cr b.toList ≠ 0) : Calls Tryz.prog 142 #[blk b] w fun e w' => e = .returned (.tuple #[.int .u64 (0 : Nat), sup a7, .int .i64 (cr b.toList : Nat)]) ∧ Below w.heap.size w w' := by
  obtain ⟨n, hn⟩ : ∃ n, cq b.toList = n := ⟨_, rfl⟩
  obtain ⟨l, hl⟩ : ∃ l, bW b.toList = l := ⟨_, rfl⟩
  have h1 := (Below.refl w.heap.size w).alloc (Nat.le_refl _) (.cells (cel b).toArray 58)
  have h2 := h1.alloc h1.size (.cells (aL a7).toArray 62)
  have HA : Hid (((w.alloc (.cells (cel b).toArray 58)).alloc (.cells (aL a7).toArray 62)).rangeAt w.heap.size 0 (cel b)) := Lib.hid (World.rangeAt_alloc (cg w (cel b) 58) _)
  have hsn := bx.new (w.alloc (.cells (cel b).toArray 58)) a7
  rw [World.size_alloc] at hsn
  have HR := Lib.hid (ch (o := 0) (n := 23) hsn (by rw [ax]; exact Nat.le_refl _))
  have HZ := Lib.hid (aD hsn)
  have HB := Lib.hid h2
  have HT := Lib.hid (T.below h2)
  have HN := Lib.hid hn
  have HL := Lib.hid hl
  clear h1 h2 hsn T
  obtain ⟨E, hE⟩ : ∃ E, cr b.toList = E := ⟨_, rfl⟩
  rw [hE] at h
  have HE := Lib.hid hE
  have hne : ((E : Int) != 0) = true := by simp; omega
  clear hE hn hl
  go_enter Tryz.func142, Tryz.ntmps142
  go_wp2_with (first | (refine af rfl (bu rfl rfl) ?_) | (refine af rfl (aX rfl) ?_) | (refine af rfl (aV (c := b) rfl rfl ?_) ?_; (with_reducible exact HA.out)) | fail)
  try simp only [World.size_alloc]
  generalize (w.alloc (.cells (cel b).toArray 58)).alloc (.cells (aL a7).toArray 62) = w0 at *
  refine (pget_any b _ w0 (Lib.hid rfl) HT.out).mono ?_
  rintro e w1 ⟨v, rfl, hv, hb⟩
  rw [HN.out]
  rw [HE.out]
  have HR1 := Lib.hid (aI HR.out HZ.out hb)
  have HB1 := Lib.hid (HB.out.trans (hb.mono HB.out.size))
  clear hv hb HA HR HB
  go_wp2_with (first | (refine af rfl (dt rfl) ?_) | (refine av rfl (bP (c := a7) rfl rfl rfl ?_) ?_; (with_reducible exact HR1.out)) | fail)
  refine bodyPost_ret (da (t := 62) (cs := aL a7) rfl _ _ _ rfl ?h1 Tryz.underlying62 rfl ?h2) rfl ⟨by rw [HE.out]; rfl, ?h3⟩
  case h1 => exact World.rangeAt_setCells_same _ _ _ _ (by rw [ax]; exact HR1.out)
  case h2 => rw [ax]; exact dA
  case h3 => exact below_setCells HB1.out (Nat.le_succ _) _
set_option maxHeartbeats 2000000 in
theorem psget_ev (b : Blk) (w : World) (T : Tab w) (h0 : cr b.toList = 0) (hev : evB (cq b.toList) = false) : Calls Tryz.prog 142 #[blk b] w fun e w' => e = .returned (.tuple #[.int .u64 (0 : Nat), sup a7, .int .i64 (5 : Nat)]) ∧ Below w.heap.size w w' := by
  obtain ⟨n, hn⟩ : ∃ n, cq b.toList = n := ⟨_, rfl⟩
  obtain ⟨l, hl⟩ : ∃ l, bW b.toList = l := ⟨_, rfl⟩
  have h1 := (Below.refl w.heap.size w).alloc (Nat.le_refl _) (.cells (cel b).toArray 58)
  have h2 := h1.alloc h1.size (.cells (aL a7).toArray 62)
  have HA : Hid (((w.alloc (.cells (cel b).toArray 58)).alloc (.cells (aL a7).toArray 62)).rangeAt w.heap.size 0 (cel b)) := Lib.hid (World.rangeAt_alloc (cg w (cel b) 58) _)
  have hsn := bx.new (w.alloc (.cells (cel b).toArray 58)) a7
  rw [World.size_alloc] at hsn
  have HR := Lib.hid (ch (o := 0) (n := 23) hsn (by rw [ax]; exact Nat.le_refl _))
  have HZ := Lib.hid (aD hsn)
  have HB := Lib.hid h2
  have HT := Lib.hid (T.below h2)
  have HN := Lib.hid hn
  have HL := Lib.hid hl
  clear h1 h2 hsn T
  rw [hn] at hev
  have HEV := Lib.hid hev
  clear hev
  clear hn hl
  go_enter Tryz.func142, Tryz.ntmps142
  go_wp2_with (first | (refine af rfl (bu rfl rfl) ?_) | (refine af rfl (aX rfl) ?_) | (refine af rfl (aV (c := b) rfl rfl ?_) ?_; (with_reducible exact HA.out)) | fail)
  try simp only [World.size_alloc]
  generalize (w.alloc (.cells (cel b).toArray 58)).alloc (.cells (aL a7).toArray 62) = w0 at *
  refine (pget_any b _ w0 (Lib.hid rfl) HT.out).mono ?_
  rintro e w1 ⟨v, rfl, hv, hb⟩
  rw [HN.out]
  rw [h0]
  have hll : l.length = 44 := by rw [← HL.out]; exact dB h0
  have HLL := Lib.hid hll
  rw [HL.out] at hv
  obtain ⟨g, hve, hrow⟩ : ∃ g, v = .slice (some ⟨g, 0, none⟩) 44 44 ∧ bK w1 g 5 l := by
    rcases hv with ⟨_, rfl⟩ | ⟨g, e, _, hr, _⟩
    · simp at hll
    · rw [hll] at e; exact ⟨g, e, hr⟩
  subst hve
  have HR1 := Lib.hid (aI HR.out HZ.out hb)
  have HB1 := Lib.hid (HB.out.trans (hb.mono HB.out.size))
  have HZ1 : Hid (w.heap.size + 1 < w1.heap.size) := Lib.hid (Nat.lt_of_lt_of_le HZ.out hb.size)
  have HRW := Lib.hid hrow
  clear hv hb HA HR HB HZ hll h0 hrow
  go_wp2_with fail
  refine (ptold g l w1 HLL.out HRW.out).mono ?_
  rintro e w2 ⟨rfl, hb⟩
  have hb3 := hb.alloc hb.size (.cells (aL (bm l)).toArray 62)
  have HW3 : Hid (SgW w (w2.alloc (.cells (aL (bm l)).toArray 62)) b g w2.heap.size l (bm l)) := Lib.hid ⟨HRW.out.below HRW.out.lt hb3, bx.new w2 _, aI HR1.out HZ1.out hb3, HB1.out.trans (hb3.mono HB1.out.size), Nat.lt_of_lt_of_le HZ1.out hb3.size⟩
  have HI : Hid ((bm l).id < 18446744073709551616) := Lib.hid (dR (by rw [HLL.out]; omega))
  clear hb hb3 HRW HR1 HB1 HZ1
  obtain ⟨y, hy⟩ : ∃ y, bm l = y := ⟨_, rfl⟩
  have HY := Lib.hid hy
  rw [hy] at HW3 HI
  rw [hy]
  clear hy
  have HFL := Lib.hid (cv y)
  go_upto_region 5 with (first | (refine af rfl (aX rfl) ?_) | (refine av rfl (bZ rfl rfl rfl) ?_) | fail)
  generalize w2.alloc (.cells (aL y).toArray 62) = w3 at *
  have HS3 := Lib.hid HW3.out.sup
  have HR3 := Lib.hid HW3.out.row
  generalize w2.heap.size = s at *
  refine aG (B := w3.heap.size) (by kernel_rfl) ?_
  refine ao rfl (fun w' hw => ai rfl (ev rfl)) ?_
  simp only [Act.put, aa, ac, ae]
  refine bn rfl (fun _ => ap Tryz.call127 rfl (evc (ev rfl) evn)) (bi (Nat.le_refl _) fun w' hw => pevent_b n w' HEV.out) ?_
  simp only [Act.put, aa, ac, ae]
  refine ao (v := .bool true) rfl (fun w' hw => aE false rfl (ev rfl)) ?_
  simp only [Act.put, aa, ac, ae]
  refine eu 3 (v := .bool true) rfl (fun w' hw => ai rfl (ev rfl)) (by kernel_rfl) ?_
  simp only [aY, List.take_succ_cons, List.take_zero, List.drop_succ_cons, List.drop_zero, Act.put, List.setIfInBounds_toArray, List.set_cons_succ, List.set_cons_zero]
  refine ao (v := .bool true) rfl (fun w' hw => aJ rfl (ev rfl) evk) ?_
  simp only [Act.put, aa, ac, ae]
  refine eu 6 (v := .bool true) rfl (fun w' hw => ai rfl (ev rfl)) (by kernel_rfl) ?_
  simp only [aY, List.take_succ_cons, List.take_zero, List.drop_succ_cons, List.drop_zero, Act.put, List.setIfInBounds_toArray, List.set_cons_succ, List.set_cons_zero]
  refine ao (v := .bool true) rfl (fun w' hw => aJ rfl (ev rfl) evk) ?_
  simp only [Act.put, aa, ac, ae]
  refine wpQuiet_nil ?_
  intro w4 hw
  have HW4 := Lib.hid (HW3.out.keep hw)
  have HR4 := Lib.hid HW4.out.res
  have HB4 := Lib.hid HW4.out.bel
  clear HW3 HS3 HR3 hw
  go_wp2_with (first | (refine af rfl (dt rfl) ?_) | (refine av rfl (bP (c := a7) rfl rfl rfl ?_) ?_; (with_reducible exact HR4.out)) | fail)
  refine bodyPost_ret (da (t := 62) (cs := aL a7) rfl _ _ _ rfl ?h1 Tryz.underlying62 rfl ?h2) rfl ⟨rfl, ?h3⟩
  case h1 => exact World.rangeAt_setCells_same _ _ _ _ (by rw [ax]; exact HR4.out)
  case h2 => rw [ax]; exact dA
  case h3 => exact below_setCells HB4.out (Nat.le_succ _) _
set_option maxHeartbeats 2000000 in
theorem psget_may (b : Blk) (w : World) (T : Tab w) (h0 : cr b.toList = 0) (hev : evB (cq b.toList) = true) (hm : supB (bm (bW b.toList)) = false) : Calls Tryz.prog 142 #[blk b] w fun e w' => e = .returned (.tuple #[.int .u64 (0 : Nat), sup a7, .int .i64 (5 : Nat)]) ∧ Below w.heap.size w w' := by
  obtain ⟨n, hn⟩ : ∃ n, cq b.toList = n := ⟨_, rfl⟩
  obtain ⟨l, hl⟩ : ∃ l, bW b.toList = l := ⟨_, rfl⟩
  have h1 := (Below.refl w.heap.size w).alloc (Nat.le_refl _) (.cells (cel b).toArray 58)
  have h2 := h1.alloc h1.size (.cells (aL a7).toArray 62)
  have HA : Hid (((w.alloc (.cells (cel b).toArray 58)).alloc (.cells (aL a7).toArray 62)).rangeAt w.heap.size 0 (cel b)) := Lib.hid (World.rangeAt_alloc (cg w (cel b) 58) _)
  have hsn := bx.new (w.alloc (.cells (cel b).toArray 58)) a7
  rw [World.size_alloc] at hsn
  have HR := Lib.hid (ch (o := 0) (n := 23) hsn (by rw [ax]; exact Nat.le_refl _))
  have HZ := Lib.hid (aD hsn)
  have HB := Lib.hid h2
  have HT := Lib.hid (T.below h2)
  have HN := Lib.hid hn
  have HL := Lib.hid hl
  clear h1 h2 hsn T
  rw [hn] at hev
  rw [hl] at hm
  have HEV := Lib.hid hev
  have HM0 := Lib.hid hm
  clear hev hm
  clear hn hl
  go_enter Tryz.func142, Tryz.ntmps142
  go_wp2_with (first | (refine af rfl (bu rfl rfl) ?_) | (refine af rfl (aX rfl) ?_) | (refine af rfl (aV (c := b) rfl rfl ?_) ?_; (with_reducible exact HA.out)) | fail)
  try simp only [World.size_alloc]
  generalize (w.alloc (.cells (cel b).toArray 58)).alloc (.cells (aL a7).toArray 62) = w0 at *
  refine (pget_any b _ w0 (Lib.hid rfl) HT.out).mono ?_
  rintro e w1 ⟨v, rfl, hv, hb⟩
  rw [HN.out]
  rw [h0]
  have hll : l.length = 44 := by rw [← HL.out]; exact dB h0
  have HLL := Lib.hid hll
  rw [HL.out] at hv
  obtain ⟨g, hve, hrow⟩ : ∃ g, v = .slice (some ⟨g, 0, none⟩) 44 44 ∧ bK w1 g 5 l := by
    rcases hv with ⟨_, rfl⟩ | ⟨g, e, _, hr, _⟩
    · simp at hll
    · rw [hll] at e; exact ⟨g, e, hr⟩
  subst hve
  have HR1 := Lib.hid (aI HR.out HZ.out hb)
  have HB1 := Lib.hid (HB.out.trans (hb.mono HB.out.size))
  have HZ1 : Hid (w.heap.size + 1 < w1.heap.size) := Lib.hid (Nat.lt_of_lt_of_le HZ.out hb.size)
  have HRW := Lib.hid hrow
  clear hv hb HA HR HB HZ hll h0 hrow
  go_wp2_with fail
  refine (ptold g l w1 HLL.out HRW.out).mono ?_
  rintro e w2 ⟨rfl, hb⟩
  have hb3 := hb.alloc hb.size (.cells (aL (bm l)).toArray 62)
  have HW3 : Hid (SgW w (w2.alloc (.cells (aL (bm l)).toArray 62)) b g w2.heap.size l (bm l)) := Lib.hid ⟨HRW.out.below HRW.out.lt hb3, bx.new w2 _, aI HR1.out HZ1.out hb3, HB1.out.trans (hb3.mono HB1.out.size), Nat.lt_of_lt_of_le HZ1.out hb3.size⟩
  have HI : Hid ((bm l).id < 18446744073709551616) := Lib.hid (dR (by rw [HLL.out]; omega))
  clear hb hb3 HRW HR1 HB1 HZ1
  obtain ⟨y, hy⟩ : ∃ y, bm l = y := ⟨_, rfl⟩
  have HY := Lib.hid hy
  rw [hy] at HW3 HI HM0
  have HM := HM0
  rw [hy]
  clear hy
  have HFL := Lib.hid (cv y)
  go_upto_region 5 with (first | (refine af rfl (aX rfl) ?_) | (refine av rfl (bZ rfl rfl rfl) ?_) | fail)
  generalize w2.alloc (.cells (aL y).toArray 62) = w3 at *
  have HS3 := Lib.hid HW3.out.sup
  have HR3 := Lib.hid HW3.out.row
  generalize w2.heap.size = s at *
  refine aG (B := w3.heap.size) (by kernel_rfl) ?_
  refine ao rfl (fun w' hw => ai rfl (ev rfl)) ?_
  simp only [Act.put, aa, ac, ae]
  refine bn rfl (fun _ => ap Tryz.call127 rfl (evc (ev rfl) evn)) (bi (Nat.le_refl _) fun w' hw => pevent_b n w' HEV.out) ?_
  simp only [Act.put, aa, ac, ae]
  refine ao (v := .bool false) rfl (fun w' hw => aE true rfl (ev rfl)) ?_
  simp only [Act.put, aa, ac, ae]
  refine ao (v := .bool false) rfl (fun w' hw => ai rfl (ev rfl)) ?_
  simp only [Act.put, aa, ac, ae]
  refine ao (ah rfl rfl rfl rfl) (fun w' hw => bw (c := y) rfl (ev rfl) ((HS3.out.below (aD HS3.out) hw).range)) ?_
  simp only [Act.put, aa, ac, ae]
  refine bn (ah rfl rfl rfl rfl) (fun _ => ap Tryz.call128 rfl (evc (ev rfl) evn)) (bi (Nat.le_refl _) fun w' hw => psmay_b y w' HM.out) ?_
  simp only [Act.put, aa, ac, ae]
  refine ao (v := .bool true) (ah rfl rfl rfl rfl) (fun w' hw => aE false rfl (ev rfl)) ?_
  simp only [Act.put, aa, ac, ae]
  refine ao (v := .bool true) rfl (fun w' hw => aB rfl (ev rfl) (ev rfl)) ?_
  simp only [Act.put, aa, ac, ae]
  refine eu 6 (v := .bool true) rfl (fun w' hw => ai rfl (ev rfl)) (by kernel_rfl) ?_
  simp only [aY, List.take_succ_cons, List.take_zero, List.drop_succ_cons, List.drop_zero, Act.put, List.setIfInBounds_toArray, List.set_cons_succ, List.set_cons_zero]
  refine ao (v := .bool true) rfl (fun w' hw => aJ rfl (ev rfl) evk) ?_
  simp only [Act.put, aa, ac, ae]
  refine wpQuiet_nil ?_
  intro w4 hw
  have HW4 := Lib.hid (HW3.out.keep hw)
  have HR4 := Lib.hid HW4.out.res
  have HB4 := Lib.hid HW4.out.bel
  clear HW3 HS3 HR3 hw
  go_wp2_with (first | (refine af rfl (dt rfl) ?_) | (refine av rfl (bP (c := a7) rfl rfl rfl ?_) ?_; (with_reducible exact HR4.out)) | fail)
  refine bodyPost_ret (da (t := 62) (cs := aL a7) rfl _ _ _ rfl ?h1 Tryz.underlying62 rfl ?h2) rfl ⟨rfl, ?h3⟩
  case h1 => exact World.rangeAt_setCells_same _ _ _ _ (by rw [ax]; exact HR4.out)
  case h2 => rw [ax]; exact dA
  case h3 => exact below_setCells HB4.out (Nat.le_succ _) _
set_option maxHeartbeats 2000000 in
theorem psget_un (b : Blk) (w : World) (T : Tab w) (h0 : cr b.toList = 0) (hev : evB (cq b.toList) = true) (hm : supB (bm (bW b.toList)) = true) (hd : bO (bm (bW b.toList)) ≠ bW b.toList) : Calls Tryz.prog 142 #[blk b] w fun e w' => e = .returned (.tuple #[.int .u64 (0 : Nat), sup a7, .int .i64 (5 : Nat)]) ∧ Below w.heap.size w w' := by
  obtain ⟨n, hn⟩ : ∃ n, cq b.toList = n := ⟨_, rfl⟩
  obtain ⟨l, hl⟩ : ∃ l, bW b.toList = l := ⟨_, rfl⟩
  have h1 := (Below.refl w.heap.size w).alloc (Nat.le_refl _) (.cells (cel b).toArray 58)
  have h2 := h1.alloc h1.size (.cells (aL a7).toArray 62)
  have HA : Hid (((w.alloc (.cells (cel b).toArray 58)).alloc (.cells (aL a7).toArray 62)).rangeAt w.heap.size 0 (cel b)) := Lib.hid (World.rangeAt_alloc (cg w (cel b) 58) _)
  have hsn := bx.new (w.alloc (.cells (cel b).toArray 58)) a7
  rw [World.size_alloc] at hsn
  have HR := Lib.hid (ch (o := 0) (n := 23) hsn (by rw [ax]; exact Nat.le_refl _))
  have HZ := Lib.hid (aD hsn)
  have HB := Lib.hid h2
  have HT := Lib.hid (T.below h2)
  have HN := Lib.hid hn
  have HL := Lib.hid hl
  clear h1 h2 hsn T
  rw [hn] at hev
  rw [hl] at hm hd
  have HEV := Lib.hid hev
  have HM0 := Lib.hid hm
  have HD0 : Hid (decide (bO (bm l) = l) = false) := Lib.hid (decide_eq_false hd)
  clear hev hm hd
  clear hn hl
  go_enter Tryz.func142, Tryz.ntmps142
  go_wp2_with (first | (refine af rfl (bu rfl rfl) ?_) | (refine af rfl (aX rfl) ?_) | (refine af rfl (aV (c := b) rfl rfl ?_) ?_; (with_reducible exact HA.out)) | fail)
  try simp only [World.size_alloc]
  generalize (w.alloc (.cells (cel b).toArray 58)).alloc (.cells (aL a7).toArray 62) = w0 at *
  refine (pget_any b _ w0 (Lib.hid rfl) HT.out).mono ?_
  rintro e w1 ⟨v, rfl, hv, hb⟩
  rw [HN.out]
  rw [h0]
  have hll : l.length = 44 := by rw [← HL.out]; exact dB h0
  have HLL := Lib.hid hll
  rw [HL.out] at hv
  obtain ⟨g, hve, hrow⟩ : ∃ g, v = .slice (some ⟨g, 0, none⟩) 44 44 ∧ bK w1 g 5 l := by
    rcases hv with ⟨_, rfl⟩ | ⟨g, e, _, hr, _⟩
    · simp at hll
    · rw [hll] at e; exact ⟨g, e, hr⟩
  subst hve
  have HR1 := Lib.hid (aI HR.out HZ.out hb)
  have HB1 := Lib.hid (HB.out.trans (hb.mono HB.out.size))
  have HZ1 : Hid (w.heap.size + 1 < w1.heap.size) := Lib.hid (Nat.lt_of_lt_of_le HZ.out hb.size)
  have HRW := Lib.hid hrow
  clear hv hb HA HR HB HZ hll h0 hrow
  go_wp2_with fail
  refine (ptold g l w1 HLL.out HRW.out).mono ?_
  rintro e w2 ⟨rfl, hb⟩
  have hb3 := hb.alloc hb.size (.cells (aL (bm l)).toArray 62)
  have HW3 : Hid (SgW w (w2.alloc (.cells (aL (bm l)).toArray 62)) b g w2.heap.size l (bm l)) := Lib.hid ⟨HRW.out.below HRW.out.lt hb3, bx.new w2 _, aI HR1.out HZ1.out hb3, HB1.out.trans (hb3.mono HB1.out.size), Nat.lt_of_lt_of_le HZ1.out hb3.size⟩
  have HI : Hid ((bm l).id < 18446744073709551616) := Lib.hid (dR (by rw [HLL.out]; omega))
  clear hb hb3 HRW HR1 HB1 HZ1
  obtain ⟨y, hy⟩ : ∃ y, bm l = y := ⟨_, rfl⟩
  have HY := Lib.hid hy
  rw [hy] at HW3 HI HM0 HD0
  have HM := HM0
  have HD := HD0
  rw [hy]
  clear hy
  have HFL := Lib.hid (cv y)
  go_upto_region 5 with (first | (refine af rfl (aX rfl) ?_) | (refine av rfl (bZ rfl rfl rfl) ?_) | fail)
  generalize w2.alloc (.cells (aL y).toArray 62) = w3 at *
  have HS3 := Lib.hid HW3.out.sup
  have HR3 := Lib.hid HW3.out.row
  generalize w2.heap.size = s at *
  refine aG (B := w3.heap.size) (by kernel_rfl) ?_
  refine ao rfl (fun w' hw => ai rfl (ev rfl)) ?_
  simp only [Act.put, aa, ac, ae]
  refine bn rfl (fun _ => ap Tryz.call127 rfl (evc (ev rfl) evn)) (bi (Nat.le_refl _) fun w' hw => pevent_b n w' HEV.out) ?_
  simp only [Act.put, aa, ac, ae]
  refine ao (v := .bool false) rfl (fun w' hw => aE true rfl (ev rfl)) ?_
  simp only [Act.put, aa, ac, ae]
  refine ao (v := .bool false) rfl (fun w' hw => ai rfl (ev rfl)) ?_
  simp only [Act.put, aa, ac, ae]
  refine ao (ah rfl rfl rfl rfl) (fun w' hw => bw (c := y) rfl (ev rfl) ((HS3.out.below (aD HS3.out) hw).range)) ?_
  simp only [Act.put, aa, ac, ae]
  refine bn (ah rfl rfl rfl rfl) (fun _ => ap Tryz.call128 rfl (evc (ev rfl) evn)) (bi (Nat.le_refl _) fun w' hw => psmay_b y w' HM.out) ?_
  simp only [Act.put, aa, ac, ae]
  refine ao (v := .bool false) (ah rfl rfl rfl rfl) (fun w' hw => aE true rfl (ev rfl)) ?_
  simp only [Act.put, aa, ac, ae]
  refine ao (v := .bool false) rfl (fun w' hw => aB rfl (ev rfl) (ev rfl)) ?_
  simp only [Act.put, aa, ac, ae]
  refine ao (v := .bool false) rfl (fun w' hw => ai rfl (ev rfl)) ?_
  simp only [Act.put, aa, ac, ae]
  refine ao (ah rfl rfl rfl rfl) (fun w' hw => bw (c := y) rfl (ev rfl) ((HS3.out.below (aD HS3.out) hw).range)) ?_
  simp only [Act.put, aa, ac, ae]
  refine bn (ah rfl rfl rfl rfl) (fun _ => ap Tryz.call129 rfl (evc (ev rfl) evn)) (bi (Nat.le_refl _) fun w' hw => plaid y w' HI.out HM.out) ?_
  simp only [Act.put, aa, ac, ae]
  refine ao (ah rfl rfl rfl rfl) (fun w' hw => ai rfl (ev rfl)) ?_
  simp only [Act.put, aa, ac, ae]
  refine ao (ah rfl rfl rfl rfl) (fun w' hw => exec_s2a rfl (ev rfl)) ?_
  simp only [Act.put, aa, ac, ae]
  refine ao (ah rfl rfl rfl rfl) (fun w' hw => eO HLL.out rfl (ev rfl) (a4 (HR3.out.below HR3.out.lt hw))) ?_
  simp only [Act.put, aa, ac, ae]
  refine ao (v := .bool true) (ah rfl rfl rfl rfl) (fun w' hw => exec_ne44 false HFL.out HLL.out rfl (ev rfl) (ev rfl) HD.out) ?_
  simp only [Act.put, aa, ac, ae]
  refine ao (v := .bool true) rfl (fun w' hw => aB rfl (ev rfl) (ev rfl)) ?_
  simp only [Act.put, aa, ac, ae]
  refine wpQuiet_nil ?_
  intro w4 hw
  have HW4 := Lib.hid (HW3.out.keep hw)
  have HR4 := Lib.hid HW4.out.res
  have HB4 := Lib.hid HW4.out.bel
  clear HW3 HS3 HR3 hw
  go_wp2_with (first | (refine af rfl (dt rfl) ?_) | (refine av rfl (bP (c := a7) rfl rfl rfl ?_) ?_; (with_reducible exact HR4.out)) | fail)
  refine bodyPost_ret (da (t := 62) (cs := aL a7) rfl _ _ _ rfl ?h1 Tryz.underlying62 rfl ?h2) rfl ⟨rfl, ?h3⟩
  case h1 => exact World.rangeAt_setCells_same _ _ _ _ (by rw [ax]; exact HR4.out)
  case h2 => rw [ax]; exact dA
  case h3 => exact below_setCells HB4.out (Nat.le_succ _) _
set_option maxHeartbeats 2000000 in
theorem psget_yes (b : Blk) (w : World) (T : Tab w) (h0 : cr b.toList = 0) (hev : evB (cq b.toList) = true) (hm : supB (bm (bW b.toList)) = true) (hd : bO (bm (bW b.toList)) = bW b.toList) : Calls Tryz.prog 142 #[blk b] w fun e w' => e = .returned (.tuple #[.int .u64 (cq b.toList : Nat), sup (bm (bW b.toList)), .int .i64 (0 : Nat)]) ∧ Below w.heap.size w w' := by
  obtain ⟨n, hn⟩ : ∃ n, cq b.toList = n := ⟨_, rfl⟩
  obtain ⟨l, hl⟩ : ∃ l, bW b.toList = l := ⟨_, rfl⟩
  have h1 := (Below.refl w.heap.size w).alloc (Nat.le_refl _) (.cells (cel b).toArray 58)
  have h2 := h1.alloc h1.size (.cells (aL a7).toArray 62)
  have HA : Hid (((w.alloc (.cells (cel b).toArray 58)).alloc (.cells (aL a7).toArray 62)).rangeAt w.heap.size 0 (cel b)) := Lib.hid (World.rangeAt_alloc (cg w (cel b) 58) _)
  have hsn := bx.new (w.alloc (.cells (cel b).toArray 58)) a7
  rw [World.size_alloc] at hsn
  have HR := Lib.hid (ch (o := 0) (n := 23) hsn (by rw [ax]; exact Nat.le_refl _))
  have HZ := Lib.hid (aD hsn)
  have HB := Lib.hid h2
  have HT := Lib.hid (T.below h2)
  have HN := Lib.hid hn
  have HL := Lib.hid hl
  clear h1 h2 hsn T
  rw [hn] at hev
  rw [hl] at hm hd
  have HEV := Lib.hid hev
  have HM0 := Lib.hid hm
  have HD0 : Hid (decide (bO (bm l) = l) = true) := Lib.hid (decide_eq_true hd)
  clear hev hm hd
  clear hn hl
  go_enter Tryz.func142, Tryz.ntmps142
  go_wp2_with (first | (refine af rfl (bu rfl rfl) ?_) | (refine af rfl (aX rfl) ?_) | (refine af rfl (aV (c := b) rfl rfl ?_) ?_; (with_reducible exact HA.out)) | fail)
  try simp only [World.size_alloc]
  generalize (w.alloc (.cells (cel b).toArray 58)).alloc (.cells (aL a7).toArray 62) = w0 at *
  refine (pget_any b _ w0 (Lib.hid rfl) HT.out).mono ?_
  rintro e w1 ⟨v, rfl, hv, hb⟩
  rw [HN.out]
  rw [h0]
  have hll : l.length = 44 := by rw [← HL.out]; exact dB h0
  have HLL := Lib.hid hll
  rw [HL.out] at hv
  obtain ⟨g, hve, hrow⟩ : ∃ g, v = .slice (some ⟨g, 0, none⟩) 44 44 ∧ bK w1 g 5 l := by
    rcases hv with ⟨_, rfl⟩ | ⟨g, e, _, hr, _⟩
    · simp at hll
    · rw [hll] at e; exact ⟨g, e, hr⟩
  subst hve
  have HR1 := Lib.hid (aI HR.out HZ.out hb)
  have HB1 := Lib.hid (HB.out.trans (hb.mono HB.out.size))
  have HZ1 : Hid (w.heap.size + 1 < w1.heap.size) := Lib.hid (Nat.lt_of_lt_of_le HZ.out hb.size)
  have HRW := Lib.hid hrow
  clear hv hb HA HR HB HZ hll h0 hrow
  go_wp2_with fail
  refine (ptold g l w1 HLL.out HRW.out).mono ?_
  rintro e w2 ⟨rfl, hb⟩
  have hb3 := hb.alloc hb.size (.cells (aL (bm l)).toArray 62)
  have HW3 : Hid (SgW w (w2.alloc (.cells (aL (bm l)).toArray 62)) b g w2.heap.size l (bm l)) := Lib.hid ⟨HRW.out.below HRW.out.lt hb3, bx.new w2 _, aI HR1.out HZ1.out hb3, HB1.out.trans (hb3.mono HB1.out.size), Nat.lt_of_lt_of_le HZ1.out hb3.size⟩
  have HI : Hid ((bm l).id < 18446744073709551616) := Lib.hid (dR (by rw [HLL.out]; omega))
  clear hb hb3 HRW HR1 HB1 HZ1
  obtain ⟨y, hy⟩ : ∃ y, bm l = y := ⟨_, rfl⟩
  have HY := Lib.hid hy
  rw [hy] at HW3 HI HM0 HD0
  have HM := HM0
  have HD := HD0
  rw [hy]
  clear hy
  have HFL := Lib.hid (cv y)
  go_upto_region 5 with (first | (refine af rfl (aX rfl) ?_) | (refine av rfl (bZ rfl rfl rfl) ?_) | fail)
  generalize w2.alloc (.cells (aL y).toArray 62) = w3 at *
  have HS3 := Lib.hid HW3.out.sup
  have HR3 := Lib.hid HW3.out.row
  generalize w2.heap.size = s at *
  refine aG (B := w3.heap.size) (by kernel_rfl) ?_
  refine ao rfl (fun w' hw => ai rfl (ev rfl)) ?_
  simp only [Act.put, aa, ac, ae]
  refine bn rfl (fun _ => ap Tryz.call127 rfl (evc (ev rfl) evn)) (bi (Nat.le_refl _) fun w' hw => pevent_b n w' HEV.out) ?_
  simp only [Act.put, aa, ac, ae]
  refine ao (v := .bool false) rfl (fun w' hw => aE true rfl (ev rfl)) ?_
  simp only [Act.put, aa, ac, ae]
  refine ao (v := .bool false) rfl (fun w' hw => ai rfl (ev rfl)) ?_
  simp only [Act.put, aa, ac, ae]
  refine ao (ah rfl rfl rfl rfl) (fun w' hw => bw (c := y) rfl (ev rfl) ((HS3.out.below (aD HS3.out) hw).range)) ?_
  simp only [Act.put, aa, ac, ae]
  refine bn (ah rfl rfl rfl rfl) (fun _ => ap Tryz.call128 rfl (evc (ev rfl) evn)) (bi (Nat.le_refl _) fun w' hw => psmay_b y w' HM.out) ?_
  simp only [Act.put, aa, ac, ae]
  refine ao (v := .bool false) (ah rfl rfl rfl rfl) (fun w' hw => aE true rfl (ev rfl)) ?_
  simp only [Act.put, aa, ac, ae]
  refine ao (v := .bool false) rfl (fun w' hw => aB rfl (ev rfl) (ev rfl)) ?_
  simp only [Act.put, aa, ac, ae]
  refine ao (v := .bool false) rfl (fun w' hw => ai rfl (ev rfl)) ?_
  simp only [Act.put, aa, ac, ae]
  refine ao (ah rfl rfl rfl rfl) (fun w' hw => bw (c := y) rfl (ev rfl) ((HS3.out.below (aD HS3.out) hw).range)) ?_
  simp only [Act.put, aa, ac, ae]
  refine bn (ah rfl rfl rfl rfl) (fun _ => ap Tryz.call129 rfl (evc (ev rfl) evn)) (bi (Nat.le_refl _) fun w' hw => plaid y w' HI.out HM.out) ?_
  simp only [Act.put, aa, ac, ae]
  refine ao (ah rfl rfl rfl rfl) (fun w' hw => ai rfl (ev rfl)) ?_
  simp only [Act.put, aa, ac, ae]
  refine ao (ah rfl rfl rfl rfl) (fun w' hw => exec_s2a rfl (ev rfl)) ?_
  simp only [Act.put, aa, ac, ae]
  refine ao (ah rfl rfl rfl rfl) (fun w' hw => eO HLL.out rfl (ev rfl) (a4 (HR3.out.below HR3.out.lt hw))) ?_
  simp only [Act.put, aa, ac, ae]
  refine ao (v := .bool false) (ah rfl rfl rfl rfl) (fun w' hw => exec_ne44 true HFL.out HLL.out rfl (ev rfl) (ev rfl) HD.out) ?_
  simp only [Act.put, aa, ac, ae]
  refine ao (v := .bool false) rfl (fun w' hw => aB rfl (ev rfl) (ev rfl)) ?_
  simp only [Act.put, aa, ac, ae]
  refine wpQuiet_nil ?_
  intro w4 hw
  have HW4 := Lib.hid (HW3.out.keep hw)
  have HR4 := Lib.hid HW4.out.res
  have HB4 := Lib.hid HW4.out.bel
  have HLD := Lib.hid HW4.out.sup.range
  clear HW3 HS3 HR3 hw
  go_wp2_with fail
  refine wp_region_still_tail 3 (by kernel_rfl) (by kernel_rfl) ?_
  simp only [List.take_succ_cons, List.take_zero, List.drop_succ_cons, List.drop_zero]
  refine aK rfl (ai rfl (ev rfl)) ?_
  simp only [Act.put, aa, ac, ae]
  refine aK rfl (bw (c := y) rfl (ev rfl) HLD.out) ?_
  simp only [Act.put, aa, ac, ae]
  refine aK rfl (ak rfl (ev rfl)) ?_
  simp only [Act.put, aa, ac, ae]
  refine wpStill_nil ?_
  change wpList _ _ _ _ _ (World.drew _)
  refine aN rfl (bP (c := y) rfl (ev rfl) (ev rfl) HR4.out) ?_
  simp only [Act.put, aa, ac, ae]
  refine ag rfl (ak rfl evk) ?_
  simp only [Act.put, aa, ac, ae]
  refine wpList_nil ?_
  go_wp2_with fail
  refine bodyPost_ret (da (t := 62) (cs := aL y) rfl _ _ _ rfl ?h1 Tryz.underlying62 rfl ?h2) rfl ⟨by rw [HN.out, HL.out, HY.out]; rfl, ?h3⟩
  case h1 => exact World.rangeAt_setCells_same _ _ _ _ (by rw [ax]; exact HR4.out)
  case h2 => rw [ax]; exact dA
  case h3 => exact below_setCells (bd HB4.out) (Nat.le_succ _) _
theorem psget (b : Blk) (w : World) (T : Tab w) : Calls Tryz.prog 142 #[blk b] w fun e w' => e = .returned (.tuple #[.int .u64 (gsN b : Nat), sup (gsS b), .int .i64 (gsE b : Nat)]) ∧ Below w.heap.size w w' := by
  by_cases h0 : cr b.toList = 0
  · by_cases hev : evB (cq b.toList) = true
    · by_cases hm : supB (bm (bW b.toList)) = true
      · by_cases hd : bO (bm (bW b.toList)) = bW b.toList
        · have hE := gsE_ok h0 ⟨hev, hm, hd⟩
          rw [gsN_of hE, gsS_of hE, hE]
          exact psget_yes b w T h0 hev hm hd
        · have hE := gsE_form h0 (fun h => hd h.2.2)
          rw [gsN_no (by omega), gsS_no (by omega), hE]
          exact psget_un b w T h0 hev hm hd
      · have hE := gsE_form h0 (fun h => hm h.2.1)
        rw [gsN_no (by omega), gsS_no (by omega), hE]
        exact psget_may b w T h0 hev (by simpa using hm)
    · have hE := gsE_form h0 (fun h => hev h.1)
      rw [gsN_no (by omega), gsS_no (by omega), hE]
      exact psget_ev b w T h0 (by simpa using hev)
  · have hE := gsE_seal h0
    rw [gsN_no (by omega), gsS_no (by omega), hE]
    exact psget_seal b w T h0
def w3_ (w : World) (a b : Blk) : World := ((w.alloc (.cells (cel a).toArray 58)).alloc (.cells (cel b).toArray 58)).alloc (.cells (aL a7).toArray 62)
theorem three_new (w : World) (a b : Blk) : (w3_ w a b).rangeAt w.heap.size 0 (cel a) ∧ (w3_ w a b).rangeAt (w.heap.size + 1) 0 (cel b) ∧ (w3_ w a b).there (w.heap.size + 1 + 1) 0 23 ∧ Below w.heap.size w (w3_ w a b) ∧ w.heap.size + 1 + 1 < (w3_ w a b).heap.size := by
  unfold w3_
  have e1 := World.size_alloc (w := w) (o := Obj.cells (cel a).toArray 58)
  have e2 := World.size_alloc (w := (w.alloc (.cells (cel a).toArray 58))) (o := Obj.cells (cel b).toArray 58)
  have h3 := bx.new ((w.alloc (.cells (cel a).toArray 58)).alloc (.cells (cel b).toArray 58)) a7
  rw [e2, e1] at h3
  refine ⟨World.rangeAt_alloc (World.rangeAt_alloc (cg w (cel a) _) _) _, ?_, ch (o := 0) (n := 23) h3 (by rw [ax]; exact Nat.le_refl _), ?_, aD h3⟩
  · rw [← e1]; exact World.rangeAt_alloc (cg _ (cel b) _) _
  · exact (((Below.refl _ w).alloc (Nat.le_refl _) _).alloc (by omega) _).alloc (by omega) _
theorem res_tri2 {fn : Func} {p q u : Tmp} {t : TypeId} {cs : List Value} {d : TypeDesc} (h : fn.results = #[.tmp p, .tmp u, .cell q t]) (tmps : Array Value) (w : World) (b : Nat) (hq : tmps.getD q undef = .pointer (some ⟨b, 0, none⟩)) (hr : w.rangeAt b 0 cs) (hu : Tryz.prog.underlying t = some d) (hd : d.isRow = true) (hz : (Tryz.prog.info? t).map (·.size) = some cs.length) :
    (results fn tmps).run Tryz.prog w = .ok (.tuple #[tmps.getD p undef, tmps.getD u undef, .agg cs.toArray]) w := by
  have hl : (loadVar t ⟨b, 0, none⟩).run Tryz.prog w = .ok (.agg cs.toArray) w := run_loadVar_mid (P := Tryz.prog) w b 0 t cs d hr hu hd hz
  have hq' : tmps[q]?.getD undef = .pointer (some ⟨b, 0, none⟩) := by simpa using hq
  simp [results, h, hq', asAddr, hl]
theorem range_same {w : World} {b : Nat} (c : Sup) (h : w.there b 0 23) : (w.setCells b 0 (aL c)).rangeAt b 0 (aL c) := World.rangeAt_setCells_same _ _ _ _ (by rw [ax]; exact h)
def nwW (a b : Blk) : Nat := if gsN a < gsN b then 1 else 0
set_option maxHeartbeats 2000000 in
theorem pnewest_b (a b : Blk) (w : World) (T : Tab w) (hlt : gsN a < gsN b) : Calls Tryz.prog 131 #[blk a, blk b] w fun e w' => e = .returned (.tuple #[.int .i64 1, .int .u64 (gsN b : Nat), sup (gsS b)]) ∧ Below w.heap.size w w' := by
  obtain ⟨h1, h2, h3, h4, h5⟩ := three_new w a b
  unfold w3_ at h1 h2 h3 h4 h5
  obtain ⟨x, hx⟩ : ∃ x, gsN a = x := ⟨_, rfl⟩
  obtain ⟨y, hy⟩ : ∃ y, gsN b = y := ⟨_, rfl⟩
  rw [hx, hy] at hlt
  obtain ⟨p, hp⟩ : ∃ p, gsS a = p := ⟨_, rfl⟩
  obtain ⟨q, hq⟩ : ∃ q, gsS b = q := ⟨_, rfl⟩
  have HX := Lib.hid hx
  have HY := Lib.hid hy
  have HP := Lib.hid hp
  have HQ := Lib.hid hq
  have HA := Lib.hid h1
  have HBK := Lib.hid h2
  have HR := Lib.hid h3
  have HB := Lib.hid h4
  have HZ := Lib.hid h5
  have HT := Lib.hid T
  clear h1 h2 h3 h4 h5 T hx hy hp hq
  go_enter Tryz.func131, Tryz.ntmps131
  go_wp2_with (first | (refine af rfl (bu rfl rfl) ?_) | (refine af rfl (aX rfl) ?_) | (refine af rfl (aV (c := a) rfl rfl ?_) ?_; (with_reducible exact HA.out)) | fail)
  try simp only [World.size_alloc]
  generalize ((w.alloc (.cells (cel a).toArray 58)).alloc (.cells (cel b).toArray 58)).alloc (.cells (aL a7).toArray 62) = w0 at *
  refine (psget a w0 (HT.out.below HB.out)).mono ?_
  rintro e w1 ⟨rfl, hb⟩
  have HBK1 := Lib.hid (World.rangeAt_setCells_apart (br HBK.out (by have := HZ.out; omega) hb) (w.heap.size + 1 + 1) 0 (aL (gsS a)) (.inl (by omega)))
  have HR1 := Lib.hid (aI HR.out HZ.out hb)
  have hb1 := HB.out.trans (hb.mono HB.out.size)
  have HB1 := Lib.hid (below_setCells (b := w.heap.size + 1 + 1) (o := 0) hb1 (by omega) (aL (gsS a)))
  have HPR := Lib.hid (range_same (gsS a) HR1.out)
  have HR2 := Lib.hid (World.there_setCells HR1.out (w.heap.size + 1 + 1) 0 (aL (gsS a)))
  have HZ1 : Hid (w.heap.size + 1 + 1 < (w1.setCells (w.heap.size + 1 + 1) 0 (aL (gsS a))).heap.size) := Lib.hid (by rw [size_setCells]; exact Nat.lt_of_lt_of_le HZ.out hb.size)
  rw [HP.out] at HBK1 HB1 HPR HR2 HZ1
  rw [HX.out, HP.out]
  clear hb hb1 HBK HR HB HA HZ
  go_upto_region 2 with (first | (refine av rfl (bP (c := p) rfl rfl rfl ?_) ?_; (with_reducible exact HR1.out)) | fail)
  generalize w1.setCells (w.heap.size + 1 + 1) 0 (aL p) = w2 at *
  go_wp2_with (first | (refine af rfl (aV (c := b) rfl rfl ?_) ?_; (with_reducible exact HBK1.out)) | fail)
  refine (psget b w2 (HT.out.below HB1.out)).mono ?_
  rintro e w3 ⟨rfl, hb⟩
  have hb3 := hb.alloc hb.size (.cells (aL (gsS b)).toArray 62)
  have HPR3 := Lib.hid (br HPR.out HZ1.out hb3)
  have HR3 := Lib.hid (aI HR2.out HZ1.out hb3)
  have HB3 := Lib.hid (HB1.out.trans (hb3.mono HB1.out.size))
  have HQR3 := Lib.hid (bx.new w3 (gsS b)).range
  rw [HQ.out] at HPR3 HR3 HB3 HQR3
  rw [HY.out, HQ.out]
  clear hb hb3 HBK1 HPR HR2 HB1 HR1 HZ1
  have hd : decide ((x : Int) < (y : Int)) = true := by simp; omega
  have hd2 : decide (x < y) = true := by simp; omega
  clear hlt
  go_upto_region 4 with (first | (refine af rfl (aX rfl) ?_) | (refine av rfl (bZ rfl rfl rfl) ?_) | fail)
  generalize w3.alloc (.cells (aL q).toArray 62) = w4 at *
  go_wp2_with fail
  refine wp_region_still_tail 4 (by kernel_rfl) (by kernel_rfl) ?_
  simp only [List.take_succ_cons, List.take_zero, List.drop_succ_cons, List.drop_zero]
  refine aK rfl (ai rfl (ev rfl)) ?_
  simp only [Act.put, aa, ac, ae]
  refine aK rfl (bw (c := q) rfl (ev rfl) HQR3.out) ?_
  simp only [Act.put, aa, ac, ae]
  refine aK rfl (ak rfl evk) ?_
  simp only [Act.put, aa, ac, ae]
  refine aK rfl (ak rfl (ev rfl)) ?_
  simp only [Act.put, aa, ac, ae]
  refine wpStill_nil ?_
  change wpList _ _ _ _ _ (World.drew _)
  refine aN rfl (bP (c := q) rfl (ev rfl) (ev rfl) HR3.out) ?_
  simp only [Act.put, aa, ac, ae]
  refine wpList_nil ?_
  go_wp2_with fail
  refine bodyPost_ret (res_tri2 (t := 62) (cs := aL q) rfl _ _ _ rfl ?h1 Tryz.underlying62 rfl ?h2) rfl ⟨by rw [HY.out, HQ.out]; rfl, ?h3⟩
  case h1 => exact World.rangeAt_setCells_same _ _ _ _ (by rw [ax]; exact HR3.out)
  case h2 => rw [ax]; exact dA
  case h3 => exact below_setCells (bd HB3.out) (by omega) _
set_option maxHeartbeats 2000000 in
theorem pnewest_a (a b : Blk) (w : World) (T : Tab w) (hlt : ¬ gsN a < gsN b) : Calls Tryz.prog 131 #[blk a, blk b] w fun e w' => e = .returned (.tuple #[.int .i64 0, .int .u64 (gsN a : Nat), sup (gsS a)]) ∧ Below w.heap.size w w' := by
  obtain ⟨h1, h2, h3, h4, h5⟩ := three_new w a b
  unfold w3_ at h1 h2 h3 h4 h5
  obtain ⟨x, hx⟩ : ∃ x, gsN a = x := ⟨_, rfl⟩
  obtain ⟨y, hy⟩ : ∃ y, gsN b = y := ⟨_, rfl⟩
  rw [hx, hy] at hlt
  obtain ⟨p, hp⟩ : ∃ p, gsS a = p := ⟨_, rfl⟩
  obtain ⟨q, hq⟩ : ∃ q, gsS b = q := ⟨_, rfl⟩
  have HX := Lib.hid hx
  have HY := Lib.hid hy
  have HP := Lib.hid hp
  have HQ := Lib.hid hq
  have HA := Lib.hid h1
  have HBK := Lib.hid h2
  have HR := Lib.hid h3
  have HB := Lib.hid h4
  have HZ := Lib.hid h5
  have HT := Lib.hid T
  clear h1 h2 h3 h4 h5 T hx hy hp hq
  go_enter Tryz.func131, Tryz.ntmps131
  go_wp2_with (first | (refine af rfl (bu rfl rfl) ?_) | (refine af rfl (aX rfl) ?_) | (refine af rfl (aV (c := a) rfl rfl ?_) ?_; (with_reducible exact HA.out)) | fail)
  try simp only [World.size_alloc]
  generalize ((w.alloc (.cells (cel a).toArray 58)).alloc (.cells (cel b).toArray 58)).alloc (.cells (aL a7).toArray 62) = w0 at *
  refine (psget a w0 (HT.out.below HB.out)).mono ?_
  rintro e w1 ⟨rfl, hb⟩
  have HBK1 := Lib.hid (World.rangeAt_setCells_apart (br HBK.out (by have := HZ.out; omega) hb) (w.heap.size + 1 + 1) 0 (aL (gsS a)) (.inl (by omega)))
  have HR1 := Lib.hid (aI HR.out HZ.out hb)
  have hb1 := HB.out.trans (hb.mono HB.out.size)
  have HB1 := Lib.hid (below_setCells (b := w.heap.size + 1 + 1) (o := 0) hb1 (by omega) (aL (gsS a)))
  have HPR := Lib.hid (range_same (gsS a) HR1.out)
  have HR2 := Lib.hid (World.there_setCells HR1.out (w.heap.size + 1 + 1) 0 (aL (gsS a)))
  have HZ1 : Hid (w.heap.size + 1 + 1 < (w1.setCells (w.heap.size + 1 + 1) 0 (aL (gsS a))).heap.size) := Lib.hid (by rw [size_setCells]; exact Nat.lt_of_lt_of_le HZ.out hb.size)
  rw [HP.out] at HBK1 HB1 HPR HR2 HZ1
  rw [HX.out, HP.out]
  clear hb hb1 HBK HR HB HA HZ
  go_upto_region 2 with (first | (refine av rfl (bP (c := p) rfl rfl rfl ?_) ?_; (with_reducible exact HR1.out)) | fail)
  generalize w1.setCells (w.heap.size + 1 + 1) 0 (aL p) = w2 at *
  go_wp2_with (first | (refine af rfl (aV (c := b) rfl rfl ?_) ?_; (with_reducible exact HBK1.out)) | fail)
  refine (psget b w2 (HT.out.below HB1.out)).mono ?_
  rintro e w3 ⟨rfl, hb⟩
  have hb3 := hb.alloc hb.size (.cells (aL (gsS b)).toArray 62)
  have HPR3 := Lib.hid (br HPR.out HZ1.out hb3)
  have HR3 := Lib.hid (aI HR2.out HZ1.out hb3)
  have HB3 := Lib.hid (HB1.out.trans (hb3.mono HB1.out.size))
  have HQR3 := Lib.hid (bx.new w3 (gsS b)).range
  rw [HQ.out] at HPR3 HR3 HB3 HQR3
  rw [HY.out, HQ.out]
  clear hb hb3 HBK1 HPR HR2 HB1 HR1 HZ1
  have hd : decide ((x : Int) < (y : Int)) = false := by simp; omega
  have hd2 : decide (x < y) = false := by simp; omega
  clear hlt
  go_upto_region 5 with (first | (refine af rfl (aX rfl) ?_) | (refine av rfl (bZ rfl rfl rfl) ?_) | fail)
  generalize w3.alloc (.cells (aL q).toArray 62) = w4 at *
  go_wp2_with fail
  refine wp_region_still_tail 4 (by kernel_rfl) (by kernel_rfl) ?_
  simp only [List.take_succ_cons, List.take_zero, List.drop_succ_cons, List.drop_zero]
  refine aK rfl (ai rfl (ev rfl)) ?_
  simp only [Act.put, aa, ac, ae]
  refine aK rfl (bw (c := p) rfl (ev rfl) HPR3.out) ?_
  simp only [Act.put, aa, ac, ae]
  refine aK rfl (ak rfl evk) ?_
  simp only [Act.put, aa, ac, ae]
  refine aK rfl (ak rfl (ev rfl)) ?_
  simp only [Act.put, aa, ac, ae]
  refine wpStill_nil ?_
  change wpList _ _ _ _ _ (World.drew _)
  refine aN rfl (bP (c := p) rfl (ev rfl) (ev rfl) HR3.out) ?_
  simp only [Act.put, aa, ac, ae]
  refine wpList_nil ?_
  go_wp2_with fail
  refine bodyPost_ret (res_tri2 (t := 62) (cs := aL p) rfl _ _ _ rfl ?h1 Tryz.underlying62 rfl ?h2) rfl ⟨by rw [HX.out, HP.out]; rfl, ?h3⟩
  case h1 => exact World.rangeAt_setCells_same _ _ _ _ (by rw [ax]; exact HR3.out)
  case h2 => rw [ax]; exact dA
  case h3 => exact below_setCells (bd HB3.out) (by omega) _
theorem pnewest (a b : Blk) (w : World) (T : Tab w) : Calls Tryz.prog 131 #[blk a, blk b] w fun e w' => e = .returned (.tuple #[.int .i64 (nwW a b : Nat), .int .u64 (nwN a b : Nat), sup (nwS a b)]) ∧ Below w.heap.size w w' := by
  unfold nwW nwN nwS
  by_cases hlt : gsN a < gsN b
  · rw [if_pos hlt, if_pos hlt, if_pos hlt]
    exact pnewest_b a b w T hlt
  · rw [if_neg hlt, if_neg hlt, if_neg hlt]
    exact pnewest_a a b w T hlt
theorem two_new (w : World) (a b : Blk) : ((w.alloc (.cells (cel a).toArray 58)).alloc (.cells (cel b).toArray 58)).rangeAt w.heap.size 0 (cel a) ∧ ((w.alloc (.cells (cel a).toArray 58)).alloc (.cells (cel b).toArray 58)).rangeAt (w.heap.size + 1) 0 (cel b) ∧ Below w.heap.size w ((w.alloc (.cells (cel a).toArray 58)).alloc (.cells (cel b).toArray 58)) ∧ w.heap.size + 1 < ((w.alloc (.cells (cel a).toArray 58)).alloc (.cells (cel b).toArray 58)).heap.size := by
  have e1 := World.size_alloc (w := w) (o := Obj.cells (cel a).toArray 58)
  refine ⟨World.rangeAt_alloc (cg w (cel a) _) _, ?_, ?_, by simp only [World.size_alloc]; omega⟩
  · rw [← e1]; exact cg _ (cel b) _
  · exact ((Below.refl _ w).alloc (Nat.le_refl _) _).alloc (by omega) _
theorem slot_of (a b : Blk) : sloT a b = if nwN a b ≠ 0 ∧ nwW a b = 0 then 1 else 0 := by
  unfold sloT nwN nwW
  by_cases h : gsN a < gsN b
  · rw [if_pos h, if_pos h, if_neg (by omega), if_neg (by omega)]
  · rw [if_neg h, if_neg h]
    by_cases h0 : gsN a ≠ 0
    · rw [if_pos ⟨h0, h⟩, if_pos ⟨h0, rfl⟩]
    · rw [if_neg (by omega), if_neg (by omega)]
theorem nwW_two (a b : Blk) : nwW a b = 0 ∨ nwW a b = 1 := by unfold nwW; split <;> omega
set_option maxHeartbeats 2000000 in
theorem pslot (a b : Blk) (w : World) (T : Tab w) : Calls Tryz.prog 116 #[blk a, blk b] w fun e w' => e = .returned (.int .i64 (sloT a b : Nat)) ∧ Below w.heap.size w w' := by
  obtain ⟨h1, h2, h4, h5⟩ := two_new w a b
  have HSL := Lib.hid (slot_of a b)
  have h2w := nwW_two a b
  obtain ⟨n, hn⟩ : ∃ n, nwN a b = n := ⟨_, rfl⟩
  obtain ⟨k, hk⟩ : ∃ k, nwW a b = k := ⟨_, rfl⟩
  obtain ⟨p, hp⟩ : ∃ p, nwS a b = p := ⟨_, rfl⟩
  rw [hn, hk] at HSL
  rw [hk] at h2w
  have HA := Lib.hid h1
  have HBK := Lib.hid h2
  have HB := Lib.hid h4
  have HT := Lib.hid (T.below h4)
  have HN := Lib.hid hn
  have HK := Lib.hid hk
  have HP := Lib.hid hp
  clear h1 h2 h4 h5 T hn hk hp
  go_enter Tryz.func116, Tryz.ntmps116
  go_wp2_with (first | (refine af rfl (bu rfl rfl) ?_) | (refine af rfl (aV (c := a) rfl rfl ?_) ?_; (with_reducible exact HA.out)) | (refine af rfl (aV (c := b) rfl rfl ?_) ?_; (with_reducible exact HBK.out)) | fail)
  refine (pnewest a b _ HT.out).mono ?_
  rintro e w1 ⟨rfl, hb⟩
  rw [HN.out, HK.out, HP.out]
  have hb1 := HB.out.trans (hb.mono HB.out.size)
  have HB1 := Lib.hid (hb1.alloc hb1.size (.cells (aL p).toArray 62))
  clear hb hb1 HA HBK HB HT
  by_cases hn0 : n = 0
  · subst hn0
    rw [if_neg (by omega)] at HSL
    go_wp2_with (first | (refine af rfl (aX rfl) ?_) | (refine av rfl (bZ rfl rfl rfl) ?_) | fail)
    go_ret
    exact ⟨by rw [HSL.out]; rfl, HB1.out⟩
  · have hne : ((n : Int) != 0) = true := by simp; omega
    rcases h2w with rfl | rfl
    · rw [if_pos ⟨hn0, rfl⟩] at HSL
      clear hn0
      go_wp2_with (first | (refine af rfl (aX rfl) ?_) | (refine av rfl (bZ rfl rfl rfl) ?_) | fail)
      go_ret
      exact ⟨by rw [HSL.out]; rfl, HB1.out⟩
    · rw [if_neg (by omega)] at HSL
      clear hn0
      go_wp2_with (first | (refine af rfl (aX rfl) ?_) | (refine av rfl (bZ rfl rfl rfl) ?_) | fail)
      go_ret
      exact ⟨by rw [HSL.out]; rfl, HB1.out⟩
def same (a b : List UInt8) : Bool := a == b
set_option maxHeartbeats 400000 in
theorem same_any (A B : Option Addr) (n m c d N : Nat) (a b : List UInt8) (w : World) (ha : Rd w N A n a) (hb : Rd w N B m b) (hN : N ≤ w.heap.size) (hn : n ≤ maxLen) :
    Calls Tryz.prog 53 #[.slice A n c, .slice B m d] w fun e w' => e = .returned (.bool (same a b)) ∧ Below w.heap.size w w' := by
  unfold maxLen at hn
  by_cases hnm : n = m
  · subst hnm
    go_enter Tryz.func53, Tryz.ntmps53
    go_wp2
    go_loopw [5] (fun i wr => ∃ k : Nat, k ≤ n ∧ i = .int .i64 k ∧ (∀ j, j < k → bt a j = bt b j) ∧ Below w.heap.size w wr) (fun i _ => n - (intOf i).toNat)
    case atStart => exact ⟨0, Nat.zero_le _, rfl, fun j hj => absurd hj (by omega), Below.refl _ _⟩
    case round =>
      obtain ⟨k, hk, rfl, hj, hbl⟩ := hrel
      by_cases hlt : k < n
      · obtain ⟨bA, oA, rfl, hA, cA⟩ := (ha.below (hbl.mono hN)).2 k hlt
        obtain ⟨bB, oB, rfl, hB, cB⟩ := (hb.below (hbl.mono hN)).2 k hlt
        have hidj := Lib.hid hj
        clear hj
        go_wp2
        go_quiet (fail)
        go_wp2
        · have hd : (bt a k != bt b k) = true := by assumption
          go_ret
          refine ⟨?_, bdn hbl _⟩
          have : same a b = false := by
            simp only [same, beq_eq_false_iff_ne]
            rintro rfl
            simp at hd
          rw [this]; rfl
        · have hd : (bt a k != bt b k) = false := by assumption
          go_roundw
          case rel =>
            refine ⟨k + 1, by omega, by go_num, ?_, bdn hbl _⟩
            intro j hj
            by_cases h : j = k
            · subst h; simpa using hd
            · exact hidj.out j (by omega)
          case measure => simp [intOf]; omega
      · go_wp2
        go_ret
        refine ⟨?_, hbl⟩
        have : same a b = true := by
          simp only [same, beq_iff_eq]
          exact dl (by rw [ha.1, hb.1]) fun j h => hj j (by have := ha.1; omega)
        rw [this]; rfl
  · have hne : ((n : Int) != (m : Int)) = true := by simp; omega
    go_enter Tryz.func53, Tryz.ntmps53
    go_wp2
    go_ret
    refine ⟨?_, Below.refl _ _⟩
    have : same a b = false := by
      have h1 := ha.1
      have h2 := hb.1
      simp only [same, beq_eq_false_iff_ne]
      rintro rfl
      omega
    rw [this]; rfl
end Go.Proofs.YtnliphgjcaippaaGreatDoor
