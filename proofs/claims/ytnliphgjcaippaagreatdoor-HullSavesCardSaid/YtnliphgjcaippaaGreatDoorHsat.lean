import Derived.Test.YtnliphgjcaippaaGreatDoorHsas
import Derived.Test.YtnliphgjcaippaaGreatDoorHsar
import Derived.Test.YtnliphgjcaippaaGreatDoorHsah
import Derived.Laws.BitsAllLaws
import Derived.OrdersHeld
import Derived.Test.YtnliphgjcaippaaGreatDoorHsZ
namespace Go.Proofs.YtnliphgjcaippaaGreatDoor
open Go.RowKit
set_option linter.unusedVariables false
set_option linter.unusedSimpArgs false
set_option maxRecDepth 100000
set_option maxHeartbeats 4000000 in
theorem rnew_super (a b : Blk) (w : World) : Calls Tryz.prog 21 #[blk a, blk b] w fun e w' => e = .returned (.tuple #[.int .u64 (nwN a b : Nat), sup (nwS a b), .int .i64 (nwE a b : Nat)]) ∧ Below w.heap.size w w' := by
  obtain ⟨h1, h2, h3, h4, h5⟩ := three_new w a b
  unfold w3_ at h1 h2 h3 h4 h5
  obtain ⟨x, hx⟩ : ∃ x, gsN a = x := ⟨_, rfl⟩
  obtain ⟨y, hy⟩ : ∃ y, gsN b = y := ⟨_, rfl⟩
  obtain ⟨p, hp⟩ : ∃ p, gsS a = p := ⟨_, rfl⟩
  obtain ⟨q, hq⟩ : ∃ q, gsS b = q := ⟨_, rfl⟩
  obtain ⟨ea, hea⟩ : ∃ e, gsE a = e := ⟨_, rfl⟩
  obtain ⟨eb, heb⟩ : ∃ e, gsE b = e := ⟨_, rfl⟩
  have HX := Lib.hid hx
  have HY := Lib.hid hy
  have HP := Lib.hid hp
  have HQ := Lib.hid hq
  have HEA := Lib.hid hea
  have HEB := Lib.hid heb
  have hxa := gsN_zero (b := a)
  have hxb := gsN_zero (b := b)
  rw [hx, hea] at hxa
  rw [hy, heb] at hxb
  have HXA := Lib.hid hxa
  have HXB := Lib.hid hxb
  clear hx hy hp hq hea heb hxa hxb
  have HNN : Hid (nwN a b = if x < y then y else x) := Lib.hid (by unfold nwN; rw [HX.out, HY.out])
  have HNS : Hid (nwS a b = if x < y then q else p) := Lib.hid (by unfold nwS; rw [HX.out, HY.out, HP.out, HQ.out])
  have HNE : Hid (nwE a b = if x = 0 ∧ y = 0 then 7 else 0) := Lib.hid (by unfold nwE; rw [HX.out, HY.out])
  have HPZ : Hid (ea ≠ 0 → p = a7) := Lib.hid fun h => by rw [← HP.out]; exact gsS_no (by rw [HEA.out]; exact h)
  have HA := Lib.hid h1
  have HBK := Lib.hid h2
  have HR := Lib.hid h3
  have HB := Lib.hid h4
  have HZ := Lib.hid h5
  clear h1 h2 h3 h4 h5
  go_enter Tryz.func21, Tryz.ntmps21
  go_wp2_with (first | (refine af rfl (bu rfl rfl) ?_) | (refine af rfl (aX rfl) ?_) | (refine af rfl (aV (c := a) rfl rfl ?_) ?_; (with_reducible exact HA.out)) | fail)
  try simp only [World.size_alloc]
  generalize ((w.alloc (.cells (cel a).toArray 58)).alloc (.cells (cel b).toArray 58)).alloc (.cells (aL a7).toArray 62) = w0 at *
  refine (rsget a w0).mono ?_
  rintro e w1 ⟨rfl, hb⟩
  rw [HX.out, HP.out, HEA.out]
  have hb1 := hb.alloc hb.size (.cells (aL p).toArray 62)
  have HBK1 := Lib.hid (br HBK.out (by have := HZ.out; omega) hb1)
  have HR1 := Lib.hid (aI HR.out HZ.out hb1)
  have HB1 := Lib.hid (HB.out.trans (hb1.mono HB.out.size))
  have HPA := Lib.hid (bx.new w1 p)
  have HZ1 : Hid (w.heap.size + 1 + 1 < (w1.alloc (.cells (aL p).toArray 62)).heap.size) := Lib.hid (Nat.lt_of_lt_of_le HZ.out hb1.size)
  clear hb hb1 HA HBK HB HZ HR
  go_upto_region 2 with (first | (refine af rfl (aX rfl) ?_) | (refine av rfl (bZ rfl rfl rfl) ?_) | fail)
  generalize w1.alloc (.cells (aL p).toArray 62) = w2 at *
  go_wp2_with (first | (refine af rfl (aV (c := b) rfl rfl ?_) ?_; (with_reducible exact HBK1.out)) | fail)
  refine (rsget b w2).mono ?_
  rintro e w3 ⟨rfl, hb⟩
  rw [HY.out, HQ.out, HEB.out]
  have hb3 := hb.alloc hb.size (.cells (aL q).toArray 62)
  have HB4 := Lib.hid (HB1.out.trans (hb3.mono HB1.out.size))
  have HR4 := Lib.hid (aI HR1.out HZ1.out hb3)
  have HPR := Lib.hid (HPA.out.below (aD HPA.out) hb3).range
  have HQR := Lib.hid (bx.new w3 q).range
  clear hb hb3 HBK1 HB1 HR1 HPA HZ1
  go_upto_region 3 with (first | (refine af rfl (aX rfl) ?_) | (refine av rfl (bZ rfl rfl rfl) ?_) | fail)
  generalize w3.alloc (.cells (aL q).toArray 62) = w4 at *
  by_cases h0 : ea = 0
  · have HEAN : Hid (((ea : Int) != 0) = false) := Lib.hid (by rw [h0]; rfl)
    have hx0 : x ≠ 0 := fun e => (HXA.out.1 e) h0
    rw [if_neg (by omega)] at HNE
    refine wp_region_lit ?_
    refine af rfl (ai rfl (ev rfl)) ?_
    simp only [Act.put, aa, ac, ae]
    refine af (v := .bool false) rfl (ay false rfl (ev rfl) evk HEAN.out) ?_
    simp only [Act.put, aa, ac, ae]
    refine aF 2 (v := .bool false) rfl (ai rfl (ev rfl)) (by kernel_rfl) ?_
    simp only [aY, List.take_succ_cons, List.take_zero, List.drop_succ_cons, List.drop_zero, Act.put, List.setIfInBounds_toArray, List.set_cons_succ, List.set_cons_zero]
    refine af (v := .bool false) rfl (aB rfl (ev rfl) evk) ?_
    simp only [Act.put, aa, ac, ae]
    refine wpList_nil ?_
    go_upto_region 5 with fail
    by_cases h1 : eb = 0
    · have HEBQ : Hid (((eb : Int) == 0) = true) := Lib.hid (by rw [h1]; rfl)
      by_cases hlt : x < y
      · have HGT : Hid (decide ((x : Int) < (y : Int)) = true) := Lib.hid (decide_eq_true (by omega))
        rw [if_pos hlt] at HNN HNS
        clear h0 h1 hx0 hlt
        refine wp_region_lit ?_
        refine af rfl (ai rfl (ev rfl)) ?_
        simp only [Act.put, aa, ac, ae]
        refine af (v := .bool false) rfl (ay false rfl (ev rfl) evk HEAN.out) ?_
        simp only [Act.put, aa, ac, ae]
        refine af (v := .bool false) rfl (ai rfl (ev rfl)) ?_
        simp only [Act.put, aa, ac, ae]
        refine ag (ah rfl rfl rfl rfl) (ai rfl (ev rfl)) ?_
        simp only [Act.put, aa, ac, ae]
        refine ag (v := .bool true) (ah rfl rfl rfl rfl) (aw true rfl (ev rfl) evk HEBQ.out) ?_
        simp only [Act.put, aa, ac, ae]
        refine ag (v := .bool true) (ah rfl rfl rfl rfl) (ai rfl (ev rfl)) ?_
        simp only [Act.put, aa, ac, ae]
        refine ag (ah rfl rfl rfl rfl) (ai rfl (ev rfl)) ?_
        simp only [Act.put, aa, ac, ae]
        refine ag (ah rfl rfl rfl rfl) (ai rfl (ev rfl)) ?_
        simp only [Act.put, aa, ac, ae]
        refine ag (v := .bool true) (ah rfl rfl rfl rfl) (cG true rfl (ev rfl) (ev rfl) HGT.out) ?_
        simp only [Act.put, aa, ac, ae]
        refine ag (v := .bool true) (ah rfl rfl rfl rfl) (aJ rfl (ev rfl) (ev rfl)) ?_
        simp only [Act.put, aa, ac, ae]
        refine af (v := .bool true) rfl (aB rfl (ev rfl) (ev rfl)) ?_
        simp only [Act.put, aa, ac, ae]
        refine wpList_nil ?_
        go_wp2_with fail
        refine wp_region_still_tail 3 (by kernel_rfl) (by kernel_rfl) ?_
        simp only [List.take_succ_cons, List.take_zero, List.drop_succ_cons, List.drop_zero]
        refine aK rfl (ai rfl (ev rfl)) ?_
        simp only [Act.put, aa, ac, ae]
        refine aK rfl (bw (c := q) rfl (ev rfl) HQR.out) ?_
        simp only [Act.put, aa, ac, ae]
        refine aK rfl (ak rfl (ev rfl)) ?_
        simp only [Act.put, aa, ac, ae]
        refine wpStill_nil ?_
        change wpList _ _ _ _ _ (World.drew _)
        refine aN rfl (bP (c := q) rfl (ev rfl) (ev rfl) HR4.out) ?_
        simp only [Act.put, aa, ac, ae]
        refine ag rfl (ak rfl evk) ?_
        simp only [Act.put, aa, ac, ae]
        refine wpList_nil ?_
        go_wp2_with fail
        refine bodyPost_ret (da (t := 62) (cs := aL q) rfl _ _ _ rfl ?h1 Tryz.underlying62 rfl ?h2) rfl ⟨by rw [HNE.out, HNN.out, HNS.out]; rfl, ?h3⟩
        case h1 => exact World.rangeAt_setCells_same _ _ _ _ (by rw [ax]; exact HR4.out)
        case h2 => rw [ax]; exact dA
        case h3 => exact below_setCells (bd HB4.out) (by omega) _
      · have HGT : Hid (decide ((x : Int) < (y : Int)) = false) := Lib.hid (decide_eq_false (by omega))
        rw [if_neg hlt] at HNN HNS
        clear h0 h1 hx0 hlt
        refine wp_region_lit ?_
        refine af rfl (ai rfl (ev rfl)) ?_
        simp only [Act.put, aa, ac, ae]
        refine af (v := .bool false) rfl (ay false rfl (ev rfl) evk HEAN.out) ?_
        simp only [Act.put, aa, ac, ae]
        refine af (v := .bool false) rfl (ai rfl (ev rfl)) ?_
        simp only [Act.put, aa, ac, ae]
        refine ag (ah rfl rfl rfl rfl) (ai rfl (ev rfl)) ?_
        simp only [Act.put, aa, ac, ae]
        refine ag (v := .bool true) (ah rfl rfl rfl rfl) (aw true rfl (ev rfl) evk HEBQ.out) ?_
        simp only [Act.put, aa, ac, ae]
        refine ag (v := .bool true) (ah rfl rfl rfl rfl) (ai rfl (ev rfl)) ?_
        simp only [Act.put, aa, ac, ae]
        refine ag (ah rfl rfl rfl rfl) (ai rfl (ev rfl)) ?_
        simp only [Act.put, aa, ac, ae]
        refine ag (ah rfl rfl rfl rfl) (ai rfl (ev rfl)) ?_
        simp only [Act.put, aa, ac, ae]
        refine ag (v := .bool false) (ah rfl rfl rfl rfl) (cG false rfl (ev rfl) (ev rfl) HGT.out) ?_
        simp only [Act.put, aa, ac, ae]
        refine ag (v := .bool false) (ah rfl rfl rfl rfl) (aJ rfl (ev rfl) (ev rfl)) ?_
        simp only [Act.put, aa, ac, ae]
        refine af (v := .bool false) rfl (aB rfl (ev rfl) (ev rfl)) ?_
        simp only [Act.put, aa, ac, ae]
        refine wpList_nil ?_
        go_wp2_with fail
        refine wp_region_still_tail 3 (by kernel_rfl) (by kernel_rfl) ?_
        simp only [List.take_succ_cons, List.take_zero, List.drop_succ_cons, List.drop_zero]
        refine aK rfl (ai rfl (ev rfl)) ?_
        simp only [Act.put, aa, ac, ae]
        refine aK rfl (bw (c := p) rfl (ev rfl) HPR.out) ?_
        simp only [Act.put, aa, ac, ae]
        refine aK rfl (ak rfl (ev rfl)) ?_
        simp only [Act.put, aa, ac, ae]
        refine wpStill_nil ?_
        change wpList _ _ _ _ _ (World.drew _)
        refine aN rfl (bP (c := p) rfl (ev rfl) (ev rfl) HR4.out) ?_
        simp only [Act.put, aa, ac, ae]
        refine ag rfl (ak rfl evk) ?_
        simp only [Act.put, aa, ac, ae]
        refine wpList_nil ?_
        go_wp2_with fail
        refine bodyPost_ret (da (t := 62) (cs := aL p) rfl _ _ _ rfl ?h1 Tryz.underlying62 rfl ?h2) rfl ⟨by rw [HNE.out, HNN.out, HNS.out]; rfl, ?h3⟩
        case h1 => exact World.rangeAt_setCells_same _ _ _ _ (by rw [ax]; exact HR4.out)
        case h2 => rw [ax]; exact dA
        case h3 => exact below_setCells (bd HB4.out) (by omega) _
    · have HEBQ : Hid (((eb : Int) == 0) = false) := Lib.hid (by simp; omega)
      have hy0 : y = 0 := HXB.out.2 h1
      rw [if_neg (by omega)] at HNN HNS
      clear h0 h1 hx0 hy0
      refine wp_region_lit ?_
      refine af rfl (ai rfl (ev rfl)) ?_
      simp only [Act.put, aa, ac, ae]
      refine af (v := .bool false) rfl (ay false rfl (ev rfl) evk HEAN.out) ?_
      simp only [Act.put, aa, ac, ae]
      refine af (v := .bool false) rfl (ai rfl (ev rfl)) ?_
      simp only [Act.put, aa, ac, ae]
      refine ag (ah rfl rfl rfl rfl) (ai rfl (ev rfl)) ?_
      simp only [Act.put, aa, ac, ae]
      refine ag (v := .bool false) (ah rfl rfl rfl rfl) (aw false rfl (ev rfl) evk HEBQ.out) ?_
      simp only [Act.put, aa, ac, ae]
      refine aF 3 (v := .bool false) (ah rfl rfl rfl rfl) (ai rfl (ev rfl)) (by kernel_rfl) ?_
      simp only [aY, List.take_succ_cons, List.take_zero, List.drop_succ_cons, List.drop_zero, Act.put, List.setIfInBounds_toArray, List.set_cons_succ, List.set_cons_zero]
      refine ag (v := .bool false) (ah rfl rfl rfl rfl) (aB rfl (ev rfl) evk) ?_
      simp only [Act.put, aa, ac, ae]
      refine af (v := .bool false) rfl (aB rfl (ev rfl) (ev rfl)) ?_
      simp only [Act.put, aa, ac, ae]
      refine wpList_nil ?_
      go_wp2_with fail
      refine wp_region_still_tail 3 (by kernel_rfl) (by kernel_rfl) ?_
      simp only [List.take_succ_cons, List.take_zero, List.drop_succ_cons, List.drop_zero]
      refine aK rfl (ai rfl (ev rfl)) ?_
      simp only [Act.put, aa, ac, ae]
      refine aK rfl (bw (c := p) rfl (ev rfl) HPR.out) ?_
      simp only [Act.put, aa, ac, ae]
      refine aK rfl (ak rfl (ev rfl)) ?_
      simp only [Act.put, aa, ac, ae]
      refine wpStill_nil ?_
      change wpList _ _ _ _ _ (World.drew _)
      refine aN rfl (bP (c := p) rfl (ev rfl) (ev rfl) HR4.out) ?_
      simp only [Act.put, aa, ac, ae]
      refine ag rfl (ak rfl evk) ?_
      simp only [Act.put, aa, ac, ae]
      refine wpList_nil ?_
      go_wp2_with fail
      refine bodyPost_ret (da (t := 62) (cs := aL p) rfl _ _ _ rfl ?h1 Tryz.underlying62 rfl ?h2) rfl ⟨by rw [HNE.out, HNN.out, HNS.out]; rfl, ?h3⟩
      case h1 => exact World.rangeAt_setCells_same _ _ _ _ (by rw [ax]; exact HR4.out)
      case h2 => rw [ax]; exact dA
      case h3 => exact below_setCells (bd HB4.out) (by omega) _
  · have HEAN : Hid (((ea : Int) != 0) = true) := Lib.hid (by simp; omega)
    have hx0 : x = 0 := HXA.out.2 h0
    have HPZ2 := Lib.hid (HPZ.out h0)
    by_cases h1 : eb = 0
    · have HEBN : Hid (((eb : Int) != 0) = false) := Lib.hid (by rw [h1]; rfl)
      have HEBQ : Hid (((eb : Int) == 0) = true) := Lib.hid (by rw [h1]; rfl)
      have hy0 : y ≠ 0 := fun e => (HXB.out.1 e) h1
      rw [if_pos (by omega)] at HNN HNS
      rw [if_neg (by omega)] at HNE
      clear h0 h1 hx0 hy0
      refine wp_region_lit ?_
      refine af rfl (ai rfl (ev rfl)) ?_
      simp only [Act.put, aa, ac, ae]
      refine af (v := .bool true) rfl (ay true rfl (ev rfl) evk HEAN.out) ?_
      simp only [Act.put, aa, ac, ae]
      refine af (v := .bool true) rfl (ai rfl (ev rfl)) ?_
      simp only [Act.put, aa, ac, ae]
      refine ag (ah rfl rfl rfl rfl) (ai rfl (ev rfl)) ?_
      simp only [Act.put, aa, ac, ae]
      refine ag (v := .bool false) (ah rfl rfl rfl rfl) (ay false rfl (ev rfl) evk HEBN.out) ?_
      simp only [Act.put, aa, ac, ae]
      refine af (v := .bool false) rfl (aJ rfl (ev rfl) (ev rfl)) ?_
      simp only [Act.put, aa, ac, ae]
      refine wpList_nil ?_
      go_upto_region 5 with fail
      refine wp_region_lit ?_
      refine af rfl (ai rfl (ev rfl)) ?_
      simp only [Act.put, aa, ac, ae]
      refine af (v := .bool true) rfl (ay true rfl (ev rfl) evk HEAN.out) ?_
      simp only [Act.put, aa, ac, ae]
      refine aF 7 (v := .bool true) rfl (ai rfl (ev rfl)) (by kernel_rfl) ?_
      simp only [aY, List.take_succ_cons, List.take_zero, List.drop_succ_cons, List.drop_zero, Act.put, List.setIfInBounds_toArray, List.set_cons_succ, List.set_cons_zero]
      refine af (v := .bool true) rfl (aJ rfl (ev rfl) evk) ?_
      simp only [Act.put, aa, ac, ae]
      refine wpList_nil ?_
      go_wp2_with fail
      refine wp_region_still_tail 3 (by kernel_rfl) (by kernel_rfl) ?_
      simp only [List.take_succ_cons, List.take_zero, List.drop_succ_cons, List.drop_zero]
      refine aK rfl (ai rfl (ev rfl)) ?_
      simp only [Act.put, aa, ac, ae]
      refine aK rfl (bw (c := q) rfl (ev rfl) HQR.out) ?_
      simp only [Act.put, aa, ac, ae]
      refine aK rfl (ak rfl (ev rfl)) ?_
      simp only [Act.put, aa, ac, ae]
      refine wpStill_nil ?_
      change wpList _ _ _ _ _ (World.drew _)
      refine aN rfl (bP (c := q) rfl (ev rfl) (ev rfl) HR4.out) ?_
      simp only [Act.put, aa, ac, ae]
      refine ag rfl (ak rfl evk) ?_
      simp only [Act.put, aa, ac, ae]
      refine wpList_nil ?_
      go_wp2_with fail
      refine bodyPost_ret (da (t := 62) (cs := aL q) rfl _ _ _ rfl ?h1 Tryz.underlying62 rfl ?h2) rfl ⟨by rw [HNE.out, HNN.out, HNS.out]; rfl, ?h3⟩
      case h1 => exact World.rangeAt_setCells_same _ _ _ _ (by rw [ax]; exact HR4.out)
      case h2 => rw [ax]; exact dA
      case h3 => exact below_setCells (bd HB4.out) (by omega) _
    · have HEBN : Hid (((eb : Int) != 0) = true) := Lib.hid (by simp; omega)
      have hy0 : y = 0 := HXB.out.2 h1
      rw [if_neg (by omega)] at HNN HNS
      rw [if_pos (by omega)] at HNE
      rw [hx0] at HNN
      rw [HPZ2.out] at HNS
      clear h0 h1 hx0 hy0
      refine wp_region_lit ?_
      refine af rfl (ai rfl (ev rfl)) ?_
      simp only [Act.put, aa, ac, ae]
      refine af (v := .bool true) rfl (ay true rfl (ev rfl) evk HEAN.out) ?_
      simp only [Act.put, aa, ac, ae]
      refine af (v := .bool true) rfl (ai rfl (ev rfl)) ?_
      simp only [Act.put, aa, ac, ae]
      refine ag (ah rfl rfl rfl rfl) (ai rfl (ev rfl)) ?_
      simp only [Act.put, aa, ac, ae]
      refine ag (v := .bool true) (ah rfl rfl rfl rfl) (ay true rfl (ev rfl) evk HEBN.out) ?_
      simp only [Act.put, aa, ac, ae]
      refine af (v := .bool true) rfl (aJ rfl (ev rfl) (ev rfl)) ?_
      simp only [Act.put, aa, ac, ae]
      refine wpList_nil ?_
      go_wp2_with (first | (refine af rfl (dt rfl) ?_) | (refine av rfl (bP (c := a7) rfl rfl rfl ?_) ?_; (with_reducible exact HR4.out)) | fail)
      refine bodyPost_ret (da (t := 62) (cs := aL a7) rfl _ _ _ rfl ?h1 Tryz.underlying62 rfl ?h2) rfl ⟨by rw [HNE.out, HNN.out, HNS.out]; rfl, ?h3⟩
      case h1 => exact World.rangeAt_setCells_same _ _ _ _ (by rw [ax]; exact HR4.out)
      case h2 => rw [ax]; exact dA
      case h3 => exact below_setCells HB4.out (by omega) _
section
variable {ρ : Operand → Value} {o : Oper} {x y : Operand} {w : World} {t r : TypeId}
theorem exec_shr16 {D k : Nat} (ho : o.op = .binOp .shr t x y r) (hx : ρ x = .int .u16 (D : Int)) (hy : ρ y = .int .u64 (k : Int)) (hk : k ≤ 16) : (execOp ρ o).run Tryz.prog w = .ok (.value (.int .u16 ((D / 2 ^ k : Nat) : Int))) w := by
  have hn : ¬ ((k : Int) < 0) := by omega
  unfold execOp
  simp only [ho, hx, hy]
  simp [eqGuard, binOp, Op.shift, hn, IntKind.bits, Nat.min_eq_left hk]
theorem exec_and16 {a b c : Nat} (ho : o.op = .binOp .and t x y r) (hx : ρ x = .int .u16 (a : Int)) (hy : ρ y = .int .u16 (b : Int)) (h : bits .and .u16 (a : Int) (b : Int) = (c : Int)) : (execOp ρ o).run Tryz.prog w = .ok (.value (.int .u16 (c : Int))) w := by
  unfold execOp
  simp [ho, hx, hy, eqGuard, go_sem, h]
theorem exec_cv32U {n : Nat} (ho : o.op = .convert 47 23 x) (hx : ρ x = .int .u32 (n : Int)) (hn : n < 4294967296) : (execOp ρ o).run Tryz.prog w = .ok (.value (.int .u64 (n : Int))) w := by
  have h : IntKind.u64.wrap (n : Int) = (n : Int) := by rw [IntKind.wrap_u64]; exact Int.emod_eq_of_lt (by omega) (by omega)
  have hc : (convert 47 23 (.int .u32 (n : Int))).run Tryz.prog w = .ok (.int .u64 (n : Int)) w := by simp [convert, go_sem, h]
  unfold execOp
  simp only [ho, hx, Sem.run_bind, hc, Result.andThen_ok, Sem.run_pure]
theorem exec_cvIU {n : Nat} (ho : o.op = .convert 3 23 x) (hx : ρ x = .int .i64 (n : Int)) (hn : n < 4294967296) : (execOp ρ o).run Tryz.prog w = .ok (.value (.int .u64 (n : Int))) w := by
  have h : IntKind.u64.wrap (n : Int) = (n : Int) := by rw [IntKind.wrap_u64]; exact Int.emod_eq_of_lt (by omega) (by omega)
  have hc : (convert 3 23 (.int .i64 (n : Int))).run Tryz.prog w = .ok (.int .u64 (n : Int)) w := by simp [convert, go_sem, h]
  unfold execOp
  simp only [ho, hx, Sem.run_bind, hc, Result.andThen_ok, Sem.run_pure]
theorem exec_addU {a b c : Int} (ho : o.op = .binOp .add t x y r) (hx : ρ x = .int .u64 a) (hy : ρ y = .int .u64 b) (h : IntKind.u64.wrap (a + b) = c) : (execOp ρ o).run Tryz.prog w = .ok (.value (.int .u64 c)) w := by
  unfold execOp
  simp [ho, hx, hy, eqGuard, binOp, Op.intArith, h]
theorem run_fieldR1 (x : Ros) (w : World) : (Instr.field 28 (ros x) 1).run Tryz.prog w = .ok (arr x.st.toList) w := by
  have := partR_1 w x
  unfold Instr.field
  simp only [Sem.run_bind, run_underlying Tryz.underlying28, Result.andThen_ok]
  exact this
theorem faSu0 {b : Nat} : (Instr.fieldAt 62 (.pointer (some ⟨b, 0, none⟩)) 0).run Tryz.prog w = .ok (.pointer (some ⟨b, 0, none⟩)) w := by kernel_rfl
theorem faSu1c {b : Nat} : (Instr.fieldAt 62 (.pointer (some ⟨b, 0, none⟩)) 1).run Tryz.prog w = .ok (.pointer (some ⟨b, 1, none⟩)) w := by kernel_rfl
theorem faSu2 {b : Nat} : (Instr.fieldAt 62 (.pointer (some ⟨b, 0, none⟩)) 2).run Tryz.prog w = .ok (.pointer (some ⟨b, 2, none⟩)) w := by kernel_rfl
end
def bitQ (D : Nat) (j : Nat) : Bool := decide (D / 2 ^ j % 2 = 1)
theorem bit_and {D j : Nat} (hD : D < 65536) : bits .and .u16 ((D / 2 ^ j : Nat) : Int) (((1 : Nat)) : Int) = ((D / 2 ^ j % 2 : Nat) : Int) := by
  have hl : D / 2 ^ j < 65536 := Nat.lt_of_le_of_lt (Nat.div_le_self _ _) hD
  have h2 := u16_and_nat (D / 2 ^ j) 1 hl (by omega)
  rw [Nat.and_one_is_mod] at h2
  exact h2
theorem bit_eq {D j : Nat} : ((((D / 2 ^ j % 2 : Nat) : Int)) == 1) = bitQ D j := by
  unfold bitQ
  by_cases h : D / 2 ^ j % 2 = 1
  · rw [h, decide_eq_true rfl]; rfl
  · rw [decide_eq_false h]; exact beq_eq_false_iff_ne.2 (by omega)
set_option maxHeartbeats 8000000 in
theorem whullSaves (C : HulI) (a D E : Nat) (w : World) (T : Tab w) (ha : a < 256) (hD : D < 65536) (hE : E < 4294967296) : Calls Tryz.prog 4 #[.int .u8 (a : Int), .int .u16 (D : Int), .int .u32 (E : Int)] w fun e w' => e = .returned (.bool true) ∧ Below w.heap.size w w' := by
  obtain ⟨NN, hNN⟩ : ∃ NN, 3 + a % 4 = NN := ⟨_, rfl⟩
  have h1 : 3 ≤ NN := by omega
  have h2 : NN ≤ 6 := by omega
  have HT := Lib.hid T
  have HNN := Lib.hid hNN
  have HA := Lib.hid ha
  have HD := Lib.hid hD
  have HE := Lib.hid hE
  have HN1 := Lib.hid h1
  have HN2 := Lib.hid h2
  have HOK := Lib.hid (szK_ok (N := NN) (s := 4) (by omega) (by omega))
  have HNW := Lib.hid (ne_new (N := NN) (s := 4) h1 (by omega) (by omega))
  have HH := Lib.hid (hnw_new (N := NN) (s := 4) h1 (by omega) (by omega) (ev := E) (by omega))
  obtain ⟨ev', R', M', sv1, sv2, sv3, sv4, sv5, sv6, sv7, sv8⟩ := saves_new (N := NN) (s := 4) h1 h2 (by omega) (by omega) (bitQ D) hE
  have HSV := Lib.hid sv1
  have HK2 := Lib.hid sv2
  have HV := Lib.hid (And.intro sv3 sv4)
  have HLM := Lib.hid sv6
  have HM5 := Lib.hid sv5
  have HRB := Lib.hid sv7
  have HNOW := Lib.hid sv8
  clear T hNN ha hD hE h1 h2 sv1 sv2 sv3 sv4 sv5 sv6 sv7 sv8
  go_enter Tryz.func4, Tryz.ntmps4
  go_upto_region 1 with fail
  refine wp_region_lit ?_
  refine af rfl (ai rfl (ev rfl)) ?_
  simp only [Act.put, aa, ac, ae]
  refine al rfl (ap Tryz.call13 rfl (evc (ev rfl) (evc evk evn))) ?_
  refine (l_geo a 3 NN 4 w HA.out (by omega) HNN.out rfl).mono ?_
  rintro e w1 ⟨rfl, b1⟩
  have HB1 := Lib.hid b1
  have HT1 := Lib.hid (HT.out.below b1)
  clear b1
  refine ⟨_, rfl, ?_⟩
  simp only [Act.put, aa, ac, ae]
  refine af rfl (cZ (cs := [.int .i64 0, .int .i64 0, .int .i64 0]) zeroG3 rfl) ?_
  simp only [Act.put, aa, ac, ae]
  refine av rfl (eE (cs := cU (neR NN 4)) (ds := [.int .i64 0, .int .i64 0, .int .i64 0]) (by kernel_rfl) rfl (by intro v hv; simp only [cU, List.mem_cons, List.not_mem_nil, or_false] at hv; rcases hv with rfl | rfl | rfl <;> rfl) rfl (ev rfl) (ev rfl)) ?_
  simp only [Act.put, aa, ac, ae]
  have hx := (Below.refl w1.heap.size w1).alloc (Nat.le_refl _) (.cells (cU (neR NN 4)).toArray 25)
  have HB2 := Lib.hid (HB1.out.trans (hx.mono HB1.out.size))
  have HT2 := Lib.hid (HT1.out.below hx)
  have HG2 := Lib.hid (heap_alloc_new w1 (.cells (cU (neR NN 4)).toArray 25))
  clear hx
  obtain ⟨bg, hbg⟩ : ∃ bg, w1.heap.size = bg := ⟨_, rfl⟩
  rw [hbg] at HG2 ⊢
  clear hbg
  generalize w1.alloc (.cells (cU (neR NN 4)).toArray 25) = w2 at *
  have HS2 : Hid (Below w2.heap.size w2 w2) := Lib.hid (Below.refl _ _)
  refine wpList_nil ?_
  go_upto_region 2 with fail
  refine wp_region_lit ?_
  refine af rfl (aj rfl (ev rfl) faG0) ?_
  simp only [Act.put, aa, ac, ae]
  refine af rfl (aq rfl (ev rfl) (aW (geoAt HG2.out).1)) ?_
  simp only [Act.put, aa, ac, ae]
  refine af rfl (aj rfl (ev rfl) faG1) ?_
  simp only [Act.put, aa, ac, ae]
  refine af rfl (aq rfl (ev rfl) (aW (geoAt HG2.out).2)) ?_
  simp only [Act.put, aa, ac, ae]
  refine al rfl (ap Tryz.call14 rfl (evc (ev rfl) (evc (ev rfl) evn))) ?_
  refine (l_sizes NN 4 w2 (by have := HN2.out; omega) (by omega)).mono ?_
  rintro e w3 ⟨v3, rfl, m3, b3⟩
  have HS3 := Lib.hid (HS2.out.trans (b3.mono HS2.out.size))
  have HG3 := Lib.hid (am HG2.out b3)
  obtain ⟨A3, c3, rfl, e31, e32⟩ := m3.form
  have HR3 := Lib.hid m3.rd
  have HC3 := Lib.hid (And.intro e31 e32)
  clear m3 b3 e31 e32
  refine ⟨_, rfl, ?_⟩
  simp only [Act.put, aa, ac, ae]
  refine al rfl (ap Tryz.call6 rfl (evc (ev rfl) evn)) ?_
  refine (C.R.new HR3.out HC3.out.1 HC3.out.2).mono ?_
  rintro e w4 ⟨b4, h4⟩
  obtain ⟨_, q, F, rfl, n4, f4⟩ | ⟨h4, _⟩ := h4
  rotate_left 1
  · exact absurd HOK.out h4
  have HS4 := Lib.hid (HS3.out.trans (b4.mono HS3.out.size))
  have HG4 := Lib.hid (am HG3.out b4)
  have HN4 := Lib.hid n4
  have HF4 : Hid (∀ b, F b → w2.heap.size ≤ b) := Lib.hid fun b hb => Nat.le_trans HS3.out.size (f4 b hb)
  clear b4 n4 f4
  refine ⟨_, rfl, ?_⟩
  simp only [Act.put, aa, ac, ae]
  refine af rfl (ai rfl (ev rfl)) ?_
  simp only [Act.put, aa, ac, ae]
  refine af rfl (aU rfl (ev rfl) rfl) ?_
  simp only [Act.put, aa, ac, ae]
  refine af rfl (aU rfl (ev rfl) rfl) ?_
  simp only [Act.put, aa, ac, ae]
  refine af rfl (ak rfl (ev rfl)) ?_
  simp only [Act.put, aa, ac, ae]
  refine af rfl (ak rfl (ev rfl)) ?_
  simp only [Act.put, aa, ac, ae]
  refine wpList_nil ?_
  go_upto_region 3 with fail
  refine wp_region_lit ?_
  refine af rfl (cR (c := neR NN 4) rfl (ev rfl) (a4 HG4.out)) ?_
  simp only [Act.put, aa, ac, ae]
  refine al rfl (ap Tryz.call15 rfl (evc (ev rfl) evn)) ?_
  refine (rnew_v (x := neR NN 4) (w := w4) HNW.out.1 HNW.out.2).mono ?_
  rintro e w5 ⟨rfl, b5⟩
  have HS5 := Lib.hid (HS4.out.trans (b5.mono HS4.out.size))
  have HG5 := Lib.hid (am HG4.out b5)
  have HN5 := Lib.hid (C.R.toBen.below HN4.out b5)
  clear b5
  refine ⟨_, rfl, ?_⟩
  simp only [Act.put, aa, ac, ae]
  refine af rfl (ai rfl (ev rfl)) ?_
  simp only [Act.put, aa, ac, ae]
  refine af rfl (aU rfl (ev rfl) rfl) ?_
  simp only [Act.put, aa, ac, ae]
  refine af rfl (aU rfl (ev rfl) rfl) ?_
  simp only [Act.put, aa, ac, ae]
  refine af rfl (bS rfl) ?_
  simp only [Act.put, aa, ac, ae]
  refine av rfl (exec_fillR rfl (ev rfl) (ev rfl)) ?_
  simp only [Act.put, aa, ac, ae]
  have hx := (Below.refl w5.heap.size w5).alloc (Nat.le_refl _) (.cells (aH (neR NN 4)).toArray 28)
  have HS6 := Lib.hid (HS5.out.trans (hx.mono HS5.out.size))
  have HG6 := Lib.hid (am HG5.out hx)
  have HN6 := Lib.hid (C.R.toBen.below HN5.out hx)
  have HX6 := Lib.hid (bl.new w5 (neR NN 4))
  clear hx
  obtain ⟨qx, hqx⟩ : ∃ qx, w5.heap.size = qx := ⟨_, rfl⟩
  rw [hqx] at HX6 ⊢
  clear hqx
  generalize w5.alloc (.cells (aH (neR NN 4)).toArray 28) = w6 at *
  refine af rfl (ak rfl (ev rfl)) ?_
  simp only [Act.put, aa, ac, ae]
  refine wpList_nil ?_
  go_upto_region 4 with fail
  refine wp_region_lit ?_
  refine af rfl (ai rfl (ev rfl)) ?_
  simp only [Act.put, aa, ac, ae]
  refine af (v := .bool false) rfl (ay false rfl (ev rfl) evk rfl) ?_
  simp only [Act.put, aa, ac, ae]
  refine af (v := .bool false) rfl (ai rfl (ev rfl)) ?_
  simp only [Act.put, aa, ac, ae]
  refine ag (ah rfl rfl rfl rfl) (ai rfl (ev rfl)) ?_
  simp only [Act.put, aa, ac, ae]
  refine ag (v := .bool false) (ah rfl rfl rfl rfl) (ay false rfl (ev rfl) evk rfl) ?_
  simp only [Act.put, aa, ac, ae]
  refine af (v := .bool false) rfl (aB rfl (ev rfl) (ev rfl)) ?_
  simp only [Act.put, aa, ac, ae]
  refine wpList_nil ?_
  go_upto_region 6 with fail
  refine wp_region_lit ?_
  refine af rfl (ai rfl (ev rfl)) ?_
  simp only [Act.put, aa, ac, ae]
  refine af rfl (ai rfl (ev rfl)) ?_
  simp only [Act.put, aa, ac, ae]
  refine af rfl (exec_cv32U rfl (ev rfl) HE.out) ?_
  simp only [Act.put, aa, ac, ae]
  refine af rfl (aR rfl (ev rfl) HX6.out.range) ?_
  simp only [Act.put, aa, ac, ae]
  refine al rfl (ap Tryz.call8 rfl (evc (ev rfl) (evc evk (evc (ev rfl) (evc (ev rfl) evn))))) ?_
  refine (C.new_ 9 E (neR NN 4) (by omega) (by have := HE.out; omega) HN6.out).mono ?_
  rintro e w7 ⟨b7, h7⟩
  obtain ⟨_, p, G, rfl, j7, g7⟩ | ⟨h7, _⟩ := h7
  rotate_left 1
  · exact absurd (HH.out.symm.trans h7) (by decide)
  have HS7 := Lib.hid (HS6.out.trans (b7.mono HS6.out.size))
  have HG7 := Lib.hid (am HG6.out b7)
  have HA7 : Hid (HAt C w2 w2.heap.size (fun _ => False) w7 q p ⟨cE (szK NN 4), 9, E, neR NN 4⟩) := Lib.hid ⟨G, j7, fun b hb => by
    rcases g7 b hb with e | e
    · exact HF4.out b e
    · exact Nat.le_trans HS6.out.size e, HS7.out, HBas.start HT2.out, fun b hb => hb.elim⟩
  clear b7 j7 g7
  refine ⟨_, rfl, ?_⟩
  simp only [Act.put, aa, ac, ae]
  refine af rfl (ai rfl (ev rfl)) ?_
  simp only [Act.put, aa, ac, ae]
  refine af rfl (aU rfl (ev rfl) rfl) ?_
  simp only [Act.put, aa, ac, ae]
  refine af rfl (aU rfl (ev rfl) rfl) ?_
  simp only [Act.put, aa, ac, ae]
  refine af rfl (ak rfl (ev rfl)) ?_
  simp only [Act.put, aa, ac, ae]
  refine af rfl (ak rfl (ev rfl)) ?_
  simp only [Act.put, aa, ac, ae]
  refine wpList_nil ?_
  go_upto_region 7 with fail
  refine wp_region_lit ?_
  refine af rfl (ai rfl (ev rfl)) ?_
  simp only [Act.put, aa, ac, ae]
  refine af (v := .bool false) rfl (ay false rfl (ev rfl) evk rfl) ?_
  simp only [Act.put, aa, ac, ae]
  refine wpList_nil ?_
  have HGG : Hid (∀ w', Below w2.heap.size w2 w' → w'.heap[bg]? = some (.cells (cU (neR NN 4)).toArray 25 (0, 0))) := Lib.hid fun w' hw => am HG2.out hw
  go_wp2_with fail
  go_loopw [13] (fun z wr => ∃ i : Nat, z = .int .i64 i ∧ i ≤ NN ∧ HAt C w2 w2.heap.size (fun _ => False) wr q p ⟨faiK (bitQ D) (cE (szK NN 4)) i, 9, E, neR NN 4⟩) (fun z _ => NN - (intOf z).toNat)
  case atStart => exact ⟨0, by go_num, Nat.zero_le _, HA7.out⟩
  case round =>
    obtain ⟨i, rfl, hi, ha⟩ := hrel
    have HAi := Lib.hid ha
    have HGi := Lib.hid (HGG.out wr ha.bel)
    clear ha
    by_cases hlt : i < NN
    · have HI := Lib.hid hlt
      have HLT : Hid (decide ((i : Int) < (NN : Int)) = true) := Lib.hid (decide_eq_true (by omega))
      have HIA : Hid (IntKind.i64.wrap ((i : Int) + 1) = ((i + 1 : Nat) : Int)) := Lib.hid (by have := HN2.out; rw [i64q_ ⟨by omega, by omega⟩]; omega)
      have HU : Hid (IntKind.u64.wrap (i : Int) = (i : Int)) := Lib.hid (by rw [IntKind.wrap_u64]; exact Int.emod_eq_of_lt (by omega) (by have := HN2.out; omega))
      have HI16 : Hid (i ≤ 16) := Lib.hid (by have := HN2.out; omega)
      clear hi hlt
      go_upto_region 10 with fail
      refine wp_region_lit ?_
      refine af rfl (ai rfl (ev rfl)) ?_
      simp only [Act.put, aa, ac, ae]
      refine af rfl (aj rfl (ev rfl) faG0) ?_
      simp only [Act.put, aa, ac, ae]
      refine af rfl (aq rfl (ev rfl) (aW (geoAt HGi.out).1)) ?_
      simp only [Act.put, aa, ac, ae]
      refine af (v := .bool true) rfl (bH true rfl (ev rfl) (ev rfl) HLT.out) ?_
      simp only [Act.put, aa, ac, ae]
      refine wpList_nil ?_
      cases hq : bitQ D i
      · have HQ : Hid ((((D / 2 ^ i % 2 : Nat) : Int) == 1) = false) := Lib.hid (by rw [bit_eq]; exact hq)
        have HF1 : Hid (faiK (bitQ D) (cE (szK NN 4)) (i + 1) = faiK (bitQ D) (cE (szK NN 4)) i) := Lib.hid (by rw [faiK, if_neg (by rw [hq]; decide)])
        clear hq
        go_upto_region 12 with fail
        refine wp_region_lit ?_
        refine af rfl (ai rfl (ev rfl)) ?_
        simp only [Act.put, aa, ac, ae]
        refine af rfl (ai rfl (ev rfl)) ?_
        simp only [Act.put, aa, ac, ae]
        refine af rfl (exec_cvN rfl (ev rfl) HU.out) ?_
        simp only [Act.put, aa, ac, ae]
        refine af rfl (exec_shr16 rfl (ev rfl) (ev rfl) HI16.out) ?_
        simp only [Act.put, aa, ac, ae]
        refine af rfl (exec_and16 rfl (ev rfl) evk (bit_and HD.out)) ?_
        simp only [Act.put, aa, ac, ae]
        refine af (v := .bool false) rfl (aw false rfl (ev rfl) evk HQ.out) ?_
        simp only [Act.put, aa, ac, ae]
        refine wpList_nil ?_
        go_upto_region 11 with fail
        refine wp_region_lit ?_
        refine af rfl (ai rfl (ev rfl)) ?_
        simp only [Act.put, aa, ac, ae]
        refine af rfl (bI rfl (ev rfl) evk HIA.out) ?_
        simp only [Act.put, aa, ac, ae]
        refine af rfl (ak rfl (ev rfl)) ?_
        simp only [Act.put, aa, ac, ae]
        refine wpList_nil ?_
        go_wp2_with fail
        go_roundw
        case rel => exact ⟨i + 1, by go_num, HI.out, by rw [HF1.out]; exact HAi.out⟩
        case measure => have := HI.out; simp [intOf]; omega
      have HQ : Hid ((((D / 2 ^ i % 2 : Nat) : Int) == 1) = true) := Lib.hid (by rw [bit_eq]; exact hq)
      have HF1 : Hid (faiK (bitQ D) (cE (szK NN 4)) (i + 1) = faS6 (faiK (bitQ D) (cE (szK NN 4)) i) (i : Int)) := Lib.hid (by rw [faiK, if_pos hq])
      clear hq
      go_upto_region 12 with fail
      refine wp_region_lit ?_
      refine af rfl (ai rfl (ev rfl)) ?_
      simp only [Act.put, aa, ac, ae]
      refine af rfl (ai rfl (ev rfl)) ?_
      simp only [Act.put, aa, ac, ae]
      refine af rfl (exec_cvN rfl (ev rfl) HU.out) ?_
      simp only [Act.put, aa, ac, ae]
      refine af rfl (exec_shr16 rfl (ev rfl) (ev rfl) HI16.out) ?_
      simp only [Act.put, aa, ac, ae]
      refine af rfl (exec_and16 rfl (ev rfl) evk (bit_and HD.out)) ?_
      simp only [Act.put, aa, ac, ae]
      refine af (v := .bool true) rfl (aw true rfl (ev rfl) evk HQ.out) ?_
      simp only [Act.put, aa, ac, ae]
      refine wpList_nil ?_
      go_upto_region 13 with fail
      refine wp_region_lit ?_
      refine af rfl (ai rfl (ev rfl)) ?_
      simp only [Act.put, aa, ac, ae]
      refine af rfl (ai rfl (ev rfl)) ?_
      simp only [Act.put, aa, ac, ae]
      refine al rfl (ap Tryz.call16 rfl (evc (ev rfl) (evc (ev rfl) evn))) ?_
      refine (HAi.out.ben fun hb => C.R.fail (i : Int) hb).mono ?_
      rintro e w8 ⟨rfl, a8, k8⟩
      have HA8 := Lib.hid a8
      clear a8 k8
      refine ⟨_, rfl, ?_⟩
      simp only [Act.put, aa, ac, ae]
      refine wpList_nil ?_
      go_upto_region 11 with fail
      refine wp_region_lit ?_
      refine af rfl (ai rfl (ev rfl)) ?_
      simp only [Act.put, aa, ac, ae]
      refine af rfl (bI rfl (ev rfl) evk HIA.out) ?_
      simp only [Act.put, aa, ac, ae]
      refine af rfl (ak rfl (ev rfl)) ?_
      simp only [Act.put, aa, ac, ae]
      refine wpList_nil ?_
      go_wp2_with fail
      go_roundw
      case rel => exact ⟨i + 1, by go_num, HI.out, by rw [HF1.out]; exact HA8.out⟩
      case measure => have := HI.out; simp [intOf]; omega
    have hin : i = NN := by omega
    subst hin
    have HLT : Hid (decide ((i : Int) < (i : Int)) = false) := Lib.hid (decide_eq_false (by omega))
    clear hi hlt
    obtain ⟨w8, hw8⟩ : ∃ w8, wr = w8 := ⟨_, rfl⟩
    rw [hw8] at HAi HGi ⊢
    clear hw8
    have hfm := faiM (q := bitQ D) (M := cE (szK i 4)) (k := i) (by rw [dQ]; omega)
    have HRM : Hid (Room (faiK (bitQ D) (cE (szK i 4)) i) 600) := Lib.hid (room_of (st := 0) (by rw [hfm.steps]; exact Nat.le_refl _) (by omega) hfm.left fun j hj => by
      rw [hfm.at_ j]
      split
      · exact Nat.zero_le _
      · rw [hfm.len, dQ] at hj
        rcases (show j < i ∨ j = i by omega) with e | e
        · rw [newK_at e]; exact Nat.zero_le _
        · rw [eG, List.getD, List.getElem?_map]
          cases (szK i 4)[j]? <;> exact Nat.zero_le _)
    have HSE : Hid (savE ⟨faiK (bitQ D) (cE (szK i 4)) i, 9, E, neR i 4⟩ = 0 ∧ savS ⟨faiK (bitQ D) (cE (szK i 4)) i, 9, E, neR i 4⟩ = ⟨M', 9, ev', R'⟩) := Lib.hid (by unfold savE savS; rw [HSV.out]; exact ⟨rfl, rfl⟩)
    have HGd : Hid (w8.drew.heap[bg]? = some (.cells (cU (neR i 4)).toArray 25 (0, 0))) := Lib.hid HGi.out
    have HAd : Hid (HAt C w2 w2.heap.size (fun _ => False) w8.drew q p ⟨faiK (bitQ D) (cE (szK i 4)) i, 9, E, neR i 4⟩) := Lib.hid (HAt.below HAi.out ((Below.refl _ _).drew))
    have HC1 : Hid (decide ((ev' : Int) ≤ (E : Int)) = false) := Lib.hid (decide_eq_false (by have := HV.out.1; omega))
    have HU1 : Hid (IntKind.u64.wrap ((E : Int) + (i : Int)) = (E : Int) + (i : Int)) := Lib.hid (by rw [IntKind.wrap_u64]; exact Int.emod_eq_of_lt (by omega) (by have := HE.out; have := HN2.out; omega))
    have HU2 : Hid (IntKind.u64.wrap ((E : Int) + (i : Int) + 1) = (E : Int) + (i : Int) + 1) := Lib.hid (by rw [IntKind.wrap_u64]; exact Int.emod_eq_of_lt (by omega) (by have := HE.out; have := HN2.out; omega))
    have HC2 : Hid (decide ((E : Int) + (i : Int) + 1 < (ev' : Int)) = false) := Lib.hid (decide_eq_false (by have := HV.out.2; omega))
    clear hfm
    go_upto_region 10 with fail
    refine wp_region_lit ?_
    refine af rfl (ai rfl (ev rfl)) ?_
    simp only [Act.put, aa, ac, ae]
    refine af rfl (aj rfl (ev rfl) faG0) ?_
    simp only [Act.put, aa, ac, ae]
    refine af rfl (aq rfl (ev rfl) (aW (geoAt HGi.out).1)) ?_
    simp only [Act.put, aa, ac, ae]
    refine af (v := .bool false) rfl (bH false rfl (ev rfl) (ev rfl) HLT.out) ?_
    simp only [Act.put, aa, ac, ae]
    refine wpList_nil ?_
    go_upto_region 14 with fail
    refine wp_region_held (S := fun w' => w'.heap[bg]? = some (.cells (cU (neR i 4)).toArray 25 (0, 0))) (by kernel_rfl) ?_
    change wpAnyH _ _ _ _ _ 22 _ _ w8.drew
    refine aA 0 rfl (by kernel_rfl) (by kernel_rfl) (by kernel_rfl) rfl (fun w' hw => ai rfl (ev rfl)) (fun _ _ _ h => h) HGd.out ?_
    simp only [Act.put, aa, ac, ae]
    refine dr 1 rfl (by kernel_rfl) rfl (ap Tryz.call17 rfl (evc (ev rfl) evn)) ?_
    refine (HAd.out.save HRM.out (by show E ≤ _; have := HE.out; omega) HSE.out.1).mono ?_
    rintro e w9 ⟨rfl, a9, k9⟩
    rw [HSE.out.2] at a9
    have HA9 := Lib.hid a9
    have HG9 := Lib.hid (HGG.out w9 a9.bel)
    clear a9 k9
    rw [HSE.out.1]
    refine ⟨_, rfl, HG9.out, ?_⟩
    simp only [Act.put, aa, ac, ae]
    refine aA 2 rfl (by kernel_rfl) (by kernel_rfl) (by kernel_rfl) rfl (fun w' hw => ay false rfl (ev rfl) evk rfl) (fun _ _ _ h => h) HG9.out ?_
    simp only [Act.put, aa, ac, ae]
    refine aA 3 rfl (by kernel_rfl) (by kernel_rfl) (by kernel_rfl) rfl (fun w' hw => ai rfl (ev rfl)) (fun _ _ _ h => h) HG9.out ?_
    simp only [Act.put, aa, ac, ae]
    refine aA 4 rfl (by kernel_rfl) (by kernel_rfl) (by kernel_rfl) (ah rfl rfl rfl rfl) (fun w' hw => ai rfl (ev rfl)) (fun _ _ _ h => h) HG9.out ?_
    simp only [Act.put, aa, ac, ae]
    refine aA 6 rfl (by kernel_rfl) (by kernel_rfl) (by kernel_rfl) (ah rfl rfl rfl rfl) (fun w' hw => ai rfl (ev rfl)) (fun _ _ _ h => h) HG9.out ?_
    simp only [Act.put, aa, ac, ae]
    refine aA 7 rfl (by kernel_rfl) (by kernel_rfl) (by kernel_rfl) (ah rfl rfl rfl rfl) (fun w' hw => exec_cv32U rfl (ev rfl) HE.out) (fun _ _ _ h => h) HG9.out ?_
    simp only [Act.put, aa, ac, ae]
    refine dr 5 rfl (by kernel_rfl) (ah rfl rfl rfl rfl) (ap Tryz.call18 rfl (evc (ev rfl) evn)) ?_
    refine (HAt.event HA9.out).mono ?_
    rintro e w10 ⟨rfl, b10⟩
    have HA10 := Lib.hid (HAt.below HA9.out b10)
    have HG10 := Lib.hid (am HG9.out b10)
    clear b10
    refine ⟨_, rfl, HG10.out, ?_⟩
    simp only [Act.put, aa, ac, ae]
    refine aA 8 rfl (by kernel_rfl) (by kernel_rfl) (by kernel_rfl) (ah rfl rfl rfl rfl) (fun w' hw => dO false rfl (ev rfl) (ev rfl) HC1.out) (fun _ _ _ h => h) HG10.out ?_
    simp only [Act.put, aa, ac, ae]
    refine aA 9 rfl (by kernel_rfl) (by kernel_rfl) (by kernel_rfl) rfl (fun w' hw => aB rfl (ev rfl) (ev rfl)) (fun _ _ _ h => h) HG10.out ?_
    simp only [Act.put, aa, ac, ae]
    refine aA 10 rfl (by kernel_rfl) (by kernel_rfl) (by kernel_rfl) rfl (fun w' hw => ai rfl (ev rfl)) (fun _ _ _ h => h) HG10.out ?_
    simp only [Act.put, aa, ac, ae]
    refine aA 11 rfl (by kernel_rfl) (by kernel_rfl) (by kernel_rfl) (ah rfl rfl rfl rfl) (fun w' hw => ai rfl (ev rfl)) (fun _ _ _ h => h) HG10.out ?_
    simp only [Act.put, aa, ac, ae]
    refine aA 13 rfl (by kernel_rfl) (by kernel_rfl) (by kernel_rfl) (ah rfl rfl rfl rfl) (fun w' hw => ai rfl (ev rfl)) (fun _ _ _ h => h) HG10.out ?_
    simp only [Act.put, aa, ac, ae]
    refine aA 14 rfl (by kernel_rfl) (by kernel_rfl) (by kernel_rfl) (ah rfl rfl rfl rfl) (fun w' hw => exec_cv32U rfl (ev rfl) HE.out) (fun _ _ _ h => h) HG10.out ?_
    simp only [Act.put, aa, ac, ae]
    refine aA 15 rfl (by kernel_rfl) (by kernel_rfl) (by kernel_rfl) (ah rfl rfl rfl rfl) (fun w' hw => aj rfl (ev rfl) faG0) (fun _ _ _ h => h) HG10.out ?_
    simp only [Act.put, aa, ac, ae]
    refine aA 16 rfl (by kernel_rfl) (by kernel_rfl) (by kernel_rfl) (ah rfl rfl rfl rfl) (fun w' hw => aq rfl (ev rfl) (aW (geoAt hw).1)) (fun _ _ _ h => h) HG10.out ?_
    simp only [Act.put, aa, ac, ae]
    refine aA 17 rfl (by kernel_rfl) (by kernel_rfl) (by kernel_rfl) (ah rfl rfl rfl rfl) (fun w' hw => exec_cvIU rfl (ev rfl) (by have := HN2.out; omega)) (fun _ _ _ h => h) HG10.out ?_
    simp only [Act.put, aa, ac, ae]
    refine aA 18 rfl (by kernel_rfl) (by kernel_rfl) (by kernel_rfl) (ah rfl rfl rfl rfl) (fun w' hw => exec_addU rfl (ev rfl) (ev rfl) HU1.out) (fun _ _ _ h => h) HG10.out ?_
    simp only [Act.put, aa, ac, ae]
    refine aA 19 rfl (by kernel_rfl) (by kernel_rfl) (by kernel_rfl) (ah rfl rfl rfl rfl) (fun w' hw => exec_addU rfl (ev rfl) evk HU2.out) (fun _ _ _ h => h) HG10.out ?_
    simp only [Act.put, aa, ac, ae]
    refine dr 12 rfl (by kernel_rfl) (ah rfl rfl rfl rfl) (ap Tryz.call18 rfl (evc (ev rfl) evn)) ?_
    refine (HAt.event HA10.out).mono ?_
    rintro e w11 ⟨rfl, b11⟩
    have HA11 := Lib.hid (HAt.below HA10.out b11)
    have HG11 := Lib.hid (am HG10.out b11)
    clear b11
    refine ⟨_, rfl, HG11.out, ?_⟩
    simp only [Act.put, aa, ac, ae]
    refine aA 20 rfl (by kernel_rfl) (by kernel_rfl) (by kernel_rfl) (ah rfl rfl rfl rfl) (fun w' hw => cG false rfl (ev rfl) (ev rfl) HC2.out) (fun _ _ _ h => h) HG11.out ?_
    simp only [Act.put, aa, ac, ae]
    refine aA 21 rfl (by kernel_rfl) (by kernel_rfl) (by kernel_rfl) rfl (fun w' hw => aB rfl (ev rfl) (ev rfl)) (fun _ _ _ h => h) HG11.out ?_
    simp only [Act.put, aa, ac, ae]
    refine wpAnyH_done (by kernel_rfl) ?_ _
    go_wp2_with fail
    go_loopw [14] (fun z wr => ∃ m : Nat, z = .int .i64 m ∧ m ≤ i ∧ Below w11.heap.size w11 wr) (fun z _ => i - (intOf z).toNat)
    case atStart => exact ⟨0, by go_num, Nat.zero_le _, Below.refl _ _⟩
    case round =>
      obtain ⟨m, rfl, hm, hb⟩ := hrel
      have HAm := Lib.hid (HAt.below HA11.out hb)
      have HGm := Lib.hid (am HG11.out hb)
      have HWm := Lib.hid hb
      clear hb
      by_cases hlt : m < i
      rotate_left 1
      · have HML : Hid (decide ((m : Int) < (i : Int)) = false) := Lib.hid (decide_eq_false (by omega))
        clear hm hlt
        go_upto_region 17 with fail
        refine wp_region_lit ?_
        refine af rfl (ai rfl (ev rfl)) ?_
        simp only [Act.put, aa, ac, ae]
        refine af rfl (aj rfl (ev rfl) faG0) ?_
        simp only [Act.put, aa, ac, ae]
        refine af rfl (aq rfl (ev rfl) (aW (geoAt HGm.out).1)) ?_
        simp only [Act.put, aa, ac, ae]
        refine af (v := .bool false) rfl (bH false rfl (ev rfl) (ev rfl) HML.out) ?_
        simp only [Act.put, aa, ac, ae]
        refine wpList_nil ?_
        go_upto_region 28 with fail
        refine wp_region_lit ?_
        refine al rfl (ap Tryz.call9 rfl evn) ?_
        refine (hlives C _ ((HBas.start HT2.out).tab HAm.out.bel)).mono ?_
        rintro e wz ⟨rfl, bz⟩
        have HZ := Lib.hid (HB2.out.trans ((HAm.out.bel.trans (bz.mono HAm.out.bel.size)).mono HB2.out.size))
        clear bz
        refine ⟨_, rfl, ?_⟩
        simp only [Act.put, aa, ac, ae]
        refine af (v := .bool true) rfl (ak rfl (ev rfl)) ?_
        simp only [Act.put, aa, ac, ae]
        refine wpList_nil ?_
        go_wp2_with fail
        go_ret
        exact ⟨rfl, HZ.out⟩
      have HML : Hid (decide ((m : Int) < (i : Int)) = true) := Lib.hid (decide_eq_true (by omega))
      have HM := Lib.hid hlt
      have HM16 : Hid (m < 16) := Lib.hid (by have := HN2.out; omega)
      have HMU : Hid (IntKind.u64.wrap (m : Int) = (m : Int)) := Lib.hid (by rw [IntKind.wrap_u64]; exact Int.emod_eq_of_lt (by omega) (by have := HM16.out; omega))
      have HMA : Hid (IntKind.i64.wrap ((m : Int) + 1) = ((m + 1 : Nat) : Int)) := Lib.hid (by have := HM16.out; rw [i64q_ ⟨by omega, by omega⟩]; omega)
      clear hm hlt
      go_upto_region 17 with fail
      refine wp_region_lit ?_
      refine af rfl (ai rfl (ev rfl)) ?_
      simp only [Act.put, aa, ac, ae]
      refine af rfl (aj rfl (ev rfl) faG0) ?_
      simp only [Act.put, aa, ac, ae]
      refine af rfl (aq rfl (ev rfl) (aW (geoAt HGm.out).1)) ?_
      simp only [Act.put, aa, ac, ae]
      refine af (v := .bool true) rfl (bH true rfl (ev rfl) (ev rfl) HML.out) ?_
      simp only [Act.put, aa, ac, ae]
      refine wpList_nil ?_
      cases hq : bitQ D m
      rotate_left 1
      · have HQ : Hid ((((D / 2 ^ m % 2 : Nat) : Int) == 1) = true) := Lib.hid (by rw [bit_eq]; exact hq)
        have HLO : Hid ((sta R' m == 1) = true) := Lib.hid (by rw [(HRB.out m HM.out).2 hq]; rfl)
        clear hq
        go_upto_region 19 with fail
        refine wp_region_lit ?_
        refine af rfl (ai rfl (ev rfl)) ?_
        simp only [Act.put, aa, ac, ae]
        refine al rfl (ap Tryz.call19 rfl (evc (ev rfl) evn)) ?_
        refine (HAt.roster HAm.out).mono ?_
        rintro e w12 ⟨rfl, b12⟩
        have HA12 := Lib.hid (HAt.below HAm.out b12)
        have HW12 := Lib.hid (HWm.out.trans (b12.mono HWm.out.size))
        clear b12
        refine ⟨_, rfl, ?_⟩
        simp only [Act.put, aa, ac, ae]
        refine af rfl (exec_field rfl (ev rfl) (run_fieldR1 _ _)) ?_
        simp only [Act.put, aa, ac, ae]
        refine af rfl (ai rfl (ev rfl)) ?_
        simp only [Act.put, aa, ac, ae]
        refine af rfl (cN (by simp) HM16.out rfl (ev rfl) (ev rfl)) ?_
        simp only [Act.put, aa, ac, ae]
        refine af (v := .bool true) rfl (aw true rfl (ev rfl) evk HLO.out) ?_
        simp only [Act.put, aa, ac, ae]
        refine af (v := .bool true) rfl (ak rfl (ev rfl)) ?_
        simp only [Act.put, aa, ac, ae]
        refine wpList_nil ?_
        go_upto_region 20 with fail
        refine wp_region_lit ?_
        refine af (v := .bool true) rfl (ai rfl (ev rfl)) ?_
        simp only [Act.put, aa, ac, ae]
        refine af rfl (ai rfl (ev rfl)) ?_
        simp only [Act.put, aa, ac, ae]
        refine af rfl (ai rfl (ev rfl)) ?_
        simp only [Act.put, aa, ac, ae]
        refine af rfl (exec_cvN rfl (ev rfl) HMU.out) ?_
        simp only [Act.put, aa, ac, ae]
        refine af rfl (exec_shr16 rfl (ev rfl) (ev rfl) (Nat.le_of_lt HM16.out)) ?_
        simp only [Act.put, aa, ac, ae]
        refine af rfl (exec_and16 rfl (ev rfl) evk (bit_and HD.out)) ?_
        simp only [Act.put, aa, ac, ae]
        refine af (v := .bool true) rfl (aw true rfl (ev rfl) evk HQ.out) ?_
        simp only [Act.put, aa, ac, ae]
        refine af (v := .bool false) rfl (ex false rfl (ev rfl) (ev rfl) rfl) ?_
        simp only [Act.put, aa, ac, ae]
        refine wpList_nil ?_
        go_upto_region 22 with fail
        refine wp_region_lit ?_
        refine af (v := .bool true) rfl (ai rfl (ev rfl)) ?_
        simp only [Act.put, aa, ac, ae]
        refine wpList_nil ?_
        go_upto_region 18 with fail
        refine wp_region_lit ?_
        refine af rfl (ai rfl (ev rfl)) ?_
        simp only [Act.put, aa, ac, ae]
        refine af rfl (bI rfl (ev rfl) evk HMA.out) ?_
        simp only [Act.put, aa, ac, ae]
        refine af rfl (ak rfl (ev rfl)) ?_
        simp only [Act.put, aa, ac, ae]
        refine wpList_nil ?_
        go_wp2_with fail
        go_roundw
        case rel => exact ⟨m + 1, by go_num, HM.out, HW12.out⟩
        case measure => have := HM.out; simp [intOf]; omega
      have HQ : Hid ((((D / 2 ^ m % 2 : Nat) : Int) == 1) = false) := Lib.hid (by rw [bit_eq]; exact hq)
      have HLO : Hid ((sta R' m == 1) = false) := Lib.hid (beq_eq_false_iff_ne.2 fun e => by have := (HRB.out m HM.out).1 e; rw [hq] at this; cases this)
      obtain ⟨S, hS, hnow⟩ := HNOW.out m HM.out hq
      have hw : Wel M' m S := ⟨HK2.out.bX, HK2.out.left, by rw [HLM.out]; have := HM.out; omega, hS⟩
      have h2 : 2 ≤ S.length := by
        have := HK2.out.two m (by rw [show R'.m.toNat = i by rw [HM5.out]; omega]; exact HM.out)
        rw [hS] at this
        exact this
      have HP0 : Hid (suB6 M' (m : Int) 0 = S.getD 0 au) := Lib.hid (hw.suB (n := 0) (by omega))
      have HP1 : Hid (suB6 M' (m : Int) 1 = S.getD 1 au) := Lib.hid (hw.suB (n := 1) (by omega))
      obtain ⟨P0, hP0⟩ : ∃ P0, S.getD 0 au = P0 := ⟨_, rfl⟩
      obtain ⟨P1, hP1⟩ : ∃ P1, S.getD 1 au = P1 := ⟨_, rfl⟩
      unfold Now at hnow
      rw [hP0, hP1] at hnow
      rw [hP0] at HP0
      rw [hP1] at HP1
      have HNO := Lib.hid hnow
      clear hq hS hnow hw h2 hP0 hP1
      go_upto_region 19 with fail
      refine wp_region_lit ?_
      refine af rfl (ai rfl (ev rfl)) ?_
      simp only [Act.put, aa, ac, ae]
      refine al rfl (ap Tryz.call19 rfl (evc (ev rfl) evn)) ?_
      refine (HAt.roster HAm.out).mono ?_
      rintro e w12 ⟨rfl, b12⟩
      have HA12 := Lib.hid (HAt.below HAm.out b12)
      have HW12 := Lib.hid (HWm.out.trans (b12.mono HWm.out.size))
      clear b12
      refine ⟨_, rfl, ?_⟩
      simp only [Act.put, aa, ac, ae]
      refine af rfl (exec_field rfl (ev rfl) (run_fieldR1 _ _)) ?_
      simp only [Act.put, aa, ac, ae]
      refine af rfl (ai rfl (ev rfl)) ?_
      simp only [Act.put, aa, ac, ae]
      refine af rfl (cN (by simp) HM16.out rfl (ev rfl) (ev rfl)) ?_
      simp only [Act.put, aa, ac, ae]
      refine af (v := .bool false) rfl (aw false rfl (ev rfl) evk HLO.out) ?_
      simp only [Act.put, aa, ac, ae]
      refine af (v := .bool false) rfl (ak rfl (ev rfl)) ?_
      simp only [Act.put, aa, ac, ae]
      refine wpList_nil ?_
      go_upto_region 20 with fail
      refine wp_region_lit ?_
      refine af (v := .bool false) rfl (ai rfl (ev rfl)) ?_
      simp only [Act.put, aa, ac, ae]
      refine af rfl (ai rfl (ev rfl)) ?_
      simp only [Act.put, aa, ac, ae]
      refine af rfl (ai rfl (ev rfl)) ?_
      simp only [Act.put, aa, ac, ae]
      refine af rfl (exec_cvN rfl (ev rfl) HMU.out) ?_
      simp only [Act.put, aa, ac, ae]
      refine af rfl (exec_shr16 rfl (ev rfl) (ev rfl) (Nat.le_of_lt HM16.out)) ?_
      simp only [Act.put, aa, ac, ae]
      refine af rfl (exec_and16 rfl (ev rfl) evk (bit_and HD.out)) ?_
      simp only [Act.put, aa, ac, ae]
      refine af (v := .bool false) rfl (aw false rfl (ev rfl) evk HQ.out) ?_
      simp only [Act.put, aa, ac, ae]
      refine af (v := .bool false) rfl (ex false rfl (ev rfl) (ev rfl) rfl) ?_
      simp only [Act.put, aa, ac, ae]
      refine wpList_nil ?_
      go_upto_region 22 with fail
      refine wp_region_lit ?_
      refine af (v := .bool false) rfl (ai rfl (ev rfl)) ?_
      simp only [Act.put, aa, ac, ae]
      refine wpList_nil ?_
      go_upto_region 23 with fail
      refine wp_region_lit ?_
      refine af rfl (ai rfl (ev rfl)) ?_
      simp only [Act.put, aa, ac, ae]
      refine af rfl (ai rfl (ev rfl)) ?_
      simp only [Act.put, aa, ac, ae]
      refine al rfl (ap Tryz.call20 rfl (evc (ev rfl) (evc (ev rfl) (evc evk evn)))) ?_
      refine (HAt.look HA12.out fun hb => C.R.sure (m : Int) 0 hb).mono ?_
      rintro e w13 ⟨rfl, b13⟩
      have HA13 := Lib.hid (HAt.below HA12.out b13)
      have HW13 := Lib.hid (HW12.out.trans (b13.mono HW12.out.size))
      clear b13
      rw [show suB6 (HuS.mk M' 9 ev' R').M (m : Int) 0 = P0 from HP0.out]
      refine ⟨_, rfl, ?_⟩
      simp only [Act.put, aa, ac, ae]
      refine af rfl (ai rfl (ev rfl)) ?_
      simp only [Act.put, aa, ac, ae]
      refine af rfl (aU rfl (ev rfl) rfl) ?_
      simp only [Act.put, aa, ac, ae]
      refine af rfl (aU rfl (ev rfl) rfl) ?_
      simp only [Act.put, aa, ac, ae]
      refine af rfl (aQ rfl) ?_
      simp only [Act.put, aa, ac, ae]
      refine av rfl (ec (c := P0) rfl (ev rfl) (ev rfl)) ?_
      simp only [Act.put, aa, ac, ae]
      have HX13 := Lib.hid ((Below.refl w13.heap.size w13).alloc (Nat.le_refl _) (.cells (cel P0).toArray 58))
      have HR14 := Lib.hid (heap_alloc_new w13 (.cells (cel P0).toArray 58))
      have HA14 := Lib.hid (HAt.below HA13.out HX13.out)
      have HW14 := Lib.hid (HW13.out.trans (HX13.out.mono HW13.out.size))
      generalize w13.alloc (.cells (cel P0).toArray 58) = w14 at *
      refine af rfl (ak rfl (ev rfl)) ?_
      simp only [Act.put, aa, ac, ae]
      refine wpList_nil ?_
      go_upto_region 24 with fail
      refine wp_region_lit ?_
      refine af rfl (ai rfl (ev rfl)) ?_
      simp only [Act.put, aa, ac, ae]
      refine af rfl (ai rfl (ev rfl)) ?_
      simp only [Act.put, aa, ac, ae]
      refine al rfl (ap Tryz.call20 rfl (evc (ev rfl) (evc (ev rfl) (evc evk evn)))) ?_
      refine (HAt.look HA14.out fun hb => C.R.sure (m : Int) 1 hb).mono ?_
      rintro e w15 ⟨rfl, b15⟩
      have HR15 := Lib.hid (am HR14.out b15)
      have HA15 := Lib.hid (HAt.below HA14.out b15)
      have HW15 := Lib.hid (HW14.out.trans (b15.mono HW14.out.size))
      clear b15
      rw [show suB6 (HuS.mk M' 9 ev' R').M (m : Int) 1 = P1 from HP1.out]
      refine ⟨_, rfl, ?_⟩
      simp only [Act.put, aa, ac, ae]
      refine af rfl (ai rfl (ev rfl)) ?_
      simp only [Act.put, aa, ac, ae]
      refine af rfl (aU rfl (ev rfl) rfl) ?_
      simp only [Act.put, aa, ac, ae]
      refine af rfl (aU rfl (ev rfl) rfl) ?_
      simp only [Act.put, aa, ac, ae]
      refine af rfl (aQ rfl) ?_
      simp only [Act.put, aa, ac, ae]
      refine av rfl (ec (c := P1) rfl (ev rfl) (ev rfl)) ?_
      simp only [Act.put, aa, ac, ae]
      have HX15 := Lib.hid ((Below.refl w15.heap.size w15).alloc (Nat.le_refl _) (.cells (cel P1).toArray 58))
      have HR16 := Lib.hid (am HR15.out HX15.out)
      have HQ16 := Lib.hid (heap_alloc_new w15 (.cells (cel P1).toArray 58))
      have HA16 := Lib.hid (HAt.below HA15.out HX15.out)
      have HW16 := Lib.hid (HW15.out.trans (HX15.out.mono HW15.out.size))
      generalize w15.alloc (.cells (cel P1).toArray 58) = w16 at *
      refine af rfl (ak rfl (ev rfl)) ?_
      simp only [Act.put, aa, ac, ae]
      refine wpList_nil ?_
      go_upto_region 25 with fail
      refine wp_region_lit ?_
      refine af rfl (aV rfl (ev rfl) (a4 HR16.out)) ?_
      simp only [Act.put, aa, ac, ae]
      refine af rfl (aV rfl (ev rfl) (a4 HQ16.out)) ?_
      simp only [Act.put, aa, ac, ae]
      refine al rfl (ap Tryz.call21 rfl (evc (ev rfl) (evc (ev rfl) evn))) ?_
      refine (rnew_super P0 P1 w16).mono ?_
      rintro e w17 ⟨rfl, b17⟩
      have HA17 := Lib.hid (HAt.below HA16.out b17)
      have HW17 := Lib.hid (HW16.out.trans (b17.mono HW16.out.size))
      clear b17
      rw [HNO.out.1, HNO.out.2.1, HNO.out.2.2]
      refine ⟨_, rfl, ?_⟩
      simp only [Act.put, aa, ac, ae]
      refine af rfl (ai rfl (ev rfl)) ?_
      simp only [Act.put, aa, ac, ae]
      refine af rfl (aU rfl (ev rfl) rfl) ?_
      simp only [Act.put, aa, ac, ae]
      refine af rfl (aU rfl (ev rfl) rfl) ?_
      simp only [Act.put, aa, ac, ae]
      refine af rfl (aU rfl (ev rfl) rfl) ?_
      simp only [Act.put, aa, ac, ae]
      refine af rfl (aX rfl) ?_
      simp only [Act.put, aa, ac, ae]
      refine af rfl (ak rfl (ev rfl)) ?_
      simp only [Act.put, aa, ac, ae]
      refine av rfl (bZ (c := (⟨9, (m : Int), R'⟩ : Sup)) rfl (ev rfl) (ev rfl)) ?_
      simp only [Act.put, aa, ac, ae]
      have HX17 := Lib.hid ((Below.refl w17.heap.size w17).alloc (Nat.le_refl _) (.cells (aL (⟨9, (m : Int), R'⟩ : Sup)).toArray 62))
      have HS18 := Lib.hid (bx.new w17 (⟨9, (m : Int), R'⟩ : Sup))
      have HA18 := Lib.hid (HAt.below HA17.out HX17.out)
      have HW18 := Lib.hid (HW17.out.trans (HX17.out.mono HW17.out.size))
      have HSL : Hid (w17.heap.size < (w17.alloc (.cells (aL (⟨9, (m : Int), R'⟩ : Sup)).toArray 62)).heap.size) := Lib.hid (by rw [World.size_alloc]; omega)
      generalize w17.alloc (.cells (aL (⟨9, (m : Int), R'⟩ : Sup)).toArray 62) = w18 at *
      refine af rfl (ak rfl (ev rfl)) ?_
      simp only [Act.put, aa, ac, ae]
      refine wpList_nil ?_
      go_upto_region 26 with fail
      refine aG (B := w18.heap.size) (by kernel_rfl) ?_
      refine ao rfl (fun w' hw => ai rfl (ev rfl)) ?_
      simp only [Act.put, aa, ac, ae]
      refine ao (v := .bool false) rfl (fun w' hw => ay false rfl (ev rfl) evk rfl) ?_
      simp only [Act.put, aa, ac, ae]
      refine ao (v := .bool false) rfl (fun w' hw => ai rfl (ev rfl)) ?_
      simp only [Act.put, aa, ac, ae]
      refine ao (ah rfl rfl rfl rfl) (fun w' hw => ai rfl (ev rfl)) ?_
      simp only [Act.put, aa, ac, ae]
      refine ao (ah rfl rfl rfl rfl) (fun w' hw => ai rfl (ev rfl)) ?_
      simp only [Act.put, aa, ac, ae]
      refine bn (ah rfl rfl rfl rfl) (fun _ => ap Tryz.call18 rfl (evc (ev rfl) evn)) (bi (Nat.le_refl _) fun w' hw => HAt.event (HA18.out.below hw)) ?_
      simp only [Act.put, aa, ac, ae]
      refine ao (v := .bool false) (ah rfl rfl rfl rfl) (fun w' hw => ay false rfl (ev rfl) (ev rfl) (bne_self_eq_false _)) ?_
      simp only [Act.put, aa, ac, ae]
      refine ao (v := .bool false) rfl (fun w' hw => aB rfl (ev rfl) (ev rfl)) ?_
      simp only [Act.put, aa, ac, ae]
      refine ao (v := .bool false) rfl (fun w' hw => ai rfl (ev rfl)) ?_
      simp only [Act.put, aa, ac, ae]
      refine ao (ah rfl rfl rfl rfl) (fun w' hw => aj rfl (ev rfl) faSu1c) ?_
      simp only [Act.put, aa, ac, ae]
      refine ao (ah rfl rfl rfl rfl) (fun w' hw => aq rfl (ev rfl) (aW (HS18.out.below HSL.out hw).cells.2.1)) ?_
      simp only [Act.put, aa, ac, ae]
      refine ao (ah rfl rfl rfl rfl) (fun w' hw => ai rfl (ev rfl)) ?_
      simp only [Act.put, aa, ac, ae]
      refine ao (v := .bool false) (ah rfl rfl rfl rfl) (fun w' hw => ay false rfl (ev rfl) (ev rfl) (bne_self_eq_false _)) ?_
      simp only [Act.put, aa, ac, ae]
      refine ao (v := .bool false) rfl (fun w' hw => aB rfl (ev rfl) (ev rfl)) ?_
      simp only [Act.put, aa, ac, ae]
      refine ao (v := .bool false) rfl (fun w' hw => ai rfl (ev rfl)) ?_
      simp only [Act.put, aa, ac, ae]
      refine ao (ah rfl rfl rfl rfl) (fun w' hw => aj rfl (ev rfl) faSu0) ?_
      simp only [Act.put, aa, ac, ae]
      refine ao (ah rfl rfl rfl rfl) (fun w' hw => aq rfl (ev rfl) (ldU64 (HS18.out.below HSL.out hw).cells.1)) ?_
      simp only [Act.put, aa, ac, ae]
      refine ao (v := .bool false) (ah rfl rfl rfl rfl) (fun w' hw => ay false rfl (ev rfl) evk rfl) ?_
      simp only [Act.put, aa, ac, ae]
      refine ao (v := .bool false) rfl (fun w' hw => aB rfl (ev rfl) (ev rfl)) ?_
      simp only [Act.put, aa, ac, ae]
      refine ao (v := .bool false) rfl (fun w' hw => ai rfl (ev rfl)) ?_
      simp only [Act.put, aa, ac, ae]
      refine ao (ah rfl rfl rfl rfl) (fun w' hw => aj rfl (ev rfl) faSu2) ?_
      simp only [Act.put, aa, ac, ae]
      refine ao (ah rfl rfl rfl rfl) (fun w' hw => aR rfl (ev rfl) (HS18.out.below HSL.out hw).rosr) ?_
      simp only [Act.put, aa, ac, ae]
      refine ao (ah rfl rfl rfl rfl) (fun w' hw => ai rfl (ev rfl)) ?_
      simp only [Act.put, aa, ac, ae]
      refine bn (ah rfl rfl rfl rfl) (fun _ => ap Tryz.call19 rfl (evc (ev rfl) evn)) (bi (Nat.le_refl _) fun w' hw => HAt.roster (HA18.out.below hw)) ?_
      simp only [Act.put, aa, ac, ae]
      refine bn (ah rfl rfl rfl rfl) (fun _ => ap Tryz.call22 rfl (evc (ev rfl) (evc (ev rfl) evn))) (bi (Nat.le_refl _) fun w' hw => rros_t R' w') ?_
      simp only [Act.put, aa, ac, ae]
      refine ao (v := .bool false) (ah rfl rfl rfl rfl) (fun w' hw => aE true rfl (ev rfl)) ?_
      simp only [Act.put, aa, ac, ae]
      refine ao (v := .bool false) rfl (fun w' hw => aB rfl (ev rfl) (ev rfl)) ?_
      simp only [Act.put, aa, ac, ae]
      refine wpQuiet_nil ?_
      intro w19 hw
      have HW19 := Lib.hid (HW18.out.trans (hw.mono HW18.out.size))
      clear hw
      go_upto_region 18 with fail
      refine wp_region_lit ?_
      refine af rfl (ai rfl (ev rfl)) ?_
      simp only [Act.put, aa, ac, ae]
      refine af rfl (bI rfl (ev rfl) evk HMA.out) ?_
      simp only [Act.put, aa, ac, ae]
      refine af rfl (ak rfl (ev rfl)) ?_
      simp only [Act.put, aa, ac, ae]
      refine wpList_nil ?_
      go_wp2_with fail
      go_roundw
      case rel => exact ⟨m + 1, by go_num, HM.out, HW19.out⟩
      case measure => have := HM.out; simp [intOf]; omega
end Go.Proofs.YtnliphgjcaippaaGreatDoor
