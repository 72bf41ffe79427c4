import Derived.Test.YtcafafdimcecpaaGreatDoorLcar
import Derived.Test.YtcafafdimcecpaaGreatDoorLcaw
import Derived.Test.YtcafafdimcecpaaGreatDoorLcap
import Derived.Test.YtcafafdimcecpaaGreatDoorLcZ
namespace Go.Proofs.YtcafafdimcecpaaGreatDoor
open Go.RowKit
set_option linter.unusedVariables false
set_option linter.unusedSimpArgs false
set_option maxRecDepth 100000
theorem three_newM (w : World) (a b : Blk) : (((w.alloc (.cells (cel a).toArray 65)).alloc (.cells (cel b).toArray 65)).alloc (.cells (bk bI).toArray 67)).rangeAt w.heap.size 0 (cel a) ∧
    (((w.alloc (.cells (cel a).toArray 65)).alloc (.cells (cel b).toArray 65)).alloc (.cells (bk bI).toArray 67)).rangeAt (w.heap.size + 1) 0 (cel b) ∧
    (((w.alloc (.cells (cel a).toArray 65)).alloc (.cells (cel b).toArray 65)).alloc (.cells (bk bI).toArray 67)).there (w.heap.size + 1 + 1) 0 4 ∧
    Below w.heap.size w (((w.alloc (.cells (cel a).toArray 65)).alloc (.cells (cel b).toArray 65)).alloc (.cells (bk bI).toArray 67)) ∧ w.heap.size + 1 + 1 < (((w.alloc (.cells (cel a).toArray 65)).alloc (.cells (cel b).toArray 65)).alloc (.cells (bk bI).toArray 67)).heap.size := by
  have e1 := World.size_alloc (w := w) (o := Obj.cells (cel a).toArray 65)
  have e2 := World.size_alloc (w := (w.alloc (.cells (cel a).toArray 65))) (o := Obj.cells (cel b).toArray 65)
  have h3 := bG.new ((w.alloc (.cells (cel a).toArray 65)).alloc (.cells (cel b).toArray 65)) bI
  rw [e2, e1] at h3
  refine ⟨World.rangeAt_alloc (World.rangeAt_alloc (b7 w (cel a) _) _) _, ?_, h3.there, ?_, aV h3⟩
  · rw [← e1]; exact World.rangeAt_alloc (b7 _ (cel b) _) _
  · exact (((Below.refl _ w).alloc (Nat.le_refl _) _).alloc (by omega) _).alloc (by omega) _
set_option maxHeartbeats 4000000 in
theorem pmnew (a b : Blk) (w : World) (T : TabM w) : Calls Tryz.prog 134 #[blk a, blk b] w fun e w' => e = .returned (.tuple #[.int .u64 ((aR.nX a b).n : Nat), mrk (aR.nX a b).m, .int .i64 (aR.nE a b : Nat)]) ∧ Below w.heap.size w w' := by
  obtain ⟨h1, h2, h3, h4, h5⟩ := three_newM w a b
  obtain ⟨x, hx⟩ : ∃ x, aR.gN a = x := ⟨_, rfl⟩
  obtain ⟨y, hy⟩ : ∃ y, aR.gN b = y := ⟨_, rfl⟩
  obtain ⟨p, hp⟩ : ∃ p, (aR.gX a).m = p := ⟨_, rfl⟩
  obtain ⟨q, hq⟩ : ∃ q, (aR.gX b).m = q := ⟨_, rfl⟩
  obtain ⟨ea, hea⟩ : ∃ e, aR.gE a = e := ⟨_, rfl⟩
  obtain ⟨eb, heb⟩ : ∃ e, aR.gE b = e := ⟨_, rfl⟩
  have HX := Lib.hid hx
  have HY := Lib.hid hy
  have HP := Lib.hid hp
  have HQ := Lib.hid hq
  have HEA := Lib.hid hea
  have HEB := Lib.hid heb
  have hxa := aR.gN_zero (b := a)
  have hxb := aR.gN_zero (b := b)
  rw [hx, hea] at hxa
  rw [hy, heb] at hxb
  have HXA := Lib.hid hxa
  have HXB := Lib.hid hxb
  clear hx hy hp hq hea heb hxa hxb
  have HNN : Hid ((aR.nX a b).n = if x < y then y else x) := Lib.hid (by
    unfold Cod.nX
    rw [HX.out, HY.out]
    split
    · exact HY.out
    · exact HX.out)
  have HNS : Hid ((aR.nX a b).m = if x < y then q else p) := Lib.hid (by
    unfold Cod.nX
    rw [HX.out, HY.out]
    split
    · exact HQ.out
    · exact HP.out)
  have HNE : Hid (aR.nE a b = if x = 0 ∧ y = 0 then 7 else 0) := Lib.hid (by unfold Cod.nE; rw [HX.out, HY.out])
  have HPZ : Hid (x = 0 → p = bI) := Lib.hid fun h => by rw [← HP.out, aR.gX_no (aR.gN_zero.1 (HX.out.trans h))]; rfl
  have HT := Lib.hid (T.below h4)
  clear T
  have HA := Lib.hid h1
  have HBK := Lib.hid h2
  have HR := Lib.hid h3
  have HB := Lib.hid h4
  have HZ := Lib.hid h5
  clear h1 h2 h3 h4 h5
  go_enter Tryz.func134, Tryz.ntmps134
  go_wp2_with (first | (refine ag rfl (bD rfl rfl) ?_) | (refine ag rfl (bJ rfl) ?_) | (refine ag rfl (aJ (c := a) rfl rfl ?_) ?_; (with_reducible exact HA.out)) | fail)
  try simp only [World.size_alloc]
  generalize ((w.alloc (.cells (cel a).toArray 65)).alloc (.cells (cel b).toArray 65)).alloc (.cells (bk bI).toArray 67) = w0 at *
  refine (pmget a w0 HT.out).mono ?_
  rintro e w1 ⟨rfl, hb⟩
  rw [HX.out, HP.out, HEA.out]
  have hb1 := hb.alloc hb.size (.cells (bk p).toArray 67)
  have HBK1 := Lib.hid (cO HBK.out (by have := HZ.out; omega) hb1)
  have HR1 := Lib.hid (aL HR.out HZ.out hb1)
  have HB1 := Lib.hid (HB.out.trans (hb1.mono HB.out.size))
  have HPA := Lib.hid (bG.new w1 p)
  have HZ1 : Hid (w.heap.size + 1 + 1 < (w1.alloc (.cells (bk p).toArray 67)).heap.size) := Lib.hid (Nat.lt_of_lt_of_le HZ.out hb1.size)
  have HT1 := Lib.hid (HT.out.below hb1)
  clear hb hb1 HA HBK HB HZ HR
  go_upto_region 2 with (first | (refine ag rfl (bJ rfl) ?_) | (refine aB rfl (dj rfl rfl rfl) ?_) | fail)
  generalize w1.alloc (.cells (bk p).toArray 67) = w2 at *
  go_wp2_with (first | (refine ag rfl (aJ (c := b) rfl rfl ?_) ?_; (with_reducible exact HBK1.out)) | fail)
  refine (pmget b w2 HT1.out).mono ?_
  rintro e w3 ⟨rfl, hb⟩
  rw [HY.out, HQ.out, HEB.out]
  have hb3 := hb.alloc hb.size (.cells (bk q).toArray 67)
  have HB4 := Lib.hid (HB1.out.trans (hb3.mono HB1.out.size))
  have HR4 := Lib.hid (aL HR1.out HZ1.out hb3)
  have HPR := Lib.hid (HPA.out.below (aV HPA.out) hb3).range
  have HQR := Lib.hid (bG.new w3 q).range
  clear hb hb3 HBK1 HB1 HR1 HPA HZ1
  go_upto_region 3 with (first | (refine ag rfl (bJ rfl) ?_) | (refine aB rfl (dj rfl rfl rfl) ?_) | fail)
  generalize w3.alloc (.cells (bk q).toArray 67) = w4 at *
  by_cases k0 : x = 0
  · have HXQ : Hid (((x : Int) == 0) = true) := Lib.hid (by simp; omega)
    have HPZ2 := Lib.hid (HPZ.out k0)
    by_cases k1 : y = 0
    · have HYQ : Hid (((y : Int) == 0) = true) := Lib.hid (by simp; omega)
      rw [if_neg (by omega)] at HNN HNS
      rw [if_pos (by omega)] at HNE
      rw [k0] at HNN
      rw [HPZ2.out] at HNS
      clear k0 k1
      refine wp_region_lit ?_
      refine ag rfl (ah rfl (ev rfl)) ?_
      simp only [Act.put, aa, ae, af]
      refine ag (v := .bool true) rfl (aI true rfl (ev rfl) evk HXQ.out) ?_
      simp only [Act.put, aa, ae, af]
      refine ag (v := .bool true) rfl (ah rfl (ev rfl)) ?_
      simp only [Act.put, aa, ae, af]
      refine ai (aj rfl rfl rfl rfl) (ah rfl (ev rfl)) ?_
      simp only [Act.put, aa, ae, af]
      refine ai (v := .bool true) (aj rfl rfl rfl rfl) (aI true rfl (ev rfl) evk HYQ.out) ?_
      simp only [Act.put, aa, ae, af]
      refine ag (v := .bool true) rfl (aM rfl (ev rfl) (ev rfl)) ?_
      simp only [Act.put, aa, ae, af]
      refine ag (v := .bool true) rfl (aq rfl (ev rfl)) ?_
      simp only [Act.put, aa, ae, af]
      refine wpList_nil ?_
      go_wp2_with (first | (refine ag rfl (exec_bldM rfl) ?_) | (refine aB rfl (cQ (c := bI) rfl rfl rfl ?_) ?_; (with_reducible exact HR4.out)) | fail)
      refine bodyPost_ret (eS (t := 67) (cs := bk bI) rfl _ _ _ rfl ?h1 Tryz.underlying67 rfl ?h2) rfl ⟨by rw [HNE.out, HNN.out, HNS.out]; rfl, ?h3⟩
      case h1 => exact World.rangeAt_setCells_same _ _ _ _ HR4.out
      case h2 => exact sizeM
      case h3 => exact below_setCells HB4.out (by omega) _
    · have HYQ : Hid (((y : Int) == 0) = false) := Lib.hid (by simp; omega)
      rw [if_neg (by omega)] at HNE
      clear k1
      refine wp_region_lit ?_
      refine ag rfl (ah rfl (ev rfl)) ?_
      simp only [Act.put, aa, ae, af]
      refine ag (v := .bool true) rfl (aI true rfl (ev rfl) evk HXQ.out) ?_
      simp only [Act.put, aa, ae, af]
      refine ag (v := .bool true) rfl (ah rfl (ev rfl)) ?_
      simp only [Act.put, aa, ae, af]
      refine ai (aj rfl rfl rfl rfl) (ah rfl (ev rfl)) ?_
      simp only [Act.put, aa, ae, af]
      refine ai (v := .bool false) (aj rfl rfl rfl rfl) (aI false rfl (ev rfl) evk HYQ.out) ?_
      simp only [Act.put, aa, ae, af]
      refine ag (v := .bool false) rfl (aM rfl (ev rfl) (ev rfl)) ?_
      simp only [Act.put, aa, ae, af]
      refine ag (v := .bool false) rfl (aq rfl (ev rfl)) ?_
      simp only [Act.put, aa, ae, af]
      refine wpList_nil ?_
      go_upto_region 5 with fail
      by_cases hlt : x < y
      · have HGT : Hid (decide ((x : Int) < (y : Int)) = true) := Lib.hid (decide_eq_true (by omega))
        rw [if_pos hlt] at HNN HNS
        clear k0 hlt
        refine wp_region_lit ?_
        refine ag rfl (ah rfl (ev rfl)) ?_
        simp only [Act.put, aa, ae, af]
        refine ag rfl (ah rfl (ev rfl)) ?_
        simp only [Act.put, aa, ae, af]
        refine ag (v := .bool true) rfl (cY true rfl (ev rfl) (ev rfl) HGT.out) ?_
        simp only [Act.put, aa, ae, af]
        refine ag (v := .bool true) rfl (aq rfl (ev rfl)) ?_
        simp only [Act.put, aa, ae, af]
        refine wpList_nil ?_
        go_wp2_with fail
        refine wp_region_still_tail 3 (by kernel_rfl) (by kernel_rfl) ?_
        simp only [List.take_succ_cons, List.take_zero, List.drop_succ_cons, List.drop_zero]
        refine aw rfl (ah rfl (ev rfl)) ?_
        simp only [Act.put, aa, ae, af]
        refine aw rfl (bC (c := q) rfl (ev rfl) HQR.out) ?_
        simp only [Act.put, aa, ae, af]
        refine aw rfl (aq rfl (ev rfl)) ?_
        simp only [Act.put, aa, ae, af]
        refine wpStill_nil ?_
        change wpList _ _ _ _ _ (World.drew _)
        refine aF rfl (cQ (c := q) rfl (ev rfl) (ev rfl) HR4.out) ?_
        simp only [Act.put, aa, ae, af]
        refine ai rfl (aq rfl evk) ?_
        simp only [Act.put, aa, ae, af]
        refine wpList_nil ?_
        go_wp2_with fail
        refine bodyPost_ret (eS (t := 67) (cs := bk q) rfl _ _ _ rfl ?h1 Tryz.underlying67 rfl ?h2) rfl ⟨by rw [HNE.out, HNN.out, HNS.out]; rfl, ?h3⟩
        case h1 => exact World.rangeAt_setCells_same _ _ _ _ HR4.out
        case h2 => exact sizeM
        case h3 => exact below_setCells (bd HB4.out) (by omega) _
      · have HGT : Hid (decide ((x : Int) < (y : Int)) = false) := Lib.hid (decide_eq_false (by omega))
        rw [if_neg hlt] at HNN HNS
        clear k0 hlt
        refine wp_region_lit ?_
        refine ag rfl (ah rfl (ev rfl)) ?_
        simp only [Act.put, aa, ae, af]
        refine ag rfl (ah rfl (ev rfl)) ?_
        simp only [Act.put, aa, ae, af]
        refine ag (v := .bool false) rfl (cY false rfl (ev rfl) (ev rfl) HGT.out) ?_
        simp only [Act.put, aa, ae, af]
        refine ag (v := .bool false) rfl (aq rfl (ev rfl)) ?_
        simp only [Act.put, aa, ae, af]
        refine wpList_nil ?_
        go_wp2_with fail
        refine wp_region_still_tail 3 (by kernel_rfl) (by kernel_rfl) ?_
        simp only [List.take_succ_cons, List.take_zero, List.drop_succ_cons, List.drop_zero]
        refine aw rfl (ah rfl (ev rfl)) ?_
        simp only [Act.put, aa, ae, af]
        refine aw rfl (bC (c := p) rfl (ev rfl) HPR.out) ?_
        simp only [Act.put, aa, ae, af]
        refine aw rfl (aq rfl (ev rfl)) ?_
        simp only [Act.put, aa, ae, af]
        refine wpStill_nil ?_
        change wpList _ _ _ _ _ (World.drew _)
        refine aF rfl (cQ (c := p) rfl (ev rfl) (ev rfl) HR4.out) ?_
        simp only [Act.put, aa, ae, af]
        refine ai rfl (aq rfl evk) ?_
        simp only [Act.put, aa, ae, af]
        refine wpList_nil ?_
        go_wp2_with fail
        refine bodyPost_ret (eS (t := 67) (cs := bk p) rfl _ _ _ rfl ?h1 Tryz.underlying67 rfl ?h2) rfl ⟨by rw [HNE.out, HNN.out, HNS.out]; rfl, ?h3⟩
        case h1 => exact World.rangeAt_setCells_same _ _ _ _ HR4.out
        case h2 => exact sizeM
        case h3 => exact below_setCells (bd HB4.out) (by omega) _
  · have HXQ : Hid (((x : Int) == 0) = false) := Lib.hid (by simp; omega)
    rw [if_neg (by omega)] at HNE
    refine wp_region_lit ?_
    refine ag rfl (ah rfl (ev rfl)) ?_
    simp only [Act.put, aa, ae, af]
    refine ag (v := .bool false) rfl (aI false rfl (ev rfl) evk HXQ.out) ?_
    simp only [Act.put, aa, ae, af]
    refine aO 2 (v := .bool false) rfl (ah rfl (ev rfl)) (by kernel_rfl) ?_
    simp only [bc, List.take_succ_cons, List.take_zero, List.drop_succ_cons, List.drop_zero, Act.put, List.setIfInBounds_toArray, List.set_cons_succ, List.set_cons_zero]
    refine ag (v := .bool false) rfl (aN rfl (ev rfl) evk) ?_
    simp only [Act.put, aa, ae, af]
    refine ag (v := .bool false) rfl (aq rfl (ev rfl)) ?_
    simp only [Act.put, aa, ae, af]
    refine wpList_nil ?_
    go_upto_region 5 with fail
    by_cases hlt : x < y
    · have HGT : Hid (decide ((x : Int) < (y : Int)) = true) := Lib.hid (decide_eq_true (by omega))
      rw [if_pos hlt] at HNN HNS
      clear k0 hlt
      refine wp_region_lit ?_
      refine ag rfl (ah rfl (ev rfl)) ?_
      simp only [Act.put, aa, ae, af]
      refine ag rfl (ah rfl (ev rfl)) ?_
      simp only [Act.put, aa, ae, af]
      refine ag (v := .bool true) rfl (cY true rfl (ev rfl) (ev rfl) HGT.out) ?_
      simp only [Act.put, aa, ae, af]
      refine ag (v := .bool true) rfl (aq rfl (ev rfl)) ?_
      simp only [Act.put, aa, ae, af]
      refine wpList_nil ?_
      go_wp2_with fail
      refine wp_region_still_tail 3 (by kernel_rfl) (by kernel_rfl) ?_
      simp only [List.take_succ_cons, List.take_zero, List.drop_succ_cons, List.drop_zero]
      refine aw rfl (ah rfl (ev rfl)) ?_
      simp only [Act.put, aa, ae, af]
      refine aw rfl (bC (c := q) rfl (ev rfl) HQR.out) ?_
      simp only [Act.put, aa, ae, af]
      refine aw rfl (aq rfl (ev rfl)) ?_
      simp only [Act.put, aa, ae, af]
      refine wpStill_nil ?_
      change wpList _ _ _ _ _ (World.drew _)
      refine aF rfl (cQ (c := q) rfl (ev rfl) (ev rfl) HR4.out) ?_
      simp only [Act.put, aa, ae, af]
      refine ai rfl (aq rfl evk) ?_
      simp only [Act.put, aa, ae, af]
      refine wpList_nil ?_
      go_wp2_with fail
      refine bodyPost_ret (eS (t := 67) (cs := bk q) rfl _ _ _ rfl ?h1 Tryz.underlying67 rfl ?h2) rfl ⟨by rw [HNE.out, HNN.out, HNS.out]; rfl, ?h3⟩
      case h1 => exact World.rangeAt_setCells_same _ _ _ _ HR4.out
      case h2 => exact sizeM
      case h3 => exact below_setCells (bd HB4.out) (by omega) _
    · have HGT : Hid (decide ((x : Int) < (y : Int)) = false) := Lib.hid (decide_eq_false (by omega))
      rw [if_neg hlt] at HNN HNS
      clear k0 hlt
      refine wp_region_lit ?_
      refine ag rfl (ah rfl (ev rfl)) ?_
      simp only [Act.put, aa, ae, af]
      refine ag rfl (ah rfl (ev rfl)) ?_
      simp only [Act.put, aa, ae, af]
      refine ag (v := .bool false) rfl (cY false rfl (ev rfl) (ev rfl) HGT.out) ?_
      simp only [Act.put, aa, ae, af]
      refine ag (v := .bool false) rfl (aq rfl (ev rfl)) ?_
      simp only [Act.put, aa, ae, af]
      refine wpList_nil ?_
      go_wp2_with fail
      refine wp_region_still_tail 3 (by kernel_rfl) (by kernel_rfl) ?_
      simp only [List.take_succ_cons, List.take_zero, List.drop_succ_cons, List.drop_zero]
      refine aw rfl (ah rfl (ev rfl)) ?_
      simp only [Act.put, aa, ae, af]
      refine aw rfl (bC (c := p) rfl (ev rfl) HPR.out) ?_
      simp only [Act.put, aa, ae, af]
      refine aw rfl (aq rfl (ev rfl)) ?_
      simp only [Act.put, aa, ae, af]
      refine wpStill_nil ?_
      change wpList _ _ _ _ _ (World.drew _)
      refine aF rfl (cQ (c := p) rfl (ev rfl) (ev rfl) HR4.out) ?_
      simp only [Act.put, aa, ae, af]
      refine ai rfl (aq rfl evk) ?_
      simp only [Act.put, aa, ae, af]
      refine wpList_nil ?_
      go_wp2_with fail
      refine bodyPost_ret (eS (t := 67) (cs := bk p) rfl _ _ _ rfl ?h1 Tryz.underlying67 rfl ?h2) rfl ⟨by rw [HNE.out, HNN.out, HNS.out]; rfl, ?h3⟩
      case h1 => exact World.rangeAt_setCells_same _ _ _ _ HR4.out
      case h2 => exact sizeM
      case h3 => exact below_setCells (bd HB4.out) (by omega) _
theorem share {α β : Type} {F : α → β → Prop} {G : Prop} {T : α → β → Prop} (k : (∀ a b, F a b → T a b) → G) (h : ∀ a b, F a b → T a b) : G := k h
theorem run_max3U (w : World) (ts : Array TypeId) (ty : TypeId) (a b c : Nat) : (Builtin.max_ ts ty #[.int .u64 (a : Int), .int .u64 (b : Int), .int .u64 (c : Int)]).run Tryz.prog w = .ok (.int .u64 ((max (max a b) c : Nat) : Int)) w := by
  have e1 : (if (b : Int) > (a : Int) then (b : Int) else (a : Int)) = ((max a b : Nat) : Int) := by split <;> omega
  have e2 : (if (c : Int) > ((max a b : Nat) : Int) then (c : Int) else ((max a b : Nat) : Int)) = ((max (max a b) c : Nat) : Int) := by split <;> omega
  simp [Builtin.max_, Builtin.max2]
  clear e1 e2
  by_cases h1 : a < b
  · simp only [if_pos h1]
    split <;> omega
  · simp only [if_neg h1]
    split <;> omega
theorem exec_max3 {o : Oper} {ac : Act} {x y z : Operand} {w : World} {a b c : Nat} {ts : Array TypeId} (ho : o.op = .call { callee := .builtin .max, args := #[x, y, z], argTypes := ts }) (hx : ac.eval x = .int .u64 (a : Int)) (hy : ac.eval y = .int .u64 (b : Int)) (hz : ac.eval z = .int .u64 (c : Int)) : (execOp ac.eval o).run Tryz.prog w = .ok (.value (.int .u64 ((max (max a b) c : Nat) : Int))) w := by
  have hrun := run_max3U w ts o.type a b c
  simp [execOp, ho, resolve, invoke, builtin, hx, hy, hz, hrun, Result.andThen]
theorem cU.set {w : World} {b : Nat} {x : Blk} (h : cU w b x) (c : Blk) : cU (w.setCells b 0 (cel c)) b c := by
  have := heap_put b 65 [] (cel c) (cel x) [] w (by rw [ax, ax]) (by rw [List.nil_append, List.append_nil]; exact h)
  rw [List.nil_append, List.append_nil] at this
  exact this
theorem PJ.room {w0 w : World} {H K : Nat → Prop} {p q : Nat} {v : Value} {M : BenS} {x : LgS} (d : Int) (h : PJ w0 H K w p q v M x) : Calls Tryz.prog 71 #[.pointer (some ⟨q, 0, none⟩), .int .i64 d] w fun e w' => e = .returned (.int .i64 (ca M d - 10)) ∧ Below w.heap.size w w' := by
  obtain ⟨G, h1, _⟩ := h
  exact proom d h1
def rmE (M : BenS) (d : Int) : Int := if bX M d 0 = 0 then (if opnF M d = true then 0 else 5) else bX M d 0
def RmPost (w : World) (p q : Nat) (M : BenS) (d : Int) (e : Ending) (w' : World) : Prop :=
  e = .returned (.int .i64 (rmE M d)) ∧ Only (fun b => b = p) w w' ∧ (rmE M d = 0 → PLg w' p q (.slice none 0 0) (opnX M d))
theorem RmPost.err {w w' : World} {p q : Nat} {M : BenS} {d E : Int} {e : Ending} (hE : rmE M d = E) (h0 : E ≠ 0) (ho : Only (fun b => b = p) w w') (he : e = .returned (.int .i64 E)) : RmPost w p q M d e w' :=
  ⟨by rw [hE]; exact he, ho, fun h => absurd (hE.symm.trans h) h0⟩
theorem rd_two {M : BenS} {d : Nat} (h1 : dx M (d : Int) = 0) (h2 : 50 ≤ ca M (d : Int)) {m n : Int} (hm : 0 ≤ m ∧ m < 50) (hn : 0 ≤ n ∧ n < 50) : bX M (d : Int) m = bX M (d : Int) n := by
  unfold ca at h2
  rw [if_pos h1, dev_getD, Int.toNat_natCast] at h2
  exact rd_same ⟨hm.1, by omega⟩ ⟨hn.1, by omega⟩
theorem new_mark {M : BenS} {d : Nat} (h : aR.nE (cC M (d : Int) 0) (cC M (d : Int) 1) = 0) : (dp M (d : Int)).m = (opnX M (d : Int)).mark ∧ 40 ≤ (dp M (d : Int)).m.ring := by
  have hm : aR.may (dp M (d : Int)) = true := by
    unfold dp Cod.nX
    unfold Cod.nE at h
    split
    · rename_i hlt
      have : aR.gE (cC M (d : Int) 1) = 0 := by
        by_cases e : aR.gE (cC M (d : Int) 1) = 0
        · exact e
        · have := aR.gN_no e; omega
      exact aR.gX_may this
    · rename_i hlt
      have : aR.gE (cC M (d : Int) 0) = 0 := by
        by_cases e : aR.gE (cC M (d : Int) 0) = 0
        · exact e
        · have h0 := aR.gN_no e
          rw [if_pos ⟨h0, by omega⟩] at h
          omega
      exact aR.gX_may this
  unfold opnX LgS.mark
  obtain ⟨⟨n, m⟩, hy⟩ : ∃ y, dp M (d : Int) = y := ⟨_, rfl⟩
  rw [hy] at hm ⊢
  rw [eB, Bool.and_eq_true] at hm
  obtain ⟨_, r1, _⟩ := of_mrkB hm.2
  obtain ⟨i, r, f, a⟩ := m
  simp only at r1 ⊢
  exact ⟨by rw [Int.toNat_of_nonneg (by omega)], r1⟩
theorem rmE_no {M : BenS} {d : Int} (h : bX M d 0 = 0) (h2 : ¬ opnF M d = true) : rmE M d = 5 := (if_pos h).trans (if_neg h2)
theorem rmE_yes {M : BenS} {d : Int} (h : bX M d 0 = 0) (h2 : opnF M d = true) : rmE M d = 0 := (if_pos h).trans (if_pos h2)
set_option maxHeartbeats 4000000 in
theorem plreadMark {w0 w : World} {H K : Nat → Prop} {p q : Nat} {M : BenS} {x : LgS} (h : PJ w0 H K w p q (.slice none 0 0) M x) (hx : x.nts = []) (h1 : dx M (x.d : Int) = 0) (h2 : 50 ≤ ca M (x.d : Int)) : Calls Tryz.prog 72 #[.pointer (some ⟨p, 0, none⟩)] w (RmPost w p q M (x.d : Int)) := by
  have HJR : Hid (∀ w', Below w.heap.size w w' → PJ w0 H K w' p q (.slice none 0 0) M x) := Lib.hid fun w' hb => h.below hb
  have HLR := Lib.hid h.log
  have HNX := Lib.hid hx
  have HHS := Lib.hid h1
  have HSE := Lib.hid h2
  obtain ⟨a, ha⟩ : ∃ a, cC M (x.d : Int) 0 = a := ⟨_, rfl⟩
  obtain ⟨b, hb⟩ : ∃ b, cC M (x.d : Int) 1 = b := ⟨_, rfl⟩
  obtain ⟨E, hE⟩ : ∃ E, bX M (x.d : Int) 0 = E := ⟨_, rfl⟩
  obtain ⟨y, hy⟩ : ∃ y, aR.nX a b = y := ⟨_, rfl⟩
  have HRC := Lib.hid ha
  have HRC0 := HRC
  have HRC1 := Lib.hid hb
  have HRE := Lib.hid hE
  have HNY := Lib.hid hy
  clear h hx h1 h2 ha hb hE hy
  go_enter Tryz.func72, Tryz.ntmps72
  go_upto_region 1 with fail
  apply share (α := Nat) (β := World) (F := fun bv wv => Below w.heap.size w wv ∧ cU wv bv a ∧ w.heap.size ≤ bv)
  · intro tail_
    refine wp_region_held (S := fun w' => Below w.heap.size w w') (by kernel_rfl) ?_
    change wpAnyH _ _ _ _ _ 15 _ _ w.drew
    have HS0 := Lib.hid (bd (Below.refl w.heap.size w))
    refine aD 0 rfl (by kernel_rfl) (by kernel_rfl) (by kernel_rfl) rfl (fun w' hw => ah rfl (ev rfl)) (fun _ _ _ h => h) HS0.out ?_
    simp only [Act.put, aa, ae, af]
    refine aD 1 rfl (by kernel_rfl) (by kernel_rfl) (by kernel_rfl) rfl (fun w' hw => az rfl (ev rfl)) (fun _ _ _ h => h) HS0.out ?_
    simp only [Act.put, aa, ae, af]
    refine aD 2 rfl (by kernel_rfl) (by kernel_rfl) (by kernel_rfl) rfl (fun w' hw => ak rfl (ev rfl) faQl0) (fun _ _ _ h => h) HS0.out ?_
    simp only [Act.put, aa, ae, af]
    refine aD 3 rfl (by kernel_rfl) (by kernel_rfl) (by kernel_rfl) rfl (fun w' hw => av rfl (ev rfl) (ldQp (PLg.c0 (HLR.out.below hw)))) (fun _ _ _ h => h) HS0.out ?_
    simp only [Act.put, aa, ae, af]
    refine aD 4 rfl (by kernel_rfl) (by kernel_rfl) (by kernel_rfl) rfl (fun w' hw => ah rfl (ev rfl)) (fun _ _ _ h => h) HS0.out ?_
    simp only [Act.put, aa, ae, af]
    refine aD 5 rfl (by kernel_rfl) (by kernel_rfl) (by kernel_rfl) rfl (fun w' hw => az rfl (ev rfl)) (fun _ _ _ h => h) HS0.out ?_
    simp only [Act.put, aa, ae, af]
    refine aD 6 rfl (by kernel_rfl) (by kernel_rfl) (by kernel_rfl) rfl (fun w' hw => ak rfl (ev rfl) faQl1) (fun _ _ _ h => h) HS0.out ?_
    simp only [Act.put, aa, ae, af]
    refine aD 7 rfl (by kernel_rfl) (by kernel_rfl) (by kernel_rfl) rfl (fun w' hw => av rfl (ev rfl) (bW (PLg.c1 (HLR.out.below hw)))) (fun _ _ _ h => h) HS0.out ?_
    simp only [Act.put, aa, ae, af]
    refine held_two 8 12 (by kernel_rfl) ?_ ?_
    · refine dV 8 rfl rfl (au Tryz.call133 rfl (evc (ev rfl) (evc (ev rfl) (evc evk evn)))) ?_
      refine (PJ.read (x.d : Int) 0 (HJR.out _ (bd (Below.refl _ _)))).mono ?_
      rintro e w5 ⟨rfl, hb5⟩
      rw [HRC.out, HRE.out]
      have HS1 := Lib.hid (HS0.out.trans (hb5.mono HS0.out.size))
      clear hb5
      refine ⟨_, rfl, HS1.out, ?_⟩
      simp only [Act.put, aa, ae, af]
      refine aD 9 rfl (by kernel_rfl) (by kernel_rfl) (by kernel_rfl) rfl (fun w' hw => ah rfl (ev rfl)) (fun _ _ _ h => h) HS1.out ?_
      simp only [Act.put, aa, ae, af]
      refine aD 10 rfl (by kernel_rfl) (by kernel_rfl) (by kernel_rfl) rfl (fun w' hw => aC rfl (ev rfl) rfl) (fun _ _ _ h => h) HS1.out ?_
      simp only [Act.put, aa, ae, af]
      refine aD 11 rfl (by kernel_rfl) (by kernel_rfl) (by kernel_rfl) rfl (fun w' hw => aC rfl (ev rfl) rfl) (fun _ _ _ h => h) HS1.out ?_
      simp only [Act.put, aa, ae, af]
      refine dH 12 (by kernel_rfl) (op_val 12 rfl rfl (aK rfl) ⟨HS1.out.alloc HS1.out.size _, ?_⟩)
      simp only [Act.put, aa, ae, af]
      have HS2 := Lib.hid (HS1.out.alloc HS1.out.size (.cells (cel a).toArray 65))
      refine eY 13 rfl (by kernel_rfl) rfl (fF (c := a) rfl (ev rfl) (ev rfl)) HS2.out ?_
      simp only [Act.put]
      refine aD 14 rfl (by kernel_rfl) (by kernel_rfl) (by kernel_rfl) rfl (fun w' hw => aq rfl (ev rfl)) (fun _ _ _ h => h) HS2.out ?_
      simp only [Act.put, aa, ae, af]
      refine wpAnyH_done (by kernel_rfl) ?_ _
      have hb : cU (w5.alloc (.cells (cel a).toArray 65)) w5.heap.size a := heap_alloc_new w5 _
      have hz : w.heap.size ≤ w5.heap.size := HS1.out.size
      have hs2 := HS2.out
      generalize w5.alloc (.cells (cel a).toArray 65) = wq at *
      generalize w5.heap.size = bq at *
      exact tail_ bq wq ⟨hs2, hb, hz⟩
    · refine op_val 12 rfl rfl (aK rfl) ⟨HS0.out.alloc HS0.out.size _, ?_⟩
      simp only [Act.put, aa, ae, af]
      have HS1 := Lib.hid (HS0.out.alloc HS0.out.size (.cells (cel al).toArray 65))
      have HTH := Lib.hid (show cU (w.drew.alloc (.cells (cel al).toArray 65)) w.heap.size al from heap_alloc_new w.drew _)
      have HZ1 : Hid (w.heap.size < (w.drew.alloc (.cells (cel al).toArray 65)).heap.size) := Lib.hid (by rw [World.size_alloc]; exact Nat.lt_succ_self _)
      rw [show w.drew.heap.size = w.heap.size from rfl]
      have HJ1 := Lib.hid (HJR.out _ HS1.out)
      generalize w.drew.alloc (.cells (cel al).toArray 65) = w4 at *
      refine dH 8 (by kernel_rfl) (dV 8 rfl rfl (au Tryz.call133 rfl (evc (ev rfl) (evc (ev rfl) (evc evk evn)))) ?_)
      refine (PJ.read (x.d : Int) 0 HJ1.out).mono ?_
      rintro e w5 ⟨rfl, hb5⟩
      rw [HRC.out, HRE.out]
      have HS3 := Lib.hid (HS1.out.trans (hb5.mono HS1.out.size))
      have HB5 : Hid (cU w5 w.heap.size al) := Lib.hid ((hb5.block _ HZ1.out).trans HTH.out)
      clear hb5
      refine ⟨_, rfl, HS3.out, ?_⟩
      simp only [Act.put, aa, ae, af]
      refine aD 9 rfl (by kernel_rfl) (by kernel_rfl) (by kernel_rfl) rfl (fun w' hw => ah rfl (ev rfl)) (fun _ _ _ h => h) HS3.out ?_
      simp only [Act.put, aa, ae, af]
      refine aD 10 rfl (by kernel_rfl) (by kernel_rfl) (by kernel_rfl) rfl (fun w' hw => aC rfl (ev rfl) rfl) (fun _ _ _ h => h) HS3.out ?_
      simp only [Act.put, aa, ae, af]
      refine aD 11 rfl (by kernel_rfl) (by kernel_rfl) (by kernel_rfl) rfl (fun w' hw => aC rfl (ev rfl) rfl) (fun _ _ _ h => h) HS3.out ?_
      simp only [Act.put, aa, ae, af]
      have HS2 := Lib.hid (below_setCells (b := w.heap.size) (o := 0) HS3.out (Nat.le_refl _) (cel a))
      refine eY 13 rfl (by kernel_rfl) rfl (aH (c := a) rfl (ev rfl) (ev rfl) (dI (o := 0) (n := 64) HB5.out (by show 64 ≤ (cel al).toArray.size; simp [ax]))) HS2.out ?_
      simp only [Act.put]
      refine aD 14 rfl (by kernel_rfl) (by kernel_rfl) (by kernel_rfl) rfl (fun w' hw => aq rfl (ev rfl)) (fun _ _ _ h => h) HS2.out ?_
      simp only [Act.put, aa, ae, af]
      refine wpAnyH_done (by kernel_rfl) ?_ _
      have hb : cU (w5.setCells w.heap.size 0 (cel a)) w.heap.size a := HB5.out.set a
      have hz : w.heap.size ≤ w.heap.size := Nat.le_refl _
      have hs2 := HS2.out
      generalize w5.setCells w.heap.size 0 (cel a) = wq at *
      exact tail_ _ wq ⟨hs2, hb, hz⟩
  · intro bb wz hf
    obtain ⟨hb1, hbk1, hz1⟩ := hf
    have HB1 := Lib.hid hb1
    have HK1 := Lib.hid hbk1
    have HL1 : Hid (bb < wz.heap.size) := Lib.hid (aV hbk1)
    clear hb1 hbk1 hz1
    by_cases h0 : E = 0
    rotate_left 1
    · have hne : (E != 0) = true := by simpa using h0
      have HE : Hid (rmE M (x.d : Int) = E) := Lib.hid ((if_neg (by rw [HRE.out]; exact h0)).trans HRE.out)
      go_wp2_with fail
      go_ret
      exact RmPost.err HE.out h0 (Only.of_below _ HB1.out) rfl
    have hne : (E != 0) = false := by simp [h0]
    subst h0
    clear hne
    have HJR0 := HJR
    have HRE0 := HRE
    obtain ⟨w1, hw1⟩ : ∃ w', wz = w' := ⟨_, rfl⟩
    obtain ⟨b1, hbb⟩ : ∃ b', bb = b' := ⟨_, rfl⟩
    subst hw1 hbb
    have HJR : Hid (∀ w', Below wz.heap.size wz w' → PJ w0 H K w' p q (.slice none 0 0) M x) := Lib.hid fun w' hb => HJR0.out w' (HB1.out.trans (hb.mono HB1.out.size))
    have HLR := Lib.hid (HLR.out.below HB1.out)
    have HRC := HRC1
    have HRE : Hid (bX M (x.d : Int) 1 = 0) := Lib.hid ((rd_two HHS.out HSE.out (by omega) (by omega)).trans HRE0.out)
    go_upto_region 4 with fail
    apply share (α := Nat) (β := World) (F := fun bv wv => Below wz.heap.size wz wv ∧ cU wv bv b ∧ wz.heap.size ≤ bv)
    · intro tail_
      refine wp_region_held (S := fun w' => Below wz.heap.size wz w') (by kernel_rfl) ?_
      change wpAnyH _ _ _ _ _ 15 _ _ wz.drew
      have HS0 := Lib.hid (bd (Below.refl wz.heap.size wz))
      refine aD 0 rfl (by kernel_rfl) (by kernel_rfl) (by kernel_rfl) rfl (fun w' hw => ah rfl (ev rfl)) (fun _ _ _ h => h) HS0.out ?_
      simp only [Act.put, aa, ae, af]
      refine aD 1 rfl (by kernel_rfl) (by kernel_rfl) (by kernel_rfl) rfl (fun w' hw => az rfl (ev rfl)) (fun _ _ _ h => h) HS0.out ?_
      simp only [Act.put, aa, ae, af]
      refine aD 2 rfl (by kernel_rfl) (by kernel_rfl) (by kernel_rfl) rfl (fun w' hw => ak rfl (ev rfl) faQl0) (fun _ _ _ h => h) HS0.out ?_
      simp only [Act.put, aa, ae, af]
      refine aD 3 rfl (by kernel_rfl) (by kernel_rfl) (by kernel_rfl) rfl (fun w' hw => av rfl (ev rfl) (ldQp (PLg.c0 (HLR.out.below hw)))) (fun _ _ _ h => h) HS0.out ?_
      simp only [Act.put, aa, ae, af]
      refine aD 4 rfl (by kernel_rfl) (by kernel_rfl) (by kernel_rfl) rfl (fun w' hw => ah rfl (ev rfl)) (fun _ _ _ h => h) HS0.out ?_
      simp only [Act.put, aa, ae, af]
      refine aD 5 rfl (by kernel_rfl) (by kernel_rfl) (by kernel_rfl) rfl (fun w' hw => az rfl (ev rfl)) (fun _ _ _ h => h) HS0.out ?_
      simp only [Act.put, aa, ae, af]
      refine aD 6 rfl (by kernel_rfl) (by kernel_rfl) (by kernel_rfl) rfl (fun w' hw => ak rfl (ev rfl) faQl1) (fun _ _ _ h => h) HS0.out ?_
      simp only [Act.put, aa, ae, af]
      refine aD 7 rfl (by kernel_rfl) (by kernel_rfl) (by kernel_rfl) rfl (fun w' hw => av rfl (ev rfl) (bW (PLg.c1 (HLR.out.below hw)))) (fun _ _ _ h => h) HS0.out ?_
      simp only [Act.put, aa, ae, af]
      refine held_two 8 12 (by kernel_rfl) ?_ ?_
      · refine dV 8 rfl rfl (au Tryz.call133 rfl (evc (ev rfl) (evc (ev rfl) (evc evk evn)))) ?_
        refine (PJ.read (x.d : Int) 1 (HJR.out _ (bd (Below.refl _ _)))).mono ?_
        rintro e w5 ⟨rfl, hb5⟩
        rw [HRC.out, HRE.out]
        have HS1 := Lib.hid (HS0.out.trans (hb5.mono HS0.out.size))
        clear hb5
        refine ⟨_, rfl, HS1.out, ?_⟩
        simp only [Act.put, aa, ae, af]
        refine aD 9 rfl (by kernel_rfl) (by kernel_rfl) (by kernel_rfl) rfl (fun w' hw => ah rfl (ev rfl)) (fun _ _ _ h => h) HS1.out ?_
        simp only [Act.put, aa, ae, af]
        refine aD 10 rfl (by kernel_rfl) (by kernel_rfl) (by kernel_rfl) rfl (fun w' hw => aC rfl (ev rfl) rfl) (fun _ _ _ h => h) HS1.out ?_
        simp only [Act.put, aa, ae, af]
        refine aD 11 rfl (by kernel_rfl) (by kernel_rfl) (by kernel_rfl) rfl (fun w' hw => aC rfl (ev rfl) rfl) (fun _ _ _ h => h) HS1.out ?_
        simp only [Act.put, aa, ae, af]
        refine dH 12 (by kernel_rfl) (op_val 12 rfl rfl (aK rfl) ⟨HS1.out.alloc HS1.out.size _, ?_⟩)
        simp only [Act.put, aa, ae, af]
        have HS2 := Lib.hid (HS1.out.alloc HS1.out.size (.cells (cel b).toArray 65))
        refine eY 13 rfl (by kernel_rfl) rfl (fF (c := b) rfl (ev rfl) (ev rfl)) HS2.out ?_
        simp only [Act.put]
        refine aD 14 rfl (by kernel_rfl) (by kernel_rfl) (by kernel_rfl) rfl (fun w' hw => aq rfl (ev rfl)) (fun _ _ _ h => h) HS2.out ?_
        simp only [Act.put, aa, ae, af]
        refine wpAnyH_done (by kernel_rfl) ?_ _
        have hb : cU (w5.alloc (.cells (cel b).toArray 65)) w5.heap.size b := heap_alloc_new w5 _
        have hz : wz.heap.size ≤ w5.heap.size := HS1.out.size
        have hs2 := HS2.out
        generalize w5.alloc (.cells (cel b).toArray 65) = wq at *
        generalize w5.heap.size = bq at *
        exact tail_ bq wq ⟨hs2, hb, hz⟩
      · refine op_val 12 rfl rfl (aK rfl) ⟨HS0.out.alloc HS0.out.size _, ?_⟩
        simp only [Act.put, aa, ae, af]
        have HS1 := Lib.hid (HS0.out.alloc HS0.out.size (.cells (cel al).toArray 65))
        have HTH := Lib.hid (show cU (wz.drew.alloc (.cells (cel al).toArray 65)) wz.heap.size al from heap_alloc_new wz.drew _)
        have HZ1 : Hid (wz.heap.size < (wz.drew.alloc (.cells (cel al).toArray 65)).heap.size) := Lib.hid (by rw [World.size_alloc]; exact Nat.lt_succ_self _)
        rw [show wz.drew.heap.size = wz.heap.size from rfl]
        have HJ1 := Lib.hid (HJR.out _ HS1.out)
        generalize wz.drew.alloc (.cells (cel al).toArray 65) = w4 at *
        refine dH 8 (by kernel_rfl) (dV 8 rfl rfl (au Tryz.call133 rfl (evc (ev rfl) (evc (ev rfl) (evc evk evn)))) ?_)
        refine (PJ.read (x.d : Int) 1 HJ1.out).mono ?_
        rintro e w5 ⟨rfl, hb5⟩
        rw [HRC.out, HRE.out]
        have HS3 := Lib.hid (HS1.out.trans (hb5.mono HS1.out.size))
        have HB5 : Hid (cU w5 wz.heap.size al) := Lib.hid ((hb5.block _ HZ1.out).trans HTH.out)
        clear hb5
        refine ⟨_, rfl, HS3.out, ?_⟩
        simp only [Act.put, aa, ae, af]
        refine aD 9 rfl (by kernel_rfl) (by kernel_rfl) (by kernel_rfl) rfl (fun w' hw => ah rfl (ev rfl)) (fun _ _ _ h => h) HS3.out ?_
        simp only [Act.put, aa, ae, af]
        refine aD 10 rfl (by kernel_rfl) (by kernel_rfl) (by kernel_rfl) rfl (fun w' hw => aC rfl (ev rfl) rfl) (fun _ _ _ h => h) HS3.out ?_
        simp only [Act.put, aa, ae, af]
        refine aD 11 rfl (by kernel_rfl) (by kernel_rfl) (by kernel_rfl) rfl (fun w' hw => aC rfl (ev rfl) rfl) (fun _ _ _ h => h) HS3.out ?_
        simp only [Act.put, aa, ae, af]
        have HS2 := Lib.hid (below_setCells (b := wz.heap.size) (o := 0) HS3.out (Nat.le_refl _) (cel b))
        refine eY 13 rfl (by kernel_rfl) rfl (aH (c := b) rfl (ev rfl) (ev rfl) (dI (o := 0) (n := 64) HB5.out (by show 64 ≤ (cel al).toArray.size; simp [ax]))) HS2.out ?_
        simp only [Act.put]
        refine aD 14 rfl (by kernel_rfl) (by kernel_rfl) (by kernel_rfl) rfl (fun w' hw => aq rfl (ev rfl)) (fun _ _ _ h => h) HS2.out ?_
        simp only [Act.put, aa, ae, af]
        refine wpAnyH_done (by kernel_rfl) ?_ _
        have hb : cU (w5.setCells wz.heap.size 0 (cel b)) wz.heap.size b := HB5.out.set b
        have hz : wz.heap.size ≤ wz.heap.size := Nat.le_refl _
        have hs2 := HS2.out
        generalize w5.setCells wz.heap.size 0 (cel b) = wq at *
        exact tail_ _ wq ⟨hs2, hb, hz⟩
    · intro bb2 wy hf
      obtain ⟨hb2, hbk2, hz2⟩ := hf
      have HB2 := Lib.hid (HB1.out.trans (hb2.mono HB1.out.size))
      have HK2 := Lib.hid hbk2
      have HKA : Hid (cU wy bb a) := Lib.hid ((hb2.block bb HL1.out).trans HK1.out)
      have HJ2 := Lib.hid (HJR.out wy hb2)
      clear hb2 hbk2 hz2 HK1 HL1 HB1 HJR HJR0 HLR
      go_upto_region 7 with fail
      refine wp_region_lit ?_
      refine ag rfl (ah rfl (ev rfl)) ?_
      simp only [Act.put, aa, ae, af]
      refine ag rfl (ah rfl (ev rfl)) ?_
      simp only [Act.put, aa, ae, af]
      refine ag rfl (aJ (c := a) rfl (ev rfl) HKA.out.range) ?_
      simp only [Act.put, aa, ae, af]
      refine ag rfl (aJ (c := b) rfl (ev rfl) HK2.out.range) ?_
      simp only [Act.put, aa, ae, af]
      refine ao rfl (au Tryz.call134 rfl (evc (ev rfl) (evc (ev rfl) evn))) ?_
      refine (pmnew a b wy HJ2.out.tab.m).mono ?_
      rintro e w3 ⟨rfl, hb3⟩
      rw [HNY.out]
      have HJ3 := Lib.hid (HJ2.out.below hb3)
      have HB3 := Lib.hid (HB2.out.trans (hb3.mono HB2.out.size))
      have HPL := Lib.hid HJ3.out.log
      clear hb3 HJ2 HKA HK2 HB2
      refine ⟨_, rfl, ?_⟩
      simp only [Act.put, aa, ae, af]
      refine ag rfl (ah rfl (ev rfl)) ?_
      simp only [Act.put, aa, ae, af]
      refine ag rfl (aC rfl (ev rfl) rfl) ?_
      simp only [Act.put, aa, ae, af]
      refine ag rfl (aC rfl (ev rfl) rfl) ?_
      simp only [Act.put, aa, ae, af]
      refine ag rfl (aC rfl (ev rfl) rfl) ?_
      simp only [Act.put, aa, ae, af]
      refine ag rfl (az rfl (ev rfl)) ?_
      simp only [Act.put, aa, ae, af]
      refine ag rfl (ak rfl (ev rfl) faQl2) ?_
      simp only [Act.put, aa, ae, af]
      refine aB rfl (exec_stU rfl (ev rfl) (ev rfl) HPL.out.c2 (HPL.out.free_ 2)) ?_
      simp only [Act.put, aa, ae, af]
      refine ag rfl (az rfl (ev rfl)) ?_
      simp only [Act.put, aa, ae, af]
      refine ag rfl (ak rfl (ev rfl) dG) ?_
      simp only [Act.put, aa, ae, af]
      refine aB rfl (cQ (c := y.m) rfl (ev rfl) (ev rfl) (dI (o := 3) (n := 4) (heap_setCell_same w3 p 2 _ _ (.int .u64 (y.n : Int)) HPL.out.at_) (by show 7 ≤ 8; omega))) ?_
      simp only [Act.put, aa, ae, af]
      refine ag rfl (aq rfl (ev rfl)) ?_
      simp only [Act.put, aa, ae, af]
      refine wpList_nil ?_
      have HPO := Lib.hid (HPL.out.to.setm (c := y.n) (m := y.m))
      have HON := Lib.hid ((dR w3 p 2 (.int .u64 (y.n : Int))).trans (eN _ p 3 (bk y.m)) fun _ e => .inl e)
      generalize (w3.setCell ⟨p, 2, none⟩ (.int .u64 (y.n : Int))).setCells p 3 (bk y.m) = w4 at *
      have HO4 := Lib.hid ((Only.of_below (fun b => b = p) HB3.out).trans HON.out fun _ e => .inl e)
      obtain ⟨F, hF⟩ : ∃ F : Nat, aR.nE a b = F := ⟨_, rfl⟩
      rw [hF]
      have HNE := Lib.hid hF
      clear hF
      by_cases hf0 : F = 0
      rotate_left 1
      · have HC : Hid (((F : Int) != 0) = true) := Lib.hid (by simp; omega)
        have HE : Hid (rmE M (x.d : Int) = 5) := Lib.hid (rmE_no HRE0.out fun e => by
          obtain ⟨e1, _⟩ := of_decide_eq_true e
          rw [HRC0.out, HRC1.out, HNE.out] at e1
          exact hf0 (by omega))
        clear hf0
        go_upto_region 8 with fail
        refine aE (B := w4.heap.size) (by kernel_rfl) ?_
        refine am rfl (fun w' hw => ah rfl (ev rfl)) ?_
        simp only [Act.put, aa, ae, af]
        refine am (v := .bool true) rfl (fun w' hw => aP true rfl (ev rfl) evk HC.out) ?_
        simp only [Act.put, aa, ae, af]
        refine fp 15 (v := .bool true) rfl (fun w' hw => ah rfl (ev rfl)) (by kernel_rfl) ?_
        simp only [bc, List.take_succ_cons, List.take_zero, List.drop_succ_cons, List.drop_zero, Act.put, List.setIfInBounds_toArray, List.set_cons_succ, List.set_cons_zero]
        refine am (v := .bool true) rfl (fun w' hw => aM rfl (ev rfl) evk) ?_
        simp only [Act.put, aa, ae, af]
        refine wpQuiet_nil ?_
        intro w5 hw
        go_wp2_with fail
        go_ret
        exact RmPost.err HE.out (by decide) (HO4.out.cJ hw) rfl
      have HC : Hid (((F : Int) != 0) = false) := Lib.hid (by rw [hf0]; rfl)
      obtain ⟨hm1, hm2⟩ := new_mark (M := M) (d := x.d) (by rw [HRC0.out, HRC1.out, HNE.out]; exact hf0)
      have hyy : dp M (x.d : Int) = y := by unfold dp; rw [HRC0.out, HRC1.out]; exact HNY.out
      rw [hyy] at hm1 hm2
      have HX1 : Hid (PLg w4 p q (.slice none 0 0) (opnX M (x.d : Int))) := Lib.hid (by
        have e : PLo w4 p q (.slice none 0 0) (opnX M (x.d : Int)).d (opnX M (x.d : Int)).cnt (opnX M (x.d : Int)).mark (opnX M (x.d : Int)).nts := by
          rw [← hm1]
          show PLo w4 p q (.slice none 0 0) (x.d : Int).toNat (dp M (x.d : Int)).n y.m []
          rw [hyy, Int.toNat_natCast, ← HNX.out]
          exact HPO.out
        exact e.to)
      have HJ4 := Lib.hid (HJ3.out.grow (HON.out.wide fun b e => .inl e) HX1.out fun b e => .inl e)
      have HL4 := HX1
      have HXD : Hid ((opnX M (x.d : Int)).d = x.d) := Lib.hid (Int.toNat_natCast _)
      have HXS : Hid (((opnX M (x.d : Int)).size : Int) = y.m.ring ∧ (opnX M (x.d : Int)).cnt = y.n ∧ (opnX M (x.d : Int)).fst = y.m.first ∧ (opnX M (x.d : Int)).pos = y.m.pos) := Lib.hid (by
        show (((dp M (x.d : Int)).m.ring.toNat : Nat) : Int) = y.m.ring ∧ (dp M (x.d : Int)).n = y.n ∧ (dp M (x.d : Int)).m.first = y.m.first ∧ (dp M (x.d : Int)).m.pos = y.m.pos
        rw [hyy]
        exact ⟨Int.toNat_of_nonneg (by omega), rfl, rfl, rfl⟩)
      have HFF : Hid (opnF M (x.d : Int) = decide (y.m.ring ≤ ca M (x.d : Int) - 10 ∧ y.n ≤ 2305843009213693952 ∧ y.m.first ≤ 2305843009213693952 ∧ y.m.pos ≤ 2305843009213693952)) := Lib.hid (by
        unfold opnF
        rw [HRC0.out, HRC1.out, HNE.out, hf0, hyy]
        simp)
      clear hf0 hm1 hm2 HPO HJ3 HPL
      obtain ⟨x1, hx1⟩ : ∃ x1, opnX M (x.d : Int) = x1 := ⟨_, rfl⟩
      have HX1E := Lib.hid hx1
      rw [hx1] at HX1 HJ4 HL4 HXD HXS
      clear hx1 hyy
      by_cases hr : ca M (x.d : Int) - 10 < y.m.ring
      · have HG : Hid (decide (ca M (x.d : Int) - 10 < (x1.size : Int)) = true) := Lib.hid (by rw [HXS.out.1]; exact decide_eq_true hr)
        have HE : Hid (rmE M (x.d : Int) = 5) := Lib.hid (rmE_no HRE0.out fun e => by rw [HFF.out] at e; have := (of_decide_eq_true e).1; omega)
        rw [← HXD.out] at HG HE
        clear hr
        go_upto_region 8 with fail
        refine aE (B := w4.heap.size) (by kernel_rfl) ?_
        refine am rfl (fun w' hw => ah rfl (ev rfl)) ?_
        simp only [Act.put, aa, ae, af]
        refine am (v := .bool false) rfl (fun w' hw => aP false rfl (ev rfl) evk HC.out) ?_
        simp only [Act.put, aa, ae, af]
        refine am (v := .bool false) rfl (fun w' hw => ah rfl (ev rfl)) ?_
        simp only [Act.put, aa, ae, af]
        refine am (aj rfl rfl rfl rfl) (fun w' hw => ah rfl (ev rfl)) ?_
        simp only [Act.put, aa, ae, af]
        refine am (aj rfl rfl rfl rfl) (fun w' hw => az rfl (ev rfl)) ?_
        simp only [Act.put, aa, ae, af]
        refine am (aj rfl rfl rfl rfl) (fun w' hw => ak rfl (ev rfl) dG) ?_
        simp only [Act.put, aa, ae, af]
        refine am (aj rfl rfl rfl rfl) (fun w' hw => ak rfl (ev rfl) faQm1) ?_
        simp only [Act.put, aa, ae, af]
        refine am (aj rfl rfl rfl rfl) (fun w' hw => av rfl (ev rfl) (bW (PLg.c4 (HL4.out.below hw)))) ?_
        simp only [Act.put, aa, ae, af]
        refine am (aj rfl rfl rfl rfl) (fun w' hw => ah rfl (ev rfl)) ?_
        simp only [Act.put, aa, ae, af]
        refine am (aj rfl rfl rfl rfl) (fun w' hw => az rfl (ev rfl)) ?_
        simp only [Act.put, aa, ae, af]
        refine am (aj rfl rfl rfl rfl) (fun w' hw => ak rfl (ev rfl) faQl0) ?_
        simp only [Act.put, aa, ae, af]
        refine am (aj rfl rfl rfl rfl) (fun w' hw => av rfl (ev rfl) (ldQp (PLg.c0 (HL4.out.below hw)))) ?_
        simp only [Act.put, aa, ae, af]
        refine am (aj rfl rfl rfl rfl) (fun w' hw => ah rfl (ev rfl)) ?_
        simp only [Act.put, aa, ae, af]
        refine am (aj rfl rfl rfl rfl) (fun w' hw => az rfl (ev rfl)) ?_
        simp only [Act.put, aa, ae, af]
        refine am (aj rfl rfl rfl rfl) (fun w' hw => ak rfl (ev rfl) faQl1) ?_
        simp only [Act.put, aa, ae, af]
        refine am (aj rfl rfl rfl rfl) (fun w' hw => av rfl (ev rfl) (bW (PLg.c1 (HL4.out.below hw)))) ?_
        simp only [Act.put, aa, ae, af]
        refine a9 (aj rfl rfl rfl rfl) (fun _ => au Tryz.call71 rfl (evc (ev rfl) (evc (ev rfl) evn))) (aU (Nat.le_refl _) fun w' hw => (PJ.room (x1.d : Int) (HJ4.out.below hw))) ?_
        simp only [Act.put, aa, ae, af]
        refine am (v := .bool true) (aj rfl rfl rfl rfl) (fun w' hw => cY true rfl (ev rfl) (ev rfl) HG.out) ?_
        simp only [Act.put, aa, ae, af]
        refine am (v := .bool true) rfl (fun w' hw => aN rfl (ev rfl) (ev rfl)) ?_
        simp only [Act.put, aa, ae, af]
        refine wpQuiet_nil ?_
        intro w5 hw
        rw [HXD.out] at HE
        go_wp2_with fail
        go_ret
        exact RmPost.err HE.out (by decide) (HO4.out.cJ hw) rfl
      have HG : Hid (decide (ca M (x.d : Int) - 10 < (x1.size : Int)) = false) := Lib.hid (by rw [HXS.out.1]; exact decide_eq_false hr)
      rw [← HXD.out] at HG
      go_upto_region 8 with fail
      refine aE (B := w4.heap.size) (by kernel_rfl) ?_
      refine am rfl (fun w' hw => ah rfl (ev rfl)) ?_
      simp only [Act.put, aa, ae, af]
      refine am (v := .bool false) rfl (fun w' hw => aP false rfl (ev rfl) evk HC.out) ?_
      simp only [Act.put, aa, ae, af]
      refine am (v := .bool false) rfl (fun w' hw => ah rfl (ev rfl)) ?_
      simp only [Act.put, aa, ae, af]
      refine am (aj rfl rfl rfl rfl) (fun w' hw => ah rfl (ev rfl)) ?_
      simp only [Act.put, aa, ae, af]
      refine am (aj rfl rfl rfl rfl) (fun w' hw => az rfl (ev rfl)) ?_
      simp only [Act.put, aa, ae, af]
      refine am (aj rfl rfl rfl rfl) (fun w' hw => ak rfl (ev rfl) dG) ?_
      simp only [Act.put, aa, ae, af]
      refine am (aj rfl rfl rfl rfl) (fun w' hw => ak rfl (ev rfl) faQm1) ?_
      simp only [Act.put, aa, ae, af]
      refine am (aj rfl rfl rfl rfl) (fun w' hw => av rfl (ev rfl) (bW (PLg.c4 (HL4.out.below hw)))) ?_
      simp only [Act.put, aa, ae, af]
      refine am (aj rfl rfl rfl rfl) (fun w' hw => ah rfl (ev rfl)) ?_
      simp only [Act.put, aa, ae, af]
      refine am (aj rfl rfl rfl rfl) (fun w' hw => az rfl (ev rfl)) ?_
      simp only [Act.put, aa, ae, af]
      refine am (aj rfl rfl rfl rfl) (fun w' hw => ak rfl (ev rfl) faQl0) ?_
      simp only [Act.put, aa, ae, af]
      refine am (aj rfl rfl rfl rfl) (fun w' hw => av rfl (ev rfl) (ldQp (PLg.c0 (HL4.out.below hw)))) ?_
      simp only [Act.put, aa, ae, af]
      refine am (aj rfl rfl rfl rfl) (fun w' hw => ah rfl (ev rfl)) ?_
      simp only [Act.put, aa, ae, af]
      refine am (aj rfl rfl rfl rfl) (fun w' hw => az rfl (ev rfl)) ?_
      simp only [Act.put, aa, ae, af]
      refine am (aj rfl rfl rfl rfl) (fun w' hw => ak rfl (ev rfl) faQl1) ?_
      simp only [Act.put, aa, ae, af]
      refine am (aj rfl rfl rfl rfl) (fun w' hw => av rfl (ev rfl) (bW (PLg.c1 (HL4.out.below hw)))) ?_
      simp only [Act.put, aa, ae, af]
      refine a9 (aj rfl rfl rfl rfl) (fun _ => au Tryz.call71 rfl (evc (ev rfl) (evc (ev rfl) evn))) (aU (Nat.le_refl _) fun w' hw => (PJ.room (x1.d : Int) (HJ4.out.below hw))) ?_
      simp only [Act.put, aa, ae, af]
      refine am (v := .bool false) (aj rfl rfl rfl rfl) (fun w' hw => cY false rfl (ev rfl) (ev rfl) HG.out) ?_
      simp only [Act.put, aa, ae, af]
      refine am (v := .bool false) rfl (fun w' hw => aN rfl (ev rfl) (ev rfl)) ?_
      simp only [Act.put, aa, ae, af]
      refine wpQuiet_nil ?_
      intro w5 hw
      have HO5 := Lib.hid (HO4.out.cJ hw)
      have HL5 := Lib.hid (HL4.out.below hw)
      clear hw HL4 HX1 HJ4 HO4
      by_cases hmx : 2305843009213693952 < max (max x1.cnt x1.fst) x1.pos
      · have HMX : Hid (decide ((2305843009213693952 : Int) < ((max (max x1.cnt x1.fst) x1.pos : Nat) : Int)) = true) := Lib.hid (decide_eq_true (by omega))
        have HE : Hid (rmE M (x.d : Int) = 5) := Lib.hid (rmE_no HRE0.out fun e => by
          rw [HFF.out] at e
          obtain ⟨_, e2, e3, e4⟩ := of_decide_eq_true e
          rw [HXS.out.2.1, HXS.out.2.2.1, HXS.out.2.2.2] at hmx
          omega)
        clear hmx
        go_upto_region 10 with fail
        refine aE (B := w5.heap.size) (by kernel_rfl) ?_
        refine am rfl (fun w' hw => ah rfl (ev rfl)) ?_
        simp only [Act.put, aa, ae, af]
        refine am rfl (fun w' hw => az rfl (ev rfl)) ?_
        simp only [Act.put, aa, ae, af]
        refine am rfl (fun w' hw => ak rfl (ev rfl) faQl2) ?_
        simp only [Act.put, aa, ae, af]
        refine am rfl (fun w' hw => av rfl (ev rfl) (bR (PLg.c2 (HL5.out.below hw)))) ?_
        simp only [Act.put, aa, ae, af]
        refine am rfl (fun w' hw => ah rfl (ev rfl)) ?_
        simp only [Act.put, aa, ae, af]
        refine am rfl (fun w' hw => az rfl (ev rfl)) ?_
        simp only [Act.put, aa, ae, af]
        refine am rfl (fun w' hw => ak rfl (ev rfl) dG) ?_
        simp only [Act.put, aa, ae, af]
        refine am rfl (fun w' hw => ak rfl (ev rfl) faQm2) ?_
        simp only [Act.put, aa, ae, af]
        refine am rfl (fun w' hw => av rfl (ev rfl) (bR (PLg.c5 (HL5.out.below hw)))) ?_
        simp only [Act.put, aa, ae, af]
        refine am rfl (fun w' hw => ah rfl (ev rfl)) ?_
        simp only [Act.put, aa, ae, af]
        refine am rfl (fun w' hw => az rfl (ev rfl)) ?_
        simp only [Act.put, aa, ae, af]
        refine am rfl (fun w' hw => ak rfl (ev rfl) dG) ?_
        simp only [Act.put, aa, ae, af]
        refine am rfl (fun w' hw => ak rfl (ev rfl) faQm3) ?_
        simp only [Act.put, aa, ae, af]
        refine am rfl (fun w' hw => av rfl (ev rfl) (bR (PLg.c6 (HL5.out.below hw)))) ?_
        simp only [Act.put, aa, ae, af]
        refine am rfl (fun w' hw => exec_max3 rfl (ev rfl) (ev rfl) (ev rfl)) ?_
        simp only [Act.put, aa, ae, af]
        refine am (v := .bool true) rfl (fun w' hw => cY true rfl (ev rfl) evk HMX.out) ?_
        simp only [Act.put, aa, ae, af]
        refine wpQuiet_nil ?_
        intro w6 hw
        go_wp2_with fail
        go_ret
        exact RmPost.err HE.out (by decide) (HO5.out.cJ hw) rfl
      have HMX : Hid (decide ((2305843009213693952 : Int) < ((max (max x1.cnt x1.fst) x1.pos : Nat) : Int)) = false) := Lib.hid (decide_eq_false (by omega))
      have HE : Hid (rmE M (x.d : Int) = 0) := Lib.hid (rmE_yes HRE0.out (by
        rw [HFF.out]
        rw [HXS.out.2.1, HXS.out.2.2.1, HXS.out.2.2.2] at hmx
        exact decide_eq_true ⟨by omega, by omega, by omega, by omega⟩))
      clear hmx
      go_upto_region 10 with fail
      refine aE (B := w5.heap.size) (by kernel_rfl) ?_
      refine am rfl (fun w' hw => ah rfl (ev rfl)) ?_
      simp only [Act.put, aa, ae, af]
      refine am rfl (fun w' hw => az rfl (ev rfl)) ?_
      simp only [Act.put, aa, ae, af]
      refine am rfl (fun w' hw => ak rfl (ev rfl) faQl2) ?_
      simp only [Act.put, aa, ae, af]
      refine am rfl (fun w' hw => av rfl (ev rfl) (bR (PLg.c2 (HL5.out.below hw)))) ?_
      simp only [Act.put, aa, ae, af]
      refine am rfl (fun w' hw => ah rfl (ev rfl)) ?_
      simp only [Act.put, aa, ae, af]
      refine am rfl (fun w' hw => az rfl (ev rfl)) ?_
      simp only [Act.put, aa, ae, af]
      refine am rfl (fun w' hw => ak rfl (ev rfl) dG) ?_
      simp only [Act.put, aa, ae, af]
      refine am rfl (fun w' hw => ak rfl (ev rfl) faQm2) ?_
      simp only [Act.put, aa, ae, af]
      refine am rfl (fun w' hw => av rfl (ev rfl) (bR (PLg.c5 (HL5.out.below hw)))) ?_
      simp only [Act.put, aa, ae, af]
      refine am rfl (fun w' hw => ah rfl (ev rfl)) ?_
      simp only [Act.put, aa, ae, af]
      refine am rfl (fun w' hw => az rfl (ev rfl)) ?_
      simp only [Act.put, aa, ae, af]
      refine am rfl (fun w' hw => ak rfl (ev rfl) dG) ?_
      simp only [Act.put, aa, ae, af]
      refine am rfl (fun w' hw => ak rfl (ev rfl) faQm3) ?_
      simp only [Act.put, aa, ae, af]
      refine am rfl (fun w' hw => av rfl (ev rfl) (bR (PLg.c6 (HL5.out.below hw)))) ?_
      simp only [Act.put, aa, ae, af]
      refine am rfl (fun w' hw => exec_max3 rfl (ev rfl) (ev rfl) (ev rfl)) ?_
      simp only [Act.put, aa, ae, af]
      refine am (v := .bool false) rfl (fun w' hw => cY false rfl (ev rfl) evk HMX.out) ?_
      simp only [Act.put, aa, ae, af]
      refine wpQuiet_nil ?_
      intro w6 hw
      go_wp2_with fail
      go_ret
      exact ⟨by rw [HE.out]; rfl, HO5.out.cJ hw, fun _ => by rw [HX1E.out]; exact HL5.out.below hw⟩
end Go.Proofs.YtcafafdimcecpaaGreatDoor
