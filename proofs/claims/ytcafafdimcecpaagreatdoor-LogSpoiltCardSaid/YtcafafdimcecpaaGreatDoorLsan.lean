import Derived.Test.YtcafafdimcecpaaGreatDoorLsah
import Derived.Test.YtcafafdimcecpaaGreatDoorLsam
import Derived.Test.YtcafafdimcecpaaGreatDoorLsak
import Derived.Deep.DeepCutAuto
import Derived.Test.YtcafafdimcecpaaGreatDoorLsag
import Derived.Test.YtcafafdimcecpaaGreatDoorLsab
import Derived.Test.YtcafafdimcecpaaGreatDoorLsaf
import Derived.Test.YtcafafdimcecpaaGreatDoorLsac
import Derived.Test.YtcafafdimcecpaaGreatDoorLsai
import Derived.Test.YtcafafdimcecpaaGreatDoorLsaa
import Derived.Laws.AppendOwn
import Derived.Laws.OwnMore
import Derived.OrdersHeld
import Derived.Test.YtcafafdimcecpaaGreatDoorLsaj
import Derived.Test.YtcafafdimcecpaaGreatDoorLsZ
namespace Go.Proofs.YtcafafdimcecpaaGreatDoor
open Go.RowKit
set_option linter.unusedVariables false
set_option linter.unusedSimpArgs false
set_option maxRecDepth 100000
theorem getC_ext {a b : List Cl} (hl : a.length = b.length) (h : ∀ k, k < a.length → a.getD k ci = b.getD k ci) : a = b := by
  apply List.ext_getElem hl
  intro k h1 h2
  have := h k h1
  rw [List.getD, List.getD, List.getElem?_eq_getElem h1, List.getElem?_eq_getElem h2] at this
  simpa using this
set_option maxHeartbeats 800000 in
theorem cells_any (A B : Option Addr) (n m c d N : Nat) (a b : List Cl) (w : World) (ha : RdE bp w N A n a) (hb : RdE bp w N B m b) (hN : N ≤ w.heap.size) (hn : n ≤ maxLen) :
    Calls Tryz.prog 25 #[.slice A n c, .slice B m d] w fun e w' => e = .returned (.bool (decide (a = b))) ∧ Below w.heap.size w w' := by
  unfold maxLen at hn
  by_cases hnm : n = m
  · subst hnm
    go_enter Tryz.func25, Tryz.ntmps25
    go_wp2_with fail
    go_loopw [5] (fun i wr => ∃ k : Nat, k ≤ n ∧ i = .int .i64 k ∧ (∀ j, j < k → a.getD j ci = b.getD j ci) ∧ Below w.heap.size w wr) (fun i _ => n - (intOf i).toNat)
    case atStart => exact ⟨0, Nat.zero_le _, rfl, fun j hj => absurd hj (by omega), Below.refl _ _⟩
    case round =>
      obtain ⟨k, hk, rfl, hj, hbl⟩ := hrel
      have HJ := Lib.hid hj
      clear hj
      by_cases hlt : k < n
      · obtain ⟨bA, oA, rfl, hA, cA⟩ := (ha.below (hbl.mono hN)).cl hlt
        obtain ⟨bB, oB, rfl, hB, cB⟩ := (hb.below (hbl.mono hN)).cl hlt
        have HX := Lib.hid (rfl : a.getD k ci = a.getD k ci)
        generalize hx : a.getD k ci = x at *
        generalize hy : b.getD k ci = y at *
        have HA := Lib.hid cA
        have HB := Lib.hid cB
        have HXX := Lib.hid hx
        have HYY := Lib.hid hy
        clear cA cB hx hy HX
        go_wp2_with fail
        by_cases hxy : x = y
        · have hd : (!decide (x = y)) = false := by simpa using hxy
          refine eE (by kernel_rfl) ?_
          refine av rfl (co rfl) ?_
          simp only [Act.put, aa, ae, af]
          refine av rfl (co rfl) ?_
          simp only [Act.put, aa, ae, af]
          refine av rfl (aZ (E := bp) rfl rfl rfl hlt) ?_
          simp only [Act.put, aa, ae, af]
          refine av rfl (eK rfl rfl HA.out) ?_
          simp only [Act.put, aa, ae, af]
          refine av rfl (co rfl) ?_
          simp only [Act.put, aa, ae, af]
          refine av rfl (co rfl) ?_
          simp only [Act.put, aa, ae, af]
          refine av rfl (aZ (E := bp) rfl rfl rfl hlt) ?_
          simp only [Act.put, aa, ae, af]
          refine av rfl (eK rfl rfl HB.out) ?_
          simp only [Act.put, aa, ae, af]
          refine av rfl (exec_neC false rfl rfl rfl hd) ?_
          simp only [Act.put, aa, ae, af]
          refine wpStill_nil ?_
          clear hd
          go_wp2_with fail
          go_roundw
          case rel =>
            refine ⟨k + 1, by omega, by go_num, ?_, bd hbl⟩
            intro j hj
            by_cases h : j = k
            · subst h; rw [HXX.out, HYY.out]; exact hxy
            · exact HJ.out j (by omega)
          case measure => simp [intOf]; omega
        · have hd : (!decide (x = y)) = true := by simpa using hxy
          refine eE (by kernel_rfl) ?_
          refine av rfl (co rfl) ?_
          simp only [Act.put, aa, ae, af]
          refine av rfl (co rfl) ?_
          simp only [Act.put, aa, ae, af]
          refine av rfl (aZ (E := bp) rfl rfl rfl hlt) ?_
          simp only [Act.put, aa, ae, af]
          refine av rfl (eK rfl rfl HA.out) ?_
          simp only [Act.put, aa, ae, af]
          refine av rfl (co rfl) ?_
          simp only [Act.put, aa, ae, af]
          refine av rfl (co rfl) ?_
          simp only [Act.put, aa, ae, af]
          refine av rfl (aZ (E := bp) rfl rfl rfl hlt) ?_
          simp only [Act.put, aa, ae, af]
          refine av rfl (eK rfl rfl HB.out) ?_
          simp only [Act.put, aa, ae, af]
          refine av rfl (exec_neC true rfl rfl rfl hd) ?_
          simp only [Act.put, aa, ae, af]
          refine wpStill_nil ?_
          clear hd
          go_wp2_with fail
          go_ret
          refine ⟨?_, bd hbl⟩
          rw [decide_eq_false]
          · rfl
          · rintro rfl
            exact hxy (HXX.out.symm.trans HYY.out)
      · go_wp2_with fail
        go_ret
        refine ⟨?_, hbl⟩
        rw [decide_eq_true]
        · rfl
        · exact getC_ext (by rw [ha.1, hb.1]) fun k h => HJ.out k (by have := ha.1; omega)
  · have hne : ((n : Int) != (m : Int)) = true := by simp; omega
    go_enter Tryz.func25, Tryz.ntmps25
    go_wp2_with fail
    go_ret
    refine ⟨?_, Below.refl _ _⟩
    rw [decide_eq_false]
    · rfl
    · rintro rfl
      exact hnm (ha.1.symm.trans hb.1)
theorem copyC_any (A : Option Addr) (n c N B : Nat) (l : List Cl) (w : World) (HB : Hid (B = w.heap.size)) (hl : RdE bp w N A n l) (hN : N ≤ B) (hn : n ≤ 1759218604390) :
    Calls Tryz.prog 20 #[.slice A n c] w fun e w' => ∃ v, e = .returned v ∧ az bp w' B v l ∧ Below B w w' := by
  have hBle := Nat.le_of_eq HB.out
  go_enter Tryz.func20, Tryz.ntmps20
  go_wp2_with (at_builtin; refine wpList_appEw bp rfl _ _ rfl B N n c _ [] l A rfl rfl (az.nil _ _) hl hBle ?c1 ?c2 ?_)
  case c1 => simp; unfold maxLen; omega
  case c2 => show (List.length [] + n) * 80 ≤ _; simp; omega
  intro v1 w1 hm1 hg1
  go_wp2
  go_ret
  exact ⟨_, rfl, hm1, (Below.refl _ _).grown hg1 hBle (by simp [Value.ownBlock])⟩
theorem fill_5 : Instr.fill (fun i => some (i * 1, 1)) (cel al).toArray [(0, .int .u8 5)] = some (cel (al.set 0 5)).toArray := by kernel_rfl
theorem run_bldC1 (w : World) : (Instr.build 104 #[(1, blk (al.set 0 5))]).run Tryz.prog w = .ok (clV lvC) w := by kernel_rfl
theorem exec_bldC1 {ρ : Operand → Value} {o : Oper} {y : Operand} {w : World} (ho : o.op = .build 104 #[(1, y)]) (hy : ρ y = blk (al.set 0 5)) : (execOp ρ o).run Tryz.prog w = .ok (.value (clV lvC)) w := by
  unfold execOp
  simp only [ho, List.map_toArray, List.map_cons, List.map_nil, hy, Sem.run_bind, run_bldC1, Result.andThen_ok, Sem.run_pure]
theorem lv_appN : appN lvM1 lvX1 [lvC] = 1 ∧ appX lvM1 lvX1 [lvC] = lvX2 := by
  obtain ⟨h, _⟩ := lv_app
  exact ⟨by unfold appN; rw [if_pos h]; rfl, by unfold appX; rw [if_pos h]; rfl⟩
theorem lv_clrX : clrX lvM2 lvX2 2 = lvX3 := by
  obtain ⟨h, _⟩ := lv_clr
  unfold clrX
  rw [if_pos h]
  rfl
theorem lv_layB : layB lvM3 1 7 40 = lvM3 := if_neg fun e => by
  have h := lv_small
  obtain ⟨_, S, hw⟩ := lv_clr
  have he := hw.is
  obtain ⟨_, _, _, _, e5⟩ := of_decide_eq_true e
  rw [he] at e5
  have : ca ⟨⟨S, [], false⟩ :: lvR, 0, false, 20⟩ 1 = 12 := by
    unfold ca
    rw [if_pos (by simp [dx, lvR])]
    rfl
  omega
set_option maxHeartbeats 1600000 in
theorem llives (C : LogI) (w : World) (T : Tbs w) : Calls Tryz.prog 13 #[] w fun e w' => e = .returned (.bool true) ∧ Below w.heap.size w w' := by
  have HTB := Lib.hid T
  clear T
  go_enter Tryz.func13, Tryz.ntmps13
  go_upto_region 1 with fail
  refine wp_region_lit ?_
  refine ao rfl (aq Tryz.call9 rfl (evc evk evn)) ?_
  refine (ltable C.R 50 w (by omega)).mono ?_
  rintro e w1 ⟨q, q2, F, F2, rfl, hb, hb2, hf, hf2, hd, hw⟩
  have HA := Lib.hid (show BAt C w w.heap.size (fun _ => False) w1 q lvM from ⟨F, hb, hf, hw, Bas.start HTB.out, fun _ e => e.elim⟩)
  clear hb hb2 hf hf2 hd hw
  refine ⟨_, rfl, ?_⟩
  simp only [Act.put, aa, ae, af]
  refine ag rfl (ah rfl (ev rfl)) ?_
  simp only [Act.put, aa, ae, af]
  refine ag rfl (aC rfl (ev rfl) rfl) ?_
  simp only [Act.put, aa, ae, af]
  refine ag rfl (aC rfl (ev rfl) rfl) ?_
  simp only [Act.put, aa, ae, af]
  refine ag rfl (aC rfl (ev rfl) rfl) ?_
  simp only [Act.put, aa, ae, af]
  refine ag rfl (ar rfl (ev rfl)) ?_
  simp only [Act.put, aa, ae, af]
  refine ag rfl (ar rfl (ev rfl)) ?_
  simp only [Act.put, aa, ae, af]
  refine ag rfl (ar rfl (ev rfl)) ?_
  simp only [Act.put, aa, ae, af]
  refine wpList_nil ?_
  go_upto_region 4 with fail
  refine wp_region_lit ?_
  refine ag rfl (ah rfl (ev rfl)) ?_
  simp only [Act.put, aa, ae, af]
  refine ao rfl (aq Tryz.call22 rfl (evc (ev rfl) (evc evk evn))) ?_
  refine (BAt.open_ 0 HA.out).mono ?_
  rintro e w2 hq
  obtain ⟨rfl, hq, _⟩ := hq.no (by rw [lv_open]; decide)
  rw [lv_open]
  have HA2 := Lib.hid hq
  clear hq HA
  refine ⟨_, rfl, ?_⟩
  simp only [Act.put, aa, ae, af]
  refine ag rfl (ah rfl (ev rfl)) ?_
  simp only [Act.put, aa, ae, af]
  refine ag rfl (aC rfl (ev rfl) rfl) ?_
  simp only [Act.put, aa, ae, af]
  refine ag rfl (aC rfl (ev rfl) rfl) ?_
  simp only [Act.put, aa, ae, af]
  refine ag rfl (ar rfl (ev rfl)) ?_
  simp only [Act.put, aa, ae, af]
  refine ag rfl (ar rfl (ev rfl)) ?_
  simp only [Act.put, aa, ae, af]
  refine wpList_nil ?_
  go_upto_region 5 with fail
  refine wp_region_lit ?_
  refine ag rfl (ah rfl (ev rfl)) ?_
  simp only [Act.put, aa, ae, af]
  refine ao rfl (aq Tryz.call35 rfl (evc (ev rfl) (evc evk (evc evk (evc evk evn))))) ?_
  refine (BAt.lay 0 7 40 HA2.out lv_room.1 (by omega)).mono ?_
  rintro e w3 hq
  obtain ⟨p, rfl, hq, _⟩ := hq.yes lv_lay.1
  have HL3 := Lib.hid (show LAt C w w.heap.size (fun _ => False) w3 q p lvM1 lvX1 from hq)
  clear hq HA2
  refine ⟨_, rfl, ?_⟩
  simp only [Act.put, aa, ae, af]
  refine ag rfl (ah rfl (ev rfl)) ?_
  simp only [Act.put, aa, ae, af]
  refine ag rfl (aC rfl (ev rfl) rfl) ?_
  simp only [Act.put, aa, ae, af]
  refine ag rfl (aC rfl (ev rfl) rfl) ?_
  simp only [Act.put, aa, ae, af]
  refine ag rfl (ar rfl (ev rfl)) ?_
  simp only [Act.put, aa, ae, af]
  refine ag rfl (ar rfl (ev rfl)) ?_
  simp only [Act.put, aa, ae, af]
  refine wpList_nil ?_
  go_upto_region 6 with fail
  refine wp_region_lit ?_
  refine ag rfl (ah rfl (ev rfl)) ?_
  simp only [Act.put, aa, ae, af]
  refine ao rfl (aq Tryz.call23 rfl (evc (ev rfl) evn)) ?_
  refine (HL3.out.live lv_ok1).mono ?_
  rintro e w4 ⟨rfl, hb⟩
  have HL4 := Lib.hid (HL3.out.below hb)
  rw [show ((lvX1.fst : Nat) : Int) = 1 from rfl, show ((lvX1.next : Nat) : Int) = 1 from rfl]
  clear hb HL3
  refine ⟨_, rfl, ?_⟩
  simp only [Act.put, aa, ae, af]
  refine ag rfl (ah rfl (ev rfl)) ?_
  simp only [Act.put, aa, ae, af]
  refine ag rfl (aC rfl (ev rfl) rfl) ?_
  simp only [Act.put, aa, ae, af]
  refine ag rfl (aC rfl (ev rfl) rfl) ?_
  simp only [Act.put, aa, ae, af]
  refine ag rfl (ar rfl (ev rfl)) ?_
  simp only [Act.put, aa, ae, af]
  refine ag rfl (ar rfl (ev rfl)) ?_
  simp only [Act.put, aa, ae, af]
  refine wpList_nil ?_
  go_upto_region 7 with fail
  refine wp_region_lit ?_
  refine ag rfl (ah rfl (ev rfl)) ?_
  simp only [Act.put, aa, ae, af]
  refine ag rfl (bV rfl fill_5) ?_
  simp only [Act.put, aa, ae, af]
  refine ag rfl (exec_bldC1 rfl (ev rfl)) ?_
  simp only [Act.put, aa, ae, af]
  refine ag rfl (df (E := bp) (a := lvC) rfl (ev rfl) rfl (by show 66 ≤ _; omega)) ?_
  simp only [Act.put, aa, ae, af]
  have HB5 := Lib.hid ((Below.refl w4.heap.size w4).alloc (Nat.le_refl _) (.cells (ct lvC).toArray 104))
  have HR5 := Lib.hid (rdC_new1 w4 lvC)
  have HS5 : Hid (w4.heap.size + 1 ≤ (w4.alloc (.cells (ct lvC).toArray 104)).heap.size) := Lib.hid (by rw [World.size_alloc]; exact Nat.le_refl _)
  have HL5 := Lib.hid (HL4.out.below ((Below.refl w4.heap.size w4).alloc (Nat.le_refl _) (.cells (ct lvC).toArray 104)))
  change wpList _ _ _ _ _ (w4.alloc (.cells (ct lvC).toArray 104))
  generalize w4.alloc (.cells (ct lvC).toArray 104) = w5 at *
  clear HL4
  refine ao rfl (aq Tryz.call19 rfl (evc (ev rfl) (evc (ev rfl) evn))) ?_
  refine (HL5.out.app (some ⟨w4.heap.size, 0, none⟩) 1 1 (w4.heap.size + 1) [lvC] lv_ok1 lv_room.2.1 HR5.out HS5.out (by unfold maxLen; omega)).mono ?_
  rintro e w6 ⟨rfl, hq, _⟩
  rw [lv_appN.1, lv_app.1]
  have HL6 := Lib.hid (show LAt C w w.heap.size (fun _ => False) w6 q p lvM2 lvX2 by rw [← lv_appN.2]; exact hq)
  clear hq HL5 HR5 HS5
  refine ⟨_, rfl, ?_⟩
  simp only [Act.put, aa, ae, af]
  refine ag rfl (ah rfl (ev rfl)) ?_
  simp only [Act.put, aa, ae, af]
  refine ag rfl (aC rfl (ev rfl) rfl) ?_
  simp only [Act.put, aa, ae, af]
  refine ag rfl (aC rfl (ev rfl) rfl) ?_
  simp only [Act.put, aa, ae, af]
  refine ag rfl (ar rfl (ev rfl)) ?_
  simp only [Act.put, aa, ae, af]
  refine ag rfl (ar rfl (ev rfl)) ?_
  simp only [Act.put, aa, ae, af]
  refine wpList_nil ?_
  go_upto_region 8 with fail
  refine wp_region_lit ?_
  refine ag rfl (ah rfl (ev rfl)) ?_
  simp only [Act.put, aa, ae, af]
  refine ao rfl (aq Tryz.call31 rfl (evc (ev rfl) evn)) ?_
  refine (HL6.out.free lv_ok2).mono ?_
  rintro e w7 ⟨rfl, hb⟩
  have HL7 := Lib.hid (HL6.out.below hb)
  rw [lv_free2]
  clear hb HL6
  refine ⟨_, rfl, ?_⟩
  simp only [Act.put, aa, ae, af]
  refine ag rfl (ar rfl (ev rfl)) ?_
  simp only [Act.put, aa, ae, af]
  refine wpList_nil ?_
  go_upto_region 9 with fail
  refine wp_region_lit ?_
  refine ag rfl (ah rfl (ev rfl)) ?_
  simp only [Act.put, aa, ae, af]
  refine ao rfl (aq Tryz.call24 rfl (evc (ev rfl) (evc evk evn))) ?_
  refine (HL7.out.rec_ 1 lv_ok2 (by omega)).mono ?_
  rintro e w8 ⟨v8, rfl, hm, hb⟩
  rw [lv_rcd.1]
  rw [lv_rcd.2] at hm
  have HL8 := Lib.hid (HL7.out.guard (K' := fun b => v8.ownBlock = some b) hb (fun b e => .inr (hm.own_both b e)))
  have HM8 := Lib.hid hm
  clear hb hm HL7
  refine ⟨_, rfl, ?_⟩
  simp only [Act.put, aa, ae, af]
  refine ag rfl (ah rfl (ev rfl)) ?_
  simp only [Act.put, aa, ae, af]
  refine ag rfl (aC rfl (ev rfl) rfl) ?_
  simp only [Act.put, aa, ae, af]
  refine ag rfl (aC rfl (ev rfl) rfl) ?_
  simp only [Act.put, aa, ae, af]
  refine ag rfl (ar rfl (ev rfl)) ?_
  simp only [Act.put, aa, ae, af]
  refine ag rfl (ar rfl (ev rfl)) ?_
  simp only [Act.put, aa, ae, af]
  refine wpList_nil ?_
  go_upto_region 10 with fail
  refine wp_region_lit ?_
  refine ag rfl (ah rfl (ev rfl)) ?_
  simp only [Act.put, aa, ae, af]
  refine ao rfl (aq Tryz.call17 rfl (evc (ev rfl) (evc evk evn))) ?_
  refine (HL8.out.clr 2 lv_ok2 lv_room.2.2 (by omega)).mono ?_
  rintro e w9 ⟨rfl, hq, hkp⟩
  rw [lv_clr.1]
  have HL9 := Lib.hid (show LAt C w w.heap.size _ w9 q p lvM3 lvX3 by rw [← lv_clrX]; exact hq)
  have HM9 := Lib.hid (HM8.out.kept_ hkp)
  clear hq hkp HL8 HM8
  refine ⟨_, rfl, ?_⟩
  simp only [Act.put, aa, ae, af]
  refine ag rfl (ar rfl (ev rfl)) ?_
  simp only [Act.put, aa, ae, af]
  refine wpList_nil ?_
  go_upto_region 11 with fail
  refine wp_region_lit ?_
  refine ag rfl (ah rfl (ev rfl)) ?_
  simp only [Act.put, aa, ae, af]
  refine ao rfl (aq Tryz.call24 rfl (evc (ev rfl) (evc evk evn))) ?_
  refine (HL9.out.rec_ 1 lv_ok3 (by omega)).mono ?_
  rintro e wa ⟨v10, rfl, _, hb⟩
  rw [lv_dead]
  have HLa := Lib.hid (HL9.out.below hb)
  have HMa := Lib.hid (HM9.out.below hb)
  clear hb HL9 HM9
  refine ⟨_, rfl, ?_⟩
  simp only [Act.put, aa, ae, af]
  refine ag rfl (ah rfl (ev rfl)) ?_
  simp only [Act.put, aa, ae, af]
  refine ag rfl (aC rfl (ev rfl) rfl) ?_
  simp only [Act.put, aa, ae, af]
  refine ag rfl (aC rfl (ev rfl) rfl) ?_
  simp only [Act.put, aa, ae, af]
  refine ag rfl (ar rfl (ev rfl)) ?_
  simp only [Act.put, aa, ae, af]
  refine ag rfl (ar rfl (ev rfl)) ?_
  simp only [Act.put, aa, ae, af]
  refine wpList_nil ?_
  go_upto_region 12 with fail
  refine wp_region_lit ?_
  refine ag rfl (ah rfl (ev rfl)) ?_
  simp only [Act.put, aa, ae, af]
  refine ao rfl (aq Tryz.call35 rfl (evc (ev rfl) (evc evk (evc evk (evc evk evn))))) ?_
  refine (HLa.out.lay 1 7 40 lv_room3 (by omega)).mono ?_
  rintro e wb ⟨hkp, ⟨h0, _⟩ | ⟨_, rfl, hq⟩⟩
  · rw [lv_small] at h0; exact absurd h0 (by decide)
  rw [lv_small]
  have HLb := Lib.hid (show LAt C w w.heap.size _ wb q p lvM3 lvX3 by rw [← lv_layB]; exact hq)
  have HMb := Lib.hid (HMa.out.kept_ hkp)
  clear hq hkp HLa HMa
  obtain ⟨Ab, cb, rfl, hrb, hcb, _⟩ := HMb.out.open_ (show [lvC].length = 1 from rfl)
  have HRb := Lib.hid hrb
  clear hrb HMb
  refine ⟨_, rfl, ?_⟩
  simp only [Act.put, aa, ae, af]
  refine ag rfl (ah rfl (ev rfl)) ?_
  simp only [Act.put, aa, ae, af]
  refine ag rfl (aC rfl (ev rfl) rfl) ?_
  simp only [Act.put, aa, ae, af]
  refine ag rfl (aC rfl (ev rfl) rfl) ?_
  simp only [Act.put, aa, ae, af]
  refine ag rfl (ar rfl (ev rfl)) ?_
  simp only [Act.put, aa, ae, af]
  refine ag rfl (ar rfl (ev rfl)) ?_
  simp only [Act.put, aa, ae, af]
  refine wpList_nil ?_
  go_upto_region 13 with fail
  refine wp_region_lit ?_
  refine ag rfl (ah rfl (ev rfl)) ?_
  simp only [Act.put, aa, ae, af]
  refine ag (v := .bool true) rfl (aG true rfl (ev rfl) evk rfl) ?_
  simp only [Act.put, aa, ae, af]
  refine ag (v := .bool true) rfl (ah rfl (ev rfl)) ?_
  simp only [Act.put, aa, ae, af]
  refine ai (aj rfl rfl rfl rfl) (ah rfl (ev rfl)) ?_
  simp only [Act.put, aa, ae, af]
  refine ai (v := .bool true) (aj rfl rfl rfl rfl) (aG true rfl (ev rfl) evk rfl) ?_
  simp only [Act.put, aa, ae, af]
  refine ag (v := .bool true) rfl (aM rfl (ev rfl) (ev rfl)) ?_
  simp only [Act.put, aa, ae, af]
  refine ag (v := .bool true) rfl (ah rfl (ev rfl)) ?_
  simp only [Act.put, aa, ae, af]
  refine ai (aj rfl rfl rfl rfl) (ah rfl (ev rfl)) ?_
  simp only [Act.put, aa, ae, af]
  refine ai (v := .bool true) (aj rfl rfl rfl rfl) (aG true rfl (ev rfl) evk rfl) ?_
  simp only [Act.put, aa, ae, af]
  refine ag (v := .bool true) rfl (aM rfl (ev rfl) (ev rfl)) ?_
  simp only [Act.put, aa, ae, af]
  refine ag (v := .bool true) rfl (ah rfl (ev rfl)) ?_
  simp only [Act.put, aa, ae, af]
  refine ai (aj rfl rfl rfl rfl) (ah rfl (ev rfl)) ?_
  simp only [Act.put, aa, ae, af]
  refine ai (v := .bool true) (aj rfl rfl rfl rfl) (aG true rfl (ev rfl) evk rfl) ?_
  simp only [Act.put, aa, ae, af]
  refine ag (v := .bool true) rfl (aM rfl (ev rfl) (ev rfl)) ?_
  simp only [Act.put, aa, ae, af]
  refine ag (v := .bool true) rfl (ah rfl (ev rfl)) ?_
  simp only [Act.put, aa, ae, af]
  refine ai (aj rfl rfl rfl rfl) (ah rfl (ev rfl)) ?_
  simp only [Act.put, aa, ae, af]
  refine ai (v := .bool true) (aj rfl rfl rfl rfl) (aG true rfl (ev rfl) evk rfl) ?_
  simp only [Act.put, aa, ae, af]
  refine ag (v := .bool true) rfl (aM rfl (ev rfl) (ev rfl)) ?_
  simp only [Act.put, aa, ae, af]
  refine ag (v := .bool true) rfl (ah rfl (ev rfl)) ?_
  simp only [Act.put, aa, ae, af]
  refine ai (aj rfl rfl rfl rfl) (ah rfl (ev rfl)) ?_
  simp only [Act.put, aa, ae, af]
  refine ai (v := .bool true) (aj rfl rfl rfl rfl) (aG true rfl (ev rfl) evk rfl) ?_
  simp only [Act.put, aa, ae, af]
  refine ag (v := .bool true) rfl (aM rfl (ev rfl) (ev rfl)) ?_
  simp only [Act.put, aa, ae, af]
  refine ag (v := .bool true) rfl (ah rfl (ev rfl)) ?_
  simp only [Act.put, aa, ae, af]
  refine ai (aj rfl rfl rfl rfl) (ah rfl (ev rfl)) ?_
  simp only [Act.put, aa, ae, af]
  refine ai (v := .bool true) (aj rfl rfl rfl rfl) (aG true rfl (ev rfl) evk rfl) ?_
  simp only [Act.put, aa, ae, af]
  refine ag (v := .bool true) rfl (aM rfl (ev rfl) (ev rfl)) ?_
  simp only [Act.put, aa, ae, af]
  refine ag (v := .bool true) rfl (ah rfl (ev rfl)) ?_
  simp only [Act.put, aa, ae, af]
  refine ai (aj rfl rfl rfl rfl) (ah rfl (ev rfl)) ?_
  simp only [Act.put, aa, ae, af]
  refine ai (v := .bool true) (aj rfl rfl rfl rfl) (aG true rfl (ev rfl) evk rfl) ?_
  simp only [Act.put, aa, ae, af]
  refine ag (v := .bool true) rfl (aM rfl (ev rfl) (ev rfl)) ?_
  simp only [Act.put, aa, ae, af]
  refine ag (v := .bool true) rfl (ah rfl (ev rfl)) ?_
  simp only [Act.put, aa, ae, af]
  refine ai (aj rfl rfl rfl rfl) (ah rfl (ev rfl)) ?_
  simp only [Act.put, aa, ae, af]
  refine ai (aj rfl rfl rfl rfl) (bV rfl fill_5) ?_
  simp only [Act.put, aa, ae, af]
  refine ai (aj rfl rfl rfl rfl) (exec_bldC1 rfl (ev rfl)) ?_
  simp only [Act.put, aa, ae, af]
  refine ai (aj rfl rfl rfl rfl) (df (E := bp) (a := lvC) rfl (ev rfl) rfl (by show 66 ≤ _; omega)) ?_
  simp only [Act.put, aa, ae, af]
  have HB5 := Lib.hid ((Below.refl wb.heap.size wb).alloc (Nat.le_refl _) (.cells (ct lvC).toArray 104))
  have HR5 := Lib.hid (rdC_new1 wb lvC)
  have HS5 : Hid (wb.heap.size + 1 ≤ (wb.alloc (.cells (ct lvC).toArray 104)).heap.size) := Lib.hid (by rw [World.size_alloc]; exact Nat.le_refl _)
  have HL5 := Lib.hid (HLb.out.below ((Below.refl wb.heap.size wb).alloc (Nat.le_refl _) (.cells (ct lvC).toArray 104)))
  change wpList _ _ _ _ _ (wb.alloc (.cells (ct lvC).toArray 104))
  generalize wb.alloc (.cells (ct lvC).toArray 104) = w5 at *
  clear HLb
  have HRc := Lib.hid (HRb.out.step HB5.out)
  refine ao (aj rfl rfl rfl rfl) (aq Tryz.call25 rfl (evc (ev rfl) (evc (ev rfl) evn))) ?_
  refine (cells_any Ab (some ⟨wb.heap.size, 0, none⟩) 1 1 cb 1 w5.heap.size [lvC] [lvC] w5 HRc.out (HR5.out.more HS5.out) (Nat.le_refl _) (by unfold maxLen; omega)).mono ?_
  rintro e w12 ⟨rfl, hb⟩
  rw [show decide ([lvC] = [lvC]) = true from decide_eq_true rfl]
  have HLc := Lib.hid (HL5.out.below hb)
  clear hb
  refine ⟨_, rfl, ?_⟩
  simp only [Act.put, aa, ae, af]
  refine ag (v := .bool true) rfl (aM rfl (ev rfl) (ev rfl)) ?_
  simp only [Act.put, aa, ae, af]
  refine ag (v := .bool true) rfl (ah rfl (ev rfl)) ?_
  simp only [Act.put, aa, ae, af]
  refine ai (aj rfl rfl rfl rfl) (ah rfl (ev rfl)) ?_
  simp only [Act.put, aa, ae, af]
  refine ai (v := .bool true) (aj rfl rfl rfl rfl) (aG true rfl (ev rfl) evk rfl) ?_
  simp only [Act.put, aa, ae, af]
  refine ag (v := .bool true) rfl (aM rfl (ev rfl) (ev rfl)) ?_
  simp only [Act.put, aa, ae, af]
  refine ag (v := .bool true) rfl (ah rfl (ev rfl)) ?_
  simp only [Act.put, aa, ae, af]
  refine ai (aj rfl rfl rfl rfl) (ah rfl (ev rfl)) ?_
  simp only [Act.put, aa, ae, af]
  refine ao (aj rfl rfl rfl rfl) (aq Tryz.call31 rfl (evc (ev rfl) evn)) ?_
  refine (HLc.out.free lv_ok3).mono ?_
  rintro e w13 ⟨rfl, hb⟩
  have HLd := Lib.hid (HLc.out.below hb)
  rw [lv_free3]
  clear hb HLc
  refine ⟨_, rfl, ?_⟩
  simp only [Act.put, aa, ae, af]
  refine ai (v := .bool true) (aj rfl rfl rfl rfl) (aG true rfl (ev rfl) evk rfl) ?_
  simp only [Act.put, aa, ae, af]
  refine ag (v := .bool true) rfl (aM rfl (ev rfl) (ev rfl)) ?_
  simp only [Act.put, aa, ae, af]
  refine ag (v := .bool true) rfl (ah rfl (ev rfl)) ?_
  simp only [Act.put, aa, ae, af]
  refine ai (aj rfl rfl rfl rfl) (ah rfl (ev rfl)) ?_
  simp only [Act.put, aa, ae, af]
  refine ai (v := .bool true) (aj rfl rfl rfl rfl) (aG true rfl (ev rfl) evk rfl) ?_
  simp only [Act.put, aa, ae, af]
  refine ag (v := .bool true) rfl (aM rfl (ev rfl) (ev rfl)) ?_
  simp only [Act.put, aa, ae, af]
  refine ag (v := .bool true) rfl (ah rfl (ev rfl)) ?_
  simp only [Act.put, aa, ae, af]
  refine ai (aj rfl rfl rfl rfl) (ah rfl (ev rfl)) ?_
  simp only [Act.put, aa, ae, af]
  refine ai (v := .bool true) (aj rfl rfl rfl rfl) (aG true rfl (ev rfl) evk rfl) ?_
  simp only [Act.put, aa, ae, af]
  refine ag (v := .bool true) rfl (aM rfl (ev rfl) (ev rfl)) ?_
  simp only [Act.put, aa, ae, af]
  refine ag (v := .bool true) rfl (ar rfl (ev rfl)) ?_
  simp only [Act.put, aa, ae, af]
  refine wpList_nil ?_
  go_wp2_with fail
  go_ret
  exact ⟨rfl, HLd.out.bel⟩
theorem rplaces (n : Nat) (w : World) (h : n ≤ 1000) : Calls Tryz.prog 98 #[.int .i64 (n : Int)] w fun e w' => e = .returned (.int .i64 (hd n : Nat)) ∧ w = w' := by
  go_enter Tryz.func98, Tryz.ntmps98
  go_wp2
  go_loop [3] (fun i => ∃ k : Nat, i = .int .i64 k ∧ 16 * k ≤ n + 15) (fun i => n + 16 - (intOf i).toNat)
  case atStart => exact ⟨0, rfl, by omega⟩
  case round =>
    obtain ⟨k, rfl, hk⟩ := hrel
    by_cases hlt : 16 * k < n
    · go_wp2
      go_round
      case rel => exact ⟨k + 1, by go_num, by omega⟩
      case measure => simp [intOf]; omega
    · go_wp2
      go_ret
      refine ⟨aL ?_, rfl⟩
      unfold hd
      omega
theorem rsize (n : Int) (w : World) : Calls Tryz.prog 33 #[.int .i64 n] w fun e w' => e = .returned (.int .i64 (sizN n : Nat)) ∧ w = w' := by
  by_cases h1 : n < 1
  · have HS := Lib.hid (sizN_no (.inl h1))
    go_enter Tryz.func33, Tryz.ntmps33
    go_wp2
    go_ret
    exact ⟨by rw [HS.out]; rfl, rfl⟩
  · by_cases h2 : 32 < n
    · have HS := Lib.hid (sizN_no (.inr h2))
      go_enter Tryz.func33, Tryz.ntmps33
      go_wp2
      go_ret
      exact ⟨by rw [HS.out]; rfl, rfl⟩
    · obtain ⟨k, rfl⟩ := Int.eq_ofNat_of_zero_le (show 0 ≤ n by omega)
      have hk1 : 1 ≤ k := by omega
      have hk2 : k ≤ 32 := by omega
      have HS := Lib.hid (fj hk1 hk2)
      have hh : hd k ≤ 2 := by unfold hd; omega
      clear h1 h2
      go_enter Tryz.func33, Tryz.ntmps33
      go_wp2_with fail
      refine (rplaces k w (by omega)).mono ?_
      rintro e w' ⟨rfl, rfl⟩
      go_wp2
      go_ret
      exact ⟨by rw [HS.out]; simp, rfl⟩
theorem pheads (n : Nat) (w : World) (h : n ≤ 1000) : Calls Tryz.prog 161 #[.int .i64 (n : Int)] w fun e w' => e = .returned (.int .i64 (hd n : Nat)) ∧ w = w' := by
  go_enter Tryz.func161, Tryz.ntmps161
  go_wp2
  go_ret
  refine ⟨aL ?_, rfl⟩
  unfold hd
  omega
theorem psize (n : Int) (w : World) : Calls Tryz.prog 115 #[.int .i64 n] w fun e w' => e = .returned (.int .i64 (sizN n : Nat)) ∧ w = w' := by
  by_cases h1 : n < 1
  · have HS := Lib.hid (sizN_no (.inl h1))
    go_enter Tryz.func115, Tryz.ntmps115
    go_wp2
    go_ret
    exact ⟨by rw [HS.out]; rfl, rfl⟩
  · by_cases h2 : 32 < n
    · have HS := Lib.hid (sizN_no (.inr h2))
      go_enter Tryz.func115, Tryz.ntmps115
      go_wp2
      go_ret
      exact ⟨by rw [HS.out]; rfl, rfl⟩
    · obtain ⟨k, rfl⟩ := Int.eq_ofNat_of_zero_le (show 0 ≤ n by omega)
      have hk1 : 1 ≤ k := by omega
      have hk2 : k ≤ 32 := by omega
      have HS := Lib.hid (fj hk1 hk2)
      have hh : hd k ≤ 2 := by unfold hd; omega
      clear h1 h2
      go_enter Tryz.func115, Tryz.ntmps115
      go_wp2_with fail
      refine (pheads k w (by omega)).mono ?_
      rintro e w' ⟨rfl, rfl⟩
      go_wp2
      go_ret
      exact ⟨by rw [HS.out]; simp, rfl⟩
section
variable {ρ : Operand → Value} {o : Oper} {x y z : Operand} {w : World} {b off n c t u : Nat}
theorem undU : Tryz.prog.underlying 160 = some (.slice 5) := Tryz.underlying160
theorem run_headU (h : t ≤ c) : (Instr.sliceAt 160 (.slice (some ⟨b, off, none⟩) n c) none (some (.int .i64 (t : Int))) none).run Tryz.prog w = .ok (.slice (some ⟨b, off, none⟩) t c) w := by
  simp [Instr.sliceAt, Instr.slice, Instr.sliceBounds, Instr.sliceBound, asIntOf, run_underlying undU, Tryz.sizeOf5, Addr.add_mid]
  intro hh; omega
theorem run_midU (h1 : u ≤ t) (h : t ≤ c) (h2 : u < c) : (Instr.sliceAt 160 (.slice (some ⟨b, off, none⟩) n c) (some (.int .i64 (u : Int))) (some (.int .i64 (t : Int))) none).run Tryz.prog w = .ok (.slice (some ⟨b, off + u, none⟩) (t - u) (c - u)) w := by
  have e1 : (0 ≤ (t : Int) ∧ (t : Int) ≤ (c : Int)) := by omega
  have e2 : (0 ≤ (u : Int) ∧ (u : Int) ≤ (t : Int)) := by omega
  have e3 : c ≠ u := by omega
  simp [Instr.sliceAt, Instr.slice, Instr.sliceBounds, Instr.sliceBound, asIntOf, run_underlying undU, Tryz.sizeOf5, Addr.add_mid, e1, e2, e3, h, h1]
theorem exec_cutH (t : Nat) (ho : o.op = .slice 160 x none (some y) none) (hx : ρ x = .slice (some ⟨b, off, none⟩) n c) (hy : ρ y = .int .i64 (t : Int)) (h : t ≤ c) : (execOp ρ o).run Tryz.prog w = .ok (.value (.slice (some ⟨b, off, none⟩) t c)) w := by
  unfold execOp
  simp only [ho, hx, hy, Option.map_some, Option.map_none, Sem.run_bind, run_headU h, Result.andThen_ok, Sem.run_pure]
theorem exec_cutM (u t : Nat) (ho : o.op = .slice 160 x (some z) (some y) none) (hx : ρ x = .slice (some ⟨b, off, none⟩) n c) (hz : ρ z = .int .i64 (u : Int)) (hy : ρ y = .int .i64 (t : Int)) (h1 : u ≤ t) (h : t ≤ c) (h2 : u < c) : (execOp ρ o).run Tryz.prog w = .ok (.value (.slice (some ⟨b, off + u, none⟩) (t - u) (c - u))) w := by
  unfold execOp
  simp only [ho, hx, hy, hz, Option.map_some, Option.map_none, Sem.run_bind, run_midU h1 h h2, Result.andThen_ok, Sem.run_pure]
theorem run_allB : (Instr.sliceAt 65 (.pointer (some ⟨b, off, none⟩)) none none none).run Tryz.prog w = .ok (.slice (some ⟨b, off, none⟩) 64 64) w := by
  simp [Instr.sliceAt, Instr.sliceBounds, Instr.sureAddr, run_underlying undB, Tryz.sizeOf5, Addr.add_mid]
theorem exec_allB (ho : o.op = .slice 65 x none none none) (hx : ρ x = .pointer (some ⟨b, off, none⟩)) : (execOp ρ o).run Tryz.prog w = .ok (.value (.slice (some ⟨b, off, none⟩) 64 64)) w := by
  unfold execOp
  simp only [ho, hx, Option.map_none, Sem.run_bind, run_allB, Result.andThen_ok, Sem.run_pure]
end
theorem Rd.sub {w : World} {N g q n p k : Nat} {l : List UInt8} (h : Rd w N (some ⟨g, q, none⟩) n l) (hk : p + k ≤ n) : Rd w N (some ⟨g, q + p, none⟩) k (piece l p k) :=
  ⟨bD (by have := h.1; omega), fun j hj => by
    obtain ⟨b, off, e, hb, hc⟩ := h.2 (p + j) (by omega)
    injection e with e
    injection e with e1 e2
    subst e1 e2
    refine ⟨g, q + p, rfl, hb, ?_⟩
    rw [eD hj, ← hc, Nat.add_assoc]⟩
theorem tdiv16 (i : Nat) (h : i ≤ 1000) : IntKind.i64.wrap ((i : Int).tdiv 16) = ((i / 16 : Nat) : Int) := by
  rw [Int.tdiv_eq_ediv_of_nonneg (by omega), IntKind.wrap_i64]
  omega
theorem tmod16 (i : Nat) : (i : Int).tmod 16 = ((i % 16 : Nat) : Int) := by
  rw [Int.tmod_eq_emod_of_nonneg (by omega)]
  omega
theorem wrap_small (k : Nat) (h : k ≤ 1000000) (x : Int) (e : x = (k : Int)) : IntKind.i64.wrap x = (k : Int) := by
  subst e
  rw [IntKind.wrap_i64]
  omega
theorem grown_after {w w1 w2 : World} {B : Nat} {row : Option Nat} (hb : Below w.heap.size w w1) (hg : w1.grownBy w2 row) : w.grownBy w2 row :=
  ⟨hg.os.trans hb.os, hg.tape.trans hb.tape, hg.output.trans hb.output, Nat.le_trans hb.size hg.size, fun k hk hn => (hg.block k (Nat.lt_of_lt_of_le hk hb.size) hn).trans (hb.block k hk)⟩
set_option maxHeartbeats 1000000 in
theorem pplace (b off n c i : Nat) (w : World) (hi : i / 16 < n) (h : i ≤ 1000) :
    Calls Tryz.prog 167 #[.slice (some ⟨b, off, none⟩) n c, .int .i64 (i : Int)] w fun e w' => e = .returned (.slice (some ⟨b, off + 4 * i, none⟩) 4 (64 - i % 16 * 4)) ∧ w = w' := by
  have HQ := Lib.hid (tdiv16 i h)
  have HR := Lib.hid (tmod16 i)
  have HM := Lib.hid (wrap_small (i % 16 * 4) (by omega) (((i % 16 : Nat) : Int) * 4) (by omega))
  have HA := Lib.hid (wrap_small (i % 16 * 4 + 4) (by omega) (((i % 16 * 4 : Nat) : Int) + 4) (by omega))
  have HI := Lib.hid hi
  have HE := Lib.hid (show off + i / 16 * 64 + i % 16 * 4 = off + 4 * i by omega)
  have HL := Lib.hid (show i % 16 * 4 + 4 - i % 16 * 4 = 4 by omega)
  have H64 := Lib.hid (show i % 16 * 4 + 4 ≤ 64 by omega)
  clear hi
  go_enter Tryz.func167, Tryz.ntmps167
  go_upto_region 1 with fail
  refine wp_region_lit ?_
  refine ag rfl (ah rfl (ev rfl)) ?_
  simp only [Act.put, aa, ae, af]
  refine ag rfl (ah rfl (ev rfl)) ?_
  simp only [Act.put, aa, ae, af]
  refine ag rfl (exec_quo rfl (ev rfl) evk (by decide) HQ.out) ?_
  simp only [Act.put, aa, ae, af]
  refine ag rfl (dw rfl (ev rfl) (ev rfl) HI.out) ?_
  simp only [Act.put, aa, ae, af]
  refine ag rfl (exec_allB rfl (ev rfl)) ?_
  simp only [Act.put, aa, ae, af]
  refine ag rfl (ar rfl (ev rfl)) ?_
  simp only [Act.put, aa, ae, af]
  refine wpList_nil ?_
  go_upto_region 2 with fail
  refine wp_region_lit ?_
  refine ag rfl (ah rfl (ev rfl)) ?_
  simp only [Act.put, aa, ae, af]
  refine ag rfl (fB rfl (ev rfl) evk (by decide) HR.out) ?_
  simp only [Act.put, aa, ae, af]
  refine ag rfl (exec_mul rfl (ev rfl) evk HM.out) ?_
  simp only [Act.put, aa, ae, af]
  refine ag rfl (ar rfl (ev rfl)) ?_
  simp only [Act.put, aa, ae, af]
  refine wpList_nil ?_
  go_upto_region 3 with fail
  refine wp_region_lit ?_
  refine ag rfl (ah rfl (ev rfl)) ?_
  simp only [Act.put, aa, ae, af]
  refine ag rfl (ah rfl (ev rfl)) ?_
  simp only [Act.put, aa, ae, af]
  refine ag rfl (ah rfl (ev rfl)) ?_
  simp only [Act.put, aa, ae, af]
  refine ag rfl (dL rfl (ev rfl) evk HA.out) ?_
  simp only [Act.put, aa, ae, af]
  refine ag rfl (exec_cutM (i % 16 * 4) (i % 16 * 4 + 4) rfl (ev rfl) (ev rfl) (ev rfl) (by omega) H64.out (by have := H64.out; omega)) ?_
  simp only [Act.put, aa, ae, af]
  refine ag rfl (ar rfl (ev rfl)) ?_
  simp only [Act.put, aa, ae, af]
  refine wpList_nil ?_
  go_wp2_with fail
  go_ret
  refine ⟨?_, rfl⟩
  rw [HE.out, HL.out]
  rfl
set_option maxHeartbeats 1000000 in
theorem ptell (A : Option Addr) (n c N : Nat) (b : List UInt8) (w : World) (hb : Rd w N A n b) (h1 : 1 ≤ n) (h2 : n ≤ 2) :
    Calls Tryz.prog 179 #[.slice A n c] w fun e w' => e = .returned (.int .i64 (val 8 b : Nat)) ∧ w = w' := by
  have HL := Lib.hid hb.1
  have hv : val 8 b < 65536 := by
    have h3 := val_lt (all_256 b)
    have h4 : 2 ^ (8 * b.length) ≤ 2 ^ (8 * 2) := Nat.pow_le_pow_right (by omega) (by have := hb.1; omega)
    omega
  have HV := Lib.hid hv
  have HP : Hid (piece b 0 n = b) := Lib.hid (by
    unfold piece
    rw [List.drop_zero, List.take_of_length_le (by have := hb.1; omega)])
  clear hv
  go_enter Tryz.func179, Tryz.ntmps179
  go_wp2_with fail
  refine (get_ok A n c N b 0 n w hb (by unfold maxLen; omega) h1 (by omega) (by omega)).mono ?_
  rintro e w1 ⟨rfl, rfl⟩
  rw [HP.out]
  have hv := HV.out
  clear HV hb HL HP
  generalize hvv : val 8 b = v at *
  have HVV := Lib.hid hvv
  clear hvv
  go_wp2
  go_ret
  exact ⟨by rw [HVV.out]; rfl, rfl⟩
set_option maxHeartbeats 1000000 in
theorem play (g off k c : Nat) (t : TypeId) (L : List UInt8) (n : Nat) (w : World) (hr : bI w g t L) (h1 : 1 ≤ k) (h2 : k ≤ 2) (hn : n < 256 ^ k) (hf : off + k ≤ L.length) :
    Calls Tryz.prog 168 #[.slice (some ⟨g, off, none⟩) k c, .int .i64 (n : Int)] w fun e w' => e = .returned (.tuple #[]) ∧ bI w' g t (splice L off (aW 8 k n)) ∧ w.grownBy w' (some g) := by
  have HR := Lib.hid hr
  have HL := Lib.hid (ax 8 k n)
  have HF := Lib.hid hf
  have hn2 : n < 65536 := by
    have h4 : 256 ^ k ≤ 256 ^ 2 := Nat.pow_le_pow_right (by omega) h2
    omega
  have HN := Lib.hid hn
  clear hr hf hn
  go_enter Tryz.func168, Tryz.ntmps168
  go_wp2_with fail
  refine (put_ok n k w h1 (by omega) HN.out).mono ?_
  rintro e w1 ⟨v, rfl, hv, hb⟩
  have hvm := hv.made
  obtain ⟨A, cc, rfl, hrd, _, _⟩ := hvm.open_ HL.out
  have HRD := Lib.hid hrd
  have HR1 := Lib.hid (HR.out.below HR.out.lt hb)
  have HB := Lib.hid hb
  clear hv hvm hrd hb HR HN
  go_wp2_with (first | (refine cu rfl _ _ rfl g off k c k cc _ A t L (aW 8 k n) rfl rfl HR1.out HRD.out (Nat.le_refl _) ?_ ?_) | fail)
  · exact HF.out
  intro w2 hr2 hg2
  have HR2 := Lib.hid hr2
  have HG2 := Lib.hid (grown_after (B := 0) HB.out hg2)
  clear hr2 hg2
  go_wp2_with fail
  go_end0
  exact ⟨rfl, HR2.out, HG2.out⟩
def zer (n : Nat) : List UInt8 := List.replicate n 0
theorem fE (n : Nat) : (zer n).length = n := by simp [zer]
theorem zer_add (a b : Nat) : zer (a + b) = zer a ++ zer b := by simp [zer]
theorem zer_one : zer 1 = [0] := rfl
theorem splice_at {a z c x : List UInt8} {p : Nat} (hp : a.length = p) (hz : z.length = x.length) : splice (a ++ (z ++ c)) p x = a ++ (x ++ c) := by
  subst hp
  unfold splice
  rw [List.take_left' rfl, ← List.drop_drop, List.drop_left' rfl, List.drop_left' hz]
def lyL (l : List Cl) (k : Nat) : List UInt8 := rowC (l.take k) ++ (zer (64 * hd l.length - 4 * k) ++ (cC (blks (l.take k)) ++ zer (64 * l.length - 64 * k)))
def lyA (l : List Cl) (k : Nat) (s : Nat) : List UInt8 := splice (lyL l k) (4 * k) (aW 8 2 s)
def lyB (l : List Cl) (k : Nat) (s m : Nat) : List UInt8 := splice (lyA l k s) (4 * k + 2) (aW 8 1 m)
theorem lyL_zero (l : List Cl) : lyL l 0 = zer (64 * (hd l.length + l.length)) := by
  unfold lyL
  rw [List.take_zero, Nat.mul_add, zer_add]
  rfl
theorem lyL_all (l : List Cl) : lyL l l.length = cC (bE l) := by
  unfold lyL
  rw [byts_recL, List.take_length, Nat.sub_self, show zer 0 = [] from rfl, List.append_nil, List.append_assoc]
  rfl
section
variable {l : List Cl} {k s m : Nat} {b : Blk} (hk : k < l.length)
include hk
theorem lyL_split : lyL l k = rowC (l.take k) ++ (zer 2 ++ (zer 1 ++ (zer 1 ++ (zer (64 * hd l.length - 4 * (k + 1)) ++ (cC (blks (l.take k)) ++ (zer 64 ++ zer (64 * l.length - 64 * (k + 1)))))))) := by
  have hle := hd_le l.length
  have e1 : zer (64 * hd l.length - 4 * k) = zer 2 ++ (zer 1 ++ (zer 1 ++ zer (64 * hd l.length - 4 * (k + 1)))) := by
    rw [← zer_add, ← zer_add, ← zer_add]
    congr 1
    omega
  have e2 : zer (64 * l.length - 64 * k) = zer 64 ++ zer (64 * l.length - 64 * (k + 1)) := by
    rw [← zer_add]
    congr 1
    omega
  unfold lyL
  rw [e1, e2]
  simp only [List.append_assoc]
theorem len_take : (rowC (l.take k)).length = 4 * k := by rw [fe, List.length_take, Nat.min_eq_left (by omega)]
theorem lyA_split : lyA l k s = (rowC (l.take k) ++ aW 8 2 s) ++ (zer 1 ++ (zer 1 ++ (zer (64 * hd l.length - 4 * (k + 1)) ++ (cC (blks (l.take k)) ++ (zer 64 ++ zer (64 * l.length - 64 * (k + 1))))))) := by
  unfold lyA
  rw [lyL_split hk, splice_at (len_take hk) (by rw [fE, ax]), List.append_assoc]
theorem lyB_split : lyB l k s m = (rowC (l.take k) ++ (aW 8 2 s ++ (aW 8 1 m ++ (zer 1 ++ (zer (64 * hd l.length - 4 * (k + 1)) ++ cC (blks (l.take k))))))) ++ (zer 64 ++ zer (64 * l.length - 64 * (k + 1))) := by
  unfold lyB
  rw [lyA_split hk, splice_at (by rw [List.length_append, len_take hk, ax]) (by rw [fE, ax])]
  simp only [List.append_assoc]
theorem lyL_next (hx : l.getD k ci = ⟨(s : Int), (m : Int), b⟩) : splice (lyB l k s m) (64 * (hd l.length + k)) b.toList = lyL l (k + 1) := by
  have hle := hd_le l.length
  have hlb : (cC (blks (l.take k))).length = 64 * k := by rw [cG, blks_length, List.length_take, Nat.min_eq_left (by omega)]
  rw [lyB_split hk, splice_at (by simp only [List.length_append, len_take hk, ax, fE, hlb]; omega) (by rw [fE, cD])]
  have hx2 : l[k] = ⟨(s : Int), (m : Int), b⟩ := by simpa [List.getD, hk] using hx
  have et : l.take (k + 1) = l.take k ++ [⟨(s : Int), (m : Int), b⟩] := by rw [List.take_succ_eq_append_getElem hk, hx2]
  unfold lyL
  rw [et, rowC_append, show blks (l.take k ++ [⟨(s : Int), (m : Int), b⟩]) = blks (l.take k) ++ [b] from by simp [blks], byts_append, show cC [b] = b.toList from by simp [cC]]
  rw [show rowC [⟨(s : Int), (m : Int), b⟩] = aW 8 2 s ++ (aW 8 1 m ++ zer 1) from by simp [rowC, pl4, zer_one]]
  simp only [List.append_assoc]
theorem lyL_length : (lyL l k).length = 64 * (hd l.length + l.length) := by
  have hle := hd_le l.length
  unfold lyL
  simp only [List.length_append, len_take hk, fE, cG, blks_length, List.length_take]
  rw [Nat.min_eq_left (by omega)]
  omega
theorem lyA_length : (lyA l k s).length = 64 * (hd l.length + l.length) := by
  have hle := hd_le l.length
  unfold lyA
  rw [length_splice _ _ _ (by rw [lyL_length hk, ax]; omega), lyL_length hk]
theorem lyB_length : (lyB l k s m).length = 64 * (hd l.length + l.length) := by
  have hle := hd_le l.length
  unfold lyB
  rw [length_splice _ _ _ (by rw [lyA_length hk, ax]; omega), lyA_length hk]
end
theorem vals_byts (l : List Blk) : vals (cC l) = flat l := byts_flat l
theorem byts_zero (n : Nat) : cC (List.replicate n al) = zer (64 * n) := by
  induction n with
  | zero => rfl
  | succ n ih =>
    rw [List.replicate_succ, byts_cons, ih, show al.toList = zer 64 from by decide, ← zer_add]
    congr 1
    omega
theorem rowL_made (w : World) (n : Nat) : bI (w.alloc (.cells (madeCells (cel al).toArray (n * 64)) 65)) w.heap.size 65 (zer (64 * n)) := by
  have h := holdsB_made w n
  unfold cj at h
  unfold bI
  rw [h, ← byts_zero, vals_byts]
theorem bI.holds {w : World} {g : Nat} {l : List Blk} (h : bI w g 65 (cC l)) : cj w g l := by
  unfold cj
  unfold bI at h
  rw [h, vals_byts]
theorem cj.made {w : World} {g B : Nat} {l : List Blk} (h : cj w g l) (hB : B ≤ g) (hm : l.length ≤ maxLen) : MadeB w B (.slice (some ⟨g, 0, none⟩) l.length l.length) l := by
  refine ⟨ef l, .inr ⟨g, l.length, _, rfl, hB, h, Nat.le_refl _, hm, by rw [List.size_toArray, ef], ?_⟩⟩
  exact List.take_of_length_le (by rw [ef]; exact Nat.le_refl _)
section
variable {ρ : Operand → Value} {o : Oper} {x y : Operand} {w : World} {n m : Nat}
theorem exec_makeC (ho : o.op = .makeSlice 112 x y) (hx : ρ x = .int .i64 (n : Int)) (hy : ρ y = .int .i64 (m : Int)) (hn : n ≤ m) (hm : m ≤ 4398046511104) :
    (execOp ρ o).run Tryz.prog w = .ok (.value (.slice (some ⟨w.heap.size, 0, none⟩) n m)) (w.alloc (.cells (madeCells (cel al).toArray (m * 64)) 65)) := by
  obtain ⟨i0, hi, hz0, hz1, hz2⟩ := info_parts infoB
  have hr := run_make (P := Tryz.prog) w 112 65 i0 (blk al) underS hi hz0 .i64 .i64 n m (by omega) (by omega) (by rw [hz2]; omega) (by omega)
  rw [hz1, d9] at hr
  simp only [Int.toNat_natCast] at hr
  unfold execOp
  simp only [ho, hx, hy, Sem.run_bind, hr, Result.andThen_ok, Sem.run_pure]
end
section
variable {ρ : Operand → Value} {o : Oper} {x : Operand} {w : World} {t e : TypeId} {A : Option Addr} {n c : Nat}
theorem a8 (hu : Tryz.prog.underlying t = some (.slice e)) (ho : o.op = .call { callee := .builtin .len, args := #[x], argTypes := #[t] }) (hx : ρ x = .slice A n c) : (execOp ρ o).run Tryz.prog w = .ok (.value (.int .i64 (n : Int))) w := by
  simp [execOp, ho, resolve, invoke, builtin, hx, Builtin.len_, run_underlying hu, Result.andThen]
  rfl
theorem exec_lenC (ho : o.op = .call { callee := .builtin .len, args := #[x], argTypes := #[34] }) (hx : ρ x = .slice A n c) : (execOp ρ o).run Tryz.prog w = .ok (.value (.int .i64 (n : Int))) w := a8 Tryz.underlying34 ho hx
theorem fu (ho : o.op = .call { callee := .builtin .len, args := #[x], argTypes := #[112] }) (hx : ρ x = .slice A n c) : (execOp ρ o).run Tryz.prog w = .ok (.value (.int .i64 (n : Int))) w := a8 Tryz.underlying112 ho hx
end
theorem exec_mk1B {ρ : Operand → Value} {o : Oper} {x : Operand} {w : World} {b : Blk} (ho : o.op = .buildSlice 112 1 #[(0, x)]) (hx : ρ x = blk b) :
    (execOp ρ o).run Tryz.prog w = .ok (.value (.slice (some ⟨w.heap.size, 0, none⟩) 1 1)) (w.alloc (.cells (cel b).toArray 65)) := by
  have h := exec_buildS (ρ := ρ) (o := o) (w := w) (n := 1) (parts := [(0, x)]) [b] ho (by simp [hx]) rfl (by omega) (by omega)
  rw [h]
  simp [flat]
theorem wpList_appL {w : World} {ops : Array Oper} {rest : List Oper} {o : Oper} {a : Act} {Q : Exit → Act → World → Prop} (hgd : o.guard = none) (s x : Operand)
    (ho : o.op = .call { callee := .builtin .append, args := #[s, x], argTypes := #[112, 112] })
    (g n c q : Nat) (L : List UInt8) (b : Blk) (hs : a.eval s = .slice (some ⟨g, 0, none⟩) n c) (hx : a.eval x = .slice (some ⟨q, 0, none⟩) 1 1) (hr : bI w g 65 L) (hq : w.rangeAt q 0 (cel b)) (hn : n + 1 ≤ c) (hf : 64 * (n + 1) ≤ L.length)
    (h : ∀ w', bI w' g 65 (splice L (64 * n) b.toList) → w.grownBy w' (some g) → wpList Tryz.prog ops Q rest (a.put o.dst (.slice (some ⟨g, 0, none⟩) (n + 1) c)) w') : wpList Tryz.prog ops Q (o :: rest) a w := by
  obtain ⟨i0, hi, hz0, hz1, hz2⟩ := info_parts infoB
  refine wpList_plain hgd fun K hK => ?_
  have hrun := run_append_room (P := Tryz.prog) w 112 o.type 65 i0 underS hi g n c (vals L).toArray hr ⟨q, 0, none⟩ 1 1 (cel b) (by rw [aw, hz1]) (fun j u hu => by
    rw [Addr.add_mid]
    exact hq j u hu) (cel_one b) hn (by rw [hz1, aw, List.size_toArray, bf]; omega)
  have e : (vals L).toArray.toList.take (n * i0.size) ++ cel b ++ (vals L).toArray.toList.drop (n * i0.size + (cel b).length) = vals (splice L (64 * n) b.toList) := by
    rw [← splice_vals, hz1, Nat.mul_comm n 64, aw]
    unfold splice
    rw [bf, cD, List.append_assoc]
    rfl
  rw [e] at hrun
  have hrow := setRow_heap w g (vals L).toArray (vals (splice L (64 * n) b.toList)).toArray 65 (0, 0) hr
  unfold Oper.wp
  simp [execOp, ho, resolve, invoke, builtin, hs, hx, hrun, Result.andThen]
  exact hK _ _ (h _ hrow ⟨rfl, rfl, rfl, by simp [World.setRow], fun k hk hne => setRow_other w g k _ (fun e => hne (by rw [e]))⟩)
structure LaidC (B : Nat) (w0 w : World) (g q : Nat) (x : Cl) (L : List UInt8) : Prop where
  row : bI w g 65 L
  cl : w.heap[q]? = some (.cells (ct x).toArray 104 (0, 0))
  bel : Below B w0 w
  g0 : B ≤ g
  ne : q ≠ g
section
variable {B : Nat} {w0 w w' : World} {g q : Nat} {x : Cl} {L L' : List UInt8}
theorem LaidC.grow (h : LaidC B w0 w g q x L) (hB : B ≤ w0.heap.size) (hr : bI w' g 65 L') (hg : w.grownBy w' (some g)) : LaidC B w0 w' g q x L' :=
  ⟨hr, eL h.cl hg h.ne, h.bel.grown hg (Nat.le_trans hB h.bel.size) (fun k hk => by injection hk with e; have := h.g0; omega), h.g0, h.ne⟩
theorem LaidC.draw (h : LaidC B w0 w g q x L) : LaidC B w0 w.drew g q x L := ⟨h.row, h.cl, bd h.bel, h.g0, h.ne⟩
theorem LaidC.past (h : LaidC B w0 w g q x L) (hB : B ≤ w0.heap.size) (o : Obj) : LaidC B w0 (w.alloc o) g q x L := ⟨h.row.past o, bQ h.cl o, h.bel.alloc (Nat.le_trans hB h.bel.size) o, h.g0, h.ne⟩
theorem LaidC.rng (h : LaidC B w0 w g q x L) : w.rangeAt q 0 (ct x) := ey h.cl
theorem LaidC.cells (h : LaidC B w0 w g q x L) : w.cell? ⟨q, 0, none⟩ = some (.int .i64 x.s) ∧ w.cell? ⟨q, 1, none⟩ = some (.int .i64 x.m) ∧ w.rangeAt q 2 (cel x.b) := by
  have h1 := pl_cells (cl_place h.rng)
  have h2 := cl_blk h.rng
  exact ⟨h1.1, h1.2, h2⟩
end
def cQ (p : Nat) (v : Value) (b : Nat) : Prop := b = p ∨ v.ownBlock = some b
section
variable {w w' : World} {p q : Nat} {v : Value} {x : LgS} {G : Nat → Prop}
theorem ldNts {ad : Addr} {A : Option Addr} {n c : Nat} (h : w.cell? ad = some (.slice A n c)) : (Instr.loadAt 86 (.pointer (some ad))).run Tryz.prog w = .ok (.slice A n c) w := by simp [go_sem, h]
end
section
variable {ρ : Operand → Value} {o : Oper} {x y : Operand} {w : World} {t r : TypeId} {a b : Nat}
theorem exec_sbU (ho : o.op = .binOp .sub t x y r) (hx : ρ x = .int .u64 ((a + b : Nat) : Int)) (hy : ρ y = .int .u64 (a : Int)) (h : a + b < 18446744073709551616) : (execOp ρ o).run Tryz.prog w = .ok (.value (.int .u64 (b : Int))) w := by
  have e : IntKind.u64.wrap (((a + b : Nat) : Int) - (a : Int)) = (b : Int) := by rw [show ((a + b : Nat) : Int) - (a : Int) = (b : Int) from by omega]; exact IntWalk.u64_in _ ⟨by omega, by omega⟩
  unfold execOp
  simp [ho, hx, hy, eqGuard, binOp, Op.intArith]
  simpa using e
theorem exec_cvU6I (ho : o.op = .convert 35 3 x) (hx : ρ x = .int .u64 (a : Int)) (h : a < 9223372036854775808) : (execOp ρ o).run Tryz.prog w = .ok (.value (.int .i64 (a : Int))) w := by
  have e : IntKind.i64.wrap (a : Int) = (a : Int) := IntWalk.i64_in _ ⟨by omega, by omega⟩
  have hc : (convert 35 3 (.int .u64 (a : Int))).run Tryz.prog w = .ok (.int .i64 (a : Int)) w := by simp [convert, go_sem, e]
  unfold execOp
  simp only [ho, hx, Sem.run_bind, hc, Result.andThen_ok, Sem.run_pure]
end
theorem sz_tak {n : Nte} (h : 1 ≤ n.cells ∧ n.cells ≤ 32) : sizN n.cells = aN n := by unfold sizN aN; rw [if_neg (by omega)]
section
variable {P : Program} {md : Region.Mode} {l : List Oper} {Q : Exit → Act → World → Prop} {S : World → Prop} {K : Act → World → Prop} {fuel : Nat} {listed : Array Bool} {a : Act} {w w' : World} {o : Oper} {v : Value}
theorem dQ (i : Nat) {f : FuncId} {vs : Array Value} (hi : l[i]? = some o) (hw : Region.wanted o (yielded l.toArray a.tmps) = true) (h : (execOp a.eval o).run P w = .ok (.enter f vs) w)
    (hc : Calls P f vs w fun e w' => ∃ v, e = .returned v ∧ K (a.put o.dst v) w') : wpOp P l.toArray Q i K a w := by
  unfold wpOp
  simp only [List.getElem?_toArray, hi, hw, if_true]
  refine .inl ?_
  unfold Oper.wp
  rw [h]
  exact hc.mono fun e w' ⟨v, he, hk⟩ => by subst he; exact hk
theorem op_val (i : Nat) (hi : l[i]? = some o) (hw : Region.wanted o (yielded l.toArray a.tmps) = true) (h : (execOp a.eval o).run P w = .ok (.value v) w') (hk : K (a.put o.dst v) w') : wpOp P l.toArray Q i K a w := by
  unfold wpOp
  simp only [List.getElem?_toArray, hi, hw, if_true]
  refine .inl ?_
  unfold Oper.wp
  rw [h]
  exact hk
theorem held_two (i j : Nat) (hr : Region.ready md l.toArray listed = [i, j])
    (h1 : wpOp P l.toArray Q i (fun a' w' => S w' ∧ wpAnyH P md l.toArray Q S fuel (listed.setIfInBounds i true) a' w') a w) (h2 : wpOp P l.toArray Q j (fun a' w' => S w' ∧ wpAnyH P md l.toArray Q S fuel (listed.setIfInBounds j true) a' w') a w) : wpAnyH P md l.toArray Q S (fuel + 1) listed a w :=
  wpAnyH_all hr (by simp) fun k hk => by
    have hk2 : k = i ∨ k = j := by simpa using hk
    rcases hk2 with rfl | rfl
    · exact h1
    · exact h2
theorem dG (i : Nat) (hr : Region.ready md l.toArray listed = [i])
    (h1 : wpOp P l.toArray Q i (fun a' w' => S w' ∧ wpAnyH P md l.toArray Q S fuel (listed.setIfInBounds i true) a' w') a w) : wpAnyH P md l.toArray Q S (fuel + 1) listed a w :=
  wpAnyH_all hr (by simp) fun k hk => by
    obtain rfl : k = i := by simpa using hk
    exact h1
end
def kept (K : Nat → Prop) (w w' : World) : Prop := ∀ b, K b → w'.heap[b]? = w.heap[b]?
theorem rng_kept {w w' : World} {b o : Nat} {cs : List Value} (h : w'.heap[b]? = w.heap[b]?) (hr : w.rangeAt b o cs) : w'.rangeAt b o cs := fun j v hj => (World.cell?_of_block (w := w) h).trans (hr j v hj)
theorem kept.trans {K : Nat → Prop} {w w1 w2 : World} (h : kept K w w1) (k : kept K w1 w2) : kept K w w2 := fun b hb => (k b hb).trans (h b hb)
end Go.Proofs.YtcafafdimcecpaaGreatDoor
