import Derived.Test.YtbbcdhkinbmdnaaGreatDoorLobh
import Derived.Test.YtbbcdhkinbmdnaaGreatDoorLoao
import Derived.Test.YtbbcdhkinbmdnaaGreatDoorLobk
import Derived.Test.YtbbcdhkinbmdnaaGreatDoorLoam
import Derived.Deep.DeepCutAuto
import Derived.Test.YtbbcdhkinbmdnaaGreatDoorLoay
import Derived.Test.YtbbcdhkinbmdnaaGreatDoorLoba
import Derived.Test.YtbbcdhkinbmdnaaGreatDoorLobc
import Derived.Test.YtbbcdhkinbmdnaaGreatDoorLoai
import Derived.Test.YtbbcdhkinbmdnaaGreatDoorLoZ
namespace Go.Proofs.YtbbcdhkinbmdnaaGreatDoor
open Go.RowKit
set_option linter.unusedVariables false
set_option linter.unusedSimpArgs false
set_option maxRecDepth 100000
theorem fill_5 : Instr.fill (fun i => some (i * 1, 1)) (cel ap).toArray [(0, .int .u8 5)] = some (cel (ap.set 0 5)).toArray := by kernel_rfl
theorem run_bldC1 (w : World) : (Instr.build 110 #[(1, blk (ap.set 0 5))]).run Tryz.prog w = .ok (clV lvC) w := by kernel_rfl
theorem exec_bldC1 {ρ : Operand → Value} {o : Oper} {y : Operand} {w : World} (ho : o.op = .build 110 #[(1, y)]) (hy : ρ y = blk (ap.set 0 5)) : (execOp ρ o).run Tryz.prog w = .ok (.value (clV lvC)) w := by
 unfold execOp
 simp only [ho, List.map_toArray, List.map_cons, List.map_nil, hy, Sem.run_bind, run_bldC1, Result.andThen_ok, Sem.run_pure]
theorem lv_appN : appN lvM1 lvX1 [lvC] = 1 ∧ appX lvM1 lvX1 [lvC] = lvX2 := by
 obtain ⟨h, _⟩ := lv_app
 exact ⟨by unfold appN; rw [if_pos h]; rfl, by unfold appX; rw [if_pos h]; rfl⟩
theorem lv_clrX : clrX lvM2 lvX2 2 = lvX3 := by
 obtain ⟨h, _⟩ := lv_clr
 unfold clrX
 rw [if_pos h]
 rfl
theorem lv_layB : layB lvM3 1 7 40 = lvM3 := if_neg fun e => by
 have h := lv_small
 obtain ⟨_, S, hw⟩ := lv_clr
 have he := hw.is
 obtain ⟨_, _, _, _, e5⟩ := of_decide_eq_true e
 rw [he] at e5
 have : bO ⟨⟨S, [], false⟩ :: lvR, 0, false, 20⟩ 1 = 12 := by
  unfold bO
  rw [if_pos (by simp [dV, lvR])]
  rfl
 omega
set_option maxHeartbeats 1600000 in
theorem llives (C : LogI) (w : World) (T : Tbs w) : Calls Tryz.prog 12 #[] w fun e w' => e = .returned (.bool true) ∧ Below w.heap.size w w' := by
 have HTB := af T
 clear T
 go_enter Tryz.func12, Tryz.ntmps12
 go_upto_region 1 with fail
 refine ag ?_
 refine ar rfl (av Tryz.call4 rfl (evc evk evn)) ?_
 refine (ltable C.R 50 w (by omega)).mono ?_
 rintro e w1 ⟨q, q2, F, F2, rfl, hb, hb2, hf, hf2, hd, hw⟩
 have HA := af (show BAt C w w.heap.size (fun _ => False) w1 q lvM from ⟨F, hb, hf, hw, Bas.start HTB.out, fun _ e => e.elim⟩)
 clear hb hb2 hf hf2 hd hw
 refine ⟨_, rfl, ?_⟩
 simp only [aa]
 refine ai rfl (aj rfl (ev rfl)) ?_;simp only [aa]
 iterate 3 (refine ai rfl (aD rfl (ev rfl) rfl) ?_;simp only [aa])
 iterate 3 (refine ai rfl (aq rfl (ev rfl)) ?_;simp only [aa])
 refine ah ?_
 go_upto_region 4 with fail
 refine ag ?_
 refine ai rfl (aj rfl (ev rfl)) ?_;simp only [aa]
 refine ar rfl (av Tryz.call8 rfl (evc (ev rfl) (evc evk evn))) ?_
 refine (BAt.open_ 0 HA.out).mono ?_
 rintro e w2 hq
 obtain ⟨rfl, hq, _⟩ := hq.no (by rw [lv_open]; decide)
 rw [lv_open]
 have HA2 := af hq
 clear hq HA
 refine ⟨_, rfl, ?_⟩
 simp only [aa]
 refine ai rfl (aj rfl (ev rfl)) ?_;simp only [aa]
 refine ai rfl (aD rfl (ev rfl) rfl) ?_;simp only [aa]
 refine ai rfl (aD rfl (ev rfl) rfl) ?_;simp only [aa]
 refine ai rfl (aq rfl (ev rfl)) ?_;simp only [aa]
 refine ai rfl (aq rfl (ev rfl)) ?_;simp only [aa]
 refine ah ?_
 go_upto_region 5 with fail
 refine ag ?_
 refine ai rfl (aj rfl (ev rfl)) ?_;simp only [aa]
 refine ar rfl (av Tryz.call55 rfl (evc (ev rfl) (evc evk (evc evk (evc evk evn))))) ?_
 refine (BAt.lay 0 7 40 HA2.out lv_room.1 (by omega)).mono ?_
 rintro e w3 hq
 obtain ⟨p, rfl, hq, _⟩ := hq.yes lv_lay.1
 have HL3 := af (show LAt C w w.heap.size (fun _ => False) w3 q p lvM1 lvX1 from hq)
 clear hq HA2
 refine ⟨_, rfl, ?_⟩
 simp only [aa]
 refine ai rfl (aj rfl (ev rfl)) ?_;simp only [aa]
 refine ai rfl (aD rfl (ev rfl) rfl) ?_;simp only [aa]
 refine ai rfl (aD rfl (ev rfl) rfl) ?_;simp only [aa]
 refine ai rfl (aq rfl (ev rfl)) ?_;simp only [aa]
 refine ai rfl (aq rfl (ev rfl)) ?_;simp only [aa]
 refine ah ?_
 go_upto_region 6 with fail
 refine ag ?_
 refine ai rfl (aj rfl (ev rfl)) ?_;simp only [aa]
 refine ar rfl (av Tryz.call41 rfl (evc (ev rfl) evn)) ?_
 refine (HL3.out.live lv_ok1).mono ?_
 rintro e w4 ⟨rfl, hb⟩
 have HL4 := af (HL3.out.below hb)
 rw [show ((lvX1.fst : Nat) : Int) = 1 from rfl, show ((lvX1.next : Nat) : Int) = 1 from rfl]
 clear hb HL3
 refine ⟨_, rfl, ?_⟩
 simp only [aa]
 refine ai rfl (aj rfl (ev rfl)) ?_;simp only [aa]
 refine ai rfl (aD rfl (ev rfl) rfl) ?_;simp only [aa]
 refine ai rfl (aD rfl (ev rfl) rfl) ?_;simp only [aa]
 refine ai rfl (aq rfl (ev rfl)) ?_;simp only [aa]
 refine ai rfl (aq rfl (ev rfl)) ?_;simp only [aa]
 refine ah ?_
 go_upto_region 7 with fail
 refine ag ?_
 refine ai rfl (aj rfl (ev rfl)) ?_;simp only [aa]
 refine ai rfl (b8 rfl fill_5) ?_;simp only [aa]
 refine ai rfl (exec_bldC1 rfl (ev rfl)) ?_;simp only [aa]
 refine ai rfl (du (E := bY) (a := lvC) rfl (ev rfl) rfl (by show 66 ≤ _; omega)) ?_;simp only [aa]
 have HB5 := af ((Below.refl w4.heap.size w4).alloc (Nat.le_refl _) (.cells (cG lvC).toArray 110))
 have HR5 := af (rdC_new1 w4 lvC)
 have HS5 : Hid (w4.heap.size + 1 ≤ (w4.alloc (.cells (cG lvC).toArray 110)).heap.size) := af (by rw [World.size_alloc]; exact Nat.le_refl _)
 have HL5 := af (HL4.out.below ((Below.refl w4.heap.size w4).alloc (Nat.le_refl _) (.cells (cG lvC).toArray 110)))
 change wpList _ _ _ _ _ (w4.alloc (.cells (cG lvC).toArray 110))
 generalize w4.alloc (.cells (cG lvC).toArray 110) = w5 at *
 clear HL4
 refine ar rfl (av Tryz.call47 rfl (evc (ev rfl) (evc (ev rfl) evn))) ?_
 refine (HL5.out.app (some ⟨w4.heap.size, 0, none⟩) 1 1 (w4.heap.size + 1) [lvC] lv_ok1 lv_room.2.1 HR5.out HS5.out (by unfold maxLen; omega)).mono ?_
 rintro e w6 ⟨rfl, hq, _⟩
 rw [lv_appN.1, lv_app.1]
 have HL6 := af (show LAt C w w.heap.size (fun _ => False) w6 q p lvM2 lvX2 by rw [← lv_appN.2]; exact hq)
 clear hq HL5 HR5 HS5
 refine ⟨_, rfl, ?_⟩
 simp only [aa]
 refine ai rfl (aj rfl (ev rfl)) ?_;simp only [aa]
 refine ai rfl (aD rfl (ev rfl) rfl) ?_;simp only [aa]
 refine ai rfl (aD rfl (ev rfl) rfl) ?_;simp only [aa]
 refine ai rfl (aq rfl (ev rfl)) ?_;simp only [aa]
 refine ai rfl (aq rfl (ev rfl)) ?_;simp only [aa]
 refine ah ?_
 go_upto_region 8 with fail
 refine ag ?_
 refine ai rfl (aj rfl (ev rfl)) ?_;simp only [aa]
 refine ar rfl (av Tryz.call42 rfl (evc (ev rfl) evn)) ?_
 refine (HL6.out.free lv_ok2).mono ?_
 rintro e w7 ⟨rfl, hb⟩
 have HL7 := af (HL6.out.below hb)
 rw [lv_free2]
 clear hb HL6
 refine ⟨_, rfl, ?_⟩
 simp only [aa]
 refine ai rfl (aq rfl (ev rfl)) ?_;simp only [aa]
 refine ah ?_
 go_upto_region 9 with fail
 refine ag ?_
 refine ai rfl (aj rfl (ev rfl)) ?_;simp only [aa]
 refine ar rfl (av Tryz.call50 rfl (evc (ev rfl) (evc evk evn))) ?_
 refine (HL7.out.rec_ 1 lv_ok2 (by omega)).mono ?_
 rintro e w8 ⟨v8, rfl, hm, hb⟩
 rw [lv_rcd.1]
 rw [lv_rcd.2] at hm
 have HL8 := af (HL7.out.guard (K' := fun b => v8.ownBlock = some b) hb (fun b e => .inr (hm.own_both b e)))
 have HM8 := af hm
 clear hb hm HL7
 refine ⟨_, rfl, ?_⟩
 simp only [aa]
 refine ai rfl (aj rfl (ev rfl)) ?_;simp only [aa]
 refine ai rfl (aD rfl (ev rfl) rfl) ?_;simp only [aa]
 refine ai rfl (aD rfl (ev rfl) rfl) ?_;simp only [aa]
 refine ai rfl (aq rfl (ev rfl)) ?_;simp only [aa]
 refine ai rfl (aq rfl (ev rfl)) ?_;simp only [aa]
 refine ah ?_
 go_upto_region 10 with fail
 refine ag ?_
 refine ai rfl (aj rfl (ev rfl)) ?_;simp only [aa]
 refine ar rfl (av Tryz.call53 rfl (evc (ev rfl) (evc evk evn))) ?_
 refine (HL8.out.clr 2 lv_ok2 lv_room.2.2 (by omega)).mono ?_
 rintro e w9 ⟨rfl, hq, hkp⟩
 rw [lv_clr.1]
 have HL9 := af (show LAt C w w.heap.size _ w9 q p lvM3 lvX3 by rw [← lv_clrX]; exact hq)
 have HM9 := af (HM8.out.kept_ hkp)
 clear hq hkp HL8 HM8
 refine ⟨_, rfl, ?_⟩
 simp only [aa]
 refine ai rfl (aq rfl (ev rfl)) ?_;simp only [aa]
 refine ah ?_
 go_upto_region 11 with fail
 refine ag ?_
 refine ai rfl (aj rfl (ev rfl)) ?_;simp only [aa]
 refine ar rfl (av Tryz.call50 rfl (evc (ev rfl) (evc evk evn))) ?_
 refine (HL9.out.rec_ 1 lv_ok3 (by omega)).mono ?_
 rintro e wa ⟨v10, rfl, _, hb⟩
 rw [lv_dead]
 have HLa := af (HL9.out.below hb)
 have HMa := af (HM9.out.below hb)
 clear hb HL9 HM9
 refine ⟨_, rfl, ?_⟩
 simp only [aa]
 refine ai rfl (aj rfl (ev rfl)) ?_;simp only [aa]
 refine ai rfl (aD rfl (ev rfl) rfl) ?_;simp only [aa]
 refine ai rfl (aD rfl (ev rfl) rfl) ?_;simp only [aa]
 refine ai rfl (aq rfl (ev rfl)) ?_;simp only [aa]
 refine ai rfl (aq rfl (ev rfl)) ?_;simp only [aa]
 refine ah ?_
 go_upto_region 12 with fail
 refine ag ?_
 refine ai rfl (aj rfl (ev rfl)) ?_;simp only [aa]
 refine ar rfl (av Tryz.call55 rfl (evc (ev rfl) (evc evk (evc evk (evc evk evn))))) ?_
 refine (HLa.out.lay 1 7 40 lv_room3 (by omega)).mono ?_
 rintro e wb ⟨hkp, ⟨h0, _⟩ | ⟨_, rfl, hq⟩⟩
 ·rw [lv_small] at h0; exact absurd h0 (by decide)
 rw [lv_small]
 have HLb := af (show LAt C w w.heap.size _ wb q p lvM3 lvX3 by rw [← lv_layB]; exact hq)
 have HMb := af (HMa.out.kept_ hkp)
 clear hq hkp HLa HMa
 obtain ⟨Ab, cb, rfl, hrb, hcb, _⟩ := HMb.out.open_ (show [lvC].length = 1 from rfl)
 have HRb := af hrb
 clear hrb HMb
 refine ⟨_, rfl, ?_⟩
 simp only [aa]
 refine ai rfl (aj rfl (ev rfl)) ?_;simp only [aa]
 refine ai rfl (aD rfl (ev rfl) rfl) ?_;simp only [aa]
 refine ai rfl (aD rfl (ev rfl) rfl) ?_;simp only [aa]
 refine ai rfl (aq rfl (ev rfl)) ?_;simp only [aa]
 refine ai rfl (aq rfl (ev rfl)) ?_;simp only [aa]
 refine ah ?_
 go_upto_region 13 with fail
 refine ag ?_
 refine ai rfl (aj rfl (ev rfl)) ?_;simp only [aa]
 refine ai (v := .bool true) rfl (aP true rfl (ev rfl) evk rfl) ?_;simp only [aa]
 refine ai (v := .bool true) rfl (aj rfl (ev rfl)) ?_;simp only [aa]
 refine al gr (aj rfl (ev rfl)) ?_;simp only [aa]
 refine al (v := .bool true) gr (aP true rfl (ev rfl) evk rfl) ?_;simp only [aa]
 refine ai (v := .bool true) rfl (aG rfl (ev rfl) (ev rfl)) ?_;simp only [aa]
 refine ai (v := .bool true) rfl (aj rfl (ev rfl)) ?_;simp only [aa]
 refine al gr (aj rfl (ev rfl)) ?_;simp only [aa]
 refine al (v := .bool true) gr (aP true rfl (ev rfl) evk rfl) ?_;simp only [aa]
 refine ai (v := .bool true) rfl (aG rfl (ev rfl) (ev rfl)) ?_;simp only [aa]
 refine ai (v := .bool true) rfl (aj rfl (ev rfl)) ?_;simp only [aa]
 refine al gr (aj rfl (ev rfl)) ?_;simp only [aa]
 refine al (v := .bool true) gr (aP true rfl (ev rfl) evk rfl) ?_;simp only [aa]
 refine ai (v := .bool true) rfl (aG rfl (ev rfl) (ev rfl)) ?_;simp only [aa]
 refine ai (v := .bool true) rfl (aj rfl (ev rfl)) ?_;simp only [aa]
 refine al gr (aj rfl (ev rfl)) ?_;simp only [aa]
 refine al (v := .bool true) gr (aP true rfl (ev rfl) evk rfl) ?_;simp only [aa]
 refine ai (v := .bool true) rfl (aG rfl (ev rfl) (ev rfl)) ?_;simp only [aa]
 refine ai (v := .bool true) rfl (aj rfl (ev rfl)) ?_;simp only [aa]
 refine al gr (aj rfl (ev rfl)) ?_;simp only [aa]
 refine al (v := .bool true) gr (aP true rfl (ev rfl) evk rfl) ?_;simp only [aa]
 refine ai (v := .bool true) rfl (aG rfl (ev rfl) (ev rfl)) ?_;simp only [aa]
 refine ai (v := .bool true) rfl (aj rfl (ev rfl)) ?_;simp only [aa]
 refine al gr (aj rfl (ev rfl)) ?_;simp only [aa]
 refine al (v := .bool true) gr (aP true rfl (ev rfl) evk rfl) ?_;simp only [aa]
 refine ai (v := .bool true) rfl (aG rfl (ev rfl) (ev rfl)) ?_;simp only [aa]
 refine ai (v := .bool true) rfl (aj rfl (ev rfl)) ?_;simp only [aa]
 refine al gr (aj rfl (ev rfl)) ?_;simp only [aa]
 refine al (v := .bool true) gr (aP true rfl (ev rfl) evk rfl) ?_;simp only [aa]
 refine ai (v := .bool true) rfl (aG rfl (ev rfl) (ev rfl)) ?_;simp only [aa]
 refine ai (v := .bool true) rfl (aj rfl (ev rfl)) ?_;simp only [aa]
 refine al gr (aj rfl (ev rfl)) ?_;simp only [aa]
 refine al gr (b8 rfl fill_5) ?_;simp only [aa]
 refine al gr (exec_bldC1 rfl (ev rfl)) ?_;simp only [aa]
 refine al gr (du (E := bY) (a := lvC) rfl (ev rfl) rfl (by show 66 ≤ _; omega)) ?_;simp only [aa]
 have HB5 := af ((Below.refl wb.heap.size wb).alloc (Nat.le_refl _) (.cells (cG lvC).toArray 110))
 have HR5 := af (rdC_new1 wb lvC)
 have HS5 : Hid (wb.heap.size + 1 ≤ (wb.alloc (.cells (cG lvC).toArray 110)).heap.size) := af (by rw [World.size_alloc]; exact Nat.le_refl _)
 have HL5 := af (HLb.out.below ((Below.refl wb.heap.size wb).alloc (Nat.le_refl _) (.cells (cG lvC).toArray 110)))
 change wpList _ _ _ _ _ (wb.alloc (.cells (cG lvC).toArray 110))
 generalize wb.alloc (.cells (cG lvC).toArray 110) = w5 at *
 clear HLb
 have HRc := af (HRb.out.step HB5.out)
 refine ar gr (av Tryz.call49 rfl (evc (ev rfl) (evc (ev rfl) evn))) ?_
 refine (cells_any Ab (some ⟨wb.heap.size, 0, none⟩) 1 1 cb 1 w5.heap.size [lvC] [lvC] w5 HRc.out (HR5.out.more HS5.out) (Nat.le_refl _) (by unfold maxLen; omega)).mono ?_
 rintro e w12 ⟨rfl, hb⟩
 rw [show decide ([lvC] = [lvC]) = true from decide_eq_true rfl]
 have HLc := af (HL5.out.below hb)
 clear hb
 refine ⟨_, rfl, ?_⟩
 simp only [aa]
 refine ai (v := .bool true) rfl (aG rfl (ev rfl) (ev rfl)) ?_;simp only [aa]
 refine ai (v := .bool true) rfl (aj rfl (ev rfl)) ?_;simp only [aa]
 refine al gr (aj rfl (ev rfl)) ?_;simp only [aa]
 refine al (v := .bool true) gr (aP true rfl (ev rfl) evk rfl) ?_;simp only [aa]
 refine ai (v := .bool true) rfl (aG rfl (ev rfl) (ev rfl)) ?_;simp only [aa]
 refine ai (v := .bool true) rfl (aj rfl (ev rfl)) ?_;simp only [aa]
 refine al gr (aj rfl (ev rfl)) ?_;simp only [aa]
 refine ar gr (av Tryz.call42 rfl (evc (ev rfl) evn)) ?_
 refine (HLc.out.free lv_ok3).mono ?_
 rintro e w13 ⟨rfl, hb⟩
 have HLd := af (HLc.out.below hb)
 rw [lv_free3]
 clear hb HLc
 refine ⟨_, rfl, ?_⟩
 simp only [aa]
 refine al (v := .bool true) gr (aP true rfl (ev rfl) evk rfl) ?_;simp only [aa]
 refine ai (v := .bool true) rfl (aG rfl (ev rfl) (ev rfl)) ?_;simp only [aa]
 refine ai (v := .bool true) rfl (aj rfl (ev rfl)) ?_;simp only [aa]
 refine al gr (aj rfl (ev rfl)) ?_;simp only [aa]
 refine al (v := .bool true) gr (aP true rfl (ev rfl) evk rfl) ?_;simp only [aa]
 refine ai (v := .bool true) rfl (aG rfl (ev rfl) (ev rfl)) ?_;simp only [aa]
 refine ai (v := .bool true) rfl (aj rfl (ev rfl)) ?_;simp only [aa]
 refine al gr (aj rfl (ev rfl)) ?_;simp only [aa]
 refine al (v := .bool true) gr (aP true rfl (ev rfl) evk rfl) ?_;simp only [aa]
 refine ai (v := .bool true) rfl (aG rfl (ev rfl) (ev rfl)) ?_;simp only [aa]
 refine ai (v := .bool true) rfl (aq rfl (ev rfl)) ?_;simp only [aa]
 refine ah ?_
 go_wp2_with fail
 go_ret
 exact ⟨rfl, HLd.out.bel⟩
def rdM (M : BenS) (x : LgS) (y : Nte) (k : Nat) : List Blk := (List.range (bc y)).map fun i => if i < k then cq M x.d (bK x.size (y.pos + i)) else ap
theorem rdM_len (M : BenS) (x : LgS) (y : Nte) (k : Nat) : (rdM M x y k).length = bc y := by simp [rdM]
theorem rdM_0 (M : BenS) (x : LgS) (y : Nte) : rdM M x y 0 = List.replicate (bc y) ap := by
 apply List.ext_getElem
 ·simp [rdM]
 ·intro j h1 h2
  simp [rdM]
theorem rdM_set {M : BenS} {x : LgS} {y : Nte} {k : Nat} (hk : k < bc y) : (rdM M x y k).set k (cq M x.d (bK x.size (y.pos + k))) = rdM M x y (k + 1) := by
 apply List.ext_getElem
 ·simp [rdM]
 ·intro j h1 h2
  rw [List.getElem_set]
  simp only [rdM, List.getElem_map, List.getElem_range]
  by_cases e : k = j
  ·subst e; rw [if_pos rfl, if_pos (by omega)]
  ·rw [if_neg e]
   by_cases e2 : j < k
   ·rw [if_pos e2, if_pos (by omega)]
   ·rw [if_neg e2, if_neg (by omega)]
theorem rdM_all (M : BenS) (x : LgS) (y : Nte) : rdM M x y (bc y) = rcdL M x y := by
 unfold rdM rcdL
 exact List.map_congr_left fun j hj => if_pos (List.mem_range.1 hj)
theorem sec_same {M : BenS} {x : LgS} {N a b : Nat} (hk : LgOk M x N) : bT M x.d (bK x.size a) = bT M x.d (bK x.size b) := by
 have hl := hk.len
 have hs := hk.siz
 have h1 := Nat.mod_lt a (show 0 < x.size by omega)
 have h2 := Nat.mod_lt b (show 0 < x.size by omega)
 exact rd_same ⟨by unfold bK; omega, by unfold bK; omega⟩ ⟨by unfold bK; omega, by unfold bK; omega⟩
theorem exec_idxB {ρ : Operand → Value} {o : Oper} {x y : Operand} {w : World} {g j n c : Nat} (ho : o.op = .indexAddr 123 x y) (hx : ρ x = .slice (some ⟨g, 0, none⟩) n c) (hy : ρ y = .int .i64 (j : Int)) (hj : j < n) : (execOp ρ o).run Tryz.prog w = .ok (.value (.pointer (some ⟨g, j * 64, none⟩))) w := by
 have := dD (w := w) ho hx hy hj
 rwa [Nat.zero_add] at this
def Laid_ (w : World) (E : Int) (L : List Blk) (n : Nat) (e : Ending) (w' : World) : Prop :=
 Below w.heap.size w w' ∧ ((E = 0 ∧ ∃ g, e = .returned (.tuple #[.slice (some ⟨g, 0, none⟩) n n, .int .i64 0]) ∧ cE w' g L ∧ w.heap.size ≤ g) ∨ (E ≠ 0 ∧ e = .returned (.tuple #[.slice none 0 0, .int .i64 E])))
set_option maxHeartbeats 2000000 in
theorem pllaid {w0 w : World} {H K : Nat → Prop} {p q N : Nat} {v : Value} {M : BenS} {x : LgS} (y : Nte) (h : PJ w0 H K w p q v M x) (hk : LgOk M x N) (hy : 1 ≤ y.cells ∧ y.cells ≤ 32) (hp : y.pos + bc y ≤ 4611686018427387904) : Calls Tryz.prog 92 #[.pointer (some ⟨p, 0, none⟩), nte y] w (Laid_ w (bT M x.d (bK x.size y.pos)) (rcdL M x y) (bc y)) := by
 have htk : 2 ≤ bc y ∧ bc y ≤ 34 := by unfold bc hd; omega
 have hsz := hk.siz
 obtain ⟨t, ht⟩ : ∃ t, bc y = t := ⟨_, rfl⟩
 obtain ⟨E, hE⟩ : ∃ E, bT M x.d (bK x.size y.pos) = E := ⟨_, rfl⟩
 have HSAME : Hid (∀ j, bT M x.d (bK x.size (y.pos + j)) = E) := af fun j => (sec_same hk).trans hE
 have HALL := af (rdM_all M x y)
 have HR0 := af (rdM_0 M x y)
 have HRS : Hid (∀ k, k < t → (rdM M x y k).set k (cq M x.d (bK x.size (y.pos + k))) = rdM M x y (k + 1)) := af fun k hk => rdM_set (by rw [ht]; exact hk)
 have HRL : Hid (∀ k, (rdM M x y k).length = t) := af fun k => (rdM_len M x y k).trans ht
 obtain ⟨k1, k2, k3⟩ := dm w y
 have HSEC := af (plsectors (w.alloc (.cells (aQ y).toArray 35)) y (h.below k2).log hy hsz hp)
 have HY := af k1
 have HBW := af k2
 have HLE := af k3
 have HJ := af (h.below k2)
 rw [ht] at HSEC htk HALL HR0 ⊢
 rw [hE]
 have HTK := af htk
 clear h hk hy hp hsz htk ht hE k1 k2 k3
 go_enter Tryz.func92, Tryz.ntmps92
 go_upto_region 1 with (first | (refine ai rfl (cO rfl rfl) ?_) | fail)
 generalize w.alloc (.cells (aQ y).toArray 35) = w1 at *
 refine ag ?_
 refine ai rfl (aj rfl (ev rfl)) ?_;simp only [aa]
 refine ai rfl (bh (c := y) rfl (ev rfl) HY.out.range) ?_;simp only [aa]
 refine ar rfl (av Tryz.call122 rfl (evc (ev rfl) (evc (ev rfl) evn))) ?_
 refine HSEC.out.mono ?_
 rintro e w2 ⟨r, rfl, hm, hb⟩
 refine ⟨_, rfl, ?_⟩
 simp only [aa]
 refine ai rfl (aj rfl (ev rfl)) ?_;simp only [aa]
 refine ai rfl (aD rfl (ev rfl) rfl) ?_;simp only [aa]
 refine ai rfl (aD rfl (ev rfl) rfl) ?_;simp only [aa]
 refine ai rfl (aq rfl (ev rfl)) ?_;simp only [aa]
 refine ai rfl (aq rfl (ev rfl)) ?_;simp only [aa]
 refine ah ?_
 obtain ⟨g, c1, rfl, hbg, hg, hc1, hc2⟩ := hm.slice_ (by rw [secX_len]; have := HTK.out.1; omega)
 rw [secX_len] at hm hc1 ⊢
 have HM := af hm
 have HJ2 := af (HJ.out.below hb)
 have HB2 := af (HBW.out.trans (hb.mono (by have := HLE.out; omega)))
 clear hm hb hbg hg hc1 hc2 HSEC HY HBW HJ
 go_upto_region 4 with fail
 refine ag ?_
 refine ai rfl (aj rfl (ev rfl)) ?_;simp only [aa]
 refine ai rfl (cD Tryz.underlying53 rfl (ev rfl)) ?_;simp only [aa]
 refine ai rfl (exec_make rfl (ev rfl) (ev rfl) (by have := HTK.out.2; omega)) ?_;simp only [aa]
 refine ai rfl (aq rfl (ev rfl)) ?_;simp only [aa]
 refine ah ?_
 have HH := af (holdsB_made w2 t)
 have HAL := af ((Below.refl w2.heap.size w2).alloc (Nat.le_refl _) (.cells (madeCells (cel ap).toArray (t * 64)) 29))
 rw [← HR0.out] at HH
 have HGB : Hid (w.heap.size ≤ w2.heap.size) := af HB2.out.size
 have HJ2B : Hid (∀ w', Below w2.heap.size w2 w' → PJ w0 H K w' p q v M x) := af fun w' hb => HJ2.out.below hb
 have HM2B : Hid (∀ w', Below w2.heap.size w2 w' → aH IntE w' w1.heap.size (.slice (some ⟨g, 0, none⟩) t c1) (secX x.size y.pos t)) := af fun w' hb => HM.out.below hb
 generalize w2.alloc (.cells (madeCells (cel ap).toArray (t * 64)) 29) = w3 at *
 clear HM HJ2
 generalize w2.heap.size = gb at *
 go_wp2_with fail
 go_loopw [25] (fun i wr => ∃ k : Nat, k ≤ t ∧ i = .int .i64 k ∧ cE wr gb (rdM M x y k) ∧ Below gb w2 wr ∧ (0 < k → E = 0)) (fun i _ => t - (intOf i).toNat)
 case atStart => exact ⟨0, Nat.zero_le _, rfl, HH.out, HAL.out, fun e => absurd e (Nat.lt_irrefl _)⟩
 case round =>
  clear HH HAL
  obtain ⟨k, hk, rfl, hh, hb, hE0⟩ := hrel
  have ht34 := HTK.out.2
  by_cases hlt : k < t
  ·obtain ⟨hc, _⟩ := (HM2B.out wr hb).cellI hlt
   rw [secX_at hlt] at hc
   have HIX := af hc
   have HH := af hh
   have HB := af hb
   obtain ⟨c, hcc⟩ : ∃ c, cq M x.d (bK x.size (y.pos + k)) = c := ⟨_, rfl⟩
   have HCC := af hcc
   have HRK := af (HRS.out k hlt)
   have HRLK := af (HRL.out k)
   have HSK := af (HSAME.out k)
   rw [hcc] at HRK
   clear hc hh hb hcc hE0
   go_upto_region 7 with fail
   refine ag ?_
   refine ai rfl (aj rfl (ev rfl)) ?_;simp only [aa]
   refine ai rfl (exec_idxI rfl (ev rfl) (ev rfl) hlt) ?_;simp only [aa]
   refine ai rfl (au rfl (ev rfl) (bj HIX.out)) ?_;simp only [aa]
   refine ai rfl (aq rfl (ev rfl)) ?_;simp only [aa]
   refine ai rfl (aq rfl (ev rfl)) ?_;simp only [aa]
   refine ah ?_
   have hS : PLg wr.drew p q v x := (HJ2B.out wr.drew (bd HB.out)).log
   go_upto_region 8 with fail
   refine bH (fun w' => PLg w' p q v x) 17 (by kernel_rfl) ?_
   change cF _ _ _ _ _ _ 18 _ _ wr.drew
   refine gu 0 rfl (fun w' hw => aj rfl (ev rfl)) hS ?_;simp only [aa]
   refine gu 1 rfl (fun w' hw => aj rfl (ev rfl)) hS ?_;simp only [aa]
   refine gu 2 rfl (fun w' hw => aj rfl (ev rfl)) hS ?_;simp only [aa]
   refine gu 3 rfl (fun w' hw => aB rfl (ev rfl)) hS ?_;simp only [aa]
   refine gu 4 rfl (fun w' hw => am rfl (ev rfl) faQl0) hS ?_;simp only [aa]
   refine gu 5 rfl (fun w' hw => au rfl (ev rfl) (ldQp (PLg.c0 hw))) hS ?_;simp only [aa]
   refine gu 6 rfl (fun w' hw => aj rfl (ev rfl)) hS ?_;simp only [aa]
   refine gu 7 rfl (fun w' hw => aB rfl (ev rfl)) hS ?_;simp only [aa]
   refine gu 8 rfl (fun w' hw => am rfl (ev rfl) faQl1) hS ?_;simp only [aa]
   refine gu 9 rfl (fun w' hw => au rfl (ev rfl) (bj (PLg.c1 hw))) hS ?_;simp only [aa]
   refine gu 10 rfl (fun w' hw => aj rfl (ev rfl)) hS ?_;simp only [aa]
   refine cQ 11 rfl (by kernel_rfl) rfl (av Tryz.call68 rfl (evc (ev rfl) (evc (ev rfl) (evc (ev rfl) evn)))) ?_
   refine (PJ.read (x.d : Int) (bK x.size (y.pos + k)) (HJ2B.out wr.drew (bd HB.out))).mono ?_
   rintro e w5 ⟨rfl, hb5⟩
   rw [HCC.out, HSK.out]
   have HB5 := af ((bd HB.out).trans (hb5.mono (Nat.le_of_lt HH.out.lt)))
   have HH5 := af (cE.below (w := wr.drew) HH.out hb5)
   clear hb5
   have hS5 : PLg w5 p q v x := (HJ2B.out w5 HB5.out).log
   refine ⟨_, rfl, fun _ => hS5, ?_⟩
   simp only [aa]
   refine gu 12 rfl (fun w' hw => aj rfl (ev rfl)) hS5 ?_;simp only [aa]
   refine gu 13 rfl (fun w' hw => aD rfl (ev rfl) rfl) hS5 ?_;simp only [aa]
   refine gu 14 rfl (fun w' hw => aD rfl (ev rfl) rfl) hS5 ?_;simp only [aa]
   refine gu 15 rfl (fun w' hw => exec_idxB rfl (ev rfl) (ev rfl) hlt) hS5 ?_;simp only [aa]
   refine fy 16 rfl (by kernel_rfl) rfl (aR (c := c) rfl (ev rfl) (ev rfl) (HH5.out.there (by rw [HRLK.out]; exact hlt))) (fun _ => (HJ2B.out _ (below_setCells (B := gb) (o := k * 64) HB5.out (Nat.le_refl _) (cel c))).log) ?_
   simp only [Act.put]
   have HH6 := af (HH5.out.store (by rw [HRLK.out]; exact hlt) c)
   rw [HRK.out] at HH6
   have HB6 := af (below_setCells (B := gb) (o := k * 64) HB5.out (Nat.le_refl _) (cel c))
   have hS6 : PLg (w5.setCells gb (k * 64) (cel c)) p q v x := (HJ2B.out _ HB6.out).log
   refine bl 17 rfl (by kernel_rfl) rfl (aq rfl (ev rfl)) (fun e => absurd rfl e) ?_;simp only [aa]
   refine cm (by kernel_rfl) ?_ _
   clear hS hS5 hS6
   generalize w5.setCells gb (k * 64) (cel c) = w6 at *
   by_cases h0 : E = 0
   ·have hne : (E != 0) = false := by simp [h0]
    go_wp2_with fail
    go_roundw
    case rel => exact ⟨k + 1, by omega, by go_num, HH6.out, HB6.out, fun _ => h0⟩
    case measure => simp [intOf]; omega
   ·have hne : (E != 0) = true := by simpa using h0
    go_wp2_with fail
    go_ret2
    exact ⟨HB2.out.trans (HB6.out.mono HGB.out), .inr ⟨h0, rfl⟩⟩
  ·have hkt : k = t := by omega
   rw [hkt, HALL.out] at hh
   have HH := af hh
   have HB := af hb
   have HE0 : Hid (E = 0) := af (hE0 (by have := HTK.out.1; omega))
   clear hh hb hkt hE0
   go_wp2_with fail
   go_ret2
   exact ⟨HB2.out.trans (HB.out.mono HGB.out), .inl ⟨HE0.out, gb, rfl, HH.out, HGB.out⟩⟩
theorem rcd_none {M : BenS} {x : LgS} {s : Nat} (h : ¬ (x.fst ≤ s ∧ s < x.next)) : rcdE M x s = 7 ∧ rcdC M x s = [] := by
 have e : ¬ livQ x s = true := fun e => h (of_decide_eq_true e)
 have e1 : rcdE M x s = 7 := if_neg e
 exact ⟨e1, by unfold rcdC; rw [e1]; rfl⟩
theorem rcd_some {M : BenS} {x : LgS} {g : Nat} {y : Nte} (hg : g < x.nts.length) (hy : x.nts.getD g aM = y) :
  rcdE M x (x.fst + g) = (if bT M x.d (bK x.size y.pos) = 0 then rcdF (rcdL M x y) y else bT M x.d (bK x.size y.pos)) ∧ rcdC M x (x.fst + g) = (if rcdE M x (x.fst + g) = 0 then rgC (rcdL M x y) y.cells else []) := by
 have hl : livQ x (x.fst + g) = true := decide_eq_true ⟨by omega, by unfold LgS.next; omega⟩
 have hn : x.note (x.fst + g) = y := by unfold LgS.note; rw [Nat.add_sub_cancel_left]; exact hy
 refine ⟨?_, ?_⟩
 ·unfold rcdE
  rw [if_pos hl, hn]
 ·unfold rcdC
  rw [hn]
theorem PRec.err {M : BenS} {x : LgS} {s : Nat} {w w' : World} {e : Ending} {E : Int} (hE : rcdE M x s = E) (h0 : E ≠ 0) (hb : Below w.heap.size w w') (he : e = .returned (.tuple #[.slice none 0 0, .int .i64 E])) : PRec M x s w e w' := by
 refine ⟨.slice none 0 0, by rw [hE]; exact he, ?_, hb⟩
 unfold rcdC
 rw [hE, if_neg h0]
 exact aH.nil _ _
def RngN (w : World) (b off g : Nat) (y : Nte) : Prop := b < w.heap.size ∧ w.rangeAt b (off + g * aY.n) (aQ y)
theorem RngN.below {w w' : World} {b off g : Nat} {y : Nte} (h : RngN w b off g y) (hb : Below w.heap.size w w') : RngN w' b off g y := ⟨Nat.lt_of_lt_of_le h.1 hb.size, dR h.2 h.1 hb⟩
theorem plrec_no {w0 w : World} {H K : Nat → Prop} {p q N : Nat} {v : Value} {M : BenS} {x : LgS} (s : Nat) (h : PJ w0 H K w p q v M x) (hk : LgOk M x N) (hs : s < 18446744073709551616) (hno : ¬ (x.fst ≤ s ∧ s < x.next)) : Calls Tryz.prog 50 #[.pointer (some ⟨p, 0, none⟩), .int .u64 (s : Nat)] w (PRec M x s w) := by
 obtain ⟨g1, g2⟩ := rcd_none (M := M) hno
 have HE := af g1
 have HL := af h.log
 have HK := af hk
 clear g1 g2
 go_enter Tryz.func50, Tryz.ntmps50
 go_upto_region 1 with fail
 refine ag ?_
 refine ai rfl (aj rfl (ev rfl)) ?_;simp only [aa]
 refine ar rfl (av Tryz.call79 rfl (evc (ev rfl) evn)) ?_
 refine (plmade _ HL.out).mono ?_
 rintro e w1 ⟨rfl, rfl⟩
 refine ⟨_, rfl, ?_⟩
 simp only [aa]
 refine ai (v := .bool false) rfl (bf true rfl (ev rfl)) ?_;simp only [aa]
 refine ah ?_
 go_upto_region 3 with fail
 refine ag ?_
 refine ai rfl (aj rfl (ev rfl)) ?_;simp only [aa]
 refine ai rfl (aj rfl (ev rfl)) ?_;simp only [aa]
 refine ai rfl (aB rfl (ev rfl)) ?_;simp only [aa]
 refine ai rfl (am rfl (ev rfl) eK) ?_;simp only [aa]
 refine ai rfl (am rfl (ev rfl) faQm2) ?_;simp only [aa]
 refine ai rfl (au rfl (ev rfl) (bL (PLg.c5 HL.out))) ?_;simp only [aa]
 by_cases hlt : (s : Int) < (x.fst : Int)
 ·have H1 := af (decide_eq_true hlt)
  clear h hk hs hno hlt
  refine ai (v := .bool true) rfl (aZ true rfl (ev rfl) (ev rfl) H1.out) ?_;simp only [aa]
  refine aC 4 (v := .bool true) rfl (aj rfl (ev rfl)) (by kernel_rfl) ?_
  simp only [aJ, ae, aa]
  refine ai (v := .bool true) rfl (aG rfl (ev rfl) evk) ?_;simp only [aa]
  refine ah ?_
  go_wp2_with fail
  go_ret2
  exact PRec.err HE.out (by decide) (Below.refl _ _) rfl
 ·have H1 := af (decide_eq_false hlt)
  have H2 : Hid (decide ((x.next : Int) ≤ (s : Int)) = true) := af (decide_eq_true (by omega))
  clear h hk hs hno hlt
  refine ai (v := .bool false) rfl (aZ false rfl (ev rfl) (ev rfl) H1.out) ?_;simp only [aa]
  refine ai (v := .bool false) rfl (aj rfl (ev rfl)) ?_;simp only [aa]
  refine al gr (aj rfl (ev rfl)) ?_;simp only [aa]
  refine al gr (aj rfl (ev rfl)) ?_;simp only [aa]
  refine ar gr (av Tryz.call71 rfl (evc (ev rfl) evn)) ?_
  refine (plnext w HL.out HK.out).mono ?_
  rintro e w1 ⟨rfl, hb1⟩
  have HB1 := af hb1
  clear hb1
  refine ⟨_, rfl, ?_⟩
  simp only [aa]
  refine al (v := .bool true) gr (ce true rfl (ev rfl) (ev rfl) H2.out) ?_;simp only [aa]
  refine ai (v := .bool true) rfl (aE rfl (ev rfl) (ev rfl)) ?_;simp only [aa]
  refine ah ?_
  go_wp2_with fail
  go_ret2
  exact PRec.err HE.out (by decide) HB1.out rfl
theorem exec_idxNU {ρ : Operand → Value} {o : Oper} {x y : Operand} {w : World} {b off n c j : Nat} (ho : o.op = .indexAddr 78 x y) (hx : ρ x = .slice (some ⟨b, off, none⟩) n c) (hy : ρ y = .int .u64 (j : Int)) (hj : j < n) : (execOp ρ o).run Tryz.prog w = .ok (.value (.pointer (some ⟨b, off + j * 4, none⟩))) w := by
 have hs := eP aY w
 have hu : Tryz.prog.underlying 78 = some (.slice 35) := Tryz.underlying78
 have hs' : (sizeOf 35).run Tryz.prog w = .ok 4 w := hs
 exact dS ho hx hy (by simp [Instr.indexAt, asIntOf, run_underlying hu, add_mid, hs', hj])
set_option maxHeartbeats 2000000 in
theorem plrec_go {w0 w : World} {H K : Nat → Prop} {p q N : Nat} {v : Value} {M : BenS} {x : LgS} (s : Nat) (h : PJ w0 H K w p q v M x) (hk : LgOk M x N) (hs : s < 18446744073709551616) (hle : x.fst ≤ s ∧ s < x.next) : Calls Tryz.prog 50 #[.pointer (some ⟨p, 0, none⟩), .int .u64 (s : Nat)] w (PRec M x s w) := by
 obtain ⟨g, rfl⟩ : ∃ g, s = x.fst + g := ⟨s - x.fst, by omega⟩
 have hg : g < x.nts.length := by have := hle.2; unfold LgS.next at this; omega
 obtain ⟨n1, n2, n3, n4⟩ := hk.nts g hg
 have hend := hk.end_ hg
 have huse := hk.use
 have hhd := hk.hed
 have hlim := hk.lim
 have heig := hk.eig
 obtain ⟨y, hy⟩ : ∃ y, x.nts.getD g aM = y := ⟨_, rfl⟩
 obtain ⟨r1, r2⟩ := rcd_some (M := M) hg hy
 obtain ⟨A, c, rfl, h1, h2⟩ := h.log.slice
 obtain ⟨bg, off, rfl, hbg, hrg⟩ := h.log.row.rd.2 g hg
 rw [show aY.d = aM from rfl, hy] at hrg
 rw [hy] at n1 n2 n3 n4 hend
 have htk : 2 ≤ bc y ∧ bc y ≤ 34 := by unfold bc hd; omega
 have hps : y.pos + bc y ≤ 4611686018427387904 := by unfold LgS.head LgS.used at hhd; unfold LgS.used at hend; omega
 have HRA := af r1
 have HRB := af r2
 have HJ := af h
 have HL := af h.log
 have HK := af hk
 have HG := af hg
 have HRG := af (show RngN w bg off g y from ⟨hbg, hrg⟩)
 have HCL := af (show 1 ≤ y.cells ∧ y.cells ≤ 32 from ⟨n1, n2⟩)
 have HPS := af hps
 have HTK := af htk
 have H1 : Hid (decide (((x.fst + g : Nat) : Int) < (x.fst : Int)) = false) := af (decide_eq_false (by omega))
 have H2 : Hid (decide ((x.next : Int) ≤ ((x.fst + g : Nat) : Int)) = false) := af (decide_eq_false (by have := hle.2; omega))
 have HFL : Hid (x.fst + g < 18446744073709551616) := af hs
 clear h hk hs hle hg n1 n2 n3 n4 hend huse hhd hlim heig hy r1 r2 h1 h2 hbg hrg htk hps
 go_enter Tryz.func50, Tryz.ntmps50
 go_upto_region 1 with fail
 refine ag ?_
 refine ai rfl (aj rfl (ev rfl)) ?_;simp only [aa]
 refine ar rfl (av Tryz.call79 rfl (evc (ev rfl) evn)) ?_
 refine (plmade _ HL.out).mono ?_
 rintro e w1 ⟨rfl, rfl⟩
 refine ⟨_, rfl, ?_⟩
 simp only [aa]
 refine ai (v := .bool false) rfl (bf true rfl (ev rfl)) ?_;simp only [aa]
 refine ah ?_
 go_upto_region 3 with fail
 refine ag ?_
 refine ai rfl (aj rfl (ev rfl)) ?_;simp only [aa]
 refine ai rfl (aj rfl (ev rfl)) ?_;simp only [aa]
 refine ai rfl (aB rfl (ev rfl)) ?_;simp only [aa]
 refine ai rfl (am rfl (ev rfl) eK) ?_;simp only [aa]
 refine ai rfl (am rfl (ev rfl) faQm2) ?_;simp only [aa]
 refine ai rfl (au rfl (ev rfl) (bL (PLg.c5 HL.out))) ?_;simp only [aa]
 refine ai (v := .bool false) rfl (aZ false rfl (ev rfl) (ev rfl) H1.out) ?_;simp only [aa]
 refine ai (v := .bool false) rfl (aj rfl (ev rfl)) ?_;simp only [aa]
 refine al gr (aj rfl (ev rfl)) ?_;simp only [aa]
 refine al gr (aj rfl (ev rfl)) ?_;simp only [aa]
 refine ar gr (av Tryz.call71 rfl (evc (ev rfl) evn)) ?_
 refine (plnext w HL.out HK.out).mono ?_
 rintro e w1 ⟨rfl, hb1⟩
 have HB1 := af hb1
 clear hb1
 refine ⟨_, rfl, ?_⟩
 simp only [aa]
 refine al (v := .bool false) gr (ce false rfl (ev rfl) (ev rfl) H2.out) ?_;simp only [aa]
 refine ai (v := .bool false) rfl (aE rfl (ev rfl) (ev rfl)) ?_;simp only [aa]
 refine ah ?_
 have HJ1 := af (HJ.out.below HB1.out)
 have HRG1 := af (HRG.out.below HB1.out)
 have hS : PLg w1.drew p q (.slice (some ⟨bg, off, none⟩) x.nts.length c) x ∧ RngN w1.drew bg off g y := ⟨HJ1.out.drew.log, HRG1.out⟩
 go_upto_region 5 with fail
 refine bH (fun w' => PLg w' p q (.slice (some ⟨bg, off, none⟩) x.nts.length c) x ∧ RngN w' bg off g y) 14 (by kernel_rfl) ?_
 change cF _ _ _ _ _ _ 15 _ _ w1.drew
 refine gu 0 rfl (fun w' hw => aj rfl (ev rfl)) hS ?_;simp only [aa]
 refine gu 1 rfl (fun w' hw => aB rfl (ev rfl)) hS ?_;simp only [aa]
 refine gu 2 rfl (fun w' hw => am rfl (ev rfl) faQl4) hS ?_;simp only [aa]
 refine gu 3 rfl (fun w' hw => au rfl (ev rfl) (ldNts (PLg.c7 hw.1))) hS ?_;simp only [aa]
 refine gu 4 rfl (fun w' hw => aj rfl (ev rfl)) hS ?_;simp only [aa]
 refine gu 5 rfl (fun w' hw => aj rfl (ev rfl)) hS ?_;simp only [aa]
 refine gu 6 rfl (fun w' hw => aB rfl (ev rfl)) hS ?_;simp only [aa]
 refine gu 7 rfl (fun w' hw => am rfl (ev rfl) eK) hS ?_;simp only [aa]
 refine gu 8 rfl (fun w' hw => am rfl (ev rfl) faQm2) hS ?_;simp only [aa]
 refine gu 9 rfl (fun w' hw => au rfl (ev rfl) (bL (PLg.c5 hw.1))) hS ?_;simp only [aa]
 refine gu 10 rfl (fun w' hw => exec_sbU rfl (ev rfl) (ev rfl) HFL.out) hS ?_;simp only [aa]
 refine gu 11 rfl (fun w' hw => exec_idxNU rfl (ev rfl) (ev rfl) HG.out) hS ?_;simp only [aa]
 refine gu 12 rfl (fun w' hw => bh (c := y) rfl (ev rfl) hw.2.2) hS ?_;simp only [aa]
 refine bl 13 rfl (by kernel_rfl) rfl (bW rfl) (fun _ => ⟨(HJ1.out.below ((bd (Below.refl w1.heap.size w1)).alloc (Nat.le_refl _) _)).log, HRG1.out.below ((bd (Below.refl w1.heap.size w1)).alloc (Nat.le_refl _) _)⟩) ?_;simp only [aa]
 refine fy 14 rfl (by kernel_rfl) rfl (dk (c := y) rfl (ev rfl) (ev rfl)) (fun e => absurd rfl e) ?_
 simp only [Act.put]
 refine cm (by kernel_rfl) ?_ _
 have HY := af (bI.new w1.drew y)
 have HB2 := af ((bd (Below.refl w1.heap.size w1)).alloc (Nat.le_refl _) (.cells (aQ y).toArray 35))
 have HLE : Hid (w1.heap.size < (w1.drew.alloc (.cells (aQ y).toArray 35)).heap.size) := af (by rw [World.size_alloc]; exact Nat.lt_succ_self _)
 (try rw [show w1.drew.heap.size = w1.heap.size from rfl])
 rw [show w1.drew.heap.size = w1.heap.size from rfl] at HY
 generalize w1.drew.alloc (.cells (aQ y).toArray 35) = w2 at *
 have HJ2 := af (HJ1.out.below HB2.out)
 have HB12 := af (HB1.out.trans (HB2.out.mono HB1.out.size))
 have HW1 : Hid (w.heap.size ≤ w1.heap.size) := af HB1.out.size
 clear hS HJ1 HRG1 HB2 HB1 HJ HL HRG
 generalize w1.heap.size = nb at *
 go_upto_region 6 with fail
 refine ag ?_
 refine ai rfl (aj rfl (ev rfl)) ?_;simp only [aa]
 refine ai rfl (bh (c := y) rfl (ev rfl) HY.out.range) ?_;simp only [aa]
 refine ar rfl (av Tryz.call92 rfl (evc (ev rfl) (evc (ev rfl) evn))) ?_
 refine (pllaid y HJ2.out HK.out HCL.out HPS.out).mono ?_
 rintro e w3 ⟨hb3, ⟨hE, gb, rfl, hh, hgb⟩ | ⟨hE, rfl⟩⟩
 rotate_left 1
 ·have HE := af (HRA.out.trans (if_neg hE))
  have HB3 := af (HB12.out.trans (hb3.mono HB12.out.size))
  generalize bT M x.d (bK x.size y.pos) = E at *
  have hne : (E != 0) = true := by simpa using hE
  clear hb3
  refine ⟨_, rfl, ?_⟩
  simp only [aa]
  refine ai rfl (aj rfl (ev rfl)) ?_;simp only [aa]
  refine ai rfl (aD rfl (ev rfl) rfl) ?_;simp only [aa]
  refine ai rfl (aD rfl (ev rfl) rfl) ?_;simp only [aa]
  refine ai rfl (aq rfl (ev rfl)) ?_;simp only [aa]
  refine ai rfl (aq rfl (ev rfl)) ?_;simp only [aa]
  refine ah ?_
  go_wp2_with fail
  go_ret2
  exact PRec.err HE.out hE HB3.out rfl
 have HE := af (HRA.out.trans (if_pos hE))
 have HB3 := af (HB12.out.trans (hb3.mono HB12.out.size))
 have HJ3 := af (HJ2.out.below hb3)
 have HY3 := af (HY.out.below HLE.out hb3)
 have HZ3 : Hid (nb < w3.heap.size) := af (Nat.lt_of_lt_of_le HLE.out hb3.size)
 obtain ⟨R, hR⟩ : ∃ R, rcdL M x y = R := ⟨_, rfl⟩
 have hRl : R.length = bc y := by rw [← hR]; simp [rcdL]
 rw [hR] at hh HE
 have HRB2 : Hid (rcdC M x (x.fst + g) = if rcdE M x (x.fst + g) = 0 then rgC R y.cells else []) := af (by rw [← hR]; exact HRB.out)
 have hrd := hh.rd (bc y) (Nat.le_of_eq hRl.symm)
 rw [List.take_of_length_le (Nat.le_of_eq hRl)] at hrd
 obtain ⟨t, ht⟩ : ∃ t, bc y = t := ⟨_, rfl⟩
 rw [ht] at hrd HTK ⊢
 have HRD := af hrd
 clear hE hb3 hh hgb hR hRl hrd ht HRB HRA HJ2 HY HLE HB12
 refine ⟨_, rfl, ?_⟩
 simp only [aa]
 refine ai rfl (aj rfl (ev rfl)) ?_;simp only [aa]
 refine ai rfl (aD rfl (ev rfl) rfl) ?_;simp only [aa]
 refine ai rfl (aD rfl (ev rfl) rfl) ?_;simp only [aa]
 refine ai rfl (aq rfl (ev rfl)) ?_;simp only [aa]
 refine ai rfl (aq rfl (ev rfl)) ?_;simp only [aa]
 refine ah ?_
 go_upto_region 7 with fail
 refine ag ?_
 refine ai rfl (aj rfl (ev rfl)) ?_;simp only [aa]
 refine ai (v := .bool false) rfl (aU false rfl (ev rfl) evk rfl) ?_;simp only [aa]
 refine ah ?_
 go_upto_region 9 with fail
 refine aI (B := w3.heap.size) (by kernel_rfl) ?_
 refine ao rfl (fun w' hw => aj rfl (ev rfl)) ?_;simp only [aa]
 refine a9 rfl (fun _ => av Tryz.call83 rfl (evc (ev rfl) evn)) (aW (Nat.le_refl _) fun w' hw => ((psum (some ⟨gb, 0, none⟩) t t w3.heap.size R w' (HJ3.out.below hw).tab.m.tab (HRD.out.below hw) (by have := HTK.out.2; omega)).mono fun e w'' hh => ⟨hh.1, by rw [hh.2]; exact Below.refl _ _⟩)) ?_;simp only [aa]
 refine ao rfl (fun w' hw => am rfl (ev rfl) faNt3) ?_;simp only [aa]
 refine ao rfl (fun w' hw => au rfl (ev rfl) (ldU32 (HY3.out.below HZ3.out hw).cells.2.2.2)) ?_;simp only [aa]
 by_cases hsum : sumB R = y.sum
 ·have HNE : Hid (((sumB R : Int) != (y.sum : Int)) = false) := af (by simp [hsum])
  have HF := af (show rcdF R y = rgE R y.cells from if_pos hsum)
  clear hsum
  refine ao (v := .bool false) rfl (fun w' hw => aU false rfl (ev rfl) (ev rfl) HNE.out) ?_;simp only [aa]
  refine wpQuiet_nil ?_
  intro w4 hw
  have HY4 := af (HY3.out.below HZ3.out hw)
  have HRD4 := af (HRD.out.below hw)
  have HB4 := af (HB3.out.trans (hw.mono HB3.out.size))
  have HZ4 : Hid (w3.heap.size ≤ w4.heap.size) := af hw.size
  clear hw HRD HY3
  go_upto_region 11 with fail
  refine ag ?_
  refine ai rfl (aj rfl (ev rfl)) ?_;simp only [aa]
  refine ai rfl (am rfl (ev rfl) faNt2) ?_;simp only [aa]
  refine ai rfl (au rfl (ev rfl) (bj HY4.out.cells.2.2.1)) ?_;simp only [aa]
  refine ar rfl (av Tryz.call93 rfl (evc (ev rfl) (evc (ev rfl) evn))) ?_
  refine (pcget (some ⟨gb, 0, none⟩) t t w3.heap.size w4.heap.size R y.cells w4 (af rfl) HRD4.out HZ4.out (Nat.le_refl _) (by have := HTK.out.2; unfold maxLen; omega)).mono ?_
  rintro e w5 ⟨v5, rfl, hm5, hb5⟩
  refine ⟨_, rfl, ?_⟩
  simp only [aa]
  refine ai rfl (aD rfl (ev rfl) rfl) ?_;simp only [aa]
  refine ai rfl (aD rfl (ev rfl) rfl) ?_;simp only [aa]
  refine ai rfl (aq rfl (ev rfl)) ?_;simp only [aa]
  refine ai rfl (aq rfl (ev rfl)) ?_;simp only [aa]
  refine ah ?_
  go_wp2_with fail
  go_ret2
  refine ⟨v5, ?_, ?_, HB4.out.trans (hb5.mono HB4.out.size)⟩
  ·rw [HE.out, HF.out]
   rfl
  ·rw [HRB2.out, HE.out, HF.out]
   by_cases h0 : (rgE R y.cells : Int) = 0
   ·rw [if_pos h0]
    exact hm5.base HB4.out.size
   ·rw [if_neg h0]
    have : rgC R y.cells = [] := rgC_no (by omega)
    rw [this] at hm5
    exact hm5.base HB4.out.size
 ·have HNE : Hid (((sumB R : Int) != (y.sum : Int)) = true) := af (by simp; omega)
  have HF := af (show rcdF R y = 6 from if_neg hsum)
  clear hsum
  refine ao (v := .bool true) rfl (fun w' hw => aU true rfl (ev rfl) (ev rfl) HNE.out) ?_;simp only [aa]
  refine wpQuiet_nil ?_
  intro w4 hw
  have HB4 := af (HB3.out.trans (hw.mono HB3.out.size))
  clear hw
  go_wp2_with fail
  go_ret2
  exact PRec.err (HE.out.trans HF.out) (by decide) HB4.out rfl
theorem plrec {w0 w : World} {H K : Nat → Prop} {p q N : Nat} {v : Value} {M : BenS} {x : LgS} (s : Nat) (h : PJ w0 H K w p q v M x) (hk : LgOk M x N) (hs : s < 18446744073709551616) : Calls Tryz.prog 50 #[.pointer (some ⟨p, 0, none⟩), .int .u64 (s : Nat)] w (PRec M x s w) := by
 by_cases hle : x.fst ≤ s ∧ s < x.next
 ·exact plrec_go s h hk hs hle
 ·exact plrec_no s h hk hs hle
end Go.Proofs.YtbbcdhkinbmdnaaGreatDoor
