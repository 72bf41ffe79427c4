import Derived.Test.YtbbcdhkinbmdnaaGreatDoorLobm
import Derived.Test.YtbbcdhkinbmdnaaGreatDoorLobk
import Derived.Test.YtbbcdhkinbmdnaaGreatDoorLobl
import Derived.Test.YtbbcdhkinbmdnaaGreatDoorLoao
import Derived.Test.YtbbcdhkinbmdnaaGreatDoorLoZ
namespace Go.Proofs.YtbbcdhkinbmdnaaGreatDoor
open Go.RowKit
set_option linter.unusedVariables false
set_option linter.unusedSimpArgs false
set_option maxRecDepth 100000
theorem exec_eqP0 {ρ : Operand → Value} {o : Oper} {x y : Operand} {w : World} {t r te : TypeId} (hp : Tryz.prog.underlying t = some (.pointer te)) (ho : o.op = .binOp .eql t x y r) (hx : ρ x = .pointer none) (hy : ρ y = .pointer none) : (execOp ρ o).run Tryz.prog w = .ok (.value (.bool true)) w := by
 have h : ∀ d : Nat, (Op.equalIn (d + 1) t (.pointer none) (.pointer none)).run Tryz.prog w = .ok true w := fun d => by
  simp [Op.equalIn, run_underlying hp]
 unfold execOp
 simp [ho, hx, hy, eqGuard, binOp, Op.equal, Op.maxDepth, h 9999]
def numA (x : LgS) (a : Act14) : Nat := if a.Near then (x.fst + a.N % 11 + 18446744073709551615) % 18446744073709551616 else a.N
theorem numA_lt {x : LgS} {a : Act14} (h : a.N < 18446744073709551616) : numA x a < 18446744073709551616 := by
 unfold numA
 split
 ·exact Nat.mod_lt _ (by decide)
 ·exact h
set_option maxHeartbeats 1000000 in
theorem dknumber {w : World} {d q r s N : Nat} {l : Option Addr} {v : Value} {M : BenS} {x : LgS} (a : Act14) (hd : DkAt w d q r l (some ⟨s, 0, none⟩)) (hg : RLg w s r v x) (hk : LgOk M x N) (hN : a.N < 18446744073709551616) :
  Calls Tryz.prog 51 #[.pointer (some ⟨d, 0, none⟩), a.V] w fun e w' => e = .returned (.int .u64 (numA x a : Nat)) ∧ Below w.heap.size w w' := by
 have hb := (Below.refl w.heap.size w).alloc (Nat.le_refl _) (.cells a.C.toArray 55)
 have HB := af hb
 have HD := af (hd.below hb)
 have HG := af (hg.below hb)
 have HA := af (Act14.At_.new w a)
 have hf : x.fst + a.N % 11 < 18446744073709551616 := by
  have h1 := hk.nxt
  have h2 := hk.lim
  have h3 : x.next = x.fst + x.nts.length := rfl
  have := Nat.mod_lt a.N (show 0 < 11 by decide)
  omega
 obtain ⟨r, hr⟩ : ∃ r, a.N % 11 = r := ⟨_, rfl⟩
 obtain ⟨F, hF⟩ : ∃ F, x.fst + r = F := ⟨_, rfl⟩
 obtain ⟨R, hR⟩ : ∃ R, numA x a = R := ⟨_, rfl⟩
 have HNT : Hid (a.Near = true → IntKind.u64.wrap ((F : Int) - 1) = (R : Int)) := af fun e => by
  unfold numA at hR
  rw [if_pos e, hr, hF] at hR
  rw [IntKind.wrap_u64, ← hR]
  omega
 have HNF : Hid (a.Near = false → a.N = R) := af fun e => by
  unfold numA at hR
  rwa [if_neg (by rw [e]; decide)] at hR
 have HR : Hid ((a.N : Int).tmod 11 = (r : Int)) := af (by rw [← hr]; rfl)
 have HS : Hid (IntKind.u64.wrap ((x.fst : Int) + (r : Int)) = (F : Int)) := af (by rw [← hF]; exact u64w (by rw [← hr]; exact hf))
 rw [hR]
 clear hb hd hg hk hN hf hr hF hR
 go_enter Tryz.func51, Tryz.ntmps51
 go_upto_region 1 with (first | (refine ai rfl (gk rfl rfl) ?_) | fail)
 generalize w.alloc (.cells a.C.toArray 55) = w1 at *
 cases hnear : a.Near
 ·have HNR := af hnear
  have HV := af (HNF.out hnear)
  clear hnear
  refine ag ?_
  refine ai rfl (am rfl (ev rfl) faAct144) ?_;simp only [aa]
  refine ai (v := .bool false) rfl (au rfl (ev rfl) (by rw [← HNR.out]; exact ldBoolA (HA.out.f4))) ?_;simp only [aa]
  refine ai (v := .bool true) rfl (bf false rfl (ev rfl)) ?_;simp only [aa]
  refine ah ?_
  go_upto_region 2 with fail
  refine ag ?_
  refine ai rfl (am rfl (ev rfl) faAct143) ?_;simp only [aa]
  refine ai rfl (au rfl (ev rfl) (bL (HA.out.f3))) ?_;simp only [aa]
  refine ai rfl (aq rfl (ev rfl)) ?_;simp only [aa]
  refine ah ?_
  go_wp2_with fail
  go_ret
  exact ⟨by rw [← HV.out]; rfl, HB.out⟩
 have HNR := af hnear
 have HT := af (HNT.out hnear)
 clear hnear
 refine ag ?_
 refine ai rfl (am rfl (ev rfl) faAct144) ?_;simp only [aa]
 refine ai (v := .bool true) rfl (au rfl (ev rfl) (by rw [← HNR.out]; exact ldBoolA (HA.out.f4))) ?_;simp only [aa]
 refine ai (v := .bool false) rfl (bf true rfl (ev rfl)) ?_;simp only [aa]
 refine ah ?_
 go_upto_region 3 with fail
 refine aI (B := w1.heap.size) (by kernel_rfl) ?_
 refine ao rfl (fun w' hw => aj rfl (ev rfl)) ?_;simp only [aa]
 refine ao rfl (fun w' hw => aB rfl (ev rfl)) ?_;simp only [aa]
 refine ao rfl (fun w' hw => am rfl (ev rfl) faDk3) ?_;simp only [aa]
 refine ao rfl (fun w' hw => au rfl (ev rfl) (ldDkM ((HD.out.below hw).c3))) ?_;simp only [aa]
 refine ao rfl (fun w' hw => aB rfl (ev rfl)) ?_;simp only [aa]
 refine ao rfl (fun w' hw => am rfl (ev rfl) faLg5) ?_;simp only [aa]
 refine ao rfl (fun w' hw => au rfl (ev rfl) (bL (RLg.c5 (HG.out.below hw)))) ?_;simp only [aa]
 refine ao rfl (fun w' hw => am rfl (ev rfl) faAct143) ?_;simp only [aa]
 refine ao rfl (fun w' hw => au rfl (ev rfl) (bL ((Act14.At_.below HA.out (aK HA.out) hw).f3))) ?_;simp only [aa]
 refine ao rfl (fun w' hw => exec_remI rfl (ev rfl) evk (by decide) HR.out) ?_;simp only [aa]
 refine ao rfl (fun w' hw => exec_adU rfl (ev rfl) (ev rfl) HS.out) ?_;simp only [aa]
 refine ao rfl (fun w' hw => exec_sbI rfl (ev rfl) evk HT.out) ?_;simp only [aa]
 refine ao rfl (fun w' hw => aq rfl (ev rfl)) ?_;simp only [aa]
 refine wpQuiet_nil ?_
 intro w2 hw
 have HB2 := af (HB.out.trans (hw.mono HB.out.size))
 clear hw
 go_wp2_with fail
 go_ret
 exact ⟨rfl, HB2.out⟩
theorem dkalike0 {w : World} {d q r : Nat} (hd : DkAt w d q r none none) : Calls Tryz.prog 10 #[.pointer (some ⟨d, 0, none⟩)] w fun e w' => e = .returned (.bool true) ∧ Below w.heap.size w w' := by
 have HD := af hd
 clear hd
 go_enter Tryz.func10, Tryz.ntmps10
 go_upto_region 1 with fail
 refine ag ?_
 refine ai rfl (aj rfl (ev rfl)) ?_;simp only [aa]
 refine ai rfl (aB rfl (ev rfl)) ?_;simp only [aa]
 refine ai rfl (am rfl (ev rfl) faDk3) ?_;simp only [aa]
 refine ai rfl (au rfl (ev rfl) (ldDkM (HD.out.c3))) ?_;simp only [aa]
 refine ai (v := .bool true) rfl (exec_eqP0 Tryz.underlying44 rfl (ev rfl) evk) ?_;simp only [aa]
 refine ah ?_
 go_upto_region 2 with fail
 refine ag ?_
 refine ai rfl (aj rfl (ev rfl)) ?_;simp only [aa]
 refine ai rfl (aB rfl (ev rfl)) ?_;simp only [aa]
 refine ai rfl (am rfl (ev rfl) faDk2) ?_;simp only [aa]
 refine ai rfl (au rfl (ev rfl) (ldDkL (HD.out.c2))) ?_;simp only [aa]
 refine ai (v := .bool true) rfl (exec_eqP0 Tryz.underlying41 rfl (ev rfl) evk) ?_;simp only [aa]
 refine ai (v := .bool true) rfl (aq rfl (ev rfl)) ?_;simp only [aa]
 refine ah ?_
 go_wp2_with fail
 go_ret
 exact ⟨rfl, Below.refl _ _⟩
theorem dkon0 {w : World} {d q r : Nat} (a : Act14) (hd : DkAt w d q r none none) : Calls Tryz.prog 11 #[.pointer (some ⟨d, 0, none⟩), a.V] w fun e w' => e = .returned (.bool true) ∧ Below w.heap.size w w' := by
 have hb := (Below.refl w.heap.size w).alloc (Nat.le_refl _) (.cells a.C.toArray 55)
 have HB := af hb
 have HD := af (hd.below hb)
 clear hb hd
 go_enter Tryz.func11, Tryz.ntmps11
 go_upto_region 1 with (first | (refine ai rfl (gk rfl rfl) ?_) | fail)
 generalize w.alloc (.cells a.C.toArray 55) = w1 at *
 refine ag ?_
 refine ai rfl (aj rfl (ev rfl)) ?_;simp only [aa]
 refine ai rfl (aB rfl (ev rfl)) ?_;simp only [aa]
 refine ai rfl (am rfl (ev rfl) faDk3) ?_;simp only [aa]
 refine ai rfl (au rfl (ev rfl) (ldDkM (HD.out.c3))) ?_;simp only [aa]
 refine ai (v := .bool true) rfl (exec_eqP0 Tryz.underlying44 rfl (ev rfl) evk) ?_;simp only [aa]
 refine ah ?_
 go_upto_region 2 with fail
 refine ag ?_
 refine ai (v := .bool true) rfl (aq rfl evk) ?_;simp only [aa]
 refine ah ?_
 go_wp2_with fail
 go_ret
 exact ⟨rfl, HB.out⟩
set_option maxHeartbeats 1600000 in
theorem dkrec {C : LogI} {w0 w : World} {B d q r p s N : Nat} {K : Nat → Prop} {M : BenS} {x : LgS} (a : Act14) (ha : a.Do = 1) (hN : a.N < 18446744073709551616) (hd : DkAt w d q r (some ⟨p, 0, none⟩) (some ⟨s, 0, none⟩)) (h : TwoL C q p r s M x w0 B K w) (hk : LgOk M x N) :
  Calls Tryz.prog 11 #[.pointer (some ⟨d, 0, none⟩), a.V] w fun e w' => e = .returned (.bool true) ∧ Below w.heap.size w w' := by
 have hb := (Below.refl w.heap.size w).alloc (Nat.le_refl _) (.cells a.C.toArray 55)
 have HB := af hb
 have HD := af (hd.below hb)
 have H2 := af (h.below hb)
 have HA := af (Act14.At_.new w a)
 have HK := af hk
 have HF0 : Hid (∀ w', Act14.At_ w' w.heap.size a → w'.cell? ⟨w.heap.size, 0, none⟩ = some (.int .i64 1)) := af fun w' h => by rw [← ha]; exact h.f0
 have HNN := af hN
 have HNA := af (numA_lt (x := x) hN)
 clear hb hd h ha hk hN
 go_enter Tryz.func11, Tryz.ntmps11
 go_upto_region 1 with (first | (refine ai rfl (gk rfl rfl) ?_) | fail)
 generalize w.alloc (.cells a.C.toArray 55) = w1 at *
 refine ag ?_
 refine ai rfl (aj rfl (ev rfl)) ?_;simp only [aa]
 refine ai rfl (aB rfl (ev rfl)) ?_;simp only [aa]
 refine ai rfl (am rfl (ev rfl) faDk3) ?_;simp only [aa]
 refine ai rfl (au rfl (ev rfl) (ldDkM (HD.out.c3))) ?_;simp only [aa]
 refine ai (v := .bool false) rfl (exec_eqPs Tryz.underlying44 rfl (ev rfl) evk) ?_;simp only [aa]
 refine ah ?_
 go_upto_region 3 with fail
 refine ag ?_
 refine ai rfl (am rfl (ev rfl) faAct140) ?_;simp only [aa]
 refine ai rfl (au rfl (ev rfl) (bj (HF0.out _ HA.out))) ?_;simp only [aa]
 refine ah ?_
 go_upto_region 4 with fail
 refine ag ?_
 refine ai (v := .bool false) rfl (aP false rfl (ev rfl) evk rfl) ?_;simp only [aa]
 refine ai (v := .bool false) rfl (aq rfl (ev rfl)) ?_;simp only [aa]
 refine ah ?_
 go_upto_region 11 with fail
 refine ag ?_
 refine ai (v := .bool true) rfl (aP true rfl (ev rfl) evk rfl) ?_;simp only [aa]
 refine ai (v := .bool true) rfl (aq rfl (ev rfl)) ?_;simp only [aa]
 refine ah ?_
 go_upto_region 12 with fail
 refine bH (fun w' => DkAt w' d q r (some ⟨p, 0, none⟩) (some ⟨s, 0, none⟩) ∧ Act14.At_ w' w.heap.size a) 12 (by kernel_rfl) ?_
 change cF _ _ _ _ _ _ 13 _ _ w1.drew
 have hb : Below w1.heap.size w1 w1.drew := bd (Below.refl _ _)
 have HD_ := af (HD.out.below hb)
 have H2_ := af (H2.out.below hb)
 have HA_ := af (Act14.At_.below HA.out (aK HA.out) hb)
 have HB_ := af (HB.out.trans (hb.mono HB.out.size))
 clear hb HD H2 HA HB
 generalize w1.drew = wd12 at *
 have HD := HD_
 have H2 := H2_
 have HA := HA_
 have HB := HB_
 clear HD_ H2_ HA_ HB_
 refine gu 0 rfl (fun w' hw => aj rfl (ev rfl)) ⟨HD.out, HA.out⟩ ?_;simp only [aa]
 refine gu 1 rfl (fun w' hw => aB rfl (ev rfl)) ⟨HD.out, HA.out⟩ ?_;simp only [aa]
 refine gu 2 rfl (fun w' hw => am rfl (ev rfl) faDk2) ⟨HD.out, HA.out⟩ ?_;simp only [aa]
 refine gu 3 rfl (fun w' hw => au rfl (ev rfl) (ldDkL (hw.1.c2))) ⟨HD.out, HA.out⟩ ?_;simp only [aa]
 refine gu 4 rfl (fun w' hw => aj rfl (ev rfl)) ⟨HD.out, HA.out⟩ ?_;simp only [aa]
 refine gu 5 rfl (fun w' hw => exec_loadAct14 rfl (ev rfl) hw.2.range) ⟨HD.out, HA.out⟩ ?_;simp only [aa]
 refine cQ 6 rfl (by kernel_rfl) rfl (av Tryz.call51 rfl (evc (ev rfl) (evc (ev rfl) evn))) ?_
 obtain ⟨v_, hg⟩ := H2.out.rlg
 refine (dknumber a HD.out hg HK.out HNN.out).mono ?_
 rintro e w2 ⟨rfl, hb⟩
 have HD_ := af (HD.out.below hb)
 have H2_ := af (H2.out.below hb)
 have HA_ := af (Act14.At_.below HA.out (aK HA.out) hb)
 have HB_ := af (HB.out.trans (hb.mono HB.out.size))
 clear hg HD H2 HA HB hb
 refine ⟨_, rfl, fun _ => ⟨HD_.out, HA_.out⟩, ?_⟩
 simp only [aa]
 refine cQ 7 rfl (by kernel_rfl) rfl (av Tryz.call50 rfl (evc (ev rfl) (evc (ev rfl) evn))) ?_
 refine (H2_.out.lat.rec_ _ HK.out HNA.out).mono ?_
 rintro e w3 ⟨v12, rfl, hm, hb⟩
 have HD := af (HD_.out.below hb)
 have H2 := af (H2_.out.below hb)
 have HA := af (Act14.At_.below HA_.out (aK HA_.out) hb)
 have HB := af (HB_.out.trans (hb.mono HB_.out.size))
 have HC := af hm
 clear hm HD_ H2_ HA_ HB_ hb
 refine ⟨_, rfl, fun _ => ⟨HD.out, HA.out⟩, ?_⟩
 simp only [aa]
 refine gu 8 rfl (fun w' hw => aj rfl (ev rfl)) ⟨HD.out, HA.out⟩ ?_;simp only [aa]
 refine gu 9 rfl (fun w' hw => aD rfl (ev rfl) rfl) ⟨HD.out, HA.out⟩ ?_;simp only [aa]
 refine gu 10 rfl (fun w' hw => aD rfl (ev rfl) rfl) ⟨HD.out, HA.out⟩ ?_;simp only [aa]
 refine gu 11 rfl (fun w' hw => aq rfl (ev rfl)) ⟨HD.out, HA.out⟩ ?_;simp only [aa]
 refine bl 12 rfl (by kernel_rfl) rfl (aq rfl (ev rfl)) (fun e => absurd rfl e) ?_;simp only [aa]
 refine cm (by kernel_rfl) ?_ _
 go_upto_region 13 with fail
 refine bH (fun w' => DkAt w' d q r (some ⟨p, 0, none⟩) (some ⟨s, 0, none⟩) ∧ Act14.At_ w' w.heap.size a) 12 (by kernel_rfl) ?_
 change cF _ _ _ _ _ _ 13 _ _ w3.drew
 have hb : Below w3.heap.size w3 w3.drew := bd (Below.refl _ _)
 have HD_ := af (HD.out.below hb)
 have H2_ := af (H2.out.below hb)
 have HA_ := af (Act14.At_.below HA.out (aK HA.out) hb)
 have HB_ := af (HB.out.trans (hb.mono HB.out.size))
 have HC_ := af (HC.out.below hb)
 clear hb HD H2 HA HB HC
 generalize w3.drew = wd13 at *
 have HD := HD_
 have H2 := H2_
 have HA := HA_
 have HB := HB_
 have HC := HC_
 clear HD_ H2_ HA_ HB_ HC_
 refine gu 0 rfl (fun w' hw => aj rfl (ev rfl)) ⟨HD.out, HA.out⟩ ?_;simp only [aa]
 refine gu 1 rfl (fun w' hw => aB rfl (ev rfl)) ⟨HD.out, HA.out⟩ ?_;simp only [aa]
 refine gu 2 rfl (fun w' hw => am rfl (ev rfl) faDk3) ⟨HD.out, HA.out⟩ ?_;simp only [aa]
 refine gu 3 rfl (fun w' hw => au rfl (ev rfl) (ldDkM (hw.1.c3))) ⟨HD.out, HA.out⟩ ?_;simp only [aa]
 refine gu 4 rfl (fun w' hw => aj rfl (ev rfl)) ⟨HD.out, HA.out⟩ ?_;simp only [aa]
 refine gu 5 rfl (fun w' hw => exec_loadAct14 rfl (ev rfl) hw.2.range) ⟨HD.out, HA.out⟩ ?_;simp only [aa]
 refine cQ 6 rfl (by kernel_rfl) rfl (av Tryz.call51 rfl (evc (ev rfl) (evc (ev rfl) evn))) ?_
 obtain ⟨v_, hg⟩ := H2.out.rlg
 refine (dknumber a HD.out hg HK.out HNN.out).mono ?_
 rintro e w4 ⟨rfl, hb⟩
 have HD_ := af (HD.out.below hb)
 have H2_ := af (H2.out.below hb)
 have HA_ := af (Act14.At_.below HA.out (aK HA.out) hb)
 have HB_ := af (HB.out.trans (hb.mono HB.out.size))
 have HC_ := af (HC.out.below hb)
 clear hg HD H2 HA HB HC hb
 refine ⟨_, rfl, fun _ => ⟨HD_.out, HA_.out⟩, ?_⟩
 simp only [aa]
 refine cQ 7 rfl (by kernel_rfl) rfl (av Tryz.call52 rfl (evc (ev rfl) (evc (ev rfl) evn))) ?_
 refine (H2_.out.rec_ _ HK.out HNA.out).mono ?_
 rintro e w5 ⟨v13, rfl, hm, hb⟩
 have HD := af (HD_.out.below hb)
 have H2 := af (H2_.out.below hb)
 have HA := af (Act14.At_.below HA_.out (aK HA_.out) hb)
 have HB := af (HB_.out.trans (hb.mono HB_.out.size))
 have HE := af hm
 have HC := af (HC_.out.below hb)
 clear hm HD_ H2_ HA_ HB_ HC_ hb
 refine ⟨_, rfl, fun _ => ⟨HD.out, HA.out⟩, ?_⟩
 simp only [aa]
 refine gu 8 rfl (fun w' hw => aj rfl (ev rfl)) ⟨HD.out, HA.out⟩ ?_;simp only [aa]
 refine gu 9 rfl (fun w' hw => aD rfl (ev rfl) rfl) ⟨HD.out, HA.out⟩ ?_;simp only [aa]
 refine gu 10 rfl (fun w' hw => aD rfl (ev rfl) rfl) ⟨HD.out, HA.out⟩ ?_;simp only [aa]
 refine gu 11 rfl (fun w' hw => aq rfl (ev rfl)) ⟨HD.out, HA.out⟩ ?_;simp only [aa]
 refine bl 12 rfl (by kernel_rfl) rfl (aq rfl (ev rfl)) (fun e => absurd rfl e) ?_;simp only [aa]
 refine cm (by kernel_rfl) ?_ _
 obtain ⟨Ac, cc, rfl, hrc, hcl, hcm⟩ := HC.out.open_ rfl
 obtain ⟨Ad, cd, rfl, hrd, _, _⟩ := HE.out.open_ rfl
 have HRC := af hrc
 have HRD := af hrd
 have HLC : Hid ((rcdC M x (numA x a)).length ≤ maxLen) := af (Nat.le_trans hcl hcm)
 clear HC HE hrc hrd hcl hcm
 go_upto_region 14 with fail
 refine ag ?_
 refine ai rfl (aj rfl (ev rfl)) ?_;simp only [aa]
 refine ai rfl (aj rfl (ev rfl)) ?_;simp only [aa]
 refine ar rfl (av Tryz.call49 rfl (evc (ev rfl) (evc (ev rfl) evn))) ?_
 refine (cells_any Ac Ad _ _ cc cd _ _ _ _ HRC.out HRD.out (Nat.le_refl _) HLC.out).mono ?_
 rintro e w6 ⟨rfl, hb⟩
 rw [decide_eq_true rfl]
 have HB6 := af (HB.out.trans (hb.mono HB.out.size))
 clear hb
 refine ⟨_, rfl, ?_⟩
 simp only [aa]
 refine ai (v := .bool true) rfl (aj rfl (ev rfl)) ?_;simp only [aa]
 refine al gr (aj rfl (ev rfl)) ?_;simp only [aa]
 refine al gr (aj rfl (ev rfl)) ?_;simp only [aa]
 refine al (v := .bool true) gr (aP true rfl (ev rfl) (ev rfl) (beq_self_eq_true _)) ?_;simp only [aa]
 refine ai (v := .bool true) rfl (aG rfl (ev rfl) (ev rfl)) ?_;simp only [aa]
 refine ai (v := .bool true) rfl (aq rfl (ev rfl)) ?_;simp only [aa]
 refine ah ?_
 go_wp2_with fail
 go_ret
 exact ⟨rfl, HB6.out⟩
theorem exec_cv16K {ρ : Operand → Value} {o : Oper} {x : Operand} {w : World} {n : Nat} (ho : o.op = .convert 22 3 x) (hx : ρ x = .int .u16 (n : Int)) (hn : n < 65536) : (execOp ρ o).run Tryz.prog w = .ok (.value (.int .i64 (n : Int))) w := by
 have h : IntKind.i64.wrap (n : Int) = (n : Int) := i64w ⟨by omega, by omega⟩
 have hc : (convert 22 3 (.int .u16 (n : Int))).run Tryz.prog w = .ok (.int .i64 (n : Int)) w := by simp [convert, go_sem, h]
 unfold execOp
 simp only [ho, hx, Sem.run_bind, hc, Result.andThen_ok, Sem.run_pure]
theorem exec_rem16K {ρ : Operand → Value} {o : Oper} {x y : Operand} {w : World} {t r : TypeId} {a b c : Int} (ho : o.op = .binOp .rem t x y r) (hx : ρ x = .int .u16 a) (hy : ρ y = .int .u16 b) (h0 : b ≠ 0) (h : a.tmod b = c) : (execOp ρ o).run Tryz.prog w = .ok (.value (.int .u16 c)) w := by
 unfold execOp
 simp [ho, hx, hy, eqGuard, binOp, Op.intDiv, h, h0]
theorem exec_cvTU {ρ : Operand → Value} {o : Oper} {x : Operand} {w : World} {n : Nat} (ho : o.op = .convert 3 30 x) (hx : ρ x = .int .i64 (n : Int)) (hn : n < 65536) : (execOp ρ o).run Tryz.prog w = .ok (.value (.int .u64 (n : Int))) w := by
 have h : IntKind.u64.wrap (n : Int) = (n : Int) := u64w (by omega)
 have hc : (convert 3 30 (.int .i64 (n : Int))).run Tryz.prog w = .ok (.int .u64 (n : Int)) w := by simp [convert, go_sem, h]
 unfold execOp
 simp only [ho, hx, Sem.run_bind, hc, Result.andThen_ok, Sem.run_pure]
theorem forget_ {G : Act → World → Prop} {l : List Value} {ds : List Deferred} {w : World} (i : Nat) (h : ∀ u, G ⟨(l.set i u).toArray, ds⟩ w) : G ⟨l.toArray, ds⟩ w := by
 by_cases hi : i < l.length
 ·have := h l[i]
  rwa [List.set_getElem_self] at this
 ·have := h undef
  rwa [List.set_eq_of_length_le (by omega)] at this
theorem share4 {G : Prop} {T : Value → Value → Value → Value → Prop} (k : (∀ a b c d, T a b c d) → G) (h : ∀ a b c d, T a b c d) : G := k h
theorem faSp1 {w : World} {b off : Nat} : (Instr.fieldAt 37 (.pointer (some ⟨b, off, none⟩)) 1).run Tryz.prog w = .ok (.pointer (some ⟨b, off + 1, none⟩)) w := by kernel_rfl
theorem sp_n {w : World} {b off : Nat} {a : Spot14} (h : w.rangeAt b off a.C) : w.cell? ⟨b, off + 1, none⟩ = some (.int .i64 a.N) := h 1 _ rfl
theorem run_bldDk {w : World} (q r : Nat) (l m : Option Addr) : (Instr.build 49 #[(0, .pointer (some ⟨q, 0, none⟩)), (1, .pointer (some ⟨r, 0, none⟩)), (2, .pointer l), (3, .pointer m)]).run Tryz.prog w = .ok (.agg (dkC q r l m).toArray) w := by kernel_rfl
def actR (t : Nat) : Act14 := ⟨1, 0, none, 0, 0, t, true, 0, 0, 0, none, 0, 0⟩
theorem run_bldAc {w : World} (t : Nat) : (Instr.build 55 #[(0, .int .i64 1), (3, .int .u64 (t : Int)), (4, .bool true)]).run Tryz.prog w = .ok (actR t).V w := by kernel_rfl
theorem exec_bldAc {ρ : Operand → Value} {o : Oper} {x y z : Operand} {w : World} {t : Nat} (ho : o.op = .build 55 #[(0, x), (3, y), (4, z)]) (h0 : ρ x = .int .i64 1) (h1 : ρ y = .int .u64 (t : Int)) (h2 : ρ z = .bool true) : (execOp ρ o).run Tryz.prog w = .ok (.value (actR t).V) w := by
 unfold execOp
 simp [ho, h0, h1, h2, run_bldAc]
def Mid (q r : Nat) (M : BenS) (w0 : World) (l : Option Addr) (w : World) : Prop :=
 (dI M 0 = 0 ∧ ∃ p, l = some ⟨p, 0, none⟩ ∧ Two (fun w G => ey.J w G q p M (opnL M 0)) (fun w F => bF.Bn w F r M) w0 w0.heap.size (fun _ => False) w) ∨ (dI M 0 ≠ 0 ∧ l = none ∧ TwoB ey q r M w0 w0.heap.size (fun _ => False) w)
def Both (q r : Nat) (M : BenS) (w0 : World) (l m : Option Addr) (w : World) : Prop :=
 (dI M 0 = 0 ∧ ∃ p s, l = some ⟨p, 0, none⟩ ∧ m = some ⟨s, 0, none⟩ ∧ TwoL ey q p r s M (opnL M 0) w0 w0.heap.size (fun _ => False) w) ∨ (l = none ∧ m = none ∧ TwoB ey q r M w0 w0.heap.size (fun _ => False) w)
section
variable {w0 w w' : World} {q r d j : Nat} {M : BenS} {l m : Option Addr}
theorem opens_l (h : TwoB ey q r M w0 w0.heap.size (fun _ => False) w) : Calls Tryz.prog 8 #[.pointer (some ⟨q, 0, none⟩), .int .i64 0] w fun e w' => ∃ l, e = .returned (.tuple #[.pointer l, .int .i64 (dI M 0)]) ∧ Mid q r M w0 l w' := by
 refine (h.open_ 0).mono fun e w' ⟨hc, _⟩ => ?_
 rcases hc with ⟨e0, p, he, h2⟩ | ⟨e0, he, h2⟩
 ·exact ⟨_, by rw [e0]; exact he, .inl ⟨e0, p, rfl, h2⟩⟩
 ·exact ⟨_, he, .inr ⟨e0, rfl, h2⟩⟩
theorem opens_m (h : Mid q r M w0 l w) : Calls Tryz.prog 9 #[.pointer (some ⟨r, 0, none⟩), .int .i64 0] w fun e w' => ∃ m, e = .returned (.tuple #[.pointer m, .int .i64 (dI M 0)]) ∧ Both q r M w0 l m w' := by
 rcases h with ⟨h0, p, rfl, h⟩ | ⟨h0, rfl, h⟩
 ·refine (Two.opnR (sdJ ey q p M (opnL M 0)) h fun F hF => rlopen 0 hF).mono fun e w' ⟨hc, _⟩ => ?_
  rcases hc with ⟨e0, s, he, h2⟩ | ⟨e0, he, h2⟩
  ·exact ⟨_, by rw [e0]; exact he, .inl ⟨e0, p, s, rfl, rfl, h2⟩⟩
  ·exact absurd h0 e0
 ·refine (Two.opnR (sdB ey q M) h fun F hF => rlopen 0 hF).mono fun e w' ⟨hc, _⟩ => ?_
  rcases hc with ⟨e0, s, he, h2⟩ | ⟨e0, he, h2⟩
  ·exact absurd e0 h0
  ·exact ⟨_, he, .inr ⟨rfl, rfl, h2⟩⟩
theorem Both.below (h : Both q r M w0 l m w) (k : Below w.heap.size w w') : Both q r M w0 l m w' := by
 rcases h with ⟨h0, p, s, h1, h2, h⟩ | ⟨h1, h2, h⟩
 ·exact .inl ⟨h0, p, s, h1, h2, h.below k⟩
 ·exact .inr ⟨h1, h2, h.below k⟩
theorem Both.bel (h : Both q r M w0 l m w) : Below w0.heap.size w0 w := by
 rcases h with ⟨h0, p, s, h1, h2, h⟩ | ⟨h1, h2, h⟩
 ·exact Two.bel h
 ·exact Two.bel h
theorem Both.alike (hd : DkAt w d q r l m) (h : Both q r M w0 l m w) : Calls Tryz.prog 10 #[.pointer (some ⟨d, 0, none⟩)] w fun e w' => e = .returned (.bool true) ∧ Below w.heap.size w w' := by
 rcases h with ⟨h0, p, s, rfl, rfl, h⟩ | ⟨rfl, rfl, h⟩
 ·obtain ⟨v, hg⟩ := h.rlg
  exact dkalike hd h.lat (opn_ok h0) hg (opn_ok h0)
 ·exact dkalike0 hd
theorem Both.rec_ {t : Nat} (ht : t < 65536) (hd : DkAt w d q r l m) (h : Both q r M w0 l m w) : Calls Tryz.prog 11 #[.pointer (some ⟨d, 0, none⟩), (actR t).V] w fun e w' => e = .returned (.bool true) ∧ Below w.heap.size w w' := by
 rcases h with ⟨h0, p, s, rfl, rfl, h⟩ | ⟨rfl, rfl, h⟩
 ·exact dkrec (actR t) rfl (by show t < _; omega) hd h (opn_ok h0)
 ·exact dkon0 (actR t) hd
theorem Tbl.twoB {k : Int} {e : Ending} (T : Tbs w) (h : Tbl ey.R w k e w') : ∃ q r, e = .returned (.tuple #[.pointer (some ⟨q, 0, none⟩), .pointer (some ⟨r, 0, none⟩), .bool true]) ∧ TwoB ey q r (newS6 [k, 12]) w w.heap.size (fun _ => False) w' := by
 obtain ⟨q, r, F, F', he, h1, h2, h3, h4, h5, h6⟩ := h
 exact ⟨q, r, he, F, F', h1, h2, h3, h4, h5, h6, Bas.start T, fun b hb => hb.elim⟩
end
set_option maxHeartbeats 4000000 in
theorem wopens (s0 : Nat) (A1 : Option Addr) (n1 c1 : Nat) (l1 : List Spot14) (w : World) (T : Tbs w) (h0 : s0 < 65536) (rd : RdE Spot14E w w.heap.size A1 n1 l1) (hn : n1 ≤ maxLen) (hin : ∀ k, k < n1 → (l1.getD k Spot14.zero).In w) :
  Calls Tryz.prog 3 #[.int .u16 s0, .slice A1 n1 c1] w fun e w' => e = .returned (.bool true) ∧ Below w.heap.size w w' := by
 have HT := af T
 have HRD := af rd
 have HIN := af hin
 obtain ⟨r0, hr0⟩ : ∃ r, s0 % 320 = r := ⟨_, rfl⟩
 have HR0 : Hid (r0 < 320) := af (by rw [← hr0]; exact Nat.mod_lt _ (by omega))
 have HRM : Hid ((s0 : Int).tmod 320 = (r0 : Int)) := af (by rw [← hr0]; rfl)
 have HAD : Hid (IntKind.i64.wrap (1 + (r0 : Int)) = ((1 + r0 : Nat) : Int)) := af (by have := HR0.out; rw [i64w ⟨by omega, by omega⟩]; omega)
 clear T h0 rd hin hr0
 go_enter Tryz.func3, Tryz.ntmps3
 go_upto_region 1 with fail
 refine ag ?_
 refine ai rfl (aj rfl (ev rfl)) ?_;simp only [aa]
 refine ai rfl (exec_rem16K rfl (ev rfl) evk (by decide) HRM.out) ?_;simp only [aa]
 refine ai rfl (exec_cv16K rfl (ev rfl) (by have := HR0.out; omega)) ?_;simp only [aa]
 refine ai rfl (da rfl evk (ev rfl) HAD.out) ?_;simp only [aa]
 refine ar rfl (av Tryz.call4 rfl (evc (ev rfl) evn)) ?_
 refine (ltable ey.R _ w ⟨by omega, by have := HR0.out; omega⟩).mono ?_
 rintro e w1 ht
 obtain ⟨q, r, rfl, hs⟩ := ht.twoB HT.out
 have HS := af hs
 have HRO := af (room_new (ks := [((1 + r0 : Nat) : Int), 12]) (k := 130) (by omega))
 clear ht hs
 refine ⟨_, rfl, ?_⟩
 simp only [aa]
 refine ai rfl (aj rfl (ev rfl)) ?_;simp only [aa]
 iterate 3 (refine ai rfl (aD rfl (ev rfl) rfl) ?_;simp only [aa])
 iterate 3 (refine ai rfl (aq rfl (ev rfl)) ?_;simp only [aa])
 refine ah ?_
 obtain ⟨M0, hM0⟩ : ∃ M, newS6 [((1 + r0 : Nat) : Int), 12] = M := ⟨_, rfl⟩
 rw [hM0] at HS HRO
 clear hM0
 go_wp2_with fail
 go_loopw [8] (fun i wr => ∃ (j : Nat) (M : BenS), i = .int .i64 j ∧ j ≤ 60 ∧ TwoB ey q r M w w.heap.size (fun _ => False) wr ∧ Room M (130 - j)) (fun i _ => 60 - (intOf i).toNat)
 case atStart => exact ⟨0, M0, by go_num, by omega, HS.out, HRO.out⟩
 case round =>
  clear HS HRO
  obtain ⟨j, M, rfl, hj, hs, hro⟩ := hrel
  have HS := af hs
  have HRO := af hro
  clear hs hro
  go_upto_region 5 with fail
  apply share4
  ·intro tail_
   by_cases hlt : j < n1
   rotate_left 1
   ·have HL : Hid (decide ((j : Int) < (n1 : Int)) = false) := af (decide_eq_false (by omega))
    clear hlt
    refine ag ?_
    refine ai rfl (aj rfl (ev rfl)) ?_;simp only [aa]
    refine ai rfl (aj rfl (ev rfl)) ?_;simp only [aa]
    refine ai rfl (cD Tryz.underlying23 rfl (ev rfl)) ?_;simp only [aa]
    refine ai (v := .bool false) rfl (aZ false rfl (ev rfl) (ev rfl) HL.out) ?_;simp only [aa]
    refine aC 2 (v := .bool false) rfl (aj rfl (ev rfl)) (by kernel_rfl) ?_
    simp only [aJ, ae, aa]
    refine ai (v := .bool false) rfl (aE rfl (ev rfl) evk) ?_;simp only [aa]
    refine ah ?_
    refine forget_ 30 fun u30 => forget_ 31 fun u31 => forget_ 32 fun u32 => forget_ 33 fun u33 => ?_
    simp only [List.set_cons_succ, List.set_cons_zero]
    exact tail_ u30 u31 u32 u33
   have HL : Hid (decide ((j : Int) < (n1 : Int)) = true) := af (decide_eq_true (by omega))
   by_cases h60 : j < 60
   rotate_left 1
   ·have HM60 : Hid (decide ((j : Int) < 60) = false) := af (decide_eq_false (by omega))
    clear hlt h60
    refine ag ?_
    refine ai rfl (aj rfl (ev rfl)) ?_;simp only [aa]
    refine ai rfl (aj rfl (ev rfl)) ?_;simp only [aa]
    refine ai rfl (cD Tryz.underlying23 rfl (ev rfl)) ?_;simp only [aa]
    refine ai (v := .bool true) rfl (aZ true rfl (ev rfl) (ev rfl) HL.out) ?_;simp only [aa]
    refine ai (v := .bool true) rfl (aj rfl (ev rfl)) ?_;simp only [aa]
    refine al gr (aj rfl (ev rfl)) ?_;simp only [aa]
    refine al (v := .bool false) gr (aZ false rfl (ev rfl) evk HM60.out) ?_;simp only [aa]
    refine ai (v := .bool false) rfl (aG rfl (ev rfl) (ev rfl)) ?_;simp only [aa]
    refine ah ?_
    refine forget_ 30 fun u30 => forget_ 31 fun u31 => forget_ 32 fun u32 => forget_ 33 fun u33 => ?_
    simp only [List.set_cons_succ, List.set_cons_zero]
    exact tail_ u30 u31 u32 u33
   have HM60 : Hid (decide ((j : Int) < 60) = true) := af (decide_eq_true (by omega))
   clear tail_
   obtain ⟨ab, off, rfl, hab, hrg⟩ := HRD.out.2 j hlt
   obtain ⟨a, ha⟩ : ∃ a, l1.getD j Spot14.zero = a := ⟨_, rfl⟩
   have hi := HIN.out j hlt
   rw [ha] at hi
   obtain ⟨_, _, hi3, hi4, hi5⟩ := hi
   have hrg2 : w.rangeAt ab (off + j * 75) a.C := by rw [← ha]; exact hrg
   have HRG := af hrg2
   have HAB := af hab
   have HI3 := af hi3
   have HI4 := af hi4
   have HI5 := af hi5
   have HJN := af hlt
   have HJ6 := af h60
   have HAJ : Hid (IntKind.i64.wrap ((j : Int) + 1) = ((j + 1 : Nat) : Int)) := af (by rw [i64w ⟨by omega, by omega⟩]; omega)
   clear ha hi3 hi4 hi5 hrg hrg2 hlt hab h60
   refine ag ?_
   refine ai rfl (aj rfl (ev rfl)) ?_;simp only [aa]
   refine ai rfl (aj rfl (ev rfl)) ?_;simp only [aa]
   refine ai rfl (cD Tryz.underlying23 rfl (ev rfl)) ?_;simp only [aa]
   refine ai (v := .bool true) rfl (aZ true rfl (ev rfl) (ev rfl) HL.out) ?_;simp only [aa]
   refine ai (v := .bool true) rfl (aj rfl (ev rfl)) ?_;simp only [aa]
   refine al gr (aj rfl (ev rfl)) ?_;simp only [aa]
   refine al (v := .bool true) gr (aZ true rfl (ev rfl) evk HM60.out) ?_;simp only [aa]
   refine ai (v := .bool true) rfl (aG rfl (ev rfl) (ev rfl)) ?_;simp only [aa]
   refine ah ?_
   go_upto_region 7 with fail
   refine ag ?_
   refine ai rfl (aj rfl (ev rfl)) ?_;simp only [aa]
   refine ai rfl (aj rfl (ev rfl)) ?_;simp only [aa]
   refine ai rfl (bQ (E := Spot14E) rfl (ev rfl) (ev rfl) HJN.out) ?_;simp only [aa]
   refine ai rfl (exec_loadSpot14 rfl (ev rfl) (rng_below HRG.out HAB.out (Two.bel HS.out))) ?_;simp only [aa]
   refine ar rfl (av Tryz.call5 rfl (evc (ev rfl) evn)) ?_
   refine (pblock a _ HI3.out HI4.out HI5.out).mono ?_
   rintro e w2 ⟨rfl, hb⟩
   have HS2 := af (HS.out.below hb)
   clear HS hb
   refine ⟨_, rfl, ?_⟩
   simp only [aa]
   refine ai rfl (aT rfl) ?_;simp only [aa]
   refine az rfl (dp (c := a.blk) rfl (ev rfl) (ev rfl)) ?_;simp only [aa]
   refine ah ?_
   obtain ⟨x, hx⟩ : ∃ x, a.blk = x := ⟨_, rfl⟩
   rw [hx]
   have hb := (Below.refl w2.heap.size w2).alloc (Nat.le_refl _) (.cells (cel x).toArray 29)
   have HB3 : Hid (cz (w2.alloc (.cells (cel x).toArray 29)) w2.heap.size x) := af (heap_alloc_new _ _)
   have HS3 : Hid (TwoB ey q r M w w.heap.size (fun b => b = w2.heap.size) (w2.alloc (.cells (cel x).toArray 29))) := af (Two.guard (sdB ey q M) (sdR r M) HS2.out hb fun b e => .inr (by subst e; rw [World.size_alloc]; omega))
   clear hb hx HS2
   generalize w2.alloc (.cells (cel x).toArray 29) = w3 at *
   generalize w2.heap.size = bx at *
   go_upto_region 8 with fail
   refine wp_region_held (S := fun w' => w'.rangeAt ab (off + j * 75) a.C ∧ cz w' bx x) (by kernel_rfl) ?_
   change wpAnyH _ _ _ _ _ 17 _ _ w3.drew
   have hb : Below w3.heap.size w3 w3.drew := bd (Below.refl _ _)
   have HS := af (HS3.out.below hb)
   have HB : Hid (cz w3.drew bx x) := af ((hb.block bx (aK HB3.out)).trans HB3.out)
   have HR : Hid (w3.drew.rangeAt ab (off + j * 75) a.C) := af (rng_below HRG.out HAB.out (Two.bel HS.out))
   clear hb HS3 HB3
   generalize w3.drew = wd at *
   refine gt 0 rfl (fun w' hw => aj rfl (ev rfl)) ⟨HR.out, HB.out⟩ ?_;simp only [aa]
   refine gt 1 rfl (fun w' hw => aj rfl (ev rfl)) ⟨HR.out, HB.out⟩ ?_;simp only [aa]
   refine gt 2 rfl (fun w' hw => aj rfl (ev rfl)) ⟨HR.out, HB.out⟩ ?_;simp only [aa]
   refine gt 3 rfl (fun w' hw => bQ (E := Spot14E) rfl (ev rfl) (ev rfl) HJN.out) ⟨HR.out, HB.out⟩ ?_;simp only [aa]
   refine gt 4 rfl (fun w' hw => am rfl (ev rfl) faSp1) ⟨HR.out, HB.out⟩ ?_;simp only [aa]
   refine gt 5 rfl (fun w' hw => au rfl (ev rfl) (bj (sp_n hw.1))) ⟨HR.out, HB.out⟩ ?_;simp only [aa]
   refine gt 6 rfl (fun w' hw => aS (c := x) rfl (ev rfl) hw.2.range) ⟨HR.out, HB.out⟩ ?_;simp only [aa]
   refine gt 8 rfl (fun w' hw => aj rfl (ev rfl)) ⟨HR.out, HB.out⟩ ?_;simp only [aa]
   refine gt 9 rfl (fun w' hw => aj rfl (ev rfl)) ⟨HR.out, HB.out⟩ ?_;simp only [aa]
   refine gt 10 rfl (fun w' hw => aj rfl (ev rfl)) ⟨HR.out, HB.out⟩ ?_;simp only [aa]
   refine gt 11 rfl (fun w' hw => bQ (E := Spot14E) rfl (ev rfl) (ev rfl) HJN.out) ⟨HR.out, HB.out⟩ ?_;simp only [aa]
   refine gt 12 rfl (fun w' hw => am rfl (ev rfl) faSp1) ⟨HR.out, HB.out⟩ ?_;simp only [aa]
   refine gt 13 rfl (fun w' hw => au rfl (ev rfl) (bj (sp_n hw.1))) ⟨HR.out, HB.out⟩ ?_;simp only [aa]
   refine gt 14 rfl (fun w' hw => aS (c := x) rfl (ev rfl) hw.2.range) ⟨HR.out, HB.out⟩ ?_;simp only [aa]
   refine held_call 7 rfl (by kernel_rfl) rfl (av Tryz.call6 rfl (evc (ev rfl) (evc evk (evc (ev rfl) (evc (ev rfl) evn))))) ?_
   refine (HS.out.write 0 a.N x (room_more HRO.out (by have := HJ6.out; omega))).mono ?_
   rintro e w4 ⟨rfl, hs, hk⟩
   have HS4 := af hs
   have HB4 : Hid (cz w4 bx x) := af ((hk bx rfl).trans HB.out)
   have HR4 : Hid (w4.rangeAt ab (off + j * 75) a.C) := af (rng_below HRG.out HAB.out (Two.bel HS4.out))
   clear hs hk HS HB HR
   refine ⟨_, rfl, ⟨HR4.out, HB4.out⟩, ?_⟩
   simp only [aa]
   refine held_call 15 rfl (by kernel_rfl) rfl (av Tryz.call7 rfl (evc (ev rfl) (evc evk (evc (ev rfl) (evc (ev rfl) evn))))) ?_
   refine (TwoB.write2 0 a.N x (room_more HRO.out (by have := HJ6.out; omega)) HS4.out).mono ?_
   rintro e w5 ⟨rfl, hs, hk⟩
   have HS5 : Hid (TwoB ey q r (dK M 0 a.N x) w w.heap.size (fun b => b = bx) w5) := af hs
   have HB5 : Hid (cz w5 bx x) := af ((hk bx rfl).trans HB4.out)
   have HR5 : Hid (w5.rangeAt ab (off + j * 75) a.C) := af (rng_below HRG.out HAB.out (Two.bel HS5.out))
   clear hs hk HS4 HB4 HR4
   refine ⟨_, rfl, ⟨HR5.out, HB5.out⟩, ?_⟩
   simp only [aa]
   refine gt 16 rfl (fun w' hw => aU false rfl (ev rfl) (ev rfl) (bne_self_eq_false _)) ⟨HR5.out, HB5.out⟩ ?_;simp only [aa]
   refine wpAnyH_done (by kernel_rfl) ?_ _
   go_upto_region 6 with fail
   refine ag ?_
   refine ai rfl (aj rfl (ev rfl)) ?_;simp only [aa]
   refine ai rfl (da rfl (ev rfl) evk HAJ.out) ?_;simp only [aa]
   refine ai rfl (aq rfl (ev rfl)) ?_;simp only [aa]
   refine ah ?_
   have HRO2 : Hid (Room (dK M 0 a.N x) (130 - (j + 1))) := af (by
    have := HJ6.out
    exact room_wr (k := 130 - (j + 1)) (by rw [show 130 - (j + 1) + 1 = 130 - j from by omega]; exact HRO.out) 0 a.N x)
   go_wp2_with fail
   go_roundw
   case rel => exact ⟨j + 1, dK M 0 a.N x, by go_num, by have := HJ6.out; omega, Two.guard (sdB ey q _) (sdR r _) HS5.out (Below.refl _ _) fun b e => e.elim, HRO2.out⟩
   case measure => have := HJ6.out; simp [intOf]; omega
  ·intro u30 u31 u32 u33
   go_upto_region 10 with fail
   refine ag ?_
   refine ai rfl (aj rfl (ev rfl)) ?_;simp only [aa]
   refine ar rfl (av Tryz.call8 rfl (evc (ev rfl) (evc evk evn))) ?_
   refine (opens_l HS.out).mono ?_
   rintro e w2 ⟨l, rfl, hs⟩
   have HM := af hs
   clear hs HS
   refine ⟨_, rfl, ?_⟩
   simp only [aa]
   refine ai rfl (aj rfl (ev rfl)) ?_;simp only [aa]
   refine ai rfl (aD rfl (ev rfl) rfl) ?_;simp only [aa]
   refine ai rfl (aD rfl (ev rfl) rfl) ?_;simp only [aa]
   refine ai rfl (aq rfl (ev rfl)) ?_;simp only [aa]
   refine ai rfl (aq rfl (ev rfl)) ?_;simp only [aa]
   refine ah ?_
   go_upto_region 11 with fail
   refine ag ?_
   refine ai rfl (aj rfl (ev rfl)) ?_;simp only [aa]
   refine ar rfl (av Tryz.call9 rfl (evc (ev rfl) (evc evk evn))) ?_
   refine (opens_m HM.out).mono ?_
   rintro e w3 ⟨m, rfl, hs⟩
   have HS := af hs
   clear hs HM
   refine ⟨_, rfl, ?_⟩
   simp only [aa]
   refine ai rfl (aj rfl (ev rfl)) ?_;simp only [aa]
   refine ai rfl (aD rfl (ev rfl) rfl) ?_;simp only [aa]
   refine ai rfl (aD rfl (ev rfl) rfl) ?_;simp only [aa]
   refine ai rfl (aq rfl (ev rfl)) ?_;simp only [aa]
   refine ai rfl (aq rfl (ev rfl)) ?_;simp only [aa]
   refine ah ?_
   go_upto_region 12 with fail
   refine ag ?_
   iterate 4 (refine ai rfl (aj rfl (ev rfl)) ?_;simp only [aa])
   refine ai rfl (exec_bld4 rfl (ev rfl) (ev rfl) (ev rfl) (ev rfl) (run_bldDk q r l m)) ?_;simp only [aa]
   refine ai rfl (el rfl (ev rfl)) ?_;simp only [aa]
   refine ai rfl (aq rfl (ev rfl)) ?_;simp only [aa]
   refine ah ?_
   have hb := (Below.refl w3.heap.size w3).alloc (Nat.le_refl _) (.cells (dkC q r l m).toArray 49)
   have HD : Hid (DkAt (w3.alloc (.cells (dkC q r l m).toArray 49)) w3.heap.size q r l m) := af (heap_alloc_new _ _)
   have HS4 := af (HS.out.below hb)
   clear hb HS
   generalize w3.alloc (.cells (dkC q r l m).toArray 49) = w4 at *
   generalize w3.heap.size = d at *
   go_upto_region 13 with fail
   refine ag ?_
   refine ai rfl (aj rfl (ev rfl)) ?_;simp only [aa]
   refine ai rfl (aj rfl (ev rfl)) ?_;simp only [aa]
   refine ai (v := .bool false) rfl (aU false rfl (ev rfl) (ev rfl) (bne_self_eq_false _)) ?_;simp only [aa]
   refine ai (v := .bool false) rfl (aj rfl (ev rfl)) ?_;simp only [aa]
   refine al gr (aj rfl (ev rfl)) ?_;simp only [aa]
   refine ar gr (av Tryz.call10 rfl (evc (ev rfl) evn)) ?_
   refine (HS4.out.alike HD.out).mono ?_
   rintro e w5 ⟨rfl, hb⟩
   have HS5 := af (HS4.out.below hb)
   have HD5 := af (HD.out.below hb)
   clear hb HS4 HD
   refine ⟨_, rfl, ?_⟩
   simp only [aa]
   refine al (v := .bool false) gr (bf true rfl (ev rfl)) ?_;simp only [aa]
   refine ai (v := .bool false) rfl (aE rfl (ev rfl) (ev rfl)) ?_;simp only [aa]
   refine ah ?_
   go_wp2_with fail
   go_loopw [15] (fun i wz => ∃ t : Nat, i = .int .i64 t ∧ t ≤ 10 ∧ Both q r M w l m wz ∧ DkAt wz d q r l m) (fun i _ => 10 - (intOf i).toNat)
   case atStart => exact ⟨0, by go_num, by omega, HS5.out, HD5.out⟩
   case round =>
    clear HS5 HD5
    obtain ⟨t, rfl, ht, hs, hd⟩ := hrel
    have HS := af hs
    have HD := af hd
    clear hs hd
    go_upto_region 16 with fail
    refine ag ?_
    refine ai rfl (aj rfl (ev rfl)) ?_;simp only [aa]
    by_cases hlt : t < 10
    ·have HL : Hid (decide ((t : Int) < 10) = true) := af (decide_eq_true (by omega))
     have HT1 := af hlt
     have HAJ : Hid (IntKind.i64.wrap ((t : Int) + 1) = ((t + 1 : Nat) : Int)) := af (by rw [i64w ⟨by omega, by omega⟩]; omega)
     clear hlt ht
     refine ai (v := .bool true) rfl (aZ true rfl (ev rfl) evk HL.out) ?_;simp only [aa]
     refine ah ?_
     go_upto_region 18 with fail
     refine ag ?_
     refine ai rfl (aj rfl (ev rfl)) ?_;simp only [aa]
     refine ai rfl (aj rfl (ev rfl)) ?_;simp only [aa]
     refine ai rfl (exec_cvTU rfl (ev rfl) (by have := HT1.out; omega)) ?_;simp only [aa]
     refine ai rfl (exec_bldAc rfl evk (ev rfl) evk) ?_;simp only [aa]
     refine ar rfl (av Tryz.call11 rfl (evc (ev rfl) (evc (ev rfl) evn))) ?_
     refine (HS.out.rec_ (by have := HT1.out; omega) HD.out).mono ?_
     rintro e w6 ⟨rfl, hb⟩
     have HS6 := af (HS.out.below hb)
     have HD6 := af (HD.out.below hb)
     clear hb HS HD
     refine ⟨_, rfl, ?_⟩
     simp only [aa]
     refine ai (v := .bool false) rfl (bf true rfl (ev rfl)) ?_;simp only [aa]
     refine ah ?_
     go_upto_region 17 with fail
     refine ag ?_
     refine ai rfl (aj rfl (ev rfl)) ?_;simp only [aa]
     refine ai rfl (da rfl (ev rfl) evk HAJ.out) ?_;simp only [aa]
     refine ai rfl (aq rfl (ev rfl)) ?_;simp only [aa]
     refine ah ?_
     go_wp2_with fail
     go_roundw
     case rel => exact ⟨t + 1, by go_num, by have := HT1.out; omega, HS6.out, HD6.out⟩
     case measure => have := HT1.out; simp [intOf]; omega
    have HL : Hid (decide ((t : Int) < 10) = false) := af (decide_eq_false (by omega))
    clear hlt ht
    refine ai (v := .bool false) rfl (aZ false rfl (ev rfl) evk HL.out) ?_;simp only [aa]
    refine ah ?_
    go_upto_region 20 with fail
    refine ag ?_
    refine ar rfl (av Tryz.call12 rfl evn) ?_
    refine (llives ey _ (HT.out.below HS.out.bel)).mono ?_
    rintro e wz ⟨rfl, hb⟩
    have HB := af (HS.out.bel.trans (hb.mono HS.out.bel.size))
    clear hb
    refine ⟨_, rfl, ?_⟩
    simp only [aa]
    refine ai (v := .bool true) rfl (aq rfl (ev rfl)) ?_;simp only [aa]
    refine ah ?_
    go_wp2_with fail
    go_ret
    exact ⟨rfl, HB.out⟩
end Go.Proofs.YtbbcdhkinbmdnaaGreatDoor
