/-
  ashlarlaw10.RosterRefuses walked.
-/
import Derived.Test.YtnckcafemdcaeaaRoj
import Derived.Test.YtnckcafemdcaeaaRoR
import Derived.Test.YtnckcafemdcaeaaSkip
import Derived.Test.YtnckcafemdcaeaaSkq
namespace Go.Proofs.Ytnckcafemdcaeaa
open Go.RowKit
set_option linter.unusedVariables false
set_option linter.unusedSimpArgs false
set_option maxRecDepth 100000

theorem pgeo_r {a b : Nat} {g : Ros} (ha : a ≤ 255) (hb : b ≤ 255) (h : gX a b = g) (w : World) : Calls Try.prog 28 #[.int .u8 (a : Int), .int .u8 (b : Int)] w fun e w' => e = .returned (geo g) ∧ Below w.heap.size w w' := by subst h; exact pgeo ha hb w
set_option maxHeartbeats 8000000 in
theorem rosRefuses_eq {a b c d p q : Nat} {g z v0 v1 v2 v3 v4 : Ros} {bz : Bool} {w : World} (HA : Hid (a ≤ 255)) (HB : Hid (b ≤ 255)) (HG : Hid (gX a b = g)) (HN : Hid (NewR g p)) (HNZ : Hid (g.m ≠ 0))
    (HCC : Hid (IntKind.i64.wrap (c : Int) = (c : Int))) (HCD : Hid (IntKind.i64.wrap (d : Int) = (d : Int))) (HRC : Hid ((c : Int).tmod g.m = (p : Int))) (HRD : Hid ((d : Int).tmod g.m = (q : Int)))
    (HV0 : Hid (begX g (p : Int) = v0)) (HV1 : Hid (begX (gonS (setS g p 1) true) (p : Int) = v1)) (HZ : Hid (losX (setS g p 1) (q : Int) = z)) (HBZ : Hid (losB (setS g p 1) (q : Int) = bz))
    (HV2 : Hid (begX z (p : Int) = v2)) (HE2 : Hid (begE z (p : Int) = 0)) (HV3 : Hid (begX z (q : Int) = v3)) (HE3 : Hid (begE z (q : Int) = 0)) (HV4 : Hid (begX (setS g p 1) g.m = v4)) (HST : Hid (stN z = 2))
    (HPQ : Hid (((p : Int) == (q : Int)) = true)) (HPN : Hid (((p : Int) != (q : Int)) = false)) :
    Calls Try.prog 6 #[.int .u8 (a : Int), .int .u8 (b : Int), .int .u8 (c : Int), .int .u8 (d : Int)] w fun e w' => e = .returned (.bool true) ∧ Below w.heap.size w w' := by
  have HT1 := Lib.hid (Blks.nil w)
  go_enter Try.func6, Try.ntmps6
  go_upto_region 1 with fail
  refine wp_region_lit ?_
  refine wpList_valn rfl (exec_mv rfl (ev rfl)) ?_
  simp only [Act.put, List.setIfInBounds_toArray, List.set_cons_succ, List.set_cons_zero]
  refine wpList_valn rfl (exec_mv rfl (ev rfl)) ?_
  simp only [Act.put, List.setIfInBounds_toArray, List.set_cons_succ, List.set_cons_zero]
  refine wpList_call rfl (exec_cl Try.call28 rfl (evc (ev rfl) (evc (ev rfl) evn))) ?_
  refine (pgeo_r HA.out HB.out HG.out w).mono ?_
  rintro e w2 ⟨rfl, hb⟩
  have HT2 := Lib.hid (HT1.out.call hb)
  clear hb HT1
  refine ⟨_, rfl, ?_⟩
  simp only [Act.put, List.setIfInBounds_toArray, List.set_cons_succ, List.set_cons_zero]
  refine wpList_valn rfl (exec_allocG rfl) ?_
  simp only [Act.put, List.setIfInBounds_toArray, List.set_cons_succ, List.set_cons_zero]
  have HT3 : Hid (Blks w (w2.alloc (.cells (celG zeroR).toArray 23)) [gc w2.heap.size (zeroR)]) := Lib.hid (HT2.out.allocG zeroR)
  clear HT2
  generalize w2.alloc (.cells (celG zeroR).toArray 23) = w3 at *
  generalize w2.heap.size = b9 at *
  refine wpList_nuln rfl (exec_putV rfl (ev rfl) (ev rfl) (HT3.out.thereG (i := 0) rfl)) ?_
  simp only [Act.put, List.setIfInBounds_toArray, List.set_cons_succ, List.set_cons_zero]
  have HT4 : Hid (Blks w (putV w3 b9 (g)) [gc b9 (g)]) := Lib.hid (HT3.out.putG (i := 0) rfl (g))
  clear HT3
  generalize putV w3 b9 (g) = w4 at *
  refine wpList_nil ?_
  go_upto_region 2 with fail
  refine wp_region_lit ?_
  refine wpList_valn rfl (exec_loadG (c := (g)) rfl (ev rfl) (HT4.out.geo (i := 0) rfl)) ?_
  simp only [Act.put, List.setIfInBounds_toArray, List.set_cons_succ, List.set_cons_zero]
  refine wpList_call rfl (exec_cl Try.call7 rfl (evc (ev rfl) evn)) ?_
  refine (pnew_v w4 HN.out.new HN.out.newE).mono ?_
  rintro e w5 ⟨rfl, hb⟩
  have HT5 := Lib.hid (HT4.out.call hb)
  clear hb HT4
  refine ⟨_, rfl, ?_⟩
  simp only [Act.put, List.setIfInBounds_toArray, List.set_cons_succ, List.set_cons_zero]
  refine wpList_valn rfl (exec_mv rfl (ev rfl)) ?_
  simp only [Act.put, List.setIfInBounds_toArray, List.set_cons_succ, List.set_cons_zero]
  refine wpList_valn rfl (exec_ext rfl (ev rfl) rfl) ?_
  simp only [Act.put, List.setIfInBounds_toArray, List.set_cons_succ, List.set_cons_zero]
  refine wpList_valn rfl (exec_ext rfl (ev rfl) rfl) ?_
  simp only [Act.put, List.setIfInBounds_toArray, List.set_cons_succ, List.set_cons_zero]
  refine wpList_valn rfl (exec_allocR rfl) ?_
  simp only [Act.put, List.setIfInBounds_toArray, List.set_cons_succ, List.set_cons_zero]
  have HT6 : Hid (Blks w (w5.alloc (.cells (celR zeroR).toArray 26)) [gc b9 (g), rc w5.heap.size (zeroR)]) := Lib.hid (HT5.out.allocR zeroR)
  clear HT5
  generalize w5.alloc (.cells (celR zeroR).toArray 26) = w6 at *
  generalize w5.heap.size = b10 at *
  refine wpList_nuln rfl (exec_putR rfl (ev rfl) (ev rfl) (HT6.out.ros (i := 1) rfl)) ?_
  simp only [Act.put, List.setIfInBounds_toArray, List.set_cons_succ, List.set_cons_zero]
  have HT7 : Hid (Blks w (putW w6 b10 (g)) [gc b9 (g), rc b10 (g)]) := Lib.hid (HT6.out.putR (i := 1) rfl (g))
  clear HT6
  generalize putW w6 b10 (g) = w7 at *
  refine wpList_valn rfl (exec_as rfl (ev rfl)) ?_
  simp only [Act.put, List.setIfInBounds_toArray, List.set_cons_succ, List.set_cons_zero]
  refine wpList_nil ?_
  go_upto_region 3 with fail
  refine wp_region_lit ?_
  refine wpList_valn rfl (exec_mv rfl (ev rfl)) ?_
  simp only [Act.put, List.setIfInBounds_toArray, List.set_cons_succ, List.set_cons_zero]
  refine wpList_valn (v := .bool false) rfl (exec_neInt false rfl (ev rfl) evk rfl) ?_
  simp only [Act.put, List.setIfInBounds_toArray, List.set_cons_succ, List.set_cons_zero]
  refine wpList_nil ?_
  go_upto_region 5 with fail
  refine wp_region_lit ?_
  refine wpList_valn rfl (exec_mv rfl (ev rfl)) ?_
  simp only [Act.put, List.setIfInBounds_toArray, List.set_cons_succ, List.set_cons_zero]
  refine wpList_valn rfl (exec_cvU8 rfl (ev rfl) HCC.out) ?_
  simp only [Act.put, List.setIfInBounds_toArray, List.set_cons_succ, List.set_cons_zero]
  refine wpList_valn rfl (exec_faddr rfl (ev rfl) faG0) ?_
  simp only [Act.put, List.setIfInBounds_toArray, List.set_cons_succ, List.set_cons_zero]
  refine wpList_valn rfl (exec_ld rfl (ev rfl) (ldInt (HT7.out.geo (i := 0) rfl 0 _ rfl))) ?_
  simp only [Act.put, List.setIfInBounds_toArray, List.set_cons_succ, List.set_cons_zero]
  refine wpList_valn rfl (exec_rem rfl (ev rfl) (ev rfl) HNZ.out HRC.out) ?_
  simp only [Act.put, List.setIfInBounds_toArray, List.set_cons_succ, List.set_cons_zero]
  refine wpList_valn rfl (exec_as rfl (ev rfl)) ?_
  simp only [Act.put, List.setIfInBounds_toArray, List.set_cons_succ, List.set_cons_zero]
  refine wpList_nil ?_
  go_upto_region 6 with fail
  refine wp_region_lit ?_
  refine wpList_valn rfl (exec_mv rfl (ev rfl)) ?_
  simp only [Act.put, List.setIfInBounds_toArray, List.set_cons_succ, List.set_cons_zero]
  refine wpList_valn rfl (exec_cvU8 rfl (ev rfl) HCD.out) ?_
  simp only [Act.put, List.setIfInBounds_toArray, List.set_cons_succ, List.set_cons_zero]
  refine wpList_valn rfl (exec_faddr rfl (ev rfl) faG0) ?_
  simp only [Act.put, List.setIfInBounds_toArray, List.set_cons_succ, List.set_cons_zero]
  refine wpList_valn rfl (exec_ld rfl (ev rfl) (ldInt (HT7.out.geo (i := 0) rfl 0 _ rfl))) ?_
  simp only [Act.put, List.setIfInBounds_toArray, List.set_cons_succ, List.set_cons_zero]
  refine wpList_valn rfl (exec_rem rfl (ev rfl) (ev rfl) HNZ.out HRD.out) ?_
  simp only [Act.put, List.setIfInBounds_toArray, List.set_cons_succ, List.set_cons_zero]
  refine wpList_valn rfl (exec_as rfl (ev rfl)) ?_
  simp only [Act.put, List.setIfInBounds_toArray, List.set_cons_succ, List.set_cons_zero]
  refine wpList_nil ?_
  go_upto_region 7 with fail
  refine wp_region_lit ?_
  refine wpList_valn rfl (exec_ldR rfl (ev rfl) (HT7.out.ros (i := 1) rfl)) ?_
  simp only [Act.put, List.setIfInBounds_toArray, List.set_cons_succ, List.set_cons_zero]
  refine wpList_valn rfl (exec_mv rfl (ev rfl)) ?_
  simp only [Act.put, List.setIfInBounds_toArray, List.set_cons_succ, List.set_cons_zero]
  refine wpList_call rfl (exec_cl Try.call21 rfl (evc (ev rfl) (evc (ev rfl) evn))) ?_
  refine (pbeg_v w7 HV0.out HN.out.beg).mono ?_
  rintro e w8 ⟨rfl, hb⟩
  have HT8 := Lib.hid (HT7.out.call hb)
  clear hb HT7
  refine ⟨_, rfl, ?_⟩
  simp only [Act.put, List.setIfInBounds_toArray, List.set_cons_succ, List.set_cons_zero]
  refine wpList_valn rfl (exec_mv rfl (ev rfl)) ?_
  simp only [Act.put, List.setIfInBounds_toArray, List.set_cons_succ, List.set_cons_zero]
  refine wpList_valn rfl (exec_ext rfl (ev rfl) rfl) ?_
  simp only [Act.put, List.setIfInBounds_toArray, List.set_cons_succ, List.set_cons_zero]
  refine wpList_valn rfl (exec_ext rfl (ev rfl) rfl) ?_
  simp only [Act.put, List.setIfInBounds_toArray, List.set_cons_succ, List.set_cons_zero]
  refine wpList_valn rfl (exec_as rfl (ev rfl)) ?_
  simp only [Act.put, List.setIfInBounds_toArray, List.set_cons_succ, List.set_cons_zero]
  refine wpList_nil ?_
  go_upto_region 8 with fail
  refine wp_region_lit ?_
  refine wpList_valn rfl (exec_ldR rfl (ev rfl) (HT8.out.ros (i := 1) rfl)) ?_
  simp only [Act.put, List.setIfInBounds_toArray, List.set_cons_succ, List.set_cons_zero]
  refine wpList_valn rfl (exec_mv rfl (ev rfl)) ?_
  simp only [Act.put, List.setIfInBounds_toArray, List.set_cons_succ, List.set_cons_zero]
  refine wpList_call rfl (exec_cl Try.call19 rfl (evc (ev rfl) (evc (ev rfl) evn))) ?_
  refine (plose_v w8 HN.out.los HN.out.losB).mono ?_
  rintro e w9 ⟨rfl, hb⟩
  have HT9 := Lib.hid (HT8.out.call hb)
  clear hb HT8
  refine ⟨_, rfl, ?_⟩
  simp only [Act.put, List.setIfInBounds_toArray, List.set_cons_succ, List.set_cons_zero]
  refine wpList_valn rfl (exec_mv rfl (ev rfl)) ?_
  simp only [Act.put, List.setIfInBounds_toArray, List.set_cons_succ, List.set_cons_zero]
  refine wpList_valn rfl (exec_ext rfl (ev rfl) rfl) ?_
  simp only [Act.put, List.setIfInBounds_toArray, List.set_cons_succ, List.set_cons_zero]
  refine wpList_valn rfl (exec_ext rfl (ev rfl) rfl) ?_
  simp only [Act.put, List.setIfInBounds_toArray, List.set_cons_succ, List.set_cons_zero]
  refine wpList_valn rfl (exec_allocR rfl) ?_
  simp only [Act.put, List.setIfInBounds_toArray, List.set_cons_succ, List.set_cons_zero]
  have HT10 : Hid (Blks w (w9.alloc (.cells (celR zeroR).toArray 26)) [gc b9 (g), rc b10 (g), rc w9.heap.size (zeroR)]) := Lib.hid (HT9.out.allocR zeroR)
  clear HT9
  generalize w9.alloc (.cells (celR zeroR).toArray 26) = w10 at *
  generalize w9.heap.size = b14 at *
  refine wpList_nuln rfl (exec_putR rfl (ev rfl) (ev rfl) (HT10.out.ros (i := 2) rfl)) ?_
  simp only [Act.put, List.setIfInBounds_toArray, List.set_cons_succ, List.set_cons_zero]
  have HT11 : Hid (Blks w (putW w10 b14 (setS g p 1)) [gc b9 (g), rc b10 (g), rc b14 (setS g p 1)]) := Lib.hid (HT10.out.putR (i := 2) rfl (setS g p 1))
  clear HT10
  generalize putW w10 b14 (setS g p 1) = w11 at *
  refine wpList_valn rfl (exec_as rfl (ev rfl)) ?_
  simp only [Act.put, List.setIfInBounds_toArray, List.set_cons_succ, List.set_cons_zero]
  refine wpList_nil ?_
  go_upto_region 9 with fail
  refine wp_region_lit ?_
  refine wpList_valn rfl (exec_ldR rfl (ev rfl) (HT11.out.ros (i := 2) rfl)) ?_
  simp only [Act.put, List.setIfInBounds_toArray, List.set_cons_succ, List.set_cons_zero]
  refine wpList_call rfl (exec_cl Try.call25 rfl (evc (ev rfl) (evc evk evn))) ?_
  refine (pgone_v w11 HN.out.goneX HN.out.goneE).mono ?_
  rintro e w12 ⟨rfl, hb⟩
  have HT12 := Lib.hid (HT11.out.call hb)
  clear hb HT11
  refine ⟨_, rfl, ?_⟩
  simp only [Act.put, List.setIfInBounds_toArray, List.set_cons_succ, List.set_cons_zero]
  refine wpList_valn rfl (exec_mv rfl (ev rfl)) ?_
  simp only [Act.put, List.setIfInBounds_toArray, List.set_cons_succ, List.set_cons_zero]
  refine wpList_valn rfl (exec_ext rfl (ev rfl) rfl) ?_
  simp only [Act.put, List.setIfInBounds_toArray, List.set_cons_succ, List.set_cons_zero]
  refine wpList_valn rfl (exec_ext rfl (ev rfl) rfl) ?_
  simp only [Act.put, List.setIfInBounds_toArray, List.set_cons_succ, List.set_cons_zero]
  refine wpList_valn rfl (exec_allocR rfl) ?_
  simp only [Act.put, List.setIfInBounds_toArray, List.set_cons_succ, List.set_cons_zero]
  have HT13 : Hid (Blks w (w12.alloc (.cells (celR zeroR).toArray 26)) [gc b9 (g), rc b10 (g), rc b14 (setS g p 1), rc w12.heap.size (zeroR)]) := Lib.hid (HT12.out.allocR zeroR)
  clear HT12
  generalize w12.alloc (.cells (celR zeroR).toArray 26) = w13 at *
  generalize w12.heap.size = b16 at *
  refine wpList_nuln rfl (exec_putR rfl (ev rfl) (ev rfl) (HT13.out.ros (i := 3) rfl)) ?_
  simp only [Act.put, List.setIfInBounds_toArray, List.set_cons_succ, List.set_cons_zero]
  have HT14 : Hid (Blks w (putW w13 b16 (gonS (setS g p 1) true)) [gc b9 (g), rc b10 (g), rc b14 (setS g p 1), rc b16 (gonS (setS g p 1) true)]) := Lib.hid (HT13.out.putR (i := 3) rfl (gonS (setS g p 1) true))
  clear HT13
  generalize putW w13 b16 (gonS (setS g p 1) true) = w14 at *
  refine wpList_valn rfl (exec_as rfl (ev rfl)) ?_
  simp only [Act.put, List.setIfInBounds_toArray, List.set_cons_succ, List.set_cons_zero]
  refine wpList_nil ?_
  go_upto_region 10 with fail
  refine wp_region_lit ?_
  refine wpList_valn rfl (exec_ldR rfl (ev rfl) (HT14.out.ros (i := 3) rfl)) ?_
  simp only [Act.put, List.setIfInBounds_toArray, List.set_cons_succ, List.set_cons_zero]
  refine wpList_valn rfl (exec_mv rfl (ev rfl)) ?_
  simp only [Act.put, List.setIfInBounds_toArray, List.set_cons_succ, List.set_cons_zero]
  refine wpList_call rfl (exec_cl Try.call21 rfl (evc (ev rfl) (evc (ev rfl) evn))) ?_
  refine (pbeg_v w14 HV1.out HN.out.begGone).mono ?_
  rintro e w15 ⟨rfl, hb⟩
  have HT15 := Lib.hid (HT14.out.call hb)
  clear hb HT14
  refine ⟨_, rfl, ?_⟩
  simp only [Act.put, List.setIfInBounds_toArray, List.set_cons_succ, List.set_cons_zero]
  refine wpList_valn rfl (exec_mv rfl (ev rfl)) ?_
  simp only [Act.put, List.setIfInBounds_toArray, List.set_cons_succ, List.set_cons_zero]
  refine wpList_valn rfl (exec_ext rfl (ev rfl) rfl) ?_
  simp only [Act.put, List.setIfInBounds_toArray, List.set_cons_succ, List.set_cons_zero]
  refine wpList_valn rfl (exec_ext rfl (ev rfl) rfl) ?_
  simp only [Act.put, List.setIfInBounds_toArray, List.set_cons_succ, List.set_cons_zero]
  refine wpList_valn rfl (exec_allocR rfl) ?_
  simp only [Act.put, List.setIfInBounds_toArray, List.set_cons_succ, List.set_cons_zero]
  have HT16 : Hid (Blks w (w15.alloc (.cells (celR zeroR).toArray 26)) [gc b9 (g), rc b10 (g), rc b14 (setS g p 1), rc b16 (gonS (setS g p 1) true), rc w15.heap.size (zeroR)]) := Lib.hid (HT15.out.allocR zeroR)
  clear HT15
  generalize w15.alloc (.cells (celR zeroR).toArray 26) = w16 at *
  generalize w15.heap.size = b18 at *
  refine wpList_nuln rfl (exec_putR rfl (ev rfl) (ev rfl) (HT16.out.ros (i := 4) rfl)) ?_
  simp only [Act.put, List.setIfInBounds_toArray, List.set_cons_succ, List.set_cons_zero]
  have HT17 : Hid (Blks w (putW w16 b18 (v1)) [gc b9 (g), rc b10 (g), rc b14 (setS g p 1), rc b16 (gonS (setS g p 1) true), rc b18 (v1)]) := Lib.hid (HT16.out.putR (i := 4) rfl (v1))
  clear HT16
  generalize putW w16 b18 (v1) = w17 at *
  refine wpList_valn rfl (exec_as rfl (ev rfl)) ?_
  simp only [Act.put, List.setIfInBounds_toArray, List.set_cons_succ, List.set_cons_zero]
  refine wpList_nil ?_
  go_upto_region 11 with fail
  refine wp_region_lit ?_
  refine wpList_valn rfl (exec_mv rfl (ev rfl)) ?_
  simp only [Act.put, List.setIfInBounds_toArray, List.set_cons_succ, List.set_cons_zero]
  refine wpList_valn (v := .bool false) rfl (exec_neInt false rfl (ev rfl) evk rfl) ?_
  simp only [Act.put, List.setIfInBounds_toArray, List.set_cons_succ, List.set_cons_zero]
  refine wpList_valn (v := .bool false) rfl (exec_mv rfl (ev rfl)) ?_
  simp only [Act.put, List.setIfInBounds_toArray, List.set_cons_succ, List.set_cons_zero]
  refine wpList_val (wanted_of rfl rfl rfl rfl) (exec_mv rfl (ev rfl)) ?_
  simp only [Act.put, List.setIfInBounds_toArray, List.set_cons_succ, List.set_cons_zero]
  refine wpList_val (v := .bool false) (wanted_of rfl rfl rfl rfl) (exec_neInt false rfl (ev rfl) evk rfl) ?_
  simp only [Act.put, List.setIfInBounds_toArray, List.set_cons_succ, List.set_cons_zero]
  refine wpList_valn (v := .bool false) rfl (exec_pf rfl (ev rfl) (ev rfl)) ?_
  simp only [Act.put, List.setIfInBounds_toArray, List.set_cons_succ, List.set_cons_zero]
  refine wpList_valn (v := .bool false) rfl (exec_mv rfl (ev rfl)) ?_
  simp only [Act.put, List.setIfInBounds_toArray, List.set_cons_succ, List.set_cons_zero]
  refine wpList_val (wanted_of rfl rfl rfl rfl) (exec_mv rfl (ev rfl)) ?_
  simp only [Act.put, List.setIfInBounds_toArray, List.set_cons_succ, List.set_cons_zero]
  refine wpList_val (v := .bool false) (wanted_of rfl rfl rfl rfl) (exec_neInt false rfl (ev rfl) evk rfl) ?_
  simp only [Act.put, List.setIfInBounds_toArray, List.set_cons_succ, List.set_cons_zero]
  refine wpList_valn (v := .bool false) rfl (exec_pf rfl (ev rfl) (ev rfl)) ?_
  simp only [Act.put, List.setIfInBounds_toArray, List.set_cons_succ, List.set_cons_zero]
  refine wpList_nil ?_
  go_upto_region 13 with fail
  refine wp_region_lit ?_
  refine wpList_valn rfl (exec_ldR rfl (ev rfl) (HT17.out.ros (i := 2) rfl)) ?_
  simp only [Act.put, List.setIfInBounds_toArray, List.set_cons_succ, List.set_cons_zero]
  refine wpList_valn rfl (exec_mv rfl (ev rfl)) ?_
  simp only [Act.put, List.setIfInBounds_toArray, List.set_cons_succ, List.set_cons_zero]
  refine wpList_call rfl (exec_cl Try.call19 rfl (evc (ev rfl) (evc (ev rfl) evn))) ?_
  refine (plose_v w17 HZ.out HBZ.out).mono ?_
  rintro e w18 ⟨rfl, hb⟩
  have HT18 := Lib.hid (HT17.out.call hb)
  clear hb HT17
  refine ⟨_, rfl, ?_⟩
  simp only [Act.put, List.setIfInBounds_toArray, List.set_cons_succ, List.set_cons_zero]
  refine wpList_valn rfl (exec_mv rfl (ev rfl)) ?_
  simp only [Act.put, List.setIfInBounds_toArray, List.set_cons_succ, List.set_cons_zero]
  refine wpList_valn rfl (exec_ext rfl (ev rfl) rfl) ?_
  simp only [Act.put, List.setIfInBounds_toArray, List.set_cons_succ, List.set_cons_zero]
  refine wpList_valn rfl (exec_ext rfl (ev rfl) rfl) ?_
  simp only [Act.put, List.setIfInBounds_toArray, List.set_cons_succ, List.set_cons_zero]
  refine wpList_valn rfl (exec_allocR rfl) ?_
  simp only [Act.put, List.setIfInBounds_toArray, List.set_cons_succ, List.set_cons_zero]
  have HT19 : Hid (Blks w (w18.alloc (.cells (celR zeroR).toArray 26)) [gc b9 (g), rc b10 (g), rc b14 (setS g p 1), rc b16 (gonS (setS g p 1) true), rc b18 (v1), rc w18.heap.size (zeroR)]) := Lib.hid (HT18.out.allocR zeroR)
  clear HT18
  generalize w18.alloc (.cells (celR zeroR).toArray 26) = w19 at *
  generalize w18.heap.size = b20 at *
  refine wpList_nuln rfl (exec_putR rfl (ev rfl) (ev rfl) (HT19.out.ros (i := 5) rfl)) ?_
  simp only [Act.put, List.setIfInBounds_toArray, List.set_cons_succ, List.set_cons_zero]
  have HT20 : Hid (Blks w (putW w19 b20 (z)) [gc b9 (g), rc b10 (g), rc b14 (setS g p 1), rc b16 (gonS (setS g p 1) true), rc b18 (v1), rc b20 (z)]) := Lib.hid (HT19.out.putR (i := 5) rfl (z))
  clear HT19
  generalize putW w19 b20 (z) = w20 at *
  refine wpList_valn rfl (exec_as rfl (ev rfl)) ?_
  simp only [Act.put, List.setIfInBounds_toArray, List.set_cons_succ, List.set_cons_zero]
  refine wpList_nil ?_
  go_upto_region 14 with fail
  refine wp_region_lit ?_
  refine wpList_valn rfl (exec_ldR rfl (ev rfl) (HT20.out.ros (i := 5) rfl)) ?_
  simp only [Act.put, List.setIfInBounds_toArray, List.set_cons_succ, List.set_cons_zero]
  refine wpList_valn rfl (exec_mv rfl (ev rfl)) ?_
  simp only [Act.put, List.setIfInBounds_toArray, List.set_cons_succ, List.set_cons_zero]
  refine wpList_call rfl (exec_cl Try.call21 rfl (evc (ev rfl) (evc (ev rfl) evn))) ?_
  refine (pbeg_v w20 HV2.out HE2.out).mono ?_
  rintro e w21 ⟨rfl, hb⟩
  have HT21 := Lib.hid (HT20.out.call hb)
  clear hb HT20
  refine ⟨_, rfl, ?_⟩
  simp only [Act.put, List.setIfInBounds_toArray, List.set_cons_succ, List.set_cons_zero]
  refine wpList_valn rfl (exec_mv rfl (ev rfl)) ?_
  simp only [Act.put, List.setIfInBounds_toArray, List.set_cons_succ, List.set_cons_zero]
  refine wpList_valn rfl (exec_ext rfl (ev rfl) rfl) ?_
  simp only [Act.put, List.setIfInBounds_toArray, List.set_cons_succ, List.set_cons_zero]
  refine wpList_valn rfl (exec_ext rfl (ev rfl) rfl) ?_
  simp only [Act.put, List.setIfInBounds_toArray, List.set_cons_succ, List.set_cons_zero]
  refine wpList_valn rfl (exec_allocR rfl) ?_
  simp only [Act.put, List.setIfInBounds_toArray, List.set_cons_succ, List.set_cons_zero]
  have HT22 : Hid (Blks w (w21.alloc (.cells (celR zeroR).toArray 26)) [gc b9 (g), rc b10 (g), rc b14 (setS g p 1), rc b16 (gonS (setS g p 1) true), rc b18 (v1), rc b20 (z), rc w21.heap.size (zeroR)]) := Lib.hid (HT21.out.allocR zeroR)
  clear HT21
  generalize w21.alloc (.cells (celR zeroR).toArray 26) = w22 at *
  generalize w21.heap.size = b22 at *
  refine wpList_nuln rfl (exec_putR rfl (ev rfl) (ev rfl) (HT22.out.ros (i := 6) rfl)) ?_
  simp only [Act.put, List.setIfInBounds_toArray, List.set_cons_succ, List.set_cons_zero]
  have HT23 : Hid (Blks w (putW w22 b22 (v2)) [gc b9 (g), rc b10 (g), rc b14 (setS g p 1), rc b16 (gonS (setS g p 1) true), rc b18 (v1), rc b20 (z), rc b22 (v2)]) := Lib.hid (HT22.out.putR (i := 6) rfl (v2))
  clear HT22
  generalize putW w22 b22 (v2) = w23 at *
  refine wpList_valn rfl (exec_as rfl (ev rfl)) ?_
  simp only [Act.put, List.setIfInBounds_toArray, List.set_cons_succ, List.set_cons_zero]
  refine wpList_nil ?_
  go_upto_region 15 with fail
  refine wp_region_lit ?_
  refine wpList_valn rfl (exec_ldR rfl (ev rfl) (HT23.out.ros (i := 5) rfl)) ?_
  simp only [Act.put, List.setIfInBounds_toArray, List.set_cons_succ, List.set_cons_zero]
  refine wpList_valn rfl (exec_mv rfl (ev rfl)) ?_
  simp only [Act.put, List.setIfInBounds_toArray, List.set_cons_succ, List.set_cons_zero]
  refine wpList_call rfl (exec_cl Try.call21 rfl (evc (ev rfl) (evc (ev rfl) evn))) ?_
  refine (pbeg_v w23 HV3.out HE3.out).mono ?_
  rintro e w24 ⟨rfl, hb⟩
  have HT24 := Lib.hid (HT23.out.call hb)
  clear hb HT23
  refine ⟨_, rfl, ?_⟩
  simp only [Act.put, List.setIfInBounds_toArray, List.set_cons_succ, List.set_cons_zero]
  refine wpList_valn rfl (exec_mv rfl (ev rfl)) ?_
  simp only [Act.put, List.setIfInBounds_toArray, List.set_cons_succ, List.set_cons_zero]
  refine wpList_valn rfl (exec_ext rfl (ev rfl) rfl) ?_
  simp only [Act.put, List.setIfInBounds_toArray, List.set_cons_succ, List.set_cons_zero]
  refine wpList_valn rfl (exec_ext rfl (ev rfl) rfl) ?_
  simp only [Act.put, List.setIfInBounds_toArray, List.set_cons_succ, List.set_cons_zero]
  refine wpList_valn rfl (exec_allocR rfl) ?_
  simp only [Act.put, List.setIfInBounds_toArray, List.set_cons_succ, List.set_cons_zero]
  have HT25 : Hid (Blks w (w24.alloc (.cells (celR zeroR).toArray 26)) [gc b9 (g), rc b10 (g), rc b14 (setS g p 1), rc b16 (gonS (setS g p 1) true), rc b18 (v1), rc b20 (z), rc b22 (v2), rc w24.heap.size (zeroR)]) := Lib.hid (HT24.out.allocR zeroR)
  clear HT24
  generalize w24.alloc (.cells (celR zeroR).toArray 26) = w25 at *
  generalize w24.heap.size = b24 at *
  refine wpList_nuln rfl (exec_putR rfl (ev rfl) (ev rfl) (HT25.out.ros (i := 7) rfl)) ?_
  simp only [Act.put, List.setIfInBounds_toArray, List.set_cons_succ, List.set_cons_zero]
  have HT26 : Hid (Blks w (putW w25 b24 (v3)) [gc b9 (g), rc b10 (g), rc b14 (setS g p 1), rc b16 (gonS (setS g p 1) true), rc b18 (v1), rc b20 (z), rc b22 (v2), rc b24 (v3)]) := Lib.hid (HT25.out.putR (i := 7) rfl (v3))
  clear HT25
  generalize putW w25 b24 (v3) = w26 at *
  refine wpList_valn rfl (exec_as rfl (ev rfl)) ?_
  simp only [Act.put, List.setIfInBounds_toArray, List.set_cons_succ, List.set_cons_zero]
  refine wpList_nil ?_
  go_upto_region 16 with fail
  refine wp_region_lit ?_
  refine wpList_valn rfl (exec_ldR rfl (ev rfl) (HT26.out.ros (i := 2) rfl)) ?_
  simp only [Act.put, List.setIfInBounds_toArray, List.set_cons_succ, List.set_cons_zero]
  refine wpList_valn rfl (exec_faddr rfl (ev rfl) faG0) ?_
  simp only [Act.put, List.setIfInBounds_toArray, List.set_cons_succ, List.set_cons_zero]
  refine wpList_valn rfl (exec_ld rfl (ev rfl) (ldInt (HT26.out.geo (i := 0) rfl 0 _ rfl))) ?_
  simp only [Act.put, List.setIfInBounds_toArray, List.set_cons_succ, List.set_cons_zero]
  refine wpList_call rfl (exec_cl Try.call21 rfl (evc (ev rfl) (evc (ev rfl) evn))) ?_
  refine (pbeg_v w26 HV4.out HN.out.begFar).mono ?_
  rintro e w27 ⟨rfl, hb⟩
  have HT27 := Lib.hid (HT26.out.call hb)
  clear hb HT26
  refine ⟨_, rfl, ?_⟩
  simp only [Act.put, List.setIfInBounds_toArray, List.set_cons_succ, List.set_cons_zero]
  refine wpList_valn rfl (exec_mv rfl (ev rfl)) ?_
  simp only [Act.put, List.setIfInBounds_toArray, List.set_cons_succ, List.set_cons_zero]
  refine wpList_valn rfl (exec_ext rfl (ev rfl) rfl) ?_
  simp only [Act.put, List.setIfInBounds_toArray, List.set_cons_succ, List.set_cons_zero]
  refine wpList_valn rfl (exec_ext rfl (ev rfl) rfl) ?_
  simp only [Act.put, List.setIfInBounds_toArray, List.set_cons_succ, List.set_cons_zero]
  refine wpList_valn rfl (exec_allocR rfl) ?_
  simp only [Act.put, List.setIfInBounds_toArray, List.set_cons_succ, List.set_cons_zero]
  have HT28 : Hid (Blks w (w27.alloc (.cells (celR zeroR).toArray 26)) [gc b9 (g), rc b10 (g), rc b14 (setS g p 1), rc b16 (gonS (setS g p 1) true), rc b18 (v1), rc b20 (z), rc b22 (v2), rc b24 (v3), rc w27.heap.size (zeroR)]) := Lib.hid (HT27.out.allocR zeroR)
  clear HT27
  generalize w27.alloc (.cells (celR zeroR).toArray 26) = w28 at *
  generalize w27.heap.size = b26 at *
  refine wpList_nuln rfl (exec_putR rfl (ev rfl) (ev rfl) (HT28.out.ros (i := 8) rfl)) ?_
  simp only [Act.put, List.setIfInBounds_toArray, List.set_cons_succ, List.set_cons_zero]
  have HT29 : Hid (Blks w (putW w28 b26 (v4)) [gc b9 (g), rc b10 (g), rc b14 (setS g p 1), rc b16 (gonS (setS g p 1) true), rc b18 (v1), rc b20 (z), rc b22 (v2), rc b24 (v3), rc b26 (v4)]) := Lib.hid (HT28.out.putR (i := 8) rfl (v4))
  clear HT28
  generalize putW w28 b26 (v4) = w29 at *
  refine wpList_valn rfl (exec_as rfl (ev rfl)) ?_
  simp only [Act.put, List.setIfInBounds_toArray, List.set_cons_succ, List.set_cons_zero]
  refine wpList_nil ?_
  go_upto_region 17 with fail
  refine wp_region_lit ?_
  refine wpList_valn rfl (exec_mv rfl (ev rfl)) ?_
  simp only [Act.put, List.setIfInBounds_toArray, List.set_cons_succ, List.set_cons_zero]
  refine wpList_valn (v := .bool false) rfl (exec_neInt false rfl (ev rfl) evk rfl) ?_
  simp only [Act.put, List.setIfInBounds_toArray, List.set_cons_succ, List.set_cons_zero]
  refine wpList_valn (v := .bool false) rfl (exec_mv rfl (ev rfl)) ?_
  simp only [Act.put, List.setIfInBounds_toArray, List.set_cons_succ, List.set_cons_zero]
  refine wpList_val (wanted_of rfl rfl rfl rfl) (exec_mv rfl (ev rfl)) ?_
  simp only [Act.put, List.setIfInBounds_toArray, List.set_cons_succ, List.set_cons_zero]
  refine wpList_val (v := .bool true) (wanted_of rfl rfl rfl rfl) (exec_eqInt true rfl (ev rfl) evk rfl) ?_
  simp only [Act.put, List.setIfInBounds_toArray, List.set_cons_succ, List.set_cons_zero]
  refine wpList_val (wanted_of rfl rfl rfl rfl) (exec_mv rfl (ev rfl)) ?_
  simp only [Act.put, List.setIfInBounds_toArray, List.set_cons_succ, List.set_cons_zero]
  refine wpList_val (wanted_of rfl rfl rfl rfl) (exec_mv rfl (ev rfl)) ?_
  simp only [Act.put, List.setIfInBounds_toArray, List.set_cons_succ, List.set_cons_zero]
  refine wpList_val (v := .bool true) (wanted_of rfl rfl rfl rfl) (exec_eqInt true rfl (ev rfl) (ev rfl) HPQ.out) ?_
  simp only [Act.put, List.setIfInBounds_toArray, List.set_cons_succ, List.set_cons_zero]
  refine wpList_val (v := .bool false) (wanted_of rfl rfl rfl rfl) (exec_neBool false rfl (ev rfl) (ev rfl) rfl) ?_
  simp only [Act.put, List.setIfInBounds_toArray, List.set_cons_succ, List.set_cons_zero]
  refine wpList_valn (v := .bool false) rfl (exec_pf rfl (ev rfl) (ev rfl)) ?_
  simp only [Act.put, List.setIfInBounds_toArray, List.set_cons_succ, List.set_cons_zero]
  refine wpList_valn (v := .bool false) rfl (exec_mv rfl (ev rfl)) ?_
  simp only [Act.put, List.setIfInBounds_toArray, List.set_cons_succ, List.set_cons_zero]
  refine wpList_val (wanted_of rfl rfl rfl rfl) (exec_mv rfl (ev rfl)) ?_
  simp only [Act.put, List.setIfInBounds_toArray, List.set_cons_succ, List.set_cons_zero]
  refine wpList_val (v := .bool true) (wanted_of rfl rfl rfl rfl) (exec_eqInt true rfl (ev rfl) evk rfl) ?_
  simp only [Act.put, List.setIfInBounds_toArray, List.set_cons_succ, List.set_cons_zero]
  refine wpList_val (wanted_of rfl rfl rfl rfl) (exec_mv rfl (ev rfl)) ?_
  simp only [Act.put, List.setIfInBounds_toArray, List.set_cons_succ, List.set_cons_zero]
  refine wpList_val (wanted_of rfl rfl rfl rfl) (exec_mv rfl (ev rfl)) ?_
  simp only [Act.put, List.setIfInBounds_toArray, List.set_cons_succ, List.set_cons_zero]
  refine wpList_val (v := .bool true) (wanted_of rfl rfl rfl rfl) (exec_eqInt true rfl (ev rfl) (ev rfl) HPQ.out) ?_
  simp only [Act.put, List.setIfInBounds_toArray, List.set_cons_succ, List.set_cons_zero]
  refine wpList_val (v := .bool false) (wanted_of rfl rfl rfl rfl) (exec_neBool false rfl (ev rfl) (ev rfl) rfl) ?_
  simp only [Act.put, List.setIfInBounds_toArray, List.set_cons_succ, List.set_cons_zero]
  refine wpList_valn (v := .bool false) rfl (exec_pf rfl (ev rfl) (ev rfl)) ?_
  simp only [Act.put, List.setIfInBounds_toArray, List.set_cons_succ, List.set_cons_zero]
  refine wpList_valn (v := .bool false) rfl (exec_mv rfl (ev rfl)) ?_
  simp only [Act.put, List.setIfInBounds_toArray, List.set_cons_succ, List.set_cons_zero]
  refine wpList_val (wanted_of rfl rfl rfl rfl) (exec_ldR rfl (ev rfl) (HT29.out.ros (i := 5) rfl)) ?_
  simp only [Act.put, List.setIfInBounds_toArray, List.set_cons_succ, List.set_cons_zero]
  refine wpList_call (wanted_of rfl rfl rfl rfl) (exec_cl Try.call15 rfl (evc (ev rfl) evn)) ?_
  refine (pstate_n w29 HST.out).mono ?_
  rintro e w30 ⟨rfl, hb⟩
  have HT30 := Lib.hid (HT29.out.call hb)
  clear hb HT29
  refine ⟨_, rfl, ?_⟩
  simp only [Act.put, List.setIfInBounds_toArray, List.set_cons_succ, List.set_cons_zero]
  refine wpList_val (v := .bool false) (wanted_of rfl rfl rfl rfl) (exec_eqInt false rfl (ev rfl) evk rfl) ?_
  simp only [Act.put, List.setIfInBounds_toArray, List.set_cons_succ, List.set_cons_zero]
  refine wpList_val (wanted_of rfl rfl rfl rfl) (exec_mv rfl (ev rfl)) ?_
  simp only [Act.put, List.setIfInBounds_toArray, List.set_cons_succ, List.set_cons_zero]
  refine wpList_val (wanted_of rfl rfl rfl rfl) (exec_mv rfl (ev rfl)) ?_
  simp only [Act.put, List.setIfInBounds_toArray, List.set_cons_succ, List.set_cons_zero]
  refine wpList_val (v := .bool false) (wanted_of rfl rfl rfl rfl) (exec_neInt false rfl (ev rfl) (ev rfl) HPN.out) ?_
  simp only [Act.put, List.setIfInBounds_toArray, List.set_cons_succ, List.set_cons_zero]
  refine wpList_val (v := .bool false) (wanted_of rfl rfl rfl rfl) (exec_neBool false rfl (ev rfl) (ev rfl) rfl) ?_
  simp only [Act.put, List.setIfInBounds_toArray, List.set_cons_succ, List.set_cons_zero]
  refine wpList_valn (v := .bool false) rfl (exec_pf rfl (ev rfl) (ev rfl)) ?_
  simp only [Act.put, List.setIfInBounds_toArray, List.set_cons_succ, List.set_cons_zero]
  refine wpList_nil ?_
  go_upto_region 19 with fail
  refine wp_region_lit ?_
  refine wpList_call rfl (exec_cl Try.call27 rfl evn) ?_
  refine (plives w30).mono ?_
  rintro e w31 ⟨rfl, hb⟩
  have HT31 := Lib.hid (HT30.out.call hb)
  clear hb HT30
  refine ⟨_, rfl, ?_⟩
  simp only [Act.put, List.setIfInBounds_toArray, List.set_cons_succ, List.set_cons_zero]
  refine wpList_valn (v := .bool true) rfl (exec_as rfl (ev rfl)) ?_
  simp only [Act.put, List.setIfInBounds_toArray, List.set_cons_succ, List.set_cons_zero]
  refine wpList_nil ?_
  go_wp2_with fail
  go_ret
  exact ⟨rfl, HT31.out.bel⟩
set_option maxHeartbeats 8000000 in
theorem rosRefuses_ne {a b c d p q : Nat} {g z v0 v1 v2 v3 v4 : Ros} {bz : Bool} {w : World} (HA : Hid (a ≤ 255)) (HB : Hid (b ≤ 255)) (HG : Hid (gX a b = g)) (HN : Hid (NewR g p)) (HNZ : Hid (g.m ≠ 0))
    (HCC : Hid (IntKind.i64.wrap (c : Int) = (c : Int))) (HCD : Hid (IntKind.i64.wrap (d : Int) = (d : Int))) (HRC : Hid ((c : Int).tmod g.m = (p : Int))) (HRD : Hid ((d : Int).tmod g.m = (q : Int)))
    (HV0 : Hid (begX g (p : Int) = v0)) (HV1 : Hid (begX (gonS (setS g p 1) true) (p : Int) = v1)) (HZ : Hid (losX (setS g p 1) (q : Int) = z)) (HBZ : Hid (losB (setS g p 1) (q : Int) = bz))
    (HV2 : Hid (begX z (p : Int) = v2)) (HE2 : Hid (begE z (p : Int) = 17)) (HV3 : Hid (begX z (q : Int) = v3)) (HE3 : Hid (begE z (q : Int) = 17)) (HV4 : Hid (begX (setS g p 1) g.m = v4)) (HST : Hid (stN z = 5))
    (HPQ : Hid (((p : Int) == (q : Int)) = false)) (HPN : Hid (((p : Int) != (q : Int)) = true)) :
    Calls Try.prog 6 #[.int .u8 (a : Int), .int .u8 (b : Int), .int .u8 (c : Int), .int .u8 (d : Int)] w fun e w' => e = .returned (.bool true) ∧ Below w.heap.size w w' := by
  have HT1 := Lib.hid (Blks.nil w)
  go_enter Try.func6, Try.ntmps6
  go_upto_region 1 with fail
  refine wp_region_lit ?_
  refine wpList_valn rfl (exec_mv rfl (ev rfl)) ?_
  simp only [Act.put, List.setIfInBounds_toArray, List.set_cons_succ, List.set_cons_zero]
  refine wpList_valn rfl (exec_mv rfl (ev rfl)) ?_
  simp only [Act.put, List.setIfInBounds_toArray, List.set_cons_succ, List.set_cons_zero]
  refine wpList_call rfl (exec_cl Try.call28 rfl (evc (ev rfl) (evc (ev rfl) evn))) ?_
  refine (pgeo_r HA.out HB.out HG.out w).mono ?_
  rintro e w2 ⟨rfl, hb⟩
  have HT2 := Lib.hid (HT1.out.call hb)
  clear hb HT1
  refine ⟨_, rfl, ?_⟩
  simp only [Act.put, List.setIfInBounds_toArray, List.set_cons_succ, List.set_cons_zero]
  refine wpList_valn rfl (exec_allocG rfl) ?_
  simp only [Act.put, List.setIfInBounds_toArray, List.set_cons_succ, List.set_cons_zero]
  have HT3 : Hid (Blks w (w2.alloc (.cells (celG zeroR).toArray 23)) [gc w2.heap.size (zeroR)]) := Lib.hid (HT2.out.allocG zeroR)
  clear HT2
  generalize w2.alloc (.cells (celG zeroR).toArray 23) = w3 at *
  generalize w2.heap.size = b9 at *
  refine wpList_nuln rfl (exec_putV rfl (ev rfl) (ev rfl) (HT3.out.thereG (i := 0) rfl)) ?_
  simp only [Act.put, List.setIfInBounds_toArray, List.set_cons_succ, List.set_cons_zero]
  have HT4 : Hid (Blks w (putV w3 b9 (g)) [gc b9 (g)]) := Lib.hid (HT3.out.putG (i := 0) rfl (g))
  clear HT3
  generalize putV w3 b9 (g) = w4 at *
  refine wpList_nil ?_
  go_upto_region 2 with fail
  refine wp_region_lit ?_
  refine wpList_valn rfl (exec_loadG (c := (g)) rfl (ev rfl) (HT4.out.geo (i := 0) rfl)) ?_
  simp only [Act.put, List.setIfInBounds_toArray, List.set_cons_succ, List.set_cons_zero]
  refine wpList_call rfl (exec_cl Try.call7 rfl (evc (ev rfl) evn)) ?_
  refine (pnew_v w4 HN.out.new HN.out.newE).mono ?_
  rintro e w5 ⟨rfl, hb⟩
  have HT5 := Lib.hid (HT4.out.call hb)
  clear hb HT4
  refine ⟨_, rfl, ?_⟩
  simp only [Act.put, List.setIfInBounds_toArray, List.set_cons_succ, List.set_cons_zero]
  refine wpList_valn rfl (exec_mv rfl (ev rfl)) ?_
  simp only [Act.put, List.setIfInBounds_toArray, List.set_cons_succ, List.set_cons_zero]
  refine wpList_valn rfl (exec_ext rfl (ev rfl) rfl) ?_
  simp only [Act.put, List.setIfInBounds_toArray, List.set_cons_succ, List.set_cons_zero]
  refine wpList_valn rfl (exec_ext rfl (ev rfl) rfl) ?_
  simp only [Act.put, List.setIfInBounds_toArray, List.set_cons_succ, List.set_cons_zero]
  refine wpList_valn rfl (exec_allocR rfl) ?_
  simp only [Act.put, List.setIfInBounds_toArray, List.set_cons_succ, List.set_cons_zero]
  have HT6 : Hid (Blks w (w5.alloc (.cells (celR zeroR).toArray 26)) [gc b9 (g), rc w5.heap.size (zeroR)]) := Lib.hid (HT5.out.allocR zeroR)
  clear HT5
  generalize w5.alloc (.cells (celR zeroR).toArray 26) = w6 at *
  generalize w5.heap.size = b10 at *
  refine wpList_nuln rfl (exec_putR rfl (ev rfl) (ev rfl) (HT6.out.ros (i := 1) rfl)) ?_
  simp only [Act.put, List.setIfInBounds_toArray, List.set_cons_succ, List.set_cons_zero]
  have HT7 : Hid (Blks w (putW w6 b10 (g)) [gc b9 (g), rc b10 (g)]) := Lib.hid (HT6.out.putR (i := 1) rfl (g))
  clear HT6
  generalize putW w6 b10 (g) = w7 at *
  refine wpList_valn rfl (exec_as rfl (ev rfl)) ?_
  simp only [Act.put, List.setIfInBounds_toArray, List.set_cons_succ, List.set_cons_zero]
  refine wpList_nil ?_
  go_upto_region 3 with fail
  refine wp_region_lit ?_
  refine wpList_valn rfl (exec_mv rfl (ev rfl)) ?_
  simp only [Act.put, List.setIfInBounds_toArray, List.set_cons_succ, List.set_cons_zero]
  refine wpList_valn (v := .bool false) rfl (exec_neInt false rfl (ev rfl) evk rfl) ?_
  simp only [Act.put, List.setIfInBounds_toArray, List.set_cons_succ, List.set_cons_zero]
  refine wpList_nil ?_
  go_upto_region 5 with fail
  refine wp_region_lit ?_
  refine wpList_valn rfl (exec_mv rfl (ev rfl)) ?_
  simp only [Act.put, List.setIfInBounds_toArray, List.set_cons_succ, List.set_cons_zero]
  refine wpList_valn rfl (exec_cvU8 rfl (ev rfl) HCC.out) ?_
  simp only [Act.put, List.setIfInBounds_toArray, List.set_cons_succ, List.set_cons_zero]
  refine wpList_valn rfl (exec_faddr rfl (ev rfl) faG0) ?_
  simp only [Act.put, List.setIfInBounds_toArray, List.set_cons_succ, List.set_cons_zero]
  refine wpList_valn rfl (exec_ld rfl (ev rfl) (ldInt (HT7.out.geo (i := 0) rfl 0 _ rfl))) ?_
  simp only [Act.put, List.setIfInBounds_toArray, List.set_cons_succ, List.set_cons_zero]
  refine wpList_valn rfl (exec_rem rfl (ev rfl) (ev rfl) HNZ.out HRC.out) ?_
  simp only [Act.put, List.setIfInBounds_toArray, List.set_cons_succ, List.set_cons_zero]
  refine wpList_valn rfl (exec_as rfl (ev rfl)) ?_
  simp only [Act.put, List.setIfInBounds_toArray, List.set_cons_succ, List.set_cons_zero]
  refine wpList_nil ?_
  go_upto_region 6 with fail
  refine wp_region_lit ?_
  refine wpList_valn rfl (exec_mv rfl (ev rfl)) ?_
  simp only [Act.put, List.setIfInBounds_toArray, List.set_cons_succ, List.set_cons_zero]
  refine wpList_valn rfl (exec_cvU8 rfl (ev rfl) HCD.out) ?_
  simp only [Act.put, List.setIfInBounds_toArray, List.set_cons_succ, List.set_cons_zero]
  refine wpList_valn rfl (exec_faddr rfl (ev rfl) faG0) ?_
  simp only [Act.put, List.setIfInBounds_toArray, List.set_cons_succ, List.set_cons_zero]
  refine wpList_valn rfl (exec_ld rfl (ev rfl) (ldInt (HT7.out.geo (i := 0) rfl 0 _ rfl))) ?_
  simp only [Act.put, List.setIfInBounds_toArray, List.set_cons_succ, List.set_cons_zero]
  refine wpList_valn rfl (exec_rem rfl (ev rfl) (ev rfl) HNZ.out HRD.out) ?_
  simp only [Act.put, List.setIfInBounds_toArray, List.set_cons_succ, List.set_cons_zero]
  refine wpList_valn rfl (exec_as rfl (ev rfl)) ?_
  simp only [Act.put, List.setIfInBounds_toArray, List.set_cons_succ, List.set_cons_zero]
  refine wpList_nil ?_
  go_upto_region 7 with fail
  refine wp_region_lit ?_
  refine wpList_valn rfl (exec_ldR rfl (ev rfl) (HT7.out.ros (i := 1) rfl)) ?_
  simp only [Act.put, List.setIfInBounds_toArray, List.set_cons_succ, List.set_cons_zero]
  refine wpList_valn rfl (exec_mv rfl (ev rfl)) ?_
  simp only [Act.put, List.setIfInBounds_toArray, List.set_cons_succ, List.set_cons_zero]
  refine wpList_call rfl (exec_cl Try.call21 rfl (evc (ev rfl) (evc (ev rfl) evn))) ?_
  refine (pbeg_v w7 HV0.out HN.out.beg).mono ?_
  rintro e w8 ⟨rfl, hb⟩
  have HT8 := Lib.hid (HT7.out.call hb)
  clear hb HT7
  refine ⟨_, rfl, ?_⟩
  simp only [Act.put, List.setIfInBounds_toArray, List.set_cons_succ, List.set_cons_zero]
  refine wpList_valn rfl (exec_mv rfl (ev rfl)) ?_
  simp only [Act.put, List.setIfInBounds_toArray, List.set_cons_succ, List.set_cons_zero]
  refine wpList_valn rfl (exec_ext rfl (ev rfl) rfl) ?_
  simp only [Act.put, List.setIfInBounds_toArray, List.set_cons_succ, List.set_cons_zero]
  refine wpList_valn rfl (exec_ext rfl (ev rfl) rfl) ?_
  simp only [Act.put, List.setIfInBounds_toArray, List.set_cons_succ, List.set_cons_zero]
  refine wpList_valn rfl (exec_as rfl (ev rfl)) ?_
  simp only [Act.put, List.setIfInBounds_toArray, List.set_cons_succ, List.set_cons_zero]
  refine wpList_nil ?_
  go_upto_region 8 with fail
  refine wp_region_lit ?_
  refine wpList_valn rfl (exec_ldR rfl (ev rfl) (HT8.out.ros (i := 1) rfl)) ?_
  simp only [Act.put, List.setIfInBounds_toArray, List.set_cons_succ, List.set_cons_zero]
  refine wpList_valn rfl (exec_mv rfl (ev rfl)) ?_
  simp only [Act.put, List.setIfInBounds_toArray, List.set_cons_succ, List.set_cons_zero]
  refine wpList_call rfl (exec_cl Try.call19 rfl (evc (ev rfl) (evc (ev rfl) evn))) ?_
  refine (plose_v w8 HN.out.los HN.out.losB).mono ?_
  rintro e w9 ⟨rfl, hb⟩
  have HT9 := Lib.hid (HT8.out.call hb)
  clear hb HT8
  refine ⟨_, rfl, ?_⟩
  simp only [Act.put, List.setIfInBounds_toArray, List.set_cons_succ, List.set_cons_zero]
  refine wpList_valn rfl (exec_mv rfl (ev rfl)) ?_
  simp only [Act.put, List.setIfInBounds_toArray, List.set_cons_succ, List.set_cons_zero]
  refine wpList_valn rfl (exec_ext rfl (ev rfl) rfl) ?_
  simp only [Act.put, List.setIfInBounds_toArray, List.set_cons_succ, List.set_cons_zero]
  refine wpList_valn rfl (exec_ext rfl (ev rfl) rfl) ?_
  simp only [Act.put, List.setIfInBounds_toArray, List.set_cons_succ, List.set_cons_zero]
  refine wpList_valn rfl (exec_allocR rfl) ?_
  simp only [Act.put, List.setIfInBounds_toArray, List.set_cons_succ, List.set_cons_zero]
  have HT10 : Hid (Blks w (w9.alloc (.cells (celR zeroR).toArray 26)) [gc b9 (g), rc b10 (g), rc w9.heap.size (zeroR)]) := Lib.hid (HT9.out.allocR zeroR)
  clear HT9
  generalize w9.alloc (.cells (celR zeroR).toArray 26) = w10 at *
  generalize w9.heap.size = b14 at *
  refine wpList_nuln rfl (exec_putR rfl (ev rfl) (ev rfl) (HT10.out.ros (i := 2) rfl)) ?_
  simp only [Act.put, List.setIfInBounds_toArray, List.set_cons_succ, List.set_cons_zero]
  have HT11 : Hid (Blks w (putW w10 b14 (setS g p 1)) [gc b9 (g), rc b10 (g), rc b14 (setS g p 1)]) := Lib.hid (HT10.out.putR (i := 2) rfl (setS g p 1))
  clear HT10
  generalize putW w10 b14 (setS g p 1) = w11 at *
  refine wpList_valn rfl (exec_as rfl (ev rfl)) ?_
  simp only [Act.put, List.setIfInBounds_toArray, List.set_cons_succ, List.set_cons_zero]
  refine wpList_nil ?_
  go_upto_region 9 with fail
  refine wp_region_lit ?_
  refine wpList_valn rfl (exec_ldR rfl (ev rfl) (HT11.out.ros (i := 2) rfl)) ?_
  simp only [Act.put, List.setIfInBounds_toArray, List.set_cons_succ, List.set_cons_zero]
  refine wpList_call rfl (exec_cl Try.call25 rfl (evc (ev rfl) (evc evk evn))) ?_
  refine (pgone_v w11 HN.out.goneX HN.out.goneE).mono ?_
  rintro e w12 ⟨rfl, hb⟩
  have HT12 := Lib.hid (HT11.out.call hb)
  clear hb HT11
  refine ⟨_, rfl, ?_⟩
  simp only [Act.put, List.setIfInBounds_toArray, List.set_cons_succ, List.set_cons_zero]
  refine wpList_valn rfl (exec_mv rfl (ev rfl)) ?_
  simp only [Act.put, List.setIfInBounds_toArray, List.set_cons_succ, List.set_cons_zero]
  refine wpList_valn rfl (exec_ext rfl (ev rfl) rfl) ?_
  simp only [Act.put, List.setIfInBounds_toArray, List.set_cons_succ, List.set_cons_zero]
  refine wpList_valn rfl (exec_ext rfl (ev rfl) rfl) ?_
  simp only [Act.put, List.setIfInBounds_toArray, List.set_cons_succ, List.set_cons_zero]
  refine wpList_valn rfl (exec_allocR rfl) ?_
  simp only [Act.put, List.setIfInBounds_toArray, List.set_cons_succ, List.set_cons_zero]
  have HT13 : Hid (Blks w (w12.alloc (.cells (celR zeroR).toArray 26)) [gc b9 (g), rc b10 (g), rc b14 (setS g p 1), rc w12.heap.size (zeroR)]) := Lib.hid (HT12.out.allocR zeroR)
  clear HT12
  generalize w12.alloc (.cells (celR zeroR).toArray 26) = w13 at *
  generalize w12.heap.size = b16 at *
  refine wpList_nuln rfl (exec_putR rfl (ev rfl) (ev rfl) (HT13.out.ros (i := 3) rfl)) ?_
  simp only [Act.put, List.setIfInBounds_toArray, List.set_cons_succ, List.set_cons_zero]
  have HT14 : Hid (Blks w (putW w13 b16 (gonS (setS g p 1) true)) [gc b9 (g), rc b10 (g), rc b14 (setS g p 1), rc b16 (gonS (setS g p 1) true)]) := Lib.hid (HT13.out.putR (i := 3) rfl (gonS (setS g p 1) true))
  clear HT13
  generalize putW w13 b16 (gonS (setS g p 1) true) = w14 at *
  refine wpList_valn rfl (exec_as rfl (ev rfl)) ?_
  simp only [Act.put, List.setIfInBounds_toArray, List.set_cons_succ, List.set_cons_zero]
  refine wpList_nil ?_
  go_upto_region 10 with fail
  refine wp_region_lit ?_
  refine wpList_valn rfl (exec_ldR rfl (ev rfl) (HT14.out.ros (i := 3) rfl)) ?_
  simp only [Act.put, List.setIfInBounds_toArray, List.set_cons_succ, List.set_cons_zero]
  refine wpList_valn rfl (exec_mv rfl (ev rfl)) ?_
  simp only [Act.put, List.setIfInBounds_toArray, List.set_cons_succ, List.set_cons_zero]
  refine wpList_call rfl (exec_cl Try.call21 rfl (evc (ev rfl) (evc (ev rfl) evn))) ?_
  refine (pbeg_v w14 HV1.out HN.out.begGone).mono ?_
  rintro e w15 ⟨rfl, hb⟩
  have HT15 := Lib.hid (HT14.out.call hb)
  clear hb HT14
  refine ⟨_, rfl, ?_⟩
  simp only [Act.put, List.setIfInBounds_toArray, List.set_cons_succ, List.set_cons_zero]
  refine wpList_valn rfl (exec_mv rfl (ev rfl)) ?_
  simp only [Act.put, List.setIfInBounds_toArray, List.set_cons_succ, List.set_cons_zero]
  refine wpList_valn rfl (exec_ext rfl (ev rfl) rfl) ?_
  simp only [Act.put, List.setIfInBounds_toArray, List.set_cons_succ, List.set_cons_zero]
  refine wpList_valn rfl (exec_ext rfl (ev rfl) rfl) ?_
  simp only [Act.put, List.setIfInBounds_toArray, List.set_cons_succ, List.set_cons_zero]
  refine wpList_valn rfl (exec_allocR rfl) ?_
  simp only [Act.put, List.setIfInBounds_toArray, List.set_cons_succ, List.set_cons_zero]
  have HT16 : Hid (Blks w (w15.alloc (.cells (celR zeroR).toArray 26)) [gc b9 (g), rc b10 (g), rc b14 (setS g p 1), rc b16 (gonS (setS g p 1) true), rc w15.heap.size (zeroR)]) := Lib.hid (HT15.out.allocR zeroR)
  clear HT15
  generalize w15.alloc (.cells (celR zeroR).toArray 26) = w16 at *
  generalize w15.heap.size = b18 at *
  refine wpList_nuln rfl (exec_putR rfl (ev rfl) (ev rfl) (HT16.out.ros (i := 4) rfl)) ?_
  simp only [Act.put, List.setIfInBounds_toArray, List.set_cons_succ, List.set_cons_zero]
  have HT17 : Hid (Blks w (putW w16 b18 (v1)) [gc b9 (g), rc b10 (g), rc b14 (setS g p 1), rc b16 (gonS (setS g p 1) true), rc b18 (v1)]) := Lib.hid (HT16.out.putR (i := 4) rfl (v1))
  clear HT16
  generalize putW w16 b18 (v1) = w17 at *
  refine wpList_valn rfl (exec_as rfl (ev rfl)) ?_
  simp only [Act.put, List.setIfInBounds_toArray, List.set_cons_succ, List.set_cons_zero]
  refine wpList_nil ?_
  go_upto_region 11 with fail
  refine wp_region_lit ?_
  refine wpList_valn rfl (exec_mv rfl (ev rfl)) ?_
  simp only [Act.put, List.setIfInBounds_toArray, List.set_cons_succ, List.set_cons_zero]
  refine wpList_valn (v := .bool false) rfl (exec_neInt false rfl (ev rfl) evk rfl) ?_
  simp only [Act.put, List.setIfInBounds_toArray, List.set_cons_succ, List.set_cons_zero]
  refine wpList_valn (v := .bool false) rfl (exec_mv rfl (ev rfl)) ?_
  simp only [Act.put, List.setIfInBounds_toArray, List.set_cons_succ, List.set_cons_zero]
  refine wpList_val (wanted_of rfl rfl rfl rfl) (exec_mv rfl (ev rfl)) ?_
  simp only [Act.put, List.setIfInBounds_toArray, List.set_cons_succ, List.set_cons_zero]
  refine wpList_val (v := .bool false) (wanted_of rfl rfl rfl rfl) (exec_neInt false rfl (ev rfl) evk rfl) ?_
  simp only [Act.put, List.setIfInBounds_toArray, List.set_cons_succ, List.set_cons_zero]
  refine wpList_valn (v := .bool false) rfl (exec_pf rfl (ev rfl) (ev rfl)) ?_
  simp only [Act.put, List.setIfInBounds_toArray, List.set_cons_succ, List.set_cons_zero]
  refine wpList_valn (v := .bool false) rfl (exec_mv rfl (ev rfl)) ?_
  simp only [Act.put, List.setIfInBounds_toArray, List.set_cons_succ, List.set_cons_zero]
  refine wpList_val (wanted_of rfl rfl rfl rfl) (exec_mv rfl (ev rfl)) ?_
  simp only [Act.put, List.setIfInBounds_toArray, List.set_cons_succ, List.set_cons_zero]
  refine wpList_val (v := .bool false) (wanted_of rfl rfl rfl rfl) (exec_neInt false rfl (ev rfl) evk rfl) ?_
  simp only [Act.put, List.setIfInBounds_toArray, List.set_cons_succ, List.set_cons_zero]
  refine wpList_valn (v := .bool false) rfl (exec_pf rfl (ev rfl) (ev rfl)) ?_
  simp only [Act.put, List.setIfInBounds_toArray, List.set_cons_succ, List.set_cons_zero]
  refine wpList_nil ?_
  go_upto_region 13 with fail
  refine wp_region_lit ?_
  refine wpList_valn rfl (exec_ldR rfl (ev rfl) (HT17.out.ros (i := 2) rfl)) ?_
  simp only [Act.put, List.setIfInBounds_toArray, List.set_cons_succ, List.set_cons_zero]
  refine wpList_valn rfl (exec_mv rfl (ev rfl)) ?_
  simp only [Act.put, List.setIfInBounds_toArray, List.set_cons_succ, List.set_cons_zero]
  refine wpList_call rfl (exec_cl Try.call19 rfl (evc (ev rfl) (evc (ev rfl) evn))) ?_
  refine (plose_v w17 HZ.out HBZ.out).mono ?_
  rintro e w18 ⟨rfl, hb⟩
  have HT18 := Lib.hid (HT17.out.call hb)
  clear hb HT17
  refine ⟨_, rfl, ?_⟩
  simp only [Act.put, List.setIfInBounds_toArray, List.set_cons_succ, List.set_cons_zero]
  refine wpList_valn rfl (exec_mv rfl (ev rfl)) ?_
  simp only [Act.put, List.setIfInBounds_toArray, List.set_cons_succ, List.set_cons_zero]
  refine wpList_valn rfl (exec_ext rfl (ev rfl) rfl) ?_
  simp only [Act.put, List.setIfInBounds_toArray, List.set_cons_succ, List.set_cons_zero]
  refine wpList_valn rfl (exec_ext rfl (ev rfl) rfl) ?_
  simp only [Act.put, List.setIfInBounds_toArray, List.set_cons_succ, List.set_cons_zero]
  refine wpList_valn rfl (exec_allocR rfl) ?_
  simp only [Act.put, List.setIfInBounds_toArray, List.set_cons_succ, List.set_cons_zero]
  have HT19 : Hid (Blks w (w18.alloc (.cells (celR zeroR).toArray 26)) [gc b9 (g), rc b10 (g), rc b14 (setS g p 1), rc b16 (gonS (setS g p 1) true), rc b18 (v1), rc w18.heap.size (zeroR)]) := Lib.hid (HT18.out.allocR zeroR)
  clear HT18
  generalize w18.alloc (.cells (celR zeroR).toArray 26) = w19 at *
  generalize w18.heap.size = b20 at *
  refine wpList_nuln rfl (exec_putR rfl (ev rfl) (ev rfl) (HT19.out.ros (i := 5) rfl)) ?_
  simp only [Act.put, List.setIfInBounds_toArray, List.set_cons_succ, List.set_cons_zero]
  have HT20 : Hid (Blks w (putW w19 b20 (z)) [gc b9 (g), rc b10 (g), rc b14 (setS g p 1), rc b16 (gonS (setS g p 1) true), rc b18 (v1), rc b20 (z)]) := Lib.hid (HT19.out.putR (i := 5) rfl (z))
  clear HT19
  generalize putW w19 b20 (z) = w20 at *
  refine wpList_valn rfl (exec_as rfl (ev rfl)) ?_
  simp only [Act.put, List.setIfInBounds_toArray, List.set_cons_succ, List.set_cons_zero]
  refine wpList_nil ?_
  go_upto_region 14 with fail
  refine wp_region_lit ?_
  refine wpList_valn rfl (exec_ldR rfl (ev rfl) (HT20.out.ros (i := 5) rfl)) ?_
  simp only [Act.put, List.setIfInBounds_toArray, List.set_cons_succ, List.set_cons_zero]
  refine wpList_valn rfl (exec_mv rfl (ev rfl)) ?_
  simp only [Act.put, List.setIfInBounds_toArray, List.set_cons_succ, List.set_cons_zero]
  refine wpList_call rfl (exec_cl Try.call21 rfl (evc (ev rfl) (evc (ev rfl) evn))) ?_
  refine (pbeg_v w20 HV2.out HE2.out).mono ?_
  rintro e w21 ⟨rfl, hb⟩
  have HT21 := Lib.hid (HT20.out.call hb)
  clear hb HT20
  refine ⟨_, rfl, ?_⟩
  simp only [Act.put, List.setIfInBounds_toArray, List.set_cons_succ, List.set_cons_zero]
  refine wpList_valn rfl (exec_mv rfl (ev rfl)) ?_
  simp only [Act.put, List.setIfInBounds_toArray, List.set_cons_succ, List.set_cons_zero]
  refine wpList_valn rfl (exec_ext rfl (ev rfl) rfl) ?_
  simp only [Act.put, List.setIfInBounds_toArray, List.set_cons_succ, List.set_cons_zero]
  refine wpList_valn rfl (exec_ext rfl (ev rfl) rfl) ?_
  simp only [Act.put, List.setIfInBounds_toArray, List.set_cons_succ, List.set_cons_zero]
  refine wpList_valn rfl (exec_allocR rfl) ?_
  simp only [Act.put, List.setIfInBounds_toArray, List.set_cons_succ, List.set_cons_zero]
  have HT22 : Hid (Blks w (w21.alloc (.cells (celR zeroR).toArray 26)) [gc b9 (g), rc b10 (g), rc b14 (setS g p 1), rc b16 (gonS (setS g p 1) true), rc b18 (v1), rc b20 (z), rc w21.heap.size (zeroR)]) := Lib.hid (HT21.out.allocR zeroR)
  clear HT21
  generalize w21.alloc (.cells (celR zeroR).toArray 26) = w22 at *
  generalize w21.heap.size = b22 at *
  refine wpList_nuln rfl (exec_putR rfl (ev rfl) (ev rfl) (HT22.out.ros (i := 6) rfl)) ?_
  simp only [Act.put, List.setIfInBounds_toArray, List.set_cons_succ, List.set_cons_zero]
  have HT23 : Hid (Blks w (putW w22 b22 (v2)) [gc b9 (g), rc b10 (g), rc b14 (setS g p 1), rc b16 (gonS (setS g p 1) true), rc b18 (v1), rc b20 (z), rc b22 (v2)]) := Lib.hid (HT22.out.putR (i := 6) rfl (v2))
  clear HT22
  generalize putW w22 b22 (v2) = w23 at *
  refine wpList_valn rfl (exec_as rfl (ev rfl)) ?_
  simp only [Act.put, List.setIfInBounds_toArray, List.set_cons_succ, List.set_cons_zero]
  refine wpList_nil ?_
  go_upto_region 15 with fail
  refine wp_region_lit ?_
  refine wpList_valn rfl (exec_ldR rfl (ev rfl) (HT23.out.ros (i := 5) rfl)) ?_
  simp only [Act.put, List.setIfInBounds_toArray, List.set_cons_succ, List.set_cons_zero]
  refine wpList_valn rfl (exec_mv rfl (ev rfl)) ?_
  simp only [Act.put, List.setIfInBounds_toArray, List.set_cons_succ, List.set_cons_zero]
  refine wpList_call rfl (exec_cl Try.call21 rfl (evc (ev rfl) (evc (ev rfl) evn))) ?_
  refine (pbeg_v w23 HV3.out HE3.out).mono ?_
  rintro e w24 ⟨rfl, hb⟩
  have HT24 := Lib.hid (HT23.out.call hb)
  clear hb HT23
  refine ⟨_, rfl, ?_⟩
  simp only [Act.put, List.setIfInBounds_toArray, List.set_cons_succ, List.set_cons_zero]
  refine wpList_valn rfl (exec_mv rfl (ev rfl)) ?_
  simp only [Act.put, List.setIfInBounds_toArray, List.set_cons_succ, List.set_cons_zero]
  refine wpList_valn rfl (exec_ext rfl (ev rfl) rfl) ?_
  simp only [Act.put, List.setIfInBounds_toArray, List.set_cons_succ, List.set_cons_zero]
  refine wpList_valn rfl (exec_ext rfl (ev rfl) rfl) ?_
  simp only [Act.put, List.setIfInBounds_toArray, List.set_cons_succ, List.set_cons_zero]
  refine wpList_valn rfl (exec_allocR rfl) ?_
  simp only [Act.put, List.setIfInBounds_toArray, List.set_cons_succ, List.set_cons_zero]
  have HT25 : Hid (Blks w (w24.alloc (.cells (celR zeroR).toArray 26)) [gc b9 (g), rc b10 (g), rc b14 (setS g p 1), rc b16 (gonS (setS g p 1) true), rc b18 (v1), rc b20 (z), rc b22 (v2), rc w24.heap.size (zeroR)]) := Lib.hid (HT24.out.allocR zeroR)
  clear HT24
  generalize w24.alloc (.cells (celR zeroR).toArray 26) = w25 at *
  generalize w24.heap.size = b24 at *
  refine wpList_nuln rfl (exec_putR rfl (ev rfl) (ev rfl) (HT25.out.ros (i := 7) rfl)) ?_
  simp only [Act.put, List.setIfInBounds_toArray, List.set_cons_succ, List.set_cons_zero]
  have HT26 : Hid (Blks w (putW w25 b24 (v3)) [gc b9 (g), rc b10 (g), rc b14 (setS g p 1), rc b16 (gonS (setS g p 1) true), rc b18 (v1), rc b20 (z), rc b22 (v2), rc b24 (v3)]) := Lib.hid (HT25.out.putR (i := 7) rfl (v3))
  clear HT25
  generalize putW w25 b24 (v3) = w26 at *
  refine wpList_valn rfl (exec_as rfl (ev rfl)) ?_
  simp only [Act.put, List.setIfInBounds_toArray, List.set_cons_succ, List.set_cons_zero]
  refine wpList_nil ?_
  go_upto_region 16 with fail
  refine wp_region_lit ?_
  refine wpList_valn rfl (exec_ldR rfl (ev rfl) (HT26.out.ros (i := 2) rfl)) ?_
  simp only [Act.put, List.setIfInBounds_toArray, List.set_cons_succ, List.set_cons_zero]
  refine wpList_valn rfl (exec_faddr rfl (ev rfl) faG0) ?_
  simp only [Act.put, List.setIfInBounds_toArray, List.set_cons_succ, List.set_cons_zero]
  refine wpList_valn rfl (exec_ld rfl (ev rfl) (ldInt (HT26.out.geo (i := 0) rfl 0 _ rfl))) ?_
  simp only [Act.put, List.setIfInBounds_toArray, List.set_cons_succ, List.set_cons_zero]
  refine wpList_call rfl (exec_cl Try.call21 rfl (evc (ev rfl) (evc (ev rfl) evn))) ?_
  refine (pbeg_v w26 HV4.out HN.out.begFar).mono ?_
  rintro e w27 ⟨rfl, hb⟩
  have HT27 := Lib.hid (HT26.out.call hb)
  clear hb HT26
  refine ⟨_, rfl, ?_⟩
  simp only [Act.put, List.setIfInBounds_toArray, List.set_cons_succ, List.set_cons_zero]
  refine wpList_valn rfl (exec_mv rfl (ev rfl)) ?_
  simp only [Act.put, List.setIfInBounds_toArray, List.set_cons_succ, List.set_cons_zero]
  refine wpList_valn rfl (exec_ext rfl (ev rfl) rfl) ?_
  simp only [Act.put, List.setIfInBounds_toArray, List.set_cons_succ, List.set_cons_zero]
  refine wpList_valn rfl (exec_ext rfl (ev rfl) rfl) ?_
  simp only [Act.put, List.setIfInBounds_toArray, List.set_cons_succ, List.set_cons_zero]
  refine wpList_valn rfl (exec_allocR rfl) ?_
  simp only [Act.put, List.setIfInBounds_toArray, List.set_cons_succ, List.set_cons_zero]
  have HT28 : Hid (Blks w (w27.alloc (.cells (celR zeroR).toArray 26)) [gc b9 (g), rc b10 (g), rc b14 (setS g p 1), rc b16 (gonS (setS g p 1) true), rc b18 (v1), rc b20 (z), rc b22 (v2), rc b24 (v3), rc w27.heap.size (zeroR)]) := Lib.hid (HT27.out.allocR zeroR)
  clear HT27
  generalize w27.alloc (.cells (celR zeroR).toArray 26) = w28 at *
  generalize w27.heap.size = b26 at *
  refine wpList_nuln rfl (exec_putR rfl (ev rfl) (ev rfl) (HT28.out.ros (i := 8) rfl)) ?_
  simp only [Act.put, List.setIfInBounds_toArray, List.set_cons_succ, List.set_cons_zero]
  have HT29 : Hid (Blks w (putW w28 b26 (v4)) [gc b9 (g), rc b10 (g), rc b14 (setS g p 1), rc b16 (gonS (setS g p 1) true), rc b18 (v1), rc b20 (z), rc b22 (v2), rc b24 (v3), rc b26 (v4)]) := Lib.hid (HT28.out.putR (i := 8) rfl (v4))
  clear HT28
  generalize putW w28 b26 (v4) = w29 at *
  refine wpList_valn rfl (exec_as rfl (ev rfl)) ?_
  simp only [Act.put, List.setIfInBounds_toArray, List.set_cons_succ, List.set_cons_zero]
  refine wpList_nil ?_
  go_upto_region 17 with fail
  refine wp_region_lit ?_
  refine wpList_valn rfl (exec_mv rfl (ev rfl)) ?_
  simp only [Act.put, List.setIfInBounds_toArray, List.set_cons_succ, List.set_cons_zero]
  refine wpList_valn (v := .bool false) rfl (exec_neInt false rfl (ev rfl) evk rfl) ?_
  simp only [Act.put, List.setIfInBounds_toArray, List.set_cons_succ, List.set_cons_zero]
  refine wpList_valn (v := .bool false) rfl (exec_mv rfl (ev rfl)) ?_
  simp only [Act.put, List.setIfInBounds_toArray, List.set_cons_succ, List.set_cons_zero]
  refine wpList_val (wanted_of rfl rfl rfl rfl) (exec_mv rfl (ev rfl)) ?_
  simp only [Act.put, List.setIfInBounds_toArray, List.set_cons_succ, List.set_cons_zero]
  refine wpList_val (v := .bool false) (wanted_of rfl rfl rfl rfl) (exec_eqInt false rfl (ev rfl) evk rfl) ?_
  simp only [Act.put, List.setIfInBounds_toArray, List.set_cons_succ, List.set_cons_zero]
  refine wpList_val (wanted_of rfl rfl rfl rfl) (exec_mv rfl (ev rfl)) ?_
  simp only [Act.put, List.setIfInBounds_toArray, List.set_cons_succ, List.set_cons_zero]
  refine wpList_val (wanted_of rfl rfl rfl rfl) (exec_mv rfl (ev rfl)) ?_
  simp only [Act.put, List.setIfInBounds_toArray, List.set_cons_succ, List.set_cons_zero]
  refine wpList_val (v := .bool false) (wanted_of rfl rfl rfl rfl) (exec_eqInt false rfl (ev rfl) (ev rfl) HPQ.out) ?_
  simp only [Act.put, List.setIfInBounds_toArray, List.set_cons_succ, List.set_cons_zero]
  refine wpList_val (v := .bool false) (wanted_of rfl rfl rfl rfl) (exec_neBool false rfl (ev rfl) (ev rfl) rfl) ?_
  simp only [Act.put, List.setIfInBounds_toArray, List.set_cons_succ, List.set_cons_zero]
  refine wpList_valn (v := .bool false) rfl (exec_pf rfl (ev rfl) (ev rfl)) ?_
  simp only [Act.put, List.setIfInBounds_toArray, List.set_cons_succ, List.set_cons_zero]
  refine wpList_valn (v := .bool false) rfl (exec_mv rfl (ev rfl)) ?_
  simp only [Act.put, List.setIfInBounds_toArray, List.set_cons_succ, List.set_cons_zero]
  refine wpList_val (wanted_of rfl rfl rfl rfl) (exec_mv rfl (ev rfl)) ?_
  simp only [Act.put, List.setIfInBounds_toArray, List.set_cons_succ, List.set_cons_zero]
  refine wpList_val (v := .bool false) (wanted_of rfl rfl rfl rfl) (exec_eqInt false rfl (ev rfl) evk rfl) ?_
  simp only [Act.put, List.setIfInBounds_toArray, List.set_cons_succ, List.set_cons_zero]
  refine wpList_val (wanted_of rfl rfl rfl rfl) (exec_mv rfl (ev rfl)) ?_
  simp only [Act.put, List.setIfInBounds_toArray, List.set_cons_succ, List.set_cons_zero]
  refine wpList_val (wanted_of rfl rfl rfl rfl) (exec_mv rfl (ev rfl)) ?_
  simp only [Act.put, List.setIfInBounds_toArray, List.set_cons_succ, List.set_cons_zero]
  refine wpList_val (v := .bool false) (wanted_of rfl rfl rfl rfl) (exec_eqInt false rfl (ev rfl) (ev rfl) HPQ.out) ?_
  simp only [Act.put, List.setIfInBounds_toArray, List.set_cons_succ, List.set_cons_zero]
  refine wpList_val (v := .bool false) (wanted_of rfl rfl rfl rfl) (exec_neBool false rfl (ev rfl) (ev rfl) rfl) ?_
  simp only [Act.put, List.setIfInBounds_toArray, List.set_cons_succ, List.set_cons_zero]
  refine wpList_valn (v := .bool false) rfl (exec_pf rfl (ev rfl) (ev rfl)) ?_
  simp only [Act.put, List.setIfInBounds_toArray, List.set_cons_succ, List.set_cons_zero]
  refine wpList_valn (v := .bool false) rfl (exec_mv rfl (ev rfl)) ?_
  simp only [Act.put, List.setIfInBounds_toArray, List.set_cons_succ, List.set_cons_zero]
  refine wpList_val (wanted_of rfl rfl rfl rfl) (exec_ldR rfl (ev rfl) (HT29.out.ros (i := 5) rfl)) ?_
  simp only [Act.put, List.setIfInBounds_toArray, List.set_cons_succ, List.set_cons_zero]
  refine wpList_call (wanted_of rfl rfl rfl rfl) (exec_cl Try.call15 rfl (evc (ev rfl) evn)) ?_
  refine (pstate_n w29 HST.out).mono ?_
  rintro e w30 ⟨rfl, hb⟩
  have HT30 := Lib.hid (HT29.out.call hb)
  clear hb HT29
  refine ⟨_, rfl, ?_⟩
  simp only [Act.put, List.setIfInBounds_toArray, List.set_cons_succ, List.set_cons_zero]
  refine wpList_val (v := .bool true) (wanted_of rfl rfl rfl rfl) (exec_eqInt true rfl (ev rfl) evk rfl) ?_
  simp only [Act.put, List.setIfInBounds_toArray, List.set_cons_succ, List.set_cons_zero]
  refine wpList_val (wanted_of rfl rfl rfl rfl) (exec_mv rfl (ev rfl)) ?_
  simp only [Act.put, List.setIfInBounds_toArray, List.set_cons_succ, List.set_cons_zero]
  refine wpList_val (wanted_of rfl rfl rfl rfl) (exec_mv rfl (ev rfl)) ?_
  simp only [Act.put, List.setIfInBounds_toArray, List.set_cons_succ, List.set_cons_zero]
  refine wpList_val (v := .bool true) (wanted_of rfl rfl rfl rfl) (exec_neInt true rfl (ev rfl) (ev rfl) HPN.out) ?_
  simp only [Act.put, List.setIfInBounds_toArray, List.set_cons_succ, List.set_cons_zero]
  refine wpList_val (v := .bool false) (wanted_of rfl rfl rfl rfl) (exec_neBool false rfl (ev rfl) (ev rfl) rfl) ?_
  simp only [Act.put, List.setIfInBounds_toArray, List.set_cons_succ, List.set_cons_zero]
  refine wpList_valn (v := .bool false) rfl (exec_pf rfl (ev rfl) (ev rfl)) ?_
  simp only [Act.put, List.setIfInBounds_toArray, List.set_cons_succ, List.set_cons_zero]
  refine wpList_nil ?_
  go_upto_region 19 with fail
  refine wp_region_lit ?_
  refine wpList_call rfl (exec_cl Try.call27 rfl evn) ?_
  refine (plives w30).mono ?_
  rintro e w31 ⟨rfl, hb⟩
  have HT31 := Lib.hid (HT30.out.call hb)
  clear hb HT30
  refine ⟨_, rfl, ?_⟩
  simp only [Act.put, List.setIfInBounds_toArray, List.set_cons_succ, List.set_cons_zero]
  refine wpList_valn (v := .bool true) rfl (exec_as rfl (ev rfl)) ?_
  simp only [Act.put, List.setIfInBounds_toArray, List.set_cons_succ, List.set_cons_zero]
  refine wpList_nil ?_
  go_wp2_with fail
  go_ret
  exact ⟨rfl, HT31.out.bel⟩
theorem rosRefuses {a b c d : Nat} (ha : a ≤ 255) (hb : b ≤ 255) (hc : c ≤ 255) (hd : d ≤ 255) (w : World) :
    Calls Try.prog 6 #[.int .u8 (a : Int), .int .u8 (b : Int), .int .u8 (c : Int), .int .u8 (d : Int)] w fun e w' => e = .returned (.bool true) ∧ Below w.heap.size w w' := by
  obtain ⟨g, hg⟩ : ∃ g, gX a b = g := ⟨_, rfl⟩
  have hgz : gz g = g := by rw [← hg]; exact gX_gz a b
  have hgg : geoB g = true := by rw [← hg]; exact gX_geo a b
  obtain ⟨M, hM⟩ : ∃ M : Nat, g.m = (M : Int) := ⟨3 + a % 14, by rw [← hg, gX_m]; omega⟩
  obtain ⟨S, hS⟩ : ∃ S : Nat, g.s = (S : Int) := ⟨1 + b % 64, by rw [← hg, gX_s]; omega⟩
  have hgi := of_geoB hgg
  have hM16 : 3 ≤ M ∧ M ≤ 16 := by omega
  have hS64 : 1 ≤ S ∧ S ≤ 64 := by omega
  have HNZ : Hid (g.m ≠ 0) := Lib.hid (by omega)
  have HCC := Lib.hid (IntWalk.i64_in (c : Int) (by omega))
  have hltp : c % M < M := Nat.mod_lt _ (by omega)
  have HRC : Hid (((c : Int)).tmod g.m = ((c % M : Nat) : Int)) := Lib.hid (by rw [hM]; exact rem_nat (by omega))
  generalize c % M = p at *
  have HCD := Lib.hid (IntWalk.i64_in (d : Int) (by omega))
  have hltq : d % M < M := Nat.mod_lt _ (by omega)
  have HRD : Hid (((d : Int)).tmod g.m = ((d % M : Nat) : Int)) := Lib.hid (by rw [hM]; exact rem_nat (by omega))
  generalize d % M = q at *
  have hn : NewR g p := ⟨hgz, hgg, by omega⟩
  have hqm : (q : Int) < g.m := by omega
  by_cases e : q = p
  · refine rosRefuses_eq (z := setS g p 1) (Lib.hid ha) (Lib.hid hb) (Lib.hid hg) (Lib.hid hn) HNZ HCC HCD HRC HRD (Lib.hid rfl) (Lib.hid rfl) (Lib.hid ?_) (Lib.hid rfl) (Lib.hid rfl) (Lib.hid hn.begin) (Lib.hid rfl) (Lib.hid ?_) (Lib.hid rfl) (Lib.hid hn.st1) (Lib.hid ?_) (Lib.hid ?_)
    · rw [e]; exact hn.againX
    · rw [e]; exact hn.begin
    · simp; omega
    · simp; omega
  · exact rosRefuses_ne (Lib.hid ha) (Lib.hid hb) (Lib.hid hg) (Lib.hid hn) HNZ HCC HCD HRC HRD (Lib.hid rfl) (Lib.hid rfl) (Lib.hid (hn.los2 hqm e)) (Lib.hid rfl) (Lib.hid rfl) (Lib.hid (hn.beg2 hqm e hn.lt)) (Lib.hid rfl) (Lib.hid (hn.beg2 hqm e hqm)) (Lib.hid rfl) (Lib.hid (hn.st2 hqm e)) (Lib.hid (by simp; omega)) (Lib.hid (by simp; omega))
end Go.Proofs.Ytnckcafemdcaeaa
