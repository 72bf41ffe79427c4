/-
  ashlarlaw10.RosterRound walked.
-/
import Derived.Test.YtnckcafemdcaeaaRoj
import Derived.Test.YtnckcafemdcaeaaRoR
import Derived.Test.YtnckcafemdcaeaaSkip
import Derived.Test.YtnckcafemdcaeaaSkq
namespace Go.Proofs.Ytnckcafemdcaeaa
open Go.RowKit
set_option linter.unusedVariables false
set_option linter.unusedSimpArgs false
set_option maxRecDepth 100000

theorem pgeo_v {a b : Nat} {g : Ros} (ha : a ≤ 255) (hb : b ≤ 255) (h : gX a b = g) (w : World) : Calls Try.prog 28 #[.int .u8 (a : Int), .int .u8 (b : Int)] w fun e w' => e = .returned (geo g) ∧ Below w.heap.size w w' := by subst h; exact pgeo ha hb w
theorem Blks.dropOne {w0 w : World} {l : List Cel} {p : Cel} (h : Blks w0 w (l ++ [p])) : Blks w0 w l :=
  have key : ∀ (i : Nat) (q : Cel), l[i]? = some q → (l ++ [p])[i]? = some q := fun i q hi => by
    rw [List.getElem?_append_left (List.getElem?_eq_some_iff.1 hi).1]; exact hi
  ⟨h.bel, fun i q hi => h.at_ i q (key i q hi), fun i j q r hi hj => h.apart i j q r (key i q hi) (key j r hj)⟩
set_option maxHeartbeats 16000000 in
theorem rosRound {a b c : Nat} (ha : a ≤ 255) (hb : b ≤ 255) (hc : c ≤ 255) (w : World) :
    Calls Try.prog 5 #[.int .u8 (a : Int), .int .u8 (b : Int), .int .u8 (c : Int)] w fun e w' => e = .returned (.bool true) ∧ Below w.heap.size w w' := by
  obtain ⟨g, hg⟩ : ∃ g, gX a b = g := ⟨_, rfl⟩
  have hgz : gz g = g := by rw [← hg]; exact gX_gz a b
  have hgg : geoB g = true := by rw [← hg]; exact gX_geo a b
  obtain ⟨M, hM⟩ : ∃ M : Nat, g.m = (M : Int) := ⟨3 + a % 14, by rw [← hg, gX_m]; omega⟩
  obtain ⟨S, hS⟩ : ∃ S : Nat, g.s = (S : Int) := ⟨1 + b % 64, by rw [← hg, gX_s]; omega⟩
  have hgi := of_geoB hgg
  have hM16 : 3 ≤ M ∧ M ≤ 16 := by omega
  have hS64 : 1 ≤ S ∧ S ≤ 64 := by omega
  have HNZ : Hid (g.m ≠ 0) := Lib.hid (by omega)
  have HCC := Lib.hid (IntWalk.i64_in (c : Int) (by omega))
  have hltp : c % M < M := Nat.mod_lt _ (by omega)
  have HRC : Hid (((c : Int)).tmod g.m = ((c % M : Nat) : Int)) := Lib.hid (by rw [hM]; exact rem_nat (by omega))
  generalize c % M = p at *
  have HN : Hid (NewR g p) := Lib.hid ⟨hgz, hgg, by omega⟩
  have HA := Lib.hid ha
  have HB := Lib.hid hb
  have HG := Lib.hid hg
  have HMQ := Lib.hid hM
  have HSQ := Lib.hid hS
  clear hgz hgg hgi ha hb hg hM hS hltp
  have HT1 := Lib.hid (Blks.nil w)
  go_enter Try.func5, Try.ntmps5
  go_upto_region 1 with fail
  refine wp_region_lit ?_
  refine wpList_valn rfl (exec_mv rfl (ev rfl)) ?_
  simp only [Act.put, List.setIfInBounds_toArray, List.set_cons_succ, List.set_cons_zero]
  refine wpList_valn rfl (exec_mv rfl (ev rfl)) ?_
  simp only [Act.put, List.setIfInBounds_toArray, List.set_cons_succ, List.set_cons_zero]
  refine wpList_call rfl (exec_cl Try.call28 rfl (evc (ev rfl) (evc (ev rfl) evn))) ?_
  refine (pgeo_v HA.out HB.out HG.out w).mono ?_
  rintro e w2 ⟨rfl, hb⟩
  have HT2 := Lib.hid (HT1.out.call hb)
  clear hb HT1
  refine ⟨_, rfl, ?_⟩
  simp only [Act.put, List.setIfInBounds_toArray, List.set_cons_succ, List.set_cons_zero]
  refine wpList_valn rfl (exec_allocG rfl) ?_
  simp only [Act.put, List.setIfInBounds_toArray, List.set_cons_succ, List.set_cons_zero]
  have HT3 : Hid (Blks w (w2.alloc (.cells (celG zeroR).toArray 23)) [gc w2.heap.size (zeroR)]) := Lib.hid (HT2.out.allocG zeroR)
  clear HT2
  generalize w2.alloc (.cells (celG zeroR).toArray 23) = w3 at *
  generalize w2.heap.size = b7 at *
  refine wpList_nuln rfl (exec_putV rfl (ev rfl) (ev rfl) (HT3.out.thereG (i := 0) rfl)) ?_
  simp only [Act.put, List.setIfInBounds_toArray, List.set_cons_succ, List.set_cons_zero]
  have HT4 : Hid (Blks w (putV w3 b7 (g)) [gc b7 (g)]) := Lib.hid (HT3.out.putG (i := 0) rfl (g))
  clear HT3
  generalize putV w3 b7 (g) = w4 at *
  refine wpList_nil ?_
  go_upto_region 2 with fail
  refine wp_region_lit ?_
  refine wpList_valn rfl (exec_loadG (c := (g)) rfl (ev rfl) (HT4.out.geo (i := 0) rfl)) ?_
  simp only [Act.put, List.setIfInBounds_toArray, List.set_cons_succ, List.set_cons_zero]
  refine wpList_call rfl (exec_cl Try.call7 rfl (evc (ev rfl) evn)) ?_
  refine (pnew_v w4 HN.out.new HN.out.newE).mono ?_
  rintro e w5 ⟨rfl, hb⟩
  have HT5 := Lib.hid (HT4.out.call hb)
  clear hb HT4
  refine ⟨_, rfl, ?_⟩
  simp only [Act.put, List.setIfInBounds_toArray, List.set_cons_succ, List.set_cons_zero]
  refine wpList_valn rfl (exec_mv rfl (ev rfl)) ?_
  simp only [Act.put, List.setIfInBounds_toArray, List.set_cons_succ, List.set_cons_zero]
  refine wpList_valn rfl (exec_ext rfl (ev rfl) rfl) ?_
  simp only [Act.put, List.setIfInBounds_toArray, List.set_cons_succ, List.set_cons_zero]
  refine wpList_valn rfl (exec_ext rfl (ev rfl) rfl) ?_
  simp only [Act.put, List.setIfInBounds_toArray, List.set_cons_succ, List.set_cons_zero]
  refine wpList_valn rfl (exec_allocR rfl) ?_
  simp only [Act.put, List.setIfInBounds_toArray, List.set_cons_succ, List.set_cons_zero]
  have HT6 : Hid (Blks w (w5.alloc (.cells (celR zeroR).toArray 26)) [gc b7 (g), rc w5.heap.size (zeroR)]) := Lib.hid (HT5.out.allocR zeroR)
  clear HT5
  generalize w5.alloc (.cells (celR zeroR).toArray 26) = w6 at *
  generalize w5.heap.size = b8 at *
  refine wpList_nuln rfl (exec_putR rfl (ev rfl) (ev rfl) (HT6.out.ros (i := 1) rfl)) ?_
  simp only [Act.put, List.setIfInBounds_toArray, List.set_cons_succ, List.set_cons_zero]
  have HT7 : Hid (Blks w (putW w6 b8 (g)) [gc b7 (g), rc b8 (g)]) := Lib.hid (HT6.out.putR (i := 1) rfl (g))
  clear HT6
  generalize putW w6 b8 (g) = w7 at *
  refine wpList_valn rfl (exec_as rfl (ev rfl)) ?_
  simp only [Act.put, List.setIfInBounds_toArray, List.set_cons_succ, List.set_cons_zero]
  refine wpList_nil ?_
  go_upto_region 3 with fail
  refine wp_region_lit ?_
  refine wpList_valn rfl (exec_mv rfl (ev rfl)) ?_
  simp only [Act.put, List.setIfInBounds_toArray, List.set_cons_succ, List.set_cons_zero]
  refine wpList_valn rfl (exec_cvU8 rfl (ev rfl) HCC.out) ?_
  simp only [Act.put, List.setIfInBounds_toArray, List.set_cons_succ, List.set_cons_zero]
  refine wpList_valn rfl (exec_faddr rfl (ev rfl) faG0) ?_
  simp only [Act.put, List.setIfInBounds_toArray, List.set_cons_succ, List.set_cons_zero]
  refine wpList_valn rfl (exec_ld rfl (ev rfl) (ldInt (HT7.out.geo (i := 0) rfl 0 _ rfl))) ?_
  simp only [Act.put, List.setIfInBounds_toArray, List.set_cons_succ, List.set_cons_zero]
  refine wpList_valn rfl (exec_rem rfl (ev rfl) (ev rfl) HNZ.out HRC.out) ?_
  simp only [Act.put, List.setIfInBounds_toArray, List.set_cons_succ, List.set_cons_zero]
  refine wpList_valn rfl (exec_as rfl (ev rfl)) ?_
  simp only [Act.put, List.setIfInBounds_toArray, List.set_cons_succ, List.set_cons_zero]
  refine wpList_nil ?_
  go_upto_region 4 with fail
  refine wp_region_lit ?_
  refine wpList_valn rfl (exec_ldR rfl (ev rfl) (HT7.out.ros (i := 1) rfl)) ?_
  simp only [Act.put, List.setIfInBounds_toArray, List.set_cons_succ, List.set_cons_zero]
  refine wpList_valn rfl (exec_mv rfl (ev rfl)) ?_
  simp only [Act.put, List.setIfInBounds_toArray, List.set_cons_succ, List.set_cons_zero]
  refine wpList_call rfl (exec_cl Try.call19 rfl (evc (ev rfl) (evc (ev rfl) evn))) ?_
  refine (plose_v w7 HN.out.los HN.out.losB).mono ?_
  rintro e w8 ⟨rfl, hb⟩
  have HT8 := Lib.hid (HT7.out.call hb)
  clear hb HT7
  refine ⟨_, rfl, ?_⟩
  simp only [Act.put, List.setIfInBounds_toArray, List.set_cons_succ, List.set_cons_zero]
  refine wpList_valn rfl (exec_mv rfl (ev rfl)) ?_
  simp only [Act.put, List.setIfInBounds_toArray, List.set_cons_succ, List.set_cons_zero]
  refine wpList_valn rfl (exec_ext rfl (ev rfl) rfl) ?_
  simp only [Act.put, List.setIfInBounds_toArray, List.set_cons_succ, List.set_cons_zero]
  refine wpList_valn (v := .bool true) rfl (exec_ext rfl (ev rfl) rfl) ?_
  simp only [Act.put, List.setIfInBounds_toArray, List.set_cons_succ, List.set_cons_zero]
  refine wpList_valn rfl (exec_allocR rfl) ?_
  simp only [Act.put, List.setIfInBounds_toArray, List.set_cons_succ, List.set_cons_zero]
  have HT9 : Hid (Blks w (w8.alloc (.cells (celR zeroR).toArray 26)) [gc b7 (g), rc b8 (g), rc w8.heap.size (zeroR)]) := Lib.hid (HT8.out.allocR zeroR)
  clear HT8
  generalize w8.alloc (.cells (celR zeroR).toArray 26) = w9 at *
  generalize w8.heap.size = b11 at *
  refine wpList_nuln rfl (exec_putR rfl (ev rfl) (ev rfl) (HT9.out.ros (i := 2) rfl)) ?_
  simp only [Act.put, List.setIfInBounds_toArray, List.set_cons_succ, List.set_cons_zero]
  have HT10 : Hid (Blks w (putW w9 b11 (setS g p 1)) [gc b7 (g), rc b8 (g), rc b11 (setS g p 1)]) := Lib.hid (HT9.out.putR (i := 2) rfl (setS g p 1))
  clear HT9
  generalize putW w9 b11 (setS g p 1) = w10 at *
  refine wpList_valn (v := .bool true) rfl (exec_as rfl (ev rfl)) ?_
  simp only [Act.put, List.setIfInBounds_toArray, List.set_cons_succ, List.set_cons_zero]
  refine wpList_nil ?_
  go_upto_region 5 with fail
  refine wp_region_lit ?_
  refine wpList_valn rfl (exec_mv rfl (ev rfl)) ?_
  simp only [Act.put, List.setIfInBounds_toArray, List.set_cons_succ, List.set_cons_zero]
  refine wpList_valn (v := .bool false) rfl (exec_neInt false rfl (ev rfl) evk rfl) ?_
  simp only [Act.put, List.setIfInBounds_toArray, List.set_cons_succ, List.set_cons_zero]
  refine wpList_valn (v := .bool false) rfl (exec_mv rfl (ev rfl)) ?_
  simp only [Act.put, List.setIfInBounds_toArray, List.set_cons_succ, List.set_cons_zero]
  refine wpList_val (v := .bool true) (wanted_of rfl rfl rfl rfl) (exec_mv rfl (ev rfl)) ?_
  simp only [Act.put, List.setIfInBounds_toArray, List.set_cons_succ, List.set_cons_zero]
  refine wpList_val (v := .bool false) (wanted_of rfl rfl rfl rfl) (exec_not true rfl (ev rfl)) ?_
  simp only [Act.put, List.setIfInBounds_toArray, List.set_cons_succ, List.set_cons_zero]
  refine wpList_valn (v := .bool false) rfl (exec_pf rfl (ev rfl) (ev rfl)) ?_
  simp only [Act.put, List.setIfInBounds_toArray, List.set_cons_succ, List.set_cons_zero]
  refine wpList_nil ?_
  go_upto_region 7 with fail
  refine wp_region_lit ?_
  refine wpList_valn rfl (exec_ldR rfl (ev rfl) (HT10.out.ros (i := 2) rfl)) ?_
  simp only [Act.put, List.setIfInBounds_toArray, List.set_cons_succ, List.set_cons_zero]
  refine wpList_valn rfl (exec_mv rfl (ev rfl)) ?_
  simp only [Act.put, List.setIfInBounds_toArray, List.set_cons_succ, List.set_cons_zero]
  refine wpList_call rfl (exec_cl Try.call19 rfl (evc (ev rfl) (evc (ev rfl) evn))) ?_
  refine (plose_v w10 HN.out.againX HN.out.again).mono ?_
  rintro e w11 ⟨rfl, hb⟩
  have HT11 := Lib.hid (HT10.out.call hb)
  clear hb HT10
  refine ⟨_, rfl, ?_⟩
  simp only [Act.put, List.setIfInBounds_toArray, List.set_cons_succ, List.set_cons_zero]
  refine wpList_valn rfl (exec_mv rfl (ev rfl)) ?_
  simp only [Act.put, List.setIfInBounds_toArray, List.set_cons_succ, List.set_cons_zero]
  refine wpList_valn rfl (exec_ext rfl (ev rfl) rfl) ?_
  simp only [Act.put, List.setIfInBounds_toArray, List.set_cons_succ, List.set_cons_zero]
  refine wpList_valn (v := .bool false) rfl (exec_ext rfl (ev rfl) rfl) ?_
  simp only [Act.put, List.setIfInBounds_toArray, List.set_cons_succ, List.set_cons_zero]
  refine wpList_valn rfl (exec_allocR rfl) ?_
  simp only [Act.put, List.setIfInBounds_toArray, List.set_cons_succ, List.set_cons_zero]
  have HT12 : Hid (Blks w (w11.alloc (.cells (celR zeroR).toArray 26)) [gc b7 (g), rc b8 (g), rc b11 (setS g p 1), rc w11.heap.size (zeroR)]) := Lib.hid (HT11.out.allocR zeroR)
  clear HT11
  generalize w11.alloc (.cells (celR zeroR).toArray 26) = w12 at *
  generalize w11.heap.size = b13 at *
  refine wpList_nuln rfl (exec_putR rfl (ev rfl) (ev rfl) (HT12.out.ros (i := 3) rfl)) ?_
  simp only [Act.put, List.setIfInBounds_toArray, List.set_cons_succ, List.set_cons_zero]
  have HT13 : Hid (Blks w (putW w12 b13 (setS g p 1)) [gc b7 (g), rc b8 (g), rc b11 (setS g p 1), rc b13 (setS g p 1)]) := Lib.hid (HT12.out.putR (i := 3) rfl (setS g p 1))
  clear HT12
  generalize putW w12 b13 (setS g p 1) = w13 at *
  refine wpList_valn (v := .bool false) rfl (exec_as rfl (ev rfl)) ?_
  simp only [Act.put, List.setIfInBounds_toArray, List.set_cons_succ, List.set_cons_zero]
  refine wpList_nil ?_
  go_upto_region 8 with fail
  refine wp_region_lit ?_
  refine wpList_valn rfl (exec_ldR rfl (ev rfl) (HT13.out.ros (i := 2) rfl)) ?_
  simp only [Act.put, List.setIfInBounds_toArray, List.set_cons_succ, List.set_cons_zero]
  refine wpList_valn rfl (exec_mv rfl (ev rfl)) ?_
  simp only [Act.put, List.setIfInBounds_toArray, List.set_cons_succ, List.set_cons_zero]
  refine wpList_call rfl (exec_cl Try.call21 rfl (evc (ev rfl) (evc (ev rfl) evn))) ?_
  refine (pbeg_v w13 HN.out.beginX HN.out.begin).mono ?_
  rintro e w14 ⟨rfl, hb⟩
  have HT14 := Lib.hid (HT13.out.call hb)
  clear hb HT13
  refine ⟨_, rfl, ?_⟩
  simp only [Act.put, List.setIfInBounds_toArray, List.set_cons_succ, List.set_cons_zero]
  refine wpList_valn rfl (exec_mv rfl (ev rfl)) ?_
  simp only [Act.put, List.setIfInBounds_toArray, List.set_cons_succ, List.set_cons_zero]
  refine wpList_valn rfl (exec_ext rfl (ev rfl) rfl) ?_
  simp only [Act.put, List.setIfInBounds_toArray, List.set_cons_succ, List.set_cons_zero]
  refine wpList_valn rfl (exec_ext rfl (ev rfl) rfl) ?_
  simp only [Act.put, List.setIfInBounds_toArray, List.set_cons_succ, List.set_cons_zero]
  refine wpList_nuln rfl (exec_putR rfl (ev rfl) (ev rfl) (HT14.out.ros (i := 2) rfl)) ?_
  simp only [Act.put, List.setIfInBounds_toArray, List.set_cons_succ, List.set_cons_zero]
  have HT15 : Hid (Blks w (putW w14 b11 (hX g p 0)) [gc b7 (g), rc b8 (g), rc b11 (hX g p 0), rc b13 (setS g p 1)]) := Lib.hid (HT14.out.putR (i := 2) rfl (hX g p 0))
  clear HT14
  generalize putW w14 b11 (hX g p 0) = w15 at *
  refine wpList_valn rfl (exec_as rfl (ev rfl)) ?_
  simp only [Act.put, List.setIfInBounds_toArray, List.set_cons_succ, List.set_cons_zero]
  refine wpList_nil ?_
  go_upto_region 9 with fail
  refine wp_region_lit ?_
  refine wpList_valn (v := .bool false) rfl (exec_mv rfl (ev rfl)) ?_
  simp only [Act.put, List.setIfInBounds_toArray, List.set_cons_succ, List.set_cons_zero]
  refine wpList_valn (v := .bool false) rfl (exec_mv rfl (ev rfl)) ?_
  simp only [Act.put, List.setIfInBounds_toArray, List.set_cons_succ, List.set_cons_zero]
  refine wpList_val (wanted_of rfl rfl rfl rfl) (exec_mv rfl (ev rfl)) ?_
  simp only [Act.put, List.setIfInBounds_toArray, List.set_cons_succ, List.set_cons_zero]
  refine wpList_val (v := .bool false) (wanted_of rfl rfl rfl rfl) (exec_neInt false rfl (ev rfl) evk rfl) ?_
  simp only [Act.put, List.setIfInBounds_toArray, List.set_cons_succ, List.set_cons_zero]
  refine wpList_valn (v := .bool false) rfl (exec_pf rfl (ev rfl) (ev rfl)) ?_
  simp only [Act.put, List.setIfInBounds_toArray, List.set_cons_succ, List.set_cons_zero]
  refine wpList_nil ?_
  go_upto_region 11 with fail
  refine wp_region_lit ?_
  refine wpList_valn rfl (exec_as rfl evk) ?_
  simp only [Act.put, List.setIfInBounds_toArray, List.set_cons_succ, List.set_cons_zero]
  refine wpList_nil ?_
  have ht0 : Blks w w15 [gc b7 g, rc b8 g, rc b11 (hY g p 0), rc b13 (setS g p 1)] := by rw [HN.out.hY0]; exact HT15.out
  clear HT15 HA HB HG HCC HRC HNZ
  go_wp2_with fail
  go_loopw [15] (fun sv wr => ∃ s : Nat, s ≤ S ∧ sv = .int .i64 s ∧ Blks w wr [gc b7 g, rc b8 g, rc b11 (hY g p s), rc b13 (setS g p 1)]) (fun sv _ => S - (intOf sv).toNat)
  case atStart => exact ⟨0, Nat.zero_le _, rfl, ht0⟩
  case round =>
    clear ht0
    obtain ⟨s, hs, rfl, ht⟩ := hrel
    obtain ⟨w20, hw20⟩ : ∃ v, v = wr := ⟨_, rfl⟩
    subst hw20
    by_cases hlt : s < S
    · have hsg : (s : Int) < g.s := by rw [HSQ.out]; omega
      have HS := Lib.hid hsg
      rw [HN.out.hYin hsg] at ht
      have HT20 := Lib.hid ht
      clear ht hsg
      have H67 : Hid (decide ((s : Int) < (S : Int)) = true) := Lib.hid (decide_eq_true (by omega))
      have HJ : Hid (IntKind.i64.wrap ((s : Int) + 1) = ((s + 1 : Nat) : Int)) := Lib.hid (IntWalk.i64_in _ (by omega))
      obtain ⟨y, hy⟩ : ∃ y, hY g p (s + 1) = y := ⟨_, rfl⟩
      have HY := Lib.hid hy
      have HNX : Hid (nexX (hX g p s) = y) := Lib.hid ((HN.out.nexX HS.out).trans hy)
      clear hy
      go_upto_region 12 with fail
      refine wp_region_lit ?_
      refine wpList_valn rfl (exec_mv rfl (ev rfl)) ?_
      simp only [Act.put, List.setIfInBounds_toArray, List.set_cons_succ, List.set_cons_zero]
      refine wpList_valn rfl (exec_faddr rfl (ev rfl) faG1) ?_
      simp only [Act.put, List.setIfInBounds_toArray, List.set_cons_succ, List.set_cons_zero]
      refine wpList_valn rfl (exec_ld rfl (ev rfl) (ldInt (HSQ.out ▸ HT20.out.geo (i := 0) rfl 1 _ rfl))) ?_
      simp only [Act.put, List.setIfInBounds_toArray, List.set_cons_succ, List.set_cons_zero]
      refine wpList_valn (v := .bool true) rfl (exec_lss true rfl (ev rfl) (ev rfl) H67.out) ?_
      simp only [Act.put, List.setIfInBounds_toArray, List.set_cons_succ, List.set_cons_zero]
      refine wpList_nil ?_
      go_upto_region 14 with fail
      refine wp_region_lit ?_
      refine wpList_valn rfl (exec_ldR rfl (ev rfl) (HT20.out.ros (i := 2) rfl)) ?_
      simp only [Act.put, List.setIfInBounds_toArray, List.set_cons_succ, List.set_cons_zero]
      refine wpList_call rfl (exec_cl Try.call17 rfl (evc (ev rfl) evn)) ?_
      refine (pheals_b w20 (HN.out.heaM HS.out) (HN.out.heaB HS.out)).mono ?_
      rintro e w21 ⟨rfl, hb⟩
      have HT21 := Lib.hid (HT20.out.call hb)
      clear hb HT20
      refine ⟨_, rfl, ?_⟩
      simp only [Act.put, List.setIfInBounds_toArray, List.set_cons_succ, List.set_cons_zero]
      refine wpList_valn rfl (exec_mv rfl (ev rfl)) ?_
      simp only [Act.put, List.setIfInBounds_toArray, List.set_cons_succ, List.set_cons_zero]
      refine wpList_valn rfl (exec_ext rfl (ev rfl) rfl) ?_
      simp only [Act.put, List.setIfInBounds_toArray, List.set_cons_succ, List.set_cons_zero]
      refine wpList_valn (v := .bool true) rfl (exec_ext rfl (ev rfl) rfl) ?_
      simp only [Act.put, List.setIfInBounds_toArray, List.set_cons_succ, List.set_cons_zero]
      refine wpList_valn rfl (exec_as rfl (ev rfl)) ?_
      simp only [Act.put, List.setIfInBounds_toArray, List.set_cons_succ, List.set_cons_zero]
      refine wpList_valn (v := .bool true) rfl (exec_as rfl (ev rfl)) ?_
      simp only [Act.put, List.setIfInBounds_toArray, List.set_cons_succ, List.set_cons_zero]
      refine wpList_nil ?_
      go_upto_region 15 with fail
      refine wp_region_lit ?_
      refine wpList_valn (v := .bool true) rfl (exec_mv rfl (ev rfl)) ?_
      simp only [Act.put, List.setIfInBounds_toArray, List.set_cons_succ, List.set_cons_zero]
      refine wpList_valn (v := .bool false) rfl (exec_not true rfl (ev rfl)) ?_
      simp only [Act.put, List.setIfInBounds_toArray, List.set_cons_succ, List.set_cons_zero]
      refine wpList_valn (v := .bool false) rfl (exec_mv rfl (ev rfl)) ?_
      simp only [Act.put, List.setIfInBounds_toArray, List.set_cons_succ, List.set_cons_zero]
      refine wpList_val (wanted_of rfl rfl rfl rfl) (exec_mv rfl (ev rfl)) ?_
      simp only [Act.put, List.setIfInBounds_toArray, List.set_cons_succ, List.set_cons_zero]
      refine wpList_val (wanted_of rfl rfl rfl rfl) (exec_mv rfl (ev rfl)) ?_
      simp only [Act.put, List.setIfInBounds_toArray, List.set_cons_succ, List.set_cons_zero]
      refine wpList_val (v := .bool false) (wanted_of rfl rfl rfl rfl) (exec_neInt false rfl (ev rfl) (ev rfl) (bne_self_eq_false _)) ?_
      simp only [Act.put, List.setIfInBounds_toArray, List.set_cons_succ, List.set_cons_zero]
      refine wpList_valn (v := .bool false) rfl (exec_pf rfl (ev rfl) (ev rfl)) ?_
      simp only [Act.put, List.setIfInBounds_toArray, List.set_cons_succ, List.set_cons_zero]
      refine wpList_valn (v := .bool false) rfl (exec_mv rfl (ev rfl)) ?_
      simp only [Act.put, List.setIfInBounds_toArray, List.set_cons_succ, List.set_cons_zero]
      refine wpList_val (wanted_of rfl rfl rfl rfl) (exec_faddr rfl (ev rfl) faR2) ?_
      simp only [Act.put, List.setIfInBounds_toArray, List.set_cons_succ, List.set_cons_zero]
      refine wpList_val (wanted_of rfl rfl rfl rfl) (exec_ld rfl (ev rfl) (ldInt (HT21.out.ros (i := 2) rfl).cells.2.2.2.1)) ?_
      simp only [Act.put, List.setIfInBounds_toArray, List.set_cons_succ, List.set_cons_zero]
      refine wpList_val (wanted_of rfl rfl rfl rfl) (exec_mv rfl (ev rfl)) ?_
      simp only [Act.put, List.setIfInBounds_toArray, List.set_cons_succ, List.set_cons_zero]
      refine wpList_val (v := .bool false) (wanted_of rfl rfl rfl rfl) (exec_neInt false rfl (ev rfl) (ev rfl) (bne_self_eq_false (s : Int))) ?_
      simp only [Act.put, List.setIfInBounds_toArray, List.set_cons_succ, List.set_cons_zero]
      refine wpList_valn (v := .bool false) rfl (exec_pf rfl (ev rfl) (ev rfl)) ?_
      simp only [Act.put, List.setIfInBounds_toArray, List.set_cons_succ, List.set_cons_zero]
      refine wpList_nil ?_
      go_upto_region 17 with fail
      refine wp_region_lit ?_
      refine wpList_valn rfl (exec_ldR rfl (ev rfl) (HT21.out.ros (i := 2) rfl)) ?_
      simp only [Act.put, List.setIfInBounds_toArray, List.set_cons_succ, List.set_cons_zero]
      refine wpList_call rfl (exec_cl Try.call23 rfl (evc (ev rfl) evn)) ?_
      refine (pnext_v w21 HNX.out (HN.out.nexE HS.out)).mono ?_
      rintro e w22 ⟨rfl, hb⟩
      have HT22 := Lib.hid (HT21.out.call hb)
      clear hb HT21
      refine ⟨_, rfl, ?_⟩
      simp only [Act.put, List.setIfInBounds_toArray, List.set_cons_succ, List.set_cons_zero]
      refine wpList_valn rfl (exec_mv rfl (ev rfl)) ?_
      simp only [Act.put, List.setIfInBounds_toArray, List.set_cons_succ, List.set_cons_zero]
      refine wpList_valn rfl (exec_ext rfl (ev rfl) rfl) ?_
      simp only [Act.put, List.setIfInBounds_toArray, List.set_cons_succ, List.set_cons_zero]
      refine wpList_valn rfl (exec_ext rfl (ev rfl) rfl) ?_
      simp only [Act.put, List.setIfInBounds_toArray, List.set_cons_succ, List.set_cons_zero]
      refine wpList_valn rfl (exec_allocR rfl) ?_
      simp only [Act.put, List.setIfInBounds_toArray, List.set_cons_succ, List.set_cons_zero]
      have HT23 : Hid (Blks w (w22.alloc (.cells (celR zeroR).toArray 26)) [gc b7 (g), rc b8 (g), rc b11 (hX g p s), rc b13 (setS g p 1), rc w22.heap.size (zeroR)]) := Lib.hid (HT22.out.allocR zeroR)
      clear HT22
      generalize w22.alloc (.cells (celR zeroR).toArray 26) = w23 at *
      generalize w22.heap.size = b18 at *
      refine wpList_nuln rfl (exec_putR rfl (ev rfl) (ev rfl) (HT23.out.ros (i := 4) rfl)) ?_
      simp only [Act.put, List.setIfInBounds_toArray, List.set_cons_succ, List.set_cons_zero]
      have HT24 : Hid (Blks w (putW w23 b18 (y)) [gc b7 (g), rc b8 (g), rc b11 (hX g p s), rc b13 (setS g p 1), rc b18 (y)]) := Lib.hid (HT23.out.putR (i := 4) rfl (y))
      clear HT23
      generalize putW w23 b18 (y) = w24 at *
      refine wpList_valn rfl (exec_as rfl (ev rfl)) ?_
      simp only [Act.put, List.setIfInBounds_toArray, List.set_cons_succ, List.set_cons_zero]
      refine wpList_nil ?_
      go_upto_region 18 with fail
      refine wp_region_lit ?_
      refine wpList_valn rfl (exec_mv rfl (ev rfl)) ?_
      simp only [Act.put, List.setIfInBounds_toArray, List.set_cons_succ, List.set_cons_zero]
      refine wpList_valn (v := .bool false) rfl (exec_neInt false rfl (ev rfl) evk rfl) ?_
      simp only [Act.put, List.setIfInBounds_toArray, List.set_cons_succ, List.set_cons_zero]
      refine wpList_nil ?_
      go_upto_region 20 with fail
      refine wp_region_lit ?_
      refine wpList_valn rfl (exec_as rfl evk) ?_
      simp only [Act.put, List.setIfInBounds_toArray, List.set_cons_succ, List.set_cons_zero]
      refine wpList_nil ?_
      have ht0 : Blks w w24 [gc b7 g, rc b8 g, rc b11 (hX g p s), rc b13 (setS g p 1), rc b18 y] := HT24.out
      clear HT24 HNX
      go_wp2_with fail
      go_loopw [20] (fun iv wr => ∃ i : Nat, i ≤ M ∧ iv = .int .i64 i ∧ Blks w wr [gc b7 g, rc b8 g, rc b11 (hX g p s), rc b13 (setS g p 1), rc b18 y]) (fun iv _ => M - (intOf iv).toNat)
      case atStart => exact ⟨0, Nat.zero_le _, rfl, ht0⟩
      case round =>
        clear ht0
        obtain ⟨i, hi, rfl, ht⟩ := hrel
        obtain ⟨w30, hw30⟩ : ∃ v, v = wr := ⟨_, rfl⟩
        subst hw30
        have HT30 := Lib.hid ht
        clear ht
        by_cases him : i < M
        · have H98 : Hid (decide ((i : Int) < (M : Int)) = true) := Lib.hid (decide_eq_true (by omega))
          have HJ2 : Hid (IntKind.i64.wrap ((i : Int) + 1) = ((i + 1 : Nat) : Int)) := Lib.hid (IntWalk.i64_in _ (by omega))
          have HIM : Hid ((i : Int) < g.m) := Lib.hid (by rw [HMQ.out]; omega)
          go_upto_region 21 with fail
          refine wp_region_lit ?_
          refine wpList_valn rfl (exec_mv rfl (ev rfl)) ?_
          simp only [Act.put, List.setIfInBounds_toArray, List.set_cons_succ, List.set_cons_zero]
          refine wpList_valn rfl (exec_faddr rfl (ev rfl) faG0) ?_
          simp only [Act.put, List.setIfInBounds_toArray, List.set_cons_succ, List.set_cons_zero]
          refine wpList_valn rfl (exec_ld rfl (ev rfl) (ldInt (HMQ.out ▸ HT30.out.geo (i := 0) rfl 0 _ rfl))) ?_
          simp only [Act.put, List.setIfInBounds_toArray, List.set_cons_succ, List.set_cons_zero]
          refine wpList_valn (v := .bool true) rfl (exec_lss true rfl (ev rfl) (ev rfl) H98.out) ?_
          simp only [Act.put, List.setIfInBounds_toArray, List.set_cons_succ, List.set_cons_zero]
          refine wpList_nil ?_
          go_upto_region 23 with fail
          refine wp_region_lit ?_
          refine wpList_valn rfl (exec_as rfl evk) ?_
          simp only [Act.put, List.setIfInBounds_toArray, List.set_cons_succ, List.set_cons_zero]
          refine wpList_nil ?_
          have ht0 : Blks w w30 [gc b7 g, rc b8 g, rc b11 (hX g p s), rc b13 (setS g p 1), rc b18 y] := HT30.out
          clear HT30
          go_wp2_with fail
          go_loopw [21] (fun tv wr => ∃ t : Nat, t ≤ S ∧ tv = .int .i64 t ∧ Blks w wr [gc b7 g, rc b8 g, rc b11 (hX g p s), rc b13 (setS g p 1), rc b18 y]) (fun tv _ => S - (intOf tv).toNat)
          case atStart => exact ⟨0, Nat.zero_le _, rfl, ht0⟩
          case round =>
            clear ht0
            obtain ⟨t, ht, rfl, htb⟩ := hrel
            obtain ⟨w40, hw40⟩ : ∃ v, v = wr := ⟨_, rfl⟩
            subst hw40
            have HT40 := Lib.hid htb
            clear htb
            by_cases hts : t < S
            · have H104 : Hid (decide ((t : Int) < (S : Int)) = true) := Lib.hid (decide_eq_true (by omega))
              have HJ3 : Hid (IntKind.i64.wrap ((t : Int) + 1) = ((t + 1 : Nat) : Int)) := Lib.hid (IntWalk.i64_in _ (by omega))
              have HTS : Hid ((t : Int) < g.s) := Lib.hid (by rw [HSQ.out]; omega)
              have HHX := Lib.hid (HN.out.hasX HS.out HIM.out HTS.out)
              have HHY := Lib.hid (HN.out.hasY HS.out HIM.out HTS.out)
              rw [HY.out] at HHY
              by_cases e : i = p
              · by_cases l1 : t < s
                · have D1 : Hid (((i : Int) != (p : Int)) = false) := Lib.hid (by simp; omega)
                  have D2 : Hid (decide ((t : Int) < (s : Int)) = true) := Lib.hid (decide_eq_true (by omega))
                  have D3 : Hid (decide ((t : Int) ≤ (s : Int)) = true) := Lib.hid (decide_eq_true (by omega))
                  have HX1 : Hid (hasB (hX g p s) (i : Int) (t : Int) = true) := Lib.hid (HHX.out.trans (decide_eq_true (by omega)))
                  have HX2 : Hid (hasB y (i : Int) (t : Int) = true) := Lib.hid (HHY.out.trans (decide_eq_true (by omega)))
                  go_upto_region 24 with fail
                  refine wp_region_lit ?_
                  refine wpList_valn rfl (exec_mv rfl (ev rfl)) ?_
                  simp only [Act.put, List.setIfInBounds_toArray, List.set_cons_succ, List.set_cons_zero]
                  refine wpList_valn rfl (exec_faddr rfl (ev rfl) faG1) ?_
                  simp only [Act.put, List.setIfInBounds_toArray, List.set_cons_succ, List.set_cons_zero]
                  refine wpList_valn rfl (exec_ld rfl (ev rfl) (ldInt (HSQ.out ▸ HT40.out.geo (i := 0) rfl 1 _ rfl))) ?_
                  simp only [Act.put, List.setIfInBounds_toArray, List.set_cons_succ, List.set_cons_zero]
                  refine wpList_valn (v := .bool true) rfl (exec_lss true rfl (ev rfl) (ev rfl) H104.out) ?_
                  simp only [Act.put, List.setIfInBounds_toArray, List.set_cons_succ, List.set_cons_zero]
                  refine wpList_nil ?_
                  go_upto_region 26 with fail
                  refine wp_region_lit ?_
                  refine wpList_valn rfl (exec_ldR rfl (ev rfl) (HT40.out.ros (i := 2) rfl)) ?_
                  simp only [Act.put, List.setIfInBounds_toArray, List.set_cons_succ, List.set_cons_zero]
                  refine wpList_valn rfl (exec_mv rfl (ev rfl)) ?_
                  simp only [Act.put, List.setIfInBounds_toArray, List.set_cons_succ, List.set_cons_zero]
                  refine wpList_valn rfl (exec_mv rfl (ev rfl)) ?_
                  simp only [Act.put, List.setIfInBounds_toArray, List.set_cons_succ, List.set_cons_zero]
                  refine wpList_call rfl (exec_cl Try.call11 rfl (evc (ev rfl) (evc (ev rfl) (evc (ev rfl) evn)))) ?_
                  refine (phas_b w40 HX1.out).mono ?_
                  rintro e w41 ⟨rfl, hb⟩
                  have HT41 := Lib.hid (HT40.out.call hb)
                  clear hb HT40
                  refine ⟨_, rfl, ?_⟩
                  simp only [Act.put, List.setIfInBounds_toArray, List.set_cons_succ, List.set_cons_zero]
                  refine wpList_valn rfl (exec_mv rfl (ev rfl)) ?_
                  simp only [Act.put, List.setIfInBounds_toArray, List.set_cons_succ, List.set_cons_zero]
                  refine wpList_valn rfl (exec_mv rfl (ev rfl)) ?_
                  simp only [Act.put, List.setIfInBounds_toArray, List.set_cons_succ, List.set_cons_zero]
                  refine wpList_valn (v := .bool false) rfl (exec_neInt false rfl (ev rfl) (ev rfl) D1.out) ?_
                  simp only [Act.put, List.setIfInBounds_toArray, List.set_cons_succ, List.set_cons_zero]
                  refine wpList_valn (v := .bool false) rfl (exec_mv rfl (ev rfl)) ?_
                  simp only [Act.put, List.setIfInBounds_toArray, List.set_cons_succ, List.set_cons_zero]
                  refine wpList_val (wanted_of rfl rfl rfl rfl) (exec_mv rfl (ev rfl)) ?_
                  simp only [Act.put, List.setIfInBounds_toArray, List.set_cons_succ, List.set_cons_zero]
                  refine wpList_val (wanted_of rfl rfl rfl rfl) (exec_mv rfl (ev rfl)) ?_
                  simp only [Act.put, List.setIfInBounds_toArray, List.set_cons_succ, List.set_cons_zero]
                  refine wpList_val (v := .bool true) (wanted_of rfl rfl rfl rfl) (exec_lss true rfl (ev rfl) (ev rfl) D2.out) ?_
                  simp only [Act.put, List.setIfInBounds_toArray, List.set_cons_succ, List.set_cons_zero]
                  refine wpList_valn (v := .bool true) rfl (exec_pf rfl (ev rfl) (ev rfl)) ?_
                  simp only [Act.put, List.setIfInBounds_toArray, List.set_cons_succ, List.set_cons_zero]
                  refine wpList_valn (v := .bool false) rfl (exec_neBool false rfl (ev rfl) (ev rfl) rfl) ?_
                  simp only [Act.put, List.setIfInBounds_toArray, List.set_cons_succ, List.set_cons_zero]
                  refine wpList_valn (v := .bool false) rfl (exec_mv rfl (ev rfl)) ?_
                  simp only [Act.put, List.setIfInBounds_toArray, List.set_cons_succ, List.set_cons_zero]
                  refine wpList_val (wanted_of rfl rfl rfl rfl) (exec_ldR rfl (ev rfl) (HT41.out.ros (i := 4) rfl)) ?_
                  simp only [Act.put, List.setIfInBounds_toArray, List.set_cons_succ, List.set_cons_zero]
                  refine wpList_val (wanted_of rfl rfl rfl rfl) (exec_mv rfl (ev rfl)) ?_
                  simp only [Act.put, List.setIfInBounds_toArray, List.set_cons_succ, List.set_cons_zero]
                  refine wpList_val (wanted_of rfl rfl rfl rfl) (exec_mv rfl (ev rfl)) ?_
                  simp only [Act.put, List.setIfInBounds_toArray, List.set_cons_succ, List.set_cons_zero]
                  refine wpList_call (wanted_of rfl rfl rfl rfl) (exec_cl Try.call11 rfl (evc (ev rfl) (evc (ev rfl) (evc (ev rfl) evn)))) ?_
                  refine (phas_b w41 HX2.out).mono ?_
                  rintro e w42 ⟨rfl, hb⟩
                  have HT42 := Lib.hid (HT41.out.call hb)
                  clear hb HT41
                  refine ⟨_, rfl, ?_⟩
                  simp only [Act.put, List.setIfInBounds_toArray, List.set_cons_succ, List.set_cons_zero]
                  refine wpList_val (wanted_of rfl rfl rfl rfl) (exec_mv rfl (ev rfl)) ?_
                  simp only [Act.put, List.setIfInBounds_toArray, List.set_cons_succ, List.set_cons_zero]
                  refine wpList_val (wanted_of rfl rfl rfl rfl) (exec_mv rfl (ev rfl)) ?_
                  simp only [Act.put, List.setIfInBounds_toArray, List.set_cons_succ, List.set_cons_zero]
                  refine wpList_val (v := .bool false) (wanted_of rfl rfl rfl rfl) (exec_neInt false rfl (ev rfl) (ev rfl) D1.out) ?_
                  simp only [Act.put, List.setIfInBounds_toArray, List.set_cons_succ, List.set_cons_zero]
                  refine wpList_val (v := .bool false) (wanted_of rfl rfl rfl rfl) (exec_mv rfl (ev rfl)) ?_
                  simp only [Act.put, List.setIfInBounds_toArray, List.set_cons_succ, List.set_cons_zero]
                  refine wpList_val (wanted_of rfl rfl rfl rfl) (exec_mv rfl (ev rfl)) ?_
                  simp only [Act.put, List.setIfInBounds_toArray, List.set_cons_succ, List.set_cons_zero]
                  refine wpList_val (wanted_of rfl rfl rfl rfl) (exec_mv rfl (ev rfl)) ?_
                  simp only [Act.put, List.setIfInBounds_toArray, List.set_cons_succ, List.set_cons_zero]
                  refine wpList_val (v := .bool true) (wanted_of rfl rfl rfl rfl) (exec_leq true rfl (ev rfl) (ev rfl) D3.out) ?_
                  simp only [Act.put, List.setIfInBounds_toArray, List.set_cons_succ, List.set_cons_zero]
                  refine wpList_val (v := .bool true) (wanted_of rfl rfl rfl rfl) (exec_pf rfl (ev rfl) (ev rfl)) ?_
                  simp only [Act.put, List.setIfInBounds_toArray, List.set_cons_succ, List.set_cons_zero]
                  refine wpList_val (v := .bool false) (wanted_of rfl rfl rfl rfl) (exec_neBool false rfl (ev rfl) (ev rfl) rfl) ?_
                  simp only [Act.put, List.setIfInBounds_toArray, List.set_cons_succ, List.set_cons_zero]
                  refine wpList_valn (v := .bool false) rfl (exec_pf rfl (ev rfl) (ev rfl)) ?_
                  simp only [Act.put, List.setIfInBounds_toArray, List.set_cons_succ, List.set_cons_zero]
                  refine wpList_nil ?_
                  go_upto_region 25 with fail
                  refine wp_region_lit ?_
                  refine wpList_valn rfl (exec_mv rfl (ev rfl)) ?_
                  simp only [Act.put, List.setIfInBounds_toArray, List.set_cons_succ, List.set_cons_zero]
                  refine wpList_valn rfl (exec_add rfl (ev rfl) evk HJ3.out) ?_
                  simp only [Act.put, List.setIfInBounds_toArray, List.set_cons_succ, List.set_cons_zero]
                  refine wpList_valn rfl (exec_as rfl (ev rfl)) ?_
                  simp only [Act.put, List.setIfInBounds_toArray, List.set_cons_succ, List.set_cons_zero]
                  refine wpList_nil ?_
                  go_wp2_with fail
                  go_roundw
                  case rel => exact ⟨t + 1, by omega, rfl, HT42.out⟩
                  case measure => simp [intOf]; omega
                · by_cases l2 : t ≤ s
                  · have D1 : Hid (((i : Int) != (p : Int)) = false) := Lib.hid (by simp; omega)
                    have D2 : Hid (decide ((t : Int) < (s : Int)) = false) := Lib.hid (decide_eq_false (by omega))
                    have D3 : Hid (decide ((t : Int) ≤ (s : Int)) = true) := Lib.hid (decide_eq_true (by omega))
                    have HX1 : Hid (hasB (hX g p s) (i : Int) (t : Int) = false) := Lib.hid (HHX.out.trans (decide_eq_false (by omega)))
                    have HX2 : Hid (hasB y (i : Int) (t : Int) = true) := Lib.hid (HHY.out.trans (decide_eq_true (by omega)))
                    go_upto_region 24 with fail
                    refine wp_region_lit ?_
                    refine wpList_valn rfl (exec_mv rfl (ev rfl)) ?_
                    simp only [Act.put, List.setIfInBounds_toArray, List.set_cons_succ, List.set_cons_zero]
                    refine wpList_valn rfl (exec_faddr rfl (ev rfl) faG1) ?_
                    simp only [Act.put, List.setIfInBounds_toArray, List.set_cons_succ, List.set_cons_zero]
                    refine wpList_valn rfl (exec_ld rfl (ev rfl) (ldInt (HSQ.out ▸ HT40.out.geo (i := 0) rfl 1 _ rfl))) ?_
                    simp only [Act.put, List.setIfInBounds_toArray, List.set_cons_succ, List.set_cons_zero]
                    refine wpList_valn (v := .bool true) rfl (exec_lss true rfl (ev rfl) (ev rfl) H104.out) ?_
                    simp only [Act.put, List.setIfInBounds_toArray, List.set_cons_succ, List.set_cons_zero]
                    refine wpList_nil ?_
                    go_upto_region 26 with fail
                    refine wp_region_lit ?_
                    refine wpList_valn rfl (exec_ldR rfl (ev rfl) (HT40.out.ros (i := 2) rfl)) ?_
                    simp only [Act.put, List.setIfInBounds_toArray, List.set_cons_succ, List.set_cons_zero]
                    refine wpList_valn rfl (exec_mv rfl (ev rfl)) ?_
                    simp only [Act.put, List.setIfInBounds_toArray, List.set_cons_succ, List.set_cons_zero]
                    refine wpList_valn rfl (exec_mv rfl (ev rfl)) ?_
                    simp only [Act.put, List.setIfInBounds_toArray, List.set_cons_succ, List.set_cons_zero]
                    refine wpList_call rfl (exec_cl Try.call11 rfl (evc (ev rfl) (evc (ev rfl) (evc (ev rfl) evn)))) ?_
                    refine (phas_b w40 HX1.out).mono ?_
                    rintro e w41 ⟨rfl, hb⟩
                    have HT41 := Lib.hid (HT40.out.call hb)
                    clear hb HT40
                    refine ⟨_, rfl, ?_⟩
                    simp only [Act.put, List.setIfInBounds_toArray, List.set_cons_succ, List.set_cons_zero]
                    refine wpList_valn rfl (exec_mv rfl (ev rfl)) ?_
                    simp only [Act.put, List.setIfInBounds_toArray, List.set_cons_succ, List.set_cons_zero]
                    refine wpList_valn rfl (exec_mv rfl (ev rfl)) ?_
                    simp only [Act.put, List.setIfInBounds_toArray, List.set_cons_succ, List.set_cons_zero]
                    refine wpList_valn (v := .bool false) rfl (exec_neInt false rfl (ev rfl) (ev rfl) D1.out) ?_
                    simp only [Act.put, List.setIfInBounds_toArray, List.set_cons_succ, List.set_cons_zero]
                    refine wpList_valn (v := .bool false) rfl (exec_mv rfl (ev rfl)) ?_
                    simp only [Act.put, List.setIfInBounds_toArray, List.set_cons_succ, List.set_cons_zero]
                    refine wpList_val (wanted_of rfl rfl rfl rfl) (exec_mv rfl (ev rfl)) ?_
                    simp only [Act.put, List.setIfInBounds_toArray, List.set_cons_succ, List.set_cons_zero]
                    refine wpList_val (wanted_of rfl rfl rfl rfl) (exec_mv rfl (ev rfl)) ?_
                    simp only [Act.put, List.setIfInBounds_toArray, List.set_cons_succ, List.set_cons_zero]
                    refine wpList_val (v := .bool false) (wanted_of rfl rfl rfl rfl) (exec_lss false rfl (ev rfl) (ev rfl) D2.out) ?_
                    simp only [Act.put, List.setIfInBounds_toArray, List.set_cons_succ, List.set_cons_zero]
                    refine wpList_valn (v := .bool false) rfl (exec_pf rfl (ev rfl) (ev rfl)) ?_
                    simp only [Act.put, List.setIfInBounds_toArray, List.set_cons_succ, List.set_cons_zero]
                    refine wpList_valn (v := .bool false) rfl (exec_neBool false rfl (ev rfl) (ev rfl) rfl) ?_
                    simp only [Act.put, List.setIfInBounds_toArray, List.set_cons_succ, List.set_cons_zero]
                    refine wpList_valn (v := .bool false) rfl (exec_mv rfl (ev rfl)) ?_
                    simp only [Act.put, List.setIfInBounds_toArray, List.set_cons_succ, List.set_cons_zero]
                    refine wpList_val (wanted_of rfl rfl rfl rfl) (exec_ldR rfl (ev rfl) (HT41.out.ros (i := 4) rfl)) ?_
                    simp only [Act.put, List.setIfInBounds_toArray, List.set_cons_succ, List.set_cons_zero]
                    refine wpList_val (wanted_of rfl rfl rfl rfl) (exec_mv rfl (ev rfl)) ?_
                    simp only [Act.put, List.setIfInBounds_toArray, List.set_cons_succ, List.set_cons_zero]
                    refine wpList_val (wanted_of rfl rfl rfl rfl) (exec_mv rfl (ev rfl)) ?_
                    simp only [Act.put, List.setIfInBounds_toArray, List.set_cons_succ, List.set_cons_zero]
                    refine wpList_call (wanted_of rfl rfl rfl rfl) (exec_cl Try.call11 rfl (evc (ev rfl) (evc (ev rfl) (evc (ev rfl) evn)))) ?_
                    refine (phas_b w41 HX2.out).mono ?_
                    rintro e w42 ⟨rfl, hb⟩
                    have HT42 := Lib.hid (HT41.out.call hb)
                    clear hb HT41
                    refine ⟨_, rfl, ?_⟩
                    simp only [Act.put, List.setIfInBounds_toArray, List.set_cons_succ, List.set_cons_zero]
                    refine wpList_val (wanted_of rfl rfl rfl rfl) (exec_mv rfl (ev rfl)) ?_
                    simp only [Act.put, List.setIfInBounds_toArray, List.set_cons_succ, List.set_cons_zero]
                    refine wpList_val (wanted_of rfl rfl rfl rfl) (exec_mv rfl (ev rfl)) ?_
                    simp only [Act.put, List.setIfInBounds_toArray, List.set_cons_succ, List.set_cons_zero]
                    refine wpList_val (v := .bool false) (wanted_of rfl rfl rfl rfl) (exec_neInt false rfl (ev rfl) (ev rfl) D1.out) ?_
                    simp only [Act.put, List.setIfInBounds_toArray, List.set_cons_succ, List.set_cons_zero]
                    refine wpList_val (v := .bool false) (wanted_of rfl rfl rfl rfl) (exec_mv rfl (ev rfl)) ?_
                    simp only [Act.put, List.setIfInBounds_toArray, List.set_cons_succ, List.set_cons_zero]
                    refine wpList_val (wanted_of rfl rfl rfl rfl) (exec_mv rfl (ev rfl)) ?_
                    simp only [Act.put, List.setIfInBounds_toArray, List.set_cons_succ, List.set_cons_zero]
                    refine wpList_val (wanted_of rfl rfl rfl rfl) (exec_mv rfl (ev rfl)) ?_
                    simp only [Act.put, List.setIfInBounds_toArray, List.set_cons_succ, List.set_cons_zero]
                    refine wpList_val (v := .bool true) (wanted_of rfl rfl rfl rfl) (exec_leq true rfl (ev rfl) (ev rfl) D3.out) ?_
                    simp only [Act.put, List.setIfInBounds_toArray, List.set_cons_succ, List.set_cons_zero]
                    refine wpList_val (v := .bool true) (wanted_of rfl rfl rfl rfl) (exec_pf rfl (ev rfl) (ev rfl)) ?_
                    simp only [Act.put, List.setIfInBounds_toArray, List.set_cons_succ, List.set_cons_zero]
                    refine wpList_val (v := .bool false) (wanted_of rfl rfl rfl rfl) (exec_neBool false rfl (ev rfl) (ev rfl) rfl) ?_
                    simp only [Act.put, List.setIfInBounds_toArray, List.set_cons_succ, List.set_cons_zero]
                    refine wpList_valn (v := .bool false) rfl (exec_pf rfl (ev rfl) (ev rfl)) ?_
                    simp only [Act.put, List.setIfInBounds_toArray, List.set_cons_succ, List.set_cons_zero]
                    refine wpList_nil ?_
                    go_upto_region 25 with fail
                    refine wp_region_lit ?_
                    refine wpList_valn rfl (exec_mv rfl (ev rfl)) ?_
                    simp only [Act.put, List.setIfInBounds_toArray, List.set_cons_succ, List.set_cons_zero]
                    refine wpList_valn rfl (exec_add rfl (ev rfl) evk HJ3.out) ?_
                    simp only [Act.put, List.setIfInBounds_toArray, List.set_cons_succ, List.set_cons_zero]
                    refine wpList_valn rfl (exec_as rfl (ev rfl)) ?_
                    simp only [Act.put, List.setIfInBounds_toArray, List.set_cons_succ, List.set_cons_zero]
                    refine wpList_nil ?_
                    go_wp2_with fail
                    go_roundw
                    case rel => exact ⟨t + 1, by omega, rfl, HT42.out⟩
                    case measure => simp [intOf]; omega
                  · have D1 : Hid (((i : Int) != (p : Int)) = false) := Lib.hid (by simp; omega)
                    have D2 : Hid (decide ((t : Int) < (s : Int)) = false) := Lib.hid (decide_eq_false (by omega))
                    have D3 : Hid (decide ((t : Int) ≤ (s : Int)) = false) := Lib.hid (decide_eq_false (by omega))
                    have HX1 : Hid (hasB (hX g p s) (i : Int) (t : Int) = false) := Lib.hid (HHX.out.trans (decide_eq_false (by omega)))
                    have HX2 : Hid (hasB y (i : Int) (t : Int) = false) := Lib.hid (HHY.out.trans (decide_eq_false (by omega)))
                    go_upto_region 24 with fail
                    refine wp_region_lit ?_
                    refine wpList_valn rfl (exec_mv rfl (ev rfl)) ?_
                    simp only [Act.put, List.setIfInBounds_toArray, List.set_cons_succ, List.set_cons_zero]
                    refine wpList_valn rfl (exec_faddr rfl (ev rfl) faG1) ?_
                    simp only [Act.put, List.setIfInBounds_toArray, List.set_cons_succ, List.set_cons_zero]
                    refine wpList_valn rfl (exec_ld rfl (ev rfl) (ldInt (HSQ.out ▸ HT40.out.geo (i := 0) rfl 1 _ rfl))) ?_
                    simp only [Act.put, List.setIfInBounds_toArray, List.set_cons_succ, List.set_cons_zero]
                    refine wpList_valn (v := .bool true) rfl (exec_lss true rfl (ev rfl) (ev rfl) H104.out) ?_
                    simp only [Act.put, List.setIfInBounds_toArray, List.set_cons_succ, List.set_cons_zero]
                    refine wpList_nil ?_
                    go_upto_region 26 with fail
                    refine wp_region_lit ?_
                    refine wpList_valn rfl (exec_ldR rfl (ev rfl) (HT40.out.ros (i := 2) rfl)) ?_
                    simp only [Act.put, List.setIfInBounds_toArray, List.set_cons_succ, List.set_cons_zero]
                    refine wpList_valn rfl (exec_mv rfl (ev rfl)) ?_
                    simp only [Act.put, List.setIfInBounds_toArray, List.set_cons_succ, List.set_cons_zero]
                    refine wpList_valn rfl (exec_mv rfl (ev rfl)) ?_
                    simp only [Act.put, List.setIfInBounds_toArray, List.set_cons_succ, List.set_cons_zero]
                    refine wpList_call rfl (exec_cl Try.call11 rfl (evc (ev rfl) (evc (ev rfl) (evc (ev rfl) evn)))) ?_
                    refine (phas_b w40 HX1.out).mono ?_
                    rintro e w41 ⟨rfl, hb⟩
                    have HT41 := Lib.hid (HT40.out.call hb)
                    clear hb HT40
                    refine ⟨_, rfl, ?_⟩
                    simp only [Act.put, List.setIfInBounds_toArray, List.set_cons_succ, List.set_cons_zero]
                    refine wpList_valn rfl (exec_mv rfl (ev rfl)) ?_
                    simp only [Act.put, List.setIfInBounds_toArray, List.set_cons_succ, List.set_cons_zero]
                    refine wpList_valn rfl (exec_mv rfl (ev rfl)) ?_
                    simp only [Act.put, List.setIfInBounds_toArray, List.set_cons_succ, List.set_cons_zero]
                    refine wpList_valn (v := .bool false) rfl (exec_neInt false rfl (ev rfl) (ev rfl) D1.out) ?_
                    simp only [Act.put, List.setIfInBounds_toArray, List.set_cons_succ, List.set_cons_zero]
                    refine wpList_valn (v := .bool false) rfl (exec_mv rfl (ev rfl)) ?_
                    simp only [Act.put, List.setIfInBounds_toArray, List.set_cons_succ, List.set_cons_zero]
                    refine wpList_val (wanted_of rfl rfl rfl rfl) (exec_mv rfl (ev rfl)) ?_
                    simp only [Act.put, List.setIfInBounds_toArray, List.set_cons_succ, List.set_cons_zero]
                    refine wpList_val (wanted_of rfl rfl rfl rfl) (exec_mv rfl (ev rfl)) ?_
                    simp only [Act.put, List.setIfInBounds_toArray, List.set_cons_succ, List.set_cons_zero]
                    refine wpList_val (v := .bool false) (wanted_of rfl rfl rfl rfl) (exec_lss false rfl (ev rfl) (ev rfl) D2.out) ?_
                    simp only [Act.put, List.setIfInBounds_toArray, List.set_cons_succ, List.set_cons_zero]
                    refine wpList_valn (v := .bool false) rfl (exec_pf rfl (ev rfl) (ev rfl)) ?_
                    simp only [Act.put, List.setIfInBounds_toArray, List.set_cons_succ, List.set_cons_zero]
                    refine wpList_valn (v := .bool false) rfl (exec_neBool false rfl (ev rfl) (ev rfl) rfl) ?_
                    simp only [Act.put, List.setIfInBounds_toArray, List.set_cons_succ, List.set_cons_zero]
                    refine wpList_valn (v := .bool false) rfl (exec_mv rfl (ev rfl)) ?_
                    simp only [Act.put, List.setIfInBounds_toArray, List.set_cons_succ, List.set_cons_zero]
                    refine wpList_val (wanted_of rfl rfl rfl rfl) (exec_ldR rfl (ev rfl) (HT41.out.ros (i := 4) rfl)) ?_
                    simp only [Act.put, List.setIfInBounds_toArray, List.set_cons_succ, List.set_cons_zero]
                    refine wpList_val (wanted_of rfl rfl rfl rfl) (exec_mv rfl (ev rfl)) ?_
                    simp only [Act.put, List.setIfInBounds_toArray, List.set_cons_succ, List.set_cons_zero]
                    refine wpList_val (wanted_of rfl rfl rfl rfl) (exec_mv rfl (ev rfl)) ?_
                    simp only [Act.put, List.setIfInBounds_toArray, List.set_cons_succ, List.set_cons_zero]
                    refine wpList_call (wanted_of rfl rfl rfl rfl) (exec_cl Try.call11 rfl (evc (ev rfl) (evc (ev rfl) (evc (ev rfl) evn)))) ?_
                    refine (phas_b w41 HX2.out).mono ?_
                    rintro e w42 ⟨rfl, hb⟩
                    have HT42 := Lib.hid (HT41.out.call hb)
                    clear hb HT41
                    refine ⟨_, rfl, ?_⟩
                    simp only [Act.put, List.setIfInBounds_toArray, List.set_cons_succ, List.set_cons_zero]
                    refine wpList_val (wanted_of rfl rfl rfl rfl) (exec_mv rfl (ev rfl)) ?_
                    simp only [Act.put, List.setIfInBounds_toArray, List.set_cons_succ, List.set_cons_zero]
                    refine wpList_val (wanted_of rfl rfl rfl rfl) (exec_mv rfl (ev rfl)) ?_
                    simp only [Act.put, List.setIfInBounds_toArray, List.set_cons_succ, List.set_cons_zero]
                    refine wpList_val (v := .bool false) (wanted_of rfl rfl rfl rfl) (exec_neInt false rfl (ev rfl) (ev rfl) D1.out) ?_
                    simp only [Act.put, List.setIfInBounds_toArray, List.set_cons_succ, List.set_cons_zero]
                    refine wpList_val (v := .bool false) (wanted_of rfl rfl rfl rfl) (exec_mv rfl (ev rfl)) ?_
                    simp only [Act.put, List.setIfInBounds_toArray, List.set_cons_succ, List.set_cons_zero]
                    refine wpList_val (wanted_of rfl rfl rfl rfl) (exec_mv rfl (ev rfl)) ?_
                    simp only [Act.put, List.setIfInBounds_toArray, List.set_cons_succ, List.set_cons_zero]
                    refine wpList_val (wanted_of rfl rfl rfl rfl) (exec_mv rfl (ev rfl)) ?_
                    simp only [Act.put, List.setIfInBounds_toArray, List.set_cons_succ, List.set_cons_zero]
                    refine wpList_val (v := .bool false) (wanted_of rfl rfl rfl rfl) (exec_leq false rfl (ev rfl) (ev rfl) D3.out) ?_
                    simp only [Act.put, List.setIfInBounds_toArray, List.set_cons_succ, List.set_cons_zero]
                    refine wpList_val (v := .bool false) (wanted_of rfl rfl rfl rfl) (exec_pf rfl (ev rfl) (ev rfl)) ?_
                    simp only [Act.put, List.setIfInBounds_toArray, List.set_cons_succ, List.set_cons_zero]
                    refine wpList_val (v := .bool false) (wanted_of rfl rfl rfl rfl) (exec_neBool false rfl (ev rfl) (ev rfl) rfl) ?_
                    simp only [Act.put, List.setIfInBounds_toArray, List.set_cons_succ, List.set_cons_zero]
                    refine wpList_valn (v := .bool false) rfl (exec_pf rfl (ev rfl) (ev rfl)) ?_
                    simp only [Act.put, List.setIfInBounds_toArray, List.set_cons_succ, List.set_cons_zero]
                    refine wpList_nil ?_
                    go_upto_region 25 with fail
                    refine wp_region_lit ?_
                    refine wpList_valn rfl (exec_mv rfl (ev rfl)) ?_
                    simp only [Act.put, List.setIfInBounds_toArray, List.set_cons_succ, List.set_cons_zero]
                    refine wpList_valn rfl (exec_add rfl (ev rfl) evk HJ3.out) ?_
                    simp only [Act.put, List.setIfInBounds_toArray, List.set_cons_succ, List.set_cons_zero]
                    refine wpList_valn rfl (exec_as rfl (ev rfl)) ?_
                    simp only [Act.put, List.setIfInBounds_toArray, List.set_cons_succ, List.set_cons_zero]
                    refine wpList_nil ?_
                    go_wp2_with fail
                    go_roundw
                    case rel => exact ⟨t + 1, by omega, rfl, HT42.out⟩
                    case measure => simp [intOf]; omega
              · have D1 : Hid (((i : Int) != (p : Int)) = true) := Lib.hid (by simp; omega)
                have HX1 : Hid (hasB (hX g p s) (i : Int) (t : Int) = true) := Lib.hid (HHX.out.trans (decide_eq_true (by omega)))
                have HX2 : Hid (hasB y (i : Int) (t : Int) = true) := Lib.hid (HHY.out.trans (decide_eq_true (by omega)))
                go_upto_region 24 with fail
                refine wp_region_lit ?_
                refine wpList_valn rfl (exec_mv rfl (ev rfl)) ?_
                simp only [Act.put, List.setIfInBounds_toArray, List.set_cons_succ, List.set_cons_zero]
                refine wpList_valn rfl (exec_faddr rfl (ev rfl) faG1) ?_
                simp only [Act.put, List.setIfInBounds_toArray, List.set_cons_succ, List.set_cons_zero]
                refine wpList_valn rfl (exec_ld rfl (ev rfl) (ldInt (HSQ.out ▸ HT40.out.geo (i := 0) rfl 1 _ rfl))) ?_
                simp only [Act.put, List.setIfInBounds_toArray, List.set_cons_succ, List.set_cons_zero]
                refine wpList_valn (v := .bool true) rfl (exec_lss true rfl (ev rfl) (ev rfl) H104.out) ?_
                simp only [Act.put, List.setIfInBounds_toArray, List.set_cons_succ, List.set_cons_zero]
                refine wpList_nil ?_
                go_upto_region 26 with fail
                refine wp_region_lit ?_
                refine wpList_valn rfl (exec_ldR rfl (ev rfl) (HT40.out.ros (i := 2) rfl)) ?_
                simp only [Act.put, List.setIfInBounds_toArray, List.set_cons_succ, List.set_cons_zero]
                refine wpList_valn rfl (exec_mv rfl (ev rfl)) ?_
                simp only [Act.put, List.setIfInBounds_toArray, List.set_cons_succ, List.set_cons_zero]
                refine wpList_valn rfl (exec_mv rfl (ev rfl)) ?_
                simp only [Act.put, List.setIfInBounds_toArray, List.set_cons_succ, List.set_cons_zero]
                refine wpList_call rfl (exec_cl Try.call11 rfl (evc (ev rfl) (evc (ev rfl) (evc (ev rfl) evn)))) ?_
                refine (phas_b w40 HX1.out).mono ?_
                rintro e w41 ⟨rfl, hb⟩
                have HT41 := Lib.hid (HT40.out.call hb)
                clear hb HT40
                refine ⟨_, rfl, ?_⟩
                simp only [Act.put, List.setIfInBounds_toArray, List.set_cons_succ, List.set_cons_zero]
                refine wpList_valn rfl (exec_mv rfl (ev rfl)) ?_
                simp only [Act.put, List.setIfInBounds_toArray, List.set_cons_succ, List.set_cons_zero]
                refine wpList_valn rfl (exec_mv rfl (ev rfl)) ?_
                simp only [Act.put, List.setIfInBounds_toArray, List.set_cons_succ, List.set_cons_zero]
                refine wpList_valn (v := .bool true) rfl (exec_neInt true rfl (ev rfl) (ev rfl) D1.out) ?_
                simp only [Act.put, List.setIfInBounds_toArray, List.set_cons_succ, List.set_cons_zero]
                refine wpList_skips 3 (v := .bool true) rfl (exec_mv rfl (ev rfl)) (by kernel_rfl) ?_
                simp only [skipAct, List.take_succ_cons, List.take_zero, List.drop_succ_cons, List.drop_zero, Act.put, List.setIfInBounds_toArray, List.set_cons_succ, List.set_cons_zero]
                refine wpList_valn (v := .bool true) rfl (exec_pt rfl (ev rfl) evk) ?_
                simp only [Act.put, List.setIfInBounds_toArray, List.set_cons_succ, List.set_cons_zero]
                refine wpList_valn (v := .bool false) rfl (exec_neBool false rfl (ev rfl) (ev rfl) rfl) ?_
                simp only [Act.put, List.setIfInBounds_toArray, List.set_cons_succ, List.set_cons_zero]
                refine wpList_valn (v := .bool false) rfl (exec_mv rfl (ev rfl)) ?_
                simp only [Act.put, List.setIfInBounds_toArray, List.set_cons_succ, List.set_cons_zero]
                refine wpList_val (wanted_of rfl rfl rfl rfl) (exec_ldR rfl (ev rfl) (HT41.out.ros (i := 4) rfl)) ?_
                simp only [Act.put, List.setIfInBounds_toArray, List.set_cons_succ, List.set_cons_zero]
                refine wpList_val (wanted_of rfl rfl rfl rfl) (exec_mv rfl (ev rfl)) ?_
                simp only [Act.put, List.setIfInBounds_toArray, List.set_cons_succ, List.set_cons_zero]
                refine wpList_val (wanted_of rfl rfl rfl rfl) (exec_mv rfl (ev rfl)) ?_
                simp only [Act.put, List.setIfInBounds_toArray, List.set_cons_succ, List.set_cons_zero]
                refine wpList_call (wanted_of rfl rfl rfl rfl) (exec_cl Try.call11 rfl (evc (ev rfl) (evc (ev rfl) (evc (ev rfl) evn)))) ?_
                refine (phas_b w41 HX2.out).mono ?_
                rintro e w42 ⟨rfl, hb⟩
                have HT42 := Lib.hid (HT41.out.call hb)
                clear hb HT41
                refine ⟨_, rfl, ?_⟩
                simp only [Act.put, List.setIfInBounds_toArray, List.set_cons_succ, List.set_cons_zero]
                refine wpList_val (wanted_of rfl rfl rfl rfl) (exec_mv rfl (ev rfl)) ?_
                simp only [Act.put, List.setIfInBounds_toArray, List.set_cons_succ, List.set_cons_zero]
                refine wpList_val (wanted_of rfl rfl rfl rfl) (exec_mv rfl (ev rfl)) ?_
                simp only [Act.put, List.setIfInBounds_toArray, List.set_cons_succ, List.set_cons_zero]
                refine wpList_val (v := .bool true) (wanted_of rfl rfl rfl rfl) (exec_neInt true rfl (ev rfl) (ev rfl) D1.out) ?_
                simp only [Act.put, List.setIfInBounds_toArray, List.set_cons_succ, List.set_cons_zero]
                refine wpList_skips 3 (v := .bool true) (wanted_of rfl rfl rfl rfl) (exec_mv rfl (ev rfl)) (by kernel_rfl) ?_
                simp only [skipAct, List.take_succ_cons, List.take_zero, List.drop_succ_cons, List.drop_zero, Act.put, List.setIfInBounds_toArray, List.set_cons_succ, List.set_cons_zero]
                refine wpList_val (v := .bool true) (wanted_of rfl rfl rfl rfl) (exec_pt rfl (ev rfl) evk) ?_
                simp only [Act.put, List.setIfInBounds_toArray, List.set_cons_succ, List.set_cons_zero]
                refine wpList_val (v := .bool false) (wanted_of rfl rfl rfl rfl) (exec_neBool false rfl (ev rfl) (ev rfl) rfl) ?_
                simp only [Act.put, List.setIfInBounds_toArray, List.set_cons_succ, List.set_cons_zero]
                refine wpList_valn (v := .bool false) rfl (exec_pf rfl (ev rfl) (ev rfl)) ?_
                simp only [Act.put, List.setIfInBounds_toArray, List.set_cons_succ, List.set_cons_zero]
                refine wpList_nil ?_
                go_upto_region 25 with fail
                refine wp_region_lit ?_
                refine wpList_valn rfl (exec_mv rfl (ev rfl)) ?_
                simp only [Act.put, List.setIfInBounds_toArray, List.set_cons_succ, List.set_cons_zero]
                refine wpList_valn rfl (exec_add rfl (ev rfl) evk HJ3.out) ?_
                simp only [Act.put, List.setIfInBounds_toArray, List.set_cons_succ, List.set_cons_zero]
                refine wpList_valn rfl (exec_as rfl (ev rfl)) ?_
                simp only [Act.put, List.setIfInBounds_toArray, List.set_cons_succ, List.set_cons_zero]
                refine wpList_nil ?_
                go_wp2_with fail
                go_roundw
                case rel => exact ⟨t + 1, by omega, rfl, HT42.out⟩
                case measure => simp [intOf]; omega
            · have H104 : Hid (decide ((t : Int) < (S : Int)) = false) := Lib.hid (decide_eq_false (by omega))
              go_upto_region 24 with fail
              refine wp_region_lit ?_
              refine wpList_valn rfl (exec_mv rfl (ev rfl)) ?_
              simp only [Act.put, List.setIfInBounds_toArray, List.set_cons_succ, List.set_cons_zero]
              refine wpList_valn rfl (exec_faddr rfl (ev rfl) faG1) ?_
              simp only [Act.put, List.setIfInBounds_toArray, List.set_cons_succ, List.set_cons_zero]
              refine wpList_valn rfl (exec_ld rfl (ev rfl) (ldInt (HSQ.out ▸ HT40.out.geo (i := 0) rfl 1 _ rfl))) ?_
              simp only [Act.put, List.setIfInBounds_toArray, List.set_cons_succ, List.set_cons_zero]
              refine wpList_valn (v := .bool false) rfl (exec_lss false rfl (ev rfl) (ev rfl) H104.out) ?_
              simp only [Act.put, List.setIfInBounds_toArray, List.set_cons_succ, List.set_cons_zero]
              refine wpList_nil ?_
              go_upto_region 22 with fail
              refine wp_region_lit ?_
              refine wpList_valn rfl (exec_mv rfl (ev rfl)) ?_
              simp only [Act.put, List.setIfInBounds_toArray, List.set_cons_succ, List.set_cons_zero]
              refine wpList_valn rfl (exec_add rfl (ev rfl) evk HJ2.out) ?_
              simp only [Act.put, List.setIfInBounds_toArray, List.set_cons_succ, List.set_cons_zero]
              refine wpList_valn rfl (exec_as rfl (ev rfl)) ?_
              simp only [Act.put, List.setIfInBounds_toArray, List.set_cons_succ, List.set_cons_zero]
              refine wpList_nil ?_
              go_wp2_with fail
              go_roundw
              case rel => exact ⟨i + 1, by omega, rfl, HT40.out⟩
              case measure => simp [intOf]; omega
        · have H98 : Hid (decide ((i : Int) < (M : Int)) = false) := Lib.hid (decide_eq_false (by omega))
          go_upto_region 21 with fail
          refine wp_region_lit ?_
          refine wpList_valn rfl (exec_mv rfl (ev rfl)) ?_
          simp only [Act.put, List.setIfInBounds_toArray, List.set_cons_succ, List.set_cons_zero]
          refine wpList_valn rfl (exec_faddr rfl (ev rfl) faG0) ?_
          simp only [Act.put, List.setIfInBounds_toArray, List.set_cons_succ, List.set_cons_zero]
          refine wpList_valn rfl (exec_ld rfl (ev rfl) (ldInt (HMQ.out ▸ HT30.out.geo (i := 0) rfl 0 _ rfl))) ?_
          simp only [Act.put, List.setIfInBounds_toArray, List.set_cons_succ, List.set_cons_zero]
          refine wpList_valn (v := .bool false) rfl (exec_lss false rfl (ev rfl) (ev rfl) H98.out) ?_
          simp only [Act.put, List.setIfInBounds_toArray, List.set_cons_succ, List.set_cons_zero]
          refine wpList_nil ?_
          go_upto_region 28 with fail
          refine wp_region_lit ?_
          refine wpList_valn rfl (exec_ldR rfl (ev rfl) (HT30.out.ros (i := 4) rfl)) ?_
          simp only [Act.put, List.setIfInBounds_toArray, List.set_cons_succ, List.set_cons_zero]
          refine wpList_nuln rfl (exec_putR rfl (ev rfl) (ev rfl) (HT30.out.ros (i := 2) rfl)) ?_
          simp only [Act.put, List.setIfInBounds_toArray, List.set_cons_succ, List.set_cons_zero]
          have HT31 : Hid (Blks w (putW w30 b11 (y)) [gc b7 (g), rc b8 (g), rc b11 (y), rc b13 (setS g p 1), rc b18 (y)]) := Lib.hid (HT30.out.putR (i := 2) rfl (y))
          clear HT30
          generalize putW w30 b11 (y) = w31 at *
          refine wpList_nil ?_
          go_upto_region 13 with fail
          refine wp_region_lit ?_
          refine wpList_valn rfl (exec_mv rfl (ev rfl)) ?_
          simp only [Act.put, List.setIfInBounds_toArray, List.set_cons_succ, List.set_cons_zero]
          refine wpList_valn rfl (exec_add rfl (ev rfl) evk HJ.out) ?_
          simp only [Act.put, List.setIfInBounds_toArray, List.set_cons_succ, List.set_cons_zero]
          refine wpList_valn rfl (exec_as rfl (ev rfl)) ?_
          simp only [Act.put, List.setIfInBounds_toArray, List.set_cons_succ, List.set_cons_zero]
          refine wpList_nil ?_
          have ht0 : Blks w w31 [gc b7 g, rc b8 g, rc b11 (hY g p (s + 1)), rc b13 (setS g p 1)] := by
            rw [HY.out]
            exact Blks.dropOne (p := rc b18 y) HT31.out
          clear HT31
          go_wp2_with fail
          go_roundw
          case rel => exact ⟨s + 1, by omega, rfl, ht0⟩
          case measure => simp [intOf]; omega
    · have hsg : ¬ (s : Int) < g.s := by rw [HSQ.out]; omega
      rw [HN.out.hYend hsg] at ht
      have HT20 := Lib.hid ht
      clear ht hsg
      have H67 : Hid (decide ((s : Int) < (S : Int)) = false) := Lib.hid (decide_eq_false (by omega))
      go_upto_region 12 with fail
      refine wp_region_lit ?_
      refine wpList_valn rfl (exec_mv rfl (ev rfl)) ?_
      simp only [Act.put, List.setIfInBounds_toArray, List.set_cons_succ, List.set_cons_zero]
      refine wpList_valn rfl (exec_faddr rfl (ev rfl) faG1) ?_
      simp only [Act.put, List.setIfInBounds_toArray, List.set_cons_succ, List.set_cons_zero]
      refine wpList_valn rfl (exec_ld rfl (ev rfl) (ldInt (HSQ.out ▸ HT20.out.geo (i := 0) rfl 1 _ rfl))) ?_
      simp only [Act.put, List.setIfInBounds_toArray, List.set_cons_succ, List.set_cons_zero]
      refine wpList_valn (v := .bool false) rfl (exec_lss false rfl (ev rfl) (ev rfl) H67.out) ?_
      simp only [Act.put, List.setIfInBounds_toArray, List.set_cons_succ, List.set_cons_zero]
      refine wpList_nil ?_
      go_upto_region 29 with fail
      refine wp_region_lit ?_
      refine wpList_valn rfl (exec_ldR rfl (ev rfl) (HT20.out.ros (i := 2) rfl)) ?_
      simp only [Act.put, List.setIfInBounds_toArray, List.set_cons_succ, List.set_cons_zero]
      refine wpList_valn rfl (exec_ldR rfl (ev rfl) (HT20.out.ros (i := 1) rfl)) ?_
      simp only [Act.put, List.setIfInBounds_toArray, List.set_cons_succ, List.set_cons_zero]
      refine wpList_valn (v := .bool true) rfl (exec_eqR true rfl (ev rfl) (ev rfl) (decide_eq_true rfl)) ?_
      simp only [Act.put, List.setIfInBounds_toArray, List.set_cons_succ, List.set_cons_zero]
      refine wpList_valn (v := .bool true) rfl (exec_mv rfl (ev rfl)) ?_
      simp only [Act.put, List.setIfInBounds_toArray, List.set_cons_succ, List.set_cons_zero]
      refine wpList_call (wanted_of rfl rfl rfl rfl) (exec_cl Try.call27 rfl evn) ?_
      refine (plives w20).mono ?_
      rintro e w21 ⟨rfl, hb⟩
      have HT21 := Lib.hid (HT20.out.call hb)
      clear hb HT20
      refine ⟨_, rfl, ?_⟩
      simp only [Act.put, List.setIfInBounds_toArray, List.set_cons_succ, List.set_cons_zero]
      refine wpList_valn (v := .bool true) rfl (exec_pt rfl (ev rfl) (ev rfl)) ?_
      simp only [Act.put, List.setIfInBounds_toArray, List.set_cons_succ, List.set_cons_zero]
      refine wpList_valn (v := .bool true) rfl (exec_as rfl (ev rfl)) ?_
      simp only [Act.put, List.setIfInBounds_toArray, List.set_cons_succ, List.set_cons_zero]
      refine wpList_nil ?_
      go_wp2_with fail
      go_ret
      exact ⟨rfl, HT21.out.bel⟩
end Go.Proofs.Ytnckcafemdcaeaa
