import Derived.Test.YtcafafdimcecpaaGreatDoorLraz
import Derived.Test.YtcafafdimcecpaaGreatDoorLrZ
namespace Go.Proofs.YtcafafdimcecpaaGreatDoor
open Go.RowKit
set_option linter.unusedVariables false
set_option linter.unusedSimpArgs false
set_option maxRecDepth 100000
set_option maxHeartbeats 4000000 in
theorem wroom (m : Nat) (A1 : Option Addr) (n1 c1 : Nat) (l1 : List Step14) (w : World) (T : Tbs w) (hm : m < 256) (rd : RdE Step14E w w.heap.size A1 n1 l1) (hn : n1 ≤ maxLen) (hin : ∀ k, k < n1 → (l1.getD k Step14.zero).In w) :
    Calls Tryz.prog 6 #[.int .u8 m, .slice A1 n1 c1] w fun e w' => e = .returned (.bool true) ∧ Below w.heap.size w w' := by
  have HT := Lib.hid T
  have HM := Lib.hid hm
  have HRD := Lib.hid rd
  have HIN := Lib.hid hin
  clear T hm rd hin
  go_enter Tryz.func6, Tryz.ntmps6
  go_upto_region 1 with fail
  refine wp_region_lit ?_
  refine ag rfl (ah rfl (ev rfl)) ?_
  simp only [Act.put, aa, ae, af]
  refine am rfl (aq Tryz.call14 rfl (evc (ev rfl) evn)) ?_
  refine (plaid theLog m w HT.out HM.out).mono ?_
  rintro e w1 hl
  obtain ⟨q, p, rfl, hs⟩ := hl.rms
  have HS := Lib.hid hs
  clear hl hs
  refine ⟨_, rfl, ?_⟩
  simp only [Act.put, aa, ae, af]
  refine ag rfl (ah rfl (ev rfl)) ?_
  simp only [Act.put, aa, ae, af]
  refine ag rfl (aB rfl (ev rfl) rfl) ?_
  simp only [Act.put, aa, ae, af]
  refine ag rfl (aB rfl (ev rfl) rfl) ?_
  simp only [Act.put, aa, ae, af]
  refine ag rfl (aB rfl (ev rfl) rfl) ?_
  simp only [Act.put, aa, ae, af]
  refine ag rfl (ar rfl (ev rfl)) ?_
  simp only [Act.put, aa, ae, af]
  refine ag rfl (ar rfl (ev rfl)) ?_
  simp only [Act.put, aa, ae, af]
  refine ag rfl (ar rfl (ev rfl)) ?_
  simp only [Act.put, aa, ae, af]
  refine wpList_nil ?_
  go_upto_region 2 with fail
  refine wp_region_lit ?_
  refine ag (v := .bool true) rfl (ah rfl (ev rfl)) ?_
  simp only [Act.put, aa, ae, af]
  refine ag (v := .bool false) rfl (aU true rfl (ev rfl)) ?_
  simp only [Act.put, aa, ae, af]
  refine ag (v := .bool false) rfl (ah rfl (ev rfl)) ?_
  simp only [Act.put, aa, ae, af]
  refine aj (ai rfl rfl rfl rfl) (ah rfl (ev rfl)) ?_
  simp only [Act.put, aa, ae, af]
  refine am (ai rfl rfl rfl rfl) (aq Tryz.call31 rfl (evc (ev rfl) evn)) ?_
  refine HS.out.free.mono ?_
  rintro e w2 ⟨rfl, hb⟩
  have HS_ := Lib.hid (HS.out.below hb)
  clear HS hb
  have HS := HS_
  clear HS_
  refine ⟨_, rfl, ?_⟩
  simp only [Act.put, aa, ae, af]
  refine aj (ai rfl rfl rfl rfl) (ah rfl (ev rfl)) ?_
  simp only [Act.put, aa, ae, af]
  refine am (ai rfl rfl rfl rfl) (aq Tryz.call32 rfl (evc (ev rfl) evn)) ?_
  refine HS.out.ring.mono ?_
  rintro e w3 ⟨rfl, hb⟩
  have HS_ := Lib.hid (HS.out.below hb)
  clear HS hb
  have HS := HS_
  clear HS_
  refine ⟨_, rfl, ?_⟩
  simp only [Act.put, aa, ae, af]
  refine aj (v := .bool false) (ai rfl rfl rfl rfl) (aZ false rfl (ev rfl) (ev rfl) (by rw [show (layX 0 7 ((40 + m % 216 : Nat) : Int)).free = (layX 0 7 ((40 + m % 216 : Nat) : Int)).size from rfl]; simp)) ?_
  simp only [Act.put, aa, ae, af]
  refine ag (v := .bool false) rfl (aH rfl (ev rfl) (ev rfl)) ?_
  simp only [Act.put, aa, ae, af]
  refine wpList_nil ?_
  obtain ⟨x0, hx0⟩ : ∃ x0, layX 0 7 ((40 + m % 216 : Nat) : Int) = x0 := ⟨_, rfl⟩
  rw [hx0] at HS
  clear hx0
  go_wp2_with fail
  go_loopw [8] (fun i wr => ∃ (j : Nat) (x : LgS), i = .int .i64 j ∧ j ≤ 40 ∧ RmS w (fun _ => False) wr q p j x) (fun i _ => 40 - (intOf i).toNat)
  case atStart => exact ⟨0, x0, by go_num, by omega, HS.out⟩
  case round =>
    clear HS
    obtain ⟨j, x, rfl, hj, hs⟩ := hrel
    have HJ : Hid (j ≤ 1000) := Lib.hid (by omega)
    by_cases hlt : j < n1
    rotate_left 1
    · have HL : Hid (decide ((j : Int) < (n1 : Int)) = false) := Lib.hid (decide_eq_false (by omega))
      have HS := Lib.hid hs
      clear hs hlt
      go_upto_region 5 with fail
      refine wp_region_lit ?_
      refine ag rfl (ah rfl (ev rfl)) ?_
      simp only [Act.put, aa, ae, af]
      refine ag rfl (ah rfl (ev rfl)) ?_
      simp only [Act.put, aa, ae, af]
      refine ag rfl (bF Tryz.underlying41 rfl (ev rfl)) ?_
      simp only [Act.put, aa, ae, af]
      refine ag (v := .bool false) rfl (bn false rfl (ev rfl) (ev rfl) HL.out) ?_
      simp only [Act.put, aa, ae, af]
      refine aO 2 (v := .bool false) rfl (ah rfl (ev rfl)) (by kernel_rfl) ?_
      simp only [bh, List.take_succ_cons, List.take_zero, List.drop_succ_cons, List.drop_zero, Act.put, List.setIfInBounds_toArray, List.set_cons_succ, List.set_cons_zero]
      refine ag (v := .bool false) rfl (aH rfl (ev rfl) evk) ?_
      simp only [Act.put, aa, ae, af]
      refine wpList_nil ?_
      go_upto_region 20 with fail
      refine wp_region_lit ?_
      refine ag rfl (ah rfl (ev rfl)) ?_
      simp only [Act.put, aa, ae, af]
      refine am rfl (aq Tryz.call23 rfl (evc (ev rfl) evn)) ?_
      refine HS.out.live.mono ?_
      rintro e w4 ⟨rfl, hb⟩
      have HS_ := Lib.hid (HS.out.below hb)
      clear HS hb
      have HS := HS_
      clear HS_
      refine ⟨_, rfl, ?_⟩
      simp only [Act.put, aa, ae, af]
      refine ag rfl (ah rfl (ev rfl)) ?_
      simp only [Act.put, aa, ae, af]
      refine ag rfl (aB rfl (ev rfl) rfl) ?_
      simp only [Act.put, aa, ae, af]
      refine ag rfl (aB rfl (ev rfl) rfl) ?_
      simp only [Act.put, aa, ae, af]
      refine ag rfl (ar rfl (ev rfl)) ?_
      simp only [Act.put, aa, ae, af]
      refine ag rfl (ar rfl (ev rfl)) ?_
      simp only [Act.put, aa, ae, af]
      refine wpList_nil ?_
      have HN := Lib.hid HS.out.nums
      have HLT : Hid (decide ((x.next : Int) < (x.fst : Int)) = false) := Lib.hid (decide_eq_false (by have := HN.out.1; omega))
      have HQ : Hid (clrQ x x.next = true) := Lib.hid (decide_eq_true ⟨by have := HN.out.1; omega, Nat.le_refl _⟩)
      go_upto_region 21 with fail
      refine wp_region_lit ?_
      refine ag rfl (ah rfl (ev rfl)) ?_
      simp only [Act.put, aa, ae, af]
      refine ag rfl (ah rfl (ev rfl)) ?_
      simp only [Act.put, aa, ae, af]
      refine ag (v := .bool false) rfl (bn false rfl (ev rfl) (ev rfl) HLT.out) ?_
      simp only [Act.put, aa, ae, af]
      refine ag (v := .bool false) rfl (ah rfl (ev rfl)) ?_
      simp only [Act.put, aa, ae, af]
      refine aj (ai rfl rfl rfl rfl) (ah rfl (ev rfl)) ?_
      simp only [Act.put, aa, ae, af]
      refine aj (ai rfl rfl rfl rfl) (ah rfl (ev rfl)) ?_
      simp only [Act.put, aa, ae, af]
      refine am (ai rfl rfl rfl rfl) (aq Tryz.call17 rfl (evc (ev rfl) (evc (ev rfl) evn))) ?_
      refine (HS.out.clr x.next HJ.out HQ.out).mono ?_
      rintro e w5 ⟨rfl, hs, hk⟩
      have HS_ := Lib.hid hs
      clear HS hs hk
      have HS := HS_
      clear HS_
      refine ⟨_, rfl, ?_⟩
      simp only [Act.put, aa, ae, af]
      refine aj (v := .bool false) (ai rfl rfl rfl rfl) (aZ false rfl (ev rfl) evk rfl) ?_
      simp only [Act.put, aa, ae, af]
      refine ag (v := .bool false) rfl (aH rfl (ev rfl) (ev rfl)) ?_
      simp only [Act.put, aa, ae, af]
      refine ag (v := .bool false) rfl (ah rfl (ev rfl)) ?_
      simp only [Act.put, aa, ae, af]
      refine aj (ai rfl rfl rfl rfl) (ah rfl (ev rfl)) ?_
      simp only [Act.put, aa, ae, af]
      refine am (ai rfl rfl rfl rfl) (aq Tryz.call31 rfl (evc (ev rfl) evn)) ?_
      refine HS.out.free.mono ?_
      rintro e w6 ⟨rfl, hb⟩
      have HS_ := Lib.hid (HS.out.below hb)
      clear HS hb
      have HS := HS_
      clear HS_
      refine ⟨_, rfl, ?_⟩
      simp only [Act.put, aa, ae, af]
      refine aj (ai rfl rfl rfl rfl) (ah rfl (ev rfl)) ?_
      simp only [Act.put, aa, ae, af]
      refine am (ai rfl rfl rfl rfl) (aq Tryz.call32 rfl (evc (ev rfl) evn)) ?_
      refine HS.out.ring.mono ?_
      rintro e w7 ⟨rfl, hb⟩
      have HS_ := Lib.hid (HS.out.below hb)
      clear HS hb
      have HS := HS_
      clear HS_
      refine ⟨_, rfl, ?_⟩
      simp only [Act.put, aa, ae, af]
      refine aj (v := .bool false) (ai rfl rfl rfl rfl) (aZ false rfl (ev rfl) (ev rfl) (by rw [cut_all]; exact bne_self_eq_false _)) ?_
      simp only [Act.put, aa, ae, af]
      refine ag (v := .bool false) rfl (aH rfl (ev rfl) (ev rfl)) ?_
      simp only [Act.put, aa, ae, af]
      refine wpList_nil ?_
      have HAD : Hid (IntKind.u64.wrap ((x.next : Int) + 1) = ((x.next + 1 : Nat) : Int)) := Lib.hid (u64w (a := x.next + 1) (by have := HN.out; have := HJ.out; omega))
      have HSB : Hid (IntKind.u64.wrap ((x.next : Int) - 1) = ((x.next - 1 : Nat) : Int)) := Lib.hid (by have := HN.out; rw [show (x.next : Int) - 1 = ((x.next - 1 : Nat) : Int) from by omega]; exact u64w (by have := HJ.out; omega))
      have HQ1 : Hid (clrQ (x.cut x.next) (x.next + 1) = false) := Lib.hid (decide_eq_false fun e => by have := e.2; rw [cut_next HQ.out] at this; omega)
      have HQ2 : Hid (clrQ (x.cut x.next) (x.next - 1) = false) := Lib.hid (decide_eq_false fun e => by have h1 : x.next ≤ x.next - 1 := e.1; have := HN.out; omega)
      go_upto_region 23 with fail
      refine wp_region_lit ?_
      refine ag rfl (ah rfl (ev rfl)) ?_
      simp only [Act.put, aa, ae, af]
      refine ag rfl (ah rfl (ev rfl)) ?_
      simp only [Act.put, aa, ae, af]
      refine ag rfl (fq rfl (ev rfl) evk HAD.out) ?_
      simp only [Act.put, aa, ae, af]
      refine am rfl (aq Tryz.call17 rfl (evc (ev rfl) (evc (ev rfl) evn))) ?_
      refine (HS.out.clr_no (x.next + 1) (by have := HJ.out; omega) (by have := HN.out; have := HJ.out; omega) HQ1.out).mono ?_
      rintro e w8 ⟨rfl, hs, hk⟩
      have HS_ := Lib.hid hs
      clear HS hs hk
      have HS := HS_
      clear HS_
      refine ⟨_, rfl, ?_⟩
      simp only [Act.put, aa, ae, af]
      refine ag (v := .bool true) rfl (aE true rfl (ev rfl) evk rfl) ?_
      simp only [Act.put, aa, ae, af]
      refine ag (v := .bool true) rfl (ah rfl (ev rfl)) ?_
      simp only [Act.put, aa, ae, af]
      refine aj (ai rfl rfl rfl rfl) (ah rfl (ev rfl)) ?_
      simp only [Act.put, aa, ae, af]
      refine aj (ai rfl rfl rfl rfl) (ah rfl (ev rfl)) ?_
      simp only [Act.put, aa, ae, af]
      refine aj (ai rfl rfl rfl rfl) (exec_sbI rfl (ev rfl) evk HSB.out) ?_
      simp only [Act.put, aa, ae, af]
      refine am (ai rfl rfl rfl rfl) (aq Tryz.call17 rfl (evc (ev rfl) (evc (ev rfl) evn))) ?_
      refine (HS.out.clr_no (x.next - 1) (by have := HJ.out; omega) (by have := HN.out; have := HJ.out; omega) HQ2.out).mono ?_
      rintro e w9 ⟨rfl, hs, hk⟩
      have HS_ := Lib.hid hs
      clear HS hs hk
      have HS := HS_
      clear HS_
      refine ⟨_, rfl, ?_⟩
      simp only [Act.put, aa, ae, af]
      refine aj (v := .bool true) (ai rfl rfl rfl rfl) (aE true rfl (ev rfl) evk rfl) ?_
      simp only [Act.put, aa, ae, af]
      refine ag (v := .bool true) rfl (aJ rfl (ev rfl) (ev rfl)) ?_
      simp only [Act.put, aa, ae, af]
      refine ag (v := .bool true) rfl (ah rfl (ev rfl)) ?_
      simp only [Act.put, aa, ae, af]
      refine am (ai rfl rfl rfl rfl) (aq Tryz.call13 rfl evn) ?_
      refine (llives theLog _ (HT.out.below HS.out.bel)).mono ?_
      rintro e wz ⟨rfl, hb⟩
      have HB := Lib.hid (HS.out.bel.trans (hb.mono HS.out.bel.size))
      clear hb
      refine ⟨_, rfl, ?_⟩
      simp only [Act.put, aa, ae, af]
      refine ag (v := .bool true) rfl (aJ rfl (ev rfl) (ev rfl)) ?_
      simp only [Act.put, aa, ae, af]
      refine ag (v := .bool true) rfl (ar rfl (ev rfl)) ?_
      simp only [Act.put, aa, ae, af]
      refine wpList_nil ?_
      go_wp2_with fail
      go_ret
      exact ⟨rfl, HB.out⟩
    have HL : Hid (decide ((j : Int) < (n1 : Int)) = true) := Lib.hid (decide_eq_true (by omega))
    by_cases h40 : j < 40
    rotate_left 1
    · have HM40 : Hid (decide ((j : Int) < 40) = false) := Lib.hid (decide_eq_false (by omega))
      have HS := Lib.hid hs
      clear hs hlt h40
      go_upto_region 5 with fail
      refine wp_region_lit ?_
      refine ag rfl (ah rfl (ev rfl)) ?_
      simp only [Act.put, aa, ae, af]
      refine ag rfl (ah rfl (ev rfl)) ?_
      simp only [Act.put, aa, ae, af]
      refine ag rfl (bF Tryz.underlying41 rfl (ev rfl)) ?_
      simp only [Act.put, aa, ae, af]
      refine ag (v := .bool true) rfl (bn true rfl (ev rfl) (ev rfl) HL.out) ?_
      simp only [Act.put, aa, ae, af]
      refine ag (v := .bool true) rfl (ah rfl (ev rfl)) ?_
      simp only [Act.put, aa, ae, af]
      refine aj (ai rfl rfl rfl rfl) (ah rfl (ev rfl)) ?_
      simp only [Act.put, aa, ae, af]
      refine aj (v := .bool false) (ai rfl rfl rfl rfl) (bn false rfl (ev rfl) evk HM40.out) ?_
      simp only [Act.put, aa, ae, af]
      refine ag (v := .bool false) rfl (aJ rfl (ev rfl) (ev rfl)) ?_
      simp only [Act.put, aa, ae, af]
      refine wpList_nil ?_
      go_upto_region 20 with fail
      refine wp_region_lit ?_
      refine ag rfl (ah rfl (ev rfl)) ?_
      simp only [Act.put, aa, ae, af]
      refine am rfl (aq Tryz.call23 rfl (evc (ev rfl) evn)) ?_
      refine HS.out.live.mono ?_
      rintro e w10 ⟨rfl, hb⟩
      have HS_ := Lib.hid (HS.out.below hb)
      clear HS hb
      have HS := HS_
      clear HS_
      refine ⟨_, rfl, ?_⟩
      simp only [Act.put, aa, ae, af]
      refine ag rfl (ah rfl (ev rfl)) ?_
      simp only [Act.put, aa, ae, af]
      refine ag rfl (aB rfl (ev rfl) rfl) ?_
      simp only [Act.put, aa, ae, af]
      refine ag rfl (aB rfl (ev rfl) rfl) ?_
      simp only [Act.put, aa, ae, af]
      refine ag rfl (ar rfl (ev rfl)) ?_
      simp only [Act.put, aa, ae, af]
      refine ag rfl (ar rfl (ev rfl)) ?_
      simp only [Act.put, aa, ae, af]
      refine wpList_nil ?_
      have HN := Lib.hid HS.out.nums
      have HLT : Hid (decide ((x.next : Int) < (x.fst : Int)) = false) := Lib.hid (decide_eq_false (by have := HN.out.1; omega))
      have HQ : Hid (clrQ x x.next = true) := Lib.hid (decide_eq_true ⟨by have := HN.out.1; omega, Nat.le_refl _⟩)
      go_upto_region 21 with fail
      refine wp_region_lit ?_
      refine ag rfl (ah rfl (ev rfl)) ?_
      simp only [Act.put, aa, ae, af]
      refine ag rfl (ah rfl (ev rfl)) ?_
      simp only [Act.put, aa, ae, af]
      refine ag (v := .bool false) rfl (bn false rfl (ev rfl) (ev rfl) HLT.out) ?_
      simp only [Act.put, aa, ae, af]
      refine ag (v := .bool false) rfl (ah rfl (ev rfl)) ?_
      simp only [Act.put, aa, ae, af]
      refine aj (ai rfl rfl rfl rfl) (ah rfl (ev rfl)) ?_
      simp only [Act.put, aa, ae, af]
      refine aj (ai rfl rfl rfl rfl) (ah rfl (ev rfl)) ?_
      simp only [Act.put, aa, ae, af]
      refine am (ai rfl rfl rfl rfl) (aq Tryz.call17 rfl (evc (ev rfl) (evc (ev rfl) evn))) ?_
      refine (HS.out.clr x.next HJ.out HQ.out).mono ?_
      rintro e w11 ⟨rfl, hs, hk⟩
      have HS_ := Lib.hid hs
      clear HS hs hk
      have HS := HS_
      clear HS_
      refine ⟨_, rfl, ?_⟩
      simp only [Act.put, aa, ae, af]
      refine aj (v := .bool false) (ai rfl rfl rfl rfl) (aZ false rfl (ev rfl) evk rfl) ?_
      simp only [Act.put, aa, ae, af]
      refine ag (v := .bool false) rfl (aH rfl (ev rfl) (ev rfl)) ?_
      simp only [Act.put, aa, ae, af]
      refine ag (v := .bool false) rfl (ah rfl (ev rfl)) ?_
      simp only [Act.put, aa, ae, af]
      refine aj (ai rfl rfl rfl rfl) (ah rfl (ev rfl)) ?_
      simp only [Act.put, aa, ae, af]
      refine am (ai rfl rfl rfl rfl) (aq Tryz.call31 rfl (evc (ev rfl) evn)) ?_
      refine HS.out.free.mono ?_
      rintro e w12 ⟨rfl, hb⟩
      have HS_ := Lib.hid (HS.out.below hb)
      clear HS hb
      have HS := HS_
      clear HS_
      refine ⟨_, rfl, ?_⟩
      simp only [Act.put, aa, ae, af]
      refine aj (ai rfl rfl rfl rfl) (ah rfl (ev rfl)) ?_
      simp only [Act.put, aa, ae, af]
      refine am (ai rfl rfl rfl rfl) (aq Tryz.call32 rfl (evc (ev rfl) evn)) ?_
      refine HS.out.ring.mono ?_
      rintro e w13 ⟨rfl, hb⟩
      have HS_ := Lib.hid (HS.out.below hb)
      clear HS hb
      have HS := HS_
      clear HS_
      refine ⟨_, rfl, ?_⟩
      simp only [Act.put, aa, ae, af]
      refine aj (v := .bool false) (ai rfl rfl rfl rfl) (aZ false rfl (ev rfl) (ev rfl) (by rw [cut_all]; exact bne_self_eq_false _)) ?_
      simp only [Act.put, aa, ae, af]
      refine ag (v := .bool false) rfl (aH rfl (ev rfl) (ev rfl)) ?_
      simp only [Act.put, aa, ae, af]
      refine wpList_nil ?_
      have HAD : Hid (IntKind.u64.wrap ((x.next : Int) + 1) = ((x.next + 1 : Nat) : Int)) := Lib.hid (u64w (a := x.next + 1) (by have := HN.out; have := HJ.out; omega))
      have HSB : Hid (IntKind.u64.wrap ((x.next : Int) - 1) = ((x.next - 1 : Nat) : Int)) := Lib.hid (by have := HN.out; rw [show (x.next : Int) - 1 = ((x.next - 1 : Nat) : Int) from by omega]; exact u64w (by have := HJ.out; omega))
      have HQ1 : Hid (clrQ (x.cut x.next) (x.next + 1) = false) := Lib.hid (decide_eq_false fun e => by have := e.2; rw [cut_next HQ.out] at this; omega)
      have HQ2 : Hid (clrQ (x.cut x.next) (x.next - 1) = false) := Lib.hid (decide_eq_false fun e => by have h1 : x.next ≤ x.next - 1 := e.1; have := HN.out; omega)
      go_upto_region 23 with fail
      refine wp_region_lit ?_
      refine ag rfl (ah rfl (ev rfl)) ?_
      simp only [Act.put, aa, ae, af]
      refine ag rfl (ah rfl (ev rfl)) ?_
      simp only [Act.put, aa, ae, af]
      refine ag rfl (fq rfl (ev rfl) evk HAD.out) ?_
      simp only [Act.put, aa, ae, af]
      refine am rfl (aq Tryz.call17 rfl (evc (ev rfl) (evc (ev rfl) evn))) ?_
      refine (HS.out.clr_no (x.next + 1) (by have := HJ.out; omega) (by have := HN.out; have := HJ.out; omega) HQ1.out).mono ?_
      rintro e w14 ⟨rfl, hs, hk⟩
      have HS_ := Lib.hid hs
      clear HS hs hk
      have HS := HS_
      clear HS_
      refine ⟨_, rfl, ?_⟩
      simp only [Act.put, aa, ae, af]
      refine ag (v := .bool true) rfl (aE true rfl (ev rfl) evk rfl) ?_
      simp only [Act.put, aa, ae, af]
      refine ag (v := .bool true) rfl (ah rfl (ev rfl)) ?_
      simp only [Act.put, aa, ae, af]
      refine aj (ai rfl rfl rfl rfl) (ah rfl (ev rfl)) ?_
      simp only [Act.put, aa, ae, af]
      refine aj (ai rfl rfl rfl rfl) (ah rfl (ev rfl)) ?_
      simp only [Act.put, aa, ae, af]
      refine aj (ai rfl rfl rfl rfl) (exec_sbI rfl (ev rfl) evk HSB.out) ?_
      simp only [Act.put, aa, ae, af]
      refine am (ai rfl rfl rfl rfl) (aq Tryz.call17 rfl (evc (ev rfl) (evc (ev rfl) evn))) ?_
      refine (HS.out.clr_no (x.next - 1) (by have := HJ.out; omega) (by have := HN.out; have := HJ.out; omega) HQ2.out).mono ?_
      rintro e w15 ⟨rfl, hs, hk⟩
      have HS_ := Lib.hid hs
      clear HS hs hk
      have HS := HS_
      clear HS_
      refine ⟨_, rfl, ?_⟩
      simp only [Act.put, aa, ae, af]
      refine aj (v := .bool true) (ai rfl rfl rfl rfl) (aE true rfl (ev rfl) evk rfl) ?_
      simp only [Act.put, aa, ae, af]
      refine ag (v := .bool true) rfl (aJ rfl (ev rfl) (ev rfl)) ?_
      simp only [Act.put, aa, ae, af]
      refine ag (v := .bool true) rfl (ah rfl (ev rfl)) ?_
      simp only [Act.put, aa, ae, af]
      refine am (ai rfl rfl rfl rfl) (aq Tryz.call13 rfl evn) ?_
      refine (llives theLog _ (HT.out.below HS.out.bel)).mono ?_
      rintro e wz ⟨rfl, hb⟩
      have HB := Lib.hid (HS.out.bel.trans (hb.mono HS.out.bel.size))
      clear hb
      refine ⟨_, rfl, ?_⟩
      simp only [Act.put, aa, ae, af]
      refine ag (v := .bool true) rfl (aJ rfl (ev rfl) (ev rfl)) ?_
      simp only [Act.put, aa, ae, af]
      refine ag (v := .bool true) rfl (ar rfl (ev rfl)) ?_
      simp only [Act.put, aa, ae, af]
      refine wpList_nil ?_
      go_wp2_with fail
      go_ret
      exact ⟨rfl, HB.out⟩
    have HM40 : Hid (decide ((j : Int) < 40) = true) := Lib.hid (decide_eq_true (by omega))
    obtain ⟨ab, off, rfl, hab, hrg⟩ := (HRD.out.below hs.bel).2 j hlt
    obtain ⟨a, ha⟩ : ∃ a, l1.getD j Step14.zero = a := ⟨_, rfl⟩
    have hi := HIN.out j hlt
    rw [ha] at hi
    obtain ⟨cl, hcl, hc1, hc2⟩ := hi
    have hrg2 : wr.rangeAt ab (off + j * 3) a.C := by rw [← ha]; exact hrg
    have HRG := Lib.hid hrg2
    have HCL := Lib.hid hcl
    have HJN := Lib.hid hlt
    clear ha hcl hc1 hc2 hrg hrg2 hlt hab
    go_upto_region 5 with fail
    refine wp_region_lit ?_
    refine ag rfl (ah rfl (ev rfl)) ?_
    simp only [Act.put, aa, ae, af]
    refine ag rfl (ah rfl (ev rfl)) ?_
    simp only [Act.put, aa, ae, af]
    refine ag rfl (bF Tryz.underlying41 rfl (ev rfl)) ?_
    simp only [Act.put, aa, ae, af]
    refine ag (v := .bool true) rfl (bn true rfl (ev rfl) (ev rfl) HL.out) ?_
    simp only [Act.put, aa, ae, af]
    refine ag (v := .bool true) rfl (ah rfl (ev rfl)) ?_
    simp only [Act.put, aa, ae, af]
    refine aj (ai rfl rfl rfl rfl) (ah rfl (ev rfl)) ?_
    simp only [Act.put, aa, ae, af]
    refine aj (v := .bool true) (ai rfl rfl rfl rfl) (bn true rfl (ev rfl) evk HM40.out) ?_
    simp only [Act.put, aa, ae, af]
    refine ag (v := .bool true) rfl (aJ rfl (ev rfl) (ev rfl)) ?_
    simp only [Act.put, aa, ae, af]
    refine wpList_nil ?_
    go_upto_region 7 with fail
    refine wp_region_lit ?_
    refine ag rfl (ah rfl (ev rfl)) ?_
    simp only [Act.put, aa, ae, af]
    refine ag rfl (ah rfl (ev rfl)) ?_
    simp only [Act.put, aa, ae, af]
    refine ag rfl (aX (E := Step14E) rfl (ev rfl) (ev rfl) HJN.out) ?_
    simp only [Act.put, aa, ae, af]
    refine ag rfl (exec_loadStep14 rfl (ev rfl) HRG.out) ?_
    simp only [Act.put, aa, ae, af]
    refine ag rfl (exec_allocStep14 rfl) ?_
    simp only [Act.put, aa, ae, af]
    refine az rfl (exec_fillStep14 (c := Step14.zero) rfl (ev rfl) (ev rfl)) ?_
    simp only [Act.put, aa, ae, af]
    refine wpList_nil ?_
    have HA := Lib.hid (Step14.At_.new wr a)
    have HS : Hid (RmS w (fun b => b = wr.heap.size) (wr.alloc (.cells a.C.toArray 48)) q p j x) := Lib.hid (hs.guard ((Below.refl wr.heap.size wr).alloc (Nat.le_refl _) _) fun b e => .inr (by subst e; rw [World.size_alloc]; omega))
    clear hs
    generalize wr.alloc (.cells a.C.toArray 48) = w1 at *
    generalize wr.heap.size = bs at *
    go_upto_region 8 with fail
    refine wp_region_lit ?_
    refine ag rfl (ah rfl (ev rfl)) ?_
    simp only [Act.put, aa, ae, af]
    refine am rfl (aq Tryz.call23 rfl (evc (ev rfl) evn)) ?_
    refine HS.out.live.mono ?_
    rintro e w2 ⟨rfl, hb⟩
    have HS_ := Lib.hid (HS.out.below hb)
    have HA_ := Lib.hid (HA.out.below (HS.out.lt rfl) hb)
    clear HA
    have HA := HA_
    clear HA_
    clear HS hb
    have HS := HS_
    clear HS_
    refine ⟨_, rfl, ?_⟩
    simp only [Act.put, aa, ae, af]
    refine ag rfl (ah rfl (ev rfl)) ?_
    simp only [Act.put, aa, ae, af]
    refine ag rfl (aB rfl (ev rfl) rfl) ?_
    simp only [Act.put, aa, ae, af]
    refine ag rfl (aB rfl (ev rfl) rfl) ?_
    simp only [Act.put, aa, ae, af]
    refine ag rfl (ar rfl (ev rfl)) ?_
    simp only [Act.put, aa, ae, af]
    refine ag rfl (ar rfl (ev rfl)) ?_
    simp only [Act.put, aa, ae, af]
    refine wpList_nil ?_
    go_upto_region 9 with fail
    refine wp_region_lit ?_
    refine ag rfl (ah rfl (ev rfl)) ?_
    simp only [Act.put, aa, ae, af]
    refine am rfl (aq Tryz.call31 rfl (evc (ev rfl) evn)) ?_
    refine HS.out.free.mono ?_
    rintro e w3 ⟨rfl, hb⟩
    have HS_ := Lib.hid (HS.out.below hb)
    have HA_ := Lib.hid (HA.out.below (HS.out.lt rfl) hb)
    clear HA
    have HA := HA_
    clear HA_
    clear HS hb
    have HS := HS_
    clear HS_
    refine ⟨_, rfl, ?_⟩
    simp only [Act.put, aa, ae, af]
    refine ag rfl (ar rfl (ev rfl)) ?_
    simp only [Act.put, aa, ae, af]
    refine wpList_nil ?_
    have HN := Lib.hid HS.out.nums
    obtain ⟨cb, hcb⟩ : ∃ cb, a.Clear = cb := ⟨_, rfl⟩
    have HF0 := Lib.hid HA.out.f0
    rw [hcb] at HF0
    clear hcb
    cases cb
    rotate_left 1
    ·
      go_upto_region 10 with fail
      refine wp_region_lit ?_
      refine ag rfl (ak rfl (ev rfl) faStep140) ?_
      simp only [Act.put, aa, ae, af]
      refine ag (v := .bool true) rfl (au rfl (ev rfl) (ldBoolA HF0.out)) ?_
      simp only [Act.put, aa, ae, af]
      refine wpList_nil ?_
      have HLT : Hid (decide ((x.next : Int) < (x.fst : Int)) = false) := Lib.hid (decide_eq_false (by have := HN.out.1; omega))
      obtain ⟨r, hr⟩ : ∃ r, a.N.toNat % (x.nts.length + 1) = r := ⟨_, rfl⟩
      have hrl : r ≤ x.nts.length := by have := Nat.mod_lt a.N.toNat (show 0 < x.nts.length + 1 by omega); omega
      have HR : Hid ((a.N.toNat : Int).tmod ((x.nts.length + 1 : Nat) : Int) = (r : Int)) := Lib.hid (by rw [← hr]; rfl)
      have HAD : Hid (IntKind.u64.wrap ((x.nts.length : Int) + 1) = ((x.nts.length + 1 : Nat) : Int)) := Lib.hid (u64w (a := x.nts.length + 1) (by have := HN.out; omega))
      have HAF : Hid (IntKind.u64.wrap ((x.fst : Int) + (r : Int)) = ((x.fst + r : Nat) : Int)) := Lib.hid (by rw [← Int.natCast_add]; exact u64w (by have := HN.out; have := HJ.out; omega))
      have HQ : Hid (clrQ x (x.fst + r) = true) := Lib.hid (decide_eq_true ⟨by omega, by have := HN.out.1; omega⟩)
      have HFR : Hid (decide (((x.cut (x.fst + r)).free : Int) < (x.free : Int)) = false) := Lib.hid (decide_eq_false (by have := cut_free HQ.out; omega))
      have HUN : Hid (a.N.toNat < 256) := Lib.hid a.N.toNat_lt
      clear hr hrl
      go_upto_region 11 with fail
      refine wp_region_lit ?_
      refine ag rfl (ah rfl (ev rfl)) ?_
      simp only [Act.put, aa, ae, af]
      refine ag rfl (ah rfl (ev rfl)) ?_
      simp only [Act.put, aa, ae, af]
      refine ag (v := .bool false) rfl (bn false rfl (ev rfl) (ev rfl) HLT.out) ?_
      simp only [Act.put, aa, ae, af]
      refine ag (v := .bool false) rfl (ah rfl (ev rfl)) ?_
      simp only [Act.put, aa, ae, af]
      refine aj (ai rfl rfl rfl rfl) (ah rfl (ev rfl)) ?_
      simp only [Act.put, aa, ae, af]
      refine aj (ai rfl rfl rfl rfl) (ah rfl (ev rfl)) ?_
      simp only [Act.put, aa, ae, af]
      refine aj (ai rfl rfl rfl rfl) (ak rfl (ev rfl) faStep141) ?_
      simp only [Act.put, aa, ae, af]
      refine aj (ai rfl rfl rfl rfl) (au rfl (ev rfl) (ldU8 HA.out.f1)) ?_
      simp only [Act.put, aa, ae, af]
      refine aj (ai rfl rfl rfl rfl) (exec_cv8U rfl (ev rfl) HUN.out) ?_
      simp only [Act.put, aa, ae, af]
      refine aj (ai rfl rfl rfl rfl) (ah rfl (ev rfl)) ?_
      simp only [Act.put, aa, ae, af]
      refine aj (ai rfl rfl rfl rfl) (ah rfl (ev rfl)) ?_
      simp only [Act.put, aa, ae, af]
      refine aj (ai rfl rfl rfl rfl) (exec_sbU (a := x.fst) (b := x.nts.length) rfl (ev rfl) (ev rfl) (by have := HN.out; have := HJ.out; omega)) ?_
      simp only [Act.put, aa, ae, af]
      refine aj (ai rfl rfl rfl rfl) (fq rfl (ev rfl) evk HAD.out) ?_
      simp only [Act.put, aa, ae, af]
      refine aj (ai rfl rfl rfl rfl) (exec_remI rfl (ev rfl) (ev rfl) (by omega) HR.out) ?_
      simp only [Act.put, aa, ae, af]
      refine aj (ai rfl rfl rfl rfl) (fq rfl (ev rfl) (ev rfl) HAF.out) ?_
      simp only [Act.put, aa, ae, af]
      refine am (ai rfl rfl rfl rfl) (aq Tryz.call17 rfl (evc (ev rfl) (evc (ev rfl) evn))) ?_
      refine (HS.out.clr (x.fst + r) HJ.out HQ.out).mono ?_
      rintro e w4 ⟨rfl, hs, hk⟩
      have HS_ := Lib.hid hs
      have HA_ : Hid (Step14.At_ w4 bs a) := Lib.hid ((hk bs rfl).trans HA.out)
      clear HA
      have HA := HA_
      clear HA_
      clear HS hs hk
      have HS := HS_
      clear HS_
      refine ⟨_, rfl, ?_⟩
      simp only [Act.put, aa, ae, af]
      refine aj (v := .bool false) (ai rfl rfl rfl rfl) (aZ false rfl (ev rfl) evk rfl) ?_
      simp only [Act.put, aa, ae, af]
      refine ag (v := .bool false) rfl (aH rfl (ev rfl) (ev rfl)) ?_
      simp only [Act.put, aa, ae, af]
      refine ag (v := .bool false) rfl (ah rfl (ev rfl)) ?_
      simp only [Act.put, aa, ae, af]
      refine aj (ai rfl rfl rfl rfl) (ah rfl (ev rfl)) ?_
      simp only [Act.put, aa, ae, af]
      refine am (ai rfl rfl rfl rfl) (aq Tryz.call31 rfl (evc (ev rfl) evn)) ?_
      refine HS.out.free.mono ?_
      rintro e w5 ⟨rfl, hb⟩
      have HS_ := Lib.hid (HS.out.below hb)
      have HA_ := Lib.hid (HA.out.below (HS.out.lt rfl) hb)
      clear HA
      have HA := HA_
      clear HA_
      clear HS hb
      have HS := HS_
      clear HS_
      refine ⟨_, rfl, ?_⟩
      simp only [Act.put, aa, ae, af]
      refine aj (ai rfl rfl rfl rfl) (ah rfl (ev rfl)) ?_
      simp only [Act.put, aa, ae, af]
      refine aj (v := .bool false) (ai rfl rfl rfl rfl) (bn false rfl (ev rfl) (ev rfl) HFR.out) ?_
      simp only [Act.put, aa, ae, af]
      refine ag (v := .bool false) rfl (aH rfl (ev rfl) (ev rfl)) ?_
      simp only [Act.put, aa, ae, af]
      refine wpList_nil ?_
      go_wp2_with fail
      go_roundw
      case rel => exact ⟨j + 1, _, by go_num, by omega, (HS.out).free_of fun _ e => e⟩
      case measure => simp [intOf]; omega
    go_upto_region 10 with fail
    refine wp_region_lit ?_
    refine ag rfl (ak rfl (ev rfl) faStep140) ?_
    simp only [Act.put, aa, ae, af]
    refine ag (v := .bool false) rfl (au rfl (ev rfl) (ldBoolA HF0.out)) ?_
    simp only [Act.put, aa, ae, af]
    refine wpList_nil ?_
    by_cases hz : a.Csn = 0
    · have HZ : Hid (((a.Csn : Int) == 0) = true) := Lib.hid (by rw [hz]; rfl)
      go_upto_region 13 with fail
      refine wp_region_lit ?_
      refine ag rfl (ak rfl (ev rfl) ed) ?_
      simp only [Act.put, aa, ae, af]
      refine ag rfl (au rfl (ev rfl) (ldClsA HA.out.f2)) ?_
      simp only [Act.put, aa, ae, af]
      refine ag rfl (bF Tryz.underlying34 rfl (ev rfl)) ?_
      simp only [Act.put, aa, ae, af]
      refine ag (v := .bool true) rfl (aE true rfl (ev rfl) evk HZ.out) ?_
      simp only [Act.put, aa, ae, af]
      refine aO 4 (v := .bool true) rfl (ah rfl (ev rfl)) (by kernel_rfl) ?_
      simp only [bh, List.take_succ_cons, List.take_zero, List.drop_succ_cons, List.drop_zero, Act.put, List.setIfInBounds_toArray, List.set_cons_succ, List.set_cons_zero]
      refine ag (v := .bool true) rfl (aJ rfl (ev rfl) evk) ?_
      simp only [Act.put, aa, ae, af]
      refine wpList_nil ?_
      go_wp2_with fail
      go_roundw
      case rel => exact ⟨j + 1, _, by go_num, by omega, (HS.out.more (Nat.le_succ j)).free_of fun _ e => e⟩
      case measure => simp [intOf]; omega
    have HZ : Hid (((a.Csn : Int) == 0) = false) := Lib.hid (by rw [beq_eq_false_iff_ne]; omega)
    by_cases hg : 32 < a.Csn
    · have HG : Hid (decide ((32 : Int) < (a.Csn : Int)) = true) := Lib.hid (decide_eq_true (by omega))
      go_upto_region 13 with fail
      refine wp_region_lit ?_
      refine ag rfl (ak rfl (ev rfl) ed) ?_
      simp only [Act.put, aa, ae, af]
      refine ag rfl (au rfl (ev rfl) (ldClsA HA.out.f2)) ?_
      simp only [Act.put, aa, ae, af]
      refine ag rfl (bF Tryz.underlying34 rfl (ev rfl)) ?_
      simp only [Act.put, aa, ae, af]
      refine ag (v := .bool false) rfl (aE false rfl (ev rfl) evk HZ.out) ?_
      simp only [Act.put, aa, ae, af]
      refine ag (v := .bool false) rfl (ah rfl (ev rfl)) ?_
      simp only [Act.put, aa, ae, af]
      refine aj (ai rfl rfl rfl rfl) (ak rfl (ev rfl) ed) ?_
      simp only [Act.put, aa, ae, af]
      refine aj (ai rfl rfl rfl rfl) (au rfl (ev rfl) (ldClsA HA.out.f2)) ?_
      simp only [Act.put, aa, ae, af]
      refine aj (ai rfl rfl rfl rfl) (bF Tryz.underlying34 rfl (ev rfl)) ?_
      simp only [Act.put, aa, ae, af]
      refine aj (v := .bool true) (ai rfl rfl rfl rfl) (cy true rfl (ev rfl) evk HG.out) ?_
      simp only [Act.put, aa, ae, af]
      refine ag (v := .bool true) rfl (aH rfl (ev rfl) (ev rfl)) ?_
      simp only [Act.put, aa, ae, af]
      refine wpList_nil ?_
      go_wp2_with fail
      go_roundw
      case rel => exact ⟨j + 1, _, by go_num, by omega, (HS.out.more (Nat.le_succ j)).free_of fun _ e => e⟩
      case measure => simp [intOf]; omega
    have HG : Hid (decide ((32 : Int) < (a.Csn : Int)) = false) := Lib.hid (decide_eq_false (by omega))
    have HCN : Hid (1 ≤ a.Csn ∧ a.Csn ≤ 32) := Lib.hid (by omega)
    clear hz hg
    go_upto_region 13 with fail
    refine wp_region_lit ?_
    refine ag rfl (ak rfl (ev rfl) ed) ?_
    simp only [Act.put, aa, ae, af]
    refine ag rfl (au rfl (ev rfl) (ldClsA HA.out.f2)) ?_
    simp only [Act.put, aa, ae, af]
    refine ag rfl (bF Tryz.underlying34 rfl (ev rfl)) ?_
    simp only [Act.put, aa, ae, af]
    refine ag (v := .bool false) rfl (aE false rfl (ev rfl) evk HZ.out) ?_
    simp only [Act.put, aa, ae, af]
    refine ag (v := .bool false) rfl (ah rfl (ev rfl)) ?_
    simp only [Act.put, aa, ae, af]
    refine aj (ai rfl rfl rfl rfl) (ak rfl (ev rfl) ed) ?_
    simp only [Act.put, aa, ae, af]
    refine aj (ai rfl rfl rfl rfl) (au rfl (ev rfl) (ldClsA HA.out.f2)) ?_
    simp only [Act.put, aa, ae, af]
    refine aj (ai rfl rfl rfl rfl) (bF Tryz.underlying34 rfl (ev rfl)) ?_
    simp only [Act.put, aa, ae, af]
    refine aj (v := .bool false) (ai rfl rfl rfl rfl) (cy false rfl (ev rfl) evk HG.out) ?_
    simp only [Act.put, aa, ae, af]
    refine ag (v := .bool false) rfl (aH rfl (ev rfl) (ev rfl)) ?_
    simp only [Act.put, aa, ae, af]
    refine wpList_nil ?_
    go_upto_region 14 with fail
    refine wp_region_lit ?_
    refine ag rfl (ah rfl (ev rfl)) ?_
    simp only [Act.put, aa, ae, af]
    refine ag rfl (ak rfl (ev rfl) ed) ?_
    simp only [Act.put, aa, ae, af]
    refine ag rfl (au rfl (ev rfl) (ldClsA HA.out.f2)) ?_
    simp only [Act.put, aa, ae, af]
    refine am rfl (aq Tryz.call19 rfl (evc (ev rfl) (evc (ev rfl) evn))) ?_
    refine (HS.out.app a.CsA a.Csn a.Csc w.heap.size cl HJ.out (HCL.out.below HS.out.bel) HS.out.bel.size HCN.out).mono ?_
    rintro e w4 ⟨hk, an, E, x', rfl, hs, hc⟩
    have HS_ := Lib.hid hs
    have HA_ : Hid (Step14.At_ w4 bs a) := Lib.hid ((hk bs rfl).trans HA.out)
    clear HS HA hs hk
    have HS := HS_
    have HA := HA_
    clear HS_ HA_
    refine ⟨_, rfl, ?_⟩
    simp only [Act.put, aa, ae, af]
    refine ag rfl (ah rfl (ev rfl)) ?_
    simp only [Act.put, aa, ae, af]
    refine ag rfl (aB rfl (ev rfl) rfl) ?_
    simp only [Act.put, aa, ae, af]
    refine ag rfl (aB rfl (ev rfl) rfl) ?_
    simp only [Act.put, aa, ae, af]
    refine ag rfl (ar rfl (ev rfl)) ?_
    simp only [Act.put, aa, ae, af]
    refine ag rfl (ar rfl (ev rfl)) ?_
    simp only [Act.put, aa, ae, af]
    refine wpList_nil ?_
    rcases hc with rfl | ⟨rfl, rfl, hno⟩ | ⟨rfl, rfl, hsz, h8, hfr⟩
    ·
      go_upto_region 15 with fail
      refine wp_region_lit ?_
      refine ag rfl (ah rfl (ev rfl)) ?_
      simp only [Act.put, aa, ae, af]
      refine ag (v := .bool true) rfl (aE true rfl (ev rfl) evk rfl) ?_
      simp only [Act.put, aa, ae, af]
      refine wpList_nil ?_
      go_wp2_with fail
      go_roundw
      case rel => exact ⟨j + 1, _, by go_num, by omega, (HS.out).free_of fun _ e => e⟩
      case measure => simp [intOf]; omega
    ·
      go_upto_region 15 with fail
      refine wp_region_lit ?_
      refine ag rfl (ah rfl (ev rfl)) ?_
      simp only [Act.put, aa, ae, af]
      refine ag (v := .bool false) rfl (aE false rfl (ev rfl) evk rfl) ?_
      simp only [Act.put, aa, ae, af]
      refine wpList_nil ?_
      go_upto_region 16 with fail
      refine wp_region_lit ?_
      refine ag rfl (ak rfl (ev rfl) ed) ?_
      simp only [Act.put, aa, ae, af]
      refine ag rfl (au rfl (ev rfl) (ldClsA HA.out.f2)) ?_
      simp only [Act.put, aa, ae, af]
      refine ag rfl (bF Tryz.underlying34 rfl (ev rfl)) ?_
      simp only [Act.put, aa, ae, af]
      refine am rfl (aq Tryz.call33 rfl (evc (ev rfl) evn)) ?_
      refine (rsize (a.Csn : Int) _).mono ?_
      rintro e w' ⟨rfl, rfl⟩
      refine ⟨_, rfl, ?_⟩
      simp only [Act.put, aa, ae, af]
      refine ag rfl (ar rfl (ev rfl)) ?_
      simp only [Act.put, aa, ae, af]
      refine wpList_nil ?_
      by_cases hsz : dr (a.Csn : Int) ≤ x'.free
      · have HSZ : Hid (decide ((dr (a.Csn : Int) : Int) ≤ (x'.free : Int)) = true) := Lib.hid (decide_eq_true (by omega))
        have H8 : Hid (decide ((x'.nts.length : Int) < 8) = false) := Lib.hid (decide_eq_false (by omega))
        clear hno hsz
        go_upto_region 17 with fail
        refine wp_region_lit ?_
        refine ag rfl (ah rfl (ev rfl)) ?_
        simp only [Act.put, aa, ae, af]
        refine ag rfl (ah rfl (ev rfl)) ?_
        simp only [Act.put, aa, ae, af]
        refine ag (v := .bool true) rfl (eU true rfl (ev rfl) (ev rfl) HSZ.out) ?_
        simp only [Act.put, aa, ae, af]
        refine ag (v := .bool true) rfl (ah rfl (ev rfl)) ?_
        simp only [Act.put, aa, ae, af]
        refine aj (ai rfl rfl rfl rfl) (ah rfl (ev rfl)) ?_
        simp only [Act.put, aa, ae, af]
        refine aj (ai rfl rfl rfl rfl) (ah rfl (ev rfl)) ?_
        simp only [Act.put, aa, ae, af]
        refine aj (ai rfl rfl rfl rfl) (exec_sbU (a := x'.fst) (b := x'.nts.length) rfl (ev rfl) (ev rfl) (by have := HN.out; have := HJ.out; omega)) ?_
        simp only [Act.put, aa, ae, af]
        refine aj (v := .bool false) (ai rfl rfl rfl rfl) (bn false rfl (ev rfl) evk H8.out) ?_
        simp only [Act.put, aa, ae, af]
        refine ag (v := .bool false) rfl (aJ rfl (ev rfl) (ev rfl)) ?_
        simp only [Act.put, aa, ae, af]
        refine ag (v := .bool false) rfl (ar rfl (ev rfl)) ?_
        simp only [Act.put, aa, ae, af]
        refine wpList_nil ?_
        go_upto_region 18 with fail
        refine wp_region_lit ?_
        refine ag (v := .bool false) rfl (ah rfl (ev rfl)) ?_
        simp only [Act.put, aa, ae, af]
        refine ag rfl (ah rfl (ev rfl)) ?_
        simp only [Act.put, aa, ae, af]
        refine ag (v := .bool false) rfl (aE false rfl (ev rfl) evk rfl) ?_
        simp only [Act.put, aa, ae, af]
        refine ag (v := .bool false) rfl (exec_neBool false rfl (ev rfl) (ev rfl) rfl) ?_
        simp only [Act.put, aa, ae, af]
        refine ag (v := .bool false) rfl (ah rfl (ev rfl)) ?_
        simp only [Act.put, aa, ae, af]
        refine aj (v := .bool false) (ai rfl rfl rfl rfl) (ah rfl (ev rfl)) ?_
        simp only [Act.put, aa, ae, af]
        refine aj (v := .bool true) (ai rfl rfl rfl rfl) (aU false rfl (ev rfl)) ?_
        simp only [Act.put, aa, ae, af]
        refine aj (v := .bool true) (ai rfl rfl rfl rfl) (ah rfl (ev rfl)) ?_
        simp only [Act.put, aa, ae, af]
        refine aj (ai rfl rfl rfl rfl) (ah rfl (ev rfl)) ?_
        simp only [Act.put, aa, ae, af]
        refine aj (v := .bool false) (ai rfl rfl rfl rfl) (aZ false rfl (ev rfl) evk rfl) ?_
        simp only [Act.put, aa, ae, af]
        refine aj (v := .bool false) (ai rfl rfl rfl rfl) (aJ rfl (ev rfl) (ev rfl)) ?_
        simp only [Act.put, aa, ae, af]
        refine ag (v := .bool false) rfl (aH rfl (ev rfl) (ev rfl)) ?_
        simp only [Act.put, aa, ae, af]
        refine ag (v := .bool false) rfl (ah rfl (ev rfl)) ?_
        simp only [Act.put, aa, ae, af]
        refine aj (v := .bool false) (ai rfl rfl rfl rfl) (ah rfl (ev rfl)) ?_
        simp only [Act.put, aa, ae, af]
        refine aO 11 (v := .bool false) (ai rfl rfl rfl rfl) (ah rfl (ev rfl)) (by kernel_rfl) ?_
        simp only [bh, List.take_succ_cons, List.take_zero, List.drop_succ_cons, List.drop_zero, Act.put, List.setIfInBounds_toArray, List.set_cons_succ, List.set_cons_zero]
        refine aj (v := .bool false) (ai rfl rfl rfl rfl) (aH rfl (ev rfl) evk) ?_
        simp only [Act.put, aa, ae, af]
        refine ag (v := .bool false) rfl (aH rfl (ev rfl) (ev rfl)) ?_
        simp only [Act.put, aa, ae, af]
        refine ag (v := .bool false) rfl (ah rfl (ev rfl)) ?_
        simp only [Act.put, aa, ae, af]
        refine aj (v := .bool false) (ai rfl rfl rfl rfl) (ah rfl (ev rfl)) ?_
        simp only [Act.put, aa, ae, af]
        refine aj (v := .bool true) (ai rfl rfl rfl rfl) (aU false rfl (ev rfl)) ?_
        simp only [Act.put, aa, ae, af]
        refine aj (v := .bool true) (ai rfl rfl rfl rfl) (ah rfl (ev rfl)) ?_
        simp only [Act.put, aa, ae, af]
        refine aj (ai rfl rfl rfl rfl) (ah rfl (ev rfl)) ?_
        simp only [Act.put, aa, ae, af]
        refine am (ai rfl rfl rfl rfl) (aq Tryz.call31 rfl (evc (ev rfl) evn)) ?_
        refine HS.out.free.mono ?_
        rintro e w5 ⟨rfl, hb⟩
        have HS_ := Lib.hid (HS.out.below hb)
        have HA_ := Lib.hid (HA.out.below (HS.out.lt rfl) hb)
        clear HA
        have HA := HA_
        clear HA_
        clear HS hb
        have HS := HS_
        clear HS_
        refine ⟨_, rfl, ?_⟩
        simp only [Act.put, aa, ae, af]
        refine aj (ai rfl rfl rfl rfl) (ah rfl (ev rfl)) ?_
        simp only [Act.put, aa, ae, af]
        refine aj (v := .bool false) (ai rfl rfl rfl rfl) (aZ false rfl (ev rfl) (ev rfl) (bne_self_eq_false _)) ?_
        simp only [Act.put, aa, ae, af]
        refine aj (v := .bool false) (ai rfl rfl rfl rfl) (aJ rfl (ev rfl) (ev rfl)) ?_
        simp only [Act.put, aa, ae, af]
        refine ag (v := .bool false) rfl (aH rfl (ev rfl) (ev rfl)) ?_
        simp only [Act.put, aa, ae, af]
        refine wpList_nil ?_
        go_wp2_with fail
        go_roundw
        case rel => exact ⟨j + 1, _, by go_num, by omega, (HS.out).free_of fun _ e => e⟩
        case measure => simp [intOf]; omega
      · have HSZ : Hid (decide ((dr (a.Csn : Int) : Int) ≤ (x'.free : Int)) = false) := Lib.hid (decide_eq_false (by omega))
        clear hno hsz
        go_upto_region 17 with fail
        refine wp_region_lit ?_
        refine ag rfl (ah rfl (ev rfl)) ?_
        simp only [Act.put, aa, ae, af]
        refine ag rfl (ah rfl (ev rfl)) ?_
        simp only [Act.put, aa, ae, af]
        refine ag (v := .bool false) rfl (eU false rfl (ev rfl) (ev rfl) HSZ.out) ?_
        simp only [Act.put, aa, ae, af]
        refine aO 4 (v := .bool false) rfl (ah rfl (ev rfl)) (by kernel_rfl) ?_
        simp only [bh, List.take_succ_cons, List.take_zero, List.drop_succ_cons, List.drop_zero, Act.put, List.setIfInBounds_toArray, List.set_cons_succ, List.set_cons_zero]
        refine ag (v := .bool false) rfl (aH rfl (ev rfl) evk) ?_
        simp only [Act.put, aa, ae, af]
        refine ag (v := .bool false) rfl (ar rfl (ev rfl)) ?_
        simp only [Act.put, aa, ae, af]
        refine wpList_nil ?_
        go_upto_region 18 with fail
        refine wp_region_lit ?_
        refine ag (v := .bool false) rfl (ah rfl (ev rfl)) ?_
        simp only [Act.put, aa, ae, af]
        refine ag rfl (ah rfl (ev rfl)) ?_
        simp only [Act.put, aa, ae, af]
        refine ag (v := .bool false) rfl (aE false rfl (ev rfl) evk rfl) ?_
        simp only [Act.put, aa, ae, af]
        refine ag (v := .bool false) rfl (exec_neBool false rfl (ev rfl) (ev rfl) rfl) ?_
        simp only [Act.put, aa, ae, af]
        refine ag (v := .bool false) rfl (ah rfl (ev rfl)) ?_
        simp only [Act.put, aa, ae, af]
        refine aj (v := .bool false) (ai rfl rfl rfl rfl) (ah rfl (ev rfl)) ?_
        simp only [Act.put, aa, ae, af]
        refine aj (v := .bool true) (ai rfl rfl rfl rfl) (aU false rfl (ev rfl)) ?_
        simp only [Act.put, aa, ae, af]
        refine aj (v := .bool true) (ai rfl rfl rfl rfl) (ah rfl (ev rfl)) ?_
        simp only [Act.put, aa, ae, af]
        refine aj (ai rfl rfl rfl rfl) (ah rfl (ev rfl)) ?_
        simp only [Act.put, aa, ae, af]
        refine aj (v := .bool false) (ai rfl rfl rfl rfl) (aZ false rfl (ev rfl) evk rfl) ?_
        simp only [Act.put, aa, ae, af]
        refine aj (v := .bool false) (ai rfl rfl rfl rfl) (aJ rfl (ev rfl) (ev rfl)) ?_
        simp only [Act.put, aa, ae, af]
        refine ag (v := .bool false) rfl (aH rfl (ev rfl) (ev rfl)) ?_
        simp only [Act.put, aa, ae, af]
        refine ag (v := .bool false) rfl (ah rfl (ev rfl)) ?_
        simp only [Act.put, aa, ae, af]
        refine aj (v := .bool false) (ai rfl rfl rfl rfl) (ah rfl (ev rfl)) ?_
        simp only [Act.put, aa, ae, af]
        refine aO 11 (v := .bool false) (ai rfl rfl rfl rfl) (ah rfl (ev rfl)) (by kernel_rfl) ?_
        simp only [bh, List.take_succ_cons, List.take_zero, List.drop_succ_cons, List.drop_zero, Act.put, List.setIfInBounds_toArray, List.set_cons_succ, List.set_cons_zero]
        refine aj (v := .bool false) (ai rfl rfl rfl rfl) (aH rfl (ev rfl) evk) ?_
        simp only [Act.put, aa, ae, af]
        refine ag (v := .bool false) rfl (aH rfl (ev rfl) (ev rfl)) ?_
        simp only [Act.put, aa, ae, af]
        refine ag (v := .bool false) rfl (ah rfl (ev rfl)) ?_
        simp only [Act.put, aa, ae, af]
        refine aj (v := .bool false) (ai rfl rfl rfl rfl) (ah rfl (ev rfl)) ?_
        simp only [Act.put, aa, ae, af]
        refine aj (v := .bool true) (ai rfl rfl rfl rfl) (aU false rfl (ev rfl)) ?_
        simp only [Act.put, aa, ae, af]
        refine aj (v := .bool true) (ai rfl rfl rfl rfl) (ah rfl (ev rfl)) ?_
        simp only [Act.put, aa, ae, af]
        refine aj (ai rfl rfl rfl rfl) (ah rfl (ev rfl)) ?_
        simp only [Act.put, aa, ae, af]
        refine am (ai rfl rfl rfl rfl) (aq Tryz.call31 rfl (evc (ev rfl) evn)) ?_
        refine HS.out.free.mono ?_
        rintro e w5 ⟨rfl, hb⟩
        have HS_ := Lib.hid (HS.out.below hb)
        have HA_ := Lib.hid (HA.out.below (HS.out.lt rfl) hb)
        clear HA
        have HA := HA_
        clear HA_
        clear HS hb
        have HS := HS_
        clear HS_
        refine ⟨_, rfl, ?_⟩
        simp only [Act.put, aa, ae, af]
        refine aj (ai rfl rfl rfl rfl) (ah rfl (ev rfl)) ?_
        simp only [Act.put, aa, ae, af]
        refine aj (v := .bool false) (ai rfl rfl rfl rfl) (aZ false rfl (ev rfl) (ev rfl) (bne_self_eq_false _)) ?_
        simp only [Act.put, aa, ae, af]
        refine aj (v := .bool false) (ai rfl rfl rfl rfl) (aJ rfl (ev rfl) (ev rfl)) ?_
        simp only [Act.put, aa, ae, af]
        refine ag (v := .bool false) rfl (aH rfl (ev rfl) (ev rfl)) ?_
        simp only [Act.put, aa, ae, af]
        refine wpList_nil ?_
        go_wp2_with fail
        go_roundw
        case rel => exact ⟨j + 1, _, by go_num, by omega, (HS.out).free_of fun _ e => e⟩
        case measure => simp [intOf]; omega
    ·
      go_upto_region 15 with fail
      refine wp_region_lit ?_
      refine ag rfl (ah rfl (ev rfl)) ?_
      simp only [Act.put, aa, ae, af]
      refine ag (v := .bool false) rfl (aE false rfl (ev rfl) evk rfl) ?_
      simp only [Act.put, aa, ae, af]
      refine wpList_nil ?_
      go_upto_region 16 with fail
      refine wp_region_lit ?_
      refine ag rfl (ak rfl (ev rfl) ed) ?_
      simp only [Act.put, aa, ae, af]
      refine ag rfl (au rfl (ev rfl) (ldClsA HA.out.f2)) ?_
      simp only [Act.put, aa, ae, af]
      refine ag rfl (bF Tryz.underlying34 rfl (ev rfl)) ?_
      simp only [Act.put, aa, ae, af]
      refine am rfl (aq Tryz.call33 rfl (evc (ev rfl) evn)) ?_
      refine (rsize (a.Csn : Int) _).mono ?_
      rintro e w' ⟨rfl, rfl⟩
      refine ⟨_, rfl, ?_⟩
      simp only [Act.put, aa, ae, af]
      refine ag rfl (ar rfl (ev rfl)) ?_
      simp only [Act.put, aa, ae, af]
      refine wpList_nil ?_
      have HSZ : Hid (decide ((dr (a.Csn : Int) : Int) ≤ (x.free : Int)) = true) := Lib.hid (decide_eq_true (by omega))
      have H8 : Hid (decide ((x.nts.length : Int) < 8) = true) := Lib.hid (decide_eq_true (by omega))
      have HSU : Hid (IntKind.i64.wrap ((x.free : Int) - (dr (a.Csn : Int) : Int)) = ((x.free - dr (a.Csn : Int) : Nat) : Int)) := Lib.hid (by rw [i64w ⟨by omega, by have := HN.out; omega⟩]; omega)
      have HFR : Hid (((x'.free : Int) != ((x.free - dr (a.Csn : Int) : Nat) : Int)) = false) := Lib.hid (by rw [hfr]; exact bne_self_eq_false _)
      clear hsz h8 hfr
      go_upto_region 17 with fail
      refine wp_region_lit ?_
      refine ag rfl (ah rfl (ev rfl)) ?_
      simp only [Act.put, aa, ae, af]
      refine ag rfl (ah rfl (ev rfl)) ?_
      simp only [Act.put, aa, ae, af]
      refine ag (v := .bool true) rfl (eU true rfl (ev rfl) (ev rfl) HSZ.out) ?_
      simp only [Act.put, aa, ae, af]
      refine ag (v := .bool true) rfl (ah rfl (ev rfl)) ?_
      simp only [Act.put, aa, ae, af]
      refine aj (ai rfl rfl rfl rfl) (ah rfl (ev rfl)) ?_
      simp only [Act.put, aa, ae, af]
      refine aj (ai rfl rfl rfl rfl) (ah rfl (ev rfl)) ?_
      simp only [Act.put, aa, ae, af]
      refine aj (ai rfl rfl rfl rfl) (exec_sbU (a := x.fst) (b := x.nts.length) rfl (ev rfl) (ev rfl) (by have := HN.out; have := HJ.out; omega)) ?_
      simp only [Act.put, aa, ae, af]
      refine aj (v := .bool true) (ai rfl rfl rfl rfl) (bn true rfl (ev rfl) evk H8.out) ?_
      simp only [Act.put, aa, ae, af]
      refine ag (v := .bool true) rfl (aJ rfl (ev rfl) (ev rfl)) ?_
      simp only [Act.put, aa, ae, af]
      refine ag (v := .bool true) rfl (ar rfl (ev rfl)) ?_
      simp only [Act.put, aa, ae, af]
      refine wpList_nil ?_
      go_upto_region 18 with fail
      refine wp_region_lit ?_
      refine ag (v := .bool true) rfl (ah rfl (ev rfl)) ?_
      simp only [Act.put, aa, ae, af]
      refine ag rfl (ah rfl (ev rfl)) ?_
      simp only [Act.put, aa, ae, af]
      refine ag (v := .bool true) rfl (aE true rfl (ev rfl) evk rfl) ?_
      simp only [Act.put, aa, ae, af]
      refine ag (v := .bool false) rfl (exec_neBool false rfl (ev rfl) (ev rfl) rfl) ?_
      simp only [Act.put, aa, ae, af]
      refine ag (v := .bool false) rfl (ah rfl (ev rfl)) ?_
      simp only [Act.put, aa, ae, af]
      refine aj (v := .bool true) (ai rfl rfl rfl rfl) (ah rfl (ev rfl)) ?_
      simp only [Act.put, aa, ae, af]
      refine aj (v := .bool false) (ai rfl rfl rfl rfl) (aU true rfl (ev rfl)) ?_
      simp only [Act.put, aa, ae, af]
      refine aO 2 (v := .bool false) (ai rfl rfl rfl rfl) (ah rfl (ev rfl)) (by kernel_rfl) ?_
      simp only [bh, List.take_succ_cons, List.take_zero, List.drop_succ_cons, List.drop_zero, Act.put, List.setIfInBounds_toArray, List.set_cons_succ, List.set_cons_zero]
      refine aj (v := .bool false) (ai rfl rfl rfl rfl) (aH rfl (ev rfl) evk) ?_
      simp only [Act.put, aa, ae, af]
      refine ag (v := .bool false) rfl (aH rfl (ev rfl) (ev rfl)) ?_
      simp only [Act.put, aa, ae, af]
      refine ag (v := .bool false) rfl (ah rfl (ev rfl)) ?_
      simp only [Act.put, aa, ae, af]
      refine aj (v := .bool true) (ai rfl rfl rfl rfl) (ah rfl (ev rfl)) ?_
      simp only [Act.put, aa, ae, af]
      refine aj (v := .bool true) (ai rfl rfl rfl rfl) (ah rfl (ev rfl)) ?_
      simp only [Act.put, aa, ae, af]
      refine aj (ai rfl rfl rfl rfl) (ah rfl (ev rfl)) ?_
      simp only [Act.put, aa, ae, af]
      refine aj (ai rfl rfl rfl rfl) (ah rfl (ev rfl)) ?_
      simp only [Act.put, aa, ae, af]
      refine aj (v := .bool false) (ai rfl rfl rfl rfl) (aZ false rfl (ev rfl) (ev rfl) (bne_self_eq_false _)) ?_
      simp only [Act.put, aa, ae, af]
      refine aj (v := .bool false) (ai rfl rfl rfl rfl) (ah rfl (ev rfl)) ?_
      simp only [Act.put, aa, ae, af]
      refine aj (ai rfl rfl rfl rfl) (ah rfl (ev rfl)) ?_
      simp only [Act.put, aa, ae, af]
      refine am (ai rfl rfl rfl rfl) (aq Tryz.call31 rfl (evc (ev rfl) evn)) ?_
      refine HS.out.free.mono ?_
      rintro e w5 ⟨rfl, hb⟩
      have HS_ := Lib.hid (HS.out.below hb)
      have HA_ := Lib.hid (HA.out.below (HS.out.lt rfl) hb)
      clear HA
      have HA := HA_
      clear HA_
      clear HS hb
      have HS := HS_
      clear HS_
      refine ⟨_, rfl, ?_⟩
      simp only [Act.put, aa, ae, af]
      refine aj (ai rfl rfl rfl rfl) (ah rfl (ev rfl)) ?_
      simp only [Act.put, aa, ae, af]
      refine aj (ai rfl rfl rfl rfl) (ah rfl (ev rfl)) ?_
      simp only [Act.put, aa, ae, af]
      refine aj (ai rfl rfl rfl rfl) (exec_sub rfl (ev rfl) (ev rfl) HSU.out) ?_
      simp only [Act.put, aa, ae, af]
      refine aj (v := .bool false) (ai rfl rfl rfl rfl) (aZ false rfl (ev rfl) (ev rfl) HFR.out) ?_
      simp only [Act.put, aa, ae, af]
      refine aj (v := .bool false) (ai rfl rfl rfl rfl) (aH rfl (ev rfl) (ev rfl)) ?_
      simp only [Act.put, aa, ae, af]
      refine aj (v := .bool false) (ai rfl rfl rfl rfl) (aJ rfl (ev rfl) (ev rfl)) ?_
      simp only [Act.put, aa, ae, af]
      refine ag (v := .bool false) rfl (aH rfl (ev rfl) (ev rfl)) ?_
      simp only [Act.put, aa, ae, af]
      refine ag (v := .bool false) rfl (ah rfl (ev rfl)) ?_
      simp only [Act.put, aa, ae, af]
      refine aj (v := .bool true) (ai rfl rfl rfl rfl) (ah rfl (ev rfl)) ?_
      simp only [Act.put, aa, ae, af]
      refine aj (v := .bool false) (ai rfl rfl rfl rfl) (aU true rfl (ev rfl)) ?_
      simp only [Act.put, aa, ae, af]
      refine aO 4 (v := .bool false) (ai rfl rfl rfl rfl) (ah rfl (ev rfl)) (by kernel_rfl) ?_
      simp only [bh, List.take_succ_cons, List.take_zero, List.drop_succ_cons, List.drop_zero, Act.put, List.setIfInBounds_toArray, List.set_cons_succ, List.set_cons_zero]
      refine aj (v := .bool false) (ai rfl rfl rfl rfl) (aH rfl (ev rfl) evk) ?_
      simp only [Act.put, aa, ae, af]
      refine ag (v := .bool false) rfl (aH rfl (ev rfl) (ev rfl)) ?_
      simp only [Act.put, aa, ae, af]
      refine wpList_nil ?_
      go_wp2_with fail
      go_roundw
      case rel => exact ⟨j + 1, _, by go_num, by omega, (HS.out).free_of fun _ e => e⟩
      case measure => simp [intOf]; omega
end Go.Proofs.YtcafafdimcecpaaGreatDoor
