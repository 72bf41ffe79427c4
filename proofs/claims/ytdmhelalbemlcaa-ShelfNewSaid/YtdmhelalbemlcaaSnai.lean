import Derived.Test.YtdmhelalbemlcaaSnah
import Derived.Test.YtdmhelalbemlcaaSnac
import Derived.Test.YtdmhelalbemlcaaSnZ
namespace Go.Proofs.Ytdmhelalbemlcaa
open Go.RowKit
set_option linter.unusedVariables false
set_option linter.unusedSimpArgs false
set_option maxRecDepth 100000
section
variable {w : World} {t lp mp K : Nat} {FL : Nat → Prop} {m : Nat → Option Nat} {r : Int} {s : ShS}
theorem wf_nat {n : Nat} (h : n < 64) : (Lit.int .i64 (n : Int)).wf = true := by
  have h1 : (-9223372036854775808 : Int) ≤ (n : Int) := by omega
  have h2 : (n : Int) ≤ 9223372036854775807 := by omega
  have e1 : IntKind.i64.min = -9223372036854775808 := by decide
  have e2 : IntKind.i64.max = 9223372036854775807 := by decide
  show (decide (IntKind.i64.min ≤ (n : Int)) && decide ((n : Int) ≤ IntKind.i64.max)) = true
  rw [e1, e2, decide_eq_true h1, decide_eq_true h2]
  rfl
set_option maxHeartbeats 4000000 in
theorem ps_Dirty (h : PRu w t lp mp FL (kyL s.dty s.o) s.o.length m s.ln s.N s.T s.room r) (hok : ShOk s) : Calls Try.prog 13 #[.pointer (some ⟨t, 0, none⟩)] w fun e w' => ∃ v, e = .returned v ∧ ax aH w' w.heap.size v s.aW ∧ Below w.heap.size w w' := by
  have HH := Lib.hid h
  have HSD : Hid ((drtO s.dty s.o).mergeSort (fun x y => decide (x ≤ y)) = s.aW) := Lib.hid (sort_dirty hok)
  have HPN : Hid (∀ n : Nat, pndK (n : Int) (kyL s.dty s.o) = s.dty n) := Lib.hid (pnd_kyL hok)
  have H64 : Hid (s.o.length ≤ 64) := Lib.hid (by have := hok.len; have := hok.r64; omega)
  have HLT : Hid (∀ n ∈ s.o, n < 64) := Lib.hid fun n hn => by have := hok.lt n hn; have := hok.t64; omega
  clear h hok
  go_enter Try.func13, Try.ntmps13
  go_upto_region 2 with fail
  refine wp_region_lit ?_
  refine af rfl (ah rfl (ev rfl)) ?_
  simp only [Act.put, aa, ac, ae]
  refine aj rfl (ar Try.call19 rfl (evc (ev rfl) evn)) ?_
  refine (ps_Stripes HH.out).mono ?_
  rintro e w1 ⟨v1, rfl, m1, b1⟩
  rw [kyL_key] at m1
  obtain ⟨A1, c1, rfl, m1r, _, _⟩ := m1.open_ (n := s.o.length) (List.length_map _)
  have HM1 := Lib.hid m1
  have HB1 := Lib.hid b1
  have HH1 := Lib.hid (HH.out.below b1)
  clear m1 b1 m1r
  refine ⟨_, rfl, ?_⟩
  simp only [Act.put, aa, ac, ae]
  refine af rfl (br aH rfl (ev rfl)) ?_
  simp only [Act.put, aa, ac, ae]
  refine af rfl (ah rfl evk) ?_
  simp only [Act.put, aa, ac, ae]
  refine wpList_nil ?_
  go_wp2_with fail
  go_loopw [3, 5, 9] (fun z u c wr => ∃ i : Nat, c = .int .i64 i ∧ i ≤ s.o.length ∧ ax aH wr w1.heap.size z (drtO s.dty (s.o.take i)) ∧ Below w1.heap.size w1 wr) (fun _ _ c _ => s.o.length - (intOf c).toNat)
  case atStart => exact ⟨0, by go_num, Nat.zero_le _, ax.nil _ _, Below.refl _ _⟩
  case round =>
    obtain ⟨i, rfl, hi, hm, hb⟩ := hrel
    have HM := Lib.hid hm
    have HW := Lib.hid hb
    have HHr := Lib.hid (HH1.out.below hb)
    have HRr := Lib.hid (HM1.out.below hb)
    clear hm hb
    by_cases hlt : i < s.o.length
    · have HI := Lib.hid hlt
      have HT : Hid (decide ((i : Int) < (s.o.length : Int)) = true) := Lib.hid (decide_eq_true (by omega))
      have HA : Hid (IntKind.i64.wrap ((i : Int) + 1) = ((i + 1 : Nat) : Int)) := Lib.hid (by have := H64.out; rw [i64q_ ⟨by omega, by omega⟩]; omega)
      have hrd := HRr.out.rd
      obtain ⟨b, off, hAe, _, hc⟩ := hrd.int hlt
      subst hAe
      rw [getD_map (fun n : Nat => (n : Int)) s.o 0 0 hlt] at hc
      obtain ⟨n, hn⟩ : ∃ n, s.o.getD i 0 = n := ⟨_, rfl⟩
      have hmem : n ∈ s.o := by rw [← hn]; exact aK hlt
      rw [hn] at hc
      have HC := Lib.hid hc
      have HNI := Lib.hid hn
      have HWF := Lib.hid (wf_nat (HLT.out n hmem))
      clear hi hlt hrd hc hn hmem
      go_upto_region 3 with fail
      refine wp_region_lit ?_
      refine af (v := .bool true) rfl (aC true rfl (ev rfl) (ev rfl) HT.out) ?_
      simp only [Act.put, aa, ac, ae]
      refine wpList_nil ?_
      go_upto_region 4 with fail
      refine wp_region_lit ?_
      refine af rfl (bg (E := aH) rfl (ev rfl) (ev rfl) HI.out) ?_
      simp only [Act.put, aa, ac, ae]
      refine af rfl (aq rfl (ev rfl) (bn (by rw [show i * aH.n = i from Nat.mul_one i]; exact HC.out))) ?_
      simp only [Act.put, aa, ac, ae]
      refine af rfl (al rfl (ev rfl)) ?_
      simp only [Act.put, aa, ac, ae]
      refine wpList_nil ?_
      cases hd : s.dty n
      · have HD := Lib.hid hd
        have HST : Hid (drtO s.dty (s.o.take (i + 1)) = drtO s.dty (s.o.take i)) := Lib.hid (by rw [drtO_snoc (b := false) HI.out (by rw [HNI.out]; exact hd)]; simp)
        clear hd
        go_upto_region 5 with fail
        refine wp_region_lit ?_
        refine af rfl (ah rfl (ev rfl)) ?_
        simp only [Act.put, aa, ac, ae]
        refine af rfl (ao rfl (ev rfl)) ?_
        simp only [Act.put, aa, ac, ae]
        refine af rfl (ai rfl (ev rfl) faSq1) ?_
        simp only [Act.put, aa, ac, ae]
        refine af rfl (aq rfl (ev rfl) (ldLl (PRu.c3 HHr.out))) ?_
        simp only [Act.put, aa, ac, ae]
        refine af rfl (ah rfl (ev rfl)) ?_
        simp only [Act.put, aa, ac, ae]
        refine aj rfl (ar Try.call20 rfl (evc (ev rfl) (evc (ev rfl) evn))) ?_
        refine (pl_pinnedF wr HHr.out.li HWF.out).mono ?_
        rintro e w5 ⟨rfl, rfl⟩
        rw [HPN.out, HD.out]
        refine ⟨_, rfl, ?_⟩
        simp only [Act.put, aa, ac, ae]
        refine wpList_nil ?_
        go_upto_region 7 with fail
        refine wp_region_lit ?_
        refine af rfl (bf rfl (ev rfl) evk HA.out) ?_
        simp only [Act.put, aa, ac, ae]
        refine af rfl (ah rfl (ev rfl)) ?_
        simp only [Act.put, aa, ac, ae]
        refine wpList_nil ?_
        go_wp2_with fail
        go_roundw
        case rel => exact ⟨i + 1, by go_num, HI.out, by rw [HST.out]; exact HM.out, HW.out⟩
        case measure => have := HI.out; simp [intOf]; omega
      have HD := Lib.hid hd
      have HST : Hid (drtO s.dty (s.o.take (i + 1)) = drtO s.dty (s.o.take i) ++ [(n : Int)]) := Lib.hid (by rw [drtO_snoc (b := true) HI.out (by rw [HNI.out]; exact hd), HNI.out]; rfl)
      clear hd
      go_upto_region 5 with fail
      refine wp_region_lit ?_
      refine af rfl (ah rfl (ev rfl)) ?_
      simp only [Act.put, aa, ac, ae]
      refine af rfl (ao rfl (ev rfl)) ?_
      simp only [Act.put, aa, ac, ae]
      refine af rfl (ai rfl (ev rfl) faSq1) ?_
      simp only [Act.put, aa, ac, ae]
      refine af rfl (aq rfl (ev rfl) (ldLl (PRu.c3 HHr.out))) ?_
      simp only [Act.put, aa, ac, ae]
      refine af rfl (ah rfl (ev rfl)) ?_
      simp only [Act.put, aa, ac, ae]
      refine aj rfl (ar Try.call20 rfl (evc (ev rfl) (evc (ev rfl) evn))) ?_
      refine (pl_pinnedF wr HHr.out.li HWF.out).mono ?_
      rintro e w5 ⟨rfl, rfl⟩
      rw [HPN.out, HD.out]
      refine ⟨_, rfl, ?_⟩
      simp only [Act.put, aa, ac, ae]
      refine wpList_nil ?_
      have HBS : Hid (w1.heap.size ≤ wr.heap.size) := Lib.hid HW.out.size
      have hsz : (wr.alloc (.cells #[.int .i64 (n : Int)] 3)).heap.size = wr.heap.size + 1 := World.size_alloc ..
      obtain ⟨v2, w2, hrun, hm2, hg2⟩ := run_appE aH (wr.alloc (.cells #[.int .i64 (n : Int)] 3)) 41 w1.heap.size (wr.heap.size + 1) 1 1 u3 (drtO s.dty (s.o.take i)) [(n : Int)] (some ⟨wr.heap.size, 0, none⟩) (ax.below HM.out ((Below.refl _ _).alloc (Nat.le_refl _) _)) (rdE_new (E := aH) (l := [(n : Int)]) wr #[.int .i64 (n : Int)] 3 rfl) (by have := HBS.out; omega) (by have := drtO_len s.dty (s.o.take i); rw [List.length_take] at this; have := H64.out; simp; omega)
      have HRUN := Lib.hid hrun
      have HM2 : Hid (ax aH w2 w1.heap.size v2 (drtO s.dty (s.o.take (i + 1)))) := Lib.hid (by rw [HST.out]; exact hm2)
      have HW2 : Hid (Below w1.heap.size w1 w2) := Lib.hid ((HW.out.trans ((Below.refl _ _).alloc HBS.out _)).grown hg2 (by have := HBS.out; omega) (fun j' hj' => HM.out.lt_own j' hj'))
      clear hsz hrun hm2 hg2
      go_upto_region 6 with fail
      refine wp_region_lit ?_
      refine af rfl (ah rfl (ev rfl)) ?_
      simp only [Act.put, aa, ac, ae]
      refine af rfl (ah rfl (ev rfl)) ?_
      simp only [Act.put, aa, ac, ae]
      refine af rfl (exec_mk1E (E := aH) (a := (n : Int)) rfl (ev rfl) rfl (by decide)) ?_
      simp only [Act.put, aa, ac, ae]
      refine af rfl (exec_appE (E := aH) rfl (ev rfl) (ev rfl) HRUN.out) ?_
      simp only [Act.put, aa, ac, ae]
      refine af rfl (al rfl (ev rfl)) ?_
      simp only [Act.put, aa, ac, ae]
      refine wpList_nil ?_
      go_upto_region 7 with fail
      refine wp_region_lit ?_
      refine af rfl (bf rfl (ev rfl) evk HA.out) ?_
      simp only [Act.put, aa, ac, ae]
      refine af rfl (ah rfl (ev rfl)) ?_
      simp only [Act.put, aa, ac, ae]
      refine wpList_nil ?_
      go_wp2_with fail
      go_roundw
      case rel => exact ⟨i + 1, by go_num, HI.out, HM2.out, HW2.out⟩
      case measure => have := HI.out; simp [intOf]; omega
    have hin : i = s.o.length := by omega
    have HT : Hid (decide ((i : Int) < (s.o.length : Int)) = false) := Lib.hid (decide_eq_false (by omega))
    have HIN := Lib.hid hin
    have HMF : Hid (ax aH wr w1.heap.size u3 (drtO s.dty s.o)) := Lib.hid (by have := HM.out; rw [hin, List.take_length] at this; exact this)
    have HL4 : Hid ((drtO s.dty s.o).length < 4611686018427387904) := Lib.hid (by have := drtO_len s.dty s.o; have := H64.out; omega)
    clear hlt hi hin
    go_upto_region 3 with fail
    refine wp_region_lit ?_
    refine af (v := .bool false) rfl (aC false rfl (ev rfl) (ev rfl) HT.out) ?_
    simp only [Act.put, aa, ac, ae]
    refine wpList_nil ?_
    go_upto_region 8 with fail
    refine wp_region_lit ?_
    refine af rfl (ah rfl (ev rfl)) ?_
    simp only [Act.put, aa, ac, ae]
    refine aj rfl (ar Try.call21 rfl (evc (ev rfl) evn)) ?_
    refine (sort_any HMF.out HW.out.size HL4.out).mono ?_
    rintro e w2 ⟨rfl, m2, b2⟩
    rw [HSD.out] at m2
    have HM2 := Lib.hid (m2.base HB1.out.size)
    have HB2 := Lib.hid ((HB1.out.trans ((HW.out.trans b2).mono HB1.out.size)))
    clear m2 b2
    refine ⟨_, rfl, ?_⟩
    simp only [Act.put, aa, ac, ae]
    refine wpList_nil ?_
    go_upto_region 9 with fail
    refine wp_region_lit ?_
    refine af rfl (ah rfl (ev rfl)) ?_
    simp only [Act.put, aa, ac, ae]
    refine af rfl (al rfl (ev rfl)) ?_
    simp only [Act.put, aa, ac, ae]
    refine wpList_nil ?_
    go_wp2_with fail
    go_ret
    exact ⟨_, rfl, HM2.out, HB2.out⟩
def fsP (s : ShS) (l : List Int) : Nat := l.foldl (fun a j => minF a (s.a7 j.toNat).f) 0
theorem frsK_fsP (s : ShS) (k : Nat) : frsK s k = fsP s (dtyK s.dty k) := by
  induction k with
  | zero => rfl
  | succ k ih =>
    rw [frsK, dtyK, ih]
    cases h : s.dty k
    · simp
    · simp [fsP, List.foldl_append]
theorem fsP_snoc {s : ShS} {l : List Int} {i : Nat} (h : i < l.length) : fsP s (l.take (i + 1)) = minF (fsP s (l.take i)) (s.a7 (l.getD i 0).toNat).f := by
  unfold fsP
  rw [List.take_add_one, List.getElem?_eq_getElem h, List.foldl_append, List.getD, List.getElem?_eq_getElem h]
  rfl
set_option maxHeartbeats 4000000 in
theorem ps_First (h : PRu w t lp mp FL (kyL s.dty s.o) s.o.length m s.ln s.N s.T s.room r) (hok : ShOk s) : Calls Try.prog 14 #[.pointer (some ⟨t, 0, none⟩)] w fun e w' => e = .returned (.int .u64 (s.first : Int)) ∧ Below w.heap.size w w' := by
  have HH := Lib.hid h
  have HOK := Lib.hid hok
  have HFR : Hid (s.first = fsP s s.aW) := Lib.hid (frsK_fsP s s.T)
  have H64 : Hid (s.T ≤ 64) := Lib.hid hok.t64
  clear h hok
  go_enter Try.func14, Try.ntmps14
  go_upto_region 2 with fail
  refine wp_region_lit ?_
  refine af rfl (ah rfl (ev rfl)) ?_
  simp only [Act.put, aa, ac, ae]
  refine aj rfl (ar Try.call13 rfl (evc (ev rfl) evn)) ?_
  refine (ps_Dirty HH.out HOK.out).mono ?_
  rintro e w1 ⟨v, rfl, m1, b1⟩
  obtain ⟨A1, c1, rfl, _, _⟩ := m1.form
  have HL : Hid (s.aW.length ≤ 64) := Lib.hid (Nat.le_trans (dtyK_len _ _) H64.out)
  have HM1 := Lib.hid m1
  have HB1 := Lib.hid b1
  have HH1 := Lib.hid (HH.out.below b1)
  clear m1 b1
  refine ⟨_, rfl, ?_⟩
  simp only [Act.put, aa, ac, ae]
  refine af rfl (br aH rfl (ev rfl)) ?_
  simp only [Act.put, aa, ac, ae]
  refine af rfl (ah rfl evk) ?_
  simp only [Act.put, aa, ac, ae]
  refine wpList_nil ?_
  obtain ⟨D, hD⟩ : ∃ D, s.aW = D := ⟨_, rfl⟩
  have HMEM : Hid (∀ i, i < D.length → ∃ j : Nat, D.getD i 0 = (j : Int) ∧ j < s.T ∧ s.dty j = true) := Lib.hid (fun i hi => by
    have hm : D.getD i 0 ∈ s.aW := by rw [hD, List.getD, List.getElem?_eq_getElem hi]; exact List.getElem_mem hi
    exact dtyK_mem.1 hm)
  rw [hD] at HFR HL HM1 ⊢
  clear hD
  go_wp2_with fail
  go_loopw [3, 5, 6, 10] (fun z u v c wr => ∃ i : Nat, c = .int .i64 i ∧ i ≤ D.length ∧ z = .int .u64 (fsP s (D.take i) : Nat) ∧ Below w1.heap.size w1 wr) (fun _ _ _ c _ => D.length - (intOf c).toNat)
  case atStart => exact ⟨0, by go_num, Nat.zero_le _, rfl, Below.refl _ _⟩
  case round =>
    obtain ⟨i, rfl, hi, rfl, hb⟩ := hrel
    have HHr := Lib.hid (HH1.out.below hb)
    have HMr := Lib.hid (ax.below HM1.out hb)
    have HWr := Lib.hid hb
    clear hb
    by_cases hlt : i < D.length
    · have HI := Lib.hid hlt
      have HT : Hid (decide ((i : Int) < (D.length : Int)) = true) := Lib.hid (decide_eq_true (by omega))
      have HA : Hid (IntKind.i64.wrap ((i : Int) + 1) = ((i + 1 : Nat) : Int)) := Lib.hid (by have := HL.out; rw [i64q_ ⟨by omega, by omega⟩]; omega)
      obtain ⟨j, hj, hjT, hjd⟩ := HMEM.out i hlt
      obtain ⟨b, off, hA, _, hc⟩ := HMr.out.rd.int (k := i) hlt
      rw [hj] at hc
      subst hA
      have HC := Lib.hid hc
      obtain ⟨y, hy⟩ := Option.isSome_iff_exists.1 (bF hjd)
      have hl := HHr.out.ln j
      rw [hy] at hl
      obtain ⟨a, ha, hln, hlo⟩ := hl.some_
      have hlk := HHr.out.map.lookL (k := (j : Int)) (wf_nat (by have := H64.out; omega))
      rw [show mLn m (j : Int) = some a from by unfold mLn; rw [if_pos (by omega), Int.toNat_natCast, ha]] at hlk
      have HK := Lib.hid hlk
      have HLN := Lib.hid hln
      have HSN : Hid (fsP s (D.take (i + 1)) = minF (fsP s (D.take i)) y.f) := Lib.hid (by rw [fsP_snoc hlt, hj, Int.toNat_natCast, bG hy])
      have HFB : Hid (y.f < 18446744073709551616) := Lib.hid hlo.fb
      obtain ⟨f0, hf0⟩ : ∃ f0, fsP s (D.take i) = f0 := ⟨_, rfl⟩
      rw [hf0] at HSN ⊢
      clear hi hlt hj hjT hjd hc hy hl ha hln hlo hlk hf0
      go_upto_region 3 with fail
      refine wp_region_lit ?_
      refine af (v := .bool true) rfl (aC true rfl (ev rfl) (ev rfl) HT.out) ?_
      simp only [Act.put, aa, ac, ae]
      refine wpList_nil ?_
      go_upto_region 4 with fail
      refine wp_region_lit ?_
      refine af rfl (bg (E := aH) rfl (ev rfl) (ev rfl) HI.out) ?_
      simp only [Act.put, aa, ac, ae]
      refine af rfl (aq rfl (ev rfl) (bn (by rw [show i * aH.n = i from Nat.mul_one i]; exact HC.out))) ?_
      simp only [Act.put, aa, ac, ae]
      refine af rfl (al rfl (ev rfl)) ?_
      simp only [Act.put, aa, ac, ae]
      refine wpList_nil ?_
      go_upto_region 5 with fail
      refine wp_region_lit ?_
      refine af rfl (ah rfl (ev rfl)) ?_
      simp only [Act.put, aa, ac, ae]
      refine af rfl (ao rfl (ev rfl)) ?_
      simp only [Act.put, aa, ac, ae]
      refine af rfl (ai rfl (ev rfl) faSq2) ?_
      simp only [Act.put, aa, ac, ae]
      refine af rfl (aq rfl (ev rfl) (ldMl (PRu.c4 HHr.out))) ?_
      simp only [Act.put, aa, ac, ae]
      refine af rfl (ah rfl (ev rfl)) ?_
      simp only [Act.put, aa, ac, ae]
      refine af rfl (aZ rfl (ev rfl) (ev rfl) HK.out) ?_
      simp only [Act.put, aa, ac, ae]
      refine aj rfl (ar Try.call22 rfl (evc (ev rfl) evn)) ?_
      refine (pl_first wr HLN.out).mono ?_
      rintro e w5 ⟨rfl, rfl⟩
      refine ⟨_, rfl, ?_⟩
      simp only [Act.put, aa, ac, ae]
      refine af rfl (al rfl (ev rfl)) ?_
      simp only [Act.put, aa, ac, ae]
      refine wpList_nil ?_
      by_cases hz : f0 = 0
      · have HZ : Hid (((f0 : Int) == 0) = true) := Lib.hid (by rw [hz]; rfl)
        have HM : Hid (fsP s (D.take (i + 1)) = y.f) := Lib.hid (by rw [HSN.out]; exact if_pos (.inl hz))
        clear hz
        go_upto_region 6 with fail
        refine wp_region_lit ?_
        refine af rfl (ah rfl (ev rfl)) ?_
        simp only [Act.put, aa, ac, ae]
        refine af (v := .bool true) rfl (ay true rfl (ev rfl) evk HZ.out) ?_
        simp only [Act.put, aa, ac, ae]
        refine bu 3 (v := .bool true) rfl (ah rfl (ev rfl)) (by kernel_rfl) ?_
        simp only [bO, List.take_succ_cons, List.take_zero, List.drop_succ_cons, List.drop_zero, Act.put, List.setIfInBounds_toArray, List.set_cons_succ, List.set_cons_zero]
        refine af (v := .bool true) rfl (aY rfl (ev rfl) evk) ?_
        simp only [Act.put, aa, ac, ae]
        refine wpList_nil ?_
        go_upto_region 7 with fail
        refine wp_region_lit ?_
        refine af rfl (ah rfl (ev rfl)) ?_
        simp only [Act.put, aa, ac, ae]
        refine af rfl (al rfl (ev rfl)) ?_
        simp only [Act.put, aa, ac, ae]
        refine wpList_nil ?_
        go_upto_region 8 with fail
        refine wp_region_lit ?_
        refine af rfl (bf rfl (ev rfl) evk HA.out) ?_
        simp only [Act.put, aa, ac, ae]
        refine af rfl (ah rfl (ev rfl)) ?_
        simp only [Act.put, aa, ac, ae]
        refine wpList_nil ?_
        go_wp2_with fail
        go_roundw
        case rel => exact ⟨i + 1, by go_num, HI.out, (by rw [HM.out]; rfl), HWr.out⟩
        case measure => have := HI.out; simp [intOf]; omega
      have HZ : Hid (((f0 : Int) == 0) = false) := Lib.hid (beq_eq_false_iff_ne.2 (by omega))
      by_cases hq : y.f < f0
      · have HQ : Hid (decide ((y.f : Int) < (f0 : Int)) = true) := Lib.hid (decide_eq_true (by omega))
        have HM : Hid (fsP s (D.take (i + 1)) = y.f) := Lib.hid (by rw [HSN.out]; exact if_pos (.inr hq))
        clear hz hq
        go_upto_region 6 with fail
        refine wp_region_lit ?_
        refine af rfl (ah rfl (ev rfl)) ?_
        simp only [Act.put, aa, ac, ae]
        refine af (v := .bool false) rfl (ay false rfl (ev rfl) evk HZ.out) ?_
        simp only [Act.put, aa, ac, ae]
        refine af (v := .bool false) rfl (ah rfl (ev rfl)) ?_
        simp only [Act.put, aa, ac, ae]
        refine ak (am rfl rfl rfl rfl) (ah rfl (ev rfl)) ?_
        simp only [Act.put, aa, ac, ae]
        refine ak (am rfl rfl rfl rfl) (ah rfl (ev rfl)) ?_
        simp only [Act.put, aa, ac, ae]
        refine ak (v := .bool true) (am rfl rfl rfl rfl) (aC true rfl (ev rfl) (ev rfl) HQ.out) ?_
        simp only [Act.put, aa, ac, ae]
        refine af (v := .bool true) rfl (bw rfl (ev rfl) (ev rfl)) ?_
        simp only [Act.put, aa, ac, ae]
        refine wpList_nil ?_
        go_upto_region 7 with fail
        refine wp_region_lit ?_
        refine af rfl (ah rfl (ev rfl)) ?_
        simp only [Act.put, aa, ac, ae]
        refine af rfl (al rfl (ev rfl)) ?_
        simp only [Act.put, aa, ac, ae]
        refine wpList_nil ?_
        go_upto_region 8 with fail
        refine wp_region_lit ?_
        refine af rfl (bf rfl (ev rfl) evk HA.out) ?_
        simp only [Act.put, aa, ac, ae]
        refine af rfl (ah rfl (ev rfl)) ?_
        simp only [Act.put, aa, ac, ae]
        refine wpList_nil ?_
        go_wp2_with fail
        go_roundw
        case rel => exact ⟨i + 1, by go_num, HI.out, (by rw [HM.out]; rfl), HWr.out⟩
        case measure => have := HI.out; simp [intOf]; omega
      have HQ : Hid (decide ((y.f : Int) < (f0 : Int)) = false) := Lib.hid (decide_eq_false (by omega))
      have HM : Hid (fsP s (D.take (i + 1)) = f0) := Lib.hid (by rw [HSN.out]; exact if_neg (by omega))
      clear hz hq
      go_upto_region 6 with fail
      refine wp_region_lit ?_
      refine af rfl (ah rfl (ev rfl)) ?_
      simp only [Act.put, aa, ac, ae]
      refine af (v := .bool false) rfl (ay false rfl (ev rfl) evk HZ.out) ?_
      simp only [Act.put, aa, ac, ae]
      refine af (v := .bool false) rfl (ah rfl (ev rfl)) ?_
      simp only [Act.put, aa, ac, ae]
      refine ak (am rfl rfl rfl rfl) (ah rfl (ev rfl)) ?_
      simp only [Act.put, aa, ac, ae]
      refine ak (am rfl rfl rfl rfl) (ah rfl (ev rfl)) ?_
      simp only [Act.put, aa, ac, ae]
      refine ak (v := .bool false) (am rfl rfl rfl rfl) (aC false rfl (ev rfl) (ev rfl) HQ.out) ?_
      simp only [Act.put, aa, ac, ae]
      refine af (v := .bool false) rfl (bw rfl (ev rfl) (ev rfl)) ?_
      simp only [Act.put, aa, ac, ae]
      refine wpList_nil ?_
      go_upto_region 8 with fail
      refine wp_region_lit ?_
      refine af rfl (bf rfl (ev rfl) evk HA.out) ?_
      simp only [Act.put, aa, ac, ae]
      refine af rfl (ah rfl (ev rfl)) ?_
      simp only [Act.put, aa, ac, ae]
      refine wpList_nil ?_
      go_wp2_with fail
      go_roundw
      case rel => exact ⟨i + 1, by go_num, HI.out, (by rw [HM.out]), HWr.out⟩
      case measure => have := HI.out; simp [intOf]; omega
    have hin : i = D.length := by omega
    have HT : Hid (decide ((i : Int) < (D.length : Int)) = false) := Lib.hid (decide_eq_false (by omega))
    have HIN := Lib.hid hin
    clear hlt hi hin
    go_upto_region 3 with fail
    refine wp_region_lit ?_
    refine af (v := .bool false) rfl (aC false rfl (ev rfl) (ev rfl) HT.out) ?_
    simp only [Act.put, aa, ac, ae]
    refine wpList_nil ?_
    go_wp2_with fail
    go_ret
    exact ⟨by rw [HFR.out, HIN.out, List.take_length]; rfl, HB1.out.trans (HWr.out.mono HB1.out.size)⟩
end
structure PSt (w0 : World) (S0 : Nat → Prop) (w : World) (t lp mp : Nat) (FL : Nat → Prop) (L : List Ky) (c : Nat) (m : Nat → Option Nat) (ln : Nat → Option LnS) (N T room : Nat) (r : Int) : Prop where
  u : PRu w t lp mp FL L c m ln N T room r
  on : Only S0 w0 w
  gr : Grow w0 S0 (ftPs t mp FL m)
section
variable {w0 w w' : World} {S0 : Nat → Prop} {t lp mp c N T room n b : Nat} {FL FL' : Nat → Prop} {L L' : List Ky} {m : Nat → Option Nat} {ln : Nat → Option LnS} {r : Int}
theorem PSt.start (h : PRu w t lp mp FL L c m ln N T room r) : PSt w (ftPs t mp FL m) w t lp mp FL L c m ln N T room r := ⟨h, Only.refl _ _, Grow.same _ _⟩
theorem PSt.below (h : PSt w0 S0 w t lp mp FL L c m ln N T room r) (hb : Below w.heap.size w w') : PSt w0 S0 w' t lp mp FL L c m ln N T room r := ⟨h.u.below hb, h.on.then_below hb, h.gr⟩
theorem PSt.step {F : Nat → Prop} (h : PSt w0 S0 w t lp mp FL L c m ln N T room r) (hk : Only F w w') (hF : ∀ b, F b → ftPs t mp FL m b) : Only S0 w0 w' :=
  h.on.trans hk fun b hb => h.gr b (hF b hb)
theorem PSt.list {B : Nat → Prop} (h : PSt w0 S0 w t lp mp FL L c m ln N T room r) (hB : B = fun b => FL b ∨ w.heap.size ≤ b) (hl : PLF w' B lp room L') (hk : TurnPF B w w') : ∃ FL', PSt w0 S0 w' t lp mp FL' L' c m ln N T room r := by
  subst hB
  have hs := hk.size
  have ho : Only FL w w' := ⟨hk.only.os, hk.only.tape, hk.only.output, hk.only.size, fun b hb hn => hk.only.block b hb fun e => e.elim hn fun e2 => by omega⟩
  refine ⟨fun b => (FL b ∨ w.heap.size ≤ b) ∧ b < w'.heap.size, h.u.list ho (hl.mono fun b h1 h2 => ⟨h1, h2⟩) (fun b hb => hb.1) fun b hb => hb.2, h.step ho fun b hb => .inr (.inr (.inl hb)), fun b hb => ?_⟩
  have hsz := h.on.size
  rcases hb with e | e | e | e
  · exact h.gr b (.inl e)
  · exact h.gr b (.inr (.inl e))
  · rcases e.1 with e | e
    · exact h.gr b (.inr (.inr (.inl e)))
    · exact .inr (by omega)
  · exact h.gr b (.inr (.inr (.inr e)))
theorem PSt.line {y : LnS} (h : PSt w0 S0 w t lp mp FL L c m ln N T room r) (hn : m n = some b) (hk : aB isPn (fun j => j = b) w w') (hl : PLnF w' (fun j => j = b) b y) : PSt w0 S0 w' t lp mp FL L c m (fun j => if j = n then some y else ln j) N T room r :=
  ⟨h.u.line hn hk.only hl.1 hl.2.2, h.step hk.only fun j hj => .inr (.inr (.inr ⟨n, by rw [hj]; exact hn⟩)), h.gr⟩
theorem PSt.del (h : PSt w0 S0 w t lp mp FL L (c + 1) m ln N T room r) (hk : w.mapTurned w' mp) (hm : a8 w' mp c (fun j => if j = (n : Int) then none else mLn m j)) : PSt w0 S0 w' t lp mp FL L c (fun j => if j = n then none else m j) (fun j => if j = n then none else ln j) N T room r := by
  refine ⟨h.u.del hk hm, h.step (bK (F := fun j => j = mp) hk rfl) fun j hj => .inr (.inl hj), fun b hb => ?_⟩
  rcases hb with e | e | e | ⟨j, e⟩
  · exact h.gr b (.inl e)
  · exact h.gr b (.inr (.inl e))
  · exact h.gr b (.inr (.inr (.inl e)))
  · try dsimp only at e
    by_cases ej : j = n
    · rw [if_pos ej] at e; cases e
    · rw [if_neg ej] at e; exact h.gr b (.inr (.inr (.inr ⟨j, e⟩)))
theorem PSt.add {y : LnS} {w1 : World} (h : PSt w0 S0 w t lp mp FL L c m ln N T room r) (hn : m n = none) (hw1 : Below w.heap.size w w1) (hb : LnA w1 b (lf y)) (hbw : w.heap.size ≤ b) (hy : LnOk y) (hk : w1.mapTurned w' mp) (hm : a8 w' mp (c + 1) (fun j => if j = (n : Int) then some b else mLn m j)) : PSt w0 S0 w' t lp mp FL L (c + 1) (fun j => if j = n then some b else m j) (fun j => if j = n then some y else ln j) N T room r := by
  have h1 := h.below hw1
  have hs := h.u.size
  refine ⟨h1.u.add hn hb hy (fun e => by have := h.u.lt b e; omega) (fun j e => by have := hs b (.inr (.inr (.inr ⟨j, e⟩))); omega) hk hm, h1.step (bK (F := fun j => j = mp) hk rfl) fun j hj => .inr (.inl hj), fun q hq => ?_⟩
  have hsz := h.on.size
  rcases hq with e | e | e | ⟨j, e⟩
  · exact h.gr q (.inl e)
  · exact h.gr q (.inr (.inl e))
  · exact h.gr q (.inr (.inr (.inl e)))
  · try dsimp only at e
    by_cases ej : j = n
    · rw [if_pos ej] at e; cases e; exact .inr (by omega)
    · rw [if_neg ej] at e; exact h.gr q (.inr (.inr (.inr ⟨j, e⟩)))
end
theorem wpList_delL {ops : Array Oper} {rest : List Oper} {o : Oper} {a : Act} {w : World} {M : Int → Option Nat} {k : Int} {Q : Exit → Act → World → Prop} {x y : Operand} {N b : Nat} (hg : o.guard = none) (ho : o.op = .call { callee := .builtin .delete, args := #[x, y], argTypes := #[37, 3] })
    (hx : a.eval x = .map (some b)) (hy : a.eval y = .int .i64 k) (h : a8 w b (N + 1) M) (hw : (Lit.int .i64 k).wf = true) (hn : (M k).isSome = true)
    (hk : ∀ w', a8 w' b N (fun j => if j = k then none else M j) → w.mapTurned w' b → wpList Try.prog ops Q rest (a.put o.dst (.tuple #[])) w') : wpList Try.prog ops Q (o :: rest) a w := by
  obtain ⟨w', h1, h2, h3⟩ := h.delL hw hn o.type
  exact af hg (exec_del ho hx hy h1) (hk w' h2 h3)
def PSx (w0 : World) (S0 : Nat → Prop) (w : World) (t : Nat) (s : ShS) : Prop := ∃ lp mp FL m r, PSt w0 S0 w t lp mp FL (kyL s.dty s.o) s.o.length m s.ln s.N s.T s.room r ∧ ShOk s
section
variable {w0 w w' : World} {S0 S : Nat → Prop} {t K : Nat} {s : ShS}
theorem PSh.x (h : PSh w S t K s) : PSx w S w t s := by
  obtain ⟨lp, mp, FL, m, r, h1, h2, rfl⟩ := h
  exact ⟨lp, mp, FL, m, r, PSt.start h1, h2⟩
theorem PSx.res (h : PSx w0 S0 w t s) (K : Nat) : ∃ S', PSh w S' t K s ∧ Only S0 w0 w ∧ Grow w0 S0 S' := by
  obtain ⟨lp, mp, FL, m, r, h1, h2⟩ := h
  exact ⟨_, ⟨lp, mp, FL, m, r, h1.u, h2, rfl⟩, h1.on, h1.gr⟩
theorem PSx.below (h : PSx w0 S0 w t s) (hb : Below w.heap.size w w') : PSx w0 S0 w' t s := by
  obtain ⟨lp, mp, FL, m, r, h1, h2⟩ := h
  exact ⟨lp, mp, FL, m, r, h1.below hb, h2⟩
theorem PSx.ok (h : PSx w0 S0 w t s) : ShOk s := by obtain ⟨lp, mp, FL, m, r, h1, h2⟩ := h; exact h2
theorem PSx.only (h : PSx w0 S0 w t s) : Only S0 w0 w := by obtain ⟨lp, mp, FL, m, r, h1, h2⟩ := h; exact h1.on
end
theorem outO_lenm {o : List Nat} {n : Nat} (hd : o.Nodup) (h : n ∈ o) : (outO o n).length + 1 = o.length := by
  have hl := aX (d := fun _ => false) (o := o).2 h
  have hl' : plc (n : Int) (kyL (fun _ => false) o) < o.length := by rw [aM] at hl; exact hl
  have := wo_len (L := o) hl'
  rwa [wo_outO hd hl', kyL_plc h] at this
theorem tch_dtyF {s : ShS} (h : ShOk s) (n : Nat) : (s.tch n).dty = s.dty := funext fun j => h.tch_dty n j
theorem tch_ln (s : ShS) (n : Nat) (h : s.tchB n = true) : (s.tch n).ln = fun j => if j = n then some (s.a7 n) else (s.cut n).ln j := by unfold ShS.tch; rw [if_pos h]; rfl
theorem tch_no (s : ShS) (n : Nat) (h : s.tchB n = false) : s.tch n = s := by unfold ShS.tch; rw [if_neg (by rw [h]; decide)]
def tcE (s : ShS) (n : Nat) : Int := if s.tchB n = true then 0 else 10
set_option maxHeartbeats 4000000 in
theorem ps_touch {w0 w : World} {S0 : Nat → Prop} {t n : Nat} {s : ShS} (h : PSx w0 S0 w t s) (hn : n < s.T) : Calls Try.prog 29 #[.pointer (some ⟨t, 0, none⟩), .int .i64 (n : Int)] w fun e w' => e = .returned (.int .i64 (tcE s n)) ∧ PSx w0 S0 w' t (s.tch n) := by
  obtain ⟨lp, mp, FL, m, r, h, hok⟩ := h
  have hn64 : n < 64 := by have := hok.t64; omega
  have HW := Lib.hid (wf_nat hn64)
  have HOK := Lib.hid hok
  have HOK2 := Lib.hid (hok.tch hn)
  have HS := Lib.hid h
  have HL : Hid (PLF w (fun b => FL b ∨ w.heap.size ≤ b) lp s.room (kyL s.dty s.o)) := Lib.hid (h.u.li.mono fun b h1 _ => .inl h1)
  have HN1 : Hid (1 ≤ s.N) := Lib.hid (by have := hok.n3; omega)
  have HN2 : Hid (s.N ≤ 16) := Lib.hid hok.n16
  have HEQ := Lib.hid (tchE_kyL hok n)
  have HWQ := Lib.hid (tchW_kyL hok n)
  have HSQ : Hid (tchS s.room (n : Int) (kyL s.dty s.o) = kyL (s.tch n).dty (s.tch n).o) := Lib.hid (by rw [tchS_kyL hok n, tch_dtyF hok n])
  have HNQ := Lib.hid (s.tch_N n)
  have HM64 : Hid (s.o.length ≤ 64) := Lib.hid (by have := hok.len; have := hok.r64; omega)
  obtain ⟨g0, hg0⟩ : ∃ g0, tchG s.room (n : Int) (kyL s.dty s.o) = g0 := ⟨_, rfl⟩
  have HG0 := Lib.hid hg0
  have htc := tch_cases hok n
  clear hg0 h hn hn64
  go_enter Try.func29, Try.ntmps29
  rcases htc with ⟨c1, c2, c3, c4⟩ | ⟨c1, cl, c2, c3, c4⟩ | ⟨c1, cl, c0, c2, c3⟩ | ⟨c1, cl, c0, c2, c3, c4⟩
  · have HTB := Lib.hid c3
    have HTE : Hid ((if s.tchB n = true then (0 : Int) else 10) = 0) := Lib.hid (if_pos c3)
    have HTW : Hid ((s.goes n && s.tchB n) = false) := Lib.hid (by rw [c2]; rfl)
    obtain ⟨x, hx⟩ := Option.isSome_iff_exists.1 ((hok.mem n).1 c1)
    have hl := HS.out.u.ln n
    rw [hx] at hl
    obtain ⟨a, ha, _, _⟩ := hl.some_
    have HA := Lib.hid ha
    have HF : Hid ((s.tch n).o.length = s.o.length ∧ (s.tch n).ln = s.ln) := Lib.hid (by
      refine ⟨by rw [tch_o, if_pos c3, c4, List.length_cons, outO_lenm hok.nd c1], ?_⟩
      rw [tch_ln s n c3, c4]
      funext j
      by_cases e : j = n
      · subst e; rw [if_pos rfl, bG hx, hx]
      · rw [if_neg e])
    clear c1 c2 c3 c4 hok hx hl ha
    go_upto_region 1 with fail
    refine wp_region_lit ?_
    refine af rfl (ah rfl (ev rfl)) ?_
    simp only [Act.put, aa, ac, ae]
    refine af rfl (ao rfl (ev rfl)) ?_
    simp only [Act.put, aa, ac, ae]
    refine af rfl (ai rfl (ev rfl) faSq1) ?_
    simp only [Act.put, aa, ac, ae]
    refine af rfl (aq rfl (ev rfl) (ldLl (PRu.c3 HS.out.u))) ?_
    simp only [Act.put, aa, ac, ae]
    refine af rfl (ah rfl (ev rfl)) ?_
    simp only [Act.put, aa, ac, ae]
    refine aj rfl (ar Try.call40 rfl (evc (ev rfl) (evc (ev rfl) evn))) ?_
    refine (pl_touchF w (fun b hb => .inr hb) HL.out HW.out).mono ?_
    rintro e w1 ⟨rfl, l1, t1⟩
    rw [HSQ.out] at l1
    obtain ⟨FL1, hs1⟩ := HS.out.list rfl l1 t1
    have HS1 := Lib.hid hs1
    rw [HEQ.out, HWQ.out, HG0.out, HTE.out, HTW.out]
    clear l1 t1 hs1
    refine ⟨_, rfl, ?_⟩
    simp only [Act.put, aa, ac, ae]
    refine af rfl (ah rfl (ev rfl)) ?_
    simp only [Act.put, aa, ac, ae]
    refine af rfl (az rfl (ev rfl) rfl) ?_
    simp only [Act.put, aa, ac, ae]
    refine af rfl (az rfl (ev rfl) rfl) ?_
    simp only [Act.put, aa, ac, ae]
    refine af rfl (az rfl (ev rfl) rfl) ?_
    simp only [Act.put, aa, ac, ae]
    refine af rfl (al rfl (ev rfl)) ?_
    simp only [Act.put, aa, ac, ae]
    refine af rfl (al rfl (ev rfl)) ?_
    simp only [Act.put, aa, ac, ae]
    refine af rfl (al rfl (ev rfl)) ?_
    simp only [Act.put, aa, ac, ae]
    refine wpList_nil ?_
    go_upto_region 2 with fail
    refine wp_region_lit ?_
    refine af rfl (ah rfl (ev rfl)) ?_
    simp only [Act.put, aa, ac, ae]
    refine af (v := .bool false) rfl (aE false rfl (ev rfl) evk rfl) ?_
    simp only [Act.put, aa, ac, ae]
    refine wpList_nil ?_
    have HK : Hid ((Instr.lookup 37 (.map (some mp)) (.int .i64 (n : Int)) false).run Try.prog w1 = .ok (.pointer (some ⟨a, 0, none⟩)) w1) := Lib.hid (by
      have := HS1.out.u.map.lookL HW.out
      rwa [show mLn m (n : Int) = some a from by unfold mLn; rw [if_pos (by omega), Int.toNat_natCast, HA.out]] at this)
    have HSF : Hid (PSt w0 S0 w1 t lp mp FL1 (kyL (s.tch n).dty (s.tch n).o) (s.tch n).o.length m (s.tch n).ln (s.tch n).N (s.tch n).T (s.tch n).room r) := Lib.hid (by rw [HF.out.1, HF.out.2, HNQ.out.1, HNQ.out.2.1, HNQ.out.2.2]; exact HS1.out)
    go_upto_region 4 with fail
    refine wp_region_lit ?_
    refine af rfl (ah rfl (ev rfl)) ?_
    simp only [Act.put, aa, ac, ae]
    refine wpList_nil ?_
    go_upto_region 6 with fail
    refine wp_region_lit ?_
    refine af rfl (ah rfl (ev rfl)) ?_
    simp only [Act.put, aa, ac, ae]
    refine af rfl (ao rfl (ev rfl)) ?_
    simp only [Act.put, aa, ac, ae]
    refine af rfl (ai rfl (ev rfl) faSq2) ?_
    simp only [Act.put, aa, ac, ae]
    refine af rfl (aq rfl (ev rfl) (ldMl (PRu.c4 HS1.out.u))) ?_
    simp only [Act.put, aa, ac, ae]
    refine af rfl (ah rfl (ev rfl)) ?_
    simp only [Act.put, aa, ac, ae]
    refine af rfl (aZ rfl (ev rfl) (ev rfl) HK.out) ?_
    simp only [Act.put, aa, ac, ae]
    refine af (v := .bool false) rfl (bj false Try.underlying68 rfl (ev rfl) evk rfl) ?_
    simp only [Act.put, aa, ac, ae]
    refine wpList_nil ?_
    go_upto_region 8 with fail
    refine wp_region_lit ?_
    refine af rfl (ah rfl (ev rfl)) ?_
    simp only [Act.put, aa, ac, ae]
    refine af rfl (al rfl (ev rfl)) ?_
    simp only [Act.put, aa, ac, ae]
    refine wpList_nil ?_
    go_wp2_with fail
    go_ret
    exact ⟨by unfold tcE; rw [HTB.out]; rfl, lp, mp, _, _, r, HSF.out, HOK2.out⟩
  · have HTB := Lib.hid c3
    have HTE : Hid ((if s.tchB n = true then (0 : Int) else 10) = 0) := Lib.hid (if_pos c3)
    have HTW : Hid ((s.goes n && s.tchB n) = false) := Lib.hid (by rw [c2]; rfl)
    have hx : s.ln n = none := by
      have := (hok.none_iff n).2 c1
      cases e : s.ln n with
      | none => rfl
      | some y => rw [e] at this; cases this
    have hl := HS.out.u.ln n
    rw [hx] at hl
    have HMJ := Lib.hid hl.none_
    have HMN : Hid (mLn m (n : Int) = none) := Lib.hid (by unfold mLn; rw [if_pos (by omega), Int.toNat_natCast, hl.none_])
    have HCN := HM64
    have HF : Hid ((s.tch n).o.length = s.o.length + 1 ∧ (s.tch n).ln = fun j => if j = n then some (bH s.N) else s.ln j) := Lib.hid (by
      refine ⟨by rw [tch_o, if_pos c3, c4, List.length_cons, outO_no c1], ?_⟩
      rw [tch_ln s n c3, c4, lnOf_none hx])
    clear c1 cl c2 c3 c4 hok hx hl
    go_upto_region 1 with fail
    refine wp_region_lit ?_
    refine af rfl (ah rfl (ev rfl)) ?_
    simp only [Act.put, aa, ac, ae]
    refine af rfl (ao rfl (ev rfl)) ?_
    simp only [Act.put, aa, ac, ae]
    refine af rfl (ai rfl (ev rfl) faSq1) ?_
    simp only [Act.put, aa, ac, ae]
    refine af rfl (aq rfl (ev rfl) (ldLl (PRu.c3 HS.out.u))) ?_
    simp only [Act.put, aa, ac, ae]
    refine af rfl (ah rfl (ev rfl)) ?_
    simp only [Act.put, aa, ac, ae]
    refine aj rfl (ar Try.call40 rfl (evc (ev rfl) (evc (ev rfl) evn))) ?_
    refine (pl_touchF w (fun b hb => .inr hb) HL.out HW.out).mono ?_
    rintro e w1 ⟨rfl, l1, t1⟩
    rw [HSQ.out] at l1
    obtain ⟨FL1, hs1⟩ := HS.out.list rfl l1 t1
    have HS1 := Lib.hid hs1
    rw [HEQ.out, HWQ.out, HG0.out, HTE.out, HTW.out]
    clear l1 t1 hs1
    refine ⟨_, rfl, ?_⟩
    simp only [Act.put, aa, ac, ae]
    refine af rfl (ah rfl (ev rfl)) ?_
    simp only [Act.put, aa, ac, ae]
    refine af rfl (az rfl (ev rfl) rfl) ?_
    simp only [Act.put, aa, ac, ae]
    refine af rfl (az rfl (ev rfl) rfl) ?_
    simp only [Act.put, aa, ac, ae]
    refine af rfl (az rfl (ev rfl) rfl) ?_
    simp only [Act.put, aa, ac, ae]
    refine af rfl (al rfl (ev rfl)) ?_
    simp only [Act.put, aa, ac, ae]
    refine af rfl (al rfl (ev rfl)) ?_
    simp only [Act.put, aa, ac, ae]
    refine af rfl (al rfl (ev rfl)) ?_
    simp only [Act.put, aa, ac, ae]
    refine wpList_nil ?_
    go_upto_region 2 with fail
    refine wp_region_lit ?_
    refine af rfl (ah rfl (ev rfl)) ?_
    simp only [Act.put, aa, ac, ae]
    refine af (v := .bool false) rfl (aE false rfl (ev rfl) evk rfl) ?_
    simp only [Act.put, aa, ac, ae]
    refine wpList_nil ?_
    have HK : Hid ((Instr.lookup 37 (.map (some mp)) (.int .i64 (n : Int)) false).run Try.prog w1 = .ok (.pointer none) w1) := Lib.hid (by
      have := HS1.out.u.map.lookL HW.out
      rwa [HMN.out] at this)
    go_upto_region 4 with fail
    refine wp_region_lit ?_
    refine af rfl (ah rfl (ev rfl)) ?_
    simp only [Act.put, aa, ac, ae]
    refine wpList_nil ?_
    go_upto_region 6 with fail
    refine wp_region_lit ?_
    refine af rfl (ah rfl (ev rfl)) ?_
    simp only [Act.put, aa, ac, ae]
    refine af rfl (ao rfl (ev rfl)) ?_
    simp only [Act.put, aa, ac, ae]
    refine af rfl (ai rfl (ev rfl) faSq2) ?_
    simp only [Act.put, aa, ac, ae]
    refine af rfl (aq rfl (ev rfl) (ldMl (PRu.c4 HS1.out.u))) ?_
    simp only [Act.put, aa, ac, ae]
    refine af rfl (ah rfl (ev rfl)) ?_
    simp only [Act.put, aa, ac, ae]
    refine af rfl (aZ rfl (ev rfl) (ev rfl) HK.out) ?_
    simp only [Act.put, aa, ac, ae]
    refine af (v := .bool true) rfl (bj true Try.underlying68 rfl (ev rfl) evk rfl) ?_
    simp only [Act.put, aa, ac, ae]
    refine wpList_nil ?_
    go_upto_region 7 with fail
    refine wp_region_held (S := fun w' => w'.cell? ⟨t, 0, none⟩ = some (.int .i64 (s.N : Int)) ∧ w'.cell? ⟨t, 4, none⟩ = some (.map (some mp))) (by kernel_rfl) ?_
    change wpAnyH _ _ _ _ _ 16 _ _ w1.drew
    refine au 0 rfl (by kernel_rfl) (by kernel_rfl) (by kernel_rfl) rfl (fun w' hw => ah rfl (ev rfl)) (fun _ _ _ h => h) ⟨HS1.out.u.c0, HS1.out.u.c4⟩ ?_
    simp only [Act.put, aa, ac, ae]
    refine au 1 rfl (by kernel_rfl) (by kernel_rfl) (by kernel_rfl) rfl (fun w' hw => ao rfl (ev rfl)) (fun _ _ _ h => h) ⟨HS1.out.u.c0, HS1.out.u.c4⟩ ?_
    simp only [Act.put, aa, ac, ae]
    refine au 2 rfl (by kernel_rfl) (by kernel_rfl) (by kernel_rfl) rfl (fun w' hw => ai rfl (ev rfl) faSq2) (fun _ _ _ h => h) ⟨HS1.out.u.c0, HS1.out.u.c4⟩ ?_
    simp only [Act.put, aa, ac, ae]
    refine au 3 rfl (by kernel_rfl) (by kernel_rfl) (by kernel_rfl) rfl (fun w' hw => aq rfl (ev rfl) (ldMl hw.2)) (fun _ _ _ h => h) ⟨HS1.out.u.c0, HS1.out.u.c4⟩ ?_
    simp only [Act.put, aa, ac, ae]
    refine au 4 rfl (by kernel_rfl) (by kernel_rfl) (by kernel_rfl) rfl (fun w' hw => ah rfl (ev rfl)) (fun _ _ _ h => h) ⟨HS1.out.u.c0, HS1.out.u.c4⟩ ?_
    simp only [Act.put, aa, ac, ae]
    refine au 5 rfl (by kernel_rfl) (by kernel_rfl) (by kernel_rfl) rfl (fun w' hw => ah rfl (ev rfl)) (fun _ _ _ h => h) ⟨HS1.out.u.c0, HS1.out.u.c4⟩ ?_
    simp only [Act.put, aa, ac, ae]
    refine au 6 rfl (by kernel_rfl) (by kernel_rfl) (by kernel_rfl) rfl (fun w' hw => ao rfl (ev rfl)) (fun _ _ _ h => h) ⟨HS1.out.u.c0, HS1.out.u.c4⟩ ?_
    simp only [Act.put, aa, ac, ae]
    refine au 7 rfl (by kernel_rfl) (by kernel_rfl) (by kernel_rfl) rfl (fun w' hw => ai rfl (ev rfl) faSq0) (fun _ _ _ h => h) ⟨HS1.out.u.c0, HS1.out.u.c4⟩ ?_
    simp only [Act.put, aa, ac, ae]
    refine au 8 rfl (by kernel_rfl) (by kernel_rfl) (by kernel_rfl) rfl (fun w' hw => ai rfl (ev rfl) faGm0) (fun _ _ _ h => h) ⟨HS1.out.u.c0, HS1.out.u.c4⟩ ?_
    simp only [Act.put, aa, ac, ae]
    refine au 9 rfl (by kernel_rfl) (by kernel_rfl) (by kernel_rfl) rfl (fun w' hw => aq rfl (ev rfl) (bn hw.1)) (fun _ _ _ h => h) ⟨HS1.out.u.c0, HS1.out.u.c4⟩ ?_
    simp only [Act.put, aa, ac, ae]
    refine held_call 10 rfl (by kernel_rfl) rfl (ar Try.call41 rfl (evc (ev rfl) evn)) ?_
    refine (pli_new s.N _ HN1.out HN2.out).mono ?_
    rintro e wA ⟨q, rfl, ⟨hq1, hq2⟩, bA⟩
    have bA' : Below w1.heap.size w1 wA := ((Below.refl _ w1).drew).trans bA
    have hsA := HS1.out.below bA'
    obtain ⟨wB, hrB, hmB, htB⟩ := hsA.u.map.storeL HW.out HMN.out (by unfold maxLen; have := HCN.out; omega) q
    have HRB := Lib.hid hrB
    have HSB := Lib.hid (HS1.out.add HMJ.out bA' hq1 hq2 (LnOk.new HN1.out HN2.out) htB hmB)
    have HSA : Hid (wA.cell? ⟨t, 0, none⟩ = some (.int .i64 (s.N : Int)) ∧ wA.cell? ⟨t, 4, none⟩ = some (.map (some mp))) := Lib.hid ⟨hsA.u.c0, hsA.u.c4⟩
    have HSC : Hid (wB.cell? ⟨t, 0, none⟩ = some (.int .i64 (s.N : Int)) ∧ wB.cell? ⟨t, 4, none⟩ = some (.map (some mp))) := Lib.hid ⟨HSB.out.u.c0, HSB.out.u.c4⟩
    clear hq1 hq2 bA bA' hsA hrB hmB htB
    refine ⟨_, rfl, HSA.out, ?_⟩
    simp only [Act.put, aa, ac, ae]
    refine au 11 rfl (by kernel_rfl) (by kernel_rfl) (by kernel_rfl) rfl (fun w' hw => ah rfl (ev rfl)) (fun _ _ _ h => h) HSA.out ?_
    simp only [Act.put, aa, ac, ae]
    refine au 12 rfl (by kernel_rfl) (by kernel_rfl) (by kernel_rfl) rfl (fun w' hw => az rfl (ev rfl) rfl) (fun _ _ _ h => h) HSA.out ?_
    simp only [Act.put, aa, ac, ae]
    refine au 13 rfl (by kernel_rfl) (by kernel_rfl) (by kernel_rfl) rfl (fun w' hw => az rfl (ev rfl) rfl) (fun _ _ _ h => h) HSA.out ?_
    simp only [Act.put, aa, ac, ae]
    refine bS 14 rfl (by kernel_rfl) rfl (exec_mupd rfl (ev rfl) (ev rfl) (ev rfl) HRB.out) HSC.out ?_
    simp only [Act.put]
    refine au 15 rfl (by kernel_rfl) (by kernel_rfl) (by kernel_rfl) rfl (fun w' hw => al rfl (ev rfl)) (fun _ _ _ h => h) HSC.out ?_
    simp only [Act.put, aa, ac, ae]
    refine wpAnyH_done (by kernel_rfl) ?_ _
    have HSF : Hid (PSt w0 S0 wB t lp mp FL1 (kyL (s.tch n).dty (s.tch n).o) (s.tch n).o.length (fun j => if j = n then some q else m j) (s.tch n).ln (s.tch n).N (s.tch n).T (s.tch n).room r) := Lib.hid (by rw [HF.out.1, HF.out.2, HNQ.out.1, HNQ.out.2.1, HNQ.out.2.2]; exact HSB.out)
    go_upto_region 8 with fail
    refine wp_region_lit ?_
    refine af rfl (ah rfl (ev rfl)) ?_
    simp only [Act.put, aa, ac, ae]
    refine af rfl (al rfl (ev rfl)) ?_
    simp only [Act.put, aa, ac, ae]
    refine wpList_nil ?_
    go_wp2_with fail
    go_ret
    exact ⟨by unfold tcE; rw [HTB.out]; rfl, lp, mp, _, _, r, HSF.out, HOK2.out⟩
  · have HTB := Lib.hid c3
    have HTE : Hid ((if s.tchB n = true then (0 : Int) else 10) = 10) := Lib.hid (if_neg (by rw [c3]; decide))
    have HTW : Hid ((s.goes n && s.tchB n) = false) := Lib.hid (by rw [c3, Bool.and_false])
    have HF := Lib.hid (tch_no s n c3)
    clear c1 cl c0 c2 c3 hok
    go_upto_region 1 with fail
    refine wp_region_lit ?_
    refine af rfl (ah rfl (ev rfl)) ?_
    simp only [Act.put, aa, ac, ae]
    refine af rfl (ao rfl (ev rfl)) ?_
    simp only [Act.put, aa, ac, ae]
    refine af rfl (ai rfl (ev rfl) faSq1) ?_
    simp only [Act.put, aa, ac, ae]
    refine af rfl (aq rfl (ev rfl) (ldLl (PRu.c3 HS.out.u))) ?_
    simp only [Act.put, aa, ac, ae]
    refine af rfl (ah rfl (ev rfl)) ?_
    simp only [Act.put, aa, ac, ae]
    refine aj rfl (ar Try.call40 rfl (evc (ev rfl) (evc (ev rfl) evn))) ?_
    refine (pl_touchF w (fun b hb => .inr hb) HL.out HW.out).mono ?_
    rintro e w1 ⟨rfl, l1, t1⟩
    rw [HSQ.out] at l1
    obtain ⟨FL1, hs1⟩ := HS.out.list rfl l1 t1
    have HS1 := Lib.hid hs1
    rw [HEQ.out, HWQ.out, HG0.out, HTE.out, HTW.out]
    clear l1 t1 hs1
    refine ⟨_, rfl, ?_⟩
    simp only [Act.put, aa, ac, ae]
    refine af rfl (ah rfl (ev rfl)) ?_
    simp only [Act.put, aa, ac, ae]
    refine af rfl (az rfl (ev rfl) rfl) ?_
    simp only [Act.put, aa, ac, ae]
    refine af rfl (az rfl (ev rfl) rfl) ?_
    simp only [Act.put, aa, ac, ae]
    refine af rfl (az rfl (ev rfl) rfl) ?_
    simp only [Act.put, aa, ac, ae]
    refine af rfl (al rfl (ev rfl)) ?_
    simp only [Act.put, aa, ac, ae]
    refine af rfl (al rfl (ev rfl)) ?_
    simp only [Act.put, aa, ac, ae]
    refine af rfl (al rfl (ev rfl)) ?_
    simp only [Act.put, aa, ac, ae]
    refine wpList_nil ?_
    go_upto_region 2 with fail
    refine wp_region_lit ?_
    refine af rfl (ah rfl (ev rfl)) ?_
    simp only [Act.put, aa, ac, ae]
    refine af (v := .bool true) rfl (aE true rfl (ev rfl) evk rfl) ?_
    simp only [Act.put, aa, ac, ae]
    refine wpList_nil ?_
    go_upto_region 3 with fail
    refine wp_region_lit ?_
    refine af rfl (ah rfl (ev rfl)) ?_
    simp only [Act.put, aa, ac, ae]
    refine af rfl (al rfl (ev rfl)) ?_
    simp only [Act.put, aa, ac, ae]
    refine wpList_nil ?_
    go_wp2_with fail
    go_ret
    exact ⟨by unfold tcE; rw [HTB.out]; rfl, lp, mp, _, _, r, by have := HS1.out; rw [HF.out] at this ⊢; exact this, HOK2.out⟩
  · have HTB := Lib.hid c3
    have HTE : Hid ((if s.tchB n = true then (0 : Int) else 10) = 0) := Lib.hid (if_pos c3)
    have HTW : Hid ((s.goes n && s.tchB n) = true) := Lib.hid (by rw [c2, c3]; rfl)
    have HGQ : Hid (g0 = (s.gone : Int)) := Lib.hid (by rw [← HG0.out]; exact tchG_kyL hok n c2 c3)
    obtain ⟨hgm, _⟩ := hok.gone c0
    have hgT := hok.lt _ hgm
    have hx : s.ln n = none := by
      have := (hok.none_iff n).2 c1
      cases e : s.ln n with
      | none => rfl
      | some y => rw [e] at this; cases this
    have hl := HS.out.u.ln n
    rw [hx] at hl
    obtain ⟨xg, hxg⟩ := Option.isSome_iff_exists.1 ((hok.mem s.gone).1 hgm)
    have hlg := HS.out.u.ln s.gone
    rw [hxg] at hlg
    obtain ⟨ag, hag, _, _⟩ := hlg.some_
    have hne : n ≠ s.gone := fun e => c1 (by rw [e]; exact hgm)
    obtain ⟨gn, hgn⟩ : ∃ gn, s.gone = gn := ⟨_, rfl⟩
    obtain ⟨cn, hcn⟩ : ∃ cn, s.o.length = cn + 1 := ⟨s.o.length - 1, by have := List.length_pos_of_mem hgm; omega⟩
    have HCN : Hid (cn ≤ 64) := Lib.hid (by have := HM64.out; omega)
    have HMJ : Hid ((fun j => if j = gn then none else m j) n = none) := Lib.hid (by dsimp only; rw [if_neg (by rw [← hgn]; exact hne)]; exact hl.none_)
    have HMN : Hid (mLn (fun j => if j = gn then none else m j) (n : Int) = none) := Lib.hid (by unfold mLn; rw [if_pos (by omega), Int.toNat_natCast]; exact HMJ.out)
    have HMG : Hid ((mLn m (gn : Int)).isSome = true) := Lib.hid (by unfold mLn; rw [if_pos (by omega), Int.toNat_natCast, ← hgn, hag]; rfl)
    have HWG := Lib.hid (wf_nat (n := gn) (by rw [← hgn]; have := hok.t64; omega))
    have HF : Hid ((s.tch n).o.length = cn + 1 ∧ (s.tch n).ln = fun j => if j = n then some (bH s.N) else (if j = gn then none else s.ln j)) := Lib.hid (by
      refine ⟨?_, ?_⟩
      · rw [tch_o, if_pos c3, c4, List.length_cons]
        show (outO (outO s.o s.gone) n).length + 1 = _
        rw [outO_no (n := n) (o := outO s.o s.gone) fun e => c1 (bU.1 e).1, outO_lenm hok.nd hgm, hcn]
      · rw [tch_ln s n c3, c4, lnOf_none hx, ← hgn]
        rfl)
    rw [hgn] at HGQ
    have HCQ := Lib.hid hcn
    clear c1 cl c0 c2 c3 c4 hok hx hl hgm hgT hxg hlg hag hne hgn hcn
    go_upto_region 1 with fail
    refine wp_region_lit ?_
    refine af rfl (ah rfl (ev rfl)) ?_
    simp only [Act.put, aa, ac, ae]
    refine af rfl (ao rfl (ev rfl)) ?_
    simp only [Act.put, aa, ac, ae]
    refine af rfl (ai rfl (ev rfl) faSq1) ?_
    simp only [Act.put, aa, ac, ae]
    refine af rfl (aq rfl (ev rfl) (ldLl (PRu.c3 HS.out.u))) ?_
    simp only [Act.put, aa, ac, ae]
    refine af rfl (ah rfl (ev rfl)) ?_
    simp only [Act.put, aa, ac, ae]
    refine aj rfl (ar Try.call40 rfl (evc (ev rfl) (evc (ev rfl) evn))) ?_
    refine (pl_touchF w (fun b hb => .inr hb) HL.out HW.out).mono ?_
    rintro e w1 ⟨rfl, l1, t1⟩
    rw [HSQ.out] at l1
    obtain ⟨FL1, hs1⟩ := HS.out.list rfl l1 t1
    have HS1 := Lib.hid hs1
    rw [HEQ.out, HWQ.out, HG0.out, HTE.out, HTW.out]
    clear l1 t1 hs1
    refine ⟨_, rfl, ?_⟩
    simp only [Act.put, aa, ac, ae]
    refine af rfl (ah rfl (ev rfl)) ?_
    simp only [Act.put, aa, ac, ae]
    refine af rfl (az rfl (ev rfl) rfl) ?_
    simp only [Act.put, aa, ac, ae]
    refine af rfl (az rfl (ev rfl) rfl) ?_
    simp only [Act.put, aa, ac, ae]
    refine af rfl (az rfl (ev rfl) rfl) ?_
    simp only [Act.put, aa, ac, ae]
    refine af rfl (al rfl (ev rfl)) ?_
    simp only [Act.put, aa, ac, ae]
    refine af rfl (al rfl (ev rfl)) ?_
    simp only [Act.put, aa, ac, ae]
    refine af rfl (al rfl (ev rfl)) ?_
    simp only [Act.put, aa, ac, ae]
    refine wpList_nil ?_
    go_upto_region 2 with fail
    refine wp_region_lit ?_
    refine af rfl (ah rfl (ev rfl)) ?_
    simp only [Act.put, aa, ac, ae]
    refine af (v := .bool false) rfl (aE false rfl (ev rfl) evk rfl) ?_
    simp only [Act.put, aa, ac, ae]
    refine wpList_nil ?_
    have HS1' : Hid (PSt w0 S0 w1 t lp mp FL1 (kyL (s.tch n).dty (s.tch n).o) (cn + 1) m s.ln s.N s.T s.room r) := Lib.hid (by have := HS1.out; rwa [HCQ.out] at this)
    rw [HGQ.out]
    go_upto_region 4 with fail
    refine wp_region_lit ?_
    refine af rfl (ah rfl (ev rfl)) ?_
    simp only [Act.put, aa, ac, ae]
    refine wpList_nil ?_
    go_upto_region 5 with fail
    refine wp_region_lit ?_
    refine af rfl (ah rfl (ev rfl)) ?_
    simp only [Act.put, aa, ac, ae]
    refine af rfl (ao rfl (ev rfl)) ?_
    simp only [Act.put, aa, ac, ae]
    refine af rfl (ai rfl (ev rfl) faSq2) ?_
    simp only [Act.put, aa, ac, ae]
    refine af rfl (aq rfl (ev rfl) (ldMl (PRu.c4 HS1.out.u))) ?_
    simp only [Act.put, aa, ac, ae]
    refine af rfl (ah rfl (ev rfl)) ?_
    simp only [Act.put, aa, ac, ae]
    refine wpList_delL rfl rfl (ev rfl) (ev rfl) HS1'.out.u.map HWG.out HMG.out ?_
    intro w2 hm2 ht2
    simp only [Act.put, aa, ac, ae]
    refine wpList_nil ?_
    have HS2 := Lib.hid (HS1'.out.del ht2 hm2)
    clear hm2 ht2
    have HK : Hid ((Instr.lookup 37 (.map (some mp)) (.int .i64 (n : Int)) false).run Try.prog w2 = .ok (.pointer none) w2) := Lib.hid (by
      have := HS2.out.u.map.lookL HW.out
      rwa [HMN.out] at this)
    go_upto_region 6 with fail
    refine wp_region_lit ?_
    refine af rfl (ah rfl (ev rfl)) ?_
    simp only [Act.put, aa, ac, ae]
    refine af rfl (ao rfl (ev rfl)) ?_
    simp only [Act.put, aa, ac, ae]
    refine af rfl (ai rfl (ev rfl) faSq2) ?_
    simp only [Act.put, aa, ac, ae]
    refine af rfl (aq rfl (ev rfl) (ldMl (PRu.c4 HS2.out.u))) ?_
    simp only [Act.put, aa, ac, ae]
    refine af rfl (ah rfl (ev rfl)) ?_
    simp only [Act.put, aa, ac, ae]
    refine af rfl (aZ rfl (ev rfl) (ev rfl) HK.out) ?_
    simp only [Act.put, aa, ac, ae]
    refine af (v := .bool true) rfl (bj true Try.underlying68 rfl (ev rfl) evk rfl) ?_
    simp only [Act.put, aa, ac, ae]
    refine wpList_nil ?_
    go_upto_region 7 with fail
    refine wp_region_held (S := fun w' => w'.cell? ⟨t, 0, none⟩ = some (.int .i64 (s.N : Int)) ∧ w'.cell? ⟨t, 4, none⟩ = some (.map (some mp))) (by kernel_rfl) ?_
    change wpAnyH _ _ _ _ _ 16 _ _ w2.drew
    refine au 0 rfl (by kernel_rfl) (by kernel_rfl) (by kernel_rfl) rfl (fun w' hw => ah rfl (ev rfl)) (fun _ _ _ h => h) ⟨HS2.out.u.c0, HS2.out.u.c4⟩ ?_
    simp only [Act.put, aa, ac, ae]
    refine au 1 rfl (by kernel_rfl) (by kernel_rfl) (by kernel_rfl) rfl (fun w' hw => ao rfl (ev rfl)) (fun _ _ _ h => h) ⟨HS2.out.u.c0, HS2.out.u.c4⟩ ?_
    simp only [Act.put, aa, ac, ae]
    refine au 2 rfl (by kernel_rfl) (by kernel_rfl) (by kernel_rfl) rfl (fun w' hw => ai rfl (ev rfl) faSq2) (fun _ _ _ h => h) ⟨HS2.out.u.c0, HS2.out.u.c4⟩ ?_
    simp only [Act.put, aa, ac, ae]
    refine au 3 rfl (by kernel_rfl) (by kernel_rfl) (by kernel_rfl) rfl (fun w' hw => aq rfl (ev rfl) (ldMl hw.2)) (fun _ _ _ h => h) ⟨HS2.out.u.c0, HS2.out.u.c4⟩ ?_
    simp only [Act.put, aa, ac, ae]
    refine au 4 rfl (by kernel_rfl) (by kernel_rfl) (by kernel_rfl) rfl (fun w' hw => ah rfl (ev rfl)) (fun _ _ _ h => h) ⟨HS2.out.u.c0, HS2.out.u.c4⟩ ?_
    simp only [Act.put, aa, ac, ae]
    refine au 5 rfl (by kernel_rfl) (by kernel_rfl) (by kernel_rfl) rfl (fun w' hw => ah rfl (ev rfl)) (fun _ _ _ h => h) ⟨HS2.out.u.c0, HS2.out.u.c4⟩ ?_
    simp only [Act.put, aa, ac, ae]
    refine au 6 rfl (by kernel_rfl) (by kernel_rfl) (by kernel_rfl) rfl (fun w' hw => ao rfl (ev rfl)) (fun _ _ _ h => h) ⟨HS2.out.u.c0, HS2.out.u.c4⟩ ?_
    simp only [Act.put, aa, ac, ae]
    refine au 7 rfl (by kernel_rfl) (by kernel_rfl) (by kernel_rfl) rfl (fun w' hw => ai rfl (ev rfl) faSq0) (fun _ _ _ h => h) ⟨HS2.out.u.c0, HS2.out.u.c4⟩ ?_
    simp only [Act.put, aa, ac, ae]
    refine au 8 rfl (by kernel_rfl) (by kernel_rfl) (by kernel_rfl) rfl (fun w' hw => ai rfl (ev rfl) faGm0) (fun _ _ _ h => h) ⟨HS2.out.u.c0, HS2.out.u.c4⟩ ?_
    simp only [Act.put, aa, ac, ae]
    refine au 9 rfl (by kernel_rfl) (by kernel_rfl) (by kernel_rfl) rfl (fun w' hw => aq rfl (ev rfl) (bn hw.1)) (fun _ _ _ h => h) ⟨HS2.out.u.c0, HS2.out.u.c4⟩ ?_
    simp only [Act.put, aa, ac, ae]
    refine held_call 10 rfl (by kernel_rfl) rfl (ar Try.call41 rfl (evc (ev rfl) evn)) ?_
    refine (pli_new s.N _ HN1.out HN2.out).mono ?_
    rintro e wA ⟨q, rfl, ⟨hq1, hq2⟩, bA⟩
    have bA' : Below w2.heap.size w2 wA := ((Below.refl _ w2).drew).trans bA
    have hsA := HS2.out.below bA'
    obtain ⟨wB, hrB, hmB, htB⟩ := hsA.u.map.storeL HW.out HMN.out (by unfold maxLen; have := HCN.out; omega) q
    have HRB := Lib.hid hrB
    have HSB := Lib.hid (HS2.out.add HMJ.out bA' hq1 hq2 (LnOk.new HN1.out HN2.out) htB hmB)
    have HSA : Hid (wA.cell? ⟨t, 0, none⟩ = some (.int .i64 (s.N : Int)) ∧ wA.cell? ⟨t, 4, none⟩ = some (.map (some mp))) := Lib.hid ⟨hsA.u.c0, hsA.u.c4⟩
    have HSC : Hid (wB.cell? ⟨t, 0, none⟩ = some (.int .i64 (s.N : Int)) ∧ wB.cell? ⟨t, 4, none⟩ = some (.map (some mp))) := Lib.hid ⟨HSB.out.u.c0, HSB.out.u.c4⟩
    clear hq1 hq2 bA bA' hsA hrB hmB htB
    refine ⟨_, rfl, HSA.out, ?_⟩
    simp only [Act.put, aa, ac, ae]
    refine au 11 rfl (by kernel_rfl) (by kernel_rfl) (by kernel_rfl) rfl (fun w' hw => ah rfl (ev rfl)) (fun _ _ _ h => h) HSA.out ?_
    simp only [Act.put, aa, ac, ae]
    refine au 12 rfl (by kernel_rfl) (by kernel_rfl) (by kernel_rfl) rfl (fun w' hw => az rfl (ev rfl) rfl) (fun _ _ _ h => h) HSA.out ?_
    simp only [Act.put, aa, ac, ae]
    refine au 13 rfl (by kernel_rfl) (by kernel_rfl) (by kernel_rfl) rfl (fun w' hw => az rfl (ev rfl) rfl) (fun _ _ _ h => h) HSA.out ?_
    simp only [Act.put, aa, ac, ae]
    refine bS 14 rfl (by kernel_rfl) rfl (exec_mupd rfl (ev rfl) (ev rfl) (ev rfl) HRB.out) HSC.out ?_
    simp only [Act.put]
    refine au 15 rfl (by kernel_rfl) (by kernel_rfl) (by kernel_rfl) rfl (fun w' hw => al rfl (ev rfl)) (fun _ _ _ h => h) HSC.out ?_
    simp only [Act.put, aa, ac, ae]
    refine wpAnyH_done (by kernel_rfl) ?_ _
    have HSF : Hid (PSt w0 S0 wB t lp mp FL1 (kyL (s.tch n).dty (s.tch n).o) (s.tch n).o.length (fun j => if j = n then some q else (fun j => if j = gn then none else m j) j) (s.tch n).ln (s.tch n).N (s.tch n).T (s.tch n).room r) := Lib.hid (by rw [HF.out.1, HF.out.2, HNQ.out.1, HNQ.out.2.1, HNQ.out.2.2]; exact HSB.out)
    go_upto_region 8 with fail
    refine wp_region_lit ?_
    refine af rfl (ah rfl (ev rfl)) ?_
    simp only [Act.put, aa, ac, ae]
    refine af rfl (al rfl (ev rfl)) ?_
    simp only [Act.put, aa, ac, ae]
    refine wpList_nil ?_
    go_wp2_with fail
    go_ret
    exact ⟨by unfold tcE; rw [HTB.out]; rfl, lp, mp, _, _, r, HSF.out, HOK2.out⟩
end Go.Proofs.Ytdmhelalbemlcaa
