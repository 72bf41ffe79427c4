import Derived.Test.YtheponmdbmloaaaGreatDoorFnau
import Derived.Test.YtheponmdbmloaaaGreatDoorFnan
import Derived.Test.YtheponmdbmloaaaGreatDoorFnZ
namespace Go.Proofs.YtheponmdbmloaaaGreatDoor
open Go.RowKit
set_option linter.unusedVariables false
set_option linter.unusedSimpArgs false
set_option maxRecDepth 100000
theorem zeroHp : (Tryz.prog.info? 53).map (fun i => i.zero) = some (some (.agg (phC none ⟨0, 0, 0, bf⟩).toArray)) := by kernel_rfl
section
variable {ρ : Operand → Value} {o : Oper} {x1 x2 x3 x4 x5 : Operand} {w : World} {q : Nat} {y : HpS}
theorem run_bldHp (q : Nat) (y : HpS) : (Instr.build 53 #[(0, .pointer (some ⟨q, 0, none⟩)), (1, .int .u64 (y.id : Int)), (2, .int .u64 (y.ev : Int)), (3, ros y.R), (4, .int .u64 (y.us : Int))]).run Tryz.prog w = .ok (.agg (phC (some ⟨q, 0, none⟩) y).toArray) w := by
  have hz := run_zeroT zeroHp w
  have h0 := cn (place := fun i => (#[(0, 1), (1, 1), (2, 1), (3, 21), (24, 1)] : Array (Nat × Nat))[i]?) (i := 0) (off := 0) (size := 1) (v := .pointer (some ⟨q, 0, none⟩)) (pre := []) (mid := [.pointer none]) (post := .int .u64 0 :: .int .u64 0 :: (aC bf ++ [.int .u64 0])) (vs := [.pointer (some ⟨q, 0, none⟩)]) (rest := [(1, .int .u64 (y.id : Int)), (2, .int .u64 (y.ev : Int)), (3, ros y.R), (4, .int .u64 (y.us : Int))]) rfl rfl rfl rfl rfl
  have h1 := cn (place := fun i => (#[(0, 1), (1, 1), (2, 1), (3, 21), (24, 1)] : Array (Nat × Nat))[i]?) (i := 1) (off := 1) (size := 1) (v := .int .u64 (y.id : Int)) (pre := [.pointer (some ⟨q, 0, none⟩)]) (mid := [.int .u64 0]) (post := .int .u64 0 :: (aC bf ++ [.int .u64 0])) (vs := [.int .u64 (y.id : Int)]) (rest := [(2, .int .u64 (y.ev : Int)), (3, ros y.R), (4, .int .u64 (y.us : Int))]) rfl rfl rfl rfl rfl
  have h2 := cn (place := fun i => (#[(0, 1), (1, 1), (2, 1), (3, 21), (24, 1)] : Array (Nat × Nat))[i]?) (i := 2) (off := 2) (size := 1) (v := .int .u64 (y.ev : Int)) (pre := [.pointer (some ⟨q, 0, none⟩), .int .u64 (y.id : Int)]) (mid := [.int .u64 0]) (post := aC bf ++ [.int .u64 0]) (vs := [.int .u64 (y.ev : Int)]) (rest := [(3, ros y.R), (4, .int .u64 (y.us : Int))]) rfl rfl rfl rfl rfl
  have h3 := cn (place := fun i => (#[(0, 1), (1, 1), (2, 1), (3, 21), (24, 1)] : Array (Nat × Nat))[i]?) (i := 3) (off := 3) (size := 21) (v := ros y.R) (pre := [.pointer (some ⟨q, 0, none⟩), .int .u64 (y.id : Int), .int .u64 (y.ev : Int)]) (mid := aC bf) (post := [.int .u64 0]) (vs := aC y.R) (rest := [(4, .int .u64 (y.us : Int))]) rfl rfl (aS y.R) rfl (aS bf)
  have h4 := cn (place := fun i => (#[(0, 1), (1, 1), (2, 1), (3, 21), (24, 1)] : Array (Nat × Nat))[i]?) (i := 4) (off := 24) (size := 1) (v := .int .u64 (y.us : Int)) (pre := .pointer (some ⟨q, 0, none⟩) :: .int .u64 (y.id : Int) :: .int .u64 (y.ev : Int) :: aC y.R) (mid := [.int .u64 0]) (post := []) (vs := [.int .u64 (y.us : Int)]) (rest := []) rfl rfl rfl (show (Value.pointer (some ⟨q, 0, none⟩) :: Value.int .u64 (y.id : Int) :: Value.int .u64 (y.ev : Int) :: aC y.R).length = 24 by rw [List.length_cons, List.length_cons, List.length_cons, aS]) rfl
  simp only [List.nil_append, List.append_nil, List.cons_append] at h0 h1 h2 h3 h4
  have h6 := h0.trans (h1.trans (h2.trans (h3.trans h4)))
  have hz' : (zeroValue 53).run Tryz.prog w = .ok (.agg (.pointer none :: .int .u64 0 :: .int .u64 0 :: (aC bf ++ [.int .u64 0])).toArray) w := hz
  have hc : (Value.agg (.pointer none :: .int .u64 0 :: .int .u64 0 :: (aC bf ++ [.int .u64 0])).toArray).cells = (.pointer none :: .int .u64 0 :: .int .u64 0 :: (aC bf ++ [.int .u64 0])).toArray := rfl
  simp only [Instr.build, Sem.run_bind, hz', run_underlying Tryz.underlying53, Result.andThen_ok, hc]
  refine Eq.trans (congrArg (fun r => Result.andThen r _) (?h : _ = Result.ok #[(0, 1), (1, 1), (2, 1), (3, 21), (24, 1)] w)) ?_
  case h => kernel_rfl
  simp only [Result.andThen_ok]
  have h5 : Instr.fill (fun i => (#[(0, 1), (1, 1), (2, 1), (3, 21), (24, 1)] : Array (Nat × Nat))[i]?) (phC (some ⟨q, 0, none⟩) y).toArray [] = some (phC (some ⟨q, 0, none⟩) y).toArray := by rw [Instr.fill]
  rw [h6.trans h5]
  rfl
theorem exec_bldHp (ho : o.op = .build 53 #[(0, x1), (1, x2), (2, x3), (3, x4), (4, x5)]) (h1 : ρ x1 = .pointer (some ⟨q, 0, none⟩)) (h2 : ρ x2 = .int .u64 (y.id : Int)) (h3 : ρ x3 = .int .u64 (y.ev : Int)) (h4 : ρ x4 = ros y.R) (h5 : ρ x5 = .int .u64 (y.us : Int)) : (execOp ρ o).run Tryz.prog w = .ok (.value (.agg (phC (some ⟨q, 0, none⟩) y).toArray)) w := by
  unfold execOp
  simp only [ho, h1, h2, h3, h4, h5, List.map_toArray, List.map_cons, List.map_nil, Sem.run_bind, run_bldHp, Result.andThen_ok, Sem.run_pure]
end
section
variable {w : World} {F : Nat → Prop} {q : Nat} {M : BenS}
def fitHb (M : BenS) (x : Ros) : Bool := decide ((M.ds.length : Int) = x.m + 1) && secK M x x.m.toNat
set_option maxHeartbeats 4000000 in
theorem hp_fits (x : Ros) (hg : geoB x = true) (hb : aT.Bn w F q M) : Calls Tryz.prog 35 #[.pointer (some ⟨q, 0, none⟩), geo x] w fun e w' => e = .returned (.bool (fitHb M x)) ∧ Below w.heap.size w w' := by
  obtain ⟨z0, hz0⟩ : ∃ z0, z0 = w.heap.size := ⟨_, rfl⟩
  rw [← hz0]
  have HZ0 := Lib.hid hz0
  obtain ⟨g1, g2, g3, g4, _⟩ := dC.1 hg
  obtain ⟨N, hN⟩ : ∃ N : Nat, x.m = (N : Int) := ⟨x.m.toNat, by omega⟩
  have hN' : x.m.toNat = N := by rw [hN]; rfl
  obtain ⟨fb, hfb⟩ : ∃ fb, fitHb M x = fb := ⟨_, rfl⟩
  rw [hfb]
  have HFB : Hid ((decide ((M.ds.length : Int) = x.m + 1) && secK M x N) = fb) := Lib.hid (by rw [← hfb]; unfold fitHb; rw [hN'])
  have HN := Lib.hid hN
  have HN16 : Hid (N ≤ 16) := Lib.hid (by omega)
  have HWA : Hid (IntKind.i64.wrap (x.m + 1) = x.m + 1) := Lib.hid (i64q_ ⟨by omega, by omega⟩)
  have HWS : Hid (IntKind.i64.wrap (x.s - 1) = x.s - 1) := Lib.hid (i64q_ ⟨by omega, by omega⟩)
  have hh : has 64 (x.s - 1) = true := has_iff.2 (by omega)
  have HSN : Hid (secN (x.s - 1) = x.s + 1) := Lib.hid (by unfold secN; rw [if_pos hh]; omega)
  have HSE : Hid (secE (x.s - 1) = 0) := Lib.hid (by unfold secE; rw [if_pos hh])
  have hb0 := (Below.refl w.heap.size w).alloc (Nat.le_refl _) (.cells (celG x).toArray 29)
  have HG := Lib.hid (heap_alloc_new w (.cells (celG x).toArray 29))
  have HB := Lib.hid hb0
  have HBN := Lib.hid (aT.below hb hb0)
  clear hz0 g1 g2 g3 g4 hN hN' hfb hh hg hb hb0
  go_enter Tryz.func35, Tryz.ntmps35
  go_upto_region 0 with fail
  refine wp_region_lit ?_
  refine af rfl (exec_boxG (y := x) rfl (ev rfl)) ?_
  simp only [Act.put, aa, ac, ae]
  generalize w.alloc (.cells (celG x).toArray 29) = w1 at *
  refine af (v := .bool false) rfl (aj rfl evk) ?_
  simp only [Act.put, aa, ac, ae]
  refine wpList_nil ?_
  cases hd : decide ((M.ds.length : Int) = x.m + 1)
  · have HNE : Hid (((M.ds.length : Int) != x.m + 1) = true) := Lib.hid (bne_iff_ne.2 (of_decide_eq_false hd))
    have HFF : Hid (fb = false) := Lib.hid (by rw [← HFB.out, hd]; rfl)
    clear hd
    go_upto_region 1 with fail
    refine aA (B := w1.heap.size) (by kernel_rfl) ?_
    refine aq rfl (fun w' hw => ag rfl (ev rfl)) ?_
    simp only [Act.put, aa, ac, ae]
    refine bi rfl (fun _ => ap Tryz.call33 rfl (evc (ev rfl) evn)) (aY (Nat.le_refl _) fun w' hw => aT.devices (aT.below HBN.out hw)) ?_
    simp only [Act.put, aa, ac, ae]
    refine aq rfl (fun w' hw => al rfl (ev rfl) faG0) ?_
    simp only [Act.put, aa, ac, ae]
    refine aq rfl (fun w' hw => au rfl (ev rfl) (bq ((aN (am HG.out hw)) 0 _ rfl))) ?_
    simp only [Act.put, aa, ac, ae]
    refine aq rfl (fun w' hw => bD rfl (ev rfl) evk HWA.out) ?_
    simp only [Act.put, aa, ac, ae]
    refine aq (v := .bool true) rfl (fun w' hw => aE true rfl (ev rfl) (ev rfl) HNE.out) ?_
    simp only [Act.put, aa, ac, ae]
    refine wpQuiet_nil ?_
    intro w2 hw
    have HB2 := Lib.hid (HB.out.trans (hw.mono HB.out.size))
    have HG2 := Lib.hid (am HG.out hw)
    have HBN2 := Lib.hid (aT.below HBN.out hw)
    clear hw
    go_upto_region 2 with fail
    refine wp_region_lit ?_
    refine af (v := .bool false) rfl (aj rfl evk) ?_
    simp only [Act.put, aa, ac, ae]
    refine wpList_nil ?_
    go_wp2_with fail
    go_ret
    exact ⟨by rw [HFF.out]; rfl, by rw [HZ0.out]; exact HB2.out⟩
  have HNE : Hid (((M.ds.length : Int) != x.m + 1) = false) := Lib.hid (by rw [of_decide_eq_true hd]; simp)
  have HFF : Hid (secK M x N = fb) := Lib.hid (by rw [← HFB.out, hd]; rfl)
  clear hd
  go_upto_region 1 with fail
  refine aA (B := w1.heap.size) (by kernel_rfl) ?_
  refine aq rfl (fun w' hw => ag rfl (ev rfl)) ?_
  simp only [Act.put, aa, ac, ae]
  refine bi rfl (fun _ => ap Tryz.call33 rfl (evc (ev rfl) evn)) (aY (Nat.le_refl _) fun w' hw => aT.devices (aT.below HBN.out hw)) ?_
  simp only [Act.put, aa, ac, ae]
  refine aq rfl (fun w' hw => al rfl (ev rfl) faG0) ?_
  simp only [Act.put, aa, ac, ae]
  refine aq rfl (fun w' hw => au rfl (ev rfl) (bq ((aN (am HG.out hw)) 0 _ rfl))) ?_
  simp only [Act.put, aa, ac, ae]
  refine aq rfl (fun w' hw => bD rfl (ev rfl) evk HWA.out) ?_
  simp only [Act.put, aa, ac, ae]
  refine aq (v := .bool false) rfl (fun w' hw => aE false rfl (ev rfl) (ev rfl) HNE.out) ?_
  simp only [Act.put, aa, ac, ae]
  refine wpQuiet_nil ?_
  intro w2 hw
  have HB2 := Lib.hid (HB.out.trans (hw.mono HB.out.size))
  have HG2 := Lib.hid (am HG.out hw)
  have HBN2 := Lib.hid (aT.below HBN.out hw)
  clear hw
  go_upto_region 3 with fail
  refine wp_region_lit ?_
  refine af rfl (al rfl (ev rfl) faG1) ?_
  simp only [Act.put, aa, ac, ae]
  refine af rfl (au rfl (ev rfl) (bq ((aN HG2.out) 1 _ rfl))) ?_
  simp only [Act.put, aa, ac, ae]
  refine af rfl (exec_sub rfl (ev rfl) evk HWS.out) ?_
  simp only [Act.put, aa, ac, ae]
  refine ak rfl (ap Tryz.call43 rfl (evc (ev rfl) evn)) ?_
  refine (sector_prog (x.s - 1) w2).mono ?_
  rintro e w3 ⟨rfl, b3⟩
  rw [HSN.out, HSE.out]
  have HB3 := Lib.hid (HB2.out.trans (b3.mono HB2.out.size))
  have HG3 := Lib.hid (am HG2.out b3)
  have HBN3 := Lib.hid (aT.below HBN2.out b3)
  clear b3
  refine ⟨_, rfl, ?_⟩
  simp only [Act.put, aa, ac, ae]
  refine af rfl (ag rfl (ev rfl)) ?_
  simp only [Act.put, aa, ac, ae]
  refine af rfl (ax rfl (ev rfl) rfl) ?_
  simp only [Act.put, aa, ac, ae]
  refine af rfl (ax rfl (ev rfl) rfl) ?_
  simp only [Act.put, aa, ac, ae]
  refine af rfl (aj rfl (ev rfl)) ?_
  simp only [Act.put, aa, ac, ae]
  refine af rfl (aj rfl (ev rfl)) ?_
  simp only [Act.put, aa, ac, ae]
  refine wpList_nil ?_
  go_upto_region 4 with fail
  refine wp_region_lit ?_
  refine af rfl (al rfl (ev rfl) faG0) ?_
  simp only [Act.put, aa, ac, ae]
  refine af rfl (au rfl (ev rfl) (bq (k := (N : Int)) (by rw [← HN.out]; exact (aN HG3.out) 0 _ rfl))) ?_
  simp only [Act.put, aa, ac, ae]
  refine af rfl (ag rfl evk) ?_
  simp only [Act.put, aa, ac, ae]
  refine wpList_nil ?_
  go_wp2_with fail
  go_loopw [23] (fun z wr => ∃ i : Nat, z = .int .i64 i ∧ i ≤ N ∧ Below w.heap.size w wr ∧ aT.Bn wr F q M ∧ secK M x i = true) (fun z _ => N - (intOf z).toNat)
  case atStart => exact ⟨0, by go_num, Nat.zero_le _, HB3.out, HBN3.out, rfl⟩
  case round =>
    obtain ⟨i, rfl, hi, hb, hn, hs⟩ := hrel
    have HBr := Lib.hid hb
    have HNr := Lib.hid hn
    have HSr := Lib.hid hs
    clear hb hn hs HB3 HG3 HBN3
    by_cases hlt : i < N
    · have HI := Lib.hid hlt
      have HLT : Hid (decide ((i : Int) < (N : Int)) = true) := Lib.hid (decide_eq_true (by omega))
      have HIA : Hid (IntKind.i64.wrap ((i : Int) + 1) = ((i + 1 : Nat) : Int)) := Lib.hid (by have := HN16.out; rw [i64q_ ⟨by omega, by omega⟩]; omega)
      clear hi hlt
      go_upto_region 5 with fail
      refine wp_region_lit ?_
      refine af (v := .bool true) rfl (bu true rfl (ev rfl) (ev rfl) HLT.out) ?_
      simp only [Act.put, aa, ac, ae]
      refine wpList_nil ?_
      go_upto_region 6 with fail
      refine wp_region_lit ?_
      refine af rfl (ag rfl (ev rfl)) ?_
      simp only [Act.put, aa, ac, ae]
      refine af rfl (aj rfl (ev rfl)) ?_
      simp only [Act.put, aa, ac, ae]
      refine wpList_nil ?_
      by_cases hse : seN6 M (i : Int) < 2 + x.s
      · have HLE : Hid (decide (seN6 M (i : Int) ≤ x.s + 1) = true) := Lib.hid (decide_eq_true (by omega))
        have HF2 : Hid (fb = false) := Lib.hid (by rw [← HFF.out]; exact secK_no hse HI.out)
        clear hse
        go_upto_region 7 with fail
        refine wp_region_lit ?_
        refine af rfl (ag rfl (ev rfl)) ?_
        simp only [Act.put, aa, ac, ae]
        refine af rfl (ag rfl (ev rfl)) ?_
        simp only [Act.put, aa, ac, ae]
        refine ak rfl (ap Tryz.call62 rfl (evc (ev rfl) (evc (ev rfl) evn))) ?_
        refine (aT.cR (i : Int) HNr.out).mono ?_
        rintro e w5 ⟨rfl, b5⟩
        have HB5 := Lib.hid (HBr.out.trans (b5.mono HBr.out.size))
        have HN5 := Lib.hid (aT.below HNr.out b5)
        clear b5
        refine ⟨_, rfl, ?_⟩
        simp only [Act.put, aa, ac, ae]
        refine af rfl (ag rfl (ev rfl)) ?_
        simp only [Act.put, aa, ac, ae]
        refine af (v := .bool true) rfl (dq true rfl (ev rfl) (ev rfl) HLE.out) ?_
        simp only [Act.put, aa, ac, ae]
        refine wpList_nil ?_
        go_upto_region 8 with fail
        refine wp_region_lit ?_
        refine af (v := .bool false) rfl (aj rfl evk) ?_
        simp only [Act.put, aa, ac, ae]
        refine wpList_nil ?_
        go_wp2_with fail
        go_ret
        exact ⟨by rw [HF2.out]; rfl, by rw [HZ0.out]; exact HB5.out⟩
      have HLE : Hid (decide (seN6 M (i : Int) ≤ x.s + 1) = false) := Lib.hid (decide_eq_false (by omega))
      have HS1 := Lib.hid (secK_step HSr.out hse)
      clear hse
      go_upto_region 7 with fail
      refine wp_region_lit ?_
      refine af rfl (ag rfl (ev rfl)) ?_
      simp only [Act.put, aa, ac, ae]
      refine af rfl (ag rfl (ev rfl)) ?_
      simp only [Act.put, aa, ac, ae]
      refine ak rfl (ap Tryz.call62 rfl (evc (ev rfl) (evc (ev rfl) evn))) ?_
      refine (aT.cR (i : Int) HNr.out).mono ?_
      rintro e w5 ⟨rfl, b5⟩
      have HB5 := Lib.hid (HBr.out.trans (b5.mono HBr.out.size))
      have HN5 := Lib.hid (aT.below HNr.out b5)
      clear b5
      refine ⟨_, rfl, ?_⟩
      simp only [Act.put, aa, ac, ae]
      refine af rfl (ag rfl (ev rfl)) ?_
      simp only [Act.put, aa, ac, ae]
      refine af (v := .bool false) rfl (dq false rfl (ev rfl) (ev rfl) HLE.out) ?_
      simp only [Act.put, aa, ac, ae]
      refine wpList_nil ?_
      go_upto_region 9 with fail
      refine wp_region_lit ?_
      refine af rfl (bD rfl (ev rfl) evk HIA.out) ?_
      simp only [Act.put, aa, ac, ae]
      refine af rfl (ag rfl (ev rfl)) ?_
      simp only [Act.put, aa, ac, ae]
      refine wpList_nil ?_
      go_wp2_with fail
      go_roundw
      case rel => exact ⟨i + 1, by go_num, HI.out, HB5.out, HN5.out, HS1.out⟩
      case measure => have := HI.out; simp [intOf]; omega
    have hin : i = N := by omega
    subst hin
    have HLT : Hid (decide ((i : Int) < (i : Int)) = false) := Lib.hid (decide_eq_false (by omega))
    have HF2 : Hid (fb = true) := Lib.hid (by rw [← HFF.out]; exact HSr.out)
    clear hi hlt
    go_upto_region 5 with fail
    refine wp_region_lit ?_
    refine af (v := .bool false) rfl (bu false rfl (ev rfl) (ev rfl) HLT.out) ?_
    simp only [Act.put, aa, ac, ae]
    refine wpList_nil ?_
    go_upto_region 10 with fail
    refine wp_region_lit ?_
    refine af rfl (ag rfl (ev rfl)) ?_
    simp only [Act.put, aa, ac, ae]
    refine af (v := .bool true) rfl (ar true rfl (ev rfl) evk rfl) ?_
    simp only [Act.put, aa, ac, ae]
    refine af (v := .bool true) rfl (aj rfl (ev rfl)) ?_
    simp only [Act.put, aa, ac, ae]
    refine wpList_nil ?_
    go_wp2_with fail
    go_ret
    exact ⟨by rw [HF2.out]; rfl, by rw [HZ0.out]; exact HBr.out⟩
theorem hnw_fit (M : BenS) (id en : Nat) (x : Ros) : hnwB M id en x = (!decide (id = 0) && (!decide (2305843009213693952 < en) && (aG x && fitHb M x))) := rfl
def HNewQ (w : World) (q : Nat) (M : BenS) (id en : Nat) (x : Ros) (e : Ending) (w' : World) : Prop :=
  Below w.heap.size w w' ∧ ((hnwB M id en x = true ∧ ∃ p, e = .returned (.tuple #[.pointer (some ⟨p, 0, none⟩), .int .i64 0]) ∧ PHu w' p q ⟨id, en, en, x⟩ ∧ w.heap.size ≤ p) ∨ (hnwB M id en x = false ∧ e = .returned (.tuple #[.pointer none, .int .i64 2])))
set_option maxHeartbeats 4000000 in
theorem hp_new0 (id en : Nat) (x : Ros) (hb : aT.Bn w F q M) (h0 : id = 0) : Calls Tryz.prog 17 #[.pointer (some ⟨q, 0, none⟩), .int .u64 (id : Int), .int .u64 (en : Int), ros x] w (HNewQ w q M id en x) := by
  have hb0 := (Below.refl w.heap.size w).alloc (Nat.le_refl _) (.cells (aC x).toArray 32)
  have HR1 := Lib.hid (a6.new w x)
  have HB1 := Lib.hid hb0
  have HBN := Lib.hid (aT.below hb hb0)
  have HD : Hid (((M.ds.length : Int) == 0) = false) := Lib.hid (by have := (aT.wf hb).one; exact beq_eq_false_iff_ne.2 (by omega))
  have HI0 : Hid (((id : Int) == 0) = true) := Lib.hid (by rw [h0]; rfl)
  have HNO : Hid (hnwB M id en x = false) := Lib.hid (by rw [hnw_fit, decide_eq_true h0]; rfl)
  clear h0
  clear hb hb0
  go_enter Tryz.func17, Tryz.ntmps17
  go_upto_region 0 with fail
  refine wp_region_lit ?_
  refine af rfl (aH rfl (ev rfl)) ?_
  simp only [Act.put, aa, ac, ae]
  generalize w.alloc (.cells (aC x).toArray 32) = w1 at *
  refine af rfl (aj rfl evk) ?_
  simp only [Act.put, aa, ac, ae]
  refine af rfl (aj rfl evk) ?_
  simp only [Act.put, aa, ac, ae]
  refine wpList_nil ?_
  go_upto_region 1 with fail
  refine wp_region_lit ?_
  refine af rfl (ag rfl (ev rfl)) ?_
  simp only [Act.put, aa, ac, ae]
  refine ak rfl (ap Tryz.call33 rfl (evc (ev rfl) evn)) ?_
  refine (aT.devices HBN.out).mono ?_
  rintro e w2 ⟨rfl, b2⟩
  have HB2 := Lib.hid (HB1.out.trans (b2.mono HB1.out.size))
  have HR2 : Hid (a6 w2 w.heap.size x) := Lib.hid (am HR1.out b2)
  have HBN2 := Lib.hid (aT.below HBN.out b2)
  clear b2
  refine ⟨_, rfl, ?_⟩
  simp only [Act.put, aa, ac, ae]
  refine af (v := .bool false) rfl (ar false rfl (ev rfl) evk HD.out) ?_
  simp only [Act.put, aa, ac, ae]
  refine wpList_nil ?_
  go_upto_region 3 with fail
  refine wp_region_lit ?_
  refine af rfl (ag rfl (ev rfl)) ?_
  simp only [Act.put, aa, ac, ae]
  refine af (v := .bool true) rfl (ar true rfl (ev rfl) evk HI0.out) ?_
  simp only [Act.put, aa, ac, ae]
  refine aU 2 (v := .bool true) rfl (ag rfl (ev rfl)) (by kernel_rfl) ?_
  simp only [bg, List.take_succ_cons, List.take_zero, List.drop_succ_cons, List.drop_zero, Act.put, List.setIfInBounds_toArray, List.set_cons_succ, List.set_cons_zero]
  refine af (v := .bool true) rfl (aK rfl (ev rfl) evk) ?_
  simp only [Act.put, aa, ac, ae]
  refine aU 3 (v := .bool true) rfl (ag rfl (ev rfl)) (by kernel_rfl) ?_
  simp only [bg, List.take_succ_cons, List.take_zero, List.drop_succ_cons, List.drop_zero, Act.put, List.setIfInBounds_toArray, List.set_cons_succ, List.set_cons_zero]
  refine af (v := .bool true) rfl (aK rfl (ev rfl) evk) ?_
  simp only [Act.put, aa, ac, ae]
  refine aU 5 (v := .bool true) rfl (ag rfl (ev rfl)) (by kernel_rfl) ?_
  simp only [bg, List.take_succ_cons, List.take_zero, List.drop_succ_cons, List.drop_zero, Act.put, List.setIfInBounds_toArray, List.set_cons_succ, List.set_cons_zero]
  refine af (v := .bool true) rfl (aK rfl (ev rfl) evk) ?_
  simp only [Act.put, aa, ac, ae]
  refine wpList_nil ?_
  go_upto_region 4 with fail
  refine wp_region_lit ?_
  refine af rfl (aj rfl evk) ?_
  simp only [Act.put, aa, ac, ae]
  refine af rfl (aj rfl evk) ?_
  simp only [Act.put, aa, ac, ae]
  refine wpList_nil ?_
  go_wp2_with fail
  go_ret2
  exact ⟨HB2.out, .inr ⟨HNO.out, rfl⟩⟩
set_option maxHeartbeats 4000000 in
theorem hp_new1 (id en : Nat) (x : Ros) (hb : aT.Bn w F q M) (h0 : id ≠ 0) (h1 : 2305843009213693952 < en) : Calls Tryz.prog 17 #[.pointer (some ⟨q, 0, none⟩), .int .u64 (id : Int), .int .u64 (en : Int), ros x] w (HNewQ w q M id en x) := by
  have hb0 := (Below.refl w.heap.size w).alloc (Nat.le_refl _) (.cells (aC x).toArray 32)
  have HR1 := Lib.hid (a6.new w x)
  have HB1 := Lib.hid hb0
  have HBN := Lib.hid (aT.below hb hb0)
  have HD : Hid (((M.ds.length : Int) == 0) = false) := Lib.hid (by have := (aT.wf hb).one; exact beq_eq_false_iff_ne.2 (by omega))
  have HI0 : Hid (((id : Int) == 0) = false) := Lib.hid (beq_eq_false_iff_ne.2 (by omega))
  have HE0 : Hid (decide ((2305843009213693952 : Int) < (en : Int)) = true) := Lib.hid (decide_eq_true (by omega))
  have HNO : Hid (hnwB M id en x = false) := Lib.hid (by rw [hnw_fit, decide_eq_true h1]; simp)
  clear h0 h1
  clear hb hb0
  go_enter Tryz.func17, Tryz.ntmps17
  go_upto_region 0 with fail
  refine wp_region_lit ?_
  refine af rfl (aH rfl (ev rfl)) ?_
  simp only [Act.put, aa, ac, ae]
  generalize w.alloc (.cells (aC x).toArray 32) = w1 at *
  refine af rfl (aj rfl evk) ?_
  simp only [Act.put, aa, ac, ae]
  refine af rfl (aj rfl evk) ?_
  simp only [Act.put, aa, ac, ae]
  refine wpList_nil ?_
  go_upto_region 1 with fail
  refine wp_region_lit ?_
  refine af rfl (ag rfl (ev rfl)) ?_
  simp only [Act.put, aa, ac, ae]
  refine ak rfl (ap Tryz.call33 rfl (evc (ev rfl) evn)) ?_
  refine (aT.devices HBN.out).mono ?_
  rintro e w2 ⟨rfl, b2⟩
  have HB2 := Lib.hid (HB1.out.trans (b2.mono HB1.out.size))
  have HR2 : Hid (a6 w2 w.heap.size x) := Lib.hid (am HR1.out b2)
  have HBN2 := Lib.hid (aT.below HBN.out b2)
  clear b2
  refine ⟨_, rfl, ?_⟩
  simp only [Act.put, aa, ac, ae]
  refine af (v := .bool false) rfl (ar false rfl (ev rfl) evk HD.out) ?_
  simp only [Act.put, aa, ac, ae]
  refine wpList_nil ?_
  go_upto_region 3 with fail
  refine wp_region_lit ?_
  refine af rfl (ag rfl (ev rfl)) ?_
  simp only [Act.put, aa, ac, ae]
  refine af (v := .bool false) rfl (ar false rfl (ev rfl) evk HI0.out) ?_
  simp only [Act.put, aa, ac, ae]
  refine af (v := .bool false) rfl (ag rfl (ev rfl)) ?_
  simp only [Act.put, aa, ac, ae]
  refine ah (ai rfl rfl rfl rfl) (ag rfl (ev rfl)) ?_
  simp only [Act.put, aa, ac, ae]
  refine ah (v := .bool true) (ai rfl rfl rfl rfl) (cD true rfl (ev rfl) evk HE0.out) ?_
  simp only [Act.put, aa, ac, ae]
  refine af (v := .bool true) rfl (aI rfl (ev rfl) (ev rfl)) ?_
  simp only [Act.put, aa, ac, ae]
  refine aU 3 (v := .bool true) rfl (ag rfl (ev rfl)) (by kernel_rfl) ?_
  simp only [bg, List.take_succ_cons, List.take_zero, List.drop_succ_cons, List.drop_zero, Act.put, List.setIfInBounds_toArray, List.set_cons_succ, List.set_cons_zero]
  refine af (v := .bool true) rfl (aK rfl (ev rfl) evk) ?_
  simp only [Act.put, aa, ac, ae]
  refine aU 5 (v := .bool true) rfl (ag rfl (ev rfl)) (by kernel_rfl) ?_
  simp only [bg, List.take_succ_cons, List.take_zero, List.drop_succ_cons, List.drop_zero, Act.put, List.setIfInBounds_toArray, List.set_cons_succ, List.set_cons_zero]
  refine af (v := .bool true) rfl (aK rfl (ev rfl) evk) ?_
  simp only [Act.put, aa, ac, ae]
  refine wpList_nil ?_
  go_upto_region 4 with fail
  refine wp_region_lit ?_
  refine af rfl (aj rfl evk) ?_
  simp only [Act.put, aa, ac, ae]
  refine af rfl (aj rfl evk) ?_
  simp only [Act.put, aa, ac, ae]
  refine wpList_nil ?_
  go_wp2_with fail
  go_ret2
  exact ⟨HB2.out, .inr ⟨HNO.out, rfl⟩⟩
set_option maxHeartbeats 4000000 in
theorem hp_new2 (id en : Nat) (x : Ros) (hb : aT.Bn w F q M) (h0 : id ≠ 0) (h1 : ¬ 2305843009213693952 < en) (h2 : aG x = false) : Calls Tryz.prog 17 #[.pointer (some ⟨q, 0, none⟩), .int .u64 (id : Int), .int .u64 (en : Int), ros x] w (HNewQ w q M id en x) := by
  have hb0 := (Below.refl w.heap.size w).alloc (Nat.le_refl _) (.cells (aC x).toArray 32)
  have HR1 := Lib.hid (a6.new w x)
  have HB1 := Lib.hid hb0
  have HBN := Lib.hid (aT.below hb hb0)
  have HD : Hid (((M.ds.length : Int) == 0) = false) := Lib.hid (by have := (aT.wf hb).one; exact beq_eq_false_iff_ne.2 (by omega))
  have HI0 : Hid (((id : Int) == 0) = false) := Lib.hid (beq_eq_false_iff_ne.2 (by omega))
  have HE0 : Hid (decide ((2305843009213693952 : Int) < (en : Int)) = false) := Lib.hid (decide_eq_false (by omega))
  have HM := Lib.hid h2
  have HNO : Hid (hnwB M id en x = false) := Lib.hid (by rw [hnw_fit, h2]; simp)
  clear h0 h1 h2
  clear hb hb0
  go_enter Tryz.func17, Tryz.ntmps17
  go_upto_region 0 with fail
  refine wp_region_lit ?_
  refine af rfl (aH rfl (ev rfl)) ?_
  simp only [Act.put, aa, ac, ae]
  generalize w.alloc (.cells (aC x).toArray 32) = w1 at *
  refine af rfl (aj rfl evk) ?_
  simp only [Act.put, aa, ac, ae]
  refine af rfl (aj rfl evk) ?_
  simp only [Act.put, aa, ac, ae]
  refine wpList_nil ?_
  go_upto_region 1 with fail
  refine wp_region_lit ?_
  refine af rfl (ag rfl (ev rfl)) ?_
  simp only [Act.put, aa, ac, ae]
  refine ak rfl (ap Tryz.call33 rfl (evc (ev rfl) evn)) ?_
  refine (aT.devices HBN.out).mono ?_
  rintro e w2 ⟨rfl, b2⟩
  have HB2 := Lib.hid (HB1.out.trans (b2.mono HB1.out.size))
  have HR2 : Hid (a6 w2 w.heap.size x) := Lib.hid (am HR1.out b2)
  have HBN2 := Lib.hid (aT.below HBN.out b2)
  clear b2
  refine ⟨_, rfl, ?_⟩
  simp only [Act.put, aa, ac, ae]
  refine af (v := .bool false) rfl (ar false rfl (ev rfl) evk HD.out) ?_
  simp only [Act.put, aa, ac, ae]
  refine wpList_nil ?_
  go_upto_region 3 with fail
  refine wp_region_lit ?_
  refine af rfl (ag rfl (ev rfl)) ?_
  simp only [Act.put, aa, ac, ae]
  refine af (v := .bool false) rfl (ar false rfl (ev rfl) evk HI0.out) ?_
  simp only [Act.put, aa, ac, ae]
  refine af (v := .bool false) rfl (ag rfl (ev rfl)) ?_
  simp only [Act.put, aa, ac, ae]
  refine ah (ai rfl rfl rfl rfl) (ag rfl (ev rfl)) ?_
  simp only [Act.put, aa, ac, ae]
  refine ah (v := .bool false) (ai rfl rfl rfl rfl) (cD false rfl (ev rfl) evk HE0.out) ?_
  simp only [Act.put, aa, ac, ae]
  refine af (v := .bool false) rfl (aI rfl (ev rfl) (ev rfl)) ?_
  simp only [Act.put, aa, ac, ae]
  refine af (v := .bool false) rfl (ag rfl (ev rfl)) ?_
  simp only [Act.put, aa, ac, ae]
  refine ah (ai rfl rfl rfl rfl) (aP rfl (ev rfl) HR2.out.range) ?_
  simp only [Act.put, aa, ac, ae]
  refine ak (ai rfl rfl rfl rfl) (ap Tryz.call34 rfl (evc (ev rfl) evn)) ?_
  refine (co w2 HM.out).mono ?_
  rintro e w3 ⟨rfl, b3⟩
  have HB3 := Lib.hid (HB2.out.trans (b3.mono HB2.out.size))
  have HR3 : Hid (a6 w3 w.heap.size x) := Lib.hid (am HR2.out b3)
  have HBN3 := Lib.hid (aT.below HBN2.out b3)
  clear b3
  refine ⟨_, rfl, ?_⟩
  simp only [Act.put, aa, ac, ae]
  refine ah (v := .bool true) (ai rfl rfl rfl rfl) (az false rfl (ev rfl)) ?_
  simp only [Act.put, aa, ac, ae]
  refine af (v := .bool true) rfl (aI rfl (ev rfl) (ev rfl)) ?_
  simp only [Act.put, aa, ac, ae]
  refine aU 5 (v := .bool true) rfl (ag rfl (ev rfl)) (by kernel_rfl) ?_
  simp only [bg, List.take_succ_cons, List.take_zero, List.drop_succ_cons, List.drop_zero, Act.put, List.setIfInBounds_toArray, List.set_cons_succ, List.set_cons_zero]
  refine af (v := .bool true) rfl (aK rfl (ev rfl) evk) ?_
  simp only [Act.put, aa, ac, ae]
  refine wpList_nil ?_
  go_upto_region 4 with fail
  refine wp_region_lit ?_
  refine af rfl (aj rfl evk) ?_
  simp only [Act.put, aa, ac, ae]
  refine af rfl (aj rfl evk) ?_
  simp only [Act.put, aa, ac, ae]
  refine wpList_nil ?_
  go_wp2_with fail
  go_ret2
  exact ⟨HB3.out, .inr ⟨HNO.out, rfl⟩⟩
set_option maxHeartbeats 4000000 in
theorem hp_new3 (id en : Nat) (x : Ros) (hb : aT.Bn w F q M) (h0 : id ≠ 0) (h1 : ¬ 2305843009213693952 < en) (h2 : aG x = true) (h3 : fitHb M x = false) : Calls Tryz.prog 17 #[.pointer (some ⟨q, 0, none⟩), .int .u64 (id : Int), .int .u64 (en : Int), ros x] w (HNewQ w q M id en x) := by
  have hb0 := (Below.refl w.heap.size w).alloc (Nat.le_refl _) (.cells (aC x).toArray 32)
  have HR1 := Lib.hid (a6.new w x)
  have HB1 := Lib.hid hb0
  have HBN := Lib.hid (aT.below hb hb0)
  have HD : Hid (((M.ds.length : Int) == 0) = false) := Lib.hid (by have := (aT.wf hb).one; exact beq_eq_false_iff_ne.2 (by omega))
  have HI0 : Hid (((id : Int) == 0) = false) := Lib.hid (beq_eq_false_iff_ne.2 (by omega))
  have HE0 : Hid (decide ((2305843009213693952 : Int) < (en : Int)) = false) := Lib.hid (decide_eq_false (by omega))
  have HM := Lib.hid h2
  have HGE : Hid (geoB x = true) := Lib.hid (by have h2' := h2; unfold aG at h2'; simp only [Bool.and_eq_true] at h2'; exact h2'.1.1.1)
  have HFT := Lib.hid h3
  have HNO : Hid (hnwB M id en x = false) := Lib.hid (by rw [hnw_fit, h3]; simp)
  clear h0 h1 h2 h3
  clear hb hb0
  go_enter Tryz.func17, Tryz.ntmps17
  go_upto_region 0 with fail
  refine wp_region_lit ?_
  refine af rfl (aH rfl (ev rfl)) ?_
  simp only [Act.put, aa, ac, ae]
  generalize w.alloc (.cells (aC x).toArray 32) = w1 at *
  refine af rfl (aj rfl evk) ?_
  simp only [Act.put, aa, ac, ae]
  refine af rfl (aj rfl evk) ?_
  simp only [Act.put, aa, ac, ae]
  refine wpList_nil ?_
  go_upto_region 1 with fail
  refine wp_region_lit ?_
  refine af rfl (ag rfl (ev rfl)) ?_
  simp only [Act.put, aa, ac, ae]
  refine ak rfl (ap Tryz.call33 rfl (evc (ev rfl) evn)) ?_
  refine (aT.devices HBN.out).mono ?_
  rintro e w2 ⟨rfl, b2⟩
  have HB2 := Lib.hid (HB1.out.trans (b2.mono HB1.out.size))
  have HR2 : Hid (a6 w2 w.heap.size x) := Lib.hid (am HR1.out b2)
  have HBN2 := Lib.hid (aT.below HBN.out b2)
  clear b2
  refine ⟨_, rfl, ?_⟩
  simp only [Act.put, aa, ac, ae]
  refine af (v := .bool false) rfl (ar false rfl (ev rfl) evk HD.out) ?_
  simp only [Act.put, aa, ac, ae]
  refine wpList_nil ?_
  go_upto_region 3 with fail
  refine wp_region_lit ?_
  refine af rfl (ag rfl (ev rfl)) ?_
  simp only [Act.put, aa, ac, ae]
  refine af (v := .bool false) rfl (ar false rfl (ev rfl) evk HI0.out) ?_
  simp only [Act.put, aa, ac, ae]
  refine af (v := .bool false) rfl (ag rfl (ev rfl)) ?_
  simp only [Act.put, aa, ac, ae]
  refine ah (ai rfl rfl rfl rfl) (ag rfl (ev rfl)) ?_
  simp only [Act.put, aa, ac, ae]
  refine ah (v := .bool false) (ai rfl rfl rfl rfl) (cD false rfl (ev rfl) evk HE0.out) ?_
  simp only [Act.put, aa, ac, ae]
  refine af (v := .bool false) rfl (aI rfl (ev rfl) (ev rfl)) ?_
  simp only [Act.put, aa, ac, ae]
  refine af (v := .bool false) rfl (ag rfl (ev rfl)) ?_
  simp only [Act.put, aa, ac, ae]
  refine ah (ai rfl rfl rfl rfl) (aP rfl (ev rfl) HR2.out.range) ?_
  simp only [Act.put, aa, ac, ae]
  refine ak (ai rfl rfl rfl rfl) (ap Tryz.call34 rfl (evc (ev rfl) evn)) ?_
  refine (co w2 HM.out).mono ?_
  rintro e w3 ⟨rfl, b3⟩
  have HB3 := Lib.hid (HB2.out.trans (b3.mono HB2.out.size))
  have HR3 : Hid (a6 w3 w.heap.size x) := Lib.hid (am HR2.out b3)
  have HBN3 := Lib.hid (aT.below HBN2.out b3)
  clear b3
  refine ⟨_, rfl, ?_⟩
  simp only [Act.put, aa, ac, ae]
  refine ah (v := .bool false) (ai rfl rfl rfl rfl) (az true rfl (ev rfl)) ?_
  simp only [Act.put, aa, ac, ae]
  refine af (v := .bool false) rfl (aI rfl (ev rfl) (ev rfl)) ?_
  simp only [Act.put, aa, ac, ae]
  refine af (v := .bool false) rfl (ag rfl (ev rfl)) ?_
  simp only [Act.put, aa, ac, ae]
  refine ah (ai rfl rfl rfl rfl) (ag rfl (ev rfl)) ?_
  simp only [Act.put, aa, ac, ae]
  refine ah (ai rfl rfl rfl rfl) (al rfl (ev rfl) faR0) ?_
  simp only [Act.put, aa, ac, ae]
  refine ah (ai rfl rfl rfl rfl) (cM rfl (ev rfl) HR3.out.geo) ?_
  simp only [Act.put, aa, ac, ae]
  refine ak (ai rfl rfl rfl rfl) (ap Tryz.call35 rfl (evc (ev rfl) (evc (ev rfl) evn))) ?_
  refine (hp_fits x HGE.out HBN3.out).mono ?_
  rintro e w4 ⟨rfl, b4⟩
  rw [HFT.out]
  have HB4 := Lib.hid (HB3.out.trans (b4.mono HB3.out.size))
  have HR4 : Hid (a6 w4 w.heap.size x) := Lib.hid (am HR3.out b4)
  have HBN4 := Lib.hid (aT.below HBN3.out b4)
  clear b4
  refine ⟨_, rfl, ?_⟩
  simp only [Act.put, aa, ac, ae]
  refine ah (v := .bool true) (ai rfl rfl rfl rfl) (az false rfl (ev rfl)) ?_
  simp only [Act.put, aa, ac, ae]
  refine af (v := .bool true) rfl (aI rfl (ev rfl) (ev rfl)) ?_
  simp only [Act.put, aa, ac, ae]
  refine wpList_nil ?_
  go_upto_region 4 with fail
  refine wp_region_lit ?_
  refine af rfl (aj rfl evk) ?_
  simp only [Act.put, aa, ac, ae]
  refine af rfl (aj rfl evk) ?_
  simp only [Act.put, aa, ac, ae]
  refine wpList_nil ?_
  go_wp2_with fail
  go_ret2
  exact ⟨HB4.out, .inr ⟨HNO.out, rfl⟩⟩
set_option maxHeartbeats 4000000 in
theorem hp_new4 (id en : Nat) (x : Ros) (hb : aT.Bn w F q M) (h0 : id ≠ 0) (h1 : ¬ 2305843009213693952 < en) (h2 : aG x = true) (h3 : fitHb M x = true) : Calls Tryz.prog 17 #[.pointer (some ⟨q, 0, none⟩), .int .u64 (id : Int), .int .u64 (en : Int), ros x] w (HNewQ w q M id en x) := by
  have hb0 := (Below.refl w.heap.size w).alloc (Nat.le_refl _) (.cells (aC x).toArray 32)
  have HR1 := Lib.hid (a6.new w x)
  have HB1 := Lib.hid hb0
  have HBN := Lib.hid (aT.below hb hb0)
  have HD : Hid (((M.ds.length : Int) == 0) = false) := Lib.hid (by have := (aT.wf hb).one; exact beq_eq_false_iff_ne.2 (by omega))
  have HI0 : Hid (((id : Int) == 0) = false) := Lib.hid (beq_eq_false_iff_ne.2 (by omega))
  have HE0 : Hid (decide ((2305843009213693952 : Int) < (en : Int)) = false) := Lib.hid (decide_eq_false (by omega))
  have HM := Lib.hid h2
  have HGE : Hid (geoB x = true) := Lib.hid (by have h2' := h2; unfold aG at h2'; simp only [Bool.and_eq_true] at h2'; exact h2'.1.1.1)
  have HFT := Lib.hid h3
  have HYE : Hid (hnwB M id en x = true) := Lib.hid (by rw [hnw_fit, h2, h3, decide_eq_false h0, decide_eq_false h1]; rfl)
  clear h0 h1 h2 h3
  clear hb hb0
  go_enter Tryz.func17, Tryz.ntmps17
  go_upto_region 0 with fail
  refine wp_region_lit ?_
  refine af rfl (aH rfl (ev rfl)) ?_
  simp only [Act.put, aa, ac, ae]
  generalize w.alloc (.cells (aC x).toArray 32) = w1 at *
  refine af rfl (aj rfl evk) ?_
  simp only [Act.put, aa, ac, ae]
  refine af rfl (aj rfl evk) ?_
  simp only [Act.put, aa, ac, ae]
  refine wpList_nil ?_
  go_upto_region 1 with fail
  refine wp_region_lit ?_
  refine af rfl (ag rfl (ev rfl)) ?_
  simp only [Act.put, aa, ac, ae]
  refine ak rfl (ap Tryz.call33 rfl (evc (ev rfl) evn)) ?_
  refine (aT.devices HBN.out).mono ?_
  rintro e w2 ⟨rfl, b2⟩
  have HB2 := Lib.hid (HB1.out.trans (b2.mono HB1.out.size))
  have HR2 : Hid (a6 w2 w.heap.size x) := Lib.hid (am HR1.out b2)
  have HBN2 := Lib.hid (aT.below HBN.out b2)
  clear b2
  refine ⟨_, rfl, ?_⟩
  simp only [Act.put, aa, ac, ae]
  refine af (v := .bool false) rfl (ar false rfl (ev rfl) evk HD.out) ?_
  simp only [Act.put, aa, ac, ae]
  refine wpList_nil ?_
  go_upto_region 3 with fail
  refine wp_region_lit ?_
  refine af rfl (ag rfl (ev rfl)) ?_
  simp only [Act.put, aa, ac, ae]
  refine af (v := .bool false) rfl (ar false rfl (ev rfl) evk HI0.out) ?_
  simp only [Act.put, aa, ac, ae]
  refine af (v := .bool false) rfl (ag rfl (ev rfl)) ?_
  simp only [Act.put, aa, ac, ae]
  refine ah (ai rfl rfl rfl rfl) (ag rfl (ev rfl)) ?_
  simp only [Act.put, aa, ac, ae]
  refine ah (v := .bool false) (ai rfl rfl rfl rfl) (cD false rfl (ev rfl) evk HE0.out) ?_
  simp only [Act.put, aa, ac, ae]
  refine af (v := .bool false) rfl (aI rfl (ev rfl) (ev rfl)) ?_
  simp only [Act.put, aa, ac, ae]
  refine af (v := .bool false) rfl (ag rfl (ev rfl)) ?_
  simp only [Act.put, aa, ac, ae]
  refine ah (ai rfl rfl rfl rfl) (aP rfl (ev rfl) HR2.out.range) ?_
  simp only [Act.put, aa, ac, ae]
  refine ak (ai rfl rfl rfl rfl) (ap Tryz.call34 rfl (evc (ev rfl) evn)) ?_
  refine (co w2 HM.out).mono ?_
  rintro e w3 ⟨rfl, b3⟩
  have HB3 := Lib.hid (HB2.out.trans (b3.mono HB2.out.size))
  have HR3 : Hid (a6 w3 w.heap.size x) := Lib.hid (am HR2.out b3)
  have HBN3 := Lib.hid (aT.below HBN2.out b3)
  clear b3
  refine ⟨_, rfl, ?_⟩
  simp only [Act.put, aa, ac, ae]
  refine ah (v := .bool false) (ai rfl rfl rfl rfl) (az true rfl (ev rfl)) ?_
  simp only [Act.put, aa, ac, ae]
  refine af (v := .bool false) rfl (aI rfl (ev rfl) (ev rfl)) ?_
  simp only [Act.put, aa, ac, ae]
  refine af (v := .bool false) rfl (ag rfl (ev rfl)) ?_
  simp only [Act.put, aa, ac, ae]
  refine ah (ai rfl rfl rfl rfl) (ag rfl (ev rfl)) ?_
  simp only [Act.put, aa, ac, ae]
  refine ah (ai rfl rfl rfl rfl) (al rfl (ev rfl) faR0) ?_
  simp only [Act.put, aa, ac, ae]
  refine ah (ai rfl rfl rfl rfl) (cM rfl (ev rfl) HR3.out.geo) ?_
  simp only [Act.put, aa, ac, ae]
  refine ak (ai rfl rfl rfl rfl) (ap Tryz.call35 rfl (evc (ev rfl) (evc (ev rfl) evn))) ?_
  refine (hp_fits x HGE.out HBN3.out).mono ?_
  rintro e w4 ⟨rfl, b4⟩
  rw [HFT.out]
  have HB4 := Lib.hid (HB3.out.trans (b4.mono HB3.out.size))
  have HR4 : Hid (a6 w4 w.heap.size x) := Lib.hid (am HR3.out b4)
  have HBN4 := Lib.hid (aT.below HBN3.out b4)
  clear b4
  refine ⟨_, rfl, ?_⟩
  simp only [Act.put, aa, ac, ae]
  refine ah (v := .bool false) (ai rfl rfl rfl rfl) (az true rfl (ev rfl)) ?_
  simp only [Act.put, aa, ac, ae]
  refine af (v := .bool false) rfl (aI rfl (ev rfl) (ev rfl)) ?_
  simp only [Act.put, aa, ac, ae]
  refine wpList_nil ?_
  go_upto_region 5 with fail
  refine wp_region_lit ?_
  refine af rfl (ag rfl (ev rfl)) ?_
  simp only [Act.put, aa, ac, ae]
  refine af rfl (ag rfl (ev rfl)) ?_
  simp only [Act.put, aa, ac, ae]
  refine af rfl (ag rfl (ev rfl)) ?_
  simp only [Act.put, aa, ac, ae]
  refine af rfl (aP rfl (ev rfl) HR4.out.range) ?_
  simp only [Act.put, aa, ac, ae]
  refine af rfl (ag rfl (ev rfl)) ?_
  simp only [Act.put, aa, ac, ae]
  refine af rfl (exec_bldHp (y := ⟨id, en, en, x⟩) rfl (ev rfl) (ev rfl) (ev rfl) (ev rfl) (ev rfl)) ?_
  simp only [Act.put, aa, ac, ae]
  refine af rfl (bS (cs := (phC (some ⟨q, 0, none⟩) ⟨id, en, en, x⟩)) rfl (ev rfl)) ?_
  simp only [Act.put, aa, ac, ae]
  refine af rfl (aj rfl (ev rfl)) ?_
  simp only [Act.put, aa, ac, ae]
  refine af rfl (aj rfl evk) ?_
  simp only [Act.put, aa, ac, ae]
  refine wpList_nil ?_
  go_wp2_with fail
  go_ret2
  exact ⟨HB4.out.alloc HB4.out.size _, .inl ⟨HYE.out, w4.heap.size, rfl, heap_alloc_new w4 _, HB4.out.size⟩⟩
theorem hp_new (id en : Nat) (x : Ros) (hb : aT.Bn w F q M) : Calls Tryz.prog 17 #[.pointer (some ⟨q, 0, none⟩), .int .u64 (id : Int), .int .u64 (en : Int), ros x] w (HNewQ w q M id en x) := by
  by_cases h0 : id = 0
  · exact hp_new0 id en x hb h0
  by_cases h1 : 2305843009213693952 < en
  · exact hp_new1 id en x hb h0 h1
  cases h2 : aG x
  · exact hp_new2 id en x hb h0 h1 h2
  cases h3 : fitHb M x
  · exact hp_new3 id en x hb h0 h1 h2 h3
  · exact hp_new4 id en x hb h0 h1 h2 h3
end
theorem hp_new_no (w : World) (v : Value) (id en : Nat) (x : Ros) (hd : ∀ w1, Below w.heap.size w w1 → Calls Tryz.prog 33 #[v] w1 fun e w' => e = .returned (.int .i64 0) ∧ w1 = w') : Calls Tryz.prog 17 #[v, .int .u64 (id : Int), .int .u64 (en : Int), ros x] w fun e w' => e = .returned (.tuple #[.pointer none, .int .i64 1]) ∧ Below w.heap.size w w' := by
  have hb0 := (Below.refl w.heap.size w).alloc (Nat.le_refl _) (.cells (aC x).toArray 32)
  have HB1 := Lib.hid hb0
  have HDV := Lib.hid (hd _ hb0)
  clear hd hb0
  go_enter Tryz.func17, Tryz.ntmps17
  go_upto_region 0 with fail
  refine wp_region_lit ?_
  refine af rfl (aH rfl (ev rfl)) ?_
  simp only [Act.put, aa, ac, ae]
  generalize w.alloc (.cells (aC x).toArray 32) = w1 at *
  refine af rfl (aj rfl evk) ?_
  simp only [Act.put, aa, ac, ae]
  refine af rfl (aj rfl evk) ?_
  simp only [Act.put, aa, ac, ae]
  refine wpList_nil ?_
  go_upto_region 1 with fail
  refine wp_region_lit ?_
  refine af rfl (ag rfl (ev rfl)) ?_
  simp only [Act.put, aa, ac, ae]
  refine ak rfl (ap Tryz.call33 rfl (evc (ev rfl) evn)) ?_
  refine (HDV.out).mono ?_
  rintro e w2 ⟨rfl, rfl⟩
  refine ⟨_, rfl, ?_⟩
  simp only [Act.put, aa, ac, ae]
  refine af (v := .bool true) rfl (ar true rfl (ev rfl) evk rfl) ?_
  simp only [Act.put, aa, ac, ae]
  refine wpList_nil ?_
  go_upto_region 2 with fail
  refine wp_region_lit ?_
  refine af rfl (aj rfl evk) ?_
  simp only [Act.put, aa, ac, ae]
  refine af rfl (aj rfl evk) ?_
  simp only [Act.put, aa, ac, ae]
  refine wpList_nil ?_
  go_wp2_with fail
  go_ret2
  exact ⟨rfl, HB1.out⟩
section
variable {w : World} {v : Value}
theorem hp_id_no (h : NoH w v) : Calls Tryz.prog 51 #[v] w fun e w' => e = .returned (.int .u64 0) ∧ Below w.heap.size w w' := by
  rcases h with rfl | ⟨p, rfl, h⟩
  · exact hp_id0.mono fun e w' ⟨h1, h2⟩ => ⟨h1, by subst h2; exact Below.refl _ _⟩
  · exact (hp_id h).mono fun e w' ⟨h1, h2⟩ => ⟨h1, by subst h2; exact Below.refl _ _⟩
theorem stN_zero : stN bf = 0 := by decide
theorem hp_state_no (h : NoH w v) : Calls Tryz.prog 65 #[v] w fun e w' => e = .returned (.int .i64 0) ∧ Below w.heap.size w w' := by
  rcases h with rfl | ⟨p, rfl, h⟩
  · exact hp_state0.mono fun e w' ⟨h1, h2⟩ => ⟨by rw [h1, stN_zero]; rfl, h2⟩
  · exact (hp_state h).mono fun e w' ⟨h1, h2⟩ => ⟨by rw [h1]; show Ending.returned (.int .i64 (stN bf : Nat)) = _; rw [stN_zero]; rfl, h2⟩
theorem dv_nil (w : World) : Calls Tryz.prog 33 #[.pointer none] w fun e w' => e = .returned (.int .i64 0) ∧ w = w' := by
  go_enter Tryz.func33, Tryz.ntmps33
  go_wp2_with fail
  go_ret
  exact ⟨rfl, rfl⟩
def zbH : List Value := [.slice none 0 0, .int .i64 0, .int .i64 0, .bool false]
theorem dv_zero {b : Nat} (w : World) (h : w.heap[b]? = some (.cells zbH.toArray 81 (0, 0))) : Calls Tryz.prog 33 #[.pointer (some ⟨b, 0, none⟩)] w fun e w' => e = .returned (.int .i64 0) ∧ w = w' := by
  have c0 : w.cell? ⟨b, 0, none⟩ = some (.slice none 0 0) := (aN h) 0 _ rfl
  clear h
  go_enter Tryz.func33, Tryz.ntmps33
  go_wp2_with fail
  go_ret
  exact ⟨rfl, rfl⟩
end
def HuJ (w : World) (G : Nat → Prop) (q p : Nat) (h : HuS) : Prop :=
  ∃ Gb, aT.Bn w Gb q h.M ∧ PHu w p q ⟨h.id, h.ev, h.ev, h.R⟩ ∧ ¬ Gb p ∧ (∀ b, G b ↔ (Gb b ∨ b = p)) ∧ aG h.R = true ∧ (h.id ≠ 0 ∧ h.id < 18446744073709551616)
section
variable {w w' : World} {G K : Nat → Prop} {q p : Nat} {h : HuS}
theorem HuJ.hul (j : HuJ w G q p h) : PHu w p q ⟨h.id, h.ev, h.ev, h.R⟩ := by obtain ⟨_, _, h2, _⟩ := j; exact h2
theorem HuJ.start (j : HuJ w G q p h) (hc : CrG w G) : HJ w G (fun _ => False) w p q h.M ⟨h.id, h.ev, h.ev, h.R⟩ := by
  obtain ⟨Gb, h1, h2, h3, h4, h5, h6⟩ := j
  exact ⟨Gb, h1, h2, h3, Only.refl _ _, fun b hb => .inl ((h4 b).2 hb), fun b e => e.elim, hc⟩
theorem HJ.fin {M' : BenS} {id ev : Nat} {R : Ros} (j : HJ w G K w' p q M' ⟨id, ev, ev, R⟩) (hf : aG R = true) (hid : id ≠ 0 ∧ id < 18446744073709551616) : ∃ G', HuJ w' G' q p ⟨M', id, ev, R⟩ ∧ Only G w w' ∧ Grow w G G' ∧ ∃ Gb, aT.Bn w' Gb q M' ∧ ∀ b, Gb b → G' b := by
  obtain ⟨Gb, h1, h2, h3, h4, h5, h6, h7⟩ := j
  exact ⟨fun b => Gb b ∨ b = p, ⟨Gb, h1, h2, h3, fun b => Iff.rfl, hf, hid⟩, h4, h5, Gb, h1, fun b e => .inl e⟩
theorem HJ.fin0 {M' : BenS} {y : HpS} (j : HJ w G K w' p q M' y) : ∃ G', Only G w w' ∧ Grow w G G' ∧ ∃ Gb, aT.Bn w' Gb q M' ∧ ∀ b, Gb b → G' b := by
  obtain ⟨Gb, h1, h2, h3, h4, h5, h6, h7⟩ := j
  exact ⟨fun b => Gb b ∨ b = p, h4, h5, Gb, h1, fun b e => .inl e⟩
theorem HuQ.fin {x : HpS} {h' : HuS} {ok : Prop} (hq : HuQ w G K w p q x h' ok w') (hid : x.id ≠ 0 ∧ x.id < 18446744073709551616) : ∃ G', (ok → HuJ w' G' q p h') ∧ Only G w w' ∧ Grow w G G' ∧ ∃ Gb, aT.Bn w' Gb q h'.M ∧ ∀ b, Gb b → G' b := by
  by_cases e : ok
  · obtain ⟨j, f, i, _⟩ := hq.2.1 e
    obtain ⟨G', k1, k2⟩ := j.fin f hid
    refine ⟨G', fun _ => ?_, k2⟩
    have e2 : h' = ⟨h'.M, x.id, h'.ev, h'.R⟩ := by rw [← i]
    rw [e2]
    exact k1
  · obtain ⟨us, _, j⟩ := hq.2.2 e
    obtain ⟨G', k2⟩ := j.fin0
    exact ⟨G', fun z => absurd z e, k2⟩
end
def theHull : HulI where
  R := aT
  J := HuJ
  lt := fun ⟨Gb, h1, h2, _, h4, _⟩ b hb => by
    rcases (h4 b).1 hb with e | e
    · exact aT.lt h1 b e
    · subst e; exact h2.lt
  fin := fun ⟨_, _, _, _, _, h5, h6, _⟩ => ⟨h5, h6⟩
  only := fun ⟨Gb, h1, h2, h3, h4, h5⟩ ho hn => ⟨Gb, aT.only h1 ho fun b hb => hn b ((h4 b).2 (.inl hb)), h2.only ho (hn _ ((h4 _).2 (.inr rfl))), h3, h4, h5⟩
  ben := fun {w G q p h} ⟨Gb, h1, h2, h3, h4, h5⟩ => ⟨Gb, h1, fun b hb => (h4 b).2 (.inl hb), fun w' Gb' M' k1 k2 k3 => by
    have hp := h2.lt
    refine ⟨fun b => Gb' b ∨ b = p, ⟨Gb', k1, h2.only k2 h3, fun e => ?_, fun b => Iff.rfl, h5⟩, k2.widen fun b hb => (h4 b).2 (.inl hb), fun b hb => ?_⟩
    · rcases k3 p e with e | e
      · exact h3 e
      · omega
    · rcases hb with e | e
      · rcases k3 b e with e | e
        · exact .inl ((h4 b).2 (.inl e))
        · exact .inr e
      · exact .inl ((h4 b).2 (.inr e))⟩
  new_ := fun {w G q M} id ev x hid hev hb => (hp_new id ev x hb).mono fun e w' ⟨h1, h2⟩ => ⟨h1, by
    rcases h2 with ⟨h3, p, h4, h5, h6⟩ | ⟨h3, h4⟩
    · have hl := aT.lt hb
      have h7 : aG x = true ∧ id ≠ 0 := by
        rw [hnw_fit] at h3
        simp only [Bool.and_eq_true, Bool.not_eq_true', decide_eq_false_iff_not] at h3
        exact ⟨h3.2.2.1, h3.1⟩
      exact .inl ⟨h3, p, fun b => G b ∨ b = p, h4, ⟨G, aT.below hb h1, h5, fun e => by have := hl p e; omega, fun b => Iff.rfl, h7.1, h7.2, hid⟩, fun b hb => by
        rcases hb with e | e
        · exact .inl e
        · exact .inr (by omega)⟩
    · exact .inr ⟨h3, h4⟩⟩
  new_nil := fun w id ev x _ _ => hp_new_no w _ id ev x fun w1 _ => dv_nil w1
  read := fun {w G q p h} s m j hc hr he => by
    obtain ⟨Gb, _, _, _, _, h5, h6⟩ := id j
    exact (hp_read s m h5 h6 hr he rfl (j.start hc)).mono fun e w' ⟨k0, k1⟩ => ⟨k0, k1.fin h6⟩
  write := fun {w G q p h} s m b j hc hr he => by
    obtain ⟨Gb, _, _, _, _, h5, h6⟩ := id j
    exact (hp_write s m b h5 h6 hr he rfl (j.start hc)).mono fun e w' ⟨k0, k1⟩ => ⟨k0, k1.fin h6⟩
  id_ := fun {w G q p h} j => (hp_id j.hul).mono fun e w' ⟨h1, h2⟩ => ⟨h1, by subst h2; exact Below.refl _ _⟩
  state := fun {w G q p h} j => hp_state j.hul
  roster := fun {w G q p h} j => hp_roster j.hul
  No := NoH
  zc := phC none ⟨0, 0, 0, bf⟩
  zb := zbH
  no_nil := fun w => .inl rfl
  bld0 := fun w => by kernel_rfl
  bldB := fun w => by kernel_rfl
  no_zero := fun w => .inr ⟨_, rfl, heap_alloc_new w _⟩
  no_below := fun h hb => h.below hb
  new_zero := fun w b id ev x hb _ _ => hp_new_no w _ id ev x fun w1 h1 => dv_zero w1 (am hb h1)
  no_read := fun w v s m h => hp_read0 s m h
  no_write := fun w v s m b h => hp_write0 s m b h
  no_id := fun w v h => hp_id_no h
  no_state := fun w v h => hp_state_no h
end Go.Proofs.YtheponmdbmloaaaGreatDoor
