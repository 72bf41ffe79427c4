import Derived.Test.YtnliphgjcaippaaGreatDoorHnam
import Derived.Test.YtnliphgjcaippaaGreatDoorHnan
import Derived.Test.YtnliphgjcaippaaGreatDoorHnab
import Derived.Test.YtnliphgjcaippaaGreatDoorHnZ
namespace Go.Proofs.YtnliphgjcaippaaGreatDoor
open Go.RowKit
set_option linter.unusedVariables false
set_option linter.unusedSimpArgs false
set_option maxRecDepth 100000
set_option maxHeartbeats 2000000 in
theorem l_sizes (N : Nat) (s : Int) (w : World) (hN : N ≤ 16) (hs : 0 ≤ s ∧ s ≤ 64) : Calls Tryz.prog 14 #[.int .i64 (N : Int), .int .i64 s] w fun e w' => ∃ v, e = .returned v ∧ aT IntE w' w.heap.size v (szK N s) ∧ Below w.heap.size w w' := by
  have HN := Lib.hid hN
  have HAD : Hid (IntKind.i64.wrap (2 + s) = 2 + s) := Lib.hid (i64q_ (by omega))
  clear hN hs
  go_enter Tryz.func14, Tryz.ntmps14
  go_wp2_with fail
  go_loopw [5, 6] (fun v z wr => ∃ i : Nat, z = .int .i64 i ∧ i ≤ N ∧ aT IntE wr w.heap.size v (List.replicate i (2 + s)) ∧ Below w.heap.size w wr) (fun _ z _ => N - (intOf z).toNat)
  case atStart => exact ⟨0, by go_num, Nat.zero_le _, aT.nil _ _, Below.refl _ _⟩
  case round =>
    obtain ⟨i, rfl, hi, hm, hb⟩ := hrel
    have HM := Lib.hid hm
    have HW := Lib.hid hb
    have HBS : Hid (w.heap.size ≤ wr.heap.size) := Lib.hid hb.size
    clear hm hb
    by_cases hlt : i < N
    · have HI := Lib.hid hlt
      have HT : Hid (decide ((i : Int) < (N : Int)) = true) := Lib.hid (decide_eq_true (by omega))
      have HA : Hid (IntKind.i64.wrap ((i : Int) + 1) = ((i + 1 : Nat) : Int)) := Lib.hid (by have := HN.out; rw [i64q_ ⟨by omega, by omega⟩]; omega)
      have hsz : (wr.alloc (.cells #[.int .i64 (2 + s)] 3)).heap.size = wr.heap.size + 1 := World.size_alloc ..
      obtain ⟨v2, w2, hrun, hm2, hg2⟩ := run_appE IntE (wr.alloc (.cells #[.int .i64 (2 + s)] 3)) 22 w.heap.size (wr.heap.size + 1) 1 1 u5 (List.replicate i (2 + s)) [2 + s] (some ⟨wr.heap.size, 0, none⟩) (aT.below HM.out ((Below.refl _ _).alloc (Nat.le_refl _) _)) (rdE_new (E := IntE) (l := [2 + s]) wr #[.int .i64 (2 + s)] 3 rfl) (by have := HBS.out; omega) (by have := HN.out; simp; omega)
      have HRUN := Lib.hid hrun
      have HM2 : Hid (aT IntE w2 w.heap.size v2 (List.replicate (i + 1) (2 + s))) := Lib.hid (by rw [List.replicate_succ']; exact hm2)
      have HW2 : Hid (Below w.heap.size w w2) := Lib.hid ((HW.out.trans ((Below.refl _ _).alloc HBS.out _)).grown hg2 (by have := HBS.out; omega) (fun j' hj' => HM.out.lt_own j' hj'))
      clear hi hlt hsz hrun hm2 hg2
      go_upto_region 3 with fail
      refine wp_region_lit ?_
      refine af rfl (ai rfl (ev rfl)) ?_
      simp only [Act.put, aa, ac, ae]
      refine af rfl (ai rfl (ev rfl)) ?_
      simp only [Act.put, aa, ac, ae]
      refine af (v := .bool true) rfl (bJ true rfl (ev rfl) (ev rfl) HT.out) ?_
      simp only [Act.put, aa, ac, ae]
      refine wpList_nil ?_
      go_upto_region 5 with fail
      refine wp_region_lit ?_
      refine af rfl (ai rfl (ev rfl)) ?_
      simp only [Act.put, aa, ac, ae]
      refine af rfl (ai rfl (ev rfl)) ?_
      simp only [Act.put, aa, ac, ae]
      refine af rfl (bI rfl evk (ev rfl) HAD.out) ?_
      simp only [Act.put, aa, ac, ae]
      refine af rfl (exec_mk1E (E := IntE) (a := 2 + s) rfl (ev rfl) rfl (by decide)) ?_
      simp only [Act.put, aa, ac, ae]
      refine af rfl (exec_appE (E := IntE) rfl (ev rfl) (ev rfl) HRUN.out) ?_
      simp only [Act.put, aa, ac, ae]
      refine af rfl (ak rfl (ev rfl)) ?_
      simp only [Act.put, aa, ac, ae]
      refine wpList_nil ?_
      go_upto_region 4 with fail
      refine wp_region_lit ?_
      refine af rfl (ai rfl (ev rfl)) ?_
      simp only [Act.put, aa, ac, ae]
      refine af rfl (bI rfl (ev rfl) evk HA.out) ?_
      simp only [Act.put, aa, ac, ae]
      refine af rfl (ak rfl (ev rfl)) ?_
      simp only [Act.put, aa, ac, ae]
      refine wpList_nil ?_
      go_wp2_with fail
      go_roundw
      case rel => exact ⟨i + 1, by go_num, HI.out, HM2.out, HW2.out⟩
      case measure => have := HI.out; simp [intOf]; omega
    have hin : i = N := by omega
    subst hin
    have HT : Hid (decide ((i : Int) < (i : Int)) = false) := Lib.hid (decide_eq_false (by omega))
    have hsz : (wr.alloc (.cells #[.int .i64 50] 3)).heap.size = wr.heap.size + 1 := World.size_alloc ..
    obtain ⟨v2, w2, hrun, hm2, hg2⟩ := run_appE IntE (wr.alloc (.cells #[.int .i64 50] 3)) 22 w.heap.size (wr.heap.size + 1) 1 1 u5 (List.replicate i (2 + s)) [50] (some ⟨wr.heap.size, 0, none⟩) (aT.below HM.out ((Below.refl _ _).alloc (Nat.le_refl _) _)) (rdE_new (E := IntE) (l := [50]) wr #[.int .i64 50] 3 rfl) (by have := HBS.out; omega) (by have := HN.out; simp; omega)
    have HRUN := Lib.hid hrun
    have HM2 : Hid (aT IntE w2 w.heap.size v2 (szK i s)) := Lib.hid hm2
    have HW2 : Hid (Below w.heap.size w w2) := Lib.hid ((HW.out.trans ((Below.refl _ _).alloc HBS.out _)).grown hg2 (by have := HBS.out; omega) (fun j' hj' => HM.out.lt_own j' hj'))
    clear hi hlt hsz hrun hm2 hg2
    go_upto_region 3 with fail
    refine wp_region_lit ?_
    refine af rfl (ai rfl (ev rfl)) ?_
    simp only [Act.put, aa, ac, ae]
    refine af rfl (ai rfl (ev rfl)) ?_
    simp only [Act.put, aa, ac, ae]
    refine af (v := .bool false) rfl (bJ false rfl (ev rfl) (ev rfl) HT.out) ?_
    simp only [Act.put, aa, ac, ae]
    refine wpList_nil ?_
    go_upto_region 6 with fail
    refine wp_region_lit ?_
    refine af rfl (ai rfl (ev rfl)) ?_
    simp only [Act.put, aa, ac, ae]
    refine af rfl (exec_mk1E (E := IntE) (a := 50) rfl evk rfl (by decide)) ?_
    simp only [Act.put, aa, ac, ae]
    refine af rfl (exec_appE (E := IntE) rfl (ev rfl) (ev rfl) HRUN.out) ?_
    simp only [Act.put, aa, ac, ae]
    refine af rfl (ak rfl (ev rfl)) ?_
    simp only [Act.put, aa, ac, ae]
    refine wpList_nil ?_
    go_wp2_with fail
    go_ret
    exact ⟨v2, rfl, HM2.out, HW2.out⟩
theorem run_bldG40 (a b : Int) (w : World) : (Instr.build 25 #[(0, .int .i64 a), (1, .int .i64 b), (2, .int .i64 40)]).run Tryz.prog w = .ok (.agg #[.int .i64 a, .int .i64 b, .int .i64 40]) w := by kernel_rfl
theorem exec_bldG40 {ρ : Operand → Value} {o : Oper} {x y z : Operand} {w : World} {a b : Int} (ho : o.op = .build 25 #[(0, x), (1, y), (2, z)]) (hx : ρ x = .int .i64 a) (hy : ρ y = .int .i64 b) (hz : ρ z = .int .i64 40) : (execOp ρ o).run Tryz.prog w = .ok (.value (.agg #[.int .i64 a, .int .i64 b, .int .i64 40])) w := by
  unfold execOp
  simp only [ho, hx, hy, hz, List.map_toArray, List.map_cons, List.map_nil, Sem.run_bind, run_bldG40, Result.andThen_ok, Sem.run_pure]
theorem zeroG3 : (Tryz.prog.info? 25).map (fun i => i.zero) = some (some (.agg ([.int .i64 0, .int .i64 0, .int .i64 0] : List Value).toArray)) := by kernel_rfl
set_option maxHeartbeats 1000000 in
theorem l_geo (a b N : Nat) (s : Int) (w : World) (ha : a < 256) (hb : b < 256) (hN : 3 + a % 4 = N) (hs : 1 + ((b % 8 : Nat) : Int) = s) : Calls Tryz.prog 13 #[.int .u8 (a : Int), .int .u8 (b : Int)] w fun e w' => e = .returned (geo (neR N s)) ∧ Below w.heap.size w w' := by
  have HB1 : Hid (Below w.heap.size w (w.alloc (.cells ([.int .i64 (N : Int), .int .i64 s, .int .i64 40] : List Value).toArray 25))) := Lib.hid ((Below.refl _ _).alloc (Nat.le_refl _) _)
  have HR := Lib.hid (cu w [.int .i64 (N : Int), .int .i64 s, .int .i64 40] 25)
  have HRA : Hid ((a : Int).tmod 4 = ((a % 4 : Nat) : Int)) := Lib.hid rfl
  have HRB : Hid ((b : Int).tmod 8 = ((b % 8 : Nat) : Int)) := Lib.hid rfl
  have HCA : Hid (IntKind.i64.wrap ((a % 4 : Nat) : Int) = ((a % 4 : Nat) : Int)) := Lib.hid (i64q_ (by omega))
  have HCB : Hid (IntKind.i64.wrap ((b % 8 : Nat) : Int) = ((b % 8 : Nat) : Int)) := Lib.hid (i64q_ (by omega))
  have HAA : Hid (IntKind.i64.wrap (3 + ((a % 4 : Nat) : Int)) = (N : Int)) := Lib.hid (by rw [i64q_ (by omega)]; omega)
  have HAB : Hid (IntKind.i64.wrap (1 + ((b % 8 : Nat) : Int)) = s) := Lib.hid (by rw [i64q_ (by omega)]; exact hs)
  clear ha hb hN hs
  go_enter Tryz.func13, Tryz.ntmps13
  go_upto_region 0 with fail
  refine wp_region_lit ?_
  refine af rfl (cP (cs := [.int .i64 0, .int .i64 0, .int .i64 0]) zeroG3 rfl) ?_
  simp only [Act.put, aa, ac, ae]
  refine wpList_nil ?_
  go_upto_region 1 with fail
  refine wp_region_lit ?_
  refine af rfl (ai rfl (ev rfl)) ?_
  simp only [Act.put, aa, ac, ae]
  refine af rfl (exec_rem8 rfl (ev rfl) evk (by decide) HRA.out) ?_
  simp only [Act.put, aa, ac, ae]
  refine af rfl (exec_cv8 rfl (ev rfl) HCA.out) ?_
  simp only [Act.put, aa, ac, ae]
  refine af rfl (bI rfl evk (ev rfl) HAA.out) ?_
  simp only [Act.put, aa, ac, ae]
  refine af rfl (ai rfl (ev rfl)) ?_
  simp only [Act.put, aa, ac, ae]
  refine af rfl (exec_rem8 rfl (ev rfl) evk (by decide) HRB.out) ?_
  simp only [Act.put, aa, ac, ae]
  refine af rfl (exec_cv8 rfl (ev rfl) HCB.out) ?_
  simp only [Act.put, aa, ac, ae]
  refine af rfl (bI rfl evk (ev rfl) HAB.out) ?_
  simp only [Act.put, aa, ac, ae]
  refine af rfl (exec_bldG40 rfl (ev rfl) (ev rfl) evk) ?_
  simp only [Act.put, aa, ac, ae]
  refine aw rfl (exec_filT (cs := [.int .i64 (N : Int), .int .i64 s, .int .i64 40]) (ds := [.int .i64 0, .int .i64 0, .int .i64 0]) (by kernel_rfl) rfl (by intro v hv; simp only [List.mem_cons, List.not_mem_nil, or_false] at hv; rcases hv with rfl | rfl | rfl <;> rfl) rfl (ev rfl) (ev rfl)) ?_
  simp only [Act.put, aa, ac, ae]
  refine wpList_nil ?_
  go_wp2_with fail
  exact bodyPost_ret (res_rng rfl _ _ _ rfl HR.out Tryz.underlying25 rfl (by kernel_rfl)) rfl ⟨rfl, HB1.out⟩
theorem szK_ok {N : Nat} {s : Int} (hN : N ≤ 16) (hs : 1 ≤ s ∧ s ≤ 64) : newOk (szK N s) := by
  refine ⟨by rw [szK_len]; omega, by rw [szK_len]; omega, fun k hk => ?_⟩
  unfold szK at hk
  rcases List.mem_append.1 hk with h | h
  · have := (List.mem_replicate.1 h).2; omega
  · simp at h; omega
theorem hnw_new {N : Nat} {s : Int} (h1 : 3 ≤ N) (h2 : N ≤ 16) (h3 : 1 ≤ s ∧ s ≤ 64) {ev : Nat} (hev : ev ≤ 2305843009213693952) : hnwB (newS6 (szK N s)) 9 ev (neR N s) = true := by
  have hsec : ∀ k, k ≤ N → secK (newS6 (szK N s)) (neR N s) k = true := fun k hk => by
    induction k with
    | zero => rfl
    | succ k ih =>
      refine secK_step (ih (by omega)) ?_
      have e : seN6 (newS6 (szK N s)) (k : Int) = ((2 + s).toNat : Int) := by
        unfold seN6
        rw [if_pos (hasE_ok (by rw [newK_len]; omega))]
        show (((newS6 (szK N s)).ds.getD k bi).S.length : Int) = _
        rw [newK_at (by omega)]
        show ((List.replicate (2 + s).toNat ar).length : Int) = _
        rw [List.length_replicate]
      rw [e]
      show ¬ (((2 + s).toNat : Nat) : Int) < 2 + s
      omega
  unfold hnwB
  rw [neR_fine h1 h2 h3.1 h3.2, newK_len, show (neR N s).m.toNat = N from neR_m N s, hsec N (Nat.le_refl _), decide_eq_false (show ¬ (9 : Nat) = 0 by decide), decide_eq_false (show ¬ 2305843009213693952 < ev by omega), decide_eq_true (show ((N + 1 : Nat) : Int) = (neR N s).m + 1 from rfl)]
  rfl
theorem ne_new {N : Nat} {s : Int} (h1 : 3 ≤ N) (h2 : N ≤ 16) (h3 : 1 ≤ s ∧ s ≤ 64) : newX (neR N s) = neR N s ∧ newEr (neR N s) = 0 := by
  have hg : geoB (neR N s) = true := decide_eq_true ⟨by show 3 ≤ (N : Int); omega, by show (N : Int) ≤ 16; omega, h3.1, h3.2, by show (40 : Int) ≤ 40; omega, by show (40 : Int) ≤ 256; omega⟩
  constructor
  · unfold newX; rw [hg]; rfl
  · unfold newEr; rw [hg]; rfl
theorem geoAt {w : World} {b : Nat} {N : Nat} {s : Int} (h : w.heap[b]? = some (.cells (celG (neR N s)).toArray 25 (0, 0))) : w.cell? ⟨b, 0, none⟩ = some (.int .i64 (N : Int)) ∧ w.cell? ⟨b, 1, none⟩ = some (.int .i64 s) := ⟨(aL h) 0 _ rfl, (aL h) 1 _ rfl⟩
set_option maxHeartbeats 4000000 in
theorem l_both (C : HulI) (N : Nat) (s : Int) (w : World) (T : Tab w) (h1 : 3 ≤ N) (h2 : N ≤ 16) (h3 : 1 ≤ s ∧ s ≤ 64) : Calls Tryz.prog 37 #[geo (neR N s)] w fun e w' => ∃ p q p2, e = .returned (.tuple #[.pointer (some ⟨p, 0, none⟩), .pointer (some ⟨q, 0, none⟩), .pointer (some ⟨p2, 0, none⟩)]) ∧ HAt C w w.heap.size (fun _ => False) w' q p ⟨newS6 (szK N s), 9, 0, neR N s⟩ := by
  obtain ⟨w1, hw1⟩ : ∃ w1, w.alloc (.cells (celG (neR N s)).toArray 25) = w1 := ⟨_, rfl⟩
  have hb1 : Below w.heap.size w w1 := by rw [← hw1]; exact (Below.refl _ _).alloc (Nat.le_refl _) _
  have hg1 : w1.heap[w.heap.size]? = some (.cells (celG (neR N s)).toArray 25 (0, 0)) := by rw [← hw1]; exact heap_alloc_new w _
  have HW1 := Lib.hid hw1
  have HB1 := Lib.hid hb1
  have HG1 := Lib.hid hg1
  have HT := Lib.hid T
  have HN16 := Lib.hid h2
  have HS64 : Hid (0 ≤ s ∧ s ≤ 64) := Lib.hid (by omega)
  have HOK := Lib.hid (szK_ok h2 h3)
  have HNW := Lib.hid (ne_new h1 h2 h3)
  have HH := Lib.hid (hnw_new h1 h2 h3 (ev := 0) (by omega))
  clear hw1 hb1 hg1 T h1 h2 h3
  go_enter Tryz.func37, Tryz.ntmps37
  go_upto_region 0 with fail
  refine wp_region_lit ?_
  refine af rfl (bN (cs := celG (neR N s)) rfl (ev rfl)) ?_
  simp only [Act.put, aa, ac, ae]
  rw [HW1.out]
  refine af rfl (ak rfl evk) ?_
  simp only [Act.put, aa, ac, ae]
  refine af rfl (ak rfl evk) ?_
  simp only [Act.put, aa, ac, ae]
  refine af rfl (ak rfl evk) ?_
  simp only [Act.put, aa, ac, ae]
  refine wpList_nil ?_
  go_upto_region 1 with fail
  refine wp_region_lit ?_
  refine af rfl (am rfl (ev rfl) faG0) ?_
  simp only [Act.put, aa, ac, ae]
  refine af rfl (au rfl (ev rfl) (bq (geoAt HG1.out).1)) ?_
  simp only [Act.put, aa, ac, ae]
  refine af rfl (am rfl (ev rfl) faG1) ?_
  simp only [Act.put, aa, ac, ae]
  refine af rfl (au rfl (ev rfl) (bq (geoAt HG1.out).2)) ?_
  simp only [Act.put, aa, ac, ae]
  refine al rfl (ao Tryz.call14 rfl (evc (ev rfl) (evc (ev rfl) evn))) ?_
  refine (l_sizes N s w1 HN16.out HS64.out).mono ?_
  rintro e w2 ⟨v2, rfl, m2, b2⟩
  have HG2 := Lib.hid (aj HG1.out b2)
  have HB2 := Lib.hid (HB1.out.trans (b2.mono HB1.out.size))
  obtain ⟨A2, c2, rfl, e21, e22⟩ := m2.form
  have HR2 := Lib.hid m2.rd
  have HC2 := Lib.hid (And.intro e21 e22)
  clear m2 b2 e21 e22
  refine ⟨_, rfl, ?_⟩
  simp only [Act.put, aa, ac, ae]
  refine al rfl (ao Tryz.call6 rfl (evc (ev rfl) evn)) ?_
  refine (C.R.new HR2.out HC2.out.1 HC2.out.2).mono ?_
  rintro e w3 ⟨b3, h3⟩
  obtain ⟨_, q, F, rfl, n3, f3⟩ | ⟨h3, _⟩ := h3
  rotate_left 1
  · exact absurd HOK.out h3
  have HG3 := Lib.hid (aj HG2.out b3)
  have HB3 := Lib.hid (HB2.out.trans (b3.mono HB2.out.size))
  have HN3 := Lib.hid n3
  have HF3 : Hid (∀ b, F b → w.heap.size ≤ b) := Lib.hid fun b hb => Nat.le_trans HB2.out.size (f3 b hb)
  clear b3 n3 f3
  refine ⟨_, rfl, ?_⟩
  simp only [Act.put, aa, ac, ae]
  refine af rfl (ai rfl (ev rfl)) ?_
  simp only [Act.put, aa, ac, ae]
  refine af rfl (aP rfl (ev rfl) rfl) ?_
  simp only [Act.put, aa, ac, ae]
  refine af rfl (aP rfl (ev rfl) rfl) ?_
  simp only [Act.put, aa, ac, ae]
  refine af rfl (ak rfl (ev rfl)) ?_
  simp only [Act.put, aa, ac, ae]
  refine af rfl (ak rfl (ev rfl)) ?_
  simp only [Act.put, aa, ac, ae]
  refine wpList_nil ?_
  go_upto_region 2 with fail
  refine wp_region_lit ?_
  refine af rfl (am rfl (ev rfl) faG0) ?_
  simp only [Act.put, aa, ac, ae]
  refine af rfl (au rfl (ev rfl) (bq (geoAt HG3.out).1)) ?_
  simp only [Act.put, aa, ac, ae]
  refine af rfl (am rfl (ev rfl) faG1) ?_
  simp only [Act.put, aa, ac, ae]
  refine af rfl (au rfl (ev rfl) (bq (geoAt HG3.out).2)) ?_
  simp only [Act.put, aa, ac, ae]
  refine al rfl (ao Tryz.call14 rfl (evc (ev rfl) (evc (ev rfl) evn))) ?_
  refine (l_sizes N s w3 HN16.out HS64.out).mono ?_
  rintro e w4 ⟨v4, rfl, m4, b4⟩
  have HG4 := Lib.hid (aj HG3.out b4)
  have HB4 := Lib.hid (HB3.out.trans (b4.mono HB3.out.size))
  have HN4 := Lib.hid (C.R.toBen.below HN3.out b4)
  obtain ⟨A4, c4, rfl, e41, e42⟩ := m4.form
  have HR4 := Lib.hid m4.rd
  have HC4 := Lib.hid (And.intro e41 e42)
  clear m4 b4 e41 e42
  refine ⟨_, rfl, ?_⟩
  simp only [Act.put, aa, ac, ae]
  refine al rfl (ao Tryz.call7 rfl (evc (ev rfl) evn)) ?_
  refine (cd.new HR4.out HC4.out.1 HC4.out.2).mono ?_
  rintro e w5 ⟨b5, h5⟩
  obtain ⟨_, q5, F5, rfl, n5, f5⟩ | ⟨h5, _⟩ := h5
  rotate_left 1
  · exact absurd HOK.out h5
  have HG5 := Lib.hid (aj HG4.out b5)
  have HB5 := Lib.hid (HB4.out.trans (b5.mono HB4.out.size))
  have HN5 := Lib.hid (C.R.toBen.below HN4.out b5)
  have HD5 := Lib.hid n5
  clear b5 n5 f5
  refine ⟨_, rfl, ?_⟩
  simp only [Act.put, aa, ac, ae]
  refine af rfl (ai rfl (ev rfl)) ?_
  simp only [Act.put, aa, ac, ae]
  refine af rfl (aP rfl (ev rfl) rfl) ?_
  simp only [Act.put, aa, ac, ae]
  refine af rfl (aP rfl (ev rfl) rfl) ?_
  simp only [Act.put, aa, ac, ae]
  refine af rfl (ak rfl (ev rfl)) ?_
  simp only [Act.put, aa, ac, ae]
  refine af rfl (ak rfl (ev rfl)) ?_
  simp only [Act.put, aa, ac, ae]
  refine wpList_nil ?_
  go_upto_region 3 with fail
  refine wp_region_lit ?_
  refine af rfl (cz rfl (ev rfl) (aL HG5.out)) ?_
  simp only [Act.put, aa, ac, ae]
  refine al rfl (ao Tryz.call15 rfl (evc (ev rfl) evn)) ?_
  refine (rnew_v (x := neR N s) (w := w5) HNW.out.1 HNW.out.2).mono ?_
  rintro e w6 ⟨rfl, b6⟩
  have HG6 := Lib.hid (aj HG5.out b6)
  have HB6 := Lib.hid (HB5.out.trans (b6.mono HB5.out.size))
  have HN6 := Lib.hid (C.R.toBen.below HN5.out b6)
  have HD6 := Lib.hid (cd.below HD5.out b6)
  clear b6
  refine ⟨_, rfl, ?_⟩
  simp only [Act.put, aa, ac, ae]
  refine af rfl (ai rfl (ev rfl)) ?_
  simp only [Act.put, aa, ac, ae]
  refine af rfl (aP rfl (ev rfl) rfl) ?_
  simp only [Act.put, aa, ac, ae]
  refine af rfl (aP rfl (ev rfl) rfl) ?_
  simp only [Act.put, aa, ac, ae]
  refine af rfl (bL rfl) ?_
  simp only [Act.put, aa, ac, ae]
  refine aw rfl (exec_fillR rfl (ev rfl) (ev rfl)) ?_
  simp only [Act.put, aa, ac, ae]
  have hx := (Below.refl w6.heap.size w6).alloc (Nat.le_refl _) (.cells (aD (neR N s)).toArray 28)
  have HG7 := Lib.hid (aj HG6.out hx)
  have HB7 := Lib.hid (HB6.out.trans (hx.mono HB6.out.size))
  have HN7 := Lib.hid (C.R.toBen.below HN6.out hx)
  have HD7 := Lib.hid (cd.below HD6.out hx)
  have HX7 := Lib.hid (a7.new w6 (neR N s))
  clear hx
  obtain ⟨qx, hqx⟩ : ∃ qx, w6.heap.size = qx := ⟨_, rfl⟩
  rw [hqx] at HX7 ⊢
  clear hqx
  generalize w6.alloc (.cells (aD (neR N s)).toArray 28) = w7 at *
  refine af rfl (ak rfl (ev rfl)) ?_
  simp only [Act.put, aa, ac, ae]
  refine wpList_nil ?_
  go_upto_region 4 with fail
  refine wp_region_lit ?_
  refine af rfl (ai rfl (ev rfl)) ?_
  simp only [Act.put, aa, ac, ae]
  refine af (v := .bool false) rfl (aW false rfl (ev rfl) evk rfl) ?_
  simp only [Act.put, aa, ac, ae]
  refine af (v := .bool false) rfl (ai rfl (ev rfl)) ?_
  simp only [Act.put, aa, ac, ae]
  refine ag (ah rfl rfl rfl rfl) (ai rfl (ev rfl)) ?_
  simp only [Act.put, aa, ac, ae]
  refine ag (v := .bool false) (ah rfl rfl rfl rfl) (aW false rfl (ev rfl) evk rfl) ?_
  simp only [Act.put, aa, ac, ae]
  refine af (v := .bool false) rfl (aG rfl (ev rfl) (ev rfl)) ?_
  simp only [Act.put, aa, ac, ae]
  refine af (v := .bool false) rfl (ai rfl (ev rfl)) ?_
  simp only [Act.put, aa, ac, ae]
  refine ag (ah rfl rfl rfl rfl) (ai rfl (ev rfl)) ?_
  simp only [Act.put, aa, ac, ae]
  refine ag (v := .bool false) (ah rfl rfl rfl rfl) (aW false rfl (ev rfl) evk rfl) ?_
  simp only [Act.put, aa, ac, ae]
  refine af (v := .bool false) rfl (aG rfl (ev rfl) (ev rfl)) ?_
  simp only [Act.put, aa, ac, ae]
  refine wpList_nil ?_
  go_upto_region 6 with fail
  refine wp_region_lit ?_
  refine af rfl (ai rfl (ev rfl)) ?_
  simp only [Act.put, aa, ac, ae]
  refine af rfl (aM rfl (ev rfl) HX7.out.range) ?_
  simp only [Act.put, aa, ac, ae]
  refine al rfl (ao Tryz.call8 rfl (evc (ev rfl) (evc evk (evc evk (evc (ev rfl) evn))))) ?_
  refine (C.new_ 9 0 (neR N s) (by omega) (by omega) HN7.out).mono ?_
  rintro e w8 ⟨b8, h8⟩
  obtain ⟨_, p, G, rfl, j8, g8⟩ | ⟨h8, _⟩ := h8
  rotate_left 1
  · exact absurd (HH.out.symm.trans h8) (by decide)
  have HG8 := Lib.hid (aj HG7.out b8)
  have HB8 := Lib.hid (HB7.out.trans (b8.mono HB7.out.size))
  have HX8 := Lib.hid (HX7.out.below (aF HX7.out) b8)
  have HD8 := Lib.hid (cd.below HD7.out b8)
  have HJ8 := Lib.hid j8
  have HGG : Hid (∀ b, G b → w.heap.size ≤ b) := Lib.hid fun b hb => by
    rcases g8 b hb with e | e
    · exact HF3.out b e
    · exact Nat.le_trans HB7.out.size e
  clear b8 j8 g8
  refine ⟨_, rfl, ?_⟩
  simp only [Act.put, aa, ac, ae]
  refine af rfl (ai rfl (ev rfl)) ?_
  simp only [Act.put, aa, ac, ae]
  refine af rfl (aP rfl (ev rfl) rfl) ?_
  simp only [Act.put, aa, ac, ae]
  refine af rfl (aP rfl (ev rfl) rfl) ?_
  simp only [Act.put, aa, ac, ae]
  refine af rfl (ak rfl (ev rfl)) ?_
  simp only [Act.put, aa, ac, ae]
  refine af rfl (ak rfl (ev rfl)) ?_
  simp only [Act.put, aa, ac, ae]
  refine wpList_nil ?_
  go_upto_region 7 with fail
  refine wp_region_lit ?_
  refine af rfl (ai rfl (ev rfl)) ?_
  simp only [Act.put, aa, ac, ae]
  refine af rfl (aM rfl (ev rfl) HX8.out.range) ?_
  simp only [Act.put, aa, ac, ae]
  refine al rfl (ao Tryz.call10 rfl (evc (ev rfl) (evc evk (evc evk (evc (ev rfl) evn))))) ?_
  refine (rhnew 9 0 (neR N s) w8 HD8.out).mono ?_
  rintro e w9 ⟨b9, h9⟩
  obtain ⟨_, p2, rfl, j9, _⟩ | ⟨h9, _⟩ := h9
  rotate_left 1
  · exact absurd (HH.out.symm.trans h9) (by decide)
  have HG9 := Lib.hid (aj HG8.out b9)
  have HB9 := Lib.hid (HB8.out.trans (b9.mono HB8.out.size))
  have HJ9 := Lib.hid (C.below HJ8.out b9)
  clear b9 j9
  refine ⟨_, rfl, ?_⟩
  simp only [Act.put, aa, ac, ae]
  refine af rfl (ai rfl (ev rfl)) ?_
  simp only [Act.put, aa, ac, ae]
  refine af rfl (aP rfl (ev rfl) rfl) ?_
  simp only [Act.put, aa, ac, ae]
  refine af rfl (aP rfl (ev rfl) rfl) ?_
  simp only [Act.put, aa, ac, ae]
  refine af rfl (ak rfl (ev rfl)) ?_
  simp only [Act.put, aa, ac, ae]
  refine af rfl (ak rfl (ev rfl)) ?_
  simp only [Act.put, aa, ac, ae]
  refine wpList_nil ?_
  go_upto_region 8 with fail
  refine wp_region_lit ?_
  refine af rfl (ai rfl (ev rfl)) ?_
  simp only [Act.put, aa, ac, ae]
  refine af (v := .bool false) rfl (aW false rfl (ev rfl) evk rfl) ?_
  simp only [Act.put, aa, ac, ae]
  refine af (v := .bool false) rfl (ai rfl (ev rfl)) ?_
  simp only [Act.put, aa, ac, ae]
  refine ag (ah rfl rfl rfl rfl) (ai rfl (ev rfl)) ?_
  simp only [Act.put, aa, ac, ae]
  refine ag (v := .bool false) (ah rfl rfl rfl rfl) (aW false rfl (ev rfl) evk rfl) ?_
  simp only [Act.put, aa, ac, ae]
  refine af (v := .bool false) rfl (aG rfl (ev rfl) (ev rfl)) ?_
  simp only [Act.put, aa, ac, ae]
  refine wpList_nil ?_
  go_upto_region 10 with fail
  refine wp_region_lit ?_
  refine af rfl (ai rfl (ev rfl)) ?_
  simp only [Act.put, aa, ac, ae]
  refine af rfl (ai rfl (ev rfl)) ?_
  simp only [Act.put, aa, ac, ae]
  refine af rfl (ai rfl (ev rfl)) ?_
  simp only [Act.put, aa, ac, ae]
  refine af rfl (ak rfl (ev rfl)) ?_
  simp only [Act.put, aa, ac, ae]
  refine af rfl (ak rfl (ev rfl)) ?_
  simp only [Act.put, aa, ac, ae]
  refine af rfl (ak rfl (ev rfl)) ?_
  simp only [Act.put, aa, ac, ae]
  refine wpList_nil ?_
  go_wp2_with fail
  go_ret3
  exact ⟨p, q, p2, rfl, G, HJ9.out, HGG.out, HB9.out, HBas.start HT.out, fun b hb => hb.elim⟩
def hbA : Blk := ar.set 0 170
theorem bldHA (w : World) : (Instr.build 58 #[(0, .int .u8 170)]).run Tryz.prog w = .ok (blk hbA) w := by kernel_rfl
theorem bldP01 (w : World) : (Instr.build 68 #[(1, .int .i64 1)]).run Tryz.prog w = .ok (.agg ([.int .i64 0, .int .i64 1] : List Value).toArray) w := by kernel_rfl
theorem exec_bldP01 {ρ : Operand → Value} {o : Oper} {x : Operand} {w : World} (ho : o.op = .build 68 #[(1, x)]) (hx : ρ x = .int .i64 1) : (execOp ρ o).run Tryz.prog w = .ok (.value (.agg ([.int .i64 0, .int .i64 1] : List Value).toArray)) w := by
  unfold execOp
  simp [ho, hx, bldP01, Result.andThen]
theorem zeroP2 : (Tryz.prog.info? 68).map (fun i => i.zero) = some (some (.agg ([.int .i64 0, .int .i64 0] : List Value).toArray)) := by kernel_rfl
set_option maxHeartbeats 4000000 in
theorem hlives (C : HulI) (w : World) (T : Tab w) : Calls Tryz.prog 9 #[] w fun e w' => e = .returned (.bool true) ∧ Below w.heap.size w w' := by
  obtain ⟨M1, M2, M3, M4, s1, s2, x1, x2, r1, r2, r3, f1, f2, d1, d2, m0, m1, m2, m3⟩ := lvH hbA
  have HT := Lib.hid T
  have S1 := Lib.hid (And.intro s1 s2)
  have X1 := Lib.hid (And.intro x1 x2)
  have R1 := Lib.hid (And.intro r1 (And.intro r2 r3))
  have F1 := Lib.hid (And.intro f1 f2)
  have D1 := Lib.hid (And.intro d1 d2)
  have HM0 := Lib.hid m0
  have HM1 := Lib.hid m1
  have HM2 := Lib.hid m2
  have HM3 := Lib.hid m3
  have HST : Hid (stN lvR1 = 2) := Lib.hid lvR_has.2.2.2.2
  clear T s1 s2 x1 x2 r1 r2 r3 f1 f2 d1 d2 m0 m1 m2 m3
  go_enter Tryz.func9, Tryz.ntmps9
  go_upto_region 1 with fail
  refine wp_region_lit ?_
  refine al rfl (ao Tryz.call13 rfl (evc evk (evc evk evn))) ?_
  refine (l_geo 0 1 3 2 w (by omega) (by omega) rfl rfl).mono ?_
  rintro e w1 ⟨rfl, b1⟩
  have HB1 := Lib.hid b1
  clear b1
  refine ⟨_, rfl, ?_⟩
  simp only [Act.put, aa, ac, ae]
  refine al rfl (ao Tryz.call37 rfl (evc (ev rfl) evn)) ?_
  refine (l_both C 3 2 w1 (HT.out.below HB1.out) (by omega) (by omega) (by omega)).mono ?_
  rintro e w2 ⟨p, q, p2, rfl, a2⟩
  have HA2 : Hid (HAt C w1 w1.heap.size (fun _ => False) w2 q p ⟨lvM, 9, 0, lvR⟩) := Lib.hid a2
  clear a2
  refine ⟨_, rfl, ?_⟩
  simp only [Act.put, aa, ac, ae]
  refine af rfl (ai rfl (ev rfl)) ?_
  simp only [Act.put, aa, ac, ae]
  refine af rfl (aP rfl (ev rfl) rfl) ?_
  simp only [Act.put, aa, ac, ae]
  refine af rfl (aP rfl (ev rfl) rfl) ?_
  simp only [Act.put, aa, ac, ae]
  refine af rfl (aP rfl (ev rfl) rfl) ?_
  simp only [Act.put, aa, ac, ae]
  refine af rfl (ak rfl (ev rfl)) ?_
  simp only [Act.put, aa, ac, ae]
  refine af rfl (ak rfl (ev rfl)) ?_
  simp only [Act.put, aa, ac, ae]
  refine af rfl (ak rfl (ev rfl)) ?_
  simp only [Act.put, aa, ac, ae]
  refine wpList_nil ?_
  go_upto_region 2 with fail
  refine wp_region_lit ?_
  refine af rfl (ai rfl (ev rfl)) ?_
  simp only [Act.put, aa, ac, ae]
  refine af (v := .bool false) rfl (dc false Tryz.underlying36 rfl (ev rfl) evk rfl) ?_
  simp only [Act.put, aa, ac, ae]
  refine wpList_nil ?_
  go_upto_region 4 with fail
  refine wp_region_lit ?_
  refine af rfl (ai rfl (ev rfl)) ?_
  simp only [Act.put, aa, ac, ae]
  refine al rfl (ao Tryz.call17 rfl (evc (ev rfl) evn)) ?_
  refine (HA2.out.save HM0.out (by decide) S1.out.1).mono ?_
  rintro e w3 ⟨rfl, a3, k3⟩
  rw [S1.out.2] at a3
  have HA3 := Lib.hid a3
  clear a3 k3
  rw [S1.out.1]
  refine ⟨_, rfl, ?_⟩
  simp only [Act.put, aa, ac, ae]
  refine af rfl (ak rfl (ev rfl)) ?_
  simp only [Act.put, aa, ac, ae]
  refine wpList_nil ?_
  go_upto_region 5 with fail
  refine wp_region_lit ?_
  refine af rfl (exec_bldP01 rfl evk) ?_
  simp only [Act.put, aa, ac, ae]
  refine af rfl (cP (cs := [.int .i64 0, .int .i64 0]) zeroP2 rfl) ?_
  simp only [Act.put, aa, ac, ae]
  refine aw rfl (exec_filT (cs := [.int .i64 0, .int .i64 1]) (ds := [.int .i64 0, .int .i64 0]) (by kernel_rfl) rfl (by intro v hv; simp only [List.mem_cons, List.not_mem_nil, or_false] at hv; rcases hv with rfl | rfl <;> rfl) rfl (ev rfl) (ev rfl)) ?_
  simp only [Act.put, aa, ac, ae]
  have hx := (Below.refl w3.heap.size w3).alloc (Nat.le_refl _) (.cells ([.int .i64 0, .int .i64 1] : List Value).toArray 68)
  have HP4 := Lib.hid (heap_alloc_new w3 (.cells ([.int .i64 0, .int .i64 1] : List Value).toArray 68))
  have HA4 := Lib.hid (HAt.guard (K' := fun b => b = w3.heap.size) HA3.out hx fun b e => .inr (by subst e; rw [World.size_alloc]; omega))
  clear hx
  obtain ⟨b5, hb5⟩ : ∃ b5, w3.heap.size = b5 := ⟨_, rfl⟩
  rw [hb5] at HP4 HA4 ⊢
  clear hb5
  generalize w3.alloc (.cells ([.int .i64 0, .int .i64 1] : List Value).toArray 68) = w4 at *
  refine wpList_nil ?_
  go_upto_region 6 with fail
  refine wp_region_lit ?_
  refine af rfl (ai rfl (ev rfl)) ?_
  simp only [Act.put, aa, ac, ae]
  refine af rfl (bm (cs := [.int .i64 0, .int .i64 1]) Tryz.underlying68 rfl (by kernel_rfl) rfl (ev rfl) (aL HP4.out)) ?_
  simp only [Act.put, aa, ac, ae]
  refine af rfl (exec_bld1 rfl evk (bldHA _)) ?_
  simp only [Act.put, aa, ac, ae]
  refine al rfl (ao Tryz.call24 rfl (evc (ev rfl) (evc (ev rfl) (evc (ev rfl) evn)))) ?_
  refine (HA4.out.write 0 1 hbA HM1.out (by show 1 ≤ _; decide) (hwrK_of (by rw [X1.out.1]; decide) (by rw [X1.out.1]; decide))).mono ?_
  rintro e w5 ⟨rfl, a5, k5⟩
  rw [X1.out.2] at a5
  have HA5 := Lib.hid a5
  have HP5 := Lib.hid ((k5 b5 rfl).trans HP4.out)
  clear a5 k5
  rw [X1.out.1]
  refine ⟨_, rfl, ?_⟩
  simp only [Act.put, aa, ac, ae]
  refine af rfl (ak rfl (ev rfl)) ?_
  simp only [Act.put, aa, ac, ae]
  refine wpList_nil ?_
  go_upto_region 7 with fail
  refine wp_region_lit ?_
  refine af rfl (ai rfl (ev rfl)) ?_
  simp only [Act.put, aa, ac, ae]
  refine af rfl (bm (cs := [.int .i64 0, .int .i64 1]) Tryz.underlying68 rfl (by kernel_rfl) rfl (ev rfl) (aL HP5.out)) ?_
  simp only [Act.put, aa, ac, ae]
  refine al rfl (ao Tryz.call23 rfl (evc (ev rfl) (evc (ev rfl) evn))) ?_
  refine (HA5.out.read 0 1 HM2.out (by show 1 ≤ _; decide) (hrdK_of (by rw [R1.out.1]; decide) (by rw [R1.out.1]; decide))).mono ?_
  rintro e w6 ⟨rfl, a6, k6⟩
  rw [R1.out.2.2] at a6
  have HA6 := Lib.hid a6
  have HP6 := Lib.hid ((k6 b5 rfl).trans HP5.out)
  clear a6 k6
  rw [R1.out.1, R1.out.2.1]
  refine ⟨_, rfl, ?_⟩
  simp only [Act.put, aa, ac, ae]
  refine af rfl (ai rfl (ev rfl)) ?_
  simp only [Act.put, aa, ac, ae]
  refine af rfl (aP rfl (ev rfl) rfl) ?_
  simp only [Act.put, aa, ac, ae]
  refine af rfl (aP rfl (ev rfl) rfl) ?_
  simp only [Act.put, aa, ac, ae]
  refine af rfl (aV rfl) ?_
  simp only [Act.put, aa, ac, ae]
  refine aw rfl (dn (c := hbA) rfl (ev rfl) (ev rfl)) ?_
  simp only [Act.put, aa, ac, ae]
  have hx := (Below.refl w6.heap.size w6).alloc (Nat.le_refl _) (.cells (cel hbA).toArray 58)
  have HP7 := Lib.hid (aj HP6.out hx)
  have HQ7 := Lib.hid (heap_alloc_new w6 (.cells (cel hbA).toArray 58))
  have HA7 := Lib.hid (HAt.guard (K' := fun b => b = b5 ∨ b = w6.heap.size) HA6.out hx fun b e => e.imp id fun e => by subst e; rw [World.size_alloc]; omega)
  clear hx
  obtain ⟨b7, hb7⟩ : ∃ b7, w6.heap.size = b7 := ⟨_, rfl⟩
  rw [hb7] at HQ7 HA7 ⊢
  clear hb7
  generalize w6.alloc (.cells (cel hbA).toArray 58) = w7 at *
  refine af rfl (ak rfl (ev rfl)) ?_
  simp only [Act.put, aa, ac, ae]
  refine wpList_nil ?_
  go_upto_region 8 with fail
  refine wp_region_lit ?_
  refine af rfl (ai rfl (ev rfl)) ?_
  simp only [Act.put, aa, ac, ae]
  refine al rfl (ao Tryz.call16 rfl (evc (ev rfl) (evc evk evn))) ?_
  refine (HA7.out.ben fun hb => C.R.fail 1 hb).mono ?_
  rintro e w8 ⟨rfl, a8, k8⟩
  replace a8 : HAt C w1 w1.heap.size (fun b => b = b5 ∨ b = b7) w8 q p ⟨faS6 M2 1, 9, 1, lvR⟩ := a8
  rw [F1.out.2] at a8
  have HA8 := Lib.hid a8
  have HP8 := Lib.hid ((k8 b5 (.inl rfl)).trans HP7.out)
  have HQ8 := Lib.hid ((k8 b7 (.inr rfl)).trans HQ7.out)
  clear a8 k8
  rw [show hasE (HuS.mk M2 9 1 lvR).M 1 = 0 from F1.out.1]
  refine ⟨_, rfl, ?_⟩
  simp only [Act.put, aa, ac, ae]
  refine af rfl (ak rfl (ev rfl)) ?_
  simp only [Act.put, aa, ac, ae]
  refine wpList_nil ?_
  go_upto_region 9 with fail
  refine wp_region_lit ?_
  refine af rfl (ai rfl (ev rfl)) ?_
  simp only [Act.put, aa, ac, ae]
  refine af rfl (bm (cs := [.int .i64 0, .int .i64 1]) Tryz.underlying68 rfl (by kernel_rfl) rfl (ev rfl) (aL HP8.out)) ?_
  simp only [Act.put, aa, ac, ae]
  refine al rfl (ao Tryz.call23 rfl (evc (ev rfl) (evc (ev rfl) evn))) ?_
  refine (HA8.out.read 0 1 HM3.out (by show 1 ≤ _; decide) (hrdK_of (by rw [D1.out.1]; decide) (by rw [D1.out.1]; decide))).mono ?_
  rintro e w9 ⟨rfl, a9, k9⟩
  rw [D1.out.2] at a9
  have HA9 := Lib.hid a9
  have HQ9 := Lib.hid ((k9 b7 (.inr rfl)).trans HQ8.out)
  clear a9 k9
  rw [D1.out.1]
  generalize hrdB ⟨M3, 9, 1, lvR⟩ 0 1 = y
  refine ⟨_, rfl, ?_⟩
  simp only [Act.put, aa, ac, ae]
  refine af rfl (ai rfl (ev rfl)) ?_
  simp only [Act.put, aa, ac, ae]
  refine af rfl (aP rfl (ev rfl) rfl) ?_
  simp only [Act.put, aa, ac, ae]
  refine af rfl (aP rfl (ev rfl) rfl) ?_
  simp only [Act.put, aa, ac, ae]
  refine af rfl (aV rfl) ?_
  simp only [Act.put, aa, ac, ae]
  refine aw rfl (dn (c := y) rfl (ev rfl) (ev rfl)) ?_
  simp only [Act.put, aa, ac, ae]
  have hx := (Below.refl w9.heap.size w9).alloc (Nat.le_refl _) (.cells (cel y).toArray 58)
  have HQ10 := Lib.hid (aj HQ9.out hx)
  have HA10 := Lib.hid (HAt.below HA9.out hx)
  clear hx
  generalize w9.alloc (.cells (cel y).toArray 58) = w10 at *
  refine af rfl (ak rfl (ev rfl)) ?_
  simp only [Act.put, aa, ac, ae]
  refine wpList_nil ?_
  go_upto_region 10 with fail
  refine wp_region_lit ?_
  refine af rfl (ai rfl (ev rfl)) ?_
  simp only [Act.put, aa, ac, ae]
  refine af (v := .bool true) rfl (aq true rfl (ev rfl) evk rfl) ?_
  simp only [Act.put, aa, ac, ae]
  refine af (v := .bool true) rfl (ai rfl (ev rfl)) ?_
  simp only [Act.put, aa, ac, ae]
  refine ag (ah rfl rfl rfl rfl) (ai rfl (ev rfl)) ?_
  simp only [Act.put, aa, ac, ae]
  refine ag (v := .bool true) (ah rfl rfl rfl rfl) (aq true rfl (ev rfl) evk rfl) ?_
  simp only [Act.put, aa, ac, ae]
  refine af (v := .bool true) rfl (ay rfl (ev rfl) (ev rfl)) ?_
  simp only [Act.put, aa, ac, ae]
  refine af (v := .bool true) rfl (ai rfl (ev rfl)) ?_
  simp only [Act.put, aa, ac, ae]
  refine ag (ah rfl rfl rfl rfl) (bc rfl (ev rfl) (aL HQ10.out)) ?_
  simp only [Act.put, aa, ac, ae]
  refine ag (ah rfl rfl rfl rfl) (exec_bld1 rfl evk (bldHA _)) ?_
  simp only [Act.put, aa, ac, ae]
  refine ag (v := .bool true) (ah rfl rfl rfl rfl) (exec_eqlB true rfl (ev rfl) (ev rfl) (decide_eq_true rfl)) ?_
  simp only [Act.put, aa, ac, ae]
  refine af (v := .bool true) rfl (ay rfl (ev rfl) (ev rfl)) ?_
  simp only [Act.put, aa, ac, ae]
  refine af (v := .bool true) rfl (ai rfl (ev rfl)) ?_
  simp only [Act.put, aa, ac, ae]
  refine ag (ah rfl rfl rfl rfl) (ai rfl (ev rfl)) ?_
  simp only [Act.put, aa, ac, ae]
  refine ag (v := .bool true) (ah rfl rfl rfl rfl) (aq true rfl (ev rfl) evk rfl) ?_
  simp only [Act.put, aa, ac, ae]
  refine af (v := .bool true) rfl (ay rfl (ev rfl) (ev rfl)) ?_
  simp only [Act.put, aa, ac, ae]
  refine af (v := .bool true) rfl (ai rfl (ev rfl)) ?_
  simp only [Act.put, aa, ac, ae]
  refine ag (ah rfl rfl rfl rfl) (ai rfl (ev rfl)) ?_
  simp only [Act.put, aa, ac, ae]
  refine ag (v := .bool true) (ah rfl rfl rfl rfl) (aq true rfl (ev rfl) evk rfl) ?_
  simp only [Act.put, aa, ac, ae]
  refine af (v := .bool true) rfl (ay rfl (ev rfl) (ev rfl)) ?_
  simp only [Act.put, aa, ac, ae]
  refine af (v := .bool true) rfl (ai rfl (ev rfl)) ?_
  simp only [Act.put, aa, ac, ae]
  refine ag (ah rfl rfl rfl rfl) (ai rfl (ev rfl)) ?_
  simp only [Act.put, aa, ac, ae]
  refine ag (v := .bool true) (ah rfl rfl rfl rfl) (aq true rfl (ev rfl) evk rfl) ?_
  simp only [Act.put, aa, ac, ae]
  refine af (v := .bool true) rfl (ay rfl (ev rfl) (ev rfl)) ?_
  simp only [Act.put, aa, ac, ae]
  refine af (v := .bool true) rfl (ai rfl (ev rfl)) ?_
  simp only [Act.put, aa, ac, ae]
  refine ag (ah rfl rfl rfl rfl) (ai rfl (ev rfl)) ?_
  simp only [Act.put, aa, ac, ae]
  refine al (ah rfl rfl rfl rfl) (ao Tryz.call31 rfl (evc (ev rfl) evn)) ?_
  refine (HAt.state HA10.out).mono ?_
  rintro e w11 ⟨rfl, b11⟩
  have HA11 := Lib.hid (HAt.below HA10.out b11)
  clear b11
  rw [show stN (HuS.mk M4 9 2 lvR1).R = 2 from HST.out]
  refine ⟨_, rfl, ?_⟩
  simp only [Act.put, aa, ac, ae]
  refine ag (v := .bool true) (ah rfl rfl rfl rfl) (aq true rfl (ev rfl) evk rfl) ?_
  simp only [Act.put, aa, ac, ae]
  refine af (v := .bool true) rfl (ay rfl (ev rfl) (ev rfl)) ?_
  simp only [Act.put, aa, ac, ae]
  refine af (v := .bool true) rfl (ai rfl (ev rfl)) ?_
  simp only [Act.put, aa, ac, ae]
  refine ag (ah rfl rfl rfl rfl) (ai rfl (ev rfl)) ?_
  simp only [Act.put, aa, ac, ae]
  refine al (ah rfl rfl rfl rfl) (ao Tryz.call18 rfl (evc (ev rfl) evn)) ?_
  refine (HAt.event HA11.out).mono ?_
  rintro e w12 ⟨rfl, b12⟩
  have HA12 := Lib.hid (HAt.below HA11.out b12)
  clear b12
  refine ⟨_, rfl, ?_⟩
  simp only [Act.put, aa, ac, ae]
  refine ag (v := .bool true) (ah rfl rfl rfl rfl) (aq true rfl (ev rfl) evk rfl) ?_
  simp only [Act.put, aa, ac, ae]
  refine af (v := .bool true) rfl (ay rfl (ev rfl) (ev rfl)) ?_
  simp only [Act.put, aa, ac, ae]
  refine af (v := .bool true) rfl (ak rfl (ev rfl)) ?_
  simp only [Act.put, aa, ac, ae]
  refine wpList_nil ?_
  go_wp2_with fail
  go_ret
  exact ⟨rfl, HB1.out.trans (HA12.out.bel.mono HB1.out.size)⟩
end Go.Proofs.YtnliphgjcaippaaGreatDoor
